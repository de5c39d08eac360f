/-
  Contracts of the program's functions on arrays: products, inverses; reversing a slice. Conditions: lengths below 2^40.
-/
import Derived.Test.YthmnaakaogpohaaImplA
namespace Go.Proofs.Ythmnaakaogpohaa
open Go.RowKit

theorem idxArr (l : List Int) (k : Nat) (h : k < 7) (w : World) : (Instr.index 66 (.agg (arrC l)) (.int .i64 k)).run Try.prog w = .ok (.int .i64 (nth l k)) w := by
  rcases lt7 h with rfl | rfl | rfl | rfl | rfl | rfl | rfl <;> kernel_rfl

def part7 (g h : Nat → Int) (k : Nat) : List Int := (List.range 7).map fun j => if j < k then g j else h j
theorem part7_len (g h : Nat → Int) (k : Nat) : (part7 g h k).length = 7 := by simp [part7]
theorem part7_nth (g h : Nat → Int) (k j : Nat) (hj : j < 7) : nth (part7 g h k) j = if j < k then g j else h j := by
  rw [nth_get (by rw [part7_len]; exact hj)]
  simp [part7]
theorem part7_set (g h : Nat → Int) (k : Nat) (hk : k < 7) : (arrC (part7 g h k)).setIfInBounds k (.int .i64 (g k)) = arrC (part7 g h (k + 1)) := by
  rw [arrC_set _ k hk _ (part7_len _ _ _)]
  congr 1
  apply List.ext_getElem (by simp [part7])
  intro j h1 h2
  rw [List.getElem_set]
  simp only [part7, List.getElem_map, List.getElem_range]
  by_cases e : k = j
  · subst e; simp
  · rw [if_neg e]
    by_cases h3 : j < k
    · rw [if_pos h3, if_pos (by omega)]
    · rw [if_neg h3, if_neg (by omega)]

/-- The product of two arrays. -/
def permTimesL (la lb : List Int) : List Int := part7 (fun j => nth la (nth lb j).toNat) (fun _ => 0) 7

set_option maxHeartbeats 1000000 in
theorem times_any (la lb : List Int) (w : World) (hr : ∀ k, k < 7 → 0 ≤ nth lb k ∧ nth lb k < 7) :
    Calls Try.prog 78 #[arr la, arr lb] w fun e w' => e = .returned (arr (permTimesL la lb)) ∧ Below w.heap.size w w' := by
  have HR := Lib.hid hr
  clear hr
  obtain ⟨g, hg⟩ : ∃ g : Nat → Int, g = fun j => nth la (nth lb j).toNat := ⟨_, rfl⟩
  have HGd := Lib.hid hg
  clear hg
  go_enter Try.func78, Try.ntmps78
  go_wp2
  obtain ⟨w0, hw0⟩ : ∃ w0 : World, w0 = w.alloc (.cells (arrC la) 66) := ⟨_, rfl⟩
  go_loopw [9] (fun i wr => ∃ k : Nat, k ≤ 7 ∧ i = .int .i64 k ∧ Blk wr w.heap.size 66 (arrC la) ∧ Blk wr (w.heap.size + 2) 66 zeroC ∧ Blk wr (w.heap.size + 3) 66 (arrC (part7 g (fun _ => 0) k)) ∧ Below w.heap.size w wr)
    (fun i _ => 7 - (intOf i).toNat)
  case atStart =>
    refine ⟨0, by omega, rfl, ?_, ?_, ?_, by go_grown⟩
    · exact (((Blk.new w _ _).alloc _).alloc _).alloc _
    · have := ((Blk.new ((w.alloc (.cells (arrC la) 66)).alloc (.cells (arrC lb) 66)) 66 zeroC).alloc (.cells zeroC 66))
      simpa using this
    · have := (Blk.new (((w.alloc (.cells (arrC la) 66)).alloc (.cells (arrC lb) 66)).alloc (.cells zeroC 66)) 66 (arrC (part7 g (fun _ => 0) 0)))
      simp only [World.size_alloc] at this
      exact this
  case round =>
    obtain ⟨k, hk, rfl, hA, hZ, hP, hB⟩ := hrel
    have HA := Lib.hid hA
    have HZ := Lib.hid hZ
    have HP := Lib.hid hP
    have HB := Lib.hid hB
    clear hA hZ hP hB hw0 w0
    by_cases hlt : k < 7
    · have hix := fun wx => idxArr lb k hlt wx
      obtain ⟨hr0, hr1⟩ := HR.out k hlt
      obtain ⟨x, hx⟩ : ∃ x, x = nth lb k := ⟨_, rfl⟩
      rw [← hx] at hix hr0 hr1
      have HX := Lib.hid hx
      clear hx
      have hcA : wr.cell? ⟨w.heap.size, x.toNat, none⟩ = some (.int .i64 (nth la x.toNat)) := (HA.out.cell _).trans (arrC_get la _ (by omega))
      obtain ⟨y, hy⟩ : ∃ y, y = nth la x.toNat := ⟨_, rfl⟩
      rw [← hy] at hcA
      have HY := Lib.hid hy
      clear hy
      have hcP : wr.cell? ⟨w.heap.size + 3, k, none⟩ = some (.int .i64 (nth (part7 g (fun _ => 0) k) k)) := (HP.out.cell _).trans (arrC_get _ k hlt)
      have hfP := HP.out.frozen k
      go_wp2
      go_roundw
      case rel =>
        have e1 := HX.out
        have e2 := HY.out
        refine ⟨k + 1, by omega, by go_num, HA.out.far (by show w.heap.size ≠ w.heap.size + 3; omega) _, HZ.out.far (by show w.heap.size + 2 ≠ w.heap.size + 3; omega) _, ?_, HB.out.setCell (by show w.heap.size ≤ w.heap.size + 3; omega) _⟩
        have := HP.out.set_ k (.int .i64 (g k))
        rw [part7_set g _ k hlt] at this
        have eg : g k = y := by rw [HGd.out, e2, e1]
        rw [eg] at this
        exact this
      case measure => simp [intOf]; omega
    · have hkn : k = 7 := by omega
      subst hkn
      go_wp2_with (first | (refine wpList_load_blk rfl 66 (.tmp 5) rfl (w.heap.size + 3) rfl 66 (arrC (part7 g (fun _ => 0) 7)) 7 3 HP.out Try.undArr Try.infoArr ?_) | (refine wpList_store_blk rfl 66 (.tmp 4) (.tmp 19) rfl (w.heap.size + 2) (arrC (part7 g (fun _ => 0) 7)) rfl rfl 66 zeroC HZ.out Try.infoArr rfl (arrC_one _) ?_; intro w3 hR3 hg3))
      refine bodyPost_ret (results_blk Try.results78 _ _ _ _ _ 7 3 rfl hR3 Try.undArr Try.infoArr) rfl ?_
      have eg := HGd.out
      subst eg
      exact ⟨rfl, HB.out.grown hg3 HB.out.size (by rintro _ ⟨⟩; omega)⟩

set_option maxHeartbeats 1000000 in
theorem inverse_any (l : List Int) (w : World) (hr : ∀ k, k < 7 → 0 ≤ nth l k ∧ nth l k < 7) :
    Calls Try.prog 62 #[arr l] w fun e w' => e = .returned (arr (invM l 7 7)) ∧ Below w.heap.size w w' := by
  have HR := Lib.hid hr
  clear hr
  go_enter Try.func62, Try.ntmps62
  go_wp2
  go_loopw [7] (fun i wr => ∃ k : Nat, k ≤ 7 ∧ i = .int .i64 k ∧ Blk wr (w.heap.size + 1) 66 zeroC ∧ Blk wr (w.heap.size + 2) 66 (arrC (invM l 7 k)) ∧ Below w.heap.size w wr)
    (fun i _ => 7 - (intOf i).toNat)
  case atStart =>
    refine ⟨0, by omega, rfl, ?_, ?_, by go_grown⟩
    · have := ((Blk.new ((w.alloc (.cells (arrC l) 66))) 66 zeroC).alloc (.cells zeroC 66))
      simp only [World.size_alloc] at this
      exact this
    · have := (Blk.new (((w.alloc (.cells (arrC l) 66)).alloc (.cells zeroC 66))) 66 (arrC (invM l 7 0)))
      simp only [World.size_alloc] at this
      exact this
  case round =>
    obtain ⟨k, hk, rfl, hZ, hP, hB⟩ := hrel
    have HZ := Lib.hid hZ
    have HP := Lib.hid hP
    have HB := Lib.hid hB
    clear hZ hP hB
    by_cases hlt : k < 7
    · have hix := fun wx => idxArr l k hlt wx
      obtain ⟨hr0, hr1⟩ := HR.out k hlt
      obtain ⟨x, hx⟩ : ∃ x, x = nth l k := ⟨_, rfl⟩
      rw [← hx] at hix hr0 hr1
      have HX := Lib.hid hx
      clear hx
      have hcP : wr.cell? ⟨w.heap.size + 2, x.toNat, none⟩ = some (.int .i64 (nth (invM l 7 k) x.toNat)) := (HP.out.cell _).trans (arrC_get _ _ (by omega))
      have hfP := HP.out.frozen x.toNat
      go_wp2
      go_roundw
      case rel =>
        have e1 := HX.out
        refine ⟨k + 1, by omega, by go_num, HZ.out.far (by show w.heap.size + 1 ≠ w.heap.size + 2; omega) _, ?_, HB.out.setCell (by show w.heap.size ≤ w.heap.size + 2; omega) _⟩
        have := HP.out.set_ x.toNat (.int .i64 (k : Int))
        rw [arrC_set _ _ (by omega) _ (invM_len _ _ _)] at this
        rw [invM_succ, ← e1]
        exact this
      case measure => simp [intOf]; omega
    · have hkn : k = 7 := by omega
      subst hkn
      go_wp2_with (first | (refine wpList_load_blk rfl 66 (.tmp 3) rfl (w.heap.size + 2) rfl 66 (arrC (invM l 7 7)) 7 3 HP.out Try.undArr Try.infoArr ?_) | (refine wpList_store_blk rfl 66 (.tmp 2) (.tmp 15) rfl (w.heap.size + 1) (arrC (invM l 7 7)) rfl rfl 66 zeroC HZ.out Try.infoArr rfl (arrC_one _) ?_; intro w3 hR3 hg3))
      refine bodyPost_ret (results_blk Try.results62 _ _ _ _ _ 7 3 rfl hR3 Try.undArr Try.infoArr) rfl ?_
      exact ⟨rfl, HB.out.grown hg3 HB.out.size (by rintro _ ⟨⟩; omega)⟩

/-! Plain facts on the array of a permutation. -/
theorem fillA_range {xs : List Int} (h : isPermP xs) (k : Nat) (hk : k < 7) : 0 ≤ nth (fillA xs xs.length) k ∧ nth (fillA xs xs.length) k < 7 := by
  have h7 := h.2.1
  rw [fillA_nth _ _ _ hk]
  split
  · rename_i hlt
    have := h.range k hlt
    omega
  · omega
theorem fillA_ge {xs : List Int} {n k : Nat} (h : ¬ k < n) (hk : k < 7) : nth (fillA xs n) k = (k : Int) := by rw [fillA_nth _ _ _ hk, if_neg h]
theorem fillA_lt {xs : List Int} {n k : Nat} (h : k < n) (hk : k < 7) : nth (fillA xs n) k = nth xs k := by rw [fillA_nth _ _ _ hk, if_pos h]

theorem permTimesL_take {us vs : List Int} (_hu : isPermP us) (hv : isPermP vs) (hl : us.length = vs.length) : (permTimesL (fillA us us.length) (fillA vs vs.length)).take vs.length = compL us vs vs.length := by
  have h7 := hv.2.1
  apply List.ext_getElem
  · rw [List.length_take, compL_len]; simp [permTimesL, part7]; omega
  · intro j h1 h2
    have hj : j < vs.length := by rw [compL_len] at h2; exact h2
    have hr := hv.range j hj
    rw [List.getElem_take]
    simp only [permTimesL, part7, compL, List.getElem_map, List.getElem_range]
    rw [if_pos (by omega), fillA_lt hj (by omega), fillA_lt (by omega) (by omega)]

theorem invM_take {xs : List Int} (h : isPermP xs) : (invM (fillA xs xs.length) 7 7).take xs.length = invM xs xs.length xs.length := by
  have h7 := h.2.1
  have key : ∀ k, k ≤ xs.length → (invM (fillA xs xs.length) 7 k).take xs.length = invM xs xs.length k := by
    intro k
    induction k with
    | zero =>
      intro _
      show (List.replicate 7 (0 : Int)).take xs.length = List.replicate xs.length 0
      rw [List.take_replicate, Nat.min_eq_left h7]
    | succ k ih =>
      intro hk
      have hr := h.range k (by omega)
      rw [invM_succ, invM_succ, ← ih (by omega), fillA_lt (by omega) (by omega), List.take_set]
  have key2 : ∀ d, xs.length + d ≤ 7 → (invM (fillA xs xs.length) 7 (xs.length + d)).take xs.length = invM xs xs.length xs.length := by
    intro d
    induction d with
    | zero => intro _; exact key _ (Nat.le_refl _)
    | succ d ih =>
      intro hd
      rw [show xs.length + (d + 1) = (xs.length + d) + 1 from by omega, invM_succ, fillA_ge (by omega) (by omega), List.take_set]
      rw [List.set_eq_of_length_le (by simp [invM_len]; omega)]
      exact ih (by omega)
  have := key2 (7 - xs.length) (by omega)
  rwa [show xs.length + (7 - xs.length) = 7 from by omega] at this
end Go.Proofs.Ythmnaakaogpohaa
