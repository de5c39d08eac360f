/-
  Contracts of the program's descents and of reversing a slice. Conditions: lengths below 2^40.
-/
import Derived.Test.YthmnaakaogpohaaImplD
namespace Go.Proofs.Ythmnaakaogpohaa
open Go.RowKit

theorem descL_fill {xs : List Int} (h : isPermP xs) : ∀ k, k + 1 ≤ xs.length → descL (fillA xs xs.length) k = descL xs k := by
  have h7 := h.2.1
  intro k
  induction k with
  | zero => intro _; rfl
  | succ k ih =>
    intro hk
    unfold descL
    rw [ih (by omega), fillA_lt (by omega) (by omega), fillA_lt (by omega) (by omega)]

set_option maxHeartbeats 2000000 in
theorem implDescents_any (A : Option Addr) (n c : Nat) (xs : List Int) (w : World) (hs : SI w A n xs) (hn : n ≤ 1099511627776) :
    Calls Try.prog 64 #[.slice A n c] w fun e w' => Fresh w w' e (descPerm xs) := by
  have hl := hs.1
  cases hu : isPermB xs with
  | false =>
    have HE := Lib.hid (descPerm_no hu)
    have HU := Lib.hid hu
    clear hu
    go_enter Try.func64, Try.ntmps64
    go_wp2_with fail
    refine (arrayOf_x c HU.out hs hn).mono ?_
    rintro e w1 ⟨l, rfl, -, hb1⟩
    go_wp2
    go_ret
    rw [HE.out]
    exact Fresh.nil_ret (hb1.alloc hb1.size _)
  | true =>
    have HE := Lib.hid (descPerm_yes hu)
    have HU := Lib.hid hu
    have hpos : 1 ≤ n := by have := (isPermB_P hu).1; omega
    have h7 : n ≤ 7 := by have := (isPermB_P hu).2.1; omega
    clear hu
    go_enter Try.func64, Try.ntmps64
    go_wp2_with fail
    refine (arrayOf_x c HU.out hs hn).mono ?_
    rintro e w1 ⟨l, rfl, hlf, hb1⟩
    have HF := Lib.hid (hlf rfl)
    have HL := Lib.hid hl
    clear hlf hl
    have hK := Blk.new w1 66 (arrC l)
    have hb2 : Below w.heap.size w (w1.alloc (.cells (arrC l) 66)) := hb1.alloc hb1.size _
    go_wp2
    obtain ⟨g, hg⟩ : ∃ g, g = w1.heap.size := ⟨_, rfl⟩
    rw [← hg] at hK ⊢
    generalize w1.alloc (.cells (arrC l) 66) = w2 at *
    have hgl := hK.lt
    clear hg
    go_loopw [5, 17] (fun v i wr => ∃ (k m : Nat) (A : Option Addr) (c : Nat), k + 1 ≤ n ∧ i = .int .i64 k ∧ v = .slice A m c ∧ Blk wr g 66 (arrC l) ∧ Own wr w2.heap.size wr.heap.size A m c (descL l k) ∧ Below w2.heap.size w2 wr)
      (fun _ i _ => n - (intOf i).toNat)
    case atStart => exact ⟨0, 0, none, 0, by omega, rfl, rfl, hK, Own.nil _ _ _, Below.refl _ _⟩
    case round =>
      obtain ⟨k, m, A0, c0, hk, rfl, rfl, hA, hown, hbel⟩ := hrel
      have hm : m ≤ 1099511627775 := by
        have h1 := hown.len
        have h2 := descL_len l k
        omega
      have HA := Lib.hid hA
      have HO := Lib.hid hown
      have HB := Lib.hid hbel
      clear hA hown hbel hK
      by_cases hlt : k + 1 < n
      · have hlI : (k : Int) < (n : Int) - 1 := by omega
        go_wp2_with (first | (refine wpList_load_blk rfl 66 (.tmp 3) rfl g rfl 66 (arrC l) 7 3 HA.out Try.undArr Try.infoArr ?_) | fail)
        refine (isDescent_any l k wr (by omega)).mono ?_
        rintro e w4 ⟨rfl, hb4⟩
        have HA4 := Lib.hid (HA.out.below hb4 HA.out.lt)
        have HO4 := Lib.hid ((HO.out.below hb4 (Nat.le_refl _)).wide (Nat.le_refl _) hb4.size)
        have HB4 := Lib.hid (HB.out.trans (hb4.mono HB.out.size))
        clear hb4
        by_cases hd : nth l (k + 1) < nth l k
        · have hdd : decide (nth l (k + 1) < nth l k) = true := by simpa using hd
          rw [hdd]
          have HD := Lib.hid hd
          clear hd hdd
          go_wp2_with (at_builtin; refine wpList_append1 rfl (.tmp 23) (.tmp 25) rfl w2.heap.size A0 m c0 (descL l k) (k : Int) rfl rfl HO4.out HB4.out.size (by omega) ?_; intro A' c' w5 ho5 _ hb5)
          go_roundw
          case rel => exact ⟨k + 1, _, _, _, by omega, by go_num, rfl, HA4.out.below hb5 hgl, by rw [descL_hit HD.out]; exact ho5, HB4.out.trans hb5⟩
          case measure => simp [intOf]; omega
        · have hdd : decide (nth l (k + 1) < nth l k) = false := by simpa using hd
          rw [hdd]
          have HD := Lib.hid hd
          clear hd hdd
          go_wp2
          go_roundw
          case rel => exact ⟨k + 1, _, _, _, by omega, by go_num, rfl, HA4.out, by rw [descL_miss (by have := HD.out; omega)]; exact HO4.out, HB4.out⟩
          case measure => simp [intOf]; omega
      · have hkn : n = k + 1 := by omega
        subst hkn
        go_wp2
        go_ret
        have e1 := HF.out
        have e2 := HL.out
        have e3 := descL_fill (isPermB_P HU.out) k (by omega)
        have ho := HO.out
        rw [e2] at e3
        rw [e1, e3] at ho
        rw [HE.out, e2, Nat.add_sub_cancel]
        exact Fresh.after hb2 ⟨A0, _, c0, rfl, ho, HB.out⟩

/-- Reversing, k places exchanged from both ends. -/
def revM (xs : List Int) (n k : Nat) : List Int := (List.range n).map fun t => if t < k ∨ n ≤ t + k then nth xs (n - 1 - t) else nth xs t
theorem revM_len (xs : List Int) (n k : Nat) : (revM xs n k).length = n := by simp [revM]
theorem revM_nth (xs : List Int) (n k t : Nat) (h : t < n) : nth (revM xs n k) t = if t < k ∨ n ≤ t + k then nth xs (n - 1 - t) else nth xs t := by
  rw [nth_get (by rw [revM_len]; exact h)]; simp [revM]
theorem revM_zero (xs : List Int) : revM xs xs.length 0 = xs := by
  apply List.ext_getElem (by simp [revM])
  intro j h1 h2
  simp only [revM, List.getElem_map, List.getElem_range]
  rw [if_neg (by omega), nth_get h2]
theorem revM_done (xs : List Int) (k : Nat) (h : xs.length ≤ 2 * k + 1) : revM xs xs.length k = xs.reverse := by
  apply List.ext_getElem (by simp [revM])
  intro j h1 h2
  have hj : j < xs.length := by rw [revM_len] at h1; exact h1
  simp only [revM, List.getElem_map, List.getElem_range, List.getElem_reverse]
  split
  · rw [nth_get (by omega)]
  · rename_i hc
    have e : xs.length - 1 - j = j := by omega
    simp only [e]
    rw [nth_get hj]
theorem revM_step (xs : List Int) (n k : Nat) (h : 2 * k + 1 < n) :
    ((revM xs n k).set k (nth xs (n - 1 - k))).set (n - 1 - k) (nth xs k) = revM xs n (k + 1) := by
  apply List.ext_getElem (by simp [revM])
  intro j h1 h2
  have hj : j < n := by rw [revM_len] at h2; exact h2
  rw [List.getElem_set]
  simp only [revM, List.getElem_map, List.getElem_range]
  by_cases e : n - 1 - k = j
  · rw [if_pos e, if_pos (by omega)]
    rw [show n - 1 - j = k from by omega]
  · rw [if_neg e, List.getElem_set]
    simp only [List.getElem_map, List.getElem_range]
    by_cases e2 : k = j
    · rw [if_pos e2, if_pos (by omega), e2]
    · rw [if_neg e2]
      by_cases h3 : j < k ∨ n ≤ j + k
      · rw [if_pos h3, if_pos (by omega)]
      · rw [if_neg h3, if_neg (by omega)]

set_option maxHeartbeats 2000000 in
/-- slices.Reverse on a slice of the call's own. -/
theorem reverse_own (g n c lo hi : Nat) (xs : List Int) (w : World) (hs : Own w lo hi (some ⟨g, 0, none⟩) n c xs) (h1 : 1 ≤ n) (hn : n ≤ 1099511627776) :
    Calls Try.prog 77 #[.slice (some ⟨g, 0, none⟩) n c] w fun e w' => e = .returned (.tuple #[]) ∧ Own w' lo hi (some ⟨g, 0, none⟩) n c xs.reverse ∧ w.heap.size = w'.heap.size ∧ Below lo w w' := by
  have HLn := Lib.hid hs.len
  have hlo : lo ≤ g := (hs.lt g rfl).1
  go_enter Try.func77, Try.ntmps77
  go_wp2
  go_loopw [2, 3] (fun i j wr => ∃ k j0 : Nat, 2 * k ≤ n ∧ j0 + k + 1 = n ∧ i = .int .i64 k ∧ j = .int .i64 j0 ∧ Own wr lo hi (some ⟨g, 0, none⟩) n c (revM xs n k) ∧ w.heap.size = wr.heap.size ∧ Below lo w wr)
    (fun i _ _ => n - (intOf i).toNat)
  case atStart => exact ⟨0, n - 1, by omega, by omega, rfl, by go_num, by rw [← HLn.out, revM_zero, HLn.out]; exact hs, rfl, Below.refl _ _⟩
  case round =>
    obtain ⟨k, j, hk, hj, rfl, rfl, hown, hsz, hbel⟩ := hrel
    have HO := Lib.hid hown
    have HB := Lib.hid hbel
    have HZ := Lib.hid hsz
    have HJ := Lib.hid hj
    clear hown hbel hs hsz hj
    by_cases hlt : k < j
    · have hck := HO.out.cellAt (k := k) (by have := HJ.out; omega)
      have hcj := HO.out.cellAt (k := j) (by have := HJ.out; omega)
      rw [revM_nth _ _ _ _ (by have := HJ.out; omega), if_neg (by have := HJ.out; omega)] at hck
      rw [revM_nth _ _ _ _ (by have := HJ.out; omega), if_neg (by have := HJ.out; omega)] at hcj
      have hfk := HO.out.frozenAt k
      have hfj := HO.out.frozenAt j
      obtain ⟨x, hx⟩ : ∃ x, x = nth xs k := ⟨_, rfl⟩
      obtain ⟨y, hy⟩ : ∃ y, y = nth xs j := ⟨_, rfl⟩
      rw [← hx] at hck
      rw [← hy] at hcj
      have HX := Lib.hid hx
      have HY := Lib.hid hy
      clear hx hy
      have hlI : (k : Int) < (j : Int) := by omega
      have hkI : (k : Int) < (n : Int) := by have := HJ.out; omega
      have hjI : (j : Int) < (n : Int) := by have := HJ.out; omega
      have hne : ¬ k = j := by omega
      have hne' : ¬ j = k := by omega
      have hs1 := (HO.out.set_ (k := k) y).1
      have hs2 := (hs1.set_ (k := j) x).1
      have HS := Lib.hid hs2
      have hcj2 : (wr.setCell ⟨g, k, none⟩ (.int .i64 y)).cell? ⟨g, j, none⟩ = some (.int .i64 y) := (World.cell?_setCell_other wr _ _ _ (by intro e; injection e with _ e2; exact hne e2)).trans hcj
      have hfj2 : (wr.setCell ⟨g, k, none⟩ (.int .i64 y)).frozen? ⟨g, j, none⟩ = false := hs1.frozenAt j
      clear hs1 hs2
      go_wp2
      go_region
      go_wp2
      go_roundw
      case rel =>
        have e1 := HX.out
        have e2 := HY.out
        have e3 := HJ.out
        have e4 := HZ.out
        refine ⟨k + 1, j - 1, by omega, by omega, by go_num, by go_num, ?_, by simpa using e4, ?_⟩
        · rw [← revM_step xs n k (by omega), show n - 1 - k = j from by omega, ← e1, ← e2]
          exact HS.out
        · exact ((HB.out.setCell hlo _).setCell hlo _).drew
      case measure => have := HJ.out; simp [intOf]; omega
    · go_wp2
      go_returns
      refine ⟨rfl, ?_, HZ.out, HB.out⟩
      have := HO.out
      rw [← HLn.out, revM_done xs k (by have := HLn.out; have := HJ.out; omega), HLn.out] at this
      exact this

theorem reverse_empty (A : Option Addr) (c : Nat) (w : World) :
    Calls Try.prog 77 #[.slice A 0 c] w fun e w' => e = .returned (.tuple #[]) ∧ w = w' := by
  go_enter Try.func77, Try.ntmps77
  go_wp2
  refine wp_loop_rounds 1 ?_
  rw [rounds_succ]
  go_wp2
  go_returns
  exact ⟨rfl, rfl⟩
theorem idL_reverse (n : Nat) : (idL n).reverse = downL n n := by
  apply List.ext_getElem (by simp [idL, downL])
  intro j h1 h2
  simp only [List.getElem_reverse, idL, downL, List.getElem_map, List.getElem_range, List.length_map, List.length_range]
  have : j < n := by simpa [idL] using h1
  omega

set_option maxHeartbeats 1000000 in
theorem implLongest_in (n : Nat) (w : World) (h1 : 1 ≤ n) (h7 : n ≤ 7) :
    Calls Try.prog 32 #[.int .i64 n] w fun e w' => Fresh w w' e (downL n n) := by
  go_enter Try.func32, Try.ntmps32
  go_wp2_with fail
  refine (implIdentity_in n _ h1 h7).mono ?_
  rintro e w1 ⟨A1, n1, c1, rfl, ho1, hb1⟩
  have en : n1 = n := by have := ho1.len; rw [idL_len] at this; omega
  subst en
  obtain ⟨g, rfl, hg1, hg2⟩ := ho1.place (by omega)
  have HB := Lib.hid hb1
  clear hb1
  go_wp2_with fail
  refine (reverse_own g n1 c1 _ _ _ _ ho1 h1 (by omega)).mono ?_
  rintro e w2 ⟨rfl, ho2, hz2, hb2⟩
  have HO := Lib.hid ho2
  have HZ := Lib.hid hz2
  have HB2 := Lib.hid hb2
  clear ho1 ho2 hz2 hb2
  go_wp2
  go_ret
  have ho := HO.out
  rw [idL_reverse] at ho
  exact ⟨_, _, _, rfl, ho.wide (Nat.le_refl _) (by have := HZ.out; omega), HB.out.trans HB2.out⟩
theorem implLongest_any (a : Int) (w : World) : Calls Try.prog 32 #[.int .i64 a] w fun e w' => Fresh w w' e (longPerm a) := by
  unfold longPerm
  split
  · rename_i h
    have e : a = ((a.toNat : Nat) : Int) := by omega
    have := implLongest_in a.toNat w (by omega) (by omega)
    rwa [← e] at this
  · rename_i h
    go_enter Try.func32, Try.ntmps32
    go_wp2_with fail
    refine (implIdentity_out a _ (by omega)).mono ?_
    rintro e w1 ⟨A1, n1, c1, rfl, ho1, hb1⟩
    have en : n1 = 0 := by have := ho1.len; simpa using this.symm
    subst en
    have HB := Lib.hid hb1
    have HO := Lib.hid ho1
    clear ho1 hb1
    go_wp2_with fail
    refine (reverse_empty A1 c1 _).mono ?_
    rintro e w2 ⟨rfl, rfl⟩
    go_wp2
    go_ret
    exact ⟨_, _, _, rfl, HO.out, HB.out⟩
end Go.Proofs.Ythmnaakaogpohaa
