/-
  Contracts of words and of what comes of them: the program's side. Conditions: lengths below 2^40.
-/
import Derived.Test.YtjlpplghdhjdfaaSpecG
import Derived.Test.YtjlpplghdhjdfaaImplD
namespace Go.Proofs.Ytjlpplghdhjdfaa
open Go.RowKit

set_option maxHeartbeats 2000000 in
theorem exchanged_any (l : List Int) (i j : Nat) (w : World) (hi : i < 7) (hj : j < 7) (hij : i ≠ j) (hl : l.length = 7) :
    Calls Try.prog 48 #[arr l, .int .i64 i, .int .i64 j] w fun e w' => e = .returned (arr (swapL l i j)) ∧ Below w.heap.size w w' := by
  have HL := Lib.hid hl
  clear hl
  obtain ⟨w1, hw1⟩ : ∃ w1 : World, w1 = (w.alloc (.cells (arrC l) 53)).alloc (.cells zeroC 53) := ⟨_, rfl⟩
  have hA : Blk w1 w.heap.size 53 (arrC l) := by rw [hw1]; exact (Blk.new w _ _).alloc _
  have hZ : Blk w1 (w.heap.size + 1) 53 zeroC := by
    rw [hw1]
    have := Blk.new (w.alloc (.cells (arrC l) 53)) 53 zeroC
    simp only [World.size_alloc] at this
    exact this
  have hB : Below w.heap.size w w1 := by rw [hw1]; exact ((Below.alloc_self _ _).alloc (by simp) _)
  have HA := Lib.hid hA
  have HZ := Lib.hid hZ
  have HB := Lib.hid hB
  have HW := Lib.hid hw1
  clear hA hZ hB hw1
  have hci := (HA.out.cell i).trans (arrC_get l i hi)
  have hcj := (HA.out.cell j).trans (arrC_get l j hj)
  have hfi := HA.out.frozen i
  obtain ⟨x, hx⟩ : ∃ x, x = nth l i := ⟨_, rfl⟩
  obtain ⟨y, hy⟩ : ∃ y, y = nth l j := ⟨_, rfl⟩
  rw [← hx] at hci
  rw [← hy] at hcj
  have HX := Lib.hid hx
  have HY := Lib.hid hy
  clear hx hy
  have h1 := HA.out.set_ i (.int .i64 y)
  have hcj2 : (w1.setCell ⟨w.heap.size, i, none⟩ (.int .i64 y)).cell? ⟨w.heap.size, j, none⟩ = some (.int .i64 y) := (World.cell?_setCell_other w1 _ _ _ (by intro e; injection e with _ e2; exact hij e2)).trans hcj
  have hfj2 := h1.frozen j
  have h2 := h1.set_ j (.int .i64 x)
  have hz2 := (HZ.out.far (p := ⟨w.heap.size, i, none⟩) (by show w.heap.size + 1 ≠ w.heap.size; omega) (.int .i64 y)).far (p := ⟨w.heap.size, j, none⟩) (by show w.heap.size + 1 ≠ w.heap.size; omega) (.int .i64 x)
  have hb2 := (HB.out.setCell (p := ⟨w.heap.size, i, none⟩) (Nat.le_refl _) (.int .i64 y)).setCell (p := ⟨w.heap.size, j, none⟩) (Nat.le_refl _) (.int .i64 x)
  have HS := Lib.hid h2
  have HZ2 := Lib.hid hz2
  have HB2 := Lib.hid hb2
  clear h1 h2 hz2 hb2
  have hiI : (i : Int) < 7 := by omega
  have hjI : (j : Int) < 7 := by omega
  have hij' : ¬ j = i := fun e => hij e.symm
  go_enter Try.func48, Try.ntmps48
  go_wp2
  rw [← HW.out]
  go_region
  have HS3 : Hid (Blk ((w1.setCell ⟨w.heap.size, i, none⟩ (.int .i64 y)).setCell ⟨w.heap.size, j, none⟩ (.int .i64 x)).drew w.heap.size 53 (arrC (swapL l i j))) := Lib.hid (by
    have := HS.out
    rw [arrC_set l i hi y HL.out, arrC_set _ j hj x (by simp [HL.out])] at this
    have e1 := HX.out
    have e2 := HY.out
    unfold swapL
    rw [← e1, ← e2]
    exact this)
  go_wp2_with (first | (refine wpList_load_blk rfl 53 (.tmp 3) rfl w.heap.size rfl 53 (arrC (swapL l i j)) 7 3 HS3.out Try.undArr Try.infoArr ?_) | (refine wpList_store_blk rfl 53 (.tmp 6) (.tmp 17) rfl (w.heap.size + 1) (arrC (swapL l i j)) rfl rfl 53 zeroC HZ2.out Try.infoArr rfl (arrC_one _) ?_; intro w3 hR3 hg3))
  refine bodyPost_ret (results_blk Try.results48 _ _ _ _ _ 7 3 rfl hR3 Try.undArr Try.infoArr) rfl ?_
  exact ⟨rfl, HB2.out.drew.grown hg3 HB2.out.size (by rintro _ ⟨⟩; omega)⟩

theorem swapL_nth {l : List Int} {i j t : Nat} (hi : i < l.length) (hj : j < l.length) (ht : t < l.length) : nth (swapL l i j) t = if t = j then nth l i else if t = i then nth l j else nth l t := by
  rw [nth_get (by rw [swapL_len]; exact ht)]
  unfold swapL
  rw [List.getElem_set]
  by_cases h1 : j = t
  · rw [if_pos h1, if_pos h1.symm]
  · rw [if_neg h1, if_neg (fun h => h1 h.symm), List.getElem_set]
    by_cases h2 : i = t
    · rw [if_pos h2, if_pos h2.symm]
    · rw [if_neg h2, if_neg (fun h => h2 h.symm), nth_get ht]
/-- The numbers of an array stay apart. -/
def Apart7 (l : List Int) : Prop := ∀ s t, s < 7 → t < 7 → nth l s = nth l t → s = t
theorem Apart7.swap {l : List Int} {i j : Nat} (h : Apart7 l) (hl : l.length = 7) (hi : i < 7) (hj : j < 7) : Apart7 (swapL l i j) := by
  intro s t hs ht e
  rw [swapL_nth (by omega) (by omega) (by omega), swapL_nth (by omega) (by omega) (by omega)] at e
  by_cases s1 : s = j
  · rw [if_pos s1] at e
    by_cases t1 : t = j
    · omega
    · rw [if_neg t1] at e
      by_cases t2 : t = i
      · rw [if_pos t2] at e; have := h _ _ hi hj e; omega
      · rw [if_neg t2] at e; have := h _ _ hi ht e; omega
  · rw [if_neg s1] at e
    by_cases s2 : s = i
    · rw [if_pos s2] at e
      by_cases t1 : t = j
      · rw [if_pos t1] at e; have := h _ _ hj hi e; omega
      · rw [if_neg t1] at e
        by_cases t2 : t = i
        · omega
        · rw [if_neg t2] at e; have := h _ _ hj ht e; omega
    · rw [if_neg s2] at e
      by_cases t1 : t = j
      · rw [if_pos t1] at e; have := h _ _ hs hi e; omega
      · rw [if_neg t1] at e
        by_cases t2 : t = i
        · rw [if_pos t2] at e; have := h _ _ hs hj e; omega
        · rw [if_neg t2] at e; exact h _ _ hs ht e
theorem idL_apart : Apart7 (idL 7) := by
  intro s t hs ht e
  rw [nth_get (by rw [idL_len]; exact hs), nth_get (by rw [idL_len]; exact ht)] at e
  simp only [idL, List.getElem_map, List.getElem_range] at e
  omega
theorem playL_apart (ws : List Int) (all : Bool) (hr : ∀ k, k < ws.length → (nth ws k).toNat + 1 < 7) : ∀ k, k ≤ ws.length → Apart7 (playL ws all k) := by
  intro k
  induction k with
  | zero => intro _; exact idL_apart
  | succ k ih =>
    intro hk
    unfold playL
    have := hr k (by omega)
    split
    · exact (ih (by omega)).swap (playL_len _ _ _) (by omega) (by omega)
    · exact ih (by omega)

end Go.Proofs.Ytjlpplghdhjdfaa
