/-
  All shapes in the boxes of at most six, listed: plain facts that the kernel reckons over the list.
-/
import Derived.Test.YtbjnjccolapehaaShU
import Derived.Test.YtbjnjccolapehaaStrM
import Derived.Test.YtbjnjccolapehaaGrass
import Derived.Test.YtbjnjccolapehaaDual
namespace Go.Proofs.Ytbjnjccolapehaa
open Go.RowKit

theorem box_shP {xs : List Int} {k m : Nat} (h : boxP xs (k : Int) (m : Int)) : shP ((m - k : Nat) : Int) xs := fun j hj => by
  have h1 := h.2.2.2.2.1.2 j hj
  have h2 := h.2.2.2.2.2.2
  have h3 := h.2.2.2.1
  refine ⟨h1.1, ?_⟩
  cases j with
  | zero => have e : prevD ((m - k : Nat) : Int) xs 0 = ((m - k : Nat) : Int) := rfl
            omega
  | succ j => exact h1.2
theorem shP_box {xs : List Int} {k m : Nat} (hm : 1 ≤ m) (hm7 : m ≤ 7) (hk : k ≤ m) (h : shP ((m - k : Nat) : Int) xs) (hl : xs.length ≤ k) : boxP xs (k : Int) (m : Int) := by
  refine ⟨by omega, by omega, by omega, by omega, ⟨by omega, fun j hj => ?_⟩, by omega, ?_⟩
  · have h1 := h j hj
    refine ⟨h1.1, ?_⟩
    cases j with
    | zero =>
      have e : prevD ((m - k : Nat) : Int) xs 0 = ((m - k : Nat) : Int) := rfl
      have e2 : prevS xs 0 = 16 := rfl
      omega
    | succ j => exact h1.2
  · by_cases h0 : 0 < xs.length
    · have h1 := (h 0 h0).2
      have e : prevD ((m - k : Nat) : Int) xs 0 = ((m - k : Nat) : Int) := rfl
      omega
    · rw [nth_out (by omega)]; omega
/-- What is asked of each. -/
def bxB (k m : Nat) (xs : List Int) : Bool :=
  grassB (graPerm xs k m) && decide (lenPerm (graPerm xs k m) = sumN xs xs.length) && strB (strOf xs k m) && decide (sosK (strOf xs k m) = (k : Int)) && decide (sosS (strOf xs k m) = xs) &&
    decide (conjShape (conjShape xs) = xs) && decide (sopOk (graPerm xs k m) = decide (0 < xs.length)) && (decide (xs.length = 0) || (decide (sopK (graPerm xs k m) = (k : Int)) && decide (sopS (graPerm xs k m) = xs))) &&
    decide ((graPerm xs k m).length ≤ 14) && decide ((conjShape xs).length ≤ 16)
set_option maxRecDepth 100000 in
theorem bxB_all : ((List.range 7).all fun m => (List.range (m + 1)).all fun k => decide (m < 2) || (shapesU k (m - k)).all (bxB k m)) = true := by decide +kernel
theorem boxed {xs : List Int} {k m : Nat} (h : boxP xs (k : Int) (m : Int)) (h2 : 2 ≤ m) (h6 : m ≤ 6) : bxB k m xs = true := by
  have h1 := bxB_all
  rw [List.all_eq_true] at h1
  have h3 := h1 m (List.mem_range.2 (by omega))
  rw [List.all_eq_true] at h3
  have hk := h.2.2.2.1
  have h4 := h3 k (List.mem_range.2 (by omega))
  rw [decide_eq_false (by omega : ¬ m < 2), Bool.false_or, List.all_eq_true] at h4
  exact h4 xs (shapesU_all k (m - k) xs (by have := h.2.2.2.2.2.1; omega) (box_shP h))
/-- What the law asks. -/
structure BxF (xs : List Int) (k m : Nat) : Prop where
  gra : grassB (graPerm xs k m) = true
  len : lenPerm (graPerm xs k m) = sumN xs xs.length
  str : strB (strOf xs k m) = true
  ones : sosK (strOf xs k m) = (k : Int)
  shp : sosS (strOf xs k m) = xs
  twice : conjShape (conjShape xs) = xs
  ok : sopOk (graPerm xs k m) = decide (0 < xs.length)
  rest : xs.length = 0 ∨ (sopK (graPerm xs k m) = (k : Int) ∧ sopS (graPerm xs k m) = xs)
  short : (graPerm xs k m).length ≤ 14
  cols : (conjShape xs).length ≤ 16
theorem boxed_facts {xs : List Int} {k m : Nat} (h : boxP xs (k : Int) (m : Int)) (h2 : 2 ≤ m) (h6 : m ≤ 6) : BxF xs k m := by
  have h1 := boxed h h2 h6
  simp only [bxB, Bool.and_eq_true, Bool.or_eq_true, decide_eq_true_eq] at h1
  obtain ⟨⟨⟨⟨⟨⟨⟨⟨⟨a1, a2⟩, a3⟩, a4⟩, a5⟩, a6⟩, a7⟩, a8⟩, a9⟩, a10⟩ := h1
  exact ⟨a1, a2, a3, a4, a5, a6, a7, a8, a9, a10⟩
end Go.Proofs.Ytbjnjccolapehaa
