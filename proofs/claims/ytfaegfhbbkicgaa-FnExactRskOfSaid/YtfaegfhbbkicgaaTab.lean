/-
  What a tableau is: the tests of both sides. Conditions: lengths below 2^40.
-/
import Derived.Test.YtfaegfhbbkicgaaLsHelp
import Derived.Test.YtfaegfhbbkicgaaShape
import Derived.Test.YtfaegfhbbkicgaaConjI
namespace Go.Proofs.Ytfaegfhbbkicgaa
open Go.RowKit

/-- The lengths of the rows. -/
def lensL (ls : List (List Int)) : List Int := ls.map fun l => (l.length : Int)
theorem lensL_len (ls : List (List Int)) : (lensL ls).length = ls.length := by simp [lensL]
theorem lensL_nth {ls : List (List Int)} {k : Nat} (h : k < ls.length) : nth (lensL ls) k = ((li ls k).length : Int) := by
  rw [nth_get (by rw [lensL_len]; exact h), li_get h]; simp [lensL]
/-- The number in row i at the place j. -/
abbrev cel (ls : List (List Int)) (i j : Nat) : Int := nth (li ls i) j
def cellOk (ls : List (List Int)) (i j : Nat) : Prop := 0 ≤ cel ls i j ∧ cel ls i j ≤ 20 ∧ (0 < j → cel ls i (j - 1) ≤ cel ls i j) ∧ (0 < i → cel ls (i - 1) j < cel ls i j)
instance (ls : List (List Int)) (i j : Nat) : Decidable (cellOk ls i j) := by unfold cellOk; infer_instance
def tabP (ls : List (List Int)) : Prop := isShapeP (lensL ls) ∧ ∀ i, i < ls.length → ∀ j, j < (li ls i).length → cellOk ls i j
def tabB (ls : List (List Int)) : Bool := isShapeB (lensL ls) && (List.range ls.length).all fun i => (List.range (li ls i).length).all fun j => decide (cellOk ls i j)
theorem tabB_iff (ls : List (List Int)) : tabB ls = true ↔ tabP ls := by simp [tabB, tabP, isShapeB_iff]
theorem tabB_true {ls : List (List Int)} (h : tabP ls) : tabB ls = true := (tabB_iff _).2 h
theorem tabB_false {ls : List (List Int)} (h : ¬ tabP ls) : tabB ls = false := by
  cases hb : tabB ls with
  | false => rfl
  | true => exact absurd ((tabB_iff _).1 hb) h
theorem shapeAt_lens {ls : List (List Int)} {k : Nat} (hk : k < ls.length) : shapeAt (lensL ls) k ↔ (1 ≤ (li ls k).length ∧ (li ls k).length ≤ 16 ∧ (0 < k → (li ls k).length ≤ (li ls (k - 1)).length)) ∨ (shapeAt (lensL ls) k ∧ 16 < (li ls k).length) := by
  constructor
  · intro h
    by_cases h16 : (li ls k).length ≤ 16
    · left
      unfold shapeAt at h
      rw [lensL_nth hk] at h
      refine ⟨by omega, h16, fun h0 => ?_⟩
      obtain ⟨q, rfl⟩ : ∃ q, k = q + 1 := ⟨k - 1, by omega⟩
      have h2 : (((li ls (q + 1)).length : Nat) : Int) ≤ nth (lensL ls) q := h.2
      rw [lensL_nth (by omega)] at h2
      show _ ≤ (li ls q).length
      omega
    · right; exact ⟨h, by omega⟩
  · rintro (⟨h1, h2, h3⟩ | h)
    · unfold shapeAt
      rw [lensL_nth hk]
      refine ⟨by omega, ?_⟩
      cases k with
      | zero => show _ ≤ (16 : Int); omega
      | succ q =>
        have := h3 (by omega)
        show _ ≤ nth (lensL ls) q
        rw [lensL_nth (by omega)]
        simp only [Nat.add_sub_cancel] at this
        omega
    · exact h.1
end Go.Proofs.Ytfaegfhbbkicgaa
