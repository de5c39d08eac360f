/-
  How many standard tableaux a shape has, on both sides. Conditions: lengths below 2^40.
-/
import Derived.Test.YtbjnjccolapehaaHook
namespace Go.Proofs.Ytbjnjccolapehaa
open Go.RowKit

theorem stdOk_no {xs : List Int} (h : stdOk xs = false) : stdCount xs = -1 := by unfold stdCount; rw [h]; rfl
theorem stdOk_yes {xs : List Int} (h : stdOk xs = true) : stdCount xs = (stdN xs : Int) := by unfold stdCount; rw [h]; rfl
theorem sum_bnd {xs : List Int} (h : isShapeP xs) (k : Nat) (hk : k ≤ 16) : 0 ≤ sumN xs k ∧ sumN xs k ≤ 16 * (k : Int) := by
  induction k with
  | zero => exact ⟨Int.le_refl _, Int.le_refl _⟩
  | succ k ih =>
    have h1 := ih (by omega)
    have h2 := shape_range h k
    have e : sumN xs (k + 1) = sumN xs k + nth xs k := rfl
    rw [e]; omega
theorem tdiv_nat (a b : Nat) : Int.tdiv (a : Int) (b : Int) = ((a / b : Nat) : Int) := by rw [Int.tdiv_eq_ediv_of_nonneg (by omega)]; rfl
end Go.Proofs.Ytbjnjccolapehaa
