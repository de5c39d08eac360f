/-
  Contracts of the specification's functions that build lists: identity, longest. Conditions: lengths below 2^40.
-/
import Derived.Test.YtbjnjccolapehaaOwn
import Derived.Test.YtbjnjccolapehaaPermSpec
namespace Go.Proofs.Ytbjnjccolapehaa
open Go.RowKit

def idL (n : Nat) : List Int := (List.range n).map fun (j : Nat) => (j : Int)
theorem idL_len (n : Nat) : (idL n).length = n := by simp [idL]
theorem idL_succ (n : Nat) : idL (n + 1) = idL n ++ [(n : Int)] := by simp [idL, List.range_succ]
/-- n-1, n-2, .., k numbers. -/
def downL (n k : Nat) : List Int := (List.range k).map fun (j : Nat) => (n : Int) - 1 - (j : Int)
theorem downL_len (n k : Nat) : (downL n k).length = k := by simp [downL]
theorem downL_succ (n k : Nat) : downL n (k + 1) = downL n k ++ [(n : Int) - 1 - (k : Int)] := by simp [downL, List.range_succ]

/-- What IdentityPerm answers. -/
def idPerm (a : Int) : List Int := if 1 ≤ a ∧ a ≤ 7 then idL a.toNat else []
theorem idPerm_small (a : Int) : (idPerm a).length ≤ 1099511627775 := by
  unfold idPerm; split
  · rw [idL_len]; omega
  · simp
def longPerm (a : Int) : List Int := if 1 ≤ a ∧ a ≤ 7 then downL a.toNat a.toNat else []
theorem longPerm_small (a : Int) : (longPerm a).length ≤ 1099511627775 := by
  unfold longPerm; split
  · rw [downL_len]; omega
  · simp
end Go.Proofs.Ytbjnjccolapehaa
