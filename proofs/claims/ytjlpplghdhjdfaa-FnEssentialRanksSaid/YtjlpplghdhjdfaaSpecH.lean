/-
  The order of permutations: the specification's side. Conditions: lengths below 2^40.
-/
import Derived.Test.YtjlpplghdhjdfaaSpecF
namespace Go.Proofs.Ytjlpplghdhjdfaa
open Go.RowKit

/-- Does the first list keep the ranks of the second. -/
def belowP (us vs : List Int) (n : Nat) : Prop := ∀ r, r ≤ n → ∀ c : Nat, c ≤ n → rankN vs (c : Int) r ≤ rankN us (c : Int) r
def belowB (us vs : List Int) (n : Nat) : Bool := (List.range (n + 1)).all fun r => (List.range (n + 1)).all fun (c : Nat) => decide (rankN vs (c : Int) r ≤ rankN us (c : Int) r)
theorem belowB_iff (us vs : List Int) (n : Nat) : belowB us vs n = true ↔ belowP us vs n := by
  simp [belowB, belowP, Nat.lt_succ_iff]
theorem belowB_true {us vs : List Int} {n : Nat} (h : belowP us vs n) : belowB us vs n = true := (belowB_iff us vs n).2 h
theorem belowB_false {us vs : List Int} {n : Nat} (h : ¬ belowP us vs n) : belowB us vs n = false := by
  cases hb : belowB us vs n with
  | false => rfl
  | true => exact absurd ((belowB_iff us vs n).1 hb) h

/-- What IsBelowPerm answers. -/
def belowPerm (us vs : List Int) : Bool := isPermB us && (isPermB vs && (decide (us.length = vs.length) && belowB us vs us.length))
theorem belowPerm_1 {us vs : List Int} (h : isPermB us = false) : belowPerm us vs = false := by unfold belowPerm; rw [h]; rfl
theorem belowPerm_2 {us vs : List Int} (h : isPermB vs = false) : belowPerm us vs = false := by unfold belowPerm; rw [h]; simp
theorem belowPerm_3 {us vs : List Int} (h : us.length ≠ vs.length) : belowPerm us vs = false := by unfold belowPerm; simp [h]
theorem belowPerm_4 {us vs : List Int} (h1 : isPermB us = true) (h2 : isPermB vs = true) (h3 : us.length = vs.length) : belowPerm us vs = belowB us vs us.length := by unfold belowPerm; simp [h1, h2, h3]
end Go.Proofs.Ytjlpplghdhjdfaa
