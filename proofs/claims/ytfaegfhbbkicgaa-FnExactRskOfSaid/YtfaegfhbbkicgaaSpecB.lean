/-
  Contracts of the specification's functions: products, inverses. Conditions: lengths below 2^40.
-/
import Derived.Test.YtfaegfhbbkicgaaSpecA
namespace Go.Proofs.Ytfaegfhbbkicgaa
open Go.RowKit

/-- The first k numbers of a product. -/
def compL (u v : List Int) (k : Nat) : List Int := (List.range k).map fun i => nth u (nth v i).toNat
theorem compL_len (u v : List Int) (k : Nat) : (compL u v k).length = k := by simp [compL]
theorem compL_succ (u v : List Int) (k : Nat) : compL u v (k + 1) = compL u v k ++ [nth u (nth v k).toNat] := by simp [compL, List.range_succ]

/-- What ComposePerms answers. -/
def compPerm (us vs : List Int) : List Int := if isPermB us = true ∧ isPermB vs = true ∧ us.length = vs.length then compL us vs vs.length else []

theorem Fresh.nil_ret {w w' : World} (h : Below w.heap.size w w') : Fresh w w' (.returned (.slice none 0 0)) [] := ⟨none, 0, 0, rfl, Own.nil _ _ _, h⟩
theorem Fresh.after {w w1 w2 : World} {e : Ending} {ys : List Int} (hb : Below w.heap.size w w1) (h : Fresh w1 w2 e ys) : Fresh w w2 e ys := by
  obtain ⟨A, n, c, he, ho, hb2⟩ := h
  exact ⟨A, n, c, he, ho.wide hb.size (Nat.le_refl _), hb.trans (hb2.mono hb.size)⟩

theorem compPerm_no {us vs : List Int} (h : isPermB us = false ∨ isPermB vs = false ∨ us.length ≠ vs.length) : compPerm us vs = [] := by
  unfold compPerm
  rw [if_neg]
  rintro ⟨h1, h2, h3⟩
  rcases h with h | h | h
  · rw [h1] at h; cases h
  · rw [h2] at h; cases h
  · exact h h3
theorem compPerm_yes {us vs : List Int} (h1 : isPermB us = true) (h2 : isPermB vs = true) (h3 : us.length = vs.length) : compPerm us vs = compL us vs vs.length := by
  unfold compPerm
  rw [if_pos ⟨h1, h2, h3⟩]
theorem isPermB_small {xs : List Int} (h : isPermB xs = true) : xs.length ≤ 1099511627775 := by have := (isPermB_P h).2.1; omega
theorem compPerm_small (us vs : List Int) : (compPerm us vs).length ≤ 1099511627775 := by
  unfold compPerm
  split
  · rename_i h
    rw [compL_len]; exact isPermB_small h.2.1
  · simp
/-- The inverse, k places filled. -/
def invM (xs : List Int) (n k : Nat) : List Int := (List.range k).foldl (fun acc i => acc.set (nth xs i).toNat (i : Int)) (List.replicate n 0)
theorem invM_succ (xs : List Int) (n k : Nat) : invM xs n (k + 1) = (invM xs n k).set (nth xs k).toNat (k : Int) := by simp [invM, List.range_succ]
theorem invM_len (xs : List Int) (n k : Nat) : (invM xs n k).length = n := by
  induction k with
  | zero => simp [invM]
  | succ k ih => rw [invM_succ]; simpa using ih

/-- What InversePerm answers. -/
def invPerm (xs : List Int) : List Int := if isPermB xs = true then invM xs xs.length xs.length else []
theorem invPerm_no {xs : List Int} (h : isPermB xs = false) : invPerm xs = [] := by unfold invPerm; rw [if_neg (by rw [h]; decide)]
theorem invPerm_yes {xs : List Int} (h : isPermB xs = true) : invPerm xs = invM xs xs.length xs.length := by unfold invPerm; rw [if_pos h]
theorem invPerm_small (xs : List Int) : (invPerm xs).length ≤ 1099511627775 := by
  unfold invPerm
  split
  · rename_i h
    rw [invM_len]; exact isPermB_small h
  · simp
end Go.Proofs.Ytfaegfhbbkicgaa
