/-
  Contracts of the program's functions on arrays: products, inverses; reversing a slice. Conditions: lengths below 2^40.
-/
import Derived.Test.YtfaegfhbbkicgaaImplA
namespace Go.Proofs.Ytfaegfhbbkicgaa
open Go.RowKit

theorem idxArr (l : List Int) (k : Nat) (h : k < 7) (w : World) : (Instr.index 120 (.agg (arrC l)) (.int .i64 k)).run Try.prog w = .ok (.int .i64 (nth l k)) w := by
  rcases lt7 h with rfl | rfl | rfl | rfl | rfl | rfl | rfl <;> kernel_rfl

def part7 (g h : Nat → Int) (k : Nat) : List Int := (List.range 7).map fun j => if j < k then g j else h j
theorem part7_len (g h : Nat → Int) (k : Nat) : (part7 g h k).length = 7 := by simp [part7]
theorem part7_nth (g h : Nat → Int) (k j : Nat) (hj : j < 7) : nth (part7 g h k) j = if j < k then g j else h j := by
  rw [nth_get (by rw [part7_len]; exact hj)]
  simp [part7]
theorem part7_set (g h : Nat → Int) (k : Nat) (hk : k < 7) : (arrC (part7 g h k)).setIfInBounds k (.int .i64 (g k)) = arrC (part7 g h (k + 1)) := by
  rw [arrC_set _ k hk _ (part7_len _ _ _)]
  congr 1
  apply List.ext_getElem (by simp [part7])
  intro j h1 h2
  rw [List.getElem_set]
  simp only [part7, List.getElem_map, List.getElem_range]
  by_cases e : k = j
  · subst e; simp
  · rw [if_neg e]
    by_cases h3 : j < k
    · rw [if_pos h3, if_pos (by omega)]
    · rw [if_neg h3, if_neg (by omega)]

/-- The product of two arrays. -/
def permTimesL (la lb : List Int) : List Int := part7 (fun j => nth la (nth lb j).toNat) (fun _ => 0) 7

/-! Plain facts on the array of a permutation. -/
theorem fillA_range {xs : List Int} (h : isPermP xs) (k : Nat) (hk : k < 7) : 0 ≤ nth (fillA xs xs.length) k ∧ nth (fillA xs xs.length) k < 7 := by
  have h7 := h.2.1
  rw [fillA_nth _ _ _ hk]
  split
  · rename_i hlt
    have := h.range k hlt
    omega
  · omega
theorem fillA_ge {xs : List Int} {n k : Nat} (h : ¬ k < n) (hk : k < 7) : nth (fillA xs n) k = (k : Int) := by rw [fillA_nth _ _ _ hk, if_neg h]
theorem fillA_lt {xs : List Int} {n k : Nat} (h : k < n) (hk : k < 7) : nth (fillA xs n) k = nth xs k := by rw [fillA_nth _ _ _ hk, if_pos h]

theorem permTimesL_take {us vs : List Int} (_hu : isPermP us) (hv : isPermP vs) (hl : us.length = vs.length) : (permTimesL (fillA us us.length) (fillA vs vs.length)).take vs.length = compL us vs vs.length := by
  have h7 := hv.2.1
  apply List.ext_getElem
  · rw [List.length_take, compL_len]; simp [permTimesL, part7]; omega
  · intro j h1 h2
    have hj : j < vs.length := by rw [compL_len] at h2; exact h2
    have hr := hv.range j hj
    rw [List.getElem_take]
    simp only [permTimesL, part7, compL, List.getElem_map, List.getElem_range]
    rw [if_pos (by omega), fillA_lt hj (by omega), fillA_lt (by omega) (by omega)]

theorem invM_take {xs : List Int} (h : isPermP xs) : (invM (fillA xs xs.length) 7 7).take xs.length = invM xs xs.length xs.length := by
  have h7 := h.2.1
  have key : ∀ k, k ≤ xs.length → (invM (fillA xs xs.length) 7 k).take xs.length = invM xs xs.length k := by
    intro k
    induction k with
    | zero =>
      intro _
      show (List.replicate 7 (0 : Int)).take xs.length = List.replicate xs.length 0
      rw [List.take_replicate, Nat.min_eq_left h7]
    | succ k ih =>
      intro hk
      have hr := h.range k (by omega)
      rw [invM_succ, invM_succ, ← ih (by omega), fillA_lt (by omega) (by omega), List.take_set]
  have key2 : ∀ d, xs.length + d ≤ 7 → (invM (fillA xs xs.length) 7 (xs.length + d)).take xs.length = invM xs xs.length xs.length := by
    intro d
    induction d with
    | zero => intro _; exact key _ (Nat.le_refl _)
    | succ d ih =>
      intro hd
      rw [show xs.length + (d + 1) = (xs.length + d) + 1 from by omega, invM_succ, fillA_ge (by omega) (by omega), List.take_set]
      rw [List.set_eq_of_length_le (by simp [invM_len]; omega)]
      exact ih (by omega)
  have := key2 (7 - xs.length) (by omega)
  rwa [show xs.length + (7 - xs.length) = 7 from by omega] at this
end Go.Proofs.Ytfaegfhbbkicgaa
