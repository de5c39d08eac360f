/-
  A permutation found from its code: the specification's l1Decode. Conditions: the length is from 1 to 7, the numbers are a code's.
-/
import Derived.Test.YtbjnjccolapehaaSpecC
namespace Go.Proofs.Ytbjnjccolapehaa
open Go.RowKit

/-- How many numbers below v are not in the list. -/
def unused (out : List Int) : Nat → Nat
  | 0 => 0
  | v + 1 => unused out v + if hasB out (v : Int) = true then 0 else 1
theorem unused_hit {out : List Int} {v : Nat} (h : hasB out (v : Int) = true) : unused out (v + 1) = unused out v := by
  show unused out v + (if hasB out (v : Int) = true then 0 else 1) = _
  rw [if_pos h]; rfl
theorem unused_miss {out : List Int} {v : Nat} (h : hasB out (v : Int) = false) : unused out (v + 1) = unused out v + 1 := by
  show unused out v + (if hasB out (v : Int) = true then 0 else 1) = _
  rw [if_neg (by rw [h]; decide)]
theorem unused_le (out : List Int) (v : Nat) : unused out v ≤ v := by
  induction v with
  | zero => exact Nat.le_refl _
  | succ v ih => unfold unused; split <;> omega
theorem unused_nil (v : Nat) : unused [] v = v := by
  induction v with
  | zero => rfl
  | succ v ih => rw [unused_miss (hasB_nil _), ih]
theorem hasB_snoc (out : List Int) (x y : Int) : hasB (out ++ [x]) y = (hasB out y || decide (y = x)) := by
  simp [hasB]
theorem unused_snoc_lo {out : List Int} {x : Nat} : ∀ m, m ≤ x → unused (out ++ [(x : Int)]) m = unused out m := by
  intro m
  induction m with
  | zero => intro _; rfl
  | succ m ih =>
    intro hm
    unfold unused
    rw [ih (by omega), hasB_snoc]
    have : decide ((m : Int) = (x : Int)) = false := by simp; omega
    rw [this, Bool.or_false]
theorem unused_snoc_hi {out : List Int} {x : Nat} (hx : hasB out (x : Int) = false) : ∀ m, x < m → unused (out ++ [(x : Int)]) m + 1 = unused out m := by
  intro m
  induction m with
  | zero => intro h; omega
  | succ m ih =>
    intro hm
    by_cases e : x = m
    · subst e
      rw [unused_miss hx, unused_hit (by rw [hasB_snoc]; simp), unused_snoc_lo x (Nat.le_refl _)]
    · have h1 := ih (by omega)
      have h2 : decide ((m : Int) = (x : Int)) = false := by simp; omega
      cases hm2 : hasB out (m : Int) with
      | true => rw [unused_hit hm2, unused_hit (by rw [hasB_snoc, hm2]; rfl)]; exact h1
      | false => rw [unused_miss hm2, unused_miss (by rw [hasB_snoc, hm2, h2]; rfl)]; omega
/-- The first k numbers that a code leads to. -/
def DecP (cs out : List Int) (n k : Nat) : Prop :=
  out.length = k ∧ unused out n + k = n ∧ ∀ i, i < k → ∃ v : Nat, v < n ∧ nth out i = (v : Int) ∧ hasB (out.take i) (v : Int) = false ∧ (unused (out.take i) v : Int) = nth cs i
theorem DecP.zero (cs : List Int) (n : Nat) : DecP cs [] n 0 := ⟨rfl, by rw [unused_nil]; omega, fun i hi => absurd hi (by omega)⟩
theorem nth_snoc_lt {out : List Int} {x : Int} {i : Nat} (h : i < out.length) : nth (out ++ [x]) i = nth out i := by
  rw [nth_get (by simp; omega), nth_get h, List.getElem_append_left h]
theorem nth_snoc_eq {out : List Int} {x : Int} : nth (out ++ [x]) out.length = x := by
  rw [nth_get (by simp)]; simp
theorem DecP.snoc {cs out : List Int} {n k v : Nat} (h : DecP cs out n k) (hv : v < n) (hx : hasB out (v : Int) = false) (hc : (unused out v : Int) = nth cs k) : DecP cs (out ++ [(v : Int)]) n (k + 1) := by
  obtain ⟨h1, h2, h3⟩ := h
  refine ⟨by simp [h1], by have := unused_snoc_hi hx n hv; omega, fun i hi => ?_⟩
  rcases Nat.lt_or_ge i k with hlt | hge
  · obtain ⟨u, hu1, hu2, hu3, hu4⟩ := h3 i hlt
    refine ⟨u, hu1, by rw [nth_snoc_lt (by omega)]; exact hu2, ?_, ?_⟩
    · rw [List.take_append_of_le_length (by omega)]; exact hu3
    · rw [List.take_append_of_le_length (by omega)]; exact hu4
  · have e : i = k := by omega
    subst e
    refine ⟨v, hv, by rw [← h1]; exact nth_snoc_eq, ?_, ?_⟩
    · rw [← h1, List.take_left' rfl]; exact hx
    · rw [← h1, List.take_left' rfl, h1]; exact hc
theorem DecP.perm {cs out : List Int} {n : Nat} (h : DecP cs out n n) (h1 : 1 ≤ n) (h7 : n ≤ 7) : isPermP out := by
  obtain ⟨e, _, h3⟩ := h
  refine ⟨by omega, by omega, fun k hk => ?_⟩
  obtain ⟨v, hv1, hv2, hv3, _⟩ := h3 k (by omega)
  exact ⟨by omega, by omega, by rw [hv2]; exact hv3⟩

end Go.Proofs.Ytbjnjccolapehaa
