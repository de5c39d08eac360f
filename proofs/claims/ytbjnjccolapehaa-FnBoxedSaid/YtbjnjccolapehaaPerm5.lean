/-
  All permutations of at most five numbers, listed: plain facts that the kernel reckons over the list. Conditions: the length is at most 5.
-/
import Derived.Test.YtbjnjccolapehaaSpecC
import Derived.Test.YtbjnjccolapehaaSpecG
namespace Go.Proofs.Ytbjnjccolapehaa
open Go.RowKit

/-- The beginnings of k numbers below n, all different. -/
def begins (n : Nat) : Nat → List (List Int)
  | 0 => [[]]
  | k + 1 => (begins n k).flatMap fun p => ((List.range n).filter (fun (v : Nat) => !hasB p (v : Int))).map (fun (v : Nat) => p ++ [(v : Int)])
theorem begins_all {xs : List Int} (h : isPermP xs) : ∀ k, k ≤ xs.length → xs.take k ∈ begins xs.length k := by
  intro k
  induction k with
  | zero => intro _; simp [begins]
  | succ k ih =>
    intro hk
    obtain ⟨h1, h2, h3⟩ := h.2.2 k (by omega)
    unfold begins
    rw [List.mem_flatMap]
    refine ⟨xs.take k, ih (by omega), ?_⟩
    rw [List.mem_map]
    refine ⟨(nth xs k).toNat, ?_, ?_⟩
    · rw [List.mem_filter]
      refine ⟨List.mem_range.2 (by omega), ?_⟩
      rw [show (((nth xs k).toNat : Nat) : Int) = nth xs k from by omega, h3]; rfl
    · rw [take_nth (by omega), show (((nth xs k).toNat : Nat) : Int) = nth xs k from by omega]
def perms5 : List (List Int) := begins 1 1 ++ begins 2 2 ++ begins 3 3 ++ begins 4 4 ++ begins 5 5
theorem perms5_all {xs : List Int} (h : isPermP xs) (h5 : xs.length ≤ 5) : xs ∈ perms5 := by
  have h1 := h.1
  have := begins_all h xs.length (Nat.le_refl _)
  rw [List.take_length] at this
  unfold perms5
  have hc : xs.length = 1 ∨ xs.length = 2 ∨ xs.length = 3 ∨ xs.length = 4 ∨ xs.length = 5 := by omega
  simp only [List.mem_append]
  rcases hc with e | e | e | e | e <;> rw [e] at this <;> simp [this]
theorem perm_cases {p : List Int → Bool} (hp : perms5.all p = true) {xs : List Int} (h : isPermP xs) (h5 : xs.length ≤ 5) : p xs = true :=
  List.all_eq_true.1 hp xs (perms5_all h h5)

/-- A swap of neighbours leaves a permutation. -/
theorem swap_perm {xs : List Int} (h : isPermP xs) (h5 : xs.length ≤ 5) {i : Nat} (hi : i + 1 < xs.length) : isPermP (swapL xs i (i + 1)) := by
  have := perm_cases (p := fun xs => (List.range (xs.length - 1)).all fun i => isPermB (swapL xs i (i + 1))) (by decide +kernel) h h5
  simp only [List.all_eq_true, List.mem_range] at this
  exact isPermB_P (this i (by omega))
/-- At a descent the length goes down by one. -/
theorem swap_down {xs : List Int} (h : isPermP xs) (h5 : xs.length ≤ 5) {i : Nat} (hi : i + 1 < xs.length) (hd : nth xs (i + 1) < nth xs i) : lenL (swapL xs i (i + 1)) + 1 = lenL xs := by
  have := perm_cases (p := fun xs => (List.range (xs.length - 1)).all fun i => !decide (nth xs (i + 1) < nth xs i) || decide (lenL (swapL xs i (i + 1)) + 1 = lenL xs)) (by decide +kernel) h h5
  simp only [List.all_eq_true, List.mem_range] at this
  have h2 := this i (by omega)
  simpa [hd] using h2
/-- Whatever is longer than nothing has a descent. -/
theorem has_descent {xs : List Int} (h : isPermP xs) (h5 : xs.length ≤ 5) (hl : 0 < lenL xs) : 0 < (descL xs (xs.length - 1)).length := by
  have := perm_cases (p := fun xs => !decide (0 < lenL xs) || decide (0 < (descL xs (xs.length - 1)).length)) (by decide +kernel) h h5
  simpa [hl] using this
theorem len_small {xs : List Int} (h : isPermP xs) (h5 : xs.length ≤ 5) : lenL xs ≤ 10 := by
  have := perm_cases (p := fun xs => decide (lenL xs ≤ 10)) (by decide +kernel) h h5
  simpa using this
/-- Each number of the list of descents is one. -/
theorem descL_mem (xs : List Int) : ∀ k, ∀ j, j < (descL xs k).length → ∃ i : Nat, i < k ∧ nth (descL xs k) j = (i : Int) ∧ nth xs (i + 1) < nth xs i := by
  intro k
  induction k with
  | zero => intro j hj; simp [descL] at hj
  | succ k ih =>
    intro j hj
    by_cases hd : nth xs (k + 1) < nth xs k
    · rw [descL_hit hd] at hj ⊢
      rw [List.length_append, List.length_singleton] at hj
      rcases Nat.lt_or_ge j (descL xs k).length with hlt | hge
      · obtain ⟨i, h1, h2, h3⟩ := ih j hlt
        exact ⟨i, by omega, by rw [nth_get (by simp; omega), List.getElem_append_left hlt, ← nth_get hlt]; exact h2, h3⟩
      · have e : j = (descL xs k).length := by omega
        subst e
        exact ⟨k, by omega, by rw [nth_get (by simp)]; simp, hd⟩
    · rw [descL_miss hd] at hj ⊢
      obtain ⟨i, h1, h2, h3⟩ := ih j hj
      exact ⟨i, by omega, h2, h3⟩
theorem id_perm {n : Nat} (h1 : 1 ≤ n) (h7 : n ≤ 7) : isPermP (idL n) := by
  have hc : n = 1 ∨ n = 2 ∨ n = 3 ∨ n = 4 ∨ n = 5 ∨ n = 6 ∨ n = 7 := by omega
  rcases hc with rfl | rfl | rfl | rfl | rfl | rfl | rfl <;> exact isPermB_P (by decide +kernel)
/-- What comes of a word is a permutation. -/
theorem play_perm {ws : List Int} {m : Nat} (hw : wordP (m : Int) ws) (h5 : m ≤ 5) (all : Bool) : ∀ k, k ≤ ws.length → isPermP ((playL ws all k).take m) := by
  intro k
  have h1 : 1 ≤ m := by have := hw.1; omega
  induction k with
  | zero =>
    intro _
    show isPermP ((idL 7).take m)
    rw [idL_take (by omega)]
    exact id_perm h1 (by omega)
  | succ k ih =>
    intro hk
    obtain ⟨hw1, hw2⟩ := hw.2.2.2 k (by omega)
    unfold playL
    split
    · rw [swapL_take (by omega) (by omega)]
      have hl : ((playL ws all k).take m).length = m := by rw [List.length_take, playL_len]; omega
      exact swap_perm (ih (by omega)) (by omega) (by omega)
    · exact ih (by omega)
end Go.Proofs.Ytbjnjccolapehaa
