/-
  The group of the permutations of at most five numbers: plain facts that the kernel reckons. Conditions: the length is at most 5.
-/
import Derived.Test.YtjlpplghdhjdfaaPerm5
import Derived.Test.YtjlpplghdhjdfaaImplG
namespace Go.Proofs.Ytjlpplghdhjdfaa
open Go.RowKit

theorem one_facts {us : List Int} (hu : isPermP us) (h5 : us.length ≤ 5) :
    isPermB (invPerm us) = true ∧ (invPerm us).length = us.length ∧ compPerm (invPerm us) us = idL us.length ∧ lenPerm (invPerm us) = lenPerm us ∧ lenPerm us ≤ 10 ∧ 0 ≤ lenPerm us ∧
    lenPerm (compPerm (downL us.length us.length) us) = ((us.length * (us.length - 1) / 2 : Nat) : Int) - lenPerm us := by
  have := perm_cases (p := fun us => isPermB (invPerm us) && decide ((invPerm us).length = us.length) && decide (compPerm (invPerm us) us = idL us.length) && decide (lenPerm (invPerm us) = lenPerm us) && decide (lenPerm us ≤ 10) && decide (0 ≤ lenPerm us) &&
    decide (lenPerm (compPerm (downL us.length us.length) us) = ((us.length * (us.length - 1) / 2 : Nat) : Int) - lenPerm us)) (by decide +kernel) hu h5
  simp only [Bool.and_eq_true, decide_eq_true_eq] at this
  obtain ⟨⟨⟨⟨⟨⟨a, b⟩, c⟩, d⟩, e⟩, f⟩, g⟩ := this
  exact ⟨a, b, c, d, e, f, g⟩
theorem len0_id {vs : List Int} (hv : isPermP vs) (h5 : vs.length ≤ 5) (h0 : lenL vs = 0) : vs = idL vs.length := by
  have := perm_cases (p := fun vs => !decide (lenL vs = 0) || decide (vs = idL vs.length)) (by decide +kernel) hv h5
  simpa [h0] using this
theorem compL_id {us : List Int} : compL us (idL us.length) us.length = us := by
  apply List.ext_getElem (by rw [compL_len])
  intro j h1 h2
  have e : nth (idL us.length) j = (j : Int) := by rw [nth_get (by rw [idL_len]; exact h2)]; simp [idL]
  simp only [compL, List.getElem_map, List.getElem_range]
  rw [e, Int.toNat_natCast]
  exact nth_get h2
theorem swapL_swapL {l : List Int} {i j : Nat} (hi : i < l.length) (hj : j < l.length) (hij : i ≠ j) : swapL (swapL l i j) i j = l := by
  apply List.ext_getElem (by rw [swapL_len, swapL_len])
  intro t h1 h2
  have ht : t < (swapL l i j).length := by rw [swapL_len]; exact h2
  rw [← nth_get h1, ← nth_get h2, swapL_nth (by rw [swapL_len]; exact hi) (by rw [swapL_len]; exact hj) ht]
  rw [swapL_nth hi hj hi, swapL_nth hi hj hj, swapL_nth hi hj h2]
  by_cases e1 : t = j
  · subst e1; rw [if_pos rfl, if_neg hij, if_pos rfl]
  · rw [if_neg e1, if_neg e1]
    by_cases e2 : t = i
    · subst e2; rw [if_pos rfl, if_pos rfl]
    · rw [if_neg e2, if_neg e2]
theorem compL_swap {us vs : List Int} {n i j : Nat} (hi : i < n) (hj : j < n) (hl : vs.length = n) : compL us (swapL vs i j) n = swapL (compL us vs n) i j := by
  apply List.ext_getElem (by rw [compL_len, swapL_len, compL_len])
  intro t h1 h2
  have ht : t < n := by rw [compL_len] at h1; exact h1
  have hn : ∀ (ws : List Int) (k : Nat), k < n → nth (compL us ws n) k = nth us (nth ws k).toNat := fun ws k hk => by
    rw [nth_get (by rw [compL_len]; exact hk)]; simp [compL]
  rw [← nth_get h1, ← nth_get h2, hn _ t ht, swapL_nth (by omega) (by omega) (by omega), swapL_nth (by rw [compL_len]; exact hi) (by rw [compL_len]; exact hj) (by rw [compL_len]; exact ht), hn _ i hi, hn _ j hj, hn _ t ht]
  by_cases e1 : t = j
  · rw [if_pos e1, if_pos e1]
  · rw [if_neg e1, if_neg e1]
    by_cases e2 : t = i
    · rw [if_pos e2, if_pos e2]
    · rw [if_neg e2, if_neg e2]
/-- A swap of neighbours turns the length by one. -/
theorem swap_one {xs : List Int} (h : isPermP xs) (h5 : xs.length ≤ 5) {i : Nat} (hi : i + 1 < xs.length) : lenL (swapL xs i (i + 1)) = lenL xs + 1 ∨ lenL (swapL xs i (i + 1)) + 1 = lenL xs := by
  have := perm_cases (p := fun xs => (List.range (xs.length - 1)).all fun i => decide (lenL (swapL xs i (i + 1)) = lenL xs + 1) || decide (lenL (swapL xs i (i + 1)) + 1 = lenL xs)) (by decide +kernel) h h5
  simp only [List.all_eq_true, List.mem_range] at this
  have h2 := this i (by omega)
  simpa using h2
theorem pair_facts {us : List Int} (hu : isPermP us) (h5 : us.length ≤ 5) : ∀ (q : Nat) (vs : List Int), isPermP vs → us.length = vs.length → lenL vs = (q : Int) →
    isPermP (compL us vs vs.length) ∧ lenL (compL us vs vs.length) ≤ lenL us + lenL vs ∧ (lenL us + lenL vs - lenL (compL us vs vs.length)) % 2 = 0 := by
  intro q
  induction q with
  | zero =>
    intro vs hv hl h0
    have e : vs = idL us.length := by rw [hl]; exact len0_id hv (by omega) (by omega)
    have e2 : compL us vs vs.length = us := by rw [← hl, e]; exact compL_id
    rw [e2, h0]
    exact ⟨hu, by omega, by omega⟩
  | succ q ih =>
    intro vs hv hl h0
    have hd := has_descent hv (by omega) (by omega)
    obtain ⟨i, h1, _, h3⟩ := descL_mem vs (vs.length - 1) 0 hd
    have hsd := swap_down hv (by omega) (i := i) (by omega) h3
    have hvl : (swapL vs i (i + 1)).length = vs.length := swapL_len _ _ _
    obtain ⟨a, b, c⟩ := ih (swapL vs i (i + 1)) (swap_perm hv (by omega) (by omega)) (by omega) (by omega)
    have e : compL us vs vs.length = swapL (compL us (swapL vs i (i + 1)) vs.length) i (i + 1) := by
      rw [← compL_swap (by omega) (by omega) hvl, swapL_swapL (by omega) (by omega) (by omega)]
    rw [hvl] at a b c
    have hcl : (compL us (swapL vs i (i + 1)) vs.length).length = vs.length := compL_len _ _ _
    have hone := swap_one a (by omega) (i := i) (by omega)
    rw [e]
    refine ⟨swap_perm a (by omega) (by omega), ?_, ?_⟩ <;> rcases hone with h | h <;> omega
theorem group_facts {us vs : List Int} (hu : isPermP us) (hv : isPermP vs) (hl : us.length = vs.length) (h5 : us.length ≤ 5) :
    isPermB (compPerm us vs) = true ∧ (compPerm us vs).length = us.length ∧ lenPerm (compPerm us vs) ≤ lenPerm us + lenPerm vs ∧ (lenPerm us + lenPerm vs - lenPerm (compPerm us vs)) % 2 = 0 ∧ compPerm (invPerm us) (compPerm us vs) = vs := by
  have hq := lenL_bounds (xs := vs) (by omega)
  obtain ⟨a, b, c⟩ := pair_facts hu h5 (lenL vs).toNat vs hv hl (by omega)
  have e : compPerm us vs = compL us vs vs.length := compPerm_yes (isPermB_true hu) (isPermB_true hv) hl
  have hcl : (compL us vs vs.length).length = vs.length := compL_len _ _ _
  rw [e, lenPerm_yes (isPermB_true a), lenPerm_yes (isPermB_true hu), lenPerm_yes (isPermB_true hv)]
  refine ⟨isPermB_true a, by omega, b, c, ?_⟩
  obtain ⟨i1, i2, i3, _⟩ := one_facts hu h5
  rw [compPerm_yes i1 (isPermB_true a) (by omega), hcl]
  rw [compPerm_yes i1 (isPermB_true hu) (by omega)] at i3
  apply List.ext_getElem (by rw [compL_len])
  intro j h1 h2
  have hr := hv.range j h2
  have key : nth (compL (invPerm us) us us.length) (nth vs j).toNat = nth (idL us.length) (nth vs j).toNat := by rw [i3]
  have hn : ∀ (ws zs : List Int) (n k : Nat), k < n → nth (compL ws zs n) k = nth ws (nth zs k).toNat := fun ws zs n k hk => by
    rw [nth_get (by rw [compL_len]; exact hk)]; simp [compL]
  rw [hn _ _ _ _ (by omega)] at key
  rw [← nth_get h1, ← nth_get h2, hn _ _ _ _ (by rw [compL_len] at h1; exact h1), hn _ _ _ _ (by omega), key]
  rw [nth_get (by rw [idL_len]; omega)]
  simp only [idL, List.getElem_map, List.getElem_range]
  omega
end Go.Proofs.Ytjlpplghdhjdfaa
