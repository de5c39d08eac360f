/-
  Merging runs from below: plain lemmas over core's List.merge. No conditions.
-/
import Derived.Test.YtkfpacjncpifgaaWords
namespace Go.Proofs.Ytkfpacjncpifgaa
open Go.RowKit

/-- A part of a list. -/
def seg {α : Type} (l : List α) (i j : Nat) : List α := (l.take j).drop i
section
variable {α : Type}
theorem seg_len (l : List α) (i j : Nat) : (seg l i j).length = min j l.length - i := by simp [seg]
theorem seg_nil {l : List α} {i j : Nat} (h : j ≤ i) : seg l i j = [] := List.eq_nil_of_length_eq_zero (by rw [seg_len]; omega)
theorem seg_cons {l : List α} {i j : Nat} (h : i < j) (hj : j ≤ l.length) : ∃ x, l[i]? = some x ∧ seg l i j = x :: seg l (i + 1) j := by
  refine ⟨l[i]'(by omega), List.getElem?_eq_getElem _, ?_⟩
  unfold seg
  rw [List.drop_eq_getElem_cons (by simp; omega)]
  simp
theorem seg_take (l : List α) (i j k : Nat) (h : i ≤ j) (hk : j ≤ k) : seg l i j ++ seg l j k = seg l i k := by
  unfold seg
  have h1 : l.take j = (l.take k).take j := by rw [List.take_take, Nat.min_eq_left hk]
  rw [h1]
  generalize l.take k = m
  have e : (m.take j ++ m.drop j).drop i = m.drop i := by rw [List.take_append_drop]
  rw [← e, List.drop_append]
  congr 1
  by_cases hm : i ≤ m.length
  · rw [Nat.sub_eq_zero_of_le (by simp; omega), List.drop_zero]
  · rw [List.drop_eq_nil_of_le (show m.length ≤ j by omega)]; simp
theorem take_seg (l : List α) (i j : Nat) (h : i ≤ j) : l.take i ++ seg l i j = l.take j := by
  have := seg_take l 0 i j (Nat.zero_le _) h
  unfold seg at this ⊢
  simpa using this
theorem seg_app_left {a m : List α} {i j : Nat} (h : j ≤ a.length) : seg (a ++ m) i j = seg a i j := by
  unfold seg; rw [List.take_append_of_le_length h]
theorem seg_app_right {a m : List α} {i j : Nat} (h : a.length ≤ i) : seg (a ++ m) i j = seg m (i - a.length) (j - a.length) := by
  unfold seg
  rw [List.take_append, List.drop_append, List.drop_eq_nil_of_le (by simp; omega)]
  simp
  rcases Nat.le_total a.length j with h1 | h1
  · rw [Nat.min_eq_right h1]
  · rw [Nat.sub_eq_zero_of_le h1]; simp
/-- Every run of s, from the beginning, is in order. -/
def runs (le : α → α → Bool) (s : Nat) (l : List α) : Prop := ∀ q, (seg l (q * s) (q * s + s)).Pairwise (fun a b => le a b = true)
theorem runs_one (le : α → α → Bool) (l : List α) : runs le 1 l := by
  intro q
  have hl := seg_len l (q * 1) (q * 1 + 1)
  generalize seg l (q * 1) (q * 1 + 1) = m at hl
  match m, hl with
  | [], _ => exact List.Pairwise.nil
  | [x], _ => exact List.pairwise_singleton _ _
  | x :: y :: r, h => simp at h; omega
theorem runs_all {le : α → α → Bool} {s : Nat} {l : List α} (h : runs le s l) (hl : l.length ≤ s) : l.Pairwise (fun a b => le a b = true) := by
  have := h 0
  unfold seg at this
  simpa [List.take_of_length_le hl] using this
theorem runs_app {le : α → α → Bool} {t p : Nat} {a m : List α} (h : runs le t a) (hp : a.length = p * t) (hm : m.Pairwise (fun a b => le a b = true)) (hl : m.length ≤ t) : runs le t (a ++ m) := by
  intro q
  rcases Nat.lt_trichotomy q p with hq | hq | hq
  · have : q * t + t ≤ p * t := by
      have := Nat.mul_le_mul_right t (show q + 1 ≤ p from hq)
      rwa [Nat.add_mul, Nat.one_mul] at this
    rw [seg_app_left (by omega)]
    exact h q
  · subst hq
    rw [seg_app_right (by omega), hp, Nat.sub_self, Nat.add_sub_cancel_left]
    unfold seg
    rw [List.drop_zero, List.take_of_length_le hl]
    exact hm
  · have : p * t + t ≤ q * t := by
      have := Nat.mul_le_mul_right t (show p + 1 ≤ q from hq)
      rwa [Nat.add_mul, Nat.one_mul] at this
    have e : seg (a ++ m) (q * t) (q * t + t) = [] := List.eq_nil_of_length_eq_zero (by rw [seg_len]; simp; omega)
    rw [e]
    exact List.Pairwise.nil
theorem runs_nil (le : α → α → Bool) (s : Nat) : runs le s ([] : List α) := by
  intro q
  have e : seg ([] : List α) (q * s) (q * s + s) = [] := by simp [seg]
  rw [e]; exact List.Pairwise.nil
/-- Where a run of s begins (at a multiple of it), it and the next one are in order. -/
theorem runs_at {le : α → α → Bool} {s : Nat} {l : List α} (h : runs le s l) (q : Nat) (j : Nat) (hj : j ≤ q * s + s) : (seg l (q * s) j).Pairwise (fun a b => le a b = true) := by
  have e : seg l (q * s) j = (seg l (q * s) (q * s + s)).take (j - q * s) := by
    unfold seg
    rw [List.take_drop, List.take_take]
    rcases Nat.le_total (q * s) j with h1 | h1
    · rw [Nat.add_sub_cancel' h1, Nat.min_eq_left hj]
    · rw [Nat.sub_eq_zero_of_le h1, List.drop_eq_nil_of_le (by simp; omega), List.drop_eq_nil_of_le (by simp; omega)]
  rw [e]
  exact (h q).sublist (List.take_sublist _ _)
/-- What the middle loop has made of the first numbers. -/
def passed (le : α → α → Bool) (s p : Nat) (l nx : List α) : Prop := nx.Perm (l.take (p * (2 * s))) ∧ runs le (2 * s) nx
theorem passed_zero (le : α → α → Bool) (s : Nat) (l : List α) : passed le s 0 l [] := ⟨by simp, runs_nil _ _⟩
theorem passed_next {le : α → α → Bool} (trans : ∀ a b c : α, le a b = true → le b c = true → le a c = true) (total : ∀ a b : α, (le a b || le b a) = true) {s p : Nat} {l nx : List α} (h : passed le s p l nx) (hr : runs le s l) (hlt : p * (2 * s) < l.length) :
    passed le s (p + 1) l (nx ++ List.merge (seg l (p * (2 * s)) (min (p * (2 * s) + s) l.length)) (seg l (min (p * (2 * s) + s) l.length) (min (p * (2 * s) + 2 * s) l.length)) le) := by
  obtain ⟨h1, h2⟩ := h
  have e1 : p * (2 * s) = 2 * p * s := by rw [← Nat.mul_assoc, Nat.mul_comm p 2]
  have e2 : p * (2 * s) + s = (2 * p + 1) * s := by rw [e1, Nat.add_mul, Nat.one_mul]
  have sa : (seg l (p * (2 * s)) (min (p * (2 * s) + s) l.length)).Pairwise (fun a b => le a b = true) := by
    rw [e1]; exact runs_at hr (2 * p) _ (by omega)
  have sb : (seg l (min (p * (2 * s) + s) l.length) (min (p * (2 * s) + 2 * s) l.length)).Pairwise (fun a b => le a b = true) := by
    rcases Nat.le_total (p * (2 * s) + s) l.length with hh | hh
    · rw [Nat.min_eq_left hh, e2]; exact runs_at hr (2 * p + 1) _ (by omega)
    · rw [seg_nil (by omega)]; exact List.Pairwise.nil
  have hm := List.pairwise_merge trans total _ _ sa sb
  refine ⟨?_, ?_⟩
  · have e3 : (p + 1) * (2 * s) = p * (2 * s) + 2 * s := by rw [Nat.add_mul, Nat.one_mul]
    rw [e3]
    refine (h1.append (List.merge_perm_append le)).trans ?_
    have e4 : l.take (p * (2 * s) + 2 * s) = l.take (min (p * (2 * s) + 2 * s) l.length) := by
      rcases Nat.le_total (p * (2 * s) + 2 * s) l.length with hh | hh
      · rw [Nat.min_eq_left hh]
      · rw [Nat.min_eq_right hh, List.take_of_length_le hh, List.take_of_length_le (Nat.le_refl _)]
    rw [seg_take _ _ _ _ (by omega) (by omega), take_seg _ _ _ (by omega), e4]
  · refine runs_app h2 (p := p) ?_ hm ?_
    · rw [h1.length_eq, List.length_take]; omega
    · rw [(List.merge_perm_append le).length_eq, List.length_append, seg_len, seg_len]; omega
theorem passed_end {le : α → α → Bool} {s p : Nat} {l nx : List α} (h : passed le s p l nx) (hp : l.length ≤ p * (2 * s)) : nx.Perm l ∧ runs le (2 * s) nx := by
  obtain ⟨h1, h2⟩ := h
  rw [List.take_of_length_le hp] at h1
  exact ⟨h1, h2⟩
end
end Go.Proofs.Ytkfpacjncpifgaa
