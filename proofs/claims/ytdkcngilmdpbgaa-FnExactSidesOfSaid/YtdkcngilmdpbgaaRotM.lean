/-
  Puzzles turned and reflected: the model of both sides. No conditions.
-/
import Derived.Test.YtdkcngilmdpbgaaPuzL
namespace Go.Proofs.Ytdkcngilmdpbgaa
open Go.RowKit

theorem tri_inj {a b i j : Nat} (hi : i ≤ a) (hj : j ≤ b) (h : tri a + i = tri b + j) : a = b ∧ i = j := by
  rcases Nat.lt_trichotomy a b with h1 | h1 | h1
  · have := tri_lt (a := a) (b := b) (k := i) h1 hi; omega
  · subst h1; exact ⟨rfl, by omega⟩
  · have := tri_lt (a := b) (b := a) (k := j) h1 hj; omega
theorem tri_split : ∀ {s j : Nat}, j < tri s → ∃ r k, r < s ∧ k ≤ r ∧ j = tri r + k
  | 0, j, h => by simp [tri] at h
  | s + 1, j, h => by
    rw [tri_succ] at h
    by_cases h1 : j < tri s
    · obtain ⟨r, k, hr, hk, e⟩ := tri_split h1
      exact ⟨r, k, by omega, hk, e⟩
    · exact ⟨s, j - tri s, by omega, by omega, by omega⟩
/-- The list when the first K small triangles of row r are put, and when r rows are. -/
def putK (to : Nat → Nat → Nat) (v : Nat → Nat → Int) (r : Nat) (y : List Int) : Nat → List Int
  | 0 => y
  | k + 1 => (putK to v r y k).set (to r k) (v r k)
def putR (to : Nat → Nat → Nat) (v : Nat → Nat → Int) (y : List Int) : Nat → List Int
  | 0 => y
  | r + 1 => putK to v r (putR to v y r) (r + 1)
theorem putK_len (to : Nat → Nat → Nat) (v : Nat → Nat → Int) (r : Nat) (y : List Int) : ∀ k, (putK to v r y k).length = y.length
  | 0 => rfl
  | k + 1 => by unfold putK; rw [List.length_set]; exact putK_len to v r y k
theorem putR_len (to : Nat → Nat → Nat) (v : Nat → Nat → Int) (y : List Int) : ∀ r, (putR to v y r).length = y.length
  | 0 => rfl
  | r + 1 => by unfold putR; rw [putK_len]; exact putR_len to v y r
/-- Where a small triangle goes: to a place of its own, and each place is reached. -/
def Moves (s : Nat) (to : Nat → Nat → Nat) : Prop :=
  (∀ r k, r < s → k ≤ r → to r k < tri s) ∧ (∀ r k r' k', r < s → k ≤ r → r' < s → k' ≤ r' → to r k = to r' k' → r = r' ∧ k = k') ∧ ∀ j, j < tri s → ∃ r k, r < s ∧ k ≤ r ∧ to r k = j
theorem putK_nth {s : Nat} {to : Nat → Nat → Nat} {v : Nat → Nat → Int} (hm : Moves s to) {y : List Int} (hy : y.length = tri s) {r : Nat} (hr : r < s) {r' k' : Nat} (hr' : r' < s) (hk' : k' ≤ r') :
    ∀ K, K ≤ r + 1 → nth (putK to v r y K) (to r' k') = if r' = r ∧ k' < K then v r k' else nth y (to r' k')
  | 0, _ => by rw [if_neg (by omega)]; rfl
  | K + 1, hK => by
    have ih := putK_nth hm hy hr hr' hk' K (by omega) (v := v)
    have hlt := hm.1 r K hr (by omega)
    unfold putK
    rw [nth_set _ (by rw [putK_len, hy]; exact hlt), ih]
    by_cases e : to r' k' = to r K
    · obtain ⟨e1, e2⟩ := hm.2.1 r' k' r K hr' hk' hr (by omega) e
      rw [if_pos e, if_pos ⟨e1, by omega⟩, e2]
    · rw [if_neg e]
      by_cases e2 : r' = r ∧ k' < K
      · rw [if_pos e2, if_pos ⟨e2.1, by omega⟩]
      · rw [if_neg e2, if_neg]
        rintro ⟨a, b⟩
        have : k' = K := by omega
        subst a this
        exact e rfl
theorem putR_nth {s : Nat} {to : Nat → Nat → Nat} {v : Nat → Nat → Int} (hm : Moves s to) {y : List Int} (hy : y.length = tri s) {r' k' : Nat} (hr' : r' < s) (hk' : k' ≤ r') :
    ∀ r, r ≤ s → nth (putR to v y r) (to r' k') = if r' < r then v r' k' else nth y (to r' k')
  | 0, _ => by rw [if_neg (by omega)]; rfl
  | r + 1, hr => by
    have ih := putR_nth hm hy hr' hk' r (by omega) (v := v)
    unfold putR
    rw [putK_nth hm (by rw [putR_len, hy]) (by omega) hr' hk' (r + 1) (Nat.le_refl _), ih]
    by_cases e : r' = r
    · subst e
      rw [if_pos ⟨rfl, by omega⟩, if_pos (by omega)]
    · rw [if_neg (fun h => e h.1)]
      by_cases e2 : r' < r
      · rw [if_pos e2, if_pos (by omega)]
      · rw [if_neg e2, if_neg (by omega)]
/-- All is put: what was there before does not matter. -/
theorem putR_any {s : Nat} {to : Nat → Nat → Nat} {v : Nat → Nat → Int} (hm : Moves s to) {y y' : List Int} (hy : y.length = tri s) (hy' : y'.length = tri s) : putR to v y s = putR to v y' s := by
  refine list_ext_nth (by rw [putR_len, putR_len, hy, hy']) fun j hj => ?_
  rw [putR_len, hy] at hj
  obtain ⟨r, k, hr, hk, rfl⟩ := hm.2.2 j hj
  rw [putR_nth hm hy hr hk s (Nat.le_refl _), putR_nth hm hy' hr hk s (Nat.le_refl _), if_pos hr, if_pos hr]
/-- Turned: and reflected. -/
def toR (s r k : Nat) : Nat := tri (s - 1 - r + k) + (s - 1 - r)
def toM (r k : Nat) : Nat := tri r + (r - k)
theorem moves_R (s : Nat) : Moves s (toR s) := by
  refine ⟨fun r k hr hk => tri_lt (by omega) (by omega), fun r k r' k' hr hk hr' hk' h => ?_, fun j hj => ?_⟩
  · obtain ⟨h1, h2⟩ := tri_inj (by omega) (by omega) h
    omega
  · obtain ⟨r, k, hr, hk, rfl⟩ := tri_split hj
    refine ⟨s - 1 - k, r - k, by omega, by omega, ?_⟩
    unfold toR
    rw [show s - 1 - (s - 1 - k) = k by omega, show k + (r - k) = r by omega]
theorem moves_M (s : Nat) : Moves s toM := by
  refine ⟨fun r k hr hk => tri_lt hr (by omega), fun r k r' k' hr hk hr' hk' h => ?_, fun j hj => ?_⟩
  · obtain ⟨h1, h2⟩ := tri_inj (by omega) (by omega) h
    omega
  · obtain ⟨r, k, hr, hk, rfl⟩ := tri_split hj
    exact ⟨r, r - k, hr, by omega, by unfold toM; rw [show r - (r - k) = k by omega]⟩
/-- The label at a small triangle, and the same with 0 and 1 exchanged. -/
def vAt (x : List Int) (r k : Nat) : Int := nth x (tri r + k)
def flipI (x : Int) : Int := if x ≤ 1 then 1 - x else x
def vFl (x : List Int) (r k : Nat) : Int := flipI (nth x (tri r + k))
def zeroN (s : Nat) : List Int := List.replicate (tri s) 0
end Go.Proofs.Ytdkcngilmdpbgaa
