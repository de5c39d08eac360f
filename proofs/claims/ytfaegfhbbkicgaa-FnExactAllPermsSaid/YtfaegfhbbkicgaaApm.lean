/-
  All permutations, in the order of their codes: the model of both sides. No conditions.
-/
import Derived.Test.YtfaegfhbbkicgaaPocS
import Derived.Test.YtfaegfhbbkicgaaSpecF
import Derived.Test.YtfaegfhbbkicgaaShpL
import Derived.Test.YtfaegfhbbkicgaaHook
namespace Go.Proofs.Ytfaegfhbbkicgaa
open Go.RowKit

/-- The digits of a number, the last one first, put into a list. -/
def dgt (n : Nat) : Nat → Nat → List Int → List Int
  | 0, _, l => l
  | k + 1, r, l => dgt n k (r / (n - k)) (l.set k ((r % (n - k) : Nat) : Int))
def codeAt (n i : Nat) : List Int := dgt n n i (List.replicate n 0)
def apm (n i : Nat) : List Int := pocPerm (codeAt n i)
def permL (n : Nat) : Nat → List (List Int)
  | 0 => []
  | i + 1 => permL n i ++ [apm n i]
def apIn (a : Int) : Bool := decide (1 ≤ a ∧ a ≤ 5)
def allP (a : Int) : List (List Int) := if apIn a = true then permL a.toNat (factN a.toNat) else []
theorem allP_no {a : Int} (h : ¬ (1 ≤ a ∧ a ≤ 5)) : allP a = [] := by unfold allP; rw [if_neg (by simp [apIn]; omega)]
theorem allP_yes {n : Nat} (h1 : 1 ≤ n) (h5 : n ≤ 5) : allP (n : Int) = permL n (factN n) := by unfold allP; rw [if_pos (by simp [apIn]; omega), Int.toNat_natCast]
theorem dgt_len (n : Nat) : ∀ k r l, (dgt n k r l).length = l.length
  | 0, _, _ => rfl
  | k + 1, r, l => by rw [dgt, dgt_len n k]; simp
theorem nth_setA {l : List Int} {k : Nat} (x : Int) (hk : k < l.length) (j : Nat) : nth (l.set k x) j = if j = k then x else nth l j := by
  by_cases e : j = k
  · subst e; simp [nth, List.getD, hk]
  · rw [if_neg e]
    have e' : ¬ k = j := fun h => e h.symm
    simp [nth, List.getD, List.getElem?_set, e']
theorem dgt_ok {n : Nat} : ∀ (k r : Nat) (l : List Int), k ≤ n → l.length = n → (∀ j, k ≤ j → j < n → 0 ≤ nth l j ∧ nth l j ≤ (n : Int) - 1 - j) → ∀ j, j < n → 0 ≤ nth (dgt n k r l) j ∧ nth (dgt n k r l) j ≤ (n : Int) - 1 - j
  | 0, _, _, _, _, h => fun j hj => h j (Nat.zero_le _) hj
  | k + 1, r, l, hk, hl, h => dgt_ok k _ _ (by omega) (by simp [hl]) (fun j h1 h2 => by
      rw [nth_setA _ (by omega)]
      by_cases e : j = k
      · subst e
        rw [if_pos rfl]
        have := Nat.mod_lt r (show 0 < n - j by omega)
        omega
      · rw [if_neg e]
        exact h j (by omega) h2)
theorem codeAt_len (n i : Nat) : (codeAt n i).length = n := by rw [codeAt, dgt_len]; simp
theorem codeAt_ok (n i : Nat) : ∀ j, j < n → 0 ≤ nth (codeAt n i) j ∧ nth (codeAt n i) j ≤ (n : Int) - 1 - j :=
  dgt_ok n i _ (Nat.le_refl _) (by simp) (fun j h1 h2 => absurd h2 (by omega))
theorem apm_dec {n i : Nat} (h1 : 1 ≤ n) (h7 : n ≤ 7) : apm n i = decL (codeAt n i) n n := by
  have hl := codeAt_len n i
  rw [apm, pocPerm_yes (by omega) (by omega) (by rw [hl]; exact codeAt_ok n i), hl]
theorem apm_P {n i : Nat} (h1 : 1 ≤ n) (h7 : n ≤ 7) : isPermP (apm n i) := by
  rw [apm_dec h1 h7]
  exact (decL_P (codeAt_ok n i) n (Nat.le_refl _)).perm h1 h7
theorem apm_len {n i : Nat} (h1 : 1 ≤ n) (h7 : n ≤ 7) : (apm n i).length = n := by rw [apm_dec h1 h7, decL_len]
theorem permL_len (n : Nat) : ∀ i, (permL n i).length = i
  | 0 => rfl
  | i + 1 => by rw [permL, List.length_append, permL_len n i]; rfl
theorem permL_each {n : Nat} (h1 : 1 ≤ n) (h7 : n ≤ 7) : ∀ i, ∀ t ∈ permL n i, t.length ≤ 100
  | 0, t, h => by cases h
  | i + 1, t, h => by
    rw [permL] at h
    rcases List.mem_append.1 h with h | h
    · exact permL_each h1 h7 i t h
    · rw [List.mem_singleton] at h; subst h; rw [apm_len h1 h7]; omega
theorem fact120 {n : Nat} (h : n ≤ 5) : factN n ≤ 120 := Nat.le_trans (factN_mono h) (by decide)
theorem allP_short (a : Int) : ShortL (allP a) := by
  by_cases h : 1 ≤ a ∧ a ≤ 5
  · obtain ⟨n, rfl⟩ : ∃ n : Nat, a = n := ⟨a.toNat, by omega⟩
    rw [allP_yes (by omega) (by omega)]
    exact ShortL.of (by rw [permL_len]; have := fact120 (n := n) (by omega); omega) (permL_each (by omega) (by omega) _)
  · rw [allP_no h]
    exact ShortL.of (by simp) (by simp)
theorem apm_fill {n i : Nat} (h1 : 1 ≤ n) (h7 : n ≤ 7) : (fillA (apm n i) n).take n = apm n i := by
  have hl := apm_len (i := i) h1 h7
  have := fill_take_len (xs := apm n i) (by omega)
  rwa [hl] at this
end Go.Proofs.Ytfaegfhbbkicgaa
