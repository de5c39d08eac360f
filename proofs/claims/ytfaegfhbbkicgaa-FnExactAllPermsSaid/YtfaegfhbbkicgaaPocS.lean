/-
  Permutations found from codes: the model, the specification's side. Conditions: lengths below 2^40.
-/
import Derived.Test.YtfaegfhbbkicgaaDecode
import Derived.Test.YtfaegfhbbkicgaaDelete
namespace Go.Proofs.Ytfaegfhbbkicgaa
open Go.RowKit

/-- The numbers below m that are not in the list, ascending. -/
def remL (out : List Int) : Nat → List Int
  | 0 => []
  | v + 1 => if hasB out (v : Int) = true then remL out v else remL out v ++ [(v : Int)]
theorem remL_hit {out : List Int} {v : Nat} (h : hasB out (v : Int) = true) : remL out (v + 1) = remL out v := by
  show (if _ then _ else _) = _; rw [if_pos h]
theorem remL_miss {out : List Int} {v : Nat} (h : hasB out (v : Int) = false) : remL out (v + 1) = remL out v ++ [(v : Int)] := by
  show (if _ then _ else _) = _; rw [if_neg (by rw [h]; decide)]
theorem remL_len (out : List Int) : ∀ m, (remL out m).length = unused out m
  | 0 => rfl
  | m + 1 => by
    cases h : hasB out (m : Int) with
    | true => rw [remL_hit h, unused_hit h, remL_len out m]
    | false => rw [remL_miss h, unused_miss h, List.length_append, remL_len out m]; rfl
theorem unused_mono (out : List Int) {a b : Nat} (h : a ≤ b) : unused out a ≤ unused out b := by
  induction b with
  | zero => rw [show a = 0 by omega]; exact Nat.le_refl _
  | succ b ih =>
    rcases Nat.lt_or_ge a (b + 1) with h1 | h1
    · have := ih (by omega)
      cases hb : hasB out (b : Int) with
      | true => rw [unused_hit hb]; exact this
      | false => rw [unused_miss hb]; omega
    · rw [show a = b + 1 by omega]; exact Nat.le_refl _
theorem remL_at {out : List Int} {v : Nat} (hv : hasB out (v : Int) = false) : ∀ m, v < m → nth (remL out m) (unused out v) = (v : Int)
  | 0, h => absurd h (by omega)
  | m + 1, h => by
    by_cases e : v = m
    · subst e
      rw [remL_miss hv, ← remL_len]; exact nth_snoc_eq
    · have ih := remL_at hv m (by omega)
      cases hm : hasB out (m : Int) with
      | true => rw [remL_hit hm]; exact ih
      | false =>
        have h1 := unused_mono out (a := v + 1) (b := m) (by omega)
        rw [unused_miss hv] at h1
        rw [remL_miss hm, nth_snoc_lt (by rw [remL_len]; omega)]; exact ih
theorem remL_find {out : List Int} {i : Nat} : ∀ m, i < unused out m → ∃ v, v < m ∧ hasB out (v : Int) = false ∧ unused out v = i
  | 0, h => absurd h (by simp [unused])
  | m + 1, h => by
    cases hm : hasB out (m : Int) with
    | true =>
      rw [unused_hit hm] at h
      obtain ⟨v, h1, h2, h3⟩ := remL_find m h
      exact ⟨v, by omega, h2, h3⟩
    | false =>
      rw [unused_miss hm] at h
      rcases Nat.lt_or_ge i (unused out m) with h1 | h1
      · obtain ⟨v, h2, h3, h4⟩ := remL_find m h1
        exact ⟨v, by omega, h3, h4⟩
      · exact ⟨m, by omega, hm, by omega⟩
theorem remL_snoc_lo {out : List Int} {v : Nat} : ∀ m, m ≤ v → remL (out ++ [(v : Int)]) m = remL out m
  | 0, _ => rfl
  | m + 1, h => by
    have ih := remL_snoc_lo (out := out) (v := v) m (by omega)
    have e : hasB (out ++ [(v : Int)]) (m : Int) = hasB out (m : Int) := by
      rw [hasB_snoc]
      have : decide ((m : Int) = (v : Int)) = false := by simp; omega
      rw [this, Bool.or_false]
    show (if _ then _ else _) = (if _ then _ else _)
    rw [e, ih]
theorem delL_snoc {xs : List Int} {y : Int} {i : Nat} (h : i < xs.length) : delL (xs ++ [y]) i = delL xs i ++ [y] := by
  unfold delL
  rw [List.take_append_of_le_length (by omega), List.drop_append_of_le_length (by omega), List.append_assoc]
theorem delL_last (xs : List Int) (y : Int) : delL (xs ++ [y]) xs.length = xs := by
  unfold delL; simp
theorem remL_del {out : List Int} {v : Nat} (hv : hasB out (v : Int) = false) : ∀ m, v < m → remL (out ++ [(v : Int)]) m = delL (remL out m) (unused out v)
  | 0, h => absurd h (by omega)
  | m + 1, h => by
    by_cases e : v = m
    · subst e
      rw [remL_hit (by rw [hasB_snoc]; simp), remL_snoc_lo v (Nat.le_refl _), remL_miss hv, ← remL_len, delL_last]
    · have ih := remL_del hv m (by omega)
      have e2 : hasB (out ++ [(v : Int)]) (m : Int) = hasB out (m : Int) := by
        rw [hasB_snoc]
        have : decide ((m : Int) = (v : Int)) = false := by simp; omega
        rw [this, Bool.or_false]
      cases hm : hasB out (m : Int) with
      | true => rw [remL_hit (by rw [e2]; exact hm), remL_hit hm]; exact ih
      | false =>
        have h1 := unused_mono out (a := v + 1) (b := m) (by omega)
        rw [unused_miss hv] at h1
        rw [remL_miss (by rw [e2]; exact hm), remL_miss hm, delL_snoc (by rw [remL_len]; omega), ih]
theorem remL_nil : ∀ n, remL [] n = idL n
  | 0 => rfl
  | n + 1 => by rw [remL_miss (hasB_nil _), remL_nil n, idL_succ]
/-- The first k numbers of the permutation with a code. -/
def decL (cs : List Int) (n : Nat) : Nat → List Int
  | 0 => []
  | k + 1 => decL cs n k ++ [nth (remL (decL cs n k) n) (nth cs k).toNat]
def codeOk (cs : List Int) (n : Nat) : Prop := ∀ k, k < n → 0 ≤ nth cs k ∧ nth cs k ≤ (n : Int) - 1 - k
theorem decL_step {cs : List Int} {n k : Nat} {out : List Int} (hd : DecP cs out n k) (hk : k < n) (h0 : 0 ≤ nth cs k) (h1 : nth cs k ≤ (n : Int) - 1 - k) :
    ∃ v : Nat, v < n ∧ hasB out (v : Int) = false ∧ (unused out v : Int) = nth cs k ∧ nth (remL out n) (nth cs k).toNat = (v : Int) ∧ remL (out ++ [(v : Int)]) n = delL (remL out n) (nth cs k).toNat := by
  have h2 := hd.2.1
  obtain ⟨v, hv, hb, hu⟩ := remL_find (out := out) (i := (nth cs k).toNat) n (by omega)
  exact ⟨v, hv, hb, by omega, by rw [← hu]; exact remL_at hb n hv, by rw [← hu]; exact remL_del hb n hv⟩
theorem decL_P {cs : List Int} {n : Nat} (h : ∀ k, k < n → 0 ≤ nth cs k ∧ nth cs k ≤ (n : Int) - 1 - k) : ∀ k, k ≤ n → DecP cs (decL cs n k) n k
  | 0, _ => DecP.zero _ _
  | k + 1, hk => by
    have ih := decL_P h k (by omega)
    obtain ⟨v, hv, hb, hu, hx, _⟩ := decL_step ih (by omega) (h k (by omega)).1 (h k (by omega)).2
    have e : decL cs n (k + 1) = decL cs n k ++ [(v : Int)] := by show _ ++ [_] = _; rw [hx]
    rw [e]
    exact ih.snoc hv hb hu
theorem decL_uniq {cs ys : List Int} {n : Nat} (h : DecP cs ys n n) : ys = decL cs n n := by
  have key : ∀ k, k ≤ n → ys.take k = decL cs n k := by
    intro k
    induction k with
    | zero => intro _; rfl
    | succ k ih =>
      intro hk
      obtain ⟨v, hv, h1, h2, h3⟩ := h.2.2 k (by omega)
      have e := ih (by omega)
      rw [take_nth (by rw [h.1]; omega), h1, e]
      rw [e] at h2 h3
      show _ = _ ++ [_]
      rw [← h3, Int.toNat_natCast, remL_at h2 n hv]
  have := key n (Nat.le_refl _)
  rwa [List.take_of_length_le (by rw [h.1]; exact Nat.le_refl _)] at this
/-- What PermOfCode answers. -/
def pocB (cs : List Int) : Bool := decide (1 ≤ cs.length) && decide (cs.length ≤ 7) && (List.range cs.length).all fun k => decide (0 ≤ nth cs k ∧ nth cs k ≤ (cs.length : Int) - 1 - k)
def pocPerm (cs : List Int) : List Int := if pocB cs = true then decL cs cs.length cs.length else []
theorem pocB_iff (cs : List Int) : pocB cs = true ↔ 1 ≤ cs.length ∧ cs.length ≤ 7 ∧ ∀ k, k < cs.length → 0 ≤ nth cs k ∧ nth cs k ≤ (cs.length : Int) - 1 - k := by
  simp [pocB, and_assoc]
theorem pocPerm_yes {cs : List Int} (h1 : 1 ≤ cs.length) (h7 : cs.length ≤ 7) (h : ∀ k, k < cs.length → 0 ≤ nth cs k ∧ nth cs k ≤ (cs.length : Int) - 1 - k) : pocPerm cs = decL cs cs.length cs.length := by
  unfold pocPerm; rw [if_pos ((pocB_iff cs).2 ⟨h1, h7, h⟩)]
theorem pocPerm_no {cs : List Int} (h : ¬ (1 ≤ cs.length ∧ cs.length ≤ 7 ∧ ∀ k, k < cs.length → 0 ≤ nth cs k ∧ nth cs k ≤ (cs.length : Int) - 1 - k)) : pocPerm cs = [] := by
  unfold pocPerm; rw [if_neg (fun e => h ((pocB_iff cs).1 e))]
theorem decL_len (cs : List Int) (n : Nat) : ∀ k, (decL cs n k).length = k
  | 0 => rfl
  | k + 1 => by show (_ ++ [_]).length = _; rw [List.length_append, decL_len cs n k]; rfl
theorem pocPerm_small (cs : List Int) : (pocPerm cs).length ≤ 1099511627775 := by
  unfold pocPerm
  split
  · rename_i h; have := (pocB_iff cs).1 h; rw [decL_len]; omega
  · simp

end Go.Proofs.Ytfaegfhbbkicgaa
