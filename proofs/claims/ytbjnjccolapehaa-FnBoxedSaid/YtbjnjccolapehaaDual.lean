/-
  The dual of a shape in a box, on both sides. Conditions: lengths below 2^40.
-/
import Derived.Test.YtbjnjccolapehaaStrI
namespace Go.Proofs.Ytbjnjccolapehaa
open Go.RowKit

/-- The rows nowhere rise. -/
theorem shape_down {xs : List Int} (h : isShapeP xs) : ∀ j i, i ≤ j → nth xs j ≤ nth xs i
  | 0, i, hi => by obtain rfl : i = 0 := by omega
                   exact Int.le_refl _
  | j + 1, i, hi => by
    by_cases e : i = j + 1
    · subst e; exact Int.le_refl _
    · have h1 := shape_down h j i (by omega)
      by_cases hj : j + 1 < xs.length
      · have := (h.2 (j + 1) hj).2
        have e2 : prevS xs (j + 1) = nth xs j := rfl
        omega
      · rw [nth_out (by omega)]; exact (shape_range h i).1
/-- The first j rows of the dual: d less the rows from behind. -/
def duaN (xs : List Int) (d : Int) (k j : Nat) : List Int := (List.range j).map fun (t : Nat) => d - nth xs (k - 1 - t)
theorem duaN_len (xs : List Int) (d : Int) (k j : Nat) : (duaN xs d k j).length = j := by simp [duaN]
theorem duaN_succ (xs : List Int) (d : Int) (k j : Nat) : duaN xs d k (j + 1) = duaN xs d k j ++ [d - nth xs (k - 1 - j)] := by simp [duaN, List.range_succ]
theorem duaN_nth {xs : List Int} {d : Int} {k j t : Nat} (h : t < j) : nth (duaN xs d k j) t = d - nth xs (k - 1 - t) := by
  rw [nth_get (by rw [duaN_len]; exact h)]; simp [duaN]
theorem duaN_nonneg {xs : List Int} {k m : Nat} (h : boxP xs (k : Int) (m : Int)) (j : Nat) : 0 ≤ nth (duaN xs ((m : Int) - (k : Int)) k k) j := by
  by_cases hj : j < k
  · rw [duaN_nth hj]
    have := shape_down h.2.2.2.2.1 (k - 1 - j) 0 (Nat.zero_le _)
    have := h.2.2.2.2.2.2
    omega
  · rw [nth_out (by rw [duaN_len]; omega)]; exact Int.le_refl _
theorem duaN_down {xs : List Int} {k m : Nat} (h : boxP xs (k : Int) (m : Int)) (i j : Nat) (hij : i ≤ j) : nth (duaN xs ((m : Int) - (k : Int)) k k) j ≤ nth (duaN xs ((m : Int) - (k : Int)) k k) i := by
  by_cases hj : j < k
  · rw [duaN_nth hj, duaN_nth (by omega)]
    have := shape_down h.2.2.2.2.1 (k - 1 - i) (k - 1 - j) (by omega)
    omega
  · rw [nth_out (xs := duaN xs _ k k) (k := j) (by rw [duaN_len]; omega)]; exact duaN_nonneg h i
/-- What DualShape answers. -/
def duaS (xs : List Int) (k m : Int) : List Int := if boxB xs k m = true then (duaN xs (m - k) k.toNat k.toNat).take (bareN (duaN xs (m - k) k.toNat k.toNat) k.toNat) else []
theorem dua_no {xs : List Int} {k m : Int} (h : boxB xs k m = false) : duaS xs k m = [] := by unfold duaS; rw [if_neg (by rw [h]; decide)]
theorem dua_yes {xs : List Int} {k : Nat} {m : Int} (h : boxB xs (k : Int) m = true) : duaS xs (k : Int) m = (duaN xs (m - (k : Int)) k k).take (bareN (duaN xs (m - (k : Int)) k k) k) := by unfold duaS; rw [if_pos h, Int.toNat_natCast]
theorem duaS_small (xs : List Int) (k m : Int) : (duaS xs k m).length ≤ 1099511627775 := by
  unfold duaS
  split
  · rename_i h
    have hp := boxB_P h
    have h1 := hp.2.1; have h2 := hp.2.2.2.1
    rw [List.length_take, duaN_len]
    omega
  · simp
/-- The rows when i of them are taken. -/
def rowU (xs : List Int) (d : Int) (k i : Nat) : List Int := (List.range 16).map fun (t : Nat) => if t < i then d - nth xs (k - 1 - t) else 0
theorem rowU_len (xs : List Int) (d : Int) (k i : Nat) : (rowU xs d k i).length = 16 := by simp [rowU]
theorem rowU_nth {xs : List Int} {d : Int} {k i t : Nat} (h : t < 16) : nth (rowU xs d k i) t = if t < i then d - nth xs (k - 1 - t) else 0 := by
  rw [nth_get (by rw [rowU_len]; exact h)]; simp [rowU]
theorem rowU_step {xs : List Int} {d : Int} {k i : Nat} (hi : i < 16) : (rowU xs d k i).set i (d - nth xs (k - 1 - i)) = rowU xs d k (i + 1) := by
  refine list_ext_nth (by simp [rowU_len]) fun t ht => ?_
  have ht' : t < 16 := by simpa [rowU_len] using ht
  rw [nth_set _ (by rw [rowU_len]; omega), rowU_nth ht', rowU_nth ht']
  by_cases h : t = i
  · rw [if_pos h, if_pos (by omega), h]
  · rw [if_neg h]
    by_cases h2 : t < i
    · rw [if_pos h2, if_pos (by omega)]
    · rw [if_neg h2, if_neg (by omega)]
theorem rowU_zero (xs : List Int) (d : Int) (k : Nat) : arrD (rowU xs d k 0) = zero16 := by
  have h : ∀ t, t < 16 → nth (rowU xs d k 0) t = 0 := fun t ht => by rw [rowU_nth ht, if_neg (by omega)]
  simp only [arrD, h 0 (by omega), h 1 (by omega), h 2 (by omega), h 3 (by omega), h 4 (by omega), h 5 (by omega), h 6 (by omega), h 7 (by omega), h 8 (by omega), h 9 (by omega), h 10 (by omega), h 11 (by omega), h 12 (by omega), h 13 (by omega), h 14 (by omega), h 15 (by omega)]
theorem rowU_all {xs : List Int} {d : Int} {k : Nat} (hk : k ≤ 16) (j : Nat) : nth (rowU xs d k k) j = nth (duaN xs d k k) j := by
  by_cases hj : j < k
  · rw [rowU_nth (by omega), duaN_nth hj, if_pos hj]
  · rw [nth_out (xs := duaN xs d k k) (by rw [duaN_len]; omega)]
    by_cases h16 : j < 16
    · rw [rowU_nth h16, if_neg hj]
    · rw [nth_out (by rw [rowU_len]; omega)]
theorem row_bare {xs : List Int} {k m q : Nat} (h : boxP xs (k : Int) (m : Int)) (h1 : ∀ j, j < q → 0 < nth (rowU xs ((m : Int) - (k : Int)) k k) j) (h2 : q = 16 ∨ ¬ 0 < nth (rowU xs ((m : Int) - (k : Int)) k k) q) :
    (rowU xs ((m : Int) - (k : Int)) k k).take q = (duaN xs ((m : Int) - (k : Int)) k k).take (bareN (duaN xs ((m : Int) - (k : Int)) k k) k) := by
  have hk7 : k ≤ 7 := by have := h.2.1; have := h.2.2.2.1; omega
  have hqq : q = bareN (duaN xs ((m : Int) - (k : Int)) k k) k := bare_one (duaN_len _ _ _ _) (duaN_nonneg h) (duaN_down h) (fun j hj => by rw [← rowU_all (by omega)]; exact h1 j hj) (by
    rcases h2 with e | e
    · subst e; rw [nth_out (by rw [duaN_len]; omega)]; decide
    · rw [← rowU_all (by omega)]; exact e)
  have hqd : q ≤ k := by rw [hqq]; exact bareN_le _ _
  rw [← hqq]
  refine list_ext_nth (by rw [List.length_take, List.length_take, rowU_len, duaN_len]; omega) fun t ht => ?_
  have htq : t < q := by rw [List.length_take] at ht; omega
  rw [nth_take htq, nth_take htq, rowU_all (by omega)]
end Go.Proofs.Ytbjnjccolapehaa
