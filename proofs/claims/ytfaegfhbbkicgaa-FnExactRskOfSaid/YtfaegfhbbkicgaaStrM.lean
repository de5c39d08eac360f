/-
  Strings of zeros and ones and their shapes: the model of both sides. No conditions.
-/
import Derived.Test.YtfaegfhbbkicgaaSopB
import Derived.Test.YtfaegfhbbkicgaaGrassP
namespace Go.Proofs.Ytfaegfhbbkicgaa
open Go.RowKit

/-- Is the list a string. -/
def strP (xs : List Int) : Prop := 1 ≤ xs.length ∧ xs.length ≤ 7 ∧ ∀ k, k < xs.length → 0 ≤ nth xs k ∧ nth xs k ≤ 1
def strB (xs : List Int) : Bool := decide (1 ≤ xs.length) && decide (xs.length ≤ 7) && (List.range xs.length).all fun k => decide (0 ≤ nth xs k ∧ nth xs k ≤ 1)
theorem strB_iff (xs : List Int) : strB xs = true ↔ strP xs := by simp [strB, strP, and_assoc]
theorem strB_P {xs : List Int} (h : strB xs = true) : strP xs := (strB_iff xs).1 h
theorem strB_true {xs : List Int} (h : strP xs) : strB xs = true := (strB_iff xs).2 h
theorem strB_false {xs : List Int} (h : ¬ strP xs) : strB xs = false := by
  cases hb : strB xs with
  | false => rfl
  | true => exact absurd (strB_P hb) h
/-- How many zeros, how many others there are among the first k numbers. -/
def zerN (xs : List Int) : Nat → Nat
  | 0 => 0
  | k + 1 => if nth xs k = 0 then zerN xs k + 1 else zerN xs k
def oneN (xs : List Int) : Nat → Nat
  | 0 => 0
  | k + 1 => if nth xs k = 0 then oneN xs k else oneN xs k + 1
theorem zer_one (xs : List Int) : ∀ k, zerN xs k + oneN xs k = k
  | 0 => rfl
  | k + 1 => by have := zer_one xs k; unfold zerN oneN; split <;> omega
theorem one_le (xs : List Int) : ∀ {j k : Nat}, j ≤ k → oneN xs j ≤ oneN xs k
  | j, 0, h => by obtain rfl : j = 0 := by omega
                  exact Nat.le_refl _
  | j, k + 1, h => by
    by_cases e : j = k + 1
    · subst e; exact Nat.le_refl _
    · have := one_le xs (j := j) (k := k) (by omega)
      have e2 : oneN xs (k + 1) = if nth xs k = 0 then oneN xs k else oneN xs k + 1 := rfl
      rw [e2]
      split <;> omega
theorem sum_one {xs : List Int} : ∀ {k : Nat}, (∀ j, j < k → 0 ≤ nth xs j ∧ nth xs j ≤ 1) → sumN xs k = (oneN xs k : Int)
  | 0, _ => rfl
  | k + 1, h => by
    have h1 := sum_one (k := k) fun j hj => h j (by omega)
    have h2 := h k (by omega)
    have e : sumN xs (k + 1) = sumN xs k + nth xs k := rfl
    have e2 : oneN xs (k + 1) = if nth xs k = 0 then oneN xs k else oneN xs k + 1 := rfl
    rw [e, e2, h1]
    split <;> omega
/-- A row for each one, the last one's first. -/
def shpL (xs : List Int) : Nat → List Int
  | 0 => []
  | k + 1 => if nth xs k = 0 then shpL xs k else (zerN xs k : Int) :: shpL xs k
theorem shpL_zero {xs : List Int} {k : Nat} (h : nth xs k = 0) : shpL xs (k + 1) = shpL xs k := if_pos h
theorem shpL_one {xs : List Int} {k : Nat} (h : nth xs k ≠ 0) : shpL xs (k + 1) = (zerN xs k : Int) :: shpL xs k := if_neg h
theorem zerN_zero {xs : List Int} {k : Nat} (h : nth xs k = 0) : zerN xs (k + 1) = zerN xs k + 1 := if_pos h
theorem zerN_one {xs : List Int} {k : Nat} (h : nth xs k ≠ 0) : zerN xs (k + 1) = zerN xs k := if_neg h
theorem oneN_zero {xs : List Int} {k : Nat} (h : nth xs k = 0) : oneN xs (k + 1) = oneN xs k := if_pos h
theorem oneN_one {xs : List Int} {k : Nat} (h : nth xs k ≠ 0) : oneN xs (k + 1) = oneN xs k + 1 := if_neg h
theorem shpL_len (xs : List Int) : ∀ k, (shpL xs k).length = oneN xs k
  | 0 => rfl
  | k + 1 => by
    by_cases h : nth xs k = 0
    · rw [shpL_zero h, oneN_zero h, shpL_len xs k]
    · rw [shpL_one h, oneN_one h, List.length_cons, shpL_len xs k]
theorem nth_cons0 (x : Int) (l : List Int) : nth (x :: l) 0 = x := rfl
theorem nth_consS (x : Int) (l : List Int) (j : Nat) : nth (x :: l) (j + 1) = nth l j := by simp [nth, List.getD]
theorem shpL_range (xs : List Int) : ∀ k j, 0 ≤ nth (shpL xs k) j ∧ nth (shpL xs k) j ≤ (zerN xs k : Int)
  | 0, j => by simp [shpL, nth, zerN]
  | k + 1, j => by
    have ih := shpL_range xs k
    by_cases h : nth xs k = 0
    · rw [shpL_zero h, zerN_zero h]
      have := ih j
      omega
    · rw [shpL_one h, zerN_one h]
      cases j with
      | zero => rw [nth_cons0]; omega
      | succ j => rw [nth_consS]; exact ih j
theorem shpL_down (xs : List Int) : ∀ k i j, i ≤ j → nth (shpL xs k) j ≤ nth (shpL xs k) i
  | 0, i, j, _ => by simp [shpL, nth]
  | k + 1, i, j, hij => by
    have ih := shpL_down xs k
    by_cases h : nth xs k = 0
    · rw [shpL_zero h]; exact ih i j hij
    · rw [shpL_one h]
      cases i with
      | zero =>
        rw [nth_cons0]
        cases j with
        | zero => rw [nth_cons0]; exact Int.le_refl _
        | succ j => rw [nth_consS]; exact (shpL_range xs k j).2
      | succ i =>
        cases j with
        | zero => omega
        | succ j => rw [nth_consS, nth_consS]; exact ih i j (by omega)
/-- The sixteen places when j numbers are read: n numbers in all. -/
def rowL (xs : List Int) (n j : Nat) : List Int := List.replicate (oneN xs n - oneN xs j) 0 ++ (shpL xs j ++ List.replicate (16 - oneN xs n) 0)
theorem rowL_len {xs : List Int} {n j : Nat} (hj : j ≤ n) (hn : n ≤ 16) : (rowL xs n j).length = 16 := by
  have h1 := one_le xs hj
  have h2 := zer_one xs n
  unfold rowL
  rw [List.length_append, List.length_append, List.length_replicate, List.length_replicate, shpL_len]
  omega
theorem rowL_start {xs : List Int} {n : Nat} (hn : n ≤ 16) : rowL xs n 0 = List.replicate 16 0 := by
  have h2 := zer_one xs n
  show List.replicate (oneN xs n - 0) 0 ++ ([] ++ List.replicate (16 - oneN xs n) 0) = _
  rw [List.nil_append, List.replicate_append_replicate]
  congr 1; omega
theorem rowL_same {xs : List Int} {n j : Nat} (h : nth xs j = 0) : rowL xs n (j + 1) = rowL xs n j := by
  unfold rowL; rw [shpL_zero h, oneN_zero h]
theorem rowL_set {xs : List Int} {n j : Nat} (hj : j < n) (h : nth xs j ≠ 0) : (rowL xs n j).set (oneN xs n - oneN xs j - 1) (zerN xs j : Int) = rowL xs n (j + 1) := by
  have h1 := one_le xs (j := j + 1) (k := n) hj
  rw [oneN_one h] at h1
  unfold rowL
  rw [shpL_one h, oneN_one h]
  have e : oneN xs n - oneN xs j = (oneN xs n - (oneN xs j + 1)) + 1 := by omega
  rw [e, List.replicate_succ', Nat.add_sub_cancel, List.append_assoc, List.set_append_right _ _ (by simp)]
  simp
theorem rowL_end (xs : List Int) (n : Nat) : rowL xs n n = shpL xs n ++ List.replicate (16 - oneN xs n) 0 := by unfold rowL; simp
theorem rowL_nth (xs : List Int) (n k : Nat) : nth (rowL xs n n) k = nth (shpL xs n) k := by
  rw [rowL_end]
  by_cases h : k < (shpL xs n).length
  · simp [nth, List.getD, List.getElem?_append, h]
  · rw [nth_out (xs := shpL xs n) (by omega)]
    unfold nth
    rw [List.getD_eq_getElem?_getD, List.getElem?_append_right (by omega), List.getElem?_replicate]
    split <;> rfl
/-- The rows of a string. -/
def bareS (xs : List Int) (n : Nat) : List Int := (shpL xs n).take (bareN (shpL xs n) (oneN xs n))
/-- What ShapeOfString answers. -/
def sosS (xs : List Int) : List Int := if strB xs = true then bareS xs xs.length else []
def sosK (xs : List Int) : Int := if strB xs = true then (oneN xs xs.length : Int) else 0
theorem sos_no {xs : List Int} (h : strB xs = false) : sosS xs = [] ∧ sosK xs = 0 := by unfold sosS sosK; rw [if_neg (by rw [h]; decide), if_neg (by rw [h]; decide)]; exact ⟨rfl, rfl⟩
theorem sos_yes {xs : List Int} (h : strB xs = true) : sosS xs = bareS xs xs.length ∧ sosK xs = (oneN xs xs.length : Int) := by unfold sosS sosK; rw [if_pos h, if_pos h]; exact ⟨rfl, rfl⟩
theorem sosS_small (xs : List Int) : (sosS xs).length ≤ 1099511627775 := by
  unfold sosS
  split
  · rename_i h
    have h7 := (strB_P h).2.1
    have h1 := zer_one xs xs.length
    unfold bareS
    rw [List.length_take, shpL_len]
    omega
  · simp
/-- The string of a shape when i ones are written. -/
def soF (xs : List Int) (k m : Nat) : Nat → List Int
  | 0 => List.replicate m 0
  | i + 1 => (soF xs k m i).set ((i : Int) + nth xs (k - 1 - i)).toNat 1
theorem soF_len (xs : List Int) (k m : Nat) : ∀ i, (soF xs k m i).length = m
  | 0 => by simp [soF]
  | i + 1 => by unfold soF; rw [List.length_set]; exact soF_len xs k m i
/-- What StringOfShape answers. -/
def strOf (xs : List Int) (k m : Int) : List Int := if boxB xs k m = true then soF xs k.toNat m.toNat k.toNat else []
theorem strOf_no {xs : List Int} {k m : Int} (h : boxB xs k m = false) : strOf xs k m = [] := by unfold strOf; rw [if_neg (by rw [h]; decide)]
theorem strOf_yes {xs : List Int} {k m : Nat} (h : boxB xs (k : Int) (m : Int) = true) : strOf xs (k : Int) (m : Int) = soF xs k m k := by unfold strOf; rw [if_pos h, Int.toNat_natCast, Int.toNat_natCast]
theorem strOf_small (xs : List Int) (k m : Int) : (strOf xs k m).length ≤ 1099511627775 := by
  unfold strOf
  split
  · rename_i h
    have hp := boxB_P h
    rw [soF_len]
    have := hp.2.1
    omega
  · simp
theorem box_place {xs : List Int} {k m i : Nat} (hp : boxP xs (k : Int) (m : Int)) (hi : i < k) : 0 ≤ (i : Int) + nth xs (k - 1 - i) ∧ (i : Int) + nth xs (k - 1 - i) < (m : Int) := by
  have hs := hp.2.2.2.2.1
  have h0 := (shape_range hs (k - 1 - i)).1
  have h1 : ∀ t, nth xs t ≤ (m : Int) - (k : Int) := by
    intro t
    induction t with
    | zero => exact hp.2.2.2.2.2.2
    | succ t ih =>
      by_cases h : t + 1 < xs.length
      · have h2 := (hs.2 (t + 1) h).2
        have e : prevS xs (t + 1) = nth xs t := rfl
        omega
      · rw [nth_out (by omega)]
        have := hp.2.2.2.1
        omega
  have := h1 (k - 1 - i)
  omega
end Go.Proofs.Ytfaegfhbbkicgaa
