/-
  The program's own test for permutations, as arrays: contracts. Conditions: the length is at most 2^40.
-/
import Derived.Test.YtdappakjbclffaaPermSpec
namespace Go.Proofs.Ytdappakjbclffaa
open Go.RowKit

/-- An array of integers as a value. -/
abbrev arrC (l : List Int) : Array Value := #[.int .i64 (nth l 0), .int .i64 (nth l 1), .int .i64 (nth l 2), .int .i64 (nth l 3), .int .i64 (nth l 4), .int .i64 (nth l 5), .int .i64 (nth l 6)]
abbrev arr (l : List Int) : Value := .agg (arrC l)

theorem isPermSize_any (a : Int) (w : World) :
    Calls Try.prog 58 #[.int .i64 a] w fun e w' => e = .returned (.bool (decide (1 ≤ a) && decide (a ≤ 7))) ∧ w = w' := by
  by_cases h1 : 1 ≤ a
  · by_cases h2 : a ≤ 7
    · go_enter Try.func58, Try.ntmps58
      go_wp2
      go_ret
      exact ⟨ret_bool (by simp [h1, h2]), rfl⟩
    · go_enter Try.func58, Try.ntmps58
      go_wp2
      go_ret
      exact ⟨ret_bool (by simp [h2]), rfl⟩
  · have h1' : a < 1 := by omega
    go_enter Try.func58, Try.ntmps58
    go_wp2
    go_ret
    exact ⟨ret_bool (by simp; intro; omega), rfl⟩
theorem isPermSize_yes {a : Int} (h : 1 ≤ a) (h' : a ≤ 7) (w : World) :
    Calls Try.prog 58 #[.int .i64 a] w fun e w' => e = .returned (.bool true) ∧ w = w' := by
  have := isPermSize_any a w
  simpa [h, h'] using this
theorem isPermSize_no {a : Int} (h : a < 1 ∨ 7 < a) (w : World) :
    Calls Try.prog 58 #[.int .i64 a] w fun e w' => e = .returned (.bool false) ∧ w = w' := by
  have e : (decide (1 ≤ a) && decide (a ≤ 7)) = false := by simp; omega
  have := isPermSize_any a w
  rwa [e] at this

/-- The array of a permutation, k places filled: behind them each number stands at its place. -/
def fillA (xs : List Int) (k : Nat) : List Int := (List.range 7).map fun (j : Nat) => if j < k then nth xs j else (j : Int)
theorem fillA_len (xs : List Int) (k : Nat) : (fillA xs k).length = 7 := by simp [fillA]
theorem fillA_nth (xs : List Int) (k j : Nat) (hj : j < 7) : nth (fillA xs k) j = if j < k then nth xs j else (j : Int) := by
  rw [nth_get (by rw [fillA_len]; exact hj)]
  simp [fillA]
/-- Which numbers are among the first k. -/
def seenC (xs : List Int) (k : Nat) : Array Value := ((List.range 7).map fun (v : Nat) => Value.bool (hasB (xs.take k) (v : Int))).toArray
theorem lt7 {k : Nat} (h : k < 7) : k = 0 ∨ k = 1 ∨ k = 2 ∨ k = 3 ∨ k = 4 ∨ k = 5 ∨ k = 6 := by omega
theorem arrC_get (l : List Int) (k : Nat) (h : k < 7) : (arrC l)[k]? = some (.int .i64 (nth l k)) := by
  rcases lt7 h with rfl | rfl | rfl | rfl | rfl | rfl | rfl <;> rfl
theorem arrC_set (l : List Int) (k : Nat) (h : k < 7) (x : Int) (hl : l.length = 7) : (arrC l).setIfInBounds k (.int .i64 x) = arrC (l.set k x) := by
  match l, hl with
  | [a, b, c, d, e, f, g], _ =>
    rcases lt7 h with rfl | rfl | rfl | rfl | rfl | rfl | rfl <;> rfl
theorem arrC_fill (xs : List Int) (k : Nat) (h : k < 7) : (arrC (fillA xs k)).setIfInBounds k (.int .i64 (nth xs k)) = arrC (fillA xs (k + 1)) := by
  rw [arrC_set _ k h _ (fillA_len _ _)]
  congr 1
  apply List.ext_getElem (by simp [fillA])
  intro j h1 h2
  rw [List.getElem_set]
  simp only [fillA, List.getElem_map, List.getElem_range]
  by_cases e : k = j
  · subst e; simp
  · rw [if_neg e]
    by_cases h3 : j < k
    · rw [if_pos h3, if_pos (by omega)]
    · rw [if_neg h3, if_neg (by omega)]
theorem seenC_zero (xs : List Int) : seenC xs 0 = #[.bool false, .bool false, .bool false, .bool false, .bool false, .bool false, .bool false] := by
  simp [seenC, hasB, List.range_succ]
theorem seenC_get (xs : List Int) (k : Nat) (x : Int) (h0 : 0 ≤ x) (h7 : x < 7) : (seenC xs k)[x.toNat]? = some (.bool (hasB (xs.take k) x)) := by
  have e : ((x.toNat : Nat) : Int) = x := by omega
  simp only [seenC, List.getElem?_toArray, List.getElem?_map]
  rw [List.getElem?_range (by omega)]
  simp [e]
theorem seenC_set (xs : List Int) (k : Nat) (hk : k < xs.length) (h0 : 0 ≤ nth xs k) : (seenC xs k).setIfInBounds (nth xs k).toNat (.bool true) = seenC xs (k + 1) := by
  apply Array.ext_getElem?
  intro j
  rw [Array.getElem?_setIfInBounds]
  by_cases e : (nth xs k).toNat = j
  · rw [if_pos e]
    by_cases hj : j < 7
    · rw [if_pos (by simp [seenC]; omega)]
      simp only [seenC, List.getElem?_toArray, List.getElem?_map]
      rw [List.getElem?_range hj, take_nth hk]
      have : ((j : Nat) : Int) = nth xs k := by omega
      simp [hasB, this]
    · rw [if_neg (by simp [seenC]; omega)]
      symm
      apply Array.getElem?_eq_none
      simp [seenC]; omega
  · rw [if_neg e]
    by_cases hj : j < 7
    · simp only [seenC, List.getElem?_toArray, List.getElem?_map]
      rw [List.getElem?_range hj, take_nth hk]
      have : ¬ ((j : Nat) : Int) = nth xs k := by omega
      simp [hasB, this]
    · rw [Array.getElem?_eq_none (by simp [seenC]; omega), Array.getElem?_eq_none (by simp [seenC]; omega)]

abbrev zeroC : Array Value := #[.int .i64 0, .int .i64 0, .int .i64 0, .int .i64 0, .int .i64 0, .int .i64 0, .int .i64 0]

theorem zeroC_one : zeroC.all (·.oneCell') = true := by simp [Value.oneCell']
theorem arrC_one (l : List Int) : (arrC l).all (·.oneCell') = true := by simp [Value.oneCell']
end Go.Proofs.Ytdappakjbclffaa
