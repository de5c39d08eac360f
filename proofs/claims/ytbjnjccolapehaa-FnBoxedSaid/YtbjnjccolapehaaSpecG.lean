/-
  Contracts of words and of what comes of them: the specification's side. Conditions: lengths below 2^40.
-/
import Derived.Test.YtbjnjccolapehaaSpecA
import Derived.Test.YtbjnjccolapehaaSpecF
namespace Go.Proofs.Ytbjnjccolapehaa
open Go.RowKit

/-- Two places exchanged. -/
def swapL (l : List Int) (i j : Nat) : List Int := (l.set i (nth l j)).set j (nth l i)
theorem swapL_len (l : List Int) (i j : Nat) : (swapL l i j).length = l.length := by simp [swapL]
theorem swapL_take {l : List Int} {i j n : Nat} (hi : i < n) (hj : j < n) : (swapL l i j).take n = swapL (l.take n) i j := by
  unfold swapL
  rw [List.take_set, List.take_set, nth_take hi, nth_take hj]

/-- Is the list a word for a size. -/
def wordP (a : Int) (ws : List Int) : Prop := 1 ≤ a ∧ a ≤ 7 ∧ ws.length ≤ 60 ∧ ∀ k, k < ws.length → 0 ≤ nth ws k ∧ nth ws k ≤ a - 2
def wordB (a : Int) (ws : List Int) : Bool := decide (1 ≤ a) && decide (a ≤ 7) && decide (ws.length ≤ 60) && (List.range ws.length).all fun k => decide (0 ≤ nth ws k) && decide (nth ws k ≤ a - 2)
theorem wordB_iff (a : Int) (ws : List Int) : wordB a ws = true ↔ wordP a ws := by
  simp [wordB, wordP, and_assoc]
theorem wordB_P {a : Int} {ws : List Int} (h : wordB a ws = true) : wordP a ws := (wordB_iff a ws).1 h
theorem wordB_true {a : Int} {ws : List Int} (h : wordP a ws) : wordB a ws = true := (wordB_iff a ws).2 h
theorem wordB_false {a : Int} {ws : List Int} (h : ¬ wordP a ws) : wordB a ws = false := by
  cases hb : wordB a ws with
  | false => rfl
  | true => exact absurd (wordB_P hb) h

/-- What comes of the first k numbers of a word: all of the swaps, or those that make longer. -/
def playL (ws : List Int) (all : Bool) : Nat → List Int
  | 0 => idL 7
  | k + 1 => if all = true ∨ nth (playL ws all k) (nth ws k).toNat < nth (playL ws all k) ((nth ws k).toNat + 1) then swapL (playL ws all k) (nth ws k).toNat ((nth ws k).toNat + 1) else playL ws all k
theorem playL_len (ws : List Int) (all : Bool) (k : Nat) : (playL ws all k).length = 7 := by
  induction k with
  | zero => rfl
  | succ k ih => unfold playL; split <;> simp [swapL_len, ih]
theorem playL_hit {ws : List Int} {all : Bool} {k i : Nat} (hi : (nth ws k).toNat = i) (h : all = true ∨ nth (playL ws all k) i < nth (playL ws all k) (i + 1)) : playL ws all (k + 1) = swapL (playL ws all k) i (i + 1) := by
  subst hi
  show (if all = true ∨ nth (playL ws all k) (nth ws k).toNat < nth (playL ws all k) ((nth ws k).toNat + 1) then swapL (playL ws all k) (nth ws k).toNat ((nth ws k).toNat + 1) else playL ws all k) = _
  rw [if_pos h]
theorem playL_miss {ws : List Int} {all : Bool} {k i : Nat} (hi : (nth ws k).toNat = i) (h : ¬ (all = true ∨ nth (playL ws all k) i < nth (playL ws all k) (i + 1))) : playL ws all (k + 1) = playL ws all k := by
  subst hi
  show (if all = true ∨ nth (playL ws all k) (nth ws k).toNat < nth (playL ws all k) ((nth ws k).toNat + 1) then swapL (playL ws all k) (nth ws k).toNat ((nth ws k).toNat + 1) else playL ws all k) = _
  rw [if_neg h]
theorem idL_take {n : Nat} (h : n ≤ 7) : (idL 7).take n = idL n := by
  rw [idL, idL, ← List.map_take, List.take_range, Nat.min_eq_left h]
theorem Drawn.own {w w' : World} {lo hi n c : Nat} {A : Option Addr} {xs : List Int} (hd : Drawn w w') (h : Own w lo hi A n c xs) : Own w' lo hi A n c xs := h.drawn hd

/-- What WordPerm (all) and DemazurePerm answer. -/
def playPerm (all : Bool) (a : Int) (ws : List Int) : List Int := if wordB a ws = true then (playL ws all ws.length).take a.toNat else []
theorem playPerm_no {all : Bool} {a : Int} {ws : List Int} (h : wordB a ws = false) : playPerm all a ws = [] := by unfold playPerm; rw [if_neg (by rw [h]; decide)]
theorem playPerm_yes {all : Bool} {m : Nat} {ws : List Int} (h : wordB (m : Int) ws = true) : playPerm all (m : Int) ws = (playL ws all ws.length).take m := by unfold playPerm; rw [if_pos h, Int.toNat_natCast]
theorem playPerm_small (all : Bool) (a : Int) (ws : List Int) : (playPerm all a ws).length ≤ 1099511627775 := by
  unfold playPerm
  split
  · rw [List.length_take, playL_len]; omega
  · simp
end Go.Proofs.Ytbjnjccolapehaa
