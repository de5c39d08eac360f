/-
  Two tableaux of a word: the model. No conditions.
-/
import Derived.Test.YtfaegfhbbkicgaaInsN
namespace Go.Proofs.Ytfaegfhbbkicgaa
open Go.RowKit

/-- A number more behind a row, or a new row. -/
def grownL (ts : List (List Int)) (row : Nat) (k : Int) : List (List Int) := if row = ts.length then ts ++ [[k]] else ts.set row (li ts row ++ [k])
def rskP (xs : List Int) : Nat → List (List Int)
  | 0 => []
  | k + 1 => insOut (rskP xs k) (nth xs k)
def rskQ (xs : List Int) : Nat → List (List Int)
  | 0 => []
  | k + 1 => grownL (rskQ xs k) (insRow (rskP xs k) (nth xs k)) (k : Int)
def entryP (x : Int) : Prop := 0 ≤ x ∧ x ≤ 20
def rskB (xs : List Int) : Bool := decide (xs.length ≤ 16) && xs.all fun x => decide (0 ≤ x ∧ x ≤ 20)
theorem rskB_iff (xs : List Int) : rskB xs = true ↔ xs.length ≤ 16 ∧ ∀ j, j < xs.length → 0 ≤ nth xs j ∧ nth xs j ≤ 20 := by
  simp only [rskB, Bool.and_eq_true, decide_eq_true_eq, List.all_eq_true]
  refine and_congr_right fun _ => ⟨fun h j hj => ?_, fun h x hx => ?_⟩
  · rw [nth_get hj]; exact h _ (List.getElem_mem hj)
  · obtain ⟨j, hj, rfl⟩ := List.mem_iff_getElem.1 hx
    rw [← nth_get hj]; exact h j hj
def rskA (xs : List Int) : List (List Int) := if rskB xs = true then rskP xs xs.length else []
def rskC (xs : List Int) : List (List Int) := if rskB xs = true then rskQ xs xs.length else []
theorem rsk_no {xs : List Int} (h : rskB xs = false) : rskA xs = [] ∧ rskC xs = [] := by simp [rskA, rskC, h]
theorem rsk_yes {xs : List Int} (h : rskB xs = true) : rskA xs = rskP xs xs.length ∧ rskC xs = rskQ xs xs.length := by simp [rskA, rskC, h]
theorem grownL_len {ts : List (List Int)} {row : Nat} {k : Int} : (grownL ts row k).length = if row = ts.length then ts.length + 1 else ts.length := by
  unfold grownL; split <;> simp
theorem grownL_row {ts : List (List Int)} {row : Nat} (k : Int) (hr : row ≤ ts.length) (j : Nat) : (li (grownL ts row k) j).length ≤ (li ts j).length + 1 := by
  unfold grownL
  split
  · have := li_app_le ts [k] j; simpa using this
  · rw [li_set (by omega)]
    split
    · rename_i h; subst h; simp
    · omega
theorem insIs_len {ls out : List (List Int)} {x : Int} {row : Nat} (h : InsIs ls x out row) : row ≤ ls.length ∧ out.length = if row = ls.length then ls.length + 1 else ls.length := by
  rcases h with ⟨h1, _, _, rfl⟩ | ⟨h1, _, rfl⟩
  · refine ⟨by omega, ?_⟩
    rw [if_neg (by omega), List.length_set, rI_len]
  · refine ⟨by omega, ?_⟩
    rw [if_pos h1, List.length_append, rI_len]; simp
/-- One step: both grow at one row. -/
theorem rsk_step {xs : List Int} {k row : Nat} {out : List (List Int)} (h : InsIs (rskP xs k) (nth xs k) out row) : rskP xs (k + 1) = out ∧ rskQ xs (k + 1) = grownL (rskQ xs k) row (k : Int) := by
  obtain ⟨h1, h2⟩ := ins_is h
  exact ⟨h2, by rw [rskQ, h1]⟩
/-- What holds of both in between. -/
structure RskK (xs : List Int) (k : Nat) : Prop where
  len : (rskQ xs k).length = (rskP xs k).length
  few : (rskP xs k).length ≤ k
  row : ∀ j, (li (rskP xs k) j).length ≤ k
  row2 : ∀ j, (li (rskQ xs k) j).length ≤ k
theorem RskK.zero (xs : List Int) : RskK xs 0 := ⟨rfl, Nat.le_refl _, fun j => by simp [rskP, li], fun j => by simp [rskQ, li]⟩
theorem RskK.next {xs : List Int} {k row : Nat} {out : List (List Int)} (h : RskK xs k) (hi : InsIs (rskP xs k) (nth xs k) out row) : RskK xs (k + 1) := by
  obtain ⟨e1, e2⟩ := rsk_step hi
  obtain ⟨l1, l2⟩ := insIs_len hi
  obtain ⟨f1, f2⟩ := ins_few hi
  have := h.few
  refine ⟨?_, ?_, fun j => ?_, fun j => ?_⟩
  · rw [e1, e2, grownL_len, l2, h.len]
  · rw [e1]; omega
  · rw [e1]; have := f2 j; have := h.row j; omega
  · rw [e2]; have := grownL_row (ts := rskQ xs k) (k : Int) (by rw [h.len]; exact l1) j; have := h.row2 j; omega
/-- What a call that makes two lists of lists hands back. -/
def FreshLL (w w' : World) (e : Ending) (ls us : List (List Int)) (b : Bool) : Prop :=
  ∃ A n c A2 n2 c2, e = .returned (.tuple #[.slice A n c, .slice A2 n2 c2, .bool b]) ∧ OwnL w' w.heap.size w'.heap.size A n c ls ∧ OwnL w' w.heap.size w'.heap.size A2 n2 c2 us ∧ Below w.heap.size w w'
theorem FreshLL.nil_ret {w w' : World} {b : Bool} (h : Below w.heap.size w w') : FreshLL w w' (.returned (.tuple #[.slice none 0 0, .slice none 0 0, .bool b])) [] [] b := ⟨none, 0, 0, none, 0, 0, rfl, OwnL.nil _ _ _, OwnL.nil _ _ _, h⟩
end Go.Proofs.Ytfaegfhbbkicgaa
