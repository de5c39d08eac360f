/-
  A number inserted into a tableau: what both sides answer (plain lists). Conditions: none but those named.
-/
import Derived.Test.YtfaegfhbbkicgaaInsM
import Derived.Test.YtfaegfhbbkicgaaTab
import Derived.Test.YtfaegfhbbkicgaaShpL
namespace Go.Proofs.Ytfaegfhbbkicgaa
open Go.RowKit

theorem rI_row (ls : List (List Int)) (x : Int) : ∀ i k, (li (rI ls x i) k).length = (li ls k).length
  | 0, k => rfl
  | i + 1, k => by
    show (li ((rI ls x i).set i _) k).length = _
    by_cases hi : i < (rI ls x i).length
    · rw [li_set hi]
      by_cases e : k = i
      · rw [if_pos e, List.length_set, e]
      · rw [if_neg e]; exact rI_row ls x i k
    · rw [List.set_eq_of_length_le (by omega)]
      exact rI_row ls x i k
theorem li_app_le (ls : List (List Int)) (t : List Int) (k : Nat) : (li (ls ++ [t]) k).length ≤ (li ls k).length + t.length := by
  rcases Nat.lt_or_ge k ls.length with h | h
  · rw [li_app_lt h]; omega
  · by_cases e : k = ls.length
    · subst e; rw [li_app_at]; omega
    · have : li (ls ++ [t]) k = [] := by simp [li, List.getD, List.getElem?_append_right h]; rw [List.getElem?_eq_none (by simp; omega)]; rfl
      rw [this]; simp
theorem ins_few {ls : List (List Int)} {x : Int} {out : List (List Int)} {row : Nat} (h : InsIs ls x out row) : out.length ≤ ls.length + 1 ∧ ∀ k, (li out k).length ≤ (li ls k).length + 1 := by
  rcases h with ⟨a, _, _, d⟩ | ⟨a, _, d⟩
  · subst d
    refine ⟨by simp [rI_len], fun k => ?_⟩
    rw [li_set (by rw [rI_len]; exact a)]
    by_cases e : k = row
    · rw [if_pos e, e]; simp
    · rw [if_neg e, rI_row]; omega
  · subst d
    refine ⟨by simp [rI_len], fun k => ?_⟩
    have := li_app_le (rI ls x row) [xI ls x row] k
    rw [rI_row] at this
    simpa using this
theorem tab_few {ls : List (List Int)} (h : tabB ls = true) : ls.length ≤ 16 ∧ ∀ k, (li ls k).length ≤ 16 := by
  have hp := (tabB_iff ls).1 h
  have h1 := hp.1.1
  rw [lensL_len] at h1
  have h2 : ∀ k, k < ls.length → nth (lensL ls) k ≤ 16 := by
    intro k
    induction k with
    | zero => intro hk; exact (hp.1.2 0 (by rw [lensL_len]; exact hk)).2
    | succ k ih => intro hk; have := (hp.1.2 (k + 1) (by rw [lensL_len]; exact hk)).2; have := ih (by omega); simp only [prevS] at *; omega
  refine ⟨h1, fun k => ?_⟩
  rcases Nat.lt_or_ge k ls.length with hk | hk
  · have := h2 k hk; rw [lensL_nth hk] at this; omega
  · have : li ls k = [] := by simp [li, List.getD, List.getElem?_eq_none hk]
    rw [this]; simp
def insB (ls : List (List Int)) (x : Int) : Bool := tabB ls && decide (0 ≤ x ∧ x ≤ 20) && tabB (insOut ls x)
def insL (ls : List (List Int)) (x : Int) : List (List Int) := if insB ls x then insOut ls x else []
def insKI (ls : List (List Int)) (x : Int) : Int := if insB ls x then ((insRow ls x : Nat) : Int) else 0
theorem ins_no {ls : List (List Int)} {x : Int} (h : insB ls x = false) : insL ls x = [] ∧ insKI ls x = 0 := by simp [insL, insKI, h]
theorem ins_yes {ls : List (List Int)} {x : Int} (h : insB ls x = true) : insL ls x = insOut ls x ∧ insKI ls x = ((insRow ls x : Nat) : Int) := by simp [insL, insKI, h]
theorem insL_short (ls : List (List Int)) (x : Int) : ShortL (insL ls x) := by
  cases h : insB ls x with
  | false => rw [(ins_no h).1]; exact ShortL.of (by simp) (fun t ht => by cases ht)
  | true =>
    rw [(ins_yes h).1]
    simp only [insB, Bool.and_eq_true] at h
    obtain ⟨h1, h2⟩ := tab_few h.2
    refine ShortL.of (by omega) (fun t ht => ?_)
    obtain ⟨k, hk, rfl⟩ := List.getElem_of_mem ht
    have := h2 k
    rw [li_get hk] at this
    omega
/-- What a call answers that makes a list of lists, with a number and whether there is one. -/
def FreshLIB (w w' : World) (e : Ending) (ls : List (List Int)) (k : Int) (b : Bool) : Prop :=
  ∃ A n c, e = .returned (.tuple #[.slice A n c, .int .i64 k, .bool b]) ∧ OwnL w' w.heap.size w'.heap.size A n c ls ∧ Below w.heap.size w w'
theorem FreshLIB.nil_ret {w w' : World} (h : Below w.heap.size w w') : FreshLIB w w' (.returned (.tuple #[.slice none 0 0, .int .i64 0, .bool false])) [] 0 false := ⟨none, 0, 0, rfl, OwnL.nil _ _ _, h⟩
end Go.Proofs.Ytfaegfhbbkicgaa
