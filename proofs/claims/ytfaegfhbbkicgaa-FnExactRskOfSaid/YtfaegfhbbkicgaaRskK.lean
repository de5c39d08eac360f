/-
  Two lists of lists of one call, no block of both: what a change of one leaves of the other. No conditions.
-/
import Derived.Test.YtfaegfhbbkicgaaInsQ
import Derived.Test.YtfaegfhbbkicgaaRskM
namespace Go.Proofs.Ytfaegfhbbkicgaa
open Go.RowKit

theorem OwnLE.wide2 {E : Nat → Sv} {w : World} {lo hi lo' hi' n c : Nat} {A : Option Addr} {ls : List (List Int)} (h : OwnLE E w lo hi A n c ls) (h1 : lo' ≤ lo) (h2 : hi ≤ hi') : OwnLE E w lo' hi' A n c ls := by
  obtain ⟨e1, e2, e3, e4, e5, e6⟩ := h
  refine ⟨e1, ⟨e2.1, ?_⟩, fun k hk => Nat.lt_of_lt_of_le (e3 k hk) h2, fun j hj => (e4 j hj).wide h1 h2, e5, e6⟩
  rcases e2.2 with hn | ⟨g, cap, cur, e, hl, rest⟩
  · exact .inl hn
  · exact .inr ⟨g, cap, cur, e, Nat.le_trans h1 hl, rest⟩
/-- Each block is apart from one of the two. -/
def Disj (E1 : Nat → Sv) (A1 : Option Addr) (n1 : Nat) (E2 : Nat → Sv) (A2 : Option Addr) (n2 : Nat) : Prop := ∀ k, Apart E1 A1 n1 k ∨ Apart E2 A2 n2 k
theorem Disj.symm {E1 E2 : Nat → Sv} {A1 A2 : Option Addr} {n1 n2 : Nat} (h : Disj E1 A1 n1 E2 A2 n2) : Disj E2 A2 n2 E1 A1 n1 := fun k => (h k).symm
theorem OwnLE.same {E : Nat → Sv} {w w' : World} {lo hi n c : Nat} {A : Option Addr} {ls : List (List Int)} (h : OwnLE E w lo hi A n c ls) (hg : ∀ k, k < hi → ¬ Apart E A n k → w'.heap[k]? = w.heap[k]?) : OwnLE E w' lo hi A n c ls := by
  obtain ⟨e1, e2, e3, e4, e5, e6⟩ := h
  refine ⟨e1, ⟨e2.1, ?_⟩, e3, fun j hj => (e4 j hj).same fun g e => hg g ((e4 j hj).lt g (by rw [ownB]; exact e)).2 (fun ha => ha.2 j hj (by unfold sv; rw [ownB]; exact e)), e5, e6⟩
  rcases e2.2 with hn | ⟨g, cap, cur, e, hb, hq, rest⟩
  · exact .inl hn
  · refine .inr ⟨g, cap, cur, e, hb, (hg g (e3 g ?_) ?_).trans hq, rest⟩
    · injection e with e1; rw [e1]; rfl
    · injection e with e1; rw [e1]; exact fun ha => ha.1 rfl
/-- The one changes: the other stays. -/
theorem OwnLE.keepL {E1 E1' E2 : Nat → Sv} {A1 A1' A2 : Option Addr} {n1 n1' n2 lo hi c2 : Nat} {w w' : World} {us : List (List Int)} (h : OwnLE E2 w lo hi A2 n2 c2 us) (hhi : hi ≤ w.heap.size) (hd : Disj E1 A1 n1 E2 A2 n2) (hk : KpL E1 A1 n1 w E1' A1' n1' w') : OwnLE E2 w' lo hi A2 n2 c2 us :=
  h.same fun k hlt hna => hk.same k (by omega) ((hd k).resolve_right hna)
theorem Disj.next {E1 E1' E2 : Nat → Sv} {A1 A1' A2 : Option Addr} {n1 n1' n2 lo hi c2 : Nat} {w w' : World} {us : List (List Int)} (hd : Disj E1 A1 n1 E2 A2 n2) (h : OwnLE E2 w lo hi A2 n2 c2 us) (hhi : hi ≤ w.heap.size) (hk : KpL E1 A1 n1 w E1' A1' n1' w') : Disj E1' A1' n1' E2 A2 n2 := fun k => by
  by_cases hlt : k < w.heap.size
  · rcases hd k with h1 | h1
    · exact .inl (hk.apart k hlt h1)
    · exact .inr h1
  · exact .inr (h.apart_new (by omega))
theorem KpL.any0 {E F E' : Nat → Sv} {A' : Option Addr} {n' : Nat} {w w' : World} (h : KpL E none 0 w E' A' n' w') : KpL F none 0 w E' A' n' w' :=
  ⟨h.size, fun k hk ha => h.apart k hk ⟨ha.1, fun j hj => absurd hj (by omega)⟩, fun k hk ha => h.same k hk ⟨ha.1, fun j hj => absurd hj (by omega)⟩⟩
/-- insertByRule at any tableau, none too. -/
theorem insRuleX_any (E : Nat → Sv) (A : Option Addr) (n c : Nat) (ls : List (List Int)) (x : Int) (lo : Nat) (w : World) (ho : OwnLE E w lo w.heap.size A n c ls) (h0 : n = 0 → A = none ∧ c = 0) (hlo : lo ≤ w.heap.size) (hn : n ≤ 1099511627776) (hne : ∀ k, k < n → (li ls k).length ≤ 1099511627776) :
    Calls Try.prog 148 #[.slice A n c, .int .i64 x, .func (.func 89) #[] #[]] w fun e w' => ∃ A' n' c' row out E', e = .returned (.tuple #[.slice A' n' c', .int .i64 ((row : Nat) : Int)]) ∧ InsIs ls x out row ∧ OwnLE E' w' lo w'.heap.size A' n' c' out ∧ Below lo w w' ∧ KpL E A n w E' A' n' w' := by
  by_cases hz : n = 0
  · obtain ⟨rfl, rfl⟩ := h0 hz
    subst hz
    obtain rfl : ls = [] := List.eq_nil_of_length_eq_zero ho.1
    refine (insRuleNil_any x w).mono ?_
    rintro e w' ⟨A', c', E', rfl, hi, hE, hb, hk⟩
    exact ⟨A', 1, c', 0, [[x]], E', rfl, hi, hE.wide2 hlo (Nat.le_refl _), hb.mono hlo, hk.any0⟩
  · obtain ⟨g, rfl, _⟩ := ho.place (by omega)
    exact insRuleK_any E g n c ls x lo w ho hlo hn hne
end Go.Proofs.Ytfaegfhbbkicgaa
