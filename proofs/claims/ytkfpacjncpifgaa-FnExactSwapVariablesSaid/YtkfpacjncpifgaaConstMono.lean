/-
  Constants and monomials, on both sides. Conditions: lengths below 2^40.
-/
import Derived.Test.YtkfpacjncpifgaaPolyOkI
import Derived.Test.YtkfpacjncpifgaaTermMark
import Derived.Laws.CopyOwn
namespace Go.Proofs.Ytkfpacjncpifgaa
open Go.RowKit

theorem OwnT.single {w : World} {lo hi n c : Nat} {A : Option Addr} {xs : List Int} (h : Own w lo hi A n c xs) (hi' : hi ≤ w.heap.size) (hlo : lo ≤ w.heap.size) (x : Int) :
    OwnT (w.alloc (.cells #[.slice A n c, .int .i64 x] 68)) lo (w.heap.size + 1) (some ⟨w.heap.size, 0, none⟩) 1 1 [(xs, x)] := by
  refine ⟨fun _ => (A, n, c), rfl, ?_, fun k hk => by simp [Value.ownBlock] at hk; omega, fun j hj => ?_, fun j b hj hb => ?_, fun i j b hij hj _ => absurd hj (by omega)⟩
  · exact row_eq (World.ownsRow_lit w #[.slice A n c, .int .i64 x] 1 hlo (by unfold maxLen; omega) rfl) rfl
  · obtain rfl : j = 0 := by omega
    exact (h.below ((Below.refl w.heap.size w).alloc (Nat.le_refl _) _) hi').wide (Nat.le_refl _) (by omega)
  · have := h.lt b hb
    simp [Value.ownBlock]; omega
theorem FreshT.one {w w' : World} {A : Option Addr} {n c : Nat} {xs : List Int} (hb : Below w.heap.size w w') (h : Own w' w.heap.size w'.heap.size A n c xs) (x : Int) :
    FreshT w (w'.alloc (.cells #[.slice A n c, .int .i64 x] 68)) (.returned (.slice (some ⟨w'.heap.size, 0, none⟩) 1 1)) [(xs, x)] :=
  ⟨_, _, _, rfl, by have := OwnT.single h (Nat.le_refl _) hb.size x; simpa using this, hb.alloc hb.size _⟩
theorem FreshT.nil_ret {w w' : World} (h : Below w.heap.size w w') : FreshT w w' (.returned (.slice none 0 0)) [] := ⟨none, 0, 0, rfl, OwnT.nil _ _ _, h⟩

/-- The polynomial k. -/
def constPoly (k : Int) : List Tm := if k ≠ 0 ∧ -1000000 ≤ k ∧ k ≤ 1000000 then [(List.replicate 7 0, k)] else []
theorem constPoly_no {k : Int} (h : ¬ (k ≠ 0 ∧ -1000000 ≤ k ∧ k ≤ 1000000)) : constPoly k = [] := by unfold constPoly; rw [if_neg h]
theorem constPoly_yes {k : Int} (h : k ≠ 0 ∧ -1000000 ≤ k ∧ k ≤ 1000000) : constPoly k = [(List.replicate 7 0, k)] := by unfold constPoly; rw [if_pos h]
/-- What is short: at most one term of seven exponents. -/
def shortT (ts : List Tm) : Prop := ts = [] ∨ ∃ e x, ts = [(e, x)] ∧ e.length = 7
theorem shortT.le {ts : List Tm} (h : shortT ts) : ts.length ≤ 1099511627776 := by
  rcases h with rfl | ⟨e, x, rfl, _⟩ <;> simp
theorem shortT.lens {ts : List Tm} (h : shortT ts) (k : Nat) : (tm ts k).1.length ≤ 1099511627776 := by
  rcases h with rfl | ⟨e, x, rfl, h7⟩
  · simp [tm]
  · match k with
    | 0 => show e.length ≤ _; omega
    | k + 1 => simp [tm, List.getD]
theorem shortT.ends {ts : List Tm} (h : shortT ts) (k : Nat) : 0 ≤ endT (ts.take k) 1 ∧ endT (ts.take k) 1 ≤ 1099511627776 := by
  rcases h with rfl | ⟨e, x, rfl, h7⟩
  · simp [endT]
  · match k with
    | 0 => simp [endT]
    | k + 1 => simp [endT, h7]
theorem constPoly_short (k : Int) : shortT (constPoly k) := by
  by_cases h : k ≠ 0 ∧ -1000000 ≤ k ∧ k ≤ 1000000
  · exact .inr ⟨_, _, constPoly_yes h, by simp⟩
  · exact .inl (constPoly_no h)

/-- Exponents with zeros behind them, seven in all: the first k of e. -/
def fillE (e : List Int) (k : Nat) : List Int := e.take k ++ List.replicate (7 - k) 0
theorem fillE_len {e : List Int} {k : Nat} (h : k ≤ e.length) (h7 : k ≤ 7) : (fillE e k).length = 7 := by simp [fillE]; omega
theorem fillE_succ {e : List Int} {k : Nat} (h : k < e.length) (h7 : k < 7) : (fillE e k).set k (nth e k) = fillE e (k + 1) := by
  unfold fillE
  have hl : (e.take k).length = k := by simp; omega
  rw [List.set_append_right _ _ (by omega), hl, Nat.sub_self, show 7 - k = (7 - (k + 1)) + 1 by omega, List.replicate_succ, List.set_cons_zero, take_nth h, List.append_assoc]
  rfl
/-- The polynomial of one term. -/
def monoPoly (e : List Int) : List Tm := if e.length ≤ 7 ∧ smallE e = true then [(fillE e e.length, 1)] else []
theorem monoPoly_no {e : List Int} (h : ¬ (e.length ≤ 7 ∧ smallE e = true)) : monoPoly e = [] := by unfold monoPoly; rw [if_neg h]
theorem monoPoly_yes {e : List Int} (h : e.length ≤ 7 ∧ smallE e = true) : monoPoly e = [(fillE e e.length, 1)] := by unfold monoPoly; rw [if_pos h]
theorem monoPoly_short (e : List Int) : shortT (monoPoly e) := by
  by_cases h : e.length ≤ 7 ∧ smallE e = true
  · exact .inr ⟨_, _, monoPoly_yes h, fillE_len (Nat.le_refl _) h.1⟩
  · exact .inl (monoPoly_no h)
theorem smallE_fill {e : List Int} (h7 : e.length ≤ 7) : smallE (fillE e e.length) = smallE e := by
  unfold fillE smallE
  rw [List.take_of_length_le (Nat.le_refl _), List.all_append]
  have : (List.replicate (7 - e.length) (0 : Int)).all (fun x => decide (0 ≤ x ∧ x ≤ 24)) = true := by
    rw [List.all_eq_true]; intro x hx; rw [List.eq_of_mem_replicate hx]; decide
  rw [this, Bool.and_true]

theorem Try.infoIntS : (Try.prog.info? 3).map (·.size) = some 1 := by kernel_rfl
/-- 'copy(d, s)' into a slice of the call's own that is at least as long. -/
theorem wpList_copy_ints {ops : Array Oper} {rest : List Oper} {o : Oper} {a : Act} {w : World} {Q : Exit → Act → World → Prop} (hgd : o.guard = none) (d s : Operand)
    (ho : o.op = .call { callee := .builtin .copy, args := #[d, s], argTypes := #[31, 31] }) (g n' : Nat) (A : Option Addr) (n c : Nat) (hd : a.eval d = .slice (some ⟨g, 0, none⟩) n' n') (hs : a.eval s = .slice A n c)
    (lo hi : Nat) (ys e : List Int) (hown : Own w lo hi (some ⟨g, 0, none⟩) n' n' ys) (hsi : SI w A n e) (hle : n ≤ n')
    (hK : ∀ w', Own w' lo hi (some ⟨g, 0, none⟩) n' n' (e ++ ys.drop n) → w.grownBy w' (some g) → wpList Try.prog ops Q rest (a.put o.dst (goInt n)) w') : wpList Try.prog ops Q (o :: rest) a w := by
  have hl := hsi.1
  by_cases h0 : n = 0
  · subst h0
    obtain rfl : e = [] := List.eq_nil_of_length_eq_zero hl
    exact Go.wpList_copy_nothing hgd d s 31 31 ho 3 Try.underlying31 Try.infoIntS (some ⟨g, 0, none⟩) A n' n' 0 c hd hs (by simp) (hK w (by simpa using hown) (World.grownBy.refl _ _))
  · obtain ⟨b, off, rfl, hb, hc⟩ := hsi.2 (by omega)
    rcases hown.1.2 with ⟨hx, _⟩ | ⟨g', cap, cur, hv, hlo, hg, hnc, hcm, hcs, htake⟩
    · cases hx
    · have hv' := hv
      simp only [Value.slice.injEq, Option.some.injEq, Addr.mk.injEq, and_true, true_and] at hv'
      obtain ⟨rfl, rfl⟩ := hv'
      have hyl := hown.len
      have hcur : cur.toList = ys.map (Value.int .i64) := by rw [← htake, List.take_of_length_le (by simp; omega)]
      have hE : (cur.toList.take 0 ++ (e.map (Value.int .i64) ++ cur.toList.drop (0 + (e.map (Value.int .i64)).length))).toArray = ((e ++ ys.drop n).map (Value.int .i64)).toArray := by
        rw [hcur]; simp [hl, List.map_drop]
      refine Go.wpList_copy_own hgd d s 31 31 ho 3 Try.underlying31 Try.infoIntS g 0 n' n' ⟨b, off, none⟩ n c hd hs cur 3 hg (e.map (Value.int .i64)) (by simp [hl]; exact (Nat.min_eq_left hle).symm) ?_ (by simp [hl]; omega) (ints_oneCell _ _) ?_
      · intro j v hj
        have hjl : j < e.length := by
          rcases Nat.lt_or_ge j e.length with h | h
          · exact h
          · rw [List.getElem?_eq_none (by simpa using h)] at hj; cases hj
        rw [List.getElem?_map, nth_get? hjl] at hj
        rw [add_pt, hc j (by omega)]
        exact hj
      · rw [hE]
        have hk := hK (w.setRow g ((e ++ ys.drop n).map (Value.int .i64)).toArray) ⟨⟨by simp; omega, .inr ⟨g, n', _, rfl, hlo, setRow_heap w g cur _ _ (0, 0) hg, Nat.le_refl _, hcm, by simp; omega, List.take_of_length_le (by simp; omega)⟩⟩, hown.2⟩ (grownBy_setRow w g _)
        simpa [hl] using hk

end Go.Proofs.Ytkfpacjncpifgaa
