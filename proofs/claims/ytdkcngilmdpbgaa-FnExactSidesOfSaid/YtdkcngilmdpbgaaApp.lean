/-
  An append of any slice, also an empty one, at a step of a region that draws its order. Conditions: lengths below 2^40.
-/
import Derived.Test.YtdkcngilmdpbgaaOwn
import Derived.Deep.AppendLies
namespace Go.Proofs.Ytdkcngilmdpbgaa
open Go.RowKit

set_option maxRecDepth 100000 in
theorem wp_append_any (w : World) {o : Oper} {a : Act} {K : Act → World → Prop} {Q : Exit → Act → World → Prop} (s x : Operand)
    (ho : o.op = .call { callee := .builtin .append, args := #[s, x], argTypes := #[22, 22] })
    (lo : Nat) (A : Option Addr) (n c : Nat) (xs : List Int) (A2 : Option Addr) (m c2 : Nat) (ys : List Int) (hs : a.eval s = .slice A n c) (hx : a.eval x = .slice A2 m c2)
    (hown : Own w lo w.heap.size A n c xs) (hsi : SI w A2 m ys) (hlo : lo ≤ w.heap.size) (hn : n ≤ 1099511627776) (hm : m ≤ 1099511627776)
    (h : ∀ A' c' w', Own w' lo w'.heap.size A' (n + m) c' (xs ++ ys) → w.grownBy w' (Value.slice A n c).ownBlock → Below lo w w' → K (a.put o.dst (.slice A' (n + m) c')) w') :
    o.wp Try.prog a w K Q := by
  obtain ⟨i0, hi, hz0, hz1, hz2⟩ := info_parts Try.infoInt
  by_cases h0 : 0 < m
  · obtain ⟨b, off, rfl, hb, hc⟩ := hsi.2 h0
    refine wp_append_lies w s x 22 ho lo 3 i0 (.int .i64 0) 1 8 Try.underlying22 hi hz0 hz1 hz2 rfl (by decide) (.slice A n c) n _ hs hown.1 ⟨b, off, none⟩ m c2 (ys.map (Value.int .i64)) hx (by simp [hsi.1]) ?_ (ints_oneCell _ _) h0 (by unfold maxLen; omega) (by omega) hlo w.heap.size rfl ?_
    · intro j u hj
      have hjl : j < ys.length := by
        rcases Nat.lt_or_ge j ys.length with h | h
        · exact h
        · rw [List.getElem?_eq_none (by simpa using h)] at hj; cases hj
      rw [List.getElem?_map, nth_get? hjl] at hj
      rw [add_pt, hc j (by have := hsi.1; omega)]
      exact hj
    · intro g cap w1 ho1 hg1 _ _
      rw [← List.map_append] at ho1
      exact h _ _ w1 (Own.of ho1) hg1 (grow_below hg1 hlo (fun k hk => (hown.1.lt k hk).1))
  · have hm0 : m = 0 := by omega
    subst hm0
    have hy : ys = [] := List.eq_nil_of_length_eq_zero hsi.1
    subst hy
    have hk0 := h A c w (by simpa using hown) (World.grownBy.refl _ _) (Below.refl _ _)
    have hrun : (Builtin.append_ #[22, 22] o.type #[.slice A n c, .slice A2 0 c2]).run Try.prog w = .ok (.slice A n c) w := by
      have hg := hown.1
      have hl0 : ∀ v, (loadCells v 0).run Try.prog w = .ok #[] w := fun v => by simp [loadCells, loadCellsFrom]
      rcases hg.2 with ⟨e, h0⟩ | ⟨g, cap, cur, e, _, hgg, hnc, _⟩
      · injection e with e1 e2 e3
        subst e1; subst e3; subst h0
        cases A2 <;> simp [Builtin.append_, run_underlying Try.underlying22, sizeOf, typeInfo, hi, Builtin.lenOf, Builtin.firstCells, hl0]
      · injection e with e1 e2 e3
        subst e1; subst e3
        cases A2 <;> simp [Builtin.append_, run_underlying Try.underlying22, sizeOf, typeInfo, hi, Builtin.lenOf, Builtin.firstCells, hnc, storeCells, hl0]
    unfold Oper.wp execOp
    simp only [ho, resolve, invoke, builtin, Sem.run_bind, Sem.run_pure, Result.andThen_ok, List.map_toArray, List.map_cons, List.map_nil, hs, hx, hrun]
    exact hk0
theorem step_append_any (w : World) {ops : Array Oper} {o : Oper} {a : Act} {K : Act → World → Prop} {Q : Exit → Act → World → Prop} {E0 : Prop} (hw : Region.wanted o (yielded ops a.tmps) = true) (s x : Operand)
    (ho : o.op = .call { callee := .builtin .append, args := #[s, x], argTypes := #[22, 22] })
    (lo : Nat) (A : Option Addr) (n c : Nat) (xs : List Int) (A2 : Option Addr) (m c2 : Nat) (ys : List Int) (hs : a.eval s = .slice A n c) (hx : a.eval x = .slice A2 m c2)
    (hown : Own w lo w.heap.size A n c xs) (hsi : SI w A2 m ys) (hlo : lo ≤ w.heap.size) (hn : n ≤ 1099511627776) (hm : m ≤ 1099511627776)
    (h : ∀ A' c' w', Own w' lo w'.heap.size A' (n + m) c' (xs ++ ys) → w.grownBy w' (Value.slice A n c).ownBlock → Below lo w w' → K (a.put o.dst (.slice A' (n + m) c')) w') :
    if Region.wanted o (yielded ops a.tmps) = true then Oper.wp Try.prog o a w K Q else E0 := by
  rw [if_pos hw]
  exact wp_append_any w s x ho lo A n c xs A2 m c2 ys hs hx hown hsi hlo hn hm h
end Go.Proofs.Ytdkcngilmdpbgaa
