/-
  Slices of integers that a call owns: words and laws (appending one number, copying a whole slice, marking). No conditions beyond lengths below 2^40.
-/
import Derived.Test.YtfaegfhbbkicgaaHelp
import Derived.Maps.AppendAt
namespace Go.Proofs.Ytfaegfhbbkicgaa
open Go.RowKit

/-- The slice (A, n, c) holds the integers xs in a block of its own between lo and hi (or is nil). -/
def Own (w : World) (lo hi : Nat) (A : Option Addr) (n c : Nat) (xs : List Int) : Prop :=
  w.ownsRow lo 3 1 (.slice A n c) n (xs.map (Value.int .i64)) ∧ ∀ k, (Value.slice A n c).ownBlock = some k → k < hi

section
variable {w w' : World} {lo hi n c : Nat} {A : Option Addr} {xs : List Int}
theorem Own.len (h : Own w lo hi A n c xs) : xs.length = n := by simpa using h.1.1
theorem Own.si (h : Own w lo hi A n c xs) : SI w A n xs := SI.of_own h.1
theorem Own.cap (h : Own w lo hi A n c xs) : n ≤ c := by
  rcases h.1.2 with ⟨e, h0⟩ | ⟨g, cap, cur, e, _, _, hc, _⟩
  · omega
  · injection e with _ _ e3; omega
theorem Own.nil (w : World) (lo hi : Nat) : Own w lo hi none 0 0 [] := ⟨World.ownsRow_nil _ _ _ _, fun k hk => by simp [Value.ownBlock] at hk⟩
theorem Own.of (h : w.ownsRow lo 3 1 (.slice A n c) n (xs.map (Value.int .i64))) : Own w lo w.heap.size A n c xs := ⟨h, fun k hk => (h.lt k hk).2⟩
theorem Own.lt (h : Own w lo hi A n c xs) : ∀ k, (Value.slice A n c).ownBlock = some k → lo ≤ k ∧ k < hi := fun k hk => ⟨(h.1.lt k hk).1, h.2 k hk⟩
theorem Own.grown {row : Option Nat} (h : Own w lo hi A n c xs) (hg : w.grownBy w' row) (hr : ∀ g, row = some g → g < lo ∨ hi ≤ g) : Own w' lo hi A n c xs := by
  refine ⟨h.1.kept hg ?_, h.2⟩
  cases hb : (Value.slice A n c).ownBlock with
  | none => exact .inl rfl
  | some k =>
    refine .inr fun e => ?_
    have := h.lt k hb
    have := hr k e.symm
    omega
theorem Own.below {B : Nat} (h : Own w lo hi A n c xs) (hb : Below B w w') (hB : hi ≤ B) : Own w' lo hi A n c xs := by
  refine ⟨⟨h.1.1, ?_⟩, h.2⟩
  rcases h.1.2 with hn | ⟨g, cap, cur, e, hl, hg, rest⟩
  · exact .inl hn
  · have hlt := h.2 g (by rw [e]; rfl)
    exact .inr ⟨g, cap, cur, e, hl, (hb.block g (by omega)).trans hg, rest⟩
theorem Own.drawn (h : Own w lo hi A n c xs) (hd : Drawn w w') : Own w' lo hi A n c xs := h.below (hd.below hi) (Nat.le_refl _)
theorem Own.wide {lo' hi' : Nat} (h : Own w lo hi A n c xs) (h1 : lo' ≤ lo) (h2 : hi ≤ hi') : Own w lo' hi' A n c xs := by
  refine ⟨⟨h.1.1, ?_⟩, fun k hk => Nat.lt_of_lt_of_le (h.2 k hk) h2⟩
  rcases h.1.2 with hn | ⟨g, cap, cur, e, hl, rest⟩
  · exact .inl hn
  · exact .inr ⟨g, cap, cur, e, Nat.le_trans h1 hl, rest⟩
theorem Own.cellAt {g k : Nat} (h : Own w lo hi (some ⟨g, 0, none⟩) n c xs) (hk : k < n) : w.cell? ⟨g, k, none⟩ = some (.int .i64 (nth xs k)) := by
  have hl := h.len
  rw [h.1.cellAt k (by omega), List.getElem?_map, nth_get? (by omega)]; rfl
theorem Own.frozenAt {g : Nat} (h : Own w lo hi (some ⟨g, 0, none⟩) n c xs) (k : Nat) : w.frozen? ⟨g, k, none⟩ = false := h.1.frozenAt k
theorem Own.place (h : Own w lo hi A n c xs) (hn : 0 < n) : ∃ g, A = some ⟨g, 0, none⟩ ∧ lo ≤ g ∧ g < hi := by
  obtain ⟨g, cap, e, h1, h2⟩ := h.1.form hn
  have hA : A = some ⟨g, 0, none⟩ := by injection e
  subst hA
  exact ⟨g, rfl, h1, h.2 g rfl⟩
theorem Own.set_ {g k : Nat} (h : Own w lo hi (some ⟨g, 0, none⟩) n c xs) (x : Int) :
    Own (w.setCell ⟨g, k, none⟩ (.int .i64 x)) lo hi (some ⟨g, 0, none⟩) n c (xs.set k x) ∧ w.grownBy (w.setCell ⟨g, k, none⟩ (.int .i64 x)) (some g) := by
  obtain ⟨h1, h2⟩ := h.1.stored k (.int .i64 x)
  refine ⟨⟨?_, h.2⟩, h2⟩
  rw [List.map_set]
  exact h1
end
theorem Own.empty (w : World) : Own (w.alloc (.cells #[] 3)) w.heap.size (w.heap.size + 1) (some ⟨w.heap.size, 0, none⟩) 0 0 [] :=
  ⟨World.ownsRow_lit w #[] 0 (Nat.le_refl _) (Nat.zero_le _) rfl, fun k hk => by simp [Value.ownBlock] at hk; omega⟩
theorem Below.alloc_self (w : World) (o : Obj) : Below w.heap.size w (w.alloc o) := (Below.refl _ _).alloc (Nat.le_refl _) _
theorem _root_.Go.RowKit.Below.drawnN {B : Nat} {a w : World} (h : Below B a w) (n : Nat) : Below B a (w.drewN n) := h.trans ⟨rfl, rfl, rfl, Nat.le_refl _, fun _ _ => rfl⟩
theorem grow_below {B : Nat} {w w' : World} {row : Option Nat} (hg : w.grownBy w' row) (hB : B ≤ w.heap.size) (hr : ∀ k, row = some k → B ≤ k) : Below B w w' := (Below.refl B w).grown hg hB hr

/-- What a call that makes a new slice hands back. -/
def Fresh (w w' : World) (e : Ending) (ys : List Int) : Prop :=
  ∃ A n c, e = .returned (.slice A n c) ∧ Own w' w.heap.size w'.heap.size A n c ys ∧ Below w.heap.size w w'

theorem Own.apart {w w' : World} {lo hi n c lo' hi' n' c' : Nat} {A A' : Option Addr} {xs xs' : List Int} (ho : Own w lo hi A n c xs) (hx : Own w lo' hi' A' n' c' xs')
    (hg : w.grownBy w' (Value.slice A' n' c').ownBlock) (h : hi ≤ lo' ∨ hi' ≤ lo) : Own w' lo hi A n c xs :=
  ho.grown hg fun g e => by have := hx.lt g e; omega
theorem Own.mark_below {w w' : World} {B lo hi n c : Nat} {A : Option Addr} {xs : List Int} (hx : Own w lo hi A n c xs) (hg : w.grownBy w' (Value.slice A n c).ownBlock) (hB : B ≤ w.heap.size) (hl : B ≤ lo) : Below B w w' :=
  grow_below hg hB fun k e => by have := hx.lt k e; omega

theorem toIntS_fr (A : Option Addr) (n c : Nat) (xs : List Int) (w : World) (hs : SI w A n xs) (hn : n ≤ 1099511627776) :
    Calls Try.prog 24 #[.slice A n c] w fun e w' => Fresh w w' e xs :=
  (toIntS_any A n c xs w hs hn).mono fun _ _ ⟨he, ho, hb⟩ => ⟨_, _, _, he, Own.of ho, hb⟩

set_option maxHeartbeats 400000 in
/-- markIntS on any slice of the call's own, nil and empty ones among them. -/
theorem markIntS_any (A : Option Addr) (n c lo hi : Nat) (xs : List Int) (q : Int) (w : World) (hs : Own w lo hi A n c xs) (hn : n ≤ 1099511627776) (hq : 0 ≤ q) (hq' : q ≤ 1099511627776) :
    Calls Try.prog 21 #[.slice A n c, .int .i64 q] w fun e w' => e = .returned (.int .i64 (q + n)) ∧ Own w' lo hi A n c (marks n q) ∧ w.grownBy w' (Value.slice A n c).ownBlock := by
  by_cases h0 : 0 < n
  · obtain ⟨g, rfl, _, _⟩ := hs.place h0
    exact (markIntS_own g n c xs q lo w hs.1 hn hq hq').mono fun e w' ⟨he, ho, hg⟩ => ⟨he, ⟨ho, hs.2⟩, hg⟩
  · have hz : n = 0 := by omega
    subst hz
    have hx : xs = [] := List.eq_nil_of_length_eq_zero hs.len
    subst hx
    have HS := Lib.hid hs
    clear hs
    go_enter Try.func21, Try.ntmps21
    go_wp2
    refine wp_loop_rounds 1 ?_
    rw [rounds_succ]
    go_wp2
    go_ret
    exact ⟨by simp, HS.out, World.grownBy.refl _ _⟩

/-- 'make([]int, n)'. -/
theorem wpList_make_zero {ops : Array Oper} {rest : List Oper} {o : Oper} {a : Act} {w : World} {Q : Exit → Act → World → Prop} (hgd : o.guard = none) (l c : Operand) (ho : o.op = .makeSlice 22 l c)
    (n : Nat) (hl : a.eval l = .int .i64 n) (hc : a.eval c = .int .i64 n) (hn : n ≤ 1099511627776)
    (hK : ∀ w', Own w' w.heap.size w'.heap.size (some ⟨w.heap.size, 0, none⟩) n n (List.replicate n 0) → Below w.heap.size w w' → wpList Try.prog ops Q rest (a.put o.dst (.slice (some ⟨w.heap.size, 0, none⟩) n n)) w') :
    wpList Try.prog ops Q (o :: rest) a w := by
  obtain ⟨i0, hi, hz0, hz1, hz2⟩ := info_parts Try.infoInt
  refine wpList_make_full w hgd l c 22 ho w.heap.size 3 i0 (.int .i64 0) 1 Try.underlying22 hi hz0 hz1 .i64 .i64 n n n hl hc rfl rfl (by rw [hz2]; omega) (by unfold maxLen; omega) (Nat.le_refl _) ?_
  intro w1 ho1 hg1
  have e : (madeCells (Value.int .i64 0).cells (n * 1)).toList = (List.replicate n (0 : Int)).map (Value.int .i64) := by
    rw [show (Value.int .i64 0).cells = #[Value.int .i64 0] from rfl, Nat.mul_one, toList_madeCells_one]; simp
  rw [e] at ho1
  exact hK w1 (Own.of ho1) (grow_below hg1 (Nat.le_refl _) (by intro k hk; cases hk))

/-- 'out = append(out, x)' on a slice of the call's own. -/
theorem wpList_append1 {ops : Array Oper} {rest : List Oper} {o : Oper} {a : Act} {w : World} {Q : Exit → Act → World → Prop} (hgd : o.guard = none) (s x : Operand)
    (ho : o.op = .call { callee := .builtin .append, args := #[s, x], argTypes := #[22, 22] })
    (lo : Nat) (A : Option Addr) (n c : Nat) (xs : List Int) (v : Int) (hs : a.eval s = .slice A n c) (hx : a.eval x = .slice (some ⟨w.heap.size, 0, none⟩) 1 1)
    (hown : Own w lo w.heap.size A n c xs) (hlo : lo ≤ w.heap.size) (hn : n ≤ 1099511627776)
    (hK : ∀ A' c' w', Own w' lo w'.heap.size A' (n + 1) c' (xs ++ [v]) → w.grownBy w' (Value.slice A n c).ownBlock → Below lo w w' → wpList Try.prog ops Q rest (a.put o.dst (.slice A' (n + 1) c')) w') :
    wpList Try.prog ops Q (o :: rest) a (w.alloc (.cells #[.int .i64 v] 3)) := by
  obtain ⟨i0, hi, hz0, hz1, hz2⟩ := info_parts Try.infoInt
  refine wpList_append_own _ hgd s x 22 ho lo 3 i0 (.int .i64 0) 1 8 Try.underlying22 hi hz0 hz1 hz2 rfl (by decide) _ _ _ hs (hown.1.alloc _) ⟨w.heap.size, 0, none⟩ 1 1 [.int .i64 v] hx rfl ?_ ?_ (by unfold maxLen; omega) (by omega) (by simp; omega) ?_
  · intro j u hj
    match j, hj with
    | 0, hj =>
      simp at hj
      subst hj
      rw [add_pt]
      exact (Blk.new w 3 #[.int .i64 v]).cell 0
  · intro u hu
    simp at hu
    subst hu
    rfl
  · intro v' w1 ho1 hg1 _
    have e1 : List.map (Value.int .i64) xs ++ [Value.int .i64 v] = (xs ++ [v]).map (Value.int .i64) := by simp
    rw [e1] at ho1
    obtain ⟨g, cap, rfl, _, _⟩ := ho1.form (by omega)
    have hg2 : w.grownBy w1 (Value.slice A n c).ownBlock := (World.grownBy_alloc w _ _).trans hg1
    exact hK _ _ w1 (Own.of ho1) hg2 (grow_below hg2 hlo (fun k hk => (hown.1.lt k hk).1))

set_option maxRecDepth 100000 in
/-- 'append([]int{}, l...)' and the like: a whole slice appended to an empty one that was just made. -/
theorem wpList_append_all {ops : Array Oper} {rest : List Oper} {o : Oper} {a : Act} {w : World} {Q : Exit → Act → World → Prop} (hgd : o.guard = none) (s x : Operand)
    (ho : o.op = .call { callee := .builtin .append, args := #[s, x], argTypes := #[22, 22] })
    (lo : Nat) (A : Option Addr) (n c : Nat) (xs : List Int) (A2 : Option Addr) (m c2 : Nat) (ys : List Int) (hs : a.eval s = .slice A n c) (hx : a.eval x = .slice A2 m c2)
    (hown : Own w lo w.heap.size A n c xs) (hsi : SI w A2 m ys) (hlo : lo ≤ w.heap.size) (hn : n ≤ 1099511627776) (hm : m ≤ 1099511627776)
    (hK : ∀ A' c' w', Own w' lo w'.heap.size A' (n + m) c' (xs ++ ys) → w.grownBy w' (Value.slice A n c).ownBlock → Below lo w w' → wpList Try.prog ops Q rest (a.put o.dst (.slice A' (n + m) c')) w') :
    wpList Try.prog ops Q (o :: rest) a w := by
  obtain ⟨i0, hi, hz0, hz1, hz2⟩ := info_parts Try.infoInt
  by_cases h0 : 0 < m
  · obtain ⟨b, off, rfl, hb, hc⟩ := hsi.2 h0
    refine wpList_append_own _ hgd s x 22 ho lo 3 i0 (.int .i64 0) 1 8 Try.underlying22 hi hz0 hz1 hz2 rfl (by decide) _ _ _ hs hown.1 ⟨b, off, none⟩ m c2 (ys.map (Value.int .i64)) hx (by simp [hsi.1]) ?_ (ints_oneCell _ _) (by unfold maxLen; omega) (by omega) hlo ?_
    · intro j u hj
      have hjl : j < ys.length := by
        rcases Nat.lt_or_ge j ys.length with h | h
        · exact h
        · rw [List.getElem?_eq_none (by simpa using h)] at hj; cases hj
      rw [List.getElem?_map, nth_get? hjl] at hj
      rw [add_pt, hc j (by have := hsi.1; omega)]
      exact hj
    · intro v' w1 ho1 hg1 _
      rw [← List.map_append] at ho1
      obtain ⟨g, cap, rfl, _, _⟩ := ho1.form (by omega)
      exact hK _ _ w1 (Own.of ho1) hg1 (grow_below hg1 hlo (fun k hk => (hown.1.lt k hk).1))
  · have hm0 : m = 0 := by omega
    subst hm0
    have hy : ys = [] := List.eq_nil_of_length_eq_zero hsi.1
    subst hy
    have hk0 := hK A c w (by simpa using hown) (World.grownBy.refl _ _) (Below.refl _ _)
    refine wpList_plain hgd fun K hK' => ?_
    have hrun : (Builtin.append_ #[22, 22] o.type #[.slice A n c, .slice A2 0 c2]).run Try.prog w = .ok (.slice A n c) w := by
      have hg := hown.1
      have hl0 : ∀ v, (loadCells v 0).run Try.prog w = .ok #[] w := fun v => by simp [loadCells, loadCellsFrom]
      rcases hg.2 with ⟨e, h0⟩ | ⟨g, cap, cur, e, _, hgg, hnc, _⟩
      · injection e with e1 e2 e3
        subst e1; subst e3; subst h0
        cases A2 <;> simp [Builtin.append_, run_underlying Try.underlying22, sizeOf, typeInfo, hi, Builtin.lenOf, Builtin.firstCells, hl0]
      · injection e with e1 e2 e3
        subst e1; subst e3
        cases A2 <;> simp [Builtin.append_, run_underlying Try.underlying22, sizeOf, typeInfo, hi, Builtin.lenOf, Builtin.firstCells, hnc, storeCells, hl0]
    unfold Oper.wp
    simp [execOp, ho, resolve, invoke, builtin, hs, hx, hrun, Result.andThen]
    exact hK' _ _ (by simpa using hk0)
end Go.Proofs.Ytfaegfhbbkicgaa
