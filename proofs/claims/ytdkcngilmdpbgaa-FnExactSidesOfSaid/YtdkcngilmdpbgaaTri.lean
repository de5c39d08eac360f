/-
  Small triangles of the program: slices of them, the right ones, those of a puzzle. Conditions: lengths below 2^40.
-/
import Derived.Test.YtdkcngilmdpbgaaPuzM
import Derived.Test.YtdkcngilmdpbgaaPuz
import Derived.BigRegion
namespace Go.Proofs.Ytdkcngilmdpbgaa
open Go.RowKit

def tr (ts : List Tr) (k : Nat) : Tr := ts.getD k (0, 0, 0)
theorem tr_get {ts : List Tr} {k : Nat} (h : k < ts.length) : tr ts k = ts[k] := by simp [tr, List.getD, h]
def cellsR : List Tr → List Value
  | [] => []
  | t :: ts => .int .i64 t.1 :: .int .i64 t.2.1 :: .int .i64 t.2.2 :: cellsR ts
theorem cellsR_len : ∀ ts : List Tr, (cellsR ts).length = ts.length * 3
  | [] => rfl
  | t :: ts => by simp only [cellsR, List.length_cons, cellsR_len ts]; omega
theorem cellsR_app : ∀ (ts us : List Tr), cellsR (ts ++ us) = cellsR ts ++ cellsR us
  | [], us => rfl
  | t :: ts, us => by simp only [List.cons_append, cellsR, cellsR_app ts us]
theorem cellsR_get : ∀ (ts : List Tr) (k : Nat), k < ts.length → (cellsR ts)[k * 3]? = some (.int .i64 (tr ts k).1) ∧ (cellsR ts)[k * 3 + 1]? = some (.int .i64 (tr ts k).2.1) ∧ (cellsR ts)[k * 3 + 2]? = some (.int .i64 (tr ts k).2.2)
  | [], k, h => absurd h (by simp)
  | t :: ts, 0, _ => by simp [cellsR, tr]
  | t :: ts, k + 1, h => by
    have ih := cellsR_get ts k (by simpa using h)
    have e1 : (k + 1) * 3 = k * 3 + 3 := by omega
    have e2 : tr (t :: ts) (k + 1) = tr ts k := by simp [tr, List.getD]
    rw [e1, e2]
    simpa [cellsR, List.getElem?_cons_succ] using ih
/-- The slice (A, n) reads as the small triangles ts. -/
def RS (w : World) (A : Option Addr) (n : Nat) (ts : List Tr) : Prop :=
  ts.length = n ∧ (0 < n → ∃ b o, A = some ⟨b, o, none⟩ ∧ b < w.heap.size ∧ ∀ k, k < n → w.cell? ⟨b, o + k * 3, none⟩ = some (.int .i64 (tr ts k).1) ∧ w.cell? ⟨b, o + k * 3 + 1, none⟩ = some (.int .i64 (tr ts k).2.1) ∧ w.cell? ⟨b, o + k * 3 + 2, none⟩ = some (.int .i64 (tr ts k).2.2))
theorem RS.below {w w' : World} {A : Option Addr} {n B : Nat} {ts : List Tr} (h : RS w A n ts) (hb : Below B w w') (hB : w.heap.size ≤ B) : RS w' A n ts :=
  ⟨h.1, fun hn => by
    obtain ⟨b, o, e, hl, hc⟩ := h.2 hn
    have hs := hb.size
    exact ⟨b, o, e, by omega, fun k hk => ⟨(hb.cell (p := ⟨b, o + k * 3, none⟩) (by show b < B; omega)).trans (hc k hk).1, (hb.cell (p := ⟨b, o + k * 3 + 1, none⟩) (by show b < B; omega)).trans (hc k hk).2.1, (hb.cell (p := ⟨b, o + k * 3 + 2, none⟩) (by show b < B; omega)).trans (hc k hk).2.2⟩⟩⟩
/-- The slice (A, n, c) holds the small triangles ts in a block of the call's own (or is nil). -/
def OwnR (w : World) (lo hi : Nat) (A : Option Addr) (n c : Nat) (ts : List Tr) : Prop :=
  ts.length = n ∧ w.ownsRow lo 121 3 (.slice A n c) n (cellsR ts) ∧ ∀ k, (Value.slice A n c).ownBlock = some k → k < hi
theorem OwnR.nil (w : World) (lo hi : Nat) : OwnR w lo hi none 0 0 [] := ⟨rfl, World.ownsRow_nil _ _ _ _, fun k hk => by simp [Value.ownBlock] at hk⟩
theorem OwnR.si {w : World} {lo hi n c : Nat} {A : Option Addr} {ts : List Tr} (h : OwnR w lo hi A n c ts) : RS w A n ts := by
  refine ⟨h.1, fun hn => ?_⟩
  obtain ⟨g, cap, e, _, _⟩ := h.2.1.form hn
  have hA : A = some ⟨g, 0, none⟩ := by injection e
  subst hA
  refine ⟨g, 0, rfl, (h.2.1.lt g rfl).2, fun k hk => ?_⟩
  obtain ⟨e0, e1, e2⟩ := cellsR_get ts k (by rw [h.1]; exact hk)
  rw [Nat.zero_add]
  exact ⟨by rw [h.2.1.cellAt _ (by omega), e0], by rw [h.2.1.cellAt _ (by omega), e1], by rw [h.2.1.cellAt _ (by omega), e2]⟩
theorem OwnR.below {w w' : World} {lo hi n c B : Nat} {A : Option Addr} {ts : List Tr} (h : OwnR w lo hi A n c ts) (hb : Below B w w') (hB : hi ≤ B) : OwnR w' lo hi A n c ts := by
  refine ⟨h.1, ⟨h.2.1.1, ?_⟩, h.2.2⟩
  rcases h.2.1.2 with hn | ⟨g, cap, cur, e, hl, hg, rest⟩
  · exact .inl hn
  · have hlt := h.2.2 g (by rw [e]; rfl)
    exact .inr ⟨g, cap, cur, e, hl, (hb.block g (by omega)).trans hg, rest⟩
theorem OwnR.wide {w : World} {lo hi lo' hi' n c : Nat} {A : Option Addr} {ts : List Tr} (h : OwnR w lo hi A n c ts) (h1 : lo' ≤ lo) (h2 : hi ≤ hi') : OwnR w lo' hi' A n c ts := by
  refine ⟨h.1, ⟨h.2.1.1, ?_⟩, fun k hk => Nat.lt_of_lt_of_le (h.2.2 k hk) h2⟩
  rcases h.2.1.2 with hn | ⟨g, cap, cur, e, hl, rest⟩
  · exact .inl hn
  · exact .inr ⟨g, cap, cur, e, Nat.le_trans h1 hl, rest⟩
theorem Try.infoTriZ : (Try.prog.info? 121).map (fun i => (i.zero, i.size, i.bytes)) = some (some (.agg #[.int .i64 0, .int .i64 0, .int .i64 0]), 3, 24) := by kernel_rfl
theorem Try.infoTri : (Try.prog.info? 121).map (·.size) = some 3 := by kernel_rfl
/-- 'all = append(all, t)' on a slice of the call's own. -/
theorem wpList_appendR {ops : Array Oper} {rest : List Oper} {o : Oper} {a : Act} {w : World} {Q : Exit → Act → World → Prop} (hgd : o.guard = none) (s x : Operand)
    (ho : o.op = .call { callee := .builtin .append, args := #[s, x], argTypes := #[106, 106] })
    (lo : Nat) (A : Option Addr) (n c : Nat) (ts : List Tr) (t : Tr) (hs : a.eval s = .slice A n c) (hx : a.eval x = .slice (some ⟨w.heap.size, 0, none⟩) 1 1)
    (hown : OwnR w lo w.heap.size A n c ts) (hlo : lo ≤ w.heap.size) (hn : n ≤ 1099511627776)
    (hK : ∀ A' c' w', OwnR w' lo w'.heap.size A' (n + 1) c' (ts ++ [t]) → Below lo w w' → w.grownBy w' (Value.slice A n c).ownBlock → wpList Try.prog ops Q rest (a.put o.dst (.slice A' (n + 1) c')) w') :
    wpList Try.prog ops Q (o :: rest) a (w.alloc (.cells #[.int .i64 t.1, .int .i64 t.2.1, .int .i64 t.2.2] 121)) := by
  obtain ⟨i0, hi, hz0, hz1, hz2⟩ := info_parts Try.infoTriZ
  refine Go.wpList_append_own_at _ hgd s x 106 ho lo 121 i0 (.agg #[.int .i64 0, .int .i64 0, .int .i64 0]) 3 24 Try.underlying106 hi hz0 hz1 hz2 rfl (by decide) _ _ _ hs (hown.2.1.alloc _) ⟨w.heap.size, 0, none⟩ 1 1 [.int .i64 t.1, .int .i64 t.2.1, .int .i64 t.2.2] hx rfl ?_ ?_ (by unfold maxLen; omega) (by omega) (by simp; omega) ?_
  · intro j u hj
    rw [add_pt, Nat.zero_add, (Blk.new w 121 #[.int .i64 t.1, .int .i64 t.2.1, .int .i64 t.2.2]).cell j]
    simpa using hj
  · intro u hu
    simp at hu
    rcases hu with rfl | rfl | rfl <;> rfl
  · intro v' w1 ho1 hg1 _ _
    have e : cellsR ts ++ [.int .i64 t.1, .int .i64 t.2.1, .int .i64 t.2.2] = cellsR (ts ++ [t]) := by rw [cellsR_app]; rfl
    rw [e] at ho1
    obtain ⟨g, cap, rfl, _, _⟩ := ho1.form (by omega)
    have hg2 : w.grownBy w1 (Value.slice A n c).ownBlock := (World.grownBy_alloc w _ _).trans hg1
    exact hK _ _ w1 ⟨by simp [hown.1], ho1, fun k hk => (ho1.lt k hk).2⟩ (grow_below hg2 hlo (fun k hk => (hown.2.1.lt k hk).1)) hg2
theorem RS.lit {w : World} {ts : List Tr} {n : Nat} (hl : ts.length = n) : RS (w.alloc (.cells (cellsR ts).toArray 121)) (some ⟨w.heap.size, 0, none⟩) n ts := by
  refine ⟨hl, fun hn => ⟨w.heap.size, 0, rfl, by simp, fun k hk => ?_⟩⟩
  obtain ⟨e0, e1, e2⟩ := cellsR_get ts k (by omega)
  have hc := fun j => (Blk.new w 121 (cellsR ts).toArray).cell j
  rw [Nat.zero_add, hc, hc, hc]
  simp only [List.getElem?_toArray]
  exact ⟨e0, e1, e2⟩
set_option maxHeartbeats 800000 in
theorem weightedTriangles_any (w : World) : Calls Try.prog 120 #[] w fun e w' => ∃ A, e = .returned (.slice A 6 6) ∧ RS w' A 6 (rightL true) ∧ Below w.heap.size w w' := by
  have H := Lib.hid (@RS.lit w (rightL true) 6 rfl)
  go_enter Try.func120, Try.ntmps120
  go_wp2
  go_ret
  exact ⟨_, rfl, H.out, Below.alloc_self _ _⟩
set_option maxHeartbeats 1600000 in
theorem smallPlace_at {i j : Int} (r k a : Nat) (hi : i = (r : Int)) (hj : j = (k : Int)) (ha : a = tri r + k) (w : World) (hr : r ≤ 8) (hk : k ≤ 100) :
    Calls Try.prog 121 #[.int .i64 i, .int .i64 j] w fun e w' => e = .returned (.int .i64 a) ∧ w = w' := by
  subst hi hj ha
  have h : r = 0 ∨ r = 1 ∨ r = 2 ∨ r = 3 ∨ r = 4 ∨ r = 5 ∨ r = 6 ∨ r = 7 ∨ r = 8 := by omega
  clear hr
  rcases h with rfl | rfl | rfl | rfl | rfl | rfl | rfl | rfl | rfl
  · have hw : IntKind.i64.wrap ((0 : Int) + (k : Int)) = (k : Int) := by rw [Int.zero_add]; exact IntWalk.i64_in _ (by omega)
    have hw2 : IntKind.i64.wrap (k : Int) = (k : Int) := IntWalk.i64_in _ (by omega)
    have HE : Hid (((tri 0 + k : Nat) : Int) = (k : Int)) := Lib.hid (by have : tri 0 = 0 := rfl; omega)
    go_enter Try.func121, Try.ntmps121
    go_wp2
    go_ret
    exact ⟨ret_int (by rw [HE.out]), rfl⟩
  · have hw : IntKind.i64.wrap ((1 : Int) + (k : Int)) = (1 : Int) + (k : Int) := IntWalk.i64_in _ (by omega)
    have hw2 : IntKind.i64.wrap (k : Int) = (k : Int) := IntWalk.i64_in _ (by omega)
    have HE : Hid (((tri 1 + k : Nat) : Int) = 1 + (k : Int)) := Lib.hid (by have : tri 1 = 1 := rfl; omega)
    go_enter Try.func121, Try.ntmps121
    go_wp2
    go_ret
    exact ⟨ret_int (by rw [HE.out]), rfl⟩
  · have hw : IntKind.i64.wrap ((3 : Int) + (k : Int)) = (3 : Int) + (k : Int) := IntWalk.i64_in _ (by omega)
    have hw2 : IntKind.i64.wrap (k : Int) = (k : Int) := IntWalk.i64_in _ (by omega)
    have HE : Hid (((tri 2 + k : Nat) : Int) = 3 + (k : Int)) := Lib.hid (by have : tri 2 = 3 := rfl; omega)
    go_enter Try.func121, Try.ntmps121
    go_wp2
    go_ret
    exact ⟨ret_int (by rw [HE.out]), rfl⟩
  · have hw : IntKind.i64.wrap ((6 : Int) + (k : Int)) = (6 : Int) + (k : Int) := IntWalk.i64_in _ (by omega)
    have hw2 : IntKind.i64.wrap (k : Int) = (k : Int) := IntWalk.i64_in _ (by omega)
    have HE : Hid (((tri 3 + k : Nat) : Int) = 6 + (k : Int)) := Lib.hid (by have : tri 3 = 6 := rfl; omega)
    go_enter Try.func121, Try.ntmps121
    go_wp2
    go_ret
    exact ⟨ret_int (by rw [HE.out]), rfl⟩
  · have hw : IntKind.i64.wrap ((10 : Int) + (k : Int)) = (10 : Int) + (k : Int) := IntWalk.i64_in _ (by omega)
    have hw2 : IntKind.i64.wrap (k : Int) = (k : Int) := IntWalk.i64_in _ (by omega)
    have HE : Hid (((tri 4 + k : Nat) : Int) = 10 + (k : Int)) := Lib.hid (by have : tri 4 = 10 := rfl; omega)
    go_enter Try.func121, Try.ntmps121
    go_wp2
    go_ret
    exact ⟨ret_int (by rw [HE.out]), rfl⟩
  · have hw : IntKind.i64.wrap ((15 : Int) + (k : Int)) = (15 : Int) + (k : Int) := IntWalk.i64_in _ (by omega)
    have hw2 : IntKind.i64.wrap (k : Int) = (k : Int) := IntWalk.i64_in _ (by omega)
    have HE : Hid (((tri 5 + k : Nat) : Int) = 15 + (k : Int)) := Lib.hid (by have : tri 5 = 15 := rfl; omega)
    go_enter Try.func121, Try.ntmps121
    go_wp2
    go_ret
    exact ⟨ret_int (by rw [HE.out]), rfl⟩
  · have hw : IntKind.i64.wrap ((21 : Int) + (k : Int)) = (21 : Int) + (k : Int) := IntWalk.i64_in _ (by omega)
    have hw2 : IntKind.i64.wrap (k : Int) = (k : Int) := IntWalk.i64_in _ (by omega)
    have HE : Hid (((tri 6 + k : Nat) : Int) = 21 + (k : Int)) := Lib.hid (by have : tri 6 = 21 := rfl; omega)
    go_enter Try.func121, Try.ntmps121
    go_wp2
    go_ret
    exact ⟨ret_int (by rw [HE.out]), rfl⟩
  · have hw : IntKind.i64.wrap ((28 : Int) + (k : Int)) = (28 : Int) + (k : Int) := IntWalk.i64_in _ (by omega)
    have hw2 : IntKind.i64.wrap (k : Int) = (k : Int) := IntWalk.i64_in _ (by omega)
    have HE : Hid (((tri 7 + k : Nat) : Int) = 28 + (k : Int)) := Lib.hid (by have : tri 7 = 28 := rfl; omega)
    go_enter Try.func121, Try.ntmps121
    go_wp2
    go_ret
    exact ⟨ret_int (by rw [HE.out]), rfl⟩
  · have hw : IntKind.i64.wrap ((36 : Int) + (k : Int)) = (36 : Int) + (k : Int) := IntWalk.i64_in _ (by omega)
    have hw2 : IntKind.i64.wrap (k : Int) = (k : Int) := IntWalk.i64_in _ (by omega)
    have HE : Hid (((tri 8 + k : Nat) : Int) = 36 + (k : Int)) := Lib.hid (by have : tri 8 = 36 := rfl; omega)
    go_enter Try.func121, Try.ntmps121
    go_wp2
    go_ret
    exact ⟨ret_int (by rw [HE.out]), rfl⟩
theorem smallPlace_d {i j : Int} (r k a : Nat) (hi : i = (r : Int)) (hj : j = (k : Int)) (ha : a = tri r + k) (w : World) (hr : r ≤ 8) (hk : k ≤ 100) :
    Calls Try.prog 121 #[.int .i64 i, .int .i64 j] w fun e w' => e = .returned (.int .i64 a) ∧ Drawn w w' :=
  (smallPlace_at r k a hi hj ha w hr hk).mono fun _ _ ⟨he, hw⟩ => ⟨he, hw ▸ Drawn.refl _⟩
set_option maxRecDepth 100000 in
set_option maxHeartbeats 1000000 in
theorem pzAt_any (s : Int) (A1 A2 A3 : Option Addr) (n1 c1 n2 c2 n3 c3 : Nat) (x1 x2 x3 : List Int) (i : Nat) (w : World) (h1 : SI w A1 n1 x1) (h2 : SI w A2 n2 x2) (h3 : SI w A3 n3 x3) (hi : i < n1 ∧ i < n2 ∧ i < n3) :
    Calls Try.prog 139 #[.agg #[.int .i64 s, .slice A1 n1 c1, .slice A2 n2 c2, .slice A3 n3 c3], .int .i64 i] w fun e w' => e = .returned (.agg #[.int .i64 (nth x1 i), .int .i64 (nth x2 i), .int .i64 (nth x3 i)]) ∧ Below w.heap.size w w' := by
  obtain ⟨w1, hw1⟩ : ∃ w1, w1 = (w.alloc (.cells #[.int .i64 s, .slice A1 n1 c1, .slice A2 n2 c2, .slice A3 n3 c3] 47)).alloc (.cells #[.int .i64 0, .int .i64 0, .int .i64 0] 121) := ⟨_, rfl⟩
  obtain ⟨g, hg⟩ : ∃ g, g = w.heap.size := ⟨_, rfl⟩
  have hk : Blk w1 g 47 #[.int .i64 s, .slice A1 n1 c1, .slice A2 n2 c2, .slice A3 n3 c3] := by rw [hw1, hg]; exact (Blk.new _ _ _).alloc _
  have hk2 : Blk w1 (g + 1) 121 #[.int .i64 0, .int .i64 0, .int .i64 0] := by
    rw [hw1, hg]
    have := Blk.new (w.alloc (.cells #[.int .i64 s, .slice A1 n1 c1, .slice A2 n2 c2, .slice A3 n3 c3] 47)) 121 #[.int .i64 0, .int .i64 0, .int .i64 0]
    simpa using this
  have hb : Below w.heap.size w w1 := by rw [hw1]; go_grown
  obtain ⟨b1, o1, rfl, hb1, hc1⟩ := (h1.below hb (Nat.le_refl _)).at_ (by omega)
  obtain ⟨b2, o2, rfl, hb2, hc2⟩ := (h2.below hb (Nat.le_refl _)).at_ (by omega)
  obtain ⟨b3, o3, rfl, hb3, hc3⟩ := (h3.below hb (Nat.le_refl _)).at_ (by omega)
  have hd1 := hc1 i hi.1
  have hd2 := hc2 i hi.2.1
  have hd3 := hc3 i hi.2.2
  obtain ⟨q0, q1, q2, q3⟩ := cells4 hk
  have r0 : w1.cell? ⟨g + 1, 0, none⟩ = some (.int .i64 0) := hk2.cell 0
  have r1 : w1.cell? ⟨g + 1, 1, none⟩ = some (.int .i64 0) := hk2.cell 1
  have r2 : w1.cell? ⟨g + 1, 2, none⟩ = some (.int .i64 0) := hk2.cell 2
  have f0 := hk2.frozen 0
  have f1 := hk2.frozen 1
  have f2 := hk2.frozen 2
  obtain ⟨l, hl⟩ : ∃ l, l = nth x1 i := ⟨_, rfl⟩
  obtain ⟨y, hy⟩ : ∃ y, y = nth x2 i := ⟨_, rfl⟩
  obtain ⟨b, hbb⟩ : ∃ b, b = nth x3 i := ⟨_, rfl⟩
  rw [← hl] at hd1
  rw [← hy] at hd2
  rw [← hbb] at hd3
  rw [← hl, ← hy, ← hbb]
  have i1 : (i : Int) < (n1 : Int) := by omega
  have i2 : (i : Int) < (n2 : Int) := by omega
  have i3 : (i : Int) < (n3 : Int) := by omega
  have HW := Lib.hid hw1
  have HG := Lib.hid hg
  have HB := Lib.hid hb
  have HK2 := Lib.hid hk2
  have HR : Hid (Blk (((w1.setCell ⟨g + 1, 0, none⟩ (.int .i64 l)).setCell ⟨g + 1, 1, none⟩ (.int .i64 y)).setCell ⟨g + 1, 2, none⟩ (.int .i64 b)) (g + 1) 121 #[.int .i64 l, .int .i64 y, .int .i64 b]) := Lib.hid (((hk2.set_ 0 _).set_ 1 _).set_ 2 _)
  have HBF : Hid (Below w.heap.size w (((w1.setCell ⟨g + 1, 0, none⟩ (.int .i64 l)).setCell ⟨g + 1, 1, none⟩ (.int .i64 y)).setCell ⟨g + 1, 2, none⟩ (.int .i64 b))) := Lib.hid (((hb.setCell (show w.heap.size ≤ g + 1 by omega) _).setCell (show w.heap.size ≤ g + 1 by omega) _).setCell (show w.heap.size ≤ g + 1 by omega) _)
  clear hk hk2 hb hb1 hb2 hb3 hc1 hc2 hc3 hw1 hg hi h1 h2 h3 hl hy hbb
  go_enter Try.func139, Try.ntmps139
  go_upto_region 1 with fail
  rw [← HW.out, ← HG.out]
  go_region
  go_wp2
  refine bodyPost_ret (results_rowP Try.results139 _ _ (g + 1) 121 #[.int .i64 l, .int .i64 y, .int .i64 b] _ rfl HR.out Try.underlying121 rfl Try.infoTri) rfl ?_
  first | exact ⟨rfl, HBF.out⟩ | exact ⟨rfl, HBF.out.drew⟩
end Go.Proofs.Ytdkcngilmdpbgaa
