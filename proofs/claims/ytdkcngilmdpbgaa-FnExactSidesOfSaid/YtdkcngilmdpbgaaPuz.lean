/-
  Puzzles as values: copying, measuring, comparing, marking, holding. Conditions: lengths below 2^40.
-/
import Derived.Test.YtdkcngilmdpbgaaPuzM
import Derived.Test.YtdkcngilmdpbgaaTermMem
import Derived.Test.YtdkcngilmdpbgaaSzInt
namespace Go.Proofs.Ytdkcngilmdpbgaa
open Go.RowKit

/-- Three slices of the call's own, one behind another. -/
def OwnP (w : World) (lo hi : Nat) (A1 A2 A3 : Option Addr) (n1 c1 n2 c2 n3 c3 : Nat) (x1 x2 x3 : List Int) : Prop :=
  ∃ p q, lo ≤ p ∧ p ≤ q ∧ q ≤ hi ∧ Own w lo p A1 n1 c1 x1 ∧ Own w p q A2 n2 c2 x2 ∧ Own w q hi A3 n3 c3 x3
section
variable {w w' : World} {lo hi n1 c1 n2 c2 n3 c3 : Nat} {A1 A2 A3 : Option Addr} {x1 x2 x3 : List Int}
theorem OwnP.si (h : OwnP w lo hi A1 A2 A3 n1 c1 n2 c2 n3 c3 x1 x2 x3) : SI w A1 n1 x1 ∧ SI w A2 n2 x2 ∧ SI w A3 n3 x3 := by
  obtain ⟨p, q, _, _, _, h1, h2, h3⟩ := h; exact ⟨h1.si, h2.si, h3.si⟩
theorem OwnP.lens (h : OwnP w lo hi A1 A2 A3 n1 c1 n2 c2 n3 c3 x1 x2 x3) : x1.length = n1 ∧ x2.length = n2 ∧ x3.length = n3 := by
  obtain ⟨p, q, _, _, _, h1, h2, h3⟩ := h; exact ⟨h1.len, h2.len, h3.len⟩
theorem OwnP.below {B : Nat} (h : OwnP w lo hi A1 A2 A3 n1 c1 n2 c2 n3 c3 x1 x2 x3) (hb : Below B w w') (hB : hi ≤ B) : OwnP w' lo hi A1 A2 A3 n1 c1 n2 c2 n3 c3 x1 x2 x3 := by
  obtain ⟨p, q, a, b, c, h1, h2, h3⟩ := h
  exact ⟨p, q, a, b, c, h1.below hb (by omega), h2.below hb (by omega), h3.below hb hB⟩
theorem OwnP.drawn (h : OwnP w lo hi A1 A2 A3 n1 c1 n2 c2 n3 c3 x1 x2 x3) (hd : Drawn w w') : OwnP w' lo hi A1 A2 A3 n1 c1 n2 c2 n3 c3 x1 x2 x3 := h.below (hd.below hi) (Nat.le_refl _)
theorem Own.within_ {lo hi n c lo' hi' : Nat} {A : Option Addr} {xs : List Int} (h : Own w lo hi A n c xs) (hw : Within lo' hi' w w') (hd : hi ≤ lo' ∨ hi' ≤ lo) : Own w' lo hi A n c xs := by
  refine ⟨⟨h.1.1, ?_⟩, h.2⟩
  rcases h.1.2 with hn | ⟨g, cap, cur, e, hl, hg, rest⟩
  · exact .inl hn
  · have hlt := h.2 g (by rw [e]; rfl)
    have hsz := (h.1.lt g (by rw [e]; rfl)).2
    exact .inr ⟨g, cap, cur, e, hl, (hw.2.2.2.2 g hsz (by omega)).trans hg, rest⟩
theorem OwnP.within {lo' hi' : Nat} (h : OwnP w lo hi A1 A2 A3 n1 c1 n2 c2 n3 c3 x1 x2 x3) (hw : Within lo' hi' w w') (hd : hi ≤ lo' ∨ hi' ≤ lo) : OwnP w' lo hi A1 A2 A3 n1 c1 n2 c2 n3 c3 x1 x2 x3 := by
  obtain ⟨p, q, a, b, c, h1, h2, h3⟩ := h
  exact ⟨p, q, a, b, c, h1.within_ hw (by omega), h2.within_ hw (by omega), h3.within_ hw (by omega)⟩
theorem OwnP.wide {lo' hi' : Nat} (h : OwnP w lo hi A1 A2 A3 n1 c1 n2 c2 n3 c3 x1 x2 x3) (h1 : lo' ≤ lo) (h2 : hi ≤ hi') : OwnP w lo' hi' A1 A2 A3 n1 c1 n2 c2 n3 c3 x1 x2 x3 := by
  obtain ⟨p, q, a, b, c, k1, k2, k3⟩ := h
  exact ⟨p, q, by omega, b, by omega, k1.wide h1 (Nat.le_refl _), k2, k3.wide (Nat.le_refl _) h2⟩
theorem OwnP.nil (w : World) {lo hi : Nat} (h : lo ≤ hi) : OwnP w lo hi none none none 0 0 0 0 0 0 [] [] [] := ⟨lo, lo, Nat.le_refl _, Nat.le_refl _, h, Own.nil _ _ _, Own.nil _ _ _, Own.nil _ _ _⟩
end
/-- What a call that makes a puzzle hands back. -/
def FreshP (w w' : World) (e : Ending) (s : Int) (x1 x2 x3 : List Int) : Prop :=
  ∃ A1 A2 A3 n1 c1 n2 c2 n3 c3, e = .returned (.agg #[.int .i64 s, .slice A1 n1 c1, .slice A2 n2 c2, .slice A3 n3 c3]) ∧ OwnP w' w.heap.size w'.heap.size A1 A2 A3 n1 c1 n2 c2 n3 c3 x1 x2 x3 ∧ Below w.heap.size w w'
theorem Try.infoPz : (Try.prog.info? 47).map (·.size) = some 4 := by kernel_rfl
theorem Try.infoPzL : (Try.prog.info? 43).map (·.size) = some 4 := by kernel_rfl
theorem grown_setP (w : World) (a : Addr) (u : Value) : w.grownBy (w.setCell a u) (some a.block) :=
  ⟨rfl, rfl, rfl, by simp [World.setCell], fun k _ hk => Below.heap_setCell w a u k (fun e => hk (by rw [e]))⟩
theorem results_rowP {P : Program} {fn : Func} {p : Tmp} {ty : TypeId} (h : fn.results = #[.cell p ty]) (tmps : Array Value) (w : World) (g : Nat) (t : TypeId) (cs : Array Value) (d : TypeDesc)
    (hp : tmps.getD p undef = .pointer (some ⟨g, 0, none⟩)) (hg : Blk w g t cs) (hu : P.underlying ty = some d) (hd : (match d with | .struct _ | .array _ _ => true | _ => false) = true) (hi : (P.info? ty).map (·.size) = some cs.size) :
    (results fn tmps).run P w = .ok (.agg cs) w :=
  results_cell_row h tmps w g t cs (0, 0) d hp hg hu hd hi

theorem SI.old {w : World} {A : Option Addr} {n g : Nat} {xs : List Int} (h : SI w A n xs) (hg : w.heap.size ≤ g) : 0 < n → ∀ b o, A = some ⟨b, o, none⟩ → b ≠ g := fun hn b o e => by
  obtain ⟨b', o', e', hb, _⟩ := h.2 hn
  rw [e'] at e
  injection e with e
  injection e with e1 e2
  omega
theorem SI.kept_ {w w' : World} {A : Option Addr} {n g : Nat} {xs : List Int} (h : SI w A n xs) (hg : w.grownBy w' (some g)) (hr : 0 < n → ∀ b o, A = some ⟨b, o, none⟩ → b ≠ g) : SI w' A n xs :=
  ⟨h.1, fun hn => by
    obtain ⟨b, o, e, hb, hc⟩ := h.2 hn
    have hs := hg.size
    exact ⟨b, o, e, by omega, fun k hk => hg.cell (hc k hk) (fun e' => by injection e' with e'; exact hr hn b o e e')⟩⟩
/-- A whole struct read out of a block that is known, and stored into one. -/
theorem wpList_load_rowP {P : Program} {ops : Array Oper} {rest : List Oper} {o : Oper} {a : Act} {w : World} {Q : Exit → Act → World → Prop} (hgd : o.guard = none) (ty : TypeId) (x : Operand) (ho : o.op = .load ty x)
    (g : Nat) (hx : a.eval x = .pointer (some ⟨g, 0, none⟩)) (t : TypeId) (cs : Array Value) (d : TypeDesc) (hg : Blk w g t cs)
    (hu : P.underlying ty = some d) (hd : (match d with | .struct _ | .array _ _ => true | _ => false) = true) (hi : (P.info? ty).map (·.size) = some cs.size)
    (h : wpList P ops Q rest (a.put o.dst (.agg cs)) w) : wpList P ops Q (o :: rest) a w :=
  wpList_load_row hgd ty x ho g hx t cs (0, 0) d hg hu hd hi h
theorem wpList_store_rowP {P : Program} {ops : Array Oper} {rest : List Oper} {o : Oper} {a : Act} {w : World} {Q : Exit → Act → World → Prop} (hgd : o.guard = none) (ty : TypeId) (x y : Operand) (ho : o.op = .store ty x y)
    (g : Nat) (cs : Array Value) (hx : a.eval x = .pointer (some ⟨g, 0, none⟩)) (hy : a.eval y = .agg cs) (t : TypeId) (old : Array Value) (hg : Blk w g t old)
    (hi : (P.info? ty).map (·.size) = some cs.size) (hsz : old.size = cs.size) (h1 : cs.all (·.oneCell') = true)
    (hK : ∀ w', Blk w' g t cs → w.grownBy w' (some g) → wpList P ops Q rest (a.put o.dst undef) w') : wpList P ops Q (o :: rest) a w :=
  wpList_store_blk hgd ty x y ho g cs hx hy t old hg hi hsz h1 hK
set_option maxHeartbeats 1000000 in
theorem toPuzzle_any (s : Int) (A1 A2 A3 : Option Addr) (n1 c1 n2 c2 n3 c3 : Nat) (x1 x2 x3 : List Int) (w : World) (h1 : SI w A1 n1 x1) (h2 : SI w A2 n2 x2) (h3 : SI w A3 n3 x3) (hn1 : n1 ≤ 1099511627776) (hn2 : n2 ≤ 1099511627776) (hn3 : n3 ≤ 1099511627776) :
    Calls Try.prog 41 #[.agg #[.int .i64 s, .slice A1 n1 c1, .slice A2 n2 c2, .slice A3 n3 c3]] w fun e w' => FreshP w w' e s x1 x2 x3 := by
  obtain ⟨w1, hw1⟩ : ∃ w1, w1 = ((w.alloc (.cells #[.int .i64 s, .slice A1 n1 c1, .slice A2 n2 c2, .slice A3 n3 c3] 43)).alloc (.cells #[.int .i64 0, .slice none 0 0, .slice none 0 0, .slice none 0 0] 47)).alloc (.cells #[.int .i64 0, .slice none 0 0, .slice none 0 0, .slice none 0 0] 47) := ⟨_, rfl⟩
  obtain ⟨g1, hg1⟩ : ∃ g1, g1 = w.heap.size := ⟨_, rfl⟩
  have k1 : Blk w1 g1 43 #[.int .i64 s, .slice A1 n1 c1, .slice A2 n2 c2, .slice A3 n3 c3] := by rw [hw1, hg1]; exact ((Blk.new w _ _).alloc _).alloc _
  have k2 : Blk w1 (g1 + 1) 47 #[.int .i64 0, .slice none 0 0, .slice none 0 0, .slice none 0 0] := by
    rw [hw1, hg1]
    have := (Blk.new (w.alloc (.cells #[.int .i64 s, .slice A1 n1 c1, .slice A2 n2 c2, .slice A3 n3 c3] 43)) 47 #[.int .i64 0, .slice none 0 0, .slice none 0 0, .slice none 0 0]).alloc (.cells #[.int .i64 0, .slice none 0 0, .slice none 0 0, .slice none 0 0] 47)
    simpa using this
  have k3 : Blk w1 (g1 + 1 + 1) 47 #[.int .i64 0, .slice none 0 0, .slice none 0 0, .slice none 0 0] := by
    rw [hw1, hg1]
    have := (Blk.new ((w.alloc (.cells #[.int .i64 s, .slice A1 n1 c1, .slice A2 n2 c2, .slice A3 n3 c3] 43)).alloc (.cells #[.int .i64 0, .slice none 0 0, .slice none 0 0, .slice none 0 0] 47)) 47 #[.int .i64 0, .slice none 0 0, .slice none 0 0, .slice none 0 0])
    simpa using this
  have hb1 : Below w.heap.size w w1 := by rw [hw1]; go_grown
  have HS := Lib.hid (And.intro (h1.below hb1 (Nat.le_refl _)) (And.intro (h2.below hb1 (Nat.le_refl _)) (h3.below hb1 (Nat.le_refl _))))
  have HSB := Lib.hid (And.intro (SI.old h1 (show w.heap.size ≤ g1 + 1 + 1 by omega)) (And.intro (SI.old h2 (show w.heap.size ≤ g1 + 1 + 1 by omega)) (SI.old h3 (show w.heap.size ≤ g1 + 1 + 1 by omega))))
  have HW1 := Lib.hid hw1
  have HG1 := Lib.hid hg1
  have HK := Lib.hid (And.intro k1 (And.intro k2 k3))
  have HB := Lib.hid hb1
  have hc1 : w1.cell? ⟨g1, 0, none⟩ = some (.int .i64 s) := k1.cell 0
  have hc2 : w1.cell? ⟨g1 + 1 + 1, 0, none⟩ = some (.int .i64 0) := k3.cell 0
  have hf2 := k3.frozen 0
  clear k1 k2 k3 hb1 h1 h2 h3 hw1 hg1
  go_enter Try.func41, Try.ntmps41
  go_upto_region 2 with fail
  rw [← HW1.out, ← HG1.out]
  go_upto_region 3 with fail
  clear hc1 hc2 hf2
  obtain ⟨v1, hv1⟩ : ∃ v1, v1 = w1.setCell ⟨g1 + 1 + 1, 0, none⟩ (.int .i64 s) := ⟨_, rfl⟩
  have HKa : Hid (Blk v1 g1 43 #[.int .i64 s, .slice A1 n1 c1, .slice A2 n2 c2, .slice A3 n3 c3] ∧ Blk v1 (g1 + 1) 47 #[.int .i64 0, .slice none 0 0, .slice none 0 0, .slice none 0 0] ∧ Blk v1 (g1 + 1 + 1) 47 #[.int .i64 s, .slice none 0 0, .slice none 0 0, .slice none 0 0]) := Lib.hid (by
    rw [hv1]
    exact ⟨HK.out.1.far (by show g1 ≠ g1 + 1 + 1; omega) _, HK.out.2.1.far (by show g1 + 1 ≠ g1 + 1 + 1; omega) _, HK.out.2.2.set_ 0 _⟩)
  have hbs : Below w.heap.size w1 v1 := by rw [hv1]; exact (Below.refl _ _).setCell (by have := HG1.out; show w.heap.size ≤ g1 + 1 + 1; omega) _
  have HBa : Hid (Below w.heap.size w v1) := Lib.hid (HB.out.trans hbs)
  have HSa : Hid (SI v1 A1 n1 x1 ∧ SI v1 A2 n2 x2 ∧ SI v1 A3 n3 x3) := Lib.hid (by
    rw [hv1]
    have hg : w1.grownBy (w1.setCell ⟨g1 + 1 + 1, 0, none⟩ (.int .i64 s)) (some (g1 + 1 + 1)) := grown_setP _ _ _
    exact ⟨SI.kept_ HS.out.1 hg HSB.out.1, SI.kept_ HS.out.2.1 hg HSB.out.2.1, SI.kept_ HS.out.2.2 hg HSB.out.2.2⟩)
  have HLa : Hid (g1 + 1 + 1 < v1.heap.size) := Lib.hid HKa.out.2.2.lt
  rw [← hv1]
  clear hv1 hbs
  have hcl1 : v1.cell? ⟨g1, 1, none⟩ = some (.slice A1 n1 c1) := HKa.out.1.cell 1
  go_upto_region 4 with (first
    | (go_at_call 16
       refine (toIntS_fr _ _ _ x1 _ HSa.out.1 hn1).mono ?_
       rintro e u1 ⟨B1, m1, d1, rfl, ho4, hb4⟩
       have HK1' : Hid (Blk u1 g1 43 #[.int .i64 s, .slice A1 n1 c1, .slice A2 n2 c2, .slice A3 n3 c3] ∧ Blk u1 (g1 + 1) 47 #[.int .i64 0, .slice none 0 0, .slice none 0 0, .slice none 0 0] ∧ Blk u1 (g1 + 1 + 1) 47 #[.int .i64 s, .slice none 0 0, .slice none 0 0, .slice none 0 0]) := Lib.hid ⟨HKa.out.1.below hb4 HKa.out.1.lt, HKa.out.2.1.below hb4 HKa.out.2.1.lt, HKa.out.2.2.below hb4 HKa.out.2.2.lt⟩
       have hsz1 := hb4.size
       have HQ1 : Hid (Below v1.heap.size v1 u1) := Lib.hid hb4
       have HO1 : Hid (Own u1 v1.heap.size u1.heap.size B1 m1 d1 x1) := Lib.hid ho4
       have hd1 : u1.cell? ⟨g1 + 1 + 1, 1, none⟩ = some (.slice none 0 0) := HK1'.out.2.2.cell 1
       have he1 := HK1'.out.2.2.frozen 1
       clear ho4 hb4))
  clear hcl1 hd1 he1
  obtain ⟨v2, hv2⟩ : ∃ v2, v2 = u1.setCell ⟨g1 + 1 + 1, 1, none⟩ (.slice B1 m1 d1) := ⟨_, rfl⟩
  have hg2 : u1.grownBy v2 (some (g1 + 1 + 1)) := by rw [hv2]; exact grown_setP _ _ _
  have HKb : Hid (Blk v2 g1 43 #[.int .i64 s, .slice A1 n1 c1, .slice A2 n2 c2, .slice A3 n3 c3] ∧ Blk v2 (g1 + 1) 47 #[.int .i64 0, .slice none 0 0, .slice none 0 0, .slice none 0 0] ∧ Blk v2 (g1 + 1 + 1) 47 #[.int .i64 s, .slice B1 m1 d1, .slice none 0 0, .slice none 0 0]) := Lib.hid (by
    rw [hv2]
    exact ⟨HK1'.out.1.far (by show g1 ≠ g1 + 1 + 1; omega) _, HK1'.out.2.1.far (by show g1 + 1 ≠ g1 + 1 + 1; omega) _, HK1'.out.2.2.set_ 1 _⟩)
  have HBb : Hid (Below w.heap.size w v2) := Lib.hid ((HBa.out.trans (HQ1.out.mono HBa.out.size)).grown hg2 (by have := HBa.out.size; omega) (by rintro k ⟨⟩; have := HG1.out; omega))
  have HSb : Hid (SI v2 A1 n1 x1 ∧ SI v2 A2 n2 x2 ∧ SI v2 A3 n3 x3) := Lib.hid ⟨SI.kept_ (HSa.out.1.below HQ1.out (Nat.le_refl _)) hg2 HSB.out.1, SI.kept_ (HSa.out.2.1.below HQ1.out (Nat.le_refl _)) hg2 HSB.out.2.1, SI.kept_ (HSa.out.2.2.below HQ1.out (Nat.le_refl _)) hg2 HSB.out.2.2⟩
  have HLb : Hid (g1 + 1 + 1 < v1.heap.size ∧ v1.heap.size ≤ u1.heap.size ∧ u1.heap.size ≤ v2.heap.size) := Lib.hid ⟨HKa.out.2.2.lt, hsz1, hg2.size⟩
  have HP1 : Hid (Own v2 v1.heap.size u1.heap.size B1 m1 d1 x1) := Lib.hid (HO1.out.grown hg2 (fun k hk => by injection hk with hk; have := HLb.out.1; omega))
  rw [← hv2]
  clear hv2 hg2 hsz1
  have hcl2 : v2.cell? ⟨g1, 2, none⟩ = some (.slice A2 n2 c2) := HKb.out.1.cell 2
  go_upto_region 5 with (first
    | (go_at_call 16
       refine (toIntS_fr _ _ _ x2 _ HSb.out.2.1 hn2).mono ?_
       rintro e u2 ⟨B2, m2, d2, rfl, ho4, hb4⟩
       have HK2' : Hid (Blk u2 g1 43 #[.int .i64 s, .slice A1 n1 c1, .slice A2 n2 c2, .slice A3 n3 c3] ∧ Blk u2 (g1 + 1) 47 #[.int .i64 0, .slice none 0 0, .slice none 0 0, .slice none 0 0] ∧ Blk u2 (g1 + 1 + 1) 47 #[.int .i64 s, .slice B1 m1 d1, .slice none 0 0, .slice none 0 0]) := Lib.hid ⟨HKb.out.1.below hb4 HKb.out.1.lt, HKb.out.2.1.below hb4 HKb.out.2.1.lt, HKb.out.2.2.below hb4 HKb.out.2.2.lt⟩
       have hsz2 := hb4.size
       have HQ2 : Hid (Below v2.heap.size v2 u2) := Lib.hid hb4
       have HO2 : Hid (Own u2 v2.heap.size u2.heap.size B2 m2 d2 x2) := Lib.hid ho4
       have hd2 : u2.cell? ⟨g1 + 1 + 1, 2, none⟩ = some (.slice none 0 0) := HK2'.out.2.2.cell 2
       have he2 := HK2'.out.2.2.frozen 2
       clear ho4 hb4))
  clear hcl2 hd2 he2
  obtain ⟨v3, hv3⟩ : ∃ v3, v3 = u2.setCell ⟨g1 + 1 + 1, 2, none⟩ (.slice B2 m2 d2) := ⟨_, rfl⟩
  have hg3 : u2.grownBy v3 (some (g1 + 1 + 1)) := by rw [hv3]; exact grown_setP _ _ _
  have HKc : Hid (Blk v3 g1 43 #[.int .i64 s, .slice A1 n1 c1, .slice A2 n2 c2, .slice A3 n3 c3] ∧ Blk v3 (g1 + 1) 47 #[.int .i64 0, .slice none 0 0, .slice none 0 0, .slice none 0 0] ∧ Blk v3 (g1 + 1 + 1) 47 #[.int .i64 s, .slice B1 m1 d1, .slice B2 m2 d2, .slice none 0 0]) := Lib.hid (by
    rw [hv3]
    exact ⟨HK2'.out.1.far (by show g1 ≠ g1 + 1 + 1; omega) _, HK2'.out.2.1.far (by show g1 + 1 ≠ g1 + 1 + 1; omega) _, HK2'.out.2.2.set_ 2 _⟩)
  have HBc : Hid (Below w.heap.size w v3) := Lib.hid ((HBb.out.trans (HQ2.out.mono HBb.out.size)).grown hg3 (by have := HBb.out.size; omega) (by rintro k ⟨⟩; have := HG1.out; omega))
  have HSc : Hid (SI v3 A1 n1 x1 ∧ SI v3 A2 n2 x2 ∧ SI v3 A3 n3 x3) := Lib.hid ⟨SI.kept_ (HSb.out.1.below HQ2.out (Nat.le_refl _)) hg3 HSB.out.1, SI.kept_ (HSb.out.2.1.below HQ2.out (Nat.le_refl _)) hg3 HSB.out.2.1, SI.kept_ (HSb.out.2.2.below HQ2.out (Nat.le_refl _)) hg3 HSB.out.2.2⟩
  have HLc : Hid (g1 + 1 + 1 < v2.heap.size ∧ v2.heap.size ≤ u2.heap.size ∧ u2.heap.size ≤ v3.heap.size) := Lib.hid ⟨HKb.out.2.2.lt, hsz2, hg3.size⟩
  have HP2 : Hid (Own v3 v2.heap.size u2.heap.size B2 m2 d2 x2) := Lib.hid (HO2.out.grown hg3 (fun k hk => by injection hk with hk; have := HLc.out.1; omega))
  have HP1 : Hid (Own v3 v1.heap.size u1.heap.size B1 m1 d1 x1) := Lib.hid ((HP1.out.below HQ2.out (by have := HLb.out.2.2;  omega)).grown hg3 (fun k hk => by injection hk with hk; have := HLb.out.1; omega))
  rw [← hv3]
  clear hv3 hg3 hsz2
  have hcl3 : v3.cell? ⟨g1, 3, none⟩ = some (.slice A3 n3 c3) := HKc.out.1.cell 3
  go_upto_region 6 with (first
    | (go_at_call 16
       refine (toIntS_fr _ _ _ x3 _ HSc.out.2.2 hn3).mono ?_
       rintro e u3 ⟨B3, m3, d3, rfl, ho4, hb4⟩
       have HK3' : Hid (Blk u3 g1 43 #[.int .i64 s, .slice A1 n1 c1, .slice A2 n2 c2, .slice A3 n3 c3] ∧ Blk u3 (g1 + 1) 47 #[.int .i64 0, .slice none 0 0, .slice none 0 0, .slice none 0 0] ∧ Blk u3 (g1 + 1 + 1) 47 #[.int .i64 s, .slice B1 m1 d1, .slice B2 m2 d2, .slice none 0 0]) := Lib.hid ⟨HKc.out.1.below hb4 HKc.out.1.lt, HKc.out.2.1.below hb4 HKc.out.2.1.lt, HKc.out.2.2.below hb4 HKc.out.2.2.lt⟩
       have hsz3 := hb4.size
       have HQ3 : Hid (Below v3.heap.size v3 u3) := Lib.hid hb4
       have HO3 : Hid (Own u3 v3.heap.size u3.heap.size B3 m3 d3 x3) := Lib.hid ho4
       have hd3 : u3.cell? ⟨g1 + 1 + 1, 3, none⟩ = some (.slice none 0 0) := HK3'.out.2.2.cell 3
       have he3 := HK3'.out.2.2.frozen 3
       clear ho4 hb4))
  clear hcl3 hd3 he3
  obtain ⟨v4, hv4⟩ : ∃ v4, v4 = u3.setCell ⟨g1 + 1 + 1, 3, none⟩ (.slice B3 m3 d3) := ⟨_, rfl⟩
  have hg4 : u3.grownBy v4 (some (g1 + 1 + 1)) := by rw [hv4]; exact grown_setP _ _ _
  have HKd : Hid (Blk v4 g1 43 #[.int .i64 s, .slice A1 n1 c1, .slice A2 n2 c2, .slice A3 n3 c3] ∧ Blk v4 (g1 + 1) 47 #[.int .i64 0, .slice none 0 0, .slice none 0 0, .slice none 0 0] ∧ Blk v4 (g1 + 1 + 1) 47 #[.int .i64 s, .slice B1 m1 d1, .slice B2 m2 d2, .slice B3 m3 d3]) := Lib.hid (by
    rw [hv4]
    exact ⟨HK3'.out.1.far (by show g1 ≠ g1 + 1 + 1; omega) _, HK3'.out.2.1.far (by show g1 + 1 ≠ g1 + 1 + 1; omega) _, HK3'.out.2.2.set_ 3 _⟩)
  have HBd : Hid (Below w.heap.size w v4) := Lib.hid ((HBc.out.trans (HQ3.out.mono HBc.out.size)).grown hg4 (by have := HBc.out.size; omega) (by rintro k ⟨⟩; have := HG1.out; omega))
  have HSd : Hid (SI v4 A1 n1 x1 ∧ SI v4 A2 n2 x2 ∧ SI v4 A3 n3 x3) := Lib.hid ⟨SI.kept_ (HSc.out.1.below HQ3.out (Nat.le_refl _)) hg4 HSB.out.1, SI.kept_ (HSc.out.2.1.below HQ3.out (Nat.le_refl _)) hg4 HSB.out.2.1, SI.kept_ (HSc.out.2.2.below HQ3.out (Nat.le_refl _)) hg4 HSB.out.2.2⟩
  have HLd : Hid (g1 + 1 + 1 < v3.heap.size ∧ v3.heap.size ≤ u3.heap.size ∧ u3.heap.size ≤ v4.heap.size) := Lib.hid ⟨HKc.out.2.2.lt, hsz3, hg4.size⟩
  have HP3 : Hid (Own v4 v3.heap.size u3.heap.size B3 m3 d3 x3) := Lib.hid (HO3.out.grown hg4 (fun k hk => by injection hk with hk; have := HLd.out.1; omega))
  have HP1 : Hid (Own v4 v1.heap.size u1.heap.size B1 m1 d1 x1) := Lib.hid ((HP1.out.below HQ3.out (by have := HLb.out.2.2; have := HLc.out.2.1; have := HLc.out.2.2; omega)).grown hg4 (fun k hk => by injection hk with hk; have := HLb.out.1; omega))
  have HP2 : Hid (Own v4 v2.heap.size u2.heap.size B2 m2 d2 x2) := Lib.hid ((HP2.out.below HQ3.out (by have := HLc.out.2.2;  omega)).grown hg4 (fun k hk => by injection hk with hk; have := HLc.out.1; omega))
  rw [← hv4]
  clear hv4 hg4 hsz3
  go_wp2_with (first
    | (refine wpList_load_rowP rfl 47 (.tmp 3) rfl (g1 + 1 + 1) rfl 47 #[.int .i64 s, .slice B1 m1 d1, .slice B2 m2 d2, .slice B3 m3 d3] _ HKd.out.2.2 Try.underlying47 rfl Try.infoPz ?_)
    | (refine wpList_store_rowP rfl 47 (.tmp 2) (.tmp 19) rfl (g1 + 1) #[.int .i64 s, .slice B1 m1 d1, .slice B2 m2 d2, .slice B3 m3 d3] rfl rfl 47 #[.int .i64 0, .slice none 0 0, .slice none 0 0, .slice none 0 0] HKd.out.2.1 Try.infoPz rfl (by simp [Value.oneCell']) ?_; intro w5 hb5 hg5)
    | fail)
  refine bodyPost_ret (results_rowP Try.results41 _ _ _ 47 #[.int .i64 s, .slice B1 m1 d1, .slice B2 m2 d2, .slice B3 m3 d3] _ rfl hb5 Try.underlying47 rfl Try.infoPz) rfl ?_
  have l1 := HLb.out
  have l2 := HLc.out
  have l3 := HLd.out
  have l5 := hg5.size
  have hG := HG1.out
  refine ⟨B1, B2, B3, m1, d1, m2, d2, m3, d3, rfl, ⟨u1.heap.size, u2.heap.size, by omega, by omega, by omega, ?_, ?_, ?_⟩, ?_⟩
  · exact (HP1.out.grown hg5 (fun k hk => by injection hk with hk; omega)).wide (by omega) (Nat.le_refl _)
  · exact (HP2.out.grown hg5 (fun k hk => by injection hk with hk; omega)).wide (by omega) (Nat.le_refl _)
  · exact (HP3.out.grown hg5 (fun k hk => by injection hk with hk; omega)).wide (by omega) (by omega)
  · exact HBd.out.grown hg5 HBd.out.size (by rintro k ⟨⟩; omega)
theorem Within.of_below_ {lo hi : Nat} {w w' : World} (h : Below w.heap.size w w') : Within lo hi w w' := ⟨h.os, h.tape, h.output, h.size, fun k hk _ => h.block k hk⟩
/-- The cells of a puzzle in a block, told one by one. -/
theorem cells4 {w : World} {g : Nat} {t : TypeId} {a b c d : Value} (h : Blk w g t #[a, b, c, d]) : w.cell? ⟨g, 0, none⟩ = some a ∧ w.cell? ⟨g, 1, none⟩ = some b ∧ w.cell? ⟨g, 2, none⟩ = some c ∧ w.cell? ⟨g, 3, none⟩ = some d := ⟨h.cell 0, h.cell 1, h.cell 2, h.cell 3⟩
set_option maxHeartbeats 1000000 in
theorem szPuzzle_any (s : Int) (A1 A2 A3 : Option Addr) (n1 c1 n2 c2 n3 c3 : Nat) (w : World) (hn1 : n1 ≤ 9223372036854775807) (hn2 : n2 ≤ 9223372036854775807) (hn3 : n3 ≤ 9223372036854775807) :
    Calls Try.prog 39 #[.agg #[.int .i64 s, .slice A1 n1 c1, .slice A2 n2 c2, .slice A3 n3 c3], .int .i64 1048576] w fun e w' => (∃ r : Int, e = .returned (.int .i64 r) ∧ (r < 0 ∨ 0 ≤ r ∧ n1 + n2 + n3 ≤ 1048576)) ∧ Below w.heap.size w w' := by
  obtain ⟨w1, hw1⟩ : ∃ w1, w1 = w.alloc (.cells #[.int .i64 s, .slice A1 n1 c1, .slice A2 n2 c2, .slice A3 n3 c3] 43) := ⟨_, rfl⟩
  obtain ⟨g, hg⟩ : ∃ g, g = w.heap.size := ⟨_, rfl⟩
  have hk : Blk w1 g 43 #[.int .i64 s, .slice A1 n1 c1, .slice A2 n2 c2, .slice A3 n3 c3] := by rw [hw1, hg]; exact Blk.new _ _ _
  have HB : Hid (Below w.heap.size w w1) := Lib.hid (by rw [hw1]; exact Below.alloc_self _ _)
  obtain ⟨q0, q1, q2, q3⟩ := cells4 hk
  have HW := Lib.hid hw1
  have HG := Lib.hid hg
  clear hk hw1 hg q0
  have HS1 := Lib.hid (fun w => szIntS_any A1 n1 c1 1048576 w hn1 (by decide) (Int.le_refl _))
  by_cases h1 : (1048576 : Int) < (n1 : Int)
  · rw [if_pos h1] at HS1
    clear h1
    go_enter Try.func39, Try.ntmps39
    go_upto_region 1 with fail
    rw [← HW.out, ← HG.out]
    go_wp2_with (go_at_call 85; refine (HS1.out _).mono ?_; rintro e w2 ⟨rfl, rfl⟩)
    go_ret
    exact ⟨⟨-1, rfl, .inl (by decide)⟩, HB.out⟩
  · rw [if_neg h1] at HS1
    obtain ⟨l1, hl1⟩ : ∃ l1 : Int, l1 = 1048576 - (n1 : Int) := ⟨_, rfl⟩
    rw [← hl1] at HS1
    have HS2 := Lib.hid (fun w => szIntS_any A2 n2 c2 l1 w hn2 (by omega) (by omega))
    have hl1' : ¬ l1 < 0 := by omega
    by_cases h2 : l1 < (n2 : Int)
    · rw [if_pos h2] at HS2
      clear h1 h2 hl1
      go_enter Try.func39, Try.ntmps39
      go_upto_region 1 with fail
      rw [← HW.out, ← HG.out]
      go_wp2_with (go_at_call 85; first | ((with_reducible refine (HS1.out _).mono ?_); rintro e w2 ⟨rfl, rfl⟩) | ((with_reducible refine (HS2.out _).mono ?_); rintro e w2 ⟨rfl, rfl⟩))
      go_ret
      exact ⟨⟨-1, rfl, .inl (by decide)⟩, HB.out⟩
    · rw [if_neg h2] at HS2
      obtain ⟨l2, hl2⟩ : ∃ l2 : Int, l2 = l1 - (n2 : Int) := ⟨_, rfl⟩
      rw [← hl2] at HS2
      have HS3 := Lib.hid (fun w => szIntS_any A3 n3 c3 l2 w hn3 (by omega) (by omega))
      have hl2' : ¬ l2 < 0 := by omega
      by_cases h3 : l2 < (n3 : Int)
      · rw [if_pos h3] at HS3
        clear h1 h2 h3 hl1 hl2
        go_enter Try.func39, Try.ntmps39
        go_upto_region 1 with fail
        rw [← HW.out, ← HG.out]
        go_wp2_with (go_at_call 85; first | ((with_reducible refine (HS1.out _).mono ?_); rintro e w2 ⟨rfl, rfl⟩) | ((with_reducible refine (HS2.out _).mono ?_); rintro e w2 ⟨rfl, rfl⟩) | ((with_reducible refine (HS3.out _).mono ?_); rintro e w2 ⟨rfl, rfl⟩))
        go_ret
        exact ⟨⟨-1, rfl, .inl (by decide)⟩, HB.out⟩
      · rw [if_neg h3] at HS3
        obtain ⟨l3, hl3⟩ : ∃ l3 : Int, l3 = l2 - (n3 : Int) := ⟨_, rfl⟩
        rw [← hl3] at HS3
        have hl3' : ¬ l3 < 0 := by omega
        have HF : Hid (0 ≤ l3 ∧ n1 + n2 + n3 ≤ 1048576) := Lib.hid (by omega)
        clear h1 h2 h3 hl1 hl2 hl3
        go_enter Try.func39, Try.ntmps39
        go_upto_region 1 with fail
        rw [← HW.out, ← HG.out]
        go_wp2_with (go_at_call 85; first | ((with_reducible refine (HS1.out _).mono ?_); rintro e w2 ⟨rfl, rfl⟩) | ((with_reducible refine (HS2.out _).mono ?_); rintro e w2 ⟨rfl, rfl⟩) | ((with_reducible refine (HS3.out _).mono ?_); rintro e w2 ⟨rfl, rfl⟩))
        go_ret
        exact ⟨⟨l3, rfl, .inr HF.out⟩, HB.out⟩
set_option maxRecDepth 100000 in
set_option maxHeartbeats 1000000 in
theorem eqPuzzle_yes (s : Int) (A1 A2 A3 : Option Addr) (n1 c1 n2 c2 n3 c3 : Nat) (B1 B2 B3 : Option Addr) (m1 d1 m2 d2 m3 d3 : Nat) (x1 x2 x3 : List Int) (w : World) (h1 : SI w A1 n1 x1 ∧ SI w A2 n2 x2 ∧ SI w A3 n3 x3) (k1 : SI w B1 m1 x1 ∧ SI w B2 m2 x2 ∧ SI w B3 m3 x3)
    (hn : x1.length ≤ 1099511627776 ∧ x2.length ≤ 1099511627776 ∧ x3.length ≤ 1099511627776) :
    Calls Try.prog 43 #[.agg #[.int .i64 s, .slice A1 n1 c1, .slice A2 n2 c2, .slice A3 n3 c3], .agg #[.int .i64 s, .slice B1 m1 d1, .slice B2 m2 d2, .slice B3 m3 d3]] w fun e w' => e = .returned (.bool true) ∧ Below w.heap.size w w' := by
  obtain ⟨w1, hw1⟩ : ∃ w1, w1 = (w.alloc (.cells #[.int .i64 s, .slice A1 n1 c1, .slice A2 n2 c2, .slice A3 n3 c3] 47)).alloc (.cells #[.int .i64 s, .slice B1 m1 d1, .slice B2 m2 d2, .slice B3 m3 d3] 47) := ⟨_, rfl⟩
  obtain ⟨g, hg⟩ : ∃ g, g = w.heap.size := ⟨_, rfl⟩
  have hk : Blk w1 g 47 #[.int .i64 s, .slice A1 n1 c1, .slice A2 n2 c2, .slice A3 n3 c3] := by rw [hw1, hg]; exact (Blk.new _ _ _).alloc _
  have hk2 : Blk w1 (g + 1) 47 #[.int .i64 s, .slice B1 m1 d1, .slice B2 m2 d2, .slice B3 m3 d3] := by
    rw [hw1, hg]
    have := Blk.new (w.alloc (.cells #[.int .i64 s, .slice A1 n1 c1, .slice A2 n2 c2, .slice A3 n3 c3] 47)) 47 #[.int .i64 s, .slice B1 m1 d1, .slice B2 m2 d2, .slice B3 m3 d3]
    simpa using this
  have hb : Below w.heap.size w w1 := by rw [hw1]; go_grown
  have HB := Lib.hid hb
  have HW := Lib.hid hw1
  have HG := Lib.hid hg
  have HK := Lib.hid (And.intro hk hk2)
  have HS := Lib.hid (And.intro (h1.1.below hb (Nat.le_refl _)) (And.intro (h1.2.1.below hb (Nat.le_refl _)) (h1.2.2.below hb (Nat.le_refl _))))
  have HT := Lib.hid (And.intro (k1.1.below hb (Nat.le_refl _)) (And.intro (k1.2.1.below hb (Nat.le_refl _)) (k1.2.2.below hb (Nat.le_refl _))))
  have HN := Lib.hid (show n1 ≤ 1099511627776 ∧ n2 ≤ 1099511627776 ∧ n3 ≤ 1099511627776 ∧ m1 ≤ 1099511627776 ∧ m2 ≤ 1099511627776 ∧ m3 ≤ 1099511627776 by
    have := h1.1.1; have := h1.2.1.1; have := h1.2.2.1; have := k1.1.1; have := k1.2.1.1; have := k1.2.2.1
    omega)
  obtain ⟨q0, q1, q2, q3⟩ := cells4 hk
  obtain ⟨r0, r1, r2, r3⟩ := cells4 hk2
  clear hk hk2 hb hw1 hg h1 k1 hn
  go_enter Try.func43, Try.ntmps43
  go_upto_region 1 with fail
  rw [← HW.out, ← HG.out]
  go_upto_region 5 with (first
    | (go_at_call 18
       refine (eqIntS_any _ _ _ _ _ _ x1 x1 _ HS.out.1 HT.out.1 HN.out.1 HN.out.2.2.2.1).mono ?_
       rintro e w2 ⟨rfl, hd⟩
       rw [eqL_self]
       have HD2 := Lib.hid hd
       obtain ⟨q0, q1, q2, q3⟩ := cells4 (HK.out.1.drawn hd)
       obtain ⟨r0, r1, r2, r3⟩ := cells4 (HK.out.2.drawn hd)
       clear hd))
  clear q0 q1 q3 r0 r1 r3
  go_upto_region 7 with (first
    | (go_at_call 18
       refine (eqIntS_any _ _ _ _ _ _ x2 x2 _ (HD2.out.si HS.out.2.1) (HD2.out.si HT.out.2.1) HN.out.2.1 HN.out.2.2.2.2.1).mono ?_
       rintro e w3 ⟨rfl, hd⟩
       rw [eqL_self]
       have HD3 := Lib.hid (HD2.out.trans hd)
       obtain ⟨q0, q1, q2, q3⟩ := cells4 (HK.out.1.drawn HD3.out)
       obtain ⟨r0, r1, r2, r3⟩ := cells4 (HK.out.2.drawn HD3.out)
       clear hd))
  clear q0 q1 q2 r0 r1 r2
  go_wp2_with (first
    | (go_at_call 18
       refine (eqIntS_any _ _ _ _ _ _ x3 x3 _ (HD3.out.si HS.out.2.2) (HD3.out.si HT.out.2.2) HN.out.2.2.1 HN.out.2.2.2.2.2).mono ?_
       rintro e w4 ⟨rfl, hd⟩
       rw [eqL_self]
       have HD4 := Lib.hid (HD3.out.trans hd)
       clear hd))
  go_ret
  exact ⟨rfl, HB.out.trans (HD4.out.below _)⟩
/-- The three lists marked from q on. -/
abbrev mk1 (x1 : List Int) (q : Int) : List Int := marks x1.length q
abbrev mk2 (x1 x2 : List Int) (q : Int) : List Int := marks x2.length (q + x1.length)
abbrev mk3 (x1 x2 x3 : List Int) (q : Int) : List Int := marks x3.length (q + x1.length + x2.length)
set_option maxHeartbeats 1000000 in
theorem markPuzzle_any (s : Int) (A1 A2 A3 : Option Addr) (n1 c1 n2 c2 n3 c3 lo hi : Nat) (x1 x2 x3 : List Int) (q : Int) (w : World) (ho : OwnP w lo hi A1 A2 A3 n1 c1 n2 c2 n3 c3 x1 x2 x3) (hhi : hi ≤ w.heap.size)
    (hn : x1.length ≤ 1048576 ∧ x2.length ≤ 1048576 ∧ x3.length ≤ 1048576) (hq : 0 ≤ q) (hq' : q ≤ 1099500000000) :
    Calls Try.prog 44 #[.agg #[.int .i64 s, .slice A1 n1 c1, .slice A2 n2 c2, .slice A3 n3 c3], .int .i64 q] w fun e w' => e = .returned (.int .i64 (q + x1.length + x2.length + x3.length)) ∧ OwnP w' lo hi A1 A2 A3 n1 c1 n2 c2 n3 c3 (mk1 x1 q) (mk2 x1 x2 q) (mk3 x1 x2 x3 q) ∧ Within lo hi w w' := by
  obtain ⟨p, r, hp, hpr, hr, h1, h2, h3⟩ := ho
  obtain ⟨w1, hw1⟩ : ∃ w1, w1 = w.alloc (.cells #[.int .i64 s, .slice A1 n1 c1, .slice A2 n2 c2, .slice A3 n3 c3] 47) := ⟨_, rfl⟩
  obtain ⟨g, hg⟩ : ∃ g, g = w.heap.size := ⟨_, rfl⟩
  have hk : Blk w1 g 47 #[.int .i64 s, .slice A1 n1 c1, .slice A2 n2 c2, .slice A3 n3 c3] := by rw [hw1, hg]; exact Blk.new _ _ _
  have hb : Below w.heap.size w w1 := by rw [hw1]; exact Below.alloc_self _ _
  have HIN : Hid (Within lo hi w w1) := Lib.hid (Within.of_below_ hb)
  have HW := Lib.hid hw1
  have HG := Lib.hid hg
  have HK := Lib.hid hk
  have HLn := Lib.hid (And.intro h1.len (And.intro h2.len h3.len))
  have HO := Lib.hid (And.intro (h1.below hb (by omega)) (And.intro (h2.below hb (by omega)) (h3.below hb (by omega))))
  obtain ⟨q0, q1, q2, q3⟩ := cells4 hk
  have HQ := Lib.hid (And.intro hp (And.intro hpr hr))
  have HN := Lib.hid hn
  clear hk hb hw1 hg h1 h2 h3 hp hpr hr hn
  go_enter Try.func44, Try.ntmps44
  go_upto_region 1 with fail
  rw [← HW.out, ← HG.out]
  go_upto_region 2 with (first
    | (go_at_call 21
       refine (markIntS_any _ _ _ lo p x1 q _ HO.out.1 (by have := HLn.out.1; have := HN.out.1; omega) hq (by omega)).mono ?_
       rintro e w2 ⟨rfl, ho, hgr⟩
       have HI2 : Hid (Within lo hi w w2) := Lib.hid (HIN.out.trans (Within.of_grown hgr (fun k e => by have h5 := HO.out.1.lt k e; have := HQ.out; omega)))
       have HO2 : Hid (Own w2 lo p A1 n1 c1 (marks n1 q) ∧ Own w2 p r A2 n2 c2 x2 ∧ Own w2 r hi A3 n3 c3 x3) := Lib.hid ⟨ho, HO.out.2.1.grown hgr (fun k e => by have h5 := HO.out.1.lt k e; omega), HO.out.2.2.grown hgr (fun k e => by have h5 := HO.out.1.lt k e; have := HQ.out; omega)⟩
       have HK2 := Lib.hid (HK.out.grown hgr (fun e => by have h5 := HO.out.1.lt g e.symm; have := HG.out; have := HQ.out; omega))
       obtain ⟨q0, q1, q2, q3⟩ := cells4 HK2.out
       clear ho hgr))
  clear q0 q1 q3
  go_upto_region 3 with (first
    | (go_at_call 21
       refine (markIntS_any _ _ _ p r x2 (q + n1) _ HO2.out.2.1 (by have := HLn.out.2.1; have := HN.out.2.1; omega) (by omega) (by have := HLn.out.1; have := HN.out.1; omega)).mono ?_
       rintro e w3 ⟨rfl, ho, hgr⟩
       have HI3 : Hid (Within lo hi w w3) := Lib.hid (HI2.out.trans (Within.of_grown hgr (fun k e => by have h5 := HO2.out.2.1.lt k e; have := HQ.out; omega)))
       have HO3 : Hid (Own w3 lo p A1 n1 c1 (marks n1 q) ∧ Own w3 p r A2 n2 c2 (marks n2 (q + n1)) ∧ Own w3 r hi A3 n3 c3 x3) := Lib.hid ⟨HO2.out.1.grown hgr (fun k e => by have h5 := HO2.out.2.1.lt k e; omega), ho, HO2.out.2.2.grown hgr (fun k e => by have h5 := HO2.out.2.1.lt k e; omega)⟩
       have HK3 := Lib.hid (HK2.out.grown hgr (fun e => by have h5 := HO2.out.2.1.lt g e.symm; have := HG.out; have := HQ.out; omega))
       obtain ⟨q0, q1, q2, q3⟩ := cells4 HK3.out
       clear ho hgr))
  clear q0 q1 q2
  go_wp2_with (first
    | (go_at_call 21
       refine (markIntS_any _ _ _ r hi x3 (q + n1 + n2) _ HO3.out.2.2 (by have := HLn.out.2.2; have := HN.out.2.2; omega) (by omega) (by have := HLn.out.1; have := HN.out.1; have := HLn.out.2.1; have := HN.out.2.1; omega)).mono ?_
       rintro e w4 ⟨rfl, ho, hgr⟩
       have HI4 : Hid (Within lo hi w w4) := Lib.hid (HI3.out.trans (Within.of_grown hgr (fun k e => by have h5 := HO3.out.2.2.lt k e; have := HQ.out; omega)))
       have HO4 : Hid (Own w4 lo p A1 n1 c1 (marks n1 q) ∧ Own w4 p r A2 n2 c2 (marks n2 (q + n1)) ∧ Own w4 r hi A3 n3 c3 (marks n3 (q + n1 + n2))) := Lib.hid ⟨HO3.out.1.grown hgr (fun k e => by have h5 := HO3.out.2.2.lt k e; have := HQ.out; omega), HO3.out.2.1.grown hgr (fun k e => by have h5 := HO3.out.2.2.lt k e; omega), ho⟩
       clear ho hgr))
  go_ret
  have e1 := HLn.out
  refine ⟨by rw [e1.1, e1.2.1, e1.2.2]; rfl, ?_, HI4.out⟩
  unfold mk1 mk2 mk3
  rw [e1.1, e1.2.1, e1.2.2]
  exact ⟨p, r, HQ.out.1, HQ.out.2.1, HQ.out.2.2, HO4.out.1, HO4.out.2.1, HO4.out.2.2⟩
end Go.Proofs.Ytdkcngilmdpbgaa
