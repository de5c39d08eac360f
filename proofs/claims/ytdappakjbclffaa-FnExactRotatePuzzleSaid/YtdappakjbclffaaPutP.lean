/-
  A small triangle put into a puzzle; the functions that move it. Conditions: places within the lists.
-/
import Derived.Test.YtdappakjbclffaaRotC
import Derived.BigRegion
namespace Go.Proofs.Ytdappakjbclffaa
open Go.RowKit

/-- Three lists in blocks of their own. -/
def Own3 (w : World) (g1 g2 g3 T : Nat) (x1 x2 x3 : List Int) : Prop :=
  (g1 ≠ g2 ∧ g1 ≠ g3 ∧ g2 ≠ g3) ∧ Own w g1 (g1 + 1) (some ⟨g1, 0, none⟩) T T x1 ∧ Own w g2 (g2 + 1) (some ⟨g2, 0, none⟩) T T x2 ∧ Own w g3 (g3 + 1) (some ⟨g3, 0, none⟩) T T x3
theorem Own3.kept {w w' : World} {g1 g2 g3 T q : Nat} {x1 x2 x3 : List Int} (h : Own3 w g1 g2 g3 T x1 x2 x3) (hg : w.grownBy w' (some q)) (h1 : q ≠ g1) (h2 : q ≠ g2) (h3 : q ≠ g3) : Own3 w' g1 g2 g3 T x1 x2 x3 :=
  ⟨h.1, h.2.1.grown hg (by rintro k ⟨⟩; omega), h.2.2.1.grown hg (by rintro k ⟨⟩; omega), h.2.2.2.grown hg (by rintro k ⟨⟩; omega)⟩
theorem Own3.below {w w' : World} {g1 g2 g3 T B : Nat} {x1 x2 x3 : List Int} (h : Own3 w g1 g2 g3 T x1 x2 x3) (hb : Below B w w') (hB : w.heap.size ≤ B) : Own3 w' g1 g2 g3 T x1 x2 x3 := by
  have l1 := (h.2.1.lt g1 rfl)
  refine ⟨h.1, h.2.1.below hb ?_, h.2.2.1.below hb ?_, h.2.2.2.below hb ?_⟩
  · have := (h.2.1.1.lt g1 rfl).2; omega
  · have := (h.2.2.1.1.lt g2 rfl).2; omega
  · have := (h.2.2.2.1.lt g3 rfl).2; omega
theorem Own3.sizes {w : World} {g1 g2 g3 T : Nat} {x1 x2 x3 : List Int} (h : Own3 w g1 g2 g3 T x1 x2 x3) : g1 < w.heap.size ∧ g2 < w.heap.size ∧ g3 < w.heap.size := ⟨(h.2.1.1.lt g1 rfl).2, (h.2.2.1.1.lt g2 rfl).2, (h.2.2.2.1.lt g3 rfl).2⟩
theorem Own3.drew {w : World} {g1 g2 g3 T : Nat} {x1 x2 x3 : List Int} (h : Own3 w g1 g2 g3 T x1 x2 x3) : Own3 w.drew g1 g2 g3 T x1 x2 x3 :=
  ⟨h.1, h.2.1.drawn ⟨1, rfl⟩, h.2.2.1.drawn ⟨1, rfl⟩, h.2.2.2.drawn ⟨1, rfl⟩⟩
theorem Own3.set {w : World} {g1 g2 g3 T i : Nat} {x1 x2 x3 : List Int} (h : Own3 w g1 g2 g3 T x1 x2 x3) (a b c : Int) :
    Own3 (((w.setCell ⟨g1, i, none⟩ (.int .i64 a)).setCell ⟨g2, i, none⟩ (.int .i64 b)).setCell ⟨g3, i, none⟩ (.int .i64 c)) g1 g2 g3 T (x1.set i a) (x2.set i b) (x3.set i c) := by
  obtain ⟨⟨n12, n13, n23⟩, h1, h2, h3⟩ := h
  obtain ⟨a1, ga⟩ := h1.set_ (k := i) a
  have b2 := h2.grown ga (by rintro k ⟨⟩; omega)
  have c3 := h3.grown ga (by rintro k ⟨⟩; omega)
  obtain ⟨b4, gb⟩ := b2.set_ (k := i) b
  have a5 := a1.grown gb (by rintro k ⟨⟩; omega)
  have c5 := c3.grown gb (by rintro k ⟨⟩; omega)
  obtain ⟨c6, gc⟩ := c5.set_ (k := i) c
  exact ⟨⟨n12, n13, n23⟩, a5.grown gc (by rintro k ⟨⟩; omega), b4.grown gc (by rintro k ⟨⟩; omega), c6⟩
set_option maxRecDepth 100000 in
set_option maxHeartbeats 2000000 in
theorem put_any (s : Int) (g1 g2 g3 T i : Nat) (x1 x2 x3 : List Int) (a b c : Int) (w : World) (h : Own3 w g1 g2 g3 T x1 x2 x3) (hi : i < T) (B : Nat) (hB : B ≤ g1 ∧ B ≤ g2 ∧ B ≤ g3) :
    Calls Try.prog 112 #[.agg #[.int .i64 s, .slice (some ⟨g1, 0, none⟩) T T, .slice (some ⟨g2, 0, none⟩) T T, .slice (some ⟨g3, 0, none⟩) T T], .int .i64 i, .agg #[.int .i64 a, .int .i64 b, .int .i64 c]] w fun e w' => e = .returned (.tuple #[]) ∧
      Own3 w' g1 g2 g3 T (x1.set i a) (x2.set i b) (x3.set i c) ∧ Below B w w' ∧ ∀ gq t cs, gq ≠ g1 → gq ≠ g2 → gq ≠ g3 → Blk w gq t cs → Blk w' gq t cs := by
  obtain ⟨w1, hw1⟩ : ∃ w1, w1 = (w.alloc (.cells #[.int .i64 s, .slice (some ⟨g1, 0, none⟩) T T, .slice (some ⟨g2, 0, none⟩) T T, .slice (some ⟨g3, 0, none⟩) T T] 35)).alloc (.cells #[.int .i64 a, .int .i64 b, .int .i64 c] 78) := ⟨_, rfl⟩
  obtain ⟨g, hg⟩ : ∃ g, g = w.heap.size := ⟨_, rfl⟩
  have hk : Blk w1 g 35 #[.int .i64 s, .slice (some ⟨g1, 0, none⟩) T T, .slice (some ⟨g2, 0, none⟩) T T, .slice (some ⟨g3, 0, none⟩) T T] := by rw [hw1, hg]; exact (Blk.new _ _ _).alloc _
  have hk2 : Blk w1 (g + 1) 78 #[.int .i64 a, .int .i64 b, .int .i64 c] := by
    rw [hw1, hg]
    have := Blk.new (w.alloc (.cells #[.int .i64 s, .slice (some ⟨g1, 0, none⟩) T T, .slice (some ⟨g2, 0, none⟩) T T, .slice (some ⟨g3, 0, none⟩) T T] 35)) 78 #[.int .i64 a, .int .i64 b, .int .i64 c]
    simpa using this
  have hb : Below w.heap.size w w1 := by rw [hw1]; go_grown
  have hsz := h.sizes
  have h1 := h.below hb (Nat.le_refl _)
  have HB1 := Lib.hid hb
  have HW := Lib.hid hw1
  have HG := Lib.hid hg
  have HO := Lib.hid h1
  have HBB := Lib.hid hB
  have HSZ := Lib.hid hsz
  obtain ⟨q0, q1, q2, q3⟩ := cells4 hk
  have t0 : w1.cell? ⟨g + 1, 0, none⟩ = some (.int .i64 a) := hk2.cell 0
  have t1 : w1.cell? ⟨g + 1, 1, none⟩ = some (.int .i64 b) := hk2.cell 1
  have t2 : w1.cell? ⟨g + 1, 2, none⟩ = some (.int .i64 c) := hk2.cell 2
  have d1 := h1.2.1.cellAt (k := i) hi
  have d2 := h1.2.2.1.cellAt (k := i) hi
  have d3 := h1.2.2.2.cellAt (k := i) hi
  have e1 := h1.2.1.frozenAt i
  have e2 := h1.2.2.1.frozenAt i
  have e3 := h1.2.2.2.frozenAt i
  have n12 : ¬ g1 = g2 := h1.1.1
  have n13 : ¬ g1 = g3 := h1.1.2.1
  have n23 : ¬ g2 = g3 := h1.1.2.2
  have n21 : ¬ g2 = g1 := fun e => n12 e.symm
  have n31 : ¬ g3 = g1 := fun e => n13 e.symm
  have n32 : ¬ g3 = g2 := fun e => n23 e.symm
  have hiI : (i : Int) < (T : Int) := by omega
  have gg1 : g ≠ g1 ∧ g ≠ g2 ∧ g ≠ g3 ∧ g + 1 ≠ g1 ∧ g + 1 ≠ g2 ∧ g + 1 ≠ g3 := by omega
  have ka := Blk.far hk gg1.1 (p := ⟨g1, i, none⟩) (.int .i64 a)
  have ka2 := Blk.far hk2 gg1.2.2.2.1 (p := ⟨g1, i, none⟩) (.int .i64 a)
  have kb := Blk.far ka gg1.2.1 (p := ⟨g2, i, none⟩) (.int .i64 b)
  have kb2 := Blk.far ka2 gg1.2.2.2.2.1 (p := ⟨g2, i, none⟩) (.int .i64 b)
  obtain ⟨qa0, qa1, qa2, qa3⟩ := cells4 ka
  obtain ⟨qb0, qb1, qb2, qb3⟩ := cells4 kb
  have ta1 := ka2.cell 1
  have ta2 := ka2.cell 2
  have tb2 := kb2.cell 2
  obtain ⟨oa, ga⟩ := h1.2.1.set_ (k := i) a
  have ob := h1.2.2.1.grown ga (by rintro k ⟨⟩; omega)
  have oc := h1.2.2.2.grown ga (by rintro k ⟨⟩; omega)
  obtain ⟨ob', gb⟩ := ob.set_ (k := i) b
  have oc' := oc.grown gb (by rintro k ⟨⟩; omega)
  have da2 := ob.cellAt (k := i) hi
  have ea2 := ob.frozenAt i
  have db3 := oc'.cellAt (k := i) hi
  have eb3 := oc'.frozenAt i
  simp at ta1 ta2 tb2
  clear ka ka2 kb kb2 oa ga ob oc ob' gb oc' gg1
  have HS3 := Lib.hid (h1.set (i := i) a b c)
  have HGR : Hid (Below B w (((w1.setCell ⟨g1, i, none⟩ (.int .i64 a)).setCell ⟨g2, i, none⟩ (.int .i64 b)).setCell ⟨g3, i, none⟩ (.int .i64 c))) := Lib.hid ((((hb.mono (by omega)).setCell (show B ≤ g1 from hB.1) _).setCell (show B ≤ g2 from hB.2.1) _).setCell (show B ≤ g3 from hB.2.2) _)
  have HFAR : Hid (∀ gq t cs, gq ≠ g1 → gq ≠ g2 → gq ≠ g3 → Blk w gq t cs → Blk (((w1.setCell ⟨g1, i, none⟩ (.int .i64 a)).setCell ⟨g2, i, none⟩ (.int .i64 b)).setCell ⟨g3, i, none⟩ (.int .i64 c)) gq t cs) := Lib.hid (fun gq t cs m1 m2 m3 hq => (((hq.below hb hq.lt).far (p := ⟨g1, i, none⟩) m1 _).far (p := ⟨g2, i, none⟩) m2 _).far (p := ⟨g3, i, none⟩) m3 _)
  clear hw1 hg hk hk2 hb hsz h1 h hi hB
  go_enter Try.func112, Try.ntmps112
  go_upto_region 1 with fail
  rw [← HW.out, ← HG.out]
  go_region
  all_goals (refine bodyPost_end (results_none rfl _ _ _) rfl ⟨rfl, ?_, ?_, ?_⟩)
  · first | exact HS3.out | exact HS3.out.drew
  · first | exact HGR.out | exact HGR.out.drew
  · first | exact HFAR.out | exact fun gq t cs m1 m2 m3 hq => (HFAR.out gq t cs m1 m2 m3 hq).drawn ⟨1, rfl⟩
theorem results_tmp_rowP {P : Program} {fn : Func} {p q : Tmp} {ty : TypeId} (h : fn.results = #[.tmp q, .cell p ty]) (tmps : Array Value) (w : World) (g : Nat) (t : TypeId) (cs : Array Value) (d : TypeDesc)
    (hp : tmps.getD p undef = .pointer (some ⟨g, 0, none⟩)) (hg : Blk w g t cs) (hu : P.underlying ty = some d) (hd : (match d with | .struct _ | .array _ _ => true | _ => false) = true) (hi : (P.info? ty).map (·.size) = some cs.size) :
    (results fn tmps).run P w = .ok (.tuple #[tmps.getD q undef, .agg cs]) w := by
  have hp' : tmps[p]?.getD undef = .pointer (some ⟨g, 0, none⟩) := by simpa using hp
  simp [results, h, hp', asAddr, run_loadVar_row w g t ty cs (0, 0) _ hg hu hd hi]
theorem results_rowP_tmp {P : Program} {fn : Func} {p q : Tmp} {ty : TypeId} (h : fn.results = #[.cell p ty, .tmp q]) (tmps : Array Value) (w : World) (g : Nat) (t : TypeId) (cs : Array Value) (d : TypeDesc)
    (hp : tmps.getD p undef = .pointer (some ⟨g, 0, none⟩)) (hg : Blk w g t cs) (hu : P.underlying ty = some d) (hd : (match d with | .struct _ | .array _ _ => true | _ => false) = true) (hi : (P.info? ty).map (·.size) = some cs.size) :
    (results fn tmps).run P w = .ok (.tuple #[.agg cs, tmps.getD q undef]) w := by
  have hp' : tmps[p]?.getD undef = .pointer (some ⟨g, 0, none⟩) := by simpa using hp
  simp [results, h, hp', asAddr, run_loadVar_row w g t ty cs (0, 0) _ hg hu hd hi]
set_option maxRecDepth 100000 in
set_option maxHeartbeats 2000000 in
theorem rotFn_any (row k m gp : Nat) (a b c : Int) (w : World) (hp : w.cell? ⟨gp, 0, none⟩ = some (.int .i64 m)) (hgp : gp < w.heap.size) (hm : m ≤ 7) (hr : row < m) (hk : k ≤ row) :
    Calls Try.prog 78 #[.int .i64 row, .int .i64 k, .agg #[.int .i64 a, .int .i64 b, .int .i64 c], .pointer (some ⟨gp, 0, none⟩)] w fun e w' => e = .returned (.tuple #[.int .i64 (toR m row k), .agg #[.int .i64 c, .int .i64 a, .int .i64 b]]) ∧ Below w.heap.size w w' := by
  obtain ⟨w1, hw1⟩ : ∃ w1, w1 = (w.alloc (.cells #[.int .i64 a, .int .i64 b, .int .i64 c] 78)).alloc (.cells #[.int .i64 0, .int .i64 0, .int .i64 0] 78) := ⟨_, rfl⟩
  obtain ⟨g, hg⟩ : ∃ g, g = w.heap.size := ⟨_, rfl⟩
  have hk1 : Blk w1 g 78 #[.int .i64 a, .int .i64 b, .int .i64 c] := by rw [hw1, hg]; exact (Blk.new _ _ _).alloc _
  have hk2 : Blk w1 (g + 1) 78 #[.int .i64 0, .int .i64 0, .int .i64 0] := by
    rw [hw1, hg]
    have := Blk.new (w.alloc (.cells #[.int .i64 a, .int .i64 b, .int .i64 c] 78)) 78 #[.int .i64 0, .int .i64 0, .int .i64 0]
    simpa using this
  have hb : Below w.heap.size w w1 := by rw [hw1]; go_grown
  have hp1 : w1.cell? ⟨gp, 0, none⟩ = some (.int .i64 m) := (hb.cell (p := ⟨gp, 0, none⟩) hgp).trans hp
  have HB1 := Lib.hid hb
  have HW := Lib.hid hw1
  have HG := Lib.hid hg
  have HK2 := Lib.hid hk2
  have t0 : w1.cell? ⟨g, 0, none⟩ = some (.int .i64 a) := hk1.cell 0
  have t1 : w1.cell? ⟨g, 1, none⟩ = some (.int .i64 b) := hk1.cell 1
  have t2 : w1.cell? ⟨g, 2, none⟩ = some (.int .i64 c) := hk1.cell 2
  obtain ⟨f, hf⟩ : ∃ f, f = m - 1 - row := ⟨_, rfl⟩
  have hfi : (m : Int) - 1 - (row : Int) = (f : Int) := by omega
  have u1 : IntKind.i64.wrap ((m : Int) - 1) = (m : Int) - 1 := IntWalk.i64_in _ (by omega)
  have u2 : IntKind.i64.wrap ((m : Int) - 1 - (row : Int)) = (f : Int) := by rw [hfi]; exact IntWalk.i64_in _ (by omega)
  have u3 : IntKind.i64.wrap ((f : Int) + (k : Int)) = (f : Int) + (k : Int) := IntWalk.i64_in _ (by omega)
  have HPL := Lib.hid (fun w => smallPlace_st (i := (f : Int) + (k : Int)) (j := (f : Int)) (f + k) f (toR m row k) (by omega) rfl (by rw [hf]; rfl) w (by omega) (by omega))
  obtain ⟨A, hA⟩ : ∃ A, A = toR m row k := ⟨_, rfl⟩
  rw [← hA] at HPL ⊢
  clear hw1 hg hk1 hk2 hb hp hgp hf hfi hA
  go_enter Try.func78, Try.ntmps78
  go_upto_region 1 with fail
  rw [← HW.out, ← HG.out]
  go_upto_region 3 with fail
  obtain ⟨wa, hwa⟩ : ∃ wa, wa = w1.alloc (.cells #[.int .i64 c, .int .i64 a, .int .i64 b] 78) := ⟨_, rfl⟩
  obtain ⟨ga, hga⟩ : ∃ ga, ga = w1.heap.size := ⟨_, rfl⟩
  rw [← hwa, ← hga]
  have hsz : w1.heap.size = g + 2 := by rw [HW.out, HG.out]; simp
  have hn : Blk wa ga 78 #[.int .i64 c, .int .i64 a, .int .i64 b] := by rw [hwa, hga]; exact Blk.new _ _ _
  have ho : Blk wa (g + 1) 78 #[.int .i64 0, .int .i64 0, .int .i64 0] := by rw [hwa]; exact HK2.out.alloc _
  have n0 : wa.cell? ⟨ga, 0, none⟩ = some (.int .i64 c) := hn.cell 0
  have n1 : wa.cell? ⟨ga, 1, none⟩ = some (.int .i64 a) := hn.cell 1
  have n2 : wa.cell? ⟨ga, 2, none⟩ = some (.int .i64 b) := hn.cell 2
  have rr0 : wa.cell? ⟨g + 1, 0, none⟩ = some (.int .i64 0) := ho.cell 0
  have rr1 : wa.cell? ⟨g + 1, 1, none⟩ = some (.int .i64 0) := ho.cell 1
  have rr2 : wa.cell? ⟨g + 1, 2, none⟩ = some (.int .i64 0) := ho.cell 2
  have f0 := ho.frozen 0
  have f1 := ho.frozen 1
  have f2 := ho.frozen 2
  have HR : Hid (Blk (((wa.setCell ⟨g + 1, 0, none⟩ (.int .i64 c)).setCell ⟨g + 1, 1, none⟩ (.int .i64 a)).setCell ⟨g + 1, 2, none⟩ (.int .i64 b)) (g + 1) 78 #[.int .i64 c, .int .i64 a, .int .i64 b]) := Lib.hid (((ho.set_ 0 _).set_ 1 _).set_ 2 _)
  have hba : Below w.heap.size w wa := by rw [hwa]; exact HB1.out.alloc (by have := HG.out; omega) _
  have HBF : Hid (Below w.heap.size w (((wa.setCell ⟨g + 1, 0, none⟩ (.int .i64 c)).setCell ⟨g + 1, 1, none⟩ (.int .i64 a)).setCell ⟨g + 1, 2, none⟩ (.int .i64 b))) := Lib.hid (((hba.setCell (show w.heap.size ≤ g + 1 by have := HG.out; omega) _).setCell (show w.heap.size ≤ g + 1 by have := HG.out; omega) _).setCell (show w.heap.size ≤ g + 1 by have := HG.out; omega) _)
  clear hwa hga hsz hn ho hba t0 t1 t2 hp1
  refine wp_region_still_tail 7 (by kernel_rfl) (by kernel_rfl) ?_
  simp only [List.take_succ_cons, List.take_zero, List.drop_succ_cons, List.drop_zero]
  repeat (first | still_step | still_call (HPL.out _))
  refine wpStill_nil ?_
  change wpList _ _ _ _ _ wa.drew
  go_wp2
  refine bodyPost_ret (results_tmp_rowP Try.results78 _ _ (g + 1) 78 #[.int .i64 c, .int .i64 a, .int .i64 b] _ rfl HR.out Try.underlying78 rfl Try.infoTri) rfl ?_
  first | exact ⟨rfl, HBF.out⟩ | exact ⟨rfl, HBF.out.drew⟩
end Go.Proofs.Ytdappakjbclffaa
