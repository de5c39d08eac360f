/-
  A small triangle put into a puzzle; the functions that move it. Conditions: places within the lists.
-/
import Derived.Test.YtdkcngilmdpbgaaRotC
import Derived.BigRegion
namespace Go.Proofs.Ytdkcngilmdpbgaa
open Go.RowKit

/-- Three lists in blocks of their own. -/
def Own3 (w : World) (g1 g2 g3 T : Nat) (x1 x2 x3 : List Int) : Prop :=
  (g1 ≠ g2 ∧ g1 ≠ g3 ∧ g2 ≠ g3) ∧ Own w g1 (g1 + 1) (some ⟨g1, 0, none⟩) T T x1 ∧ Own w g2 (g2 + 1) (some ⟨g2, 0, none⟩) T T x2 ∧ Own w g3 (g3 + 1) (some ⟨g3, 0, none⟩) T T x3
theorem Own3.kept {w w' : World} {g1 g2 g3 T q : Nat} {x1 x2 x3 : List Int} (h : Own3 w g1 g2 g3 T x1 x2 x3) (hg : w.grownBy w' (some q)) (h1 : q ≠ g1) (h2 : q ≠ g2) (h3 : q ≠ g3) : Own3 w' g1 g2 g3 T x1 x2 x3 :=
  ⟨h.1, h.2.1.grown hg (by rintro k ⟨⟩; omega), h.2.2.1.grown hg (by rintro k ⟨⟩; omega), h.2.2.2.grown hg (by rintro k ⟨⟩; omega)⟩
theorem Own3.below {w w' : World} {g1 g2 g3 T B : Nat} {x1 x2 x3 : List Int} (h : Own3 w g1 g2 g3 T x1 x2 x3) (hb : Below B w w') (hB : w.heap.size ≤ B) : Own3 w' g1 g2 g3 T x1 x2 x3 := by
  have l1 := (h.2.1.lt g1 rfl)
  refine ⟨h.1, h.2.1.below hb ?_, h.2.2.1.below hb ?_, h.2.2.2.below hb ?_⟩
  · have := (h.2.1.1.lt g1 rfl).2; omega
  · have := (h.2.2.1.1.lt g2 rfl).2; omega
  · have := (h.2.2.2.1.lt g3 rfl).2; omega
theorem Own3.sizes {w : World} {g1 g2 g3 T : Nat} {x1 x2 x3 : List Int} (h : Own3 w g1 g2 g3 T x1 x2 x3) : g1 < w.heap.size ∧ g2 < w.heap.size ∧ g3 < w.heap.size := ⟨(h.2.1.1.lt g1 rfl).2, (h.2.2.1.1.lt g2 rfl).2, (h.2.2.2.1.lt g3 rfl).2⟩
theorem Own3.drew {w : World} {g1 g2 g3 T : Nat} {x1 x2 x3 : List Int} (h : Own3 w g1 g2 g3 T x1 x2 x3) : Own3 w.drew g1 g2 g3 T x1 x2 x3 :=
  ⟨h.1, h.2.1.drawn ⟨1, rfl⟩, h.2.2.1.drawn ⟨1, rfl⟩, h.2.2.2.drawn ⟨1, rfl⟩⟩
theorem Own3.set {w : World} {g1 g2 g3 T i : Nat} {x1 x2 x3 : List Int} (h : Own3 w g1 g2 g3 T x1 x2 x3) (a b c : Int) :
    Own3 (((w.setCell ⟨g1, i, none⟩ (.int .i64 a)).setCell ⟨g2, i, none⟩ (.int .i64 b)).setCell ⟨g3, i, none⟩ (.int .i64 c)) g1 g2 g3 T (x1.set i a) (x2.set i b) (x3.set i c) := by
  obtain ⟨⟨n12, n13, n23⟩, h1, h2, h3⟩ := h
  obtain ⟨a1, ga⟩ := h1.set_ (k := i) a
  have b2 := h2.grown ga (by rintro k ⟨⟩; omega)
  have c3 := h3.grown ga (by rintro k ⟨⟩; omega)
  obtain ⟨b4, gb⟩ := b2.set_ (k := i) b
  have a5 := a1.grown gb (by rintro k ⟨⟩; omega)
  have c5 := c3.grown gb (by rintro k ⟨⟩; omega)
  obtain ⟨c6, gc⟩ := c5.set_ (k := i) c
  exact ⟨⟨n12, n13, n23⟩, a5.grown gc (by rintro k ⟨⟩; omega), b4.grown gc (by rintro k ⟨⟩; omega), c6⟩
theorem results_tmp_rowP {P : Program} {fn : Func} {p q : Tmp} {ty : TypeId} (h : fn.results = #[.tmp q, .cell p ty]) (tmps : Array Value) (w : World) (g : Nat) (t : TypeId) (cs : Array Value) (d : TypeDesc)
    (hp : tmps.getD p undef = .pointer (some ⟨g, 0, none⟩)) (hg : Blk w g t cs) (hu : P.underlying ty = some d) (hd : (match d with | .struct _ | .array _ _ => true | _ => false) = true) (hi : (P.info? ty).map (·.size) = some cs.size) :
    (results fn tmps).run P w = .ok (.tuple #[tmps.getD q undef, .agg cs]) w := by
  have hp' : tmps[p]?.getD undef = .pointer (some ⟨g, 0, none⟩) := by simpa using hp
  simp [results, h, hp', asAddr, run_loadVar_row w g t ty cs (0, 0) _ hg hu hd hi]
theorem results_rowP_tmp {P : Program} {fn : Func} {p q : Tmp} {ty : TypeId} (h : fn.results = #[.cell p ty, .tmp q]) (tmps : Array Value) (w : World) (g : Nat) (t : TypeId) (cs : Array Value) (d : TypeDesc)
    (hp : tmps.getD p undef = .pointer (some ⟨g, 0, none⟩)) (hg : Blk w g t cs) (hu : P.underlying ty = some d) (hd : (match d with | .struct _ | .array _ _ => true | _ => false) = true) (hi : (P.info? ty).map (·.size) = some cs.size) :
    (results fn tmps).run P w = .ok (.tuple #[.agg cs, tmps.getD q undef]) w := by
  have hp' : tmps[p]?.getD undef = .pointer (some ⟨g, 0, none⟩) := by simpa using hp
  simp [results, h, hp', asAddr, run_loadVar_row w g t ty cs (0, 0) _ hg hu hd hi]
end Go.Proofs.Ytdkcngilmdpbgaa
