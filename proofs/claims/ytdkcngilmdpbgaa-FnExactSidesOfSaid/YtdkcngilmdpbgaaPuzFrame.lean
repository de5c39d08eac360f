/-
  Opening a puzzle that came in. No conditions.
-/
import Derived.Test.YtdkcngilmdpbgaaPuz
import Derived.Test.YtdkcngilmdpbgaaFrame
namespace Go.Proofs.Ytdkcngilmdpbgaa
open Go.ChangeShapes Go.WideShapes Go.ChangeAt Go.RowKit

theorem Blk.within_ {w w' : World} {g lo hi : Nat} {t : TypeId} {cs : Array Value} (h : Blk w g t cs) (hw : Within lo hi w w') (hd : g < lo ∨ hi ≤ g) : Blk w' g t cs := (hw.2.2.2.2 g h.lt hd).trans h
/-- Three slices that read as lists. -/
def PS (w : World) (A1 A2 A3 : Option Addr) (n1 n2 n3 : Nat) (x1 x2 x3 : List Int) : Prop := SI w A1 n1 x1 ∧ SI w A2 n2 x2 ∧ SI w A3 n3 x3
theorem PS.below {w w' : World} {A1 A2 A3 : Option Addr} {n1 n2 n3 B : Nat} {x1 x2 x3 : List Int} (h : PS w A1 A2 A3 n1 n2 n3 x1 x2 x3) (hb : Below B w w') (hB : w.heap.size ≤ B) : PS w' A1 A2 A3 n1 n2 n3 x1 x2 x3 := ⟨h.1.below hb hB, h.2.1.below hb hB, h.2.2.below hb hB⟩
theorem PS.lens {w : World} {A1 A2 A3 : Option Addr} {n1 n2 n3 : Nat} {x1 x2 x3 : List Int} (h : PS w A1 A2 A3 n1 n2 n3 x1 x2 x3) : x1.length = n1 ∧ x2.length = n2 ∧ x3.length = n3 := ⟨h.1.1, h.2.1.1, h.2.2.1⟩
theorem OwnP.len {w : World} {lo hi n1 c1 n2 c2 n3 c3 : Nat} {A1 A2 A3 : Option Addr} {x1 x2 x3 : List Int} (h : OwnP w lo hi A1 A2 A3 n1 c1 n2 c2 n3 c3 x1 x2 x3) : x1.length = n1 ∧ x2.length = n2 ∧ x3.length = n3 := h.lens
theorem OwnP.caps {w : World} {lo hi n1 c1 n2 c2 n3 c3 : Nat} {A1 A2 A3 : Option Addr} {x1 x2 x3 : List Int} (h : OwnP w lo hi A1 A2 A3 n1 c1 n2 c2 n3 c3 x1 x2 x3) : n1 ≤ c1 ∧ n2 ≤ c2 ∧ n3 ≤ c3 := by
  obtain ⟨p, q, _, _, _, h1, h2, h3⟩ := h; exact ⟨h1.cap, h2.cap, h3.cap⟩
theorem toPuzzle_ps (s : Int) (A1 A2 A3 : Option Addr) (n1 c1 n2 c2 n3 c3 : Nat) (x1 x2 x3 : List Int) (w : World) (h : PS w A1 A2 A3 n1 n2 n3 x1 x2 x3) (hn : n1 ≤ 1099511627776 ∧ n2 ≤ 1099511627776 ∧ n3 ≤ 1099511627776) :
    Calls Try.prog 41 #[.agg #[.int .i64 s, .slice A1 n1 c1, .slice A2 n2 c2, .slice A3 n3 c3]] w fun e w' => FreshP w w' e s x1 x2 x3 :=
  toPuzzle_any s A1 A2 A3 n1 c1 n2 c2 n3 c3 x1 x2 x3 w h.1 h.2.1 h.2.2 hn.1 hn.2.1 hn.2.2
theorem PS.of_trod {H : Type} {enc : TypeId × Value → H} {W : World} {q : Nat} {f : Nat → Bool} {cs : Array Value} {d : DataW H} {p : List MemPlace} (hsz : cs.size = 4)
    (h0 : DataW.Trod enc Try.prog W q f true 43 (.agg cs) d p) : ∃ (s : Int) (A1 A2 A3 : Option Addr) (n1 c1 n2 c2 n3 c3 : Nat) (x1 x2 x3 : List Int), cs = #[.int .i64 s, .slice A1 n1 c1, .slice A2 n2 c2, .slice A3 n3 c3] ∧ PS W A1 A2 A3 n1 n2 n3 x1 x2 x3 ∧
      (n1 ≤ 9223372036854775807 ∧ n2 ≤ 9223372036854775807 ∧ n3 ≤ 9223372036854775807) := by
  obtain ⟨v0, v1, v2, v3, rfl⟩ : ∃ v0 v1 v2 v3, cs = #[v0, v1, v2, v3] := by
    obtain ⟨l⟩ := cs
    match l, hsz with
    | [a, b, c, d], _ => exact ⟨a, b, c, d, rfl⟩
  obtain ⟨fuel, hf⟩ := h0
  obtain ⟨xs, n, _, _, _, hlen, hx⟩ := DataW.trod_struct Try.underlying43 hf
  have e0 := hx 0 _ rfl
  have e1 := hx 1 _ rfl
  have e2 := hx 2 _ rfl
  have e3 := hx 3 _ rfl
  have oneInts : ∀ (v : Value) (y : DataW H × List MemPlace), DataW.trod enc Try.prog W q f true n 22 [v] = some y → ∃ A n' c' l, v = .slice A n' c' ∧ SI W A n' l ∧ n' ≤ 9223372036854775807 := fun v y hy => by
    rcases open_ints Try.underlying22 Try.underlying3 (by kernel_rfl) hy with ⟨hcs, _⟩ | ⟨x, l, c, zs, hcs, _, hl, hm, hzs, _, hcell, _⟩
    · exact ⟨none, 0, 0, [], by simpa using hcs, SI.nil _ _, by omega⟩
    · exact ⟨some x, l, c, zs.take l, by simpa using hcs, SI.of_cells (by rw [hzs]; split <;> omega) hcell, by unfold maxLen at hm; omega⟩
  obtain ⟨y0, y1, y2, y3, rfl⟩ : ∃ y0 y1 y2 y3, xs = [y0, y1, y2, y3] := by
    match xs, hlen with
    | [a, b, c, d], _ => exact ⟨a, b, c, d, rfl⟩
  have ci : Try.prog.cellsOf 3 = 1 := by kernel_rfl
  have cs : Try.prog.cellsOf 22 = 1 := by kernel_rfl
  have k0 : DataW.trod enc Try.prog W q f true n 3 [v0] = some y0 := by simpa [ci, Value.cells] using e0
  have k1 : DataW.trod enc Try.prog W q f true n 22 [v1] = some y1 := by simpa [cs, Value.cells] using e1
  have k2 : DataW.trod enc Try.prog W q f true n 22 [v2] = some y2 := by simpa [cs, Value.cells] using e2
  have k3 : DataW.trod enc Try.prog W q f true n 22 [v3] = some y3 := by simpa [cs, Value.cells] using e3
  obtain ⟨z, hz, _, _⟩ := DataW.trod_int Try.underlying3 k0
  obtain ⟨B1, m1, d1, l1, h1, s1, b1⟩ := oneInts v1 y1 k1
  obtain ⟨B2, m2, d2, l2, h2, s2, b2⟩ := oneInts v2 y2 k2
  obtain ⟨B3, m3, d3, l3, h3, s3, b3⟩ := oneInts v3 y3 k3
  have hz' : v0 = .int .i64 z := by simpa using hz
  subst hz' h1 h2 h3
  exact ⟨z, B1, B2, B3, m1, d1, m2, d2, m3, d3, l1, l2, l3, rfl, ⟨s1, s2, s3⟩, b1, b2, b3⟩
end Go.Proofs.Ytdkcngilmdpbgaa
