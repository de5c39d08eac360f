/-
  Copies of puzzles, the document's side; new puzzles, the program's. Conditions: lengths below 2^40.
-/
import Derived.Test.YtdkcngilmdpbgaaRotM
namespace Go.Proofs.Ytdkcngilmdpbgaa
open Go.RowKit

abbrev zeroPz : Array Value := #[.int .i64 0, .slice none 0 0, .slice none 0 0, .slice none 0 0]
theorem frozen4 {w : World} {g : Nat} {t : TypeId} {cs : Array Value} (h : Blk w g t cs) : w.frozen? ⟨g, 0, none⟩ = false ∧ w.frozen? ⟨g, 1, none⟩ = false ∧ w.frozen? ⟨g, 2, none⟩ = false ∧ w.frozen? ⟨g, 3, none⟩ = false := ⟨h.frozen 0, h.frozen 1, h.frozen 2, h.frozen 3⟩
theorem Blk.put4 {w : World} {g : Nat} {t : TypeId} {a b c d : Value} (h : Blk w g t #[a, b, c, d]) (a' b' c' d' : Value) : Blk ((((w.setCell ⟨g, 0, none⟩ a').setCell ⟨g, 1, none⟩ b').setCell ⟨g, 2, none⟩ c').setCell ⟨g, 3, none⟩ d') g t #[a', b', c', d'] := (((h.set_ 0 a').set_ 1 b').set_ 2 c').set_ 3 d'
theorem grown_put4 (w : World) (g : Nat) (a b c d : Value) : w.grownBy ((((w.setCell ⟨g, 0, none⟩ a).setCell ⟨g, 1, none⟩ b).setCell ⟨g, 2, none⟩ c).setCell ⟨g, 3, none⟩ d) (some g) :=
  (((grown_setP w ⟨g, 0, none⟩ a).trans (grown_setP _ ⟨g, 1, none⟩ b)).trans (grown_setP _ ⟨g, 2, none⟩ c)).trans (grown_setP _ ⟨g, 3, none⟩ d)
theorem OwnP.kept_ {w w' : World} {lo hi q n1 c1 n2 c2 n3 c3 : Nat} {A1 A2 A3 : Option Addr} {x1 x2 x3 : List Int} (h : OwnP w lo hi A1 A2 A3 n1 c1 n2 c2 n3 c3 x1 x2 x3) (hg : w.grownBy w' (some q)) (hq : q < lo ∨ hi ≤ q) : OwnP w' lo hi A1 A2 A3 n1 c1 n2 c2 n3 c3 x1 x2 x3 := by
  obtain ⟨p, r, a, b, c, h1, h2, h3⟩ := h
  exact ⟨p, r, a, b, c, h1.grown hg (by rintro k ⟨⟩; omega), h2.grown hg (by rintro k ⟨⟩; omega), h3.grown hg (by rintro k ⟨⟩; omega)⟩
end Go.Proofs.Ytdkcngilmdpbgaa
