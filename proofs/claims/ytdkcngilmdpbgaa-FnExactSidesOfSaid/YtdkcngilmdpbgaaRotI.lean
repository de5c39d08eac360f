/-
  Puzzles turned and reflected by the program. Conditions: lists below 2^40.
-/
import Derived.Test.YtdkcngilmdpbgaaMovP
namespace Go.Proofs.Ytdkcngilmdpbgaa
open Go.RowKit

/-- Three owned lists in blocks apart, in whatever order. -/
def OwnQ (w : World) (lo hi : Nat) (A1 A2 A3 : Option Addr) (n1 c1 n2 c2 n3 c3 : Nat) (x1 x2 x3 : List Int) : Prop :=
  ∃ a1 b1 a2 b2 a3 b3, ((lo ≤ a1 ∧ b1 ≤ hi) ∧ (lo ≤ a2 ∧ b2 ≤ hi) ∧ (lo ≤ a3 ∧ b3 ≤ hi) ∧ (b1 ≤ a2 ∨ b2 ≤ a1) ∧ (b1 ≤ a3 ∨ b3 ≤ a1) ∧ (b2 ≤ a3 ∨ b3 ≤ a2)) ∧ Own w a1 b1 A1 n1 c1 x1 ∧ Own w a2 b2 A2 n2 c2 x2 ∧ Own w a3 b3 A3 n3 c3 x3
section
variable {w w' : World} {lo hi n1 c1 n2 c2 n3 c3 : Nat} {A1 A2 A3 : Option Addr} {x1 x2 x3 : List Int}
theorem OwnQ.of (h : OwnP w lo hi A1 A2 A3 n1 c1 n2 c2 n3 c3 x1 x2 x3) : OwnQ w lo hi A1 A2 A3 n1 c1 n2 c2 n3 c3 x1 x2 x3 := by
  obtain ⟨p, q, k1, k2, k3, h1, h2, h3⟩ := h
  exact ⟨lo, p, p, q, q, hi, by omega, h1, h2, h3⟩
theorem OwnQ.si (h : OwnQ w lo hi A1 A2 A3 n1 c1 n2 c2 n3 c3 x1 x2 x3) : SI w A1 n1 x1 ∧ SI w A2 n2 x2 ∧ SI w A3 n3 x3 := by
  obtain ⟨_, _, _, _, _, _, _, h1, h2, h3⟩ := h; exact ⟨h1.si, h2.si, h3.si⟩
theorem OwnQ.lens (h : OwnQ w lo hi A1 A2 A3 n1 c1 n2 c2 n3 c3 x1 x2 x3) : x1.length = n1 ∧ x2.length = n2 ∧ x3.length = n3 := by
  obtain ⟨_, _, _, _, _, _, _, h1, h2, h3⟩ := h; exact ⟨h1.len, h2.len, h3.len⟩
theorem OwnQ.below {B : Nat} (h : OwnQ w lo hi A1 A2 A3 n1 c1 n2 c2 n3 c3 x1 x2 x3) (hb : Below B w w') (hB : hi ≤ B) : OwnQ w' lo hi A1 A2 A3 n1 c1 n2 c2 n3 c3 x1 x2 x3 := by
  obtain ⟨a1, b1, a2, b2, a3, b3, hh, h1, h2, h3⟩ := h
  exact ⟨a1, b1, a2, b2, a3, b3, hh, h1.below hb (by omega), h2.below hb (by omega), h3.below hb (by omega)⟩
theorem OwnQ.within {lo' hi' : Nat} (h : OwnQ w lo hi A1 A2 A3 n1 c1 n2 c2 n3 c3 x1 x2 x3) (hw : Within lo' hi' w w') (hd : hi ≤ lo' ∨ hi' ≤ lo) : OwnQ w' lo hi A1 A2 A3 n1 c1 n2 c2 n3 c3 x1 x2 x3 := by
  obtain ⟨a1, b1, a2, b2, a3, b3, hh, h1, h2, h3⟩ := h
  exact ⟨a1, b1, a2, b2, a3, b3, hh, h1.within_ hw (by omega), h2.within_ hw (by omega), h3.within_ hw (by omega)⟩
theorem OwnQ.wide {lo' hi' : Nat} (h : OwnQ w lo hi A1 A2 A3 n1 c1 n2 c2 n3 c3 x1 x2 x3) (k1 : lo' ≤ lo) (k2 : hi ≤ hi') : OwnQ w lo' hi' A1 A2 A3 n1 c1 n2 c2 n3 c3 x1 x2 x3 := by
  obtain ⟨a1, b1, a2, b2, a3, b3, hh, h1, h2, h3⟩ := h
  exact ⟨a1, b1, a2, b2, a3, b3, by omega, h1, h2, h3⟩
theorem OwnQ.nil (w : World) {lo hi : Nat} (h : lo ≤ hi) : OwnQ w lo hi none none none 0 0 0 0 0 0 [] [] [] := .of (OwnP.nil w h)
end
theorem Own3.q {w : World} {g1 g2 g3 T lo : Nat} {x1 x2 x3 : List Int} (h : Own3 w g1 g2 g3 T x1 x2 x3) (k : lo ≤ g1 ∧ lo ≤ g2 ∧ lo ≤ g3) : OwnQ w lo w.heap.size (some ⟨g1, 0, none⟩) (some ⟨g2, 0, none⟩) (some ⟨g3, 0, none⟩) T T T T T T x1 x2 x3 := by
  have h5 := h.sizes
  have h6 := h.1
  exact ⟨g1, g1 + 1, g2, g2 + 1, g3, g3 + 1, by omega, h.2.1, h.2.2.1, h.2.2.2⟩
/-- What a call that makes a puzzle and says whether it did hands back. -/
def FreshQ (w w' : World) (e : Ending) (s : Int) (b : Bool) (x1 x2 x3 : List Int) : Prop :=
  ∃ A1 A2 A3 n1 c1 n2 c2 n3 c3, e = .returned (.tuple #[.agg #[.int .i64 s, .slice A1 n1 c1, .slice A2 n2 c2, .slice A3 n3 c3], .bool b]) ∧ OwnQ w' w.heap.size w'.heap.size A1 A2 A3 n1 c1 n2 c2 n3 c3 x1 x2 x3 ∧ Below w.heap.size w w'
/-- The answers. -/
def rotS (b : Bool) (s : Int) : Int := if b then s else 0
def rotL (b : Bool) (s : Int) (to : Nat → Nat → Nat) (v : Nat → Nat → Int) : List Int := if b then putR to v (zeroN s.toNat) s.toNat else []
theorem pz_lens {wt : Bool} {s : Int} {x1 x2 x3 : List Int} (h : pzB wt s x1 x2 x3 = true) : ∃ m : Nat, s = (m : Int) ∧ (1 ≤ m ∧ m ≤ 7) ∧ x1.length = tri m ∧ x2.length = tri m ∧ x3.length = tri m := by
  have hp := ((pzB_iff _ _ _ _ _).1 h).1
  refine ⟨s.toNat, ?_, ?_, hp.2.2.1, hp.2.2.2.1, hp.2.2.2.2⟩
  · have := hp.1; omega
  · have := hp.1; have := hp.2.1; omega
theorem pz_labels {wt : Bool} {m : Nat} {x1 x2 x3 : List Int} (h : pzB wt (m : Int) x1 x2 x3 = true) : ∀ i, i < tri m → 0 ≤ nth x1 i ∧ 0 ≤ nth x2 i ∧ 0 ≤ nth x3 i := by
  intro i hi
  obtain ⟨r, k, hr, hk, rfl⟩ := tri_split hi
  have hp := ((pzB_iff _ _ _ _ _).1 h).2.1
  rw [Int.toNat_natCast] at hp
  have h5 := (hp r hr k hk).1
  unfold triA at h5
  have hall : ∀ t ∈ rightL wt, 0 ≤ t.1 ∧ 0 ≤ t.2.1 ∧ 0 ≤ t.2.2 := by cases wt <;> decide
  exact hall _ h5

end Go.Proofs.Ytdkcngilmdpbgaa
