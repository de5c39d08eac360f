/-
  Puzzles handed back with a bool: marked, measured, their answers named. No conditions beyond lengths.
-/
import Derived.Test.YtdappakjbclffaaRotS
namespace Go.Proofs.Ytdappakjbclffaa
open Go.RowKit

theorem OwnQ.len {w : World} {lo hi n1 c1 n2 c2 n3 c3 : Nat} {A1 A2 A3 : Option Addr} {x1 x2 x3 : List Int} (h : OwnQ w lo hi A1 A2 A3 n1 c1 n2 c2 n3 c3 x1 x2 x3) : x1.length = n1 ∧ x2.length = n2 ∧ x3.length = n3 := h.lens
theorem rotL_len {wt : Bool} {s : Int} {x1 x2 x3 : List Int} {b : Bool} (h : b = pzB wt s x1 x2 x3) (to : Nat → Nat → Nat) (v : Nat → Nat → Int) : (rotL b s to v).length ≤ 1048576 := by
  unfold rotL
  cases b with
  | false => simp
  | true =>
    obtain ⟨m, rfl, hm, _⟩ := pz_lens h.symm
    have h5 := tri_small (r := m) (by omega)
    simp only [if_true, putR_len, Int.toNat_natCast]
    unfold zeroN
    rw [List.length_replicate]
    omega
/-- The answers, named. -/
def RotatePuzzleIs (s : Int) (x1 x2 x3 : List Int) (b : Bool) (sz : Int) (z1 z2 z3 : List Int) : Prop :=
  b = pzB false s x1 x2 x3 ∧ sz = rotS b s ∧ z1 = rotL b s (toR s.toNat) (vAt x3) ∧ z2 = rotL b s (toR s.toNat) (vAt x1) ∧ z3 = rotL b s (toR s.toNat) (vAt x2)
theorem RotatePuzzleIs.len {s : Int} {x1 x2 x3 : List Int} {b : Bool} {sz : Int} {z1 z2 z3 : List Int} (h : RotatePuzzleIs s x1 x2 x3 b sz z1 z2 z3) : z1.length ≤ 1048576 ∧ z2.length ≤ 1048576 ∧ z3.length ≤ 1048576 := by
  obtain ⟨hb, _, rfl, rfl, rfl⟩ := h
  exact ⟨rotL_len hb _ _, rotL_len hb _ _, rotL_len hb _ _⟩
theorem specRotatePuzzle_z (s : Int) (A1 A2 A3 : Option Addr) (n1 c1 n2 c2 n3 c3 : Nat) (x1 x2 x3 : List Int) (w : World) (h : PS w A1 A2 A3 n1 n2 n3 x1 x2 x3) (hc3 : n3 ≤ c3) (hn : n1 ≤ 1099511627776 ∧ n2 ≤ 1099511627776 ∧ n3 ≤ 1099511627776)
    (b : Bool) (sz : Int) (z1 z2 z3 : List Int) (hz : RotatePuzzleIs s x1 x2 x3 b sz z1 z2 z3) :
    Calls Try.prog 35 #[.agg #[.int .i64 s, .slice A1 n1 c1, .slice A2 n2 c2, .slice A3 n3 c3]] w fun e w' => FreshQ w w' e sz b z1 z2 z3 := by
  obtain ⟨rfl, rfl, rfl, rfl, rfl⟩ := hz
  exact specRotatePuzzle_any s A1 A2 A3 n1 c1 n2 c2 n3 c3 x1 x2 x3 w h hc3 hn
theorem implRotatePuzzle_z (s : Int) (A1 A2 A3 : Option Addr) (n1 c1 n2 c2 n3 c3 : Nat) (x1 x2 x3 : List Int) (w : World) (h : PS w A1 A2 A3 n1 n2 n3 x1 x2 x3) (hc3 : n3 ≤ c3) (hn : n1 ≤ 1099511627776 ∧ n2 ≤ 1099511627776 ∧ n3 ≤ 1099511627776)
    (b : Bool) (sz : Int) (z1 z2 z3 : List Int) (hz : RotatePuzzleIs s x1 x2 x3 b sz z1 z2 z3) :
    Calls Try.prog 36 #[.agg #[.int .i64 s, .slice A1 n1 c1, .slice A2 n2 c2, .slice A3 n3 c3]] w fun e w' => FreshQ w w' e sz b z1 z2 z3 := by
  obtain ⟨rfl, rfl, rfl, rfl, rfl⟩ := hz
  exact implRotatePuzzle_any s A1 A2 A3 n1 c1 n2 c2 n3 c3 x1 x2 x3 w h hc3 hn
/-- The answers, named. -/
def MirrorPuzzleIs (s : Int) (x1 x2 x3 : List Int) (b : Bool) (sz : Int) (z1 z2 z3 : List Int) : Prop :=
  b = pzB true s x1 x2 x3 ∧ sz = rotS b s ∧ z1 = rotL b s toM (vFl x2) ∧ z2 = rotL b s toM (vFl x1) ∧ z3 = rotL b s toM (vFl x3)
theorem MirrorPuzzleIs.len {s : Int} {x1 x2 x3 : List Int} {b : Bool} {sz : Int} {z1 z2 z3 : List Int} (h : MirrorPuzzleIs s x1 x2 x3 b sz z1 z2 z3) : z1.length ≤ 1048576 ∧ z2.length ≤ 1048576 ∧ z3.length ≤ 1048576 := by
  obtain ⟨hb, _, rfl, rfl, rfl⟩ := h
  exact ⟨rotL_len hb _ _, rotL_len hb _ _, rotL_len hb _ _⟩
theorem specMirrorPuzzle_z (s : Int) (A1 A2 A3 : Option Addr) (n1 c1 n2 c2 n3 c3 : Nat) (x1 x2 x3 : List Int) (w : World) (h : PS w A1 A2 A3 n1 n2 n3 x1 x2 x3) (hc3 : n3 ≤ c3) (hn : n1 ≤ 1099511627776 ∧ n2 ≤ 1099511627776 ∧ n3 ≤ 1099511627776)
    (b : Bool) (sz : Int) (z1 z2 z3 : List Int) (hz : MirrorPuzzleIs s x1 x2 x3 b sz z1 z2 z3) :
    Calls Try.prog 38 #[.agg #[.int .i64 s, .slice A1 n1 c1, .slice A2 n2 c2, .slice A3 n3 c3]] w fun e w' => FreshQ w w' e sz b z1 z2 z3 := by
  obtain ⟨rfl, rfl, rfl, rfl, rfl⟩ := hz
  exact specMirrorPuzzle_any s A1 A2 A3 n1 c1 n2 c2 n3 c3 x1 x2 x3 w h hc3 hn
theorem implMirrorPuzzle_z (s : Int) (A1 A2 A3 : Option Addr) (n1 c1 n2 c2 n3 c3 : Nat) (x1 x2 x3 : List Int) (w : World) (h : PS w A1 A2 A3 n1 n2 n3 x1 x2 x3) (hc3 : n3 ≤ c3) (hn : n1 ≤ 1099511627776 ∧ n2 ≤ 1099511627776 ∧ n3 ≤ 1099511627776)
    (b : Bool) (sz : Int) (z1 z2 z3 : List Int) (hz : MirrorPuzzleIs s x1 x2 x3 b sz z1 z2 z3) :
    Calls Try.prog 39 #[.agg #[.int .i64 s, .slice A1 n1 c1, .slice A2 n2 c2, .slice A3 n3 c3]] w fun e w' => FreshQ w w' e sz b z1 z2 z3 := by
  obtain ⟨rfl, rfl, rfl, rfl, rfl⟩ := hz
  exact implMirrorPuzzle_any s A1 A2 A3 n1 c1 n2 c2 n3 c3 x1 x2 x3 w h hc3 hn
set_option maxHeartbeats 1000000 in
theorem markPuzzleQ_any (s : Int) (A1 A2 A3 : Option Addr) (n1 c1 n2 c2 n3 c3 lo hi : Nat) (x1 x2 x3 : List Int) (q : Int) (w : World) (ho : OwnQ w lo hi A1 A2 A3 n1 c1 n2 c2 n3 c3 x1 x2 x3) (hhi : hi ≤ w.heap.size)
    (hn : x1.length ≤ 1048576 ∧ x2.length ≤ 1048576 ∧ x3.length ≤ 1048576) (hq : 0 ≤ q) (hq' : q ≤ 1099500000000) :
    Calls Try.prog 34 #[.agg #[.int .i64 s, .slice A1 n1 c1, .slice A2 n2 c2, .slice A3 n3 c3], .int .i64 q] w fun e w' => e = .returned (.int .i64 (q + x1.length + x2.length + x3.length)) ∧ OwnQ w' lo hi A1 A2 A3 n1 c1 n2 c2 n3 c3 (mk1 x1 q) (mk2 x1 x2 q) (mk3 x1 x2 x3 q) ∧ Within lo hi w w' := by
  obtain ⟨a1, b1, a2, b2, a3, b3, hh, h1, h2, h3⟩ := ho
  obtain ⟨w1, hw1⟩ : ∃ w1, w1 = w.alloc (.cells #[.int .i64 s, .slice A1 n1 c1, .slice A2 n2 c2, .slice A3 n3 c3] 35) := ⟨_, rfl⟩
  obtain ⟨g, hg⟩ : ∃ g, g = w.heap.size := ⟨_, rfl⟩
  have hk : Blk w1 g 35 #[.int .i64 s, .slice A1 n1 c1, .slice A2 n2 c2, .slice A3 n3 c3] := by rw [hw1, hg]; exact Blk.new _ _ _
  have hb : Below w.heap.size w w1 := by rw [hw1]; exact Below.alloc_self _ _
  have HIN : Hid (Within lo hi w w1) := Lib.hid (Within.of_below_ hb)
  have HW := Lib.hid hw1
  have HG := Lib.hid hg
  have HK := Lib.hid hk
  have HLn := Lib.hid (And.intro h1.len (And.intro h2.len h3.len))
  have HO := Lib.hid (And.intro (h1.below hb (by omega)) (And.intro (h2.below hb (by omega)) (h3.below hb (by omega))))
  obtain ⟨q0, q1, q2, q3⟩ := cells4 hk
  have HQ := Lib.hid hh
  have HN := Lib.hid hn
  clear hk hb hw1 hg h1 h2 h3 hh hn
  go_enter Try.func34, Try.ntmps34
  go_upto_region 1 with fail
  rw [← HW.out, ← HG.out]
  go_upto_region 2 with (first
    | (go_at_call 21
       refine (markIntS_any _ _ _ a1 b1 x1 q _ HO.out.1 (by have := HLn.out.1; have := HN.out.1; omega) hq (by omega)).mono ?_
       rintro e w2 ⟨rfl, ho, hgr⟩
       have HI2 : Hid (Within lo hi w w2) := Lib.hid (HIN.out.trans (Within.of_grown hgr (fun k e => by have h5 := HO.out.1.lt k e; have := HQ.out; omega)))
       have HO2 : Hid (Own w2 a1 b1 A1 n1 c1 (marks n1 q) ∧ Own w2 a2 b2 A2 n2 c2 x2 ∧ Own w2 a3 b3 A3 n3 c3 x3) := Lib.hid ⟨ho, HO.out.2.1.grown hgr (fun k e => by have h5 := HO.out.1.lt k e; have := HQ.out; omega), HO.out.2.2.grown hgr (fun k e => by have h5 := HO.out.1.lt k e; have := HQ.out; omega)⟩
       have HK2 := Lib.hid (HK.out.grown hgr (fun e => by have h5 := HO.out.1.lt g e.symm; have := HG.out; have := HQ.out; omega))
       obtain ⟨q0, q1, q2, q3⟩ := cells4 HK2.out
       clear ho hgr))
  clear q0 q1 q3
  go_upto_region 3 with (first
    | (go_at_call 21
       refine (markIntS_any _ _ _ a2 b2 x2 (q + n1) _ HO2.out.2.1 (by have := HLn.out.2.1; have := HN.out.2.1; omega) (by omega) (by have := HLn.out.1; have := HN.out.1; omega)).mono ?_
       rintro e w3 ⟨rfl, ho, hgr⟩
       have HI3 : Hid (Within lo hi w w3) := Lib.hid (HI2.out.trans (Within.of_grown hgr (fun k e => by have h5 := HO2.out.2.1.lt k e; have := HQ.out; omega)))
       have HO3 : Hid (Own w3 a1 b1 A1 n1 c1 (marks n1 q) ∧ Own w3 a2 b2 A2 n2 c2 (marks n2 (q + n1)) ∧ Own w3 a3 b3 A3 n3 c3 x3) := Lib.hid ⟨HO2.out.1.grown hgr (fun k e => by have h5 := HO2.out.2.1.lt k e; have := HQ.out; omega), ho, HO2.out.2.2.grown hgr (fun k e => by have h5 := HO2.out.2.1.lt k e; have := HQ.out; omega)⟩
       have HK3 := Lib.hid (HK2.out.grown hgr (fun e => by have h5 := HO2.out.2.1.lt g e.symm; have := HG.out; have := HQ.out; omega))
       obtain ⟨q0, q1, q2, q3⟩ := cells4 HK3.out
       clear ho hgr))
  clear q0 q1 q2
  go_wp2_with (first
    | (go_at_call 21
       refine (markIntS_any _ _ _ a3 b3 x3 (q + n1 + n2) _ HO3.out.2.2 (by have := HLn.out.2.2; have := HN.out.2.2; omega) (by omega) (by have := HLn.out.1; have := HN.out.1; have := HLn.out.2.1; have := HN.out.2.1; omega)).mono ?_
       rintro e w4 ⟨rfl, ho, hgr⟩
       have HI4 : Hid (Within lo hi w w4) := Lib.hid (HI3.out.trans (Within.of_grown hgr (fun k e => by have h5 := HO3.out.2.2.lt k e; have := HQ.out; omega)))
       have HO4 : Hid (Own w4 a1 b1 A1 n1 c1 (marks n1 q) ∧ Own w4 a2 b2 A2 n2 c2 (marks n2 (q + n1)) ∧ Own w4 a3 b3 A3 n3 c3 (marks n3 (q + n1 + n2))) := Lib.hid ⟨HO3.out.1.grown hgr (fun k e => by have h5 := HO3.out.2.2.lt k e; have := HQ.out; omega), HO3.out.2.1.grown hgr (fun k e => by have h5 := HO3.out.2.2.lt k e; have := HQ.out; omega), ho⟩
       clear ho hgr))
  go_ret
  have e1 := HLn.out
  refine ⟨by rw [e1.1, e1.2.1, e1.2.2]; rfl, ?_, HI4.out⟩
  unfold mk1 mk2 mk3
  rw [e1.1, e1.2.1, e1.2.2]
  exact ⟨a1, b1, a2, b2, a3, b3, HQ.out, HO4.out.1, HO4.out.2.1, HO4.out.2.2⟩
end Go.Proofs.Ytdappakjbclffaa
