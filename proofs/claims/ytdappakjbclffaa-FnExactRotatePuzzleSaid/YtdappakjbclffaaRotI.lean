/-
  Puzzles turned and reflected by the program. Conditions: lists below 2^40.
-/
import Derived.Test.YtdappakjbclffaaMovP
namespace Go.Proofs.Ytdappakjbclffaa
open Go.RowKit

/-- Three owned lists in blocks apart, in whatever order. -/
def OwnQ (w : World) (lo hi : Nat) (A1 A2 A3 : Option Addr) (n1 c1 n2 c2 n3 c3 : Nat) (x1 x2 x3 : List Int) : Prop :=
  ∃ a1 b1 a2 b2 a3 b3, ((lo ≤ a1 ∧ b1 ≤ hi) ∧ (lo ≤ a2 ∧ b2 ≤ hi) ∧ (lo ≤ a3 ∧ b3 ≤ hi) ∧ (b1 ≤ a2 ∨ b2 ≤ a1) ∧ (b1 ≤ a3 ∨ b3 ≤ a1) ∧ (b2 ≤ a3 ∨ b3 ≤ a2)) ∧ Own w a1 b1 A1 n1 c1 x1 ∧ Own w a2 b2 A2 n2 c2 x2 ∧ Own w a3 b3 A3 n3 c3 x3
section
variable {w w' : World} {lo hi n1 c1 n2 c2 n3 c3 : Nat} {A1 A2 A3 : Option Addr} {x1 x2 x3 : List Int}
theorem OwnQ.of (h : OwnP w lo hi A1 A2 A3 n1 c1 n2 c2 n3 c3 x1 x2 x3) : OwnQ w lo hi A1 A2 A3 n1 c1 n2 c2 n3 c3 x1 x2 x3 := by
  obtain ⟨p, q, k1, k2, k3, h1, h2, h3⟩ := h
  exact ⟨lo, p, p, q, q, hi, by omega, h1, h2, h3⟩
theorem OwnQ.si (h : OwnQ w lo hi A1 A2 A3 n1 c1 n2 c2 n3 c3 x1 x2 x3) : SI w A1 n1 x1 ∧ SI w A2 n2 x2 ∧ SI w A3 n3 x3 := by
  obtain ⟨_, _, _, _, _, _, _, h1, h2, h3⟩ := h; exact ⟨h1.si, h2.si, h3.si⟩
theorem OwnQ.lens (h : OwnQ w lo hi A1 A2 A3 n1 c1 n2 c2 n3 c3 x1 x2 x3) : x1.length = n1 ∧ x2.length = n2 ∧ x3.length = n3 := by
  obtain ⟨_, _, _, _, _, _, _, h1, h2, h3⟩ := h; exact ⟨h1.len, h2.len, h3.len⟩
theorem OwnQ.below {B : Nat} (h : OwnQ w lo hi A1 A2 A3 n1 c1 n2 c2 n3 c3 x1 x2 x3) (hb : Below B w w') (hB : hi ≤ B) : OwnQ w' lo hi A1 A2 A3 n1 c1 n2 c2 n3 c3 x1 x2 x3 := by
  obtain ⟨a1, b1, a2, b2, a3, b3, hh, h1, h2, h3⟩ := h
  exact ⟨a1, b1, a2, b2, a3, b3, hh, h1.below hb (by omega), h2.below hb (by omega), h3.below hb (by omega)⟩
theorem OwnQ.within {lo' hi' : Nat} (h : OwnQ w lo hi A1 A2 A3 n1 c1 n2 c2 n3 c3 x1 x2 x3) (hw : Within lo' hi' w w') (hd : hi ≤ lo' ∨ hi' ≤ lo) : OwnQ w' lo hi A1 A2 A3 n1 c1 n2 c2 n3 c3 x1 x2 x3 := by
  obtain ⟨a1, b1, a2, b2, a3, b3, hh, h1, h2, h3⟩ := h
  exact ⟨a1, b1, a2, b2, a3, b3, hh, h1.within_ hw (by omega), h2.within_ hw (by omega), h3.within_ hw (by omega)⟩
theorem OwnQ.wide {lo' hi' : Nat} (h : OwnQ w lo hi A1 A2 A3 n1 c1 n2 c2 n3 c3 x1 x2 x3) (k1 : lo' ≤ lo) (k2 : hi ≤ hi') : OwnQ w lo' hi' A1 A2 A3 n1 c1 n2 c2 n3 c3 x1 x2 x3 := by
  obtain ⟨a1, b1, a2, b2, a3, b3, hh, h1, h2, h3⟩ := h
  exact ⟨a1, b1, a2, b2, a3, b3, by omega, h1, h2, h3⟩
theorem OwnQ.nil (w : World) {lo hi : Nat} (h : lo ≤ hi) : OwnQ w lo hi none none none 0 0 0 0 0 0 [] [] [] := .of (OwnP.nil w h)
end
theorem Own3.q {w : World} {g1 g2 g3 T lo : Nat} {x1 x2 x3 : List Int} (h : Own3 w g1 g2 g3 T x1 x2 x3) (k : lo ≤ g1 ∧ lo ≤ g2 ∧ lo ≤ g3) : OwnQ w lo w.heap.size (some ⟨g1, 0, none⟩) (some ⟨g2, 0, none⟩) (some ⟨g3, 0, none⟩) T T T T T T x1 x2 x3 := by
  have h5 := h.sizes
  have h6 := h.1
  exact ⟨g1, g1 + 1, g2, g2 + 1, g3, g3 + 1, by omega, h.2.1, h.2.2.1, h.2.2.2⟩
/-- What a call that makes a puzzle and says whether it did hands back. -/
def FreshQ (w w' : World) (e : Ending) (s : Int) (b : Bool) (x1 x2 x3 : List Int) : Prop :=
  ∃ A1 A2 A3 n1 c1 n2 c2 n3 c3, e = .returned (.tuple #[.agg #[.int .i64 s, .slice A1 n1 c1, .slice A2 n2 c2, .slice A3 n3 c3], .bool b]) ∧ OwnQ w' w.heap.size w'.heap.size A1 A2 A3 n1 c1 n2 c2 n3 c3 x1 x2 x3 ∧ Below w.heap.size w w'
/-- The answers. -/
def rotS (b : Bool) (s : Int) : Int := if b then s else 0
def rotL (b : Bool) (s : Int) (to : Nat → Nat → Nat) (v : Nat → Nat → Int) : List Int := if b then putR to v (zeroN s.toNat) s.toNat else []
theorem pz_lens {wt : Bool} {s : Int} {x1 x2 x3 : List Int} (h : pzB wt s x1 x2 x3 = true) : ∃ m : Nat, s = (m : Int) ∧ (1 ≤ m ∧ m ≤ 7) ∧ x1.length = tri m ∧ x2.length = tri m ∧ x3.length = tri m := by
  have hp := ((pzB_iff _ _ _ _ _).1 h).1
  refine ⟨s.toNat, ?_, ?_, hp.2.2.1, hp.2.2.2.1, hp.2.2.2.2⟩
  · have := hp.1; omega
  · have := hp.1; have := hp.2.1; omega
theorem pz_labels {wt : Bool} {m : Nat} {x1 x2 x3 : List Int} (h : pzB wt (m : Int) x1 x2 x3 = true) : ∀ i, i < tri m → 0 ≤ nth x1 i ∧ 0 ≤ nth x2 i ∧ 0 ≤ nth x3 i := by
  intro i hi
  obtain ⟨r, k, hr, hk, rfl⟩ := tri_split hi
  have hp := ((pzB_iff _ _ _ _ _).1 h).2.1
  rw [Int.toNat_natCast] at hp
  have h5 := (hp r hr k hk).1
  unfold triA at h5
  have hall : ∀ t ∈ rightL wt, 0 ≤ t.1 ∧ 0 ≤ t.2.1 ∧ 0 ≤ t.2.2 := by cases wt <;> decide
  exact hall _ h5

set_option maxRecDepth 100000 in
set_option maxHeartbeats 2000000 in
theorem implRotatePuzzle_any (s : Int) (A1 A2 A3 : Option Addr) (n1 c1 n2 c2 n3 c3 : Nat) (x1 x2 x3 : List Int) (w : World) (h : PS w A1 A2 A3 n1 n2 n3 x1 x2 x3) (hc3 : n3 ≤ c3) (hn : n1 ≤ 1099511627776 ∧ n2 ≤ 1099511627776 ∧ n3 ≤ 1099511627776) :
    Calls Try.prog 36 #[.agg #[.int .i64 s, .slice A1 n1 c1, .slice A2 n2 c2, .slice A3 n3 c3]] w fun e w' =>
      FreshQ w w' e (rotS (pzB false s x1 x2 x3) s) (pzB false s x1 x2 x3) (rotL (pzB false s x1 x2 x3) s (toR s.toNat) (vAt x3)) (rotL (pzB false s x1 x2 x3) s (toR s.toNat) (vAt x1)) (rotL (pzB false s x1 x2 x3) s (toR s.toNat) (vAt x2)) := by
  obtain ⟨w1, hw1⟩ : ∃ w1, w1 = (w.alloc (.cells #[.int .i64 s, .slice A1 n1 c1, .slice A2 n2 c2, .slice A3 n3 c3] 35)).alloc (.cells #[.int .i64 0, .slice none 0 0, .slice none 0 0, .slice none 0 0] 35) := ⟨_, rfl⟩
  obtain ⟨g, hg⟩ : ∃ g, g = w.heap.size := ⟨_, rfl⟩
  have hk : Blk w1 g 35 #[.int .i64 s, .slice A1 n1 c1, .slice A2 n2 c2, .slice A3 n3 c3] := by rw [hw1, hg]; exact (Blk.new _ _ _).alloc _
  have hk2 : Blk w1 (g + 1) 35 #[.int .i64 0, .slice none 0 0, .slice none 0 0, .slice none 0 0] := by
    rw [hw1, hg]
    have := Blk.new (w.alloc (.cells #[.int .i64 s, .slice A1 n1 c1, .slice A2 n2 c2, .slice A3 n3 c3] 35)) 35 #[.int .i64 0, .slice none 0 0, .slice none 0 0, .slice none 0 0]
    simpa using this
  have hb : Below w.heap.size w w1 := by rw [hw1]; go_grown
  have hs := h.below hb (Nat.le_refl _)
  have HS := Lib.hid hs
  have HB1 := Lib.hid hb
  have HW := Lib.hid hw1
  have HG := Lib.hid hg
  have HK := Lib.hid hk
  have HK2 := Lib.hid hk2
  have HLN := Lib.hid hs.lens
  have HSZ : Hid (w1.heap.size = g + 2) := Lib.hid (by rw [hw1, hg]; simp)
  obtain ⟨q0, q1, q2, q3⟩ := cells4 hk
  have HOKC := Lib.hid (implPuzzleOk_any s A1 A2 A3 n1 c1 n2 c2 n3 c3 x1 x2 x3 w1 hs hc3 hn)
  obtain ⟨b, hbb⟩ : ∃ b, b = pzB false s x1 x2 x3 := ⟨_, rfl⟩
  have HBB := Lib.hid hbb
  rw [← hbb] at HOKC ⊢
  clear hw1 hg hk hk2 hb hs h hc3 hn hbb
  cases b with
  | false =>
    show Calls _ _ _ _ fun e w' => FreshQ w w' e 0 false [] [] []
    go_enter Try.func36, Try.ntmps36
    go_upto_region 1 with fail
    rw [← HW.out, ← HG.out]
    go_upto_region 2 with (go_at_call 28; refine HOKC.out.mono ?_; rintro e w2 ⟨rfl, hb2⟩; have HB2 := Lib.hid hb2; have hre := HK2.out.below HB2.out (by have := HSZ.out; omega); have HRE := Lib.hid hre; obtain ⟨rr0, rr1, rr2, rr3⟩ := cells4 hre; obtain ⟨ff0, ff1, ff2, ff3⟩ := frozen4 hre; clear hre hb2)
    have HR := Lib.hid (HRE.out.put4 (.int .i64 0) (.slice none 0 0) (.slice none 0 0) (.slice none 0 0))
    have HGZ := Lib.hid (grown_put4 w2 (g + 1) (.int .i64 0) (.slice none 0 0) (.slice none 0 0) (.slice none 0 0))
    clear q0 q1 q2 q3
    go_wp2
    refine bodyPost_ret (results_rowP_tmp Try.results36 _ _ (g + 1) 35 #[.int .i64 0, .slice none 0 0, .slice none 0 0, .slice none 0 0] _ rfl HR.out Try.underlying35 rfl Try.infoPz) rfl ?_
    refine ⟨none, none, none, 0, 0, 0, 0, 0, 0, rfl, OwnQ.nil _ ?_, ?_⟩
    · have h5 := HGZ.out.size; have h6 := HB2.out.size; have h7 := HB1.out.size; omega
    · exact (HB1.out.trans (HB2.out.mono (by have := HB1.out.size; omega))).grown HGZ.out (by have := HG.out; have := HB2.out.size; have := HSZ.out; omega) (by rintro k ⟨⟩; have := HG.out; omega)
  | true =>
    obtain ⟨m, rfl, hm, hl1, hl2, hl3⟩ := pz_lens HBB.out.symm
    have hll : n1 = tri m ∧ n2 = tri m ∧ n3 = tri m := by have h5 := HLN.out; omega
    have HLL := Lib.hid hll
    have HM := Lib.hid hm
    clear hll hm hl1 hl2 hl3
    show Calls _ _ _ _ fun e w' => FreshQ w w' e (m : Int) true (putR (toR m) ((vAt x3)) (zeroN m) m) (putR (toR m) ((vAt x1)) (zeroN m) m) (putR (toR m) ((vAt x2)) (zeroN m) m)
    have hmf : ∀ (fn : Fn) (first cap : Array Value) (w : World), (Instr.makeFunc fn first cap).run Try.prog w = .ok (.func fn first cap) w := fun _ _ _ _ => rfl
    go_enter Try.func36, Try.ntmps36
    go_upto_region 1 with fail
    rw [← HW.out, ← HG.out]
    go_upto_region 3 with (go_at_call 28; refine HOKC.out.mono ?_; rintro e w2 ⟨rfl, hb2⟩; have HB2 := Lib.hid hb2; clear hb2)
    have HK4 := Lib.hid (HK.out.below HB2.out (by have := HSZ.out; omega))
    clear q0 q1 q2 q3
    obtain ⟨q0, q1, q2, q3⟩ := cells4 HK4.out
    have HS2 := Lib.hid (HS.out.below HB2.out (Nat.le_refl _))
    have HMV := Lib.hid (movedR_any m g A1 A2 A3 n1 c1 n2 c2 n3 c3 x1 x2 x3 w2 HS2.out.1 HS2.out.2.1 HS2.out.2.2 HM.out HLL.out q0 HK4.out.lt)
    go_wp2_with (go_at_call 77; refine HMV.out.mono ?_; rintro e w3 ⟨g1, g2, g3, rfl, hge, ho3, hb3⟩; have HO3 := Lib.hid ho3; have HGE := Lib.hid hge; have HB3 := Lib.hid hb3; have hre := (HK2.out.below HB2.out (by have := HSZ.out; omega)).below HB3.out (by have := HSZ.out; have := HB2.out.size; omega); have HRE := Lib.hid hre; obtain ⟨rr0, rr1, rr2, rr3⟩ := cells4 hre; obtain ⟨ff0, ff1, ff2, ff3⟩ := frozen4 hre; clear hre hb3 hge ho3)
    have HR := Lib.hid (HRE.out.put4 (.int .i64 m) (.slice (some ⟨g1, 0, none⟩) (tri m : Nat) (tri m : Nat)) (.slice (some ⟨g2, 0, none⟩) (tri m : Nat) (tri m : Nat)) (.slice (some ⟨g3, 0, none⟩) (tri m : Nat) (tri m : Nat)))
    have HGZ := Lib.hid (grown_put4 w3 (g + 1) (.int .i64 m) (.slice (some ⟨g1, 0, none⟩) (tri m : Nat) (tri m : Nat)) (.slice (some ⟨g2, 0, none⟩) (tri m : Nat) (tri m : Nat)) (.slice (some ⟨g3, 0, none⟩) (tri m : Nat) (tri m : Nat)))
    refine bodyPost_ret (results_rowP_tmp Try.results36 _ _ (g + 1) 35 #[.int .i64 m, .slice (some ⟨g1, 0, none⟩) (tri m : Nat) (tri m : Nat), .slice (some ⟨g2, 0, none⟩) (tri m : Nat) (tri m : Nat), .slice (some ⟨g3, 0, none⟩) (tri m : Nat) (tri m : Nat)] _ rfl HR.out Try.underlying35 rfl Try.infoPz) rfl ?_
    have z1 := HB1.out.size
    have z2 := HB2.out.size
    have z3 := HB3.out.size
    have z4 := HGE.out
    have z5 := HG.out
    have z6 := HSZ.out
    refine ⟨_, _, _, _, _, _, _, _, _, rfl, (HO3.out.kept HGZ.out (by omega) (by omega) (by omega)).q (by omega), ?_⟩
    exact ((HB1.out.trans (HB2.out.mono z1)).trans (HB3.out.mono (by omega))).grown HGZ.out (by omega) (by rintro k ⟨⟩; omega)
set_option maxRecDepth 100000 in
set_option maxHeartbeats 2000000 in
theorem implMirrorPuzzle_any (s : Int) (A1 A2 A3 : Option Addr) (n1 c1 n2 c2 n3 c3 : Nat) (x1 x2 x3 : List Int) (w : World) (h : PS w A1 A2 A3 n1 n2 n3 x1 x2 x3) (hc3 : n3 ≤ c3) (hn : n1 ≤ 1099511627776 ∧ n2 ≤ 1099511627776 ∧ n3 ≤ 1099511627776) :
    Calls Try.prog 39 #[.agg #[.int .i64 s, .slice A1 n1 c1, .slice A2 n2 c2, .slice A3 n3 c3]] w fun e w' =>
      FreshQ w w' e (rotS (pzB true s x1 x2 x3) s) (pzB true s x1 x2 x3) (rotL (pzB true s x1 x2 x3) s toM (vFl x2)) (rotL (pzB true s x1 x2 x3) s toM (vFl x1)) (rotL (pzB true s x1 x2 x3) s toM (vFl x3)) := by
  obtain ⟨w1, hw1⟩ : ∃ w1, w1 = (w.alloc (.cells #[.int .i64 s, .slice A1 n1 c1, .slice A2 n2 c2, .slice A3 n3 c3] 35)).alloc (.cells #[.int .i64 0, .slice none 0 0, .slice none 0 0, .slice none 0 0] 35) := ⟨_, rfl⟩
  obtain ⟨g, hg⟩ : ∃ g, g = w.heap.size := ⟨_, rfl⟩
  have hk : Blk w1 g 35 #[.int .i64 s, .slice A1 n1 c1, .slice A2 n2 c2, .slice A3 n3 c3] := by rw [hw1, hg]; exact (Blk.new _ _ _).alloc _
  have hk2 : Blk w1 (g + 1) 35 #[.int .i64 0, .slice none 0 0, .slice none 0 0, .slice none 0 0] := by
    rw [hw1, hg]
    have := Blk.new (w.alloc (.cells #[.int .i64 s, .slice A1 n1 c1, .slice A2 n2 c2, .slice A3 n3 c3] 35)) 35 #[.int .i64 0, .slice none 0 0, .slice none 0 0, .slice none 0 0]
    simpa using this
  have hb : Below w.heap.size w w1 := by rw [hw1]; go_grown
  have hs := h.below hb (Nat.le_refl _)
  have HS := Lib.hid hs
  have HB1 := Lib.hid hb
  have HW := Lib.hid hw1
  have HG := Lib.hid hg
  have HK := Lib.hid hk
  have HK2 := Lib.hid hk2
  have HLN := Lib.hid hs.lens
  have HSZ : Hid (w1.heap.size = g + 2) := Lib.hid (by rw [hw1, hg]; simp)
  obtain ⟨q0, q1, q2, q3⟩ := cells4 hk
  have HOKC := Lib.hid (implWeightedOk_any s A1 A2 A3 n1 c1 n2 c2 n3 c3 x1 x2 x3 w1 hs hc3 hn)
  obtain ⟨b, hbb⟩ : ∃ b, b = pzB true s x1 x2 x3 := ⟨_, rfl⟩
  have HBB := Lib.hid hbb
  rw [← hbb] at HOKC ⊢
  clear hw1 hg hk hk2 hb hs h hc3 hn hbb
  cases b with
  | false =>
    show Calls _ _ _ _ fun e w' => FreshQ w w' e 0 false [] [] []
    go_enter Try.func39, Try.ntmps39
    go_upto_region 1 with fail
    rw [← HW.out, ← HG.out]
    go_upto_region 2 with (go_at_call 31; refine HOKC.out.mono ?_; rintro e w2 ⟨rfl, hb2⟩; have HB2 := Lib.hid hb2; have hre := HK2.out.below HB2.out (by have := HSZ.out; omega); have HRE := Lib.hid hre; obtain ⟨rr0, rr1, rr2, rr3⟩ := cells4 hre; obtain ⟨ff0, ff1, ff2, ff3⟩ := frozen4 hre; clear hre hb2)
    have HR := Lib.hid (HRE.out.put4 (.int .i64 0) (.slice none 0 0) (.slice none 0 0) (.slice none 0 0))
    have HGZ := Lib.hid (grown_put4 w2 (g + 1) (.int .i64 0) (.slice none 0 0) (.slice none 0 0) (.slice none 0 0))
    clear q0 q1 q2 q3
    go_wp2
    refine bodyPost_ret (results_rowP_tmp Try.results39 _ _ (g + 1) 35 #[.int .i64 0, .slice none 0 0, .slice none 0 0, .slice none 0 0] _ rfl HR.out Try.underlying35 rfl Try.infoPz) rfl ?_
    refine ⟨none, none, none, 0, 0, 0, 0, 0, 0, rfl, OwnQ.nil _ ?_, ?_⟩
    · have h5 := HGZ.out.size; have h6 := HB2.out.size; have h7 := HB1.out.size; omega
    · exact (HB1.out.trans (HB2.out.mono (by have := HB1.out.size; omega))).grown HGZ.out (by have := HG.out; have := HB2.out.size; have := HSZ.out; omega) (by rintro k ⟨⟩; have := HG.out; omega)
  | true =>
    obtain ⟨m, rfl, hm, hl1, hl2, hl3⟩ := pz_lens HBB.out.symm
    have HLAB := Lib.hid (pz_labels HBB.out.symm)
    have hll : n1 = tri m ∧ n2 = tri m ∧ n3 = tri m := by have h5 := HLN.out; omega
    have HLL := Lib.hid hll
    have HM := Lib.hid hm
    clear hll hm hl1 hl2 hl3
    show Calls _ _ _ _ fun e w' => FreshQ w w' e (m : Int) true (putR (toM) ((vFl x2)) (zeroN m) m) (putR (toM) ((vFl x1)) (zeroN m) m) (putR (toM) ((vFl x3)) (zeroN m) m)
    have hmf : ∀ (fn : Fn) (first cap : Array Value) (w : World), (Instr.makeFunc fn first cap).run Try.prog w = .ok (.func fn first cap) w := fun _ _ _ _ => rfl
    go_enter Try.func39, Try.ntmps39
    go_upto_region 1 with fail
    rw [← HW.out, ← HG.out]
    go_upto_region 3 with (go_at_call 31; refine HOKC.out.mono ?_; rintro e w2 ⟨rfl, hb2⟩; have HB2 := Lib.hid hb2; clear hb2)
    have HK4 := Lib.hid (HK.out.below HB2.out (by have := HSZ.out; omega))
    clear q0 q1 q2 q3
    obtain ⟨q0, q1, q2, q3⟩ := cells4 HK4.out
    have HS2 := Lib.hid (HS.out.below HB2.out (Nat.le_refl _))
    have HMV := Lib.hid (movedM_any m A1 A2 A3 n1 c1 n2 c2 n3 c3 x1 x2 x3 w2 HS2.out.1 HS2.out.2.1 HS2.out.2.2 HM.out HLL.out HLAB.out)
    go_wp2_with (go_at_call 77; refine HMV.out.mono ?_; rintro e w3 ⟨g1, g2, g3, rfl, hge, ho3, hb3⟩; have HO3 := Lib.hid ho3; have HGE := Lib.hid hge; have HB3 := Lib.hid hb3; have hre := (HK2.out.below HB2.out (by have := HSZ.out; omega)).below HB3.out (by have := HSZ.out; have := HB2.out.size; omega); have HRE := Lib.hid hre; obtain ⟨rr0, rr1, rr2, rr3⟩ := cells4 hre; obtain ⟨ff0, ff1, ff2, ff3⟩ := frozen4 hre; clear hre hb3 hge ho3)
    have HR := Lib.hid (HRE.out.put4 (.int .i64 m) (.slice (some ⟨g1, 0, none⟩) (tri m : Nat) (tri m : Nat)) (.slice (some ⟨g2, 0, none⟩) (tri m : Nat) (tri m : Nat)) (.slice (some ⟨g3, 0, none⟩) (tri m : Nat) (tri m : Nat)))
    have HGZ := Lib.hid (grown_put4 w3 (g + 1) (.int .i64 m) (.slice (some ⟨g1, 0, none⟩) (tri m : Nat) (tri m : Nat)) (.slice (some ⟨g2, 0, none⟩) (tri m : Nat) (tri m : Nat)) (.slice (some ⟨g3, 0, none⟩) (tri m : Nat) (tri m : Nat)))
    refine bodyPost_ret (results_rowP_tmp Try.results39 _ _ (g + 1) 35 #[.int .i64 m, .slice (some ⟨g1, 0, none⟩) (tri m : Nat) (tri m : Nat), .slice (some ⟨g2, 0, none⟩) (tri m : Nat) (tri m : Nat), .slice (some ⟨g3, 0, none⟩) (tri m : Nat) (tri m : Nat)] _ rfl HR.out Try.underlying35 rfl Try.infoPz) rfl ?_
    have z1 := HB1.out.size
    have z2 := HB2.out.size
    have z3 := HB3.out.size
    have z4 := HGE.out
    have z5 := HG.out
    have z6 := HSZ.out
    refine ⟨_, _, _, _, _, _, _, _, _, rfl, (HO3.out.kept HGZ.out (by omega) (by omega) (by omega)).q (by omega), ?_⟩
    exact ((HB1.out.trans (HB2.out.mono z1)).trans (HB3.out.mono (by omega))).grown HGZ.out (by omega) (by rintro k ⟨⟩; omega)
end Go.Proofs.Ytdappakjbclffaa
