/-
  PuzzleOk and WeightedOk on both sides. Conditions: lengths below 2^40.
-/
import Derived.Test.YtdkcngilmdpbgaaPuzK
import Derived.Test.YtdkcngilmdpbgaaPuzS
import Derived.Test.YtdkcngilmdpbgaaPuzFrame
namespace Go.Proofs.Ytdkcngilmdpbgaa
open Go.RowKit
set_option maxHeartbeats 1000000 in
theorem specWeightedOk_any (s : Int) (A1 A2 A3 : Option Addr) (n1 c1 n2 c2 n3 c3 : Nat) (x1 x2 x3 : List Int) (w : World) (h : PS w A1 A2 A3 n1 n2 n3 x1 x2 x3) (hc3 : n3 ≤ c3) (hn : n1 ≤ 1099511627776 ∧ n2 ≤ 1099511627776 ∧ n3 ≤ 1099511627776) :
    Calls Try.prog 86 #[.agg #[.int .i64 s, .slice A1 n1 c1, .slice A2 n2 c2, .slice A3 n3 c3]] w fun e w' => e = .returned (.bool (pzB true s x1 x2 x3)) ∧ Below w.heap.size w w' := by
  obtain ⟨w1, hw1⟩ : ∃ w1, w1 = w.alloc (.cells #[.int .i64 s, .slice A1 n1 c1, .slice A2 n2 c2, .slice A3 n3 c3] 47) := ⟨_, rfl⟩
  obtain ⟨g, hg⟩ : ∃ g, g = w.heap.size := ⟨_, rfl⟩
  have hk : Blk w1 g 47 #[.int .i64 s, .slice A1 n1 c1, .slice A2 n2 c2, .slice A3 n3 c3] := by rw [hw1, hg]; exact Blk.new _ _ _
  have hb : Below w.heap.size w w1 := by rw [hw1]; exact Below.alloc_self _ _
  have hsz : w.heap.size ≤ w1.heap.size := hb.size
  have HB1 := Lib.hid hb
  have HW := Lib.hid hw1
  have HG := Lib.hid hg
  have HK := Lib.hid hk
  have hs := h.below hb (Nat.le_refl _)
  have HSZ := Lib.hid hsz
  have HGL := Lib.hid hk.lt
  have HC := Lib.hid (l5Ok_any s A1 A2 A3 n1 c1 n2 c2 n3 c3 x1 x2 x3 true w1 hs.1 hs.2.1 hs.2.2 hn)
  obtain ⟨q0, q1, q2, q3⟩ := cells4 hk
  clear hk hb hs hsz hw1 hg h hc3 hn
  go_enter Try.func86, Try.ntmps86
  go_upto_region 1 with fail
  rw [← HW.out, ← HG.out]
  go_wp2_with (go_at_call 117; refine HC.out.mono ?_; rintro e w2 ⟨rfl, hb2⟩; have HB2 := Lib.hid hb2; clear hb2)
  go_ret
  exact ⟨rfl, HB1.out.trans (HB2.out.mono HSZ.out)⟩
set_option maxHeartbeats 1000000 in
theorem implWeightedOk_any (s : Int) (A1 A2 A3 : Option Addr) (n1 c1 n2 c2 n3 c3 : Nat) (x1 x2 x3 : List Int) (w : World) (h : PS w A1 A2 A3 n1 n2 n3 x1 x2 x3) (hc3 : n3 ≤ c3) (hn : n1 ≤ 1099511627776 ∧ n2 ≤ 1099511627776 ∧ n3 ≤ 1099511627776) :
    Calls Try.prog 88 #[.agg #[.int .i64 s, .slice A1 n1 c1, .slice A2 n2 c2, .slice A3 n3 c3]] w fun e w' => e = .returned (.bool (pzB true s x1 x2 x3)) ∧ Below w.heap.size w w' := by
  obtain ⟨w1, hw1⟩ : ∃ w1, w1 = w.alloc (.cells #[.int .i64 s, .slice A1 n1 c1, .slice A2 n2 c2, .slice A3 n3 c3] 47) := ⟨_, rfl⟩
  obtain ⟨g, hg⟩ : ∃ g, g = w.heap.size := ⟨_, rfl⟩
  have hk : Blk w1 g 47 #[.int .i64 s, .slice A1 n1 c1, .slice A2 n2 c2, .slice A3 n3 c3] := by rw [hw1, hg]; exact Blk.new _ _ _
  have hb : Below w.heap.size w w1 := by rw [hw1]; exact Below.alloc_self _ _
  have hsz : w.heap.size ≤ w1.heap.size := hb.size
  have HB1 := Lib.hid hb
  have HW := Lib.hid hw1
  have HG := Lib.hid hg
  have HK := Lib.hid hk
  have hs := h.below hb (Nat.le_refl _)
  have HSZ := Lib.hid hsz
  have HGL := Lib.hid hk.lt
  have HS : Hid (SI w1 A1 n1 x1 ∧ SI w1 A2 n2 x2 ∧ SI w1 A3 n3 x3) := Lib.hid hs
  have HC3 := Lib.hid hc3
  have hq := cells4 hk
  have hqd : w1.drew.cell? ⟨g, 0, none⟩ = some (.int .i64 s) ∧ w1.drew.cell? ⟨g, 1, none⟩ = some (.slice A1 n1 c1) ∧ w1.drew.cell? ⟨g, 2, none⟩ = some (.slice A2 n2 c2) ∧ w1.drew.cell? ⟨g, 3, none⟩ = some (.slice A3 n3 c3) := hq
  have HQ := Lib.hid hq
  have HQD := Lib.hid hqd
  clear hk hb hs hsz hw1 hg h hc3 hn hq hqd
  go_enter Try.func88, Try.ntmps88
  go_upto_region 1 with fail
  rw [← HW.out, ← HG.out]
  go_region_held3 (fun w' => w'.cell? ⟨g, 0, none⟩ = some (.int .i64 s) ∧ w'.cell? ⟨g, 1, none⟩ = some (.slice A1 n1 c1) ∧ w'.cell? ⟨g, 2, none⟩ = some (.slice A2 n2 c2) ∧ w'.cell? ⟨g, 3, none⟩ = some (.slice A3 n3 c3))
    (first | exact HQD.out | exact HQ.out | exact K4 | exact K5)
    (first
      | (go_at_call 120
         with_reducible refine (weightedTriangles_any _).mono ?_
         rintro e w4 ⟨AR, rfl, hr4, hb4⟩
         have hb4' : Below w1.heap.size w1 w4 := ((Below.refl _ _).drew).trans hb4
         have K4 := cells4 (HK.out.below hb4' HGL.out)
         have HR4 := Lib.hid hr4
         have S1 := Lib.hid (HS.out.1.below hb4' (Nat.le_refl _))
         have S2 := Lib.hid (HS.out.2.1.below hb4' (Nat.le_refl _))
         have S3 := Lib.hid (HS.out.2.2.below hb4' (Nat.le_refl _))
         have HB4 := Lib.hid hb4'
         clear hr4 hb4 hb4')
      | (go_at_call 119
         with_reducible refine (isMadeOf_any true s A1 A2 A3 n1 c1 n2 c2 n3 c3 AR 6 6 x1 x2 x3 _ S1.out S2.out S3.out HC3.out HR4.out).mono ?_
         rintro e w5 ⟨rfl, hb5⟩
         have HB5 : Hid (Below w1.heap.size w1 w5) := Lib.hid (HB4.out.trans (hb5.mono HB4.out.size))
         have K5 := cells4 (HK.out.below HB5.out HGL.out)
         clear hb5))
  all_goals
    (go_wp2
     go_ret
     exact ⟨rfl, HB1.out.trans (HB5.out.mono HSZ.out)⟩)
end Go.Proofs.Ytdkcngilmdpbgaa
