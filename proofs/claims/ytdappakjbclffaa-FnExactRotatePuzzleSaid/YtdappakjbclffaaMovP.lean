/-
  All small triangles of a puzzle put where a closure says: the program's two moves. Conditions: Size 1 to 7, lists of its length.
-/
import Derived.Test.YtdappakjbclffaaMirP
import Derived.Test.YtdappakjbclffaaNewP
namespace Go.Proofs.Ytdappakjbclffaa
open Go.RowKit

set_option maxRecDepth 100000 in
set_option maxHeartbeats 4000000 in
theorem movedR_any (m gp : Nat) (A1 A2 A3 : Option Addr) (n1 c1 n2 c2 n3 c3 : Nat) (x1 x2 x3 : List Int) (w : World) (h1 : SI w A1 n1 x1) (h2 : SI w A2 n2 x2) (h3 : SI w A3 n3 x3) (hm : 1 ≤ m ∧ m ≤ 7) (hl : n1 = tri m ∧ n2 = tri m ∧ n3 = tri m) (hp : w.cell? ⟨gp, 0, none⟩ = some (.int .i64 m)) (hgp : gp < w.heap.size) :
    Calls Try.prog 77 #[.agg #[.int .i64 m, .slice A1 n1 c1, .slice A2 n2 c2, .slice A3 n3 c3], .func (.func 78) #[] #[.pointer (some ⟨gp, 0, none⟩)]] w fun e w' =>
      ∃ g1 g2 g3, e = .returned (.agg #[.int .i64 m, .slice (some ⟨g1, 0, none⟩) (tri m : Nat) (tri m : Nat), .slice (some ⟨g2, 0, none⟩) (tri m : Nat) (tri m : Nat), .slice (some ⟨g3, 0, none⟩) (tri m : Nat) (tri m : Nat)]) ∧ (w.heap.size ≤ g1 ∧ w.heap.size ≤ g2 ∧ w.heap.size ≤ g3) ∧
        Own3 w' g1 g2 g3 (tri m) (putR (toR m) (vAt x3) (zeroN m) m) (putR (toR m) (vAt x1) (zeroN m) m) (putR (toR m) (vAt x2) (zeroN m) m) ∧ Below w.heap.size w w' := by
  obtain ⟨w1, hw1⟩ : ∃ w1, w1 = (w.alloc (.cells #[.int .i64 m, .slice A1 n1 c1, .slice A2 n2 c2, .slice A3 n3 c3] 35)).alloc (.cells #[.int .i64 0, .slice none 0 0, .slice none 0 0, .slice none 0 0] 35) := ⟨_, rfl⟩
  obtain ⟨g, hg⟩ : ∃ g, g = w.heap.size := ⟨_, rfl⟩
  have hk : Blk w1 g 35 #[.int .i64 m, .slice A1 n1 c1, .slice A2 n2 c2, .slice A3 n3 c3] := by rw [hw1, hg]; exact (Blk.new _ _ _).alloc _
  have hk2 : Blk w1 (g + 1) 35 #[.int .i64 0, .slice none 0 0, .slice none 0 0, .slice none 0 0] := by
    rw [hw1, hg]
    have := Blk.new (w.alloc (.cells #[.int .i64 m, .slice A1 n1 c1, .slice A2 n2 c2, .slice A3 n3 c3] 35)) 35 #[.int .i64 0, .slice none 0 0, .slice none 0 0, .slice none 0 0]
    simpa using this
  have hb : Below w.heap.size w w1 := by rw [hw1]; go_grown
  have HB1 := Lib.hid hb
  have HW := Lib.hid hw1
  have HG := Lib.hid hg
  have HK := Lib.hid hk
  have HK2 := Lib.hid hk2
  have HM := Lib.hid hm
  have HL := Lib.hid hl
  have HSZ : Hid (w1.heap.size = g + 2) := Lib.hid (by rw [hw1, hg]; simp)
  have HS : Hid (SI w1 A1 n1 x1 ∧ SI w1 A2 n2 x2 ∧ SI w1 A3 n3 x3) := Lib.hid ⟨h1.below hb (Nat.le_refl _), h2.below hb (Nat.le_refl _), h3.below hb (Nat.le_refl _)⟩
  have HGP : Hid (w1.cell? ⟨gp, 0, none⟩ = some (.int .i64 m) ∧ gp < w.heap.size) := Lib.hid ⟨(hb.cell (p := ⟨gp, 0, none⟩) hgp).trans hp, hgp⟩
  have HNP := Lib.hid (newPuzzle_any m w1 hm.2)
  obtain ⟨q0, q1, q2, q3⟩ := cells4 hk
  obtain ⟨T, hT⟩ : ∃ T, T = tri m := ⟨_, rfl⟩
  have HT := Lib.hid hT
  rw [← hT] at HNP ⊢
  obtain ⟨z, hz⟩ : ∃ z, z = zeroN m := ⟨_, rfl⟩
  rw [← hz] at HNP ⊢
  clear hw1 hg hk hk2 hb h1 h2 h3 hm hl hT hz hp hgp
  go_enter Try.func77, Try.ntmps77
  go_upto_region 1 with fail
  rw [← HW.out, ← HG.out]
  go_upto_region 2 with (go_at_call 111; refine HNP.out.mono ?_; rintro e w2 ⟨g1, g2, g3, rfl, hne, hge, o1, o2, o3, hb2⟩; have HN2 : Hid (Own3 w2 g1 g2 g3 T z z z) := Lib.hid ⟨hne, o1, o2, o3⟩; have HGE := Lib.hid hge; have HB2 := Lib.hid hb2; clear hne hge o1 o2 o3 hb2)
  obtain ⟨wq, hwq⟩ : ∃ wq, wq = w2.alloc (.cells #[.int .i64 m, .slice (some ⟨g1, 0, none⟩) T T, .slice (some ⟨g2, 0, none⟩) T T, .slice (some ⟨g3, 0, none⟩) T T] 35) := ⟨_, rfl⟩
  obtain ⟨gq, hgq⟩ : ∃ gq, gq = w2.heap.size := ⟨_, rfl⟩
  rw [← hwq, ← hgq]
  have HQ : Hid (Blk wq gq 35 #[.int .i64 m, .slice (some ⟨g1, 0, none⟩) T T, .slice (some ⟨g2, 0, none⟩) T T, .slice (some ⟨g3, 0, none⟩) T T]) := Lib.hid (by rw [hwq, hgq]; exact Blk.new _ _ _)
  have HO : Hid (Own3 wq g1 g2 g3 T z z z) := Lib.hid (by rw [hwq]; exact HN2.out.below (Below.alloc_self _ _) (Nat.le_refl _))
  have HBQ : Hid (Below (g + 2) w1 wq) := Lib.hid (by rw [hwq, ← HSZ.out]; exact HB2.out.alloc (by have := HB2.out.size; omega) _)
  have HNE : Hid ((gq ≠ g1 ∧ gq ≠ g2 ∧ gq ≠ g3) ∧ (g + 2 ≤ g1 ∧ g + 2 ≤ g2 ∧ g + 2 ≤ g3) ∧ g + 2 ≤ gq) := Lib.hid (by have h5 := HN2.out.sizes; have h6 := HGE.out; have h7 := HSZ.out; have h8 := HB2.out.size; omega)
  clear hwq hgq q0 q1 q2 q3
  have q0 : wq.cell? ⟨g, 0, none⟩ = some (.int .i64 m) := (HK.out.below HBQ.out (by omega)).cell 0
  have hm7 : m ≤ 7 := HM.out.2
  go_wp2_with fail
  clear q0
  go_loopw [13] (fun rv wr => ∃ r : Nat, r ≤ m ∧ rv = .int .i64 r ∧ Own3 wr g1 g2 g3 T (putR (toR m) (vAt x3) z r) (putR (toR m) (vAt x1) z r) (putR (toR m) (vAt x2) z r) ∧ Blk wr gq 35 #[.int .i64 m, .slice (some ⟨g1, 0, none⟩) T T, .slice (some ⟨g2, 0, none⟩) T T, .slice (some ⟨g3, 0, none⟩) T T] ∧ Below (g + 2) w1 wr)
    (fun rv _ => m - (intOf rv).toNat)
  case atStart => exact ⟨0, Nat.zero_le _, rfl, HO.out, HQ.out, HBQ.out⟩
  case round =>
    obtain ⟨r, hr, rfl, how, hqw, hbw⟩ := hrel
    clear HO HQ HBQ
    have HO := Lib.hid how
    have HQ := Lib.hid hqw
    have HB := Lib.hid hbw
    clear how hqw hbw
    by_cases hlt : r < m
    case neg =>
      have hrm : r = m := by omega
      subst hrm
      have hre := HK2.out.below HB.out (by omega)
      obtain ⟨p0, p1, p2, p3⟩ := cells4 HQ.out
      obtain ⟨rr0, rr1, rr2, rr3⟩ := cells4 hre
      obtain ⟨ff0, ff1, ff2, ff3⟩ := frozen4 hre
      have HR := Lib.hid (hre.put4 (.int .i64 r) (.slice (some ⟨g1, 0, none⟩) T T) (.slice (some ⟨g2, 0, none⟩) T T) (.slice (some ⟨g3, 0, none⟩) T T))
      have hgz := grown_put4 wr (g + 1) (.int .i64 r) (.slice (some ⟨g1, 0, none⟩) T T) (.slice (some ⟨g2, 0, none⟩) T T) (.slice (some ⟨g3, 0, none⟩) T T)
      have HGZ := Lib.hid hgz
      clear hre hgz
      go_wp2
      refine bodyPost_ret (results_rowP Try.results77 _ _ (g + 1) 35 #[.int .i64 r, .slice (some ⟨g1, 0, none⟩) T T, .slice (some ⟨g2, 0, none⟩) T T, .slice (some ⟨g3, 0, none⟩) T T] _ rfl HR.out Try.underlying35 rfl Try.infoPz) rfl ?_
      exact ⟨g1, g2, g3, rfl, by have h5 := HNE.out; have h6 := HG.out; omega, HO.out.kept HGZ.out (by have h5 := HNE.out; omega) (by have h5 := HNE.out; omega) (by have h5 := HNE.out; omega), ((HB1.out.trans (HB.out.mono (by have h6 := HG.out; omega))).grown HGZ.out (by have h6 := HB.out.size; have h7 := HSZ.out; have h8 := HB1.out.size; have h9 := HG.out; omega) (by rintro k ⟨⟩; have h6 := HG.out; omega))⟩
    case pos =>
      have hltI : (r : Int) < (m : Int) := by omega
      have wr1 : IntKind.i64.wrap ((r : Int) + 1) = (r : Int) + 1 := IntWalk.i64_in _ (by omega)
      go_wp2_with fail
      obtain ⟨wo, rfl⟩ : ∃ wo, wo = wr := ⟨wr, rfl⟩
      go_loopw [18] (fun kv wr => ∃ k : Nat, k ≤ r + 1 ∧ kv = .int .i64 k ∧ Own3 wr g1 g2 g3 T (putK (toR m) (vAt x3) r (putR (toR m) (vAt x3) z r) k) (putK (toR m) (vAt x1) r (putR (toR m) (vAt x1) z r) k) (putK (toR m) (vAt x2) r (putR (toR m) (vAt x2) z r) k) ∧ Blk wr gq 35 #[.int .i64 m, .slice (some ⟨g1, 0, none⟩) T T, .slice (some ⟨g2, 0, none⟩) T T, .slice (some ⟨g3, 0, none⟩) T T] ∧ Below (g + 2) w1 wr)
        (fun kv _ => r + 1 - (intOf kv).toNat)
      case atStart => exact ⟨0, Nat.zero_le _, rfl, HO.out, HQ.out, HB.out⟩
      case round =>
        obtain ⟨k, hk, rfl, how, hqw, hbw⟩ := hrel
        clear HO HQ HB
        have HO := Lib.hid how
        have HQ := Lib.hid hqw
        have HB := Lib.hid hbw
        clear how hqw hbw
        by_cases hkr : k < r + 1
        case neg =>
          have hkI : ¬ (k : Int) < (r : Int) + 1 := by omega
          have HKE : Hid (k = r + 1) := Lib.hid (by omega)
          go_wp2
          go_roundw
          case rel => exact ⟨r + 1, by omega, by go_num, by have h5 := HO.out; rw [HKE.out] at h5; exact h5, HQ.out, HB.out⟩
          case measure => simp [intOf]; omega
        case pos =>
          have hkI : (k : Int) < (r : Int) + 1 := by omega
          obtain ⟨a, ha⟩ : ∃ a, a = tri r + k := ⟨_, rfl⟩
          have hat : a < tri m := by rw [ha]; exact tri_lt hlt (by omega)
          have HAT : Hid (a < n1 ∧ a < n2 ∧ a < n3 ∧ a = tri r + k) := Lib.hid (by have := HL.out; omega)
          have HPL := Lib.hid (fun w => smallPlace_st (i := (r : Int)) (j := (k : Int)) r k a rfl rfl ha w (by omega) (by omega))
          have HKR := Lib.hid (HK.out.below HB.out (by omega))
          have HSR : Hid (SI wr A1 n1 x1 ∧ SI wr A2 n2 x2 ∧ SI wr A3 n3 x3) := Lib.hid ⟨HS.out.1.below HB.out (by have := HSZ.out; omega), HS.out.2.1.below HB.out (by have := HSZ.out; omega), HS.out.2.2.below HB.out (by have := HSZ.out; omega)⟩
          have HP0 := Lib.hid (cells4 HKR.out)
          have HQ0 := Lib.hid (cells4 HQ.out)
          obtain ⟨t1, ht1⟩ : ∃ t1, t1 = nth x1 a := ⟨_, rfl⟩
          obtain ⟨t2, ht2⟩ : ∃ t2, t2 = nth x2 a := ⟨_, rfl⟩
          obtain ⟨t3, ht3⟩ : ∃ t3, t3 = nth x3 a := ⟨_, rfl⟩
          have HT123 : Hid (t1 = nth x1 (tri r + k) ∧ t2 = nth x2 (tri r + k) ∧ t3 = nth x3 (tri r + k)) := Lib.hid (by rw [← ha]; exact ⟨ht1, ht2, ht3⟩)
          have HATC := Lib.hid (fun w' (hb' : Below wr.heap.size wr w') => pzAt_any (m : Int) A1 A2 A3 n1 c1 n2 c2 n3 c3 x1 x2 x3 a w' (HSR.out.1.below hb' (Nat.le_refl _)) (HSR.out.2.1.below hb' (Nat.le_refl _)) (HSR.out.2.2.below hb' (Nat.le_refl _)) ⟨HAT.out.1, HAT.out.2.1, HAT.out.2.2.1⟩)
          rw [← ht1, ← ht2, ← ht3] at HATC
          obtain ⟨A, hA⟩ : ∃ A, A = (toR m) r k := ⟨_, rfl⟩
          have HA := Lib.hid hA
          have hAT : A < T := by rw [hA, HT.out]; exact (moves_R m).1 r k hlt (by omega)
          have HFN := Lib.hid (fun w' (hb' : Below wr.heap.size wr w') => rotFn_any r k m gp t1 t2 t3 w' (((HB.out.trans (hb'.mono (by have := HB.out.size; have := HSZ.out; omega))).cell (p := ⟨gp, 0, none⟩) (by have := HGP.out.2; have := HG.out; show gp < g + 2; omega)).trans HGP.out.1) (by have h5 := HB.out.size; have h6 := hb'.size; have h7 := HB1.out.size; have h8 := HGP.out.2; omega) hm7 hlt (by omega))
          rw [← hA] at HFN
          clear ht1 ht2 ht3 ha hat hA
          have HLT : Hid (g < wr.heap.size ∧ gq < wr.heap.size ∧ g + 2 ≤ wr.heap.size) := Lib.hid ⟨HKR.out.lt, HQ.out.lt, by have := HB.out.size; have := HSZ.out; omega⟩
          have HPUT := Lib.hid (fun w' (hb' : Below wr.heap.size wr w') => put_any (m : Int) g1 g2 g3 T A _ _ _ t3 t1 t2 w' (HO.out.below hb' (Nat.le_refl _)) hAT (g + 2) HNE.out.2.1)
          go_wp2_with fail
          go_region_held3 (fun w' => (w'.cell? ⟨g, 0, none⟩ = some (.int .i64 m) ∧ w'.cell? ⟨g, 1, none⟩ = some (.slice A1 n1 c1) ∧ w'.cell? ⟨g, 2, none⟩ = some (.slice A2 n2 c2) ∧ w'.cell? ⟨g, 3, none⟩ = some (.slice A3 n3 c3)) ∧ (w'.cell? ⟨gq, 0, none⟩ = some (.int .i64 m) ∧ w'.cell? ⟨gq, 1, none⟩ = some (.slice (some ⟨g1, 0, none⟩) T T) ∧ w'.cell? ⟨gq, 2, none⟩ = some (.slice (some ⟨g2, 0, none⟩) T T) ∧ w'.cell? ⟨gq, 3, none⟩ = some (.slice (some ⟨g3, 0, none⟩) T T)))
            (first | exact ⟨HP0.out, HQ0.out⟩ | exact K4 | exact K5 | exact K6)
            (first
              | (go_at_call 79; with_reducible refine (HPL.out _).mono ?_; rintro e w3 ⟨rfl, rfl⟩)
              | (go_at_call 113
                 with_reducible refine (HATC.out _ ((Below.refl _ _).drew)).mono ?_
                 rintro e w4 ⟨rfl, hb4⟩
                 have HW4 : Hid (Below wr.heap.size wr w4) := Lib.hid (((Below.refl _ _).drew).trans hb4)
                 have K4 := And.intro (cells4 (HKR.out.below HW4.out HLT.out.1)) (cells4 (HQ.out.below HW4.out HLT.out.2.1))
                 clear hb4)
              | (go_at_call 78
                 with_reducible refine (HFN.out _ HW4.out).mono ?_
                 rintro e w5 ⟨rfl, hb5⟩
                 have HW5 : Hid (Below wr.heap.size wr w5) := Lib.hid (HW4.out.trans (hb5.mono HW4.out.size))
                 have K5 := And.intro (cells4 (HKR.out.below HW5.out HLT.out.1)) (cells4 (HQ.out.below HW5.out HLT.out.2.1))
                 clear hb5)
              | (go_at_call 112
                 with_reducible refine (HPUT.out _ HW5.out).mono ?_
                 rintro e w6 ⟨rfl, ho6, hb6, hk6⟩
                 have HO6 := Lib.hid ho6
                 have HB6 : Hid (Below (g + 2) w1 w6) := Lib.hid ((HB.out.trans (HW5.out.mono HLT.out.2.2)).trans hb6)
                 have HK6 := Lib.hid (hk6 gq _ _ HNE.out.1.1 HNE.out.1.2.1 HNE.out.1.2.2 (HQ.out.below HW5.out HLT.out.2.1))
                 have K6 := And.intro (cells4 (HK.out.below HB6.out (by omega))) (cells4 HK6.out)
                 clear ho6 hb6 hk6))
          go_wp2
          go_roundw
          case rel => exact ⟨k + 1, by omega, by go_num, by have h5 := HO6.out; have h6 := HT123.out; rw [HA.out, h6.1, h6.2.1, h6.2.2] at h5; exact h5, HK6.out, HB6.out⟩
          case measure => simp [intOf]; omega
set_option maxRecDepth 100000 in
set_option maxHeartbeats 4000000 in
theorem movedM_any (m : Nat) (A1 A2 A3 : Option Addr) (n1 c1 n2 c2 n3 c3 : Nat) (x1 x2 x3 : List Int) (w : World) (h1 : SI w A1 n1 x1) (h2 : SI w A2 n2 x2) (h3 : SI w A3 n3 x3) (hm : 1 ≤ m ∧ m ≤ 7) (hl : n1 = tri m ∧ n2 = tri m ∧ n3 = tri m) (h0 : ∀ i, i < tri m → 0 ≤ nth x1 i ∧ 0 ≤ nth x2 i ∧ 0 ≤ nth x3 i) :
    Calls Try.prog 77 #[.agg #[.int .i64 m, .slice A1 n1 c1, .slice A2 n2 c2, .slice A3 n3 c3], .func (.func 81) #[] #[]] w fun e w' =>
      ∃ g1 g2 g3, e = .returned (.agg #[.int .i64 m, .slice (some ⟨g1, 0, none⟩) (tri m : Nat) (tri m : Nat), .slice (some ⟨g2, 0, none⟩) (tri m : Nat) (tri m : Nat), .slice (some ⟨g3, 0, none⟩) (tri m : Nat) (tri m : Nat)]) ∧ (w.heap.size ≤ g1 ∧ w.heap.size ≤ g2 ∧ w.heap.size ≤ g3) ∧
        Own3 w' g1 g2 g3 (tri m) (putR toM (vFl x2) (zeroN m) m) (putR toM (vFl x1) (zeroN m) m) (putR toM (vFl x3) (zeroN m) m) ∧ Below w.heap.size w w' := by
  obtain ⟨w1, hw1⟩ : ∃ w1, w1 = (w.alloc (.cells #[.int .i64 m, .slice A1 n1 c1, .slice A2 n2 c2, .slice A3 n3 c3] 35)).alloc (.cells #[.int .i64 0, .slice none 0 0, .slice none 0 0, .slice none 0 0] 35) := ⟨_, rfl⟩
  obtain ⟨g, hg⟩ : ∃ g, g = w.heap.size := ⟨_, rfl⟩
  have hk : Blk w1 g 35 #[.int .i64 m, .slice A1 n1 c1, .slice A2 n2 c2, .slice A3 n3 c3] := by rw [hw1, hg]; exact (Blk.new _ _ _).alloc _
  have hk2 : Blk w1 (g + 1) 35 #[.int .i64 0, .slice none 0 0, .slice none 0 0, .slice none 0 0] := by
    rw [hw1, hg]
    have := Blk.new (w.alloc (.cells #[.int .i64 m, .slice A1 n1 c1, .slice A2 n2 c2, .slice A3 n3 c3] 35)) 35 #[.int .i64 0, .slice none 0 0, .slice none 0 0, .slice none 0 0]
    simpa using this
  have hb : Below w.heap.size w w1 := by rw [hw1]; go_grown
  have HB1 := Lib.hid hb
  have HW := Lib.hid hw1
  have HG := Lib.hid hg
  have HK := Lib.hid hk
  have HK2 := Lib.hid hk2
  have HM := Lib.hid hm
  have HL := Lib.hid hl
  have HSZ : Hid (w1.heap.size = g + 2) := Lib.hid (by rw [hw1, hg]; simp)
  have HS : Hid (SI w1 A1 n1 x1 ∧ SI w1 A2 n2 x2 ∧ SI w1 A3 n3 x3) := Lib.hid ⟨h1.below hb (Nat.le_refl _), h2.below hb (Nat.le_refl _), h3.below hb (Nat.le_refl _)⟩
  have H0 := Lib.hid h0
  have HNP := Lib.hid (newPuzzle_any m w1 hm.2)
  obtain ⟨q0, q1, q2, q3⟩ := cells4 hk
  obtain ⟨T, hT⟩ : ∃ T, T = tri m := ⟨_, rfl⟩
  have HT := Lib.hid hT
  rw [← hT] at HNP ⊢
  obtain ⟨z, hz⟩ : ∃ z, z = zeroN m := ⟨_, rfl⟩
  rw [← hz] at HNP ⊢
  clear hw1 hg hk hk2 hb h1 h2 h3 hm hl hT hz h0
  go_enter Try.func77, Try.ntmps77
  go_upto_region 1 with fail
  rw [← HW.out, ← HG.out]
  go_upto_region 2 with (go_at_call 111; refine HNP.out.mono ?_; rintro e w2 ⟨g1, g2, g3, rfl, hne, hge, o1, o2, o3, hb2⟩; have HN2 : Hid (Own3 w2 g1 g2 g3 T z z z) := Lib.hid ⟨hne, o1, o2, o3⟩; have HGE := Lib.hid hge; have HB2 := Lib.hid hb2; clear hne hge o1 o2 o3 hb2)
  obtain ⟨wq, hwq⟩ : ∃ wq, wq = w2.alloc (.cells #[.int .i64 m, .slice (some ⟨g1, 0, none⟩) T T, .slice (some ⟨g2, 0, none⟩) T T, .slice (some ⟨g3, 0, none⟩) T T] 35) := ⟨_, rfl⟩
  obtain ⟨gq, hgq⟩ : ∃ gq, gq = w2.heap.size := ⟨_, rfl⟩
  rw [← hwq, ← hgq]
  have HQ : Hid (Blk wq gq 35 #[.int .i64 m, .slice (some ⟨g1, 0, none⟩) T T, .slice (some ⟨g2, 0, none⟩) T T, .slice (some ⟨g3, 0, none⟩) T T]) := Lib.hid (by rw [hwq, hgq]; exact Blk.new _ _ _)
  have HO : Hid (Own3 wq g1 g2 g3 T z z z) := Lib.hid (by rw [hwq]; exact HN2.out.below (Below.alloc_self _ _) (Nat.le_refl _))
  have HBQ : Hid (Below (g + 2) w1 wq) := Lib.hid (by rw [hwq, ← HSZ.out]; exact HB2.out.alloc (by have := HB2.out.size; omega) _)
  have HNE : Hid ((gq ≠ g1 ∧ gq ≠ g2 ∧ gq ≠ g3) ∧ (g + 2 ≤ g1 ∧ g + 2 ≤ g2 ∧ g + 2 ≤ g3) ∧ g + 2 ≤ gq) := Lib.hid (by have h5 := HN2.out.sizes; have h6 := HGE.out; have h7 := HSZ.out; have h8 := HB2.out.size; omega)
  clear hwq hgq q0 q1 q2 q3
  have q0 : wq.cell? ⟨g, 0, none⟩ = some (.int .i64 m) := (HK.out.below HBQ.out (by omega)).cell 0
  have hm7 : m ≤ 7 := HM.out.2
  go_wp2_with fail
  clear q0
  go_loopw [13] (fun rv wr => ∃ r : Nat, r ≤ m ∧ rv = .int .i64 r ∧ Own3 wr g1 g2 g3 T (putR toM (vFl x2) z r) (putR toM (vFl x1) z r) (putR toM (vFl x3) z r) ∧ Blk wr gq 35 #[.int .i64 m, .slice (some ⟨g1, 0, none⟩) T T, .slice (some ⟨g2, 0, none⟩) T T, .slice (some ⟨g3, 0, none⟩) T T] ∧ Below (g + 2) w1 wr)
    (fun rv _ => m - (intOf rv).toNat)
  case atStart => exact ⟨0, Nat.zero_le _, rfl, HO.out, HQ.out, HBQ.out⟩
  case round =>
    obtain ⟨r, hr, rfl, how, hqw, hbw⟩ := hrel
    clear HO HQ HBQ
    have HO := Lib.hid how
    have HQ := Lib.hid hqw
    have HB := Lib.hid hbw
    clear how hqw hbw
    by_cases hlt : r < m
    case neg =>
      have hrm : r = m := by omega
      subst hrm
      have hre := HK2.out.below HB.out (by omega)
      obtain ⟨p0, p1, p2, p3⟩ := cells4 HQ.out
      obtain ⟨rr0, rr1, rr2, rr3⟩ := cells4 hre
      obtain ⟨ff0, ff1, ff2, ff3⟩ := frozen4 hre
      have HR := Lib.hid (hre.put4 (.int .i64 r) (.slice (some ⟨g1, 0, none⟩) T T) (.slice (some ⟨g2, 0, none⟩) T T) (.slice (some ⟨g3, 0, none⟩) T T))
      have hgz := grown_put4 wr (g + 1) (.int .i64 r) (.slice (some ⟨g1, 0, none⟩) T T) (.slice (some ⟨g2, 0, none⟩) T T) (.slice (some ⟨g3, 0, none⟩) T T)
      have HGZ := Lib.hid hgz
      clear hre hgz
      go_wp2
      refine bodyPost_ret (results_rowP Try.results77 _ _ (g + 1) 35 #[.int .i64 r, .slice (some ⟨g1, 0, none⟩) T T, .slice (some ⟨g2, 0, none⟩) T T, .slice (some ⟨g3, 0, none⟩) T T] _ rfl HR.out Try.underlying35 rfl Try.infoPz) rfl ?_
      exact ⟨g1, g2, g3, rfl, by have h5 := HNE.out; have h6 := HG.out; omega, HO.out.kept HGZ.out (by have h5 := HNE.out; omega) (by have h5 := HNE.out; omega) (by have h5 := HNE.out; omega), ((HB1.out.trans (HB.out.mono (by have h6 := HG.out; omega))).grown HGZ.out (by have h6 := HB.out.size; have h7 := HSZ.out; have h8 := HB1.out.size; have h9 := HG.out; omega) (by rintro k ⟨⟩; have h6 := HG.out; omega))⟩
    case pos =>
      have hltI : (r : Int) < (m : Int) := by omega
      have wr1 : IntKind.i64.wrap ((r : Int) + 1) = (r : Int) + 1 := IntWalk.i64_in _ (by omega)
      go_wp2_with fail
      obtain ⟨wo, rfl⟩ : ∃ wo, wo = wr := ⟨wr, rfl⟩
      go_loopw [18] (fun kv wr => ∃ k : Nat, k ≤ r + 1 ∧ kv = .int .i64 k ∧ Own3 wr g1 g2 g3 T (putK toM (vFl x2) r (putR toM (vFl x2) z r) k) (putK toM (vFl x1) r (putR toM (vFl x1) z r) k) (putK toM (vFl x3) r (putR toM (vFl x3) z r) k) ∧ Blk wr gq 35 #[.int .i64 m, .slice (some ⟨g1, 0, none⟩) T T, .slice (some ⟨g2, 0, none⟩) T T, .slice (some ⟨g3, 0, none⟩) T T] ∧ Below (g + 2) w1 wr)
        (fun kv _ => r + 1 - (intOf kv).toNat)
      case atStart => exact ⟨0, Nat.zero_le _, rfl, HO.out, HQ.out, HB.out⟩
      case round =>
        obtain ⟨k, hk, rfl, how, hqw, hbw⟩ := hrel
        clear HO HQ HB
        have HO := Lib.hid how
        have HQ := Lib.hid hqw
        have HB := Lib.hid hbw
        clear how hqw hbw
        by_cases hkr : k < r + 1
        case neg =>
          have hkI : ¬ (k : Int) < (r : Int) + 1 := by omega
          have HKE : Hid (k = r + 1) := Lib.hid (by omega)
          go_wp2
          go_roundw
          case rel => exact ⟨r + 1, by omega, by go_num, by have h5 := HO.out; rw [HKE.out] at h5; exact h5, HQ.out, HB.out⟩
          case measure => simp [intOf]; omega
        case pos =>
          have hkI : (k : Int) < (r : Int) + 1 := by omega
          obtain ⟨a, ha⟩ : ∃ a, a = tri r + k := ⟨_, rfl⟩
          have hat : a < tri m := by rw [ha]; exact tri_lt hlt (by omega)
          have HAT : Hid (a < n1 ∧ a < n2 ∧ a < n3 ∧ a = tri r + k) := Lib.hid (by have := HL.out; omega)
          have HPL := Lib.hid (fun w => smallPlace_st (i := (r : Int)) (j := (k : Int)) r k a rfl rfl ha w (by omega) (by omega))
          have HKR := Lib.hid (HK.out.below HB.out (by omega))
          have HSR : Hid (SI wr A1 n1 x1 ∧ SI wr A2 n2 x2 ∧ SI wr A3 n3 x3) := Lib.hid ⟨HS.out.1.below HB.out (by have := HSZ.out; omega), HS.out.2.1.below HB.out (by have := HSZ.out; omega), HS.out.2.2.below HB.out (by have := HSZ.out; omega)⟩
          have HP0 := Lib.hid (cells4 HKR.out)
          have HQ0 := Lib.hid (cells4 HQ.out)
          obtain ⟨t1, ht1⟩ : ∃ t1, t1 = nth x1 a := ⟨_, rfl⟩
          obtain ⟨t2, ht2⟩ : ∃ t2, t2 = nth x2 a := ⟨_, rfl⟩
          obtain ⟨t3, ht3⟩ : ∃ t3, t3 = nth x3 a := ⟨_, rfl⟩
          have HT123 : Hid (t1 = nth x1 (tri r + k) ∧ t2 = nth x2 (tri r + k) ∧ t3 = nth x3 (tri r + k)) := Lib.hid (by rw [← ha]; exact ⟨ht1, ht2, ht3⟩)
          have HATC := Lib.hid (fun w' (hb' : Below wr.heap.size wr w') => pzAt_any (m : Int) A1 A2 A3 n1 c1 n2 c2 n3 c3 x1 x2 x3 a w' (HSR.out.1.below hb' (Nat.le_refl _)) (HSR.out.2.1.below hb' (Nat.le_refl _)) (HSR.out.2.2.below hb' (Nat.le_refl _)) ⟨HAT.out.1, HAT.out.2.1, HAT.out.2.2.1⟩)
          rw [← ht1, ← ht2, ← ht3] at HATC
          obtain ⟨A, hA⟩ : ∃ A, A = toM r k := ⟨_, rfl⟩
          have HA := Lib.hid hA
          have hAT : A < T := by rw [hA, HT.out]; exact (moves_M m).1 r k hlt (by omega)
          have HFN := Lib.hid (fun w' (hb' : Below wr.heap.size wr w') => mirFn_any r k t1 t2 t3 w' (by omega) (by omega) (by rw [ht1]; exact (H0.out a hat).1) (by rw [ht2]; exact (H0.out a hat).2.1) (by rw [ht3]; exact (H0.out a hat).2.2))
          rw [← hA] at HFN
          clear ht1 ht2 ht3 ha hat hA
          have HLT : Hid (g < wr.heap.size ∧ gq < wr.heap.size ∧ g + 2 ≤ wr.heap.size) := Lib.hid ⟨HKR.out.lt, HQ.out.lt, by have := HB.out.size; have := HSZ.out; omega⟩
          have HPUT := Lib.hid (fun w' (hb' : Below wr.heap.size wr w') => put_any (m : Int) g1 g2 g3 T A _ _ _ (flipI t2) (flipI t1) (flipI t3) w' (HO.out.below hb' (Nat.le_refl _)) hAT (g + 2) HNE.out.2.1)
          go_wp2_with fail
          go_region_held3 (fun w' => (w'.cell? ⟨g, 0, none⟩ = some (.int .i64 m) ∧ w'.cell? ⟨g, 1, none⟩ = some (.slice A1 n1 c1) ∧ w'.cell? ⟨g, 2, none⟩ = some (.slice A2 n2 c2) ∧ w'.cell? ⟨g, 3, none⟩ = some (.slice A3 n3 c3)) ∧ (w'.cell? ⟨gq, 0, none⟩ = some (.int .i64 m) ∧ w'.cell? ⟨gq, 1, none⟩ = some (.slice (some ⟨g1, 0, none⟩) T T) ∧ w'.cell? ⟨gq, 2, none⟩ = some (.slice (some ⟨g2, 0, none⟩) T T) ∧ w'.cell? ⟨gq, 3, none⟩ = some (.slice (some ⟨g3, 0, none⟩) T T)))
            (first | exact ⟨HP0.out, HQ0.out⟩ | exact K4 | exact K5 | exact K6)
            (first
              | (go_at_call 79; with_reducible refine (HPL.out _).mono ?_; rintro e w3 ⟨rfl, rfl⟩)
              | (go_at_call 113
                 with_reducible refine (HATC.out _ ((Below.refl _ _).drew)).mono ?_
                 rintro e w4 ⟨rfl, hb4⟩
                 have HW4 : Hid (Below wr.heap.size wr w4) := Lib.hid (((Below.refl _ _).drew).trans hb4)
                 have K4 := And.intro (cells4 (HKR.out.below HW4.out HLT.out.1)) (cells4 (HQ.out.below HW4.out HLT.out.2.1))
                 clear hb4)
              | (go_at_call 81
                 with_reducible refine (HFN.out _ HW4.out).mono ?_
                 rintro e w5 ⟨rfl, hb5⟩
                 have HW5 : Hid (Below wr.heap.size wr w5) := Lib.hid (HW4.out.trans (hb5.mono HW4.out.size))
                 have K5 := And.intro (cells4 (HKR.out.below HW5.out HLT.out.1)) (cells4 (HQ.out.below HW5.out HLT.out.2.1))
                 clear hb5)
              | (go_at_call 112
                 with_reducible refine (HPUT.out _ HW5.out).mono ?_
                 rintro e w6 ⟨rfl, ho6, hb6, hk6⟩
                 have HO6 := Lib.hid ho6
                 have HB6 : Hid (Below (g + 2) w1 w6) := Lib.hid ((HB.out.trans (HW5.out.mono HLT.out.2.2)).trans hb6)
                 have HK6 := Lib.hid (hk6 gq _ _ HNE.out.1.1 HNE.out.1.2.1 HNE.out.1.2.2 (HQ.out.below HW5.out HLT.out.2.1))
                 have K6 := And.intro (cells4 (HK.out.below HB6.out (by omega))) (cells4 HK6.out)
                 clear ho6 hb6 hk6))
          go_wp2
          go_roundw
          case rel => exact ⟨k + 1, by omega, by go_num, by have h5 := HO6.out; have h6 := HT123.out; rw [HA.out, h6.1, h6.2.1, h6.2.2] at h5; exact h5, HK6.out, HB6.out⟩
          case measure => simp [intOf]; omega
end Go.Proofs.Ytdappakjbclffaa
