/-
  Puzzles turned and reflected by the document. Conditions: lists below 2^40.
-/
import Derived.Test.YtdappakjbclffaaRotI
namespace Go.Proofs.Ytdappakjbclffaa
open Go.RowKit

set_option maxRecDepth 100000 in
theorem l5Other_any (x : Int) (h0 : 0 ≤ x) (w : World) :
    Calls Try.prog 80 #[.int .i64 x] w fun e w' => e = .returned (.int .i64 (flipI x)) ∧ w' = w := by
  by_cases hx : x ≤ 1
  · have HF : Hid (flipI x = 1 - x) := Lib.hid (by unfold flipI; rw [if_pos hx])
    have u1 : IntKind.i64.wrap (1 - x) = 1 - x := IntWalk.i64_in _ (by omega)
    rw [HF.out]
    go_enter Try.func80, Try.ntmps80
    go_wp2
    go_ret
    first | exact ⟨rfl, rfl⟩ | exact ⟨by simp [u1], rfl⟩
  · have HF : Hid (flipI x = x) := Lib.hid (by unfold flipI; rw [if_neg hx])
    rw [HF.out]
    go_enter Try.func80, Try.ntmps80
    go_wp2
    go_ret
    exact ⟨rfl, rfl⟩
set_option maxRecDepth 100000 in
set_option maxHeartbeats 4000000 in
theorem specRotatePuzzle_any (s : Int) (A1 A2 A3 : Option Addr) (n1 c1 n2 c2 n3 c3 : Nat) (x1 x2 x3 : List Int) (w : World) (h : PS w A1 A2 A3 n1 n2 n3 x1 x2 x3) (hc3 : n3 ≤ c3) (hn : n1 ≤ 1099511627776 ∧ n2 ≤ 1099511627776 ∧ n3 ≤ 1099511627776) :
    Calls Try.prog 35 #[.agg #[.int .i64 s, .slice A1 n1 c1, .slice A2 n2 c2, .slice A3 n3 c3]] w fun e w' =>
      FreshQ w w' e (rotS (pzB false s x1 x2 x3) s) (pzB false s x1 x2 x3) (rotL (pzB false s x1 x2 x3) s (toR s.toNat) (vAt x3)) (rotL (pzB false s x1 x2 x3) s (toR s.toNat) (vAt x1)) (rotL (pzB false s x1 x2 x3) s (toR s.toNat) (vAt x2)) := by
  obtain ⟨w1, hw1⟩ : ∃ w1, w1 = (w.alloc (.cells #[.int .i64 s, .slice A1 n1 c1, .slice A2 n2 c2, .slice A3 n3 c3] 35)).alloc (.cells #[.int .i64 0, .slice none 0 0, .slice none 0 0, .slice none 0 0] 35) := ⟨_, rfl⟩
  obtain ⟨g, hg⟩ : ∃ g, g = w.heap.size := ⟨_, rfl⟩
  have hk : Blk w1 g 35 #[.int .i64 s, .slice A1 n1 c1, .slice A2 n2 c2, .slice A3 n3 c3] := by rw [hw1, hg]; exact (Blk.new _ _ _).alloc _
  have hk2 : Blk w1 (g + 1) 35 #[.int .i64 0, .slice none 0 0, .slice none 0 0, .slice none 0 0] := by
    rw [hw1, hg]
    have := Blk.new (w.alloc (.cells #[.int .i64 s, .slice A1 n1 c1, .slice A2 n2 c2, .slice A3 n3 c3] 35)) 35 #[.int .i64 0, .slice none 0 0, .slice none 0 0, .slice none 0 0]
    simpa using this
  have hb : Below w.heap.size w w1 := by rw [hw1]; go_grown
  have hs := h.below hb (Nat.le_refl _)
  have HS := Lib.hid hs
  have HN := Lib.hid hn
  have HB1 := Lib.hid hb
  have HW := Lib.hid hw1
  have HG := Lib.hid hg
  have HK := Lib.hid hk
  have HK2 := Lib.hid hk2
  have HLN := Lib.hid hs.lens
  have HSZ : Hid (w1.heap.size = g + 2) := Lib.hid (by rw [hw1, hg]; simp)
  obtain ⟨q0, q1, q2, q3⟩ := cells4 hk
  have HOKC := Lib.hid (specPuzzleOk_any s A1 A2 A3 n1 c1 n2 c2 n3 c3 x1 x2 x3 w1 hs hc3 hn)
  obtain ⟨b, hbb⟩ : ∃ b, b = pzB false s x1 x2 x3 := ⟨_, rfl⟩
  have HBB := Lib.hid hbb
  rw [← hbb] at HOKC ⊢
  clear hw1 hg hk hk2 hb hs h hc3 hn hbb
  cases b with
  | false =>
    show Calls _ _ _ _ fun e w' => FreshQ w w' e 0 false [] [] []
    go_enter Try.func35, Try.ntmps35
    go_upto_region 1 with fail
    rw [← HW.out, ← HG.out]
    go_upto_region 2 with (go_at_call 26; refine HOKC.out.mono ?_; rintro e w2 ⟨rfl, hb2⟩; have HB2 := Lib.hid hb2; have hre := HK2.out.below HB2.out (by have := HSZ.out; omega); have HRE := Lib.hid hre; obtain ⟨rr0, rr1, rr2, rr3⟩ := cells4 hre; obtain ⟨ff0, ff1, ff2, ff3⟩ := frozen4 hre; clear hre hb2)
    have HR := Lib.hid (HRE.out.put4 (.int .i64 0) (.slice none 0 0) (.slice none 0 0) (.slice none 0 0))
    have HGZ := Lib.hid (grown_put4 w2 (g + 1) (.int .i64 0) (.slice none 0 0) (.slice none 0 0) (.slice none 0 0))
    clear q0 q1 q2 q3
    go_wp2
    refine bodyPost_ret (results_rowP_tmp Try.results35 _ _ (g + 1) 35 #[.int .i64 0, .slice none 0 0, .slice none 0 0, .slice none 0 0] _ rfl HR.out Try.underlying35 rfl Try.infoPz) rfl ?_
    refine ⟨none, none, none, 0, 0, 0, 0, 0, 0, rfl, OwnQ.nil _ ?_, ?_⟩
    · have h5 := HGZ.out.size; have h6 := HB2.out.size; have h7 := HB1.out.size; omega
    · exact (HB1.out.trans (HB2.out.mono (by have := HB1.out.size; omega))).grown HGZ.out (by have := HG.out; have := HB2.out.size; have := HSZ.out; omega) (by rintro k ⟨⟩; have := HG.out; omega)
  | true =>
    obtain ⟨m, rfl, hm, hl1, hl2, hl3⟩ := pz_lens HBB.out.symm
    have hll : n1 = tri m ∧ n2 = tri m ∧ n3 = tri m := by have h5 := HLN.out; omega
    have HXL : Hid (x1.length = tri m ∧ x2.length = tri m ∧ x3.length = tri m) := Lib.hid ⟨hl1, hl2, hl3⟩
    have HM := Lib.hid hm
    have hm7 : m ≤ 7 := hm.2
    have hT1 : 0 < tri m := by have h5 := tri_lt (a := 0) (b := m) (k := 0) (by omega) (Nat.le_refl _); omega
    have HE1 : Hid (putR (toR m) (vAt x3) (zeroN m) m = putR (toR m) (vAt x3) x1 m) := Lib.hid (putR_any (moves_R m) (by simp [zeroN]) hl1)
    have HE2 : Hid (putR (toR m) (vAt x1) (zeroN m) m = putR (toR m) (vAt x1) x2 m) := Lib.hid (putR_any (moves_R m) (by simp [zeroN]) hl2)
    have HE3 : Hid (putR (toR m) (vAt x2) (zeroN m) m = putR (toR m) (vAt x2) x3 m) := Lib.hid (putR_any (moves_R m) (by simp [zeroN]) hl3)
    show Calls _ _ _ _ fun e w' => FreshQ w w' e (m : Int) true (putR (toR m) (vAt x3) (zeroN m) m) (putR (toR m) (vAt x1) (zeroN m) m) (putR (toR m) (vAt x2) (zeroN m) m)
    rw [HE1.out, HE2.out, HE3.out]
    have HCP := Lib.hid (fun w' (hb' : Below w1.heap.size w1 w') => l5Copy_any (m : Int) A1 A2 A3 n1 c1 n2 c2 n3 c3 x1 x2 x3 w' (HS.out.below hb' (Nat.le_refl _)) HN.out)
    obtain ⟨b1, o1, rfl, hb1, hc1⟩ := HS.out.1.at_ (by omega)
    obtain ⟨b2, o2, rfl, hb2, hc2⟩ := HS.out.2.1.at_ (by omega)
    obtain ⟨b3, o3, rfl, hb3, hc3⟩ := HS.out.2.2.at_ (by omega)
    obtain ⟨e1, e2, e3⟩ := hll
    subst e1 e2 e3
    obtain ⟨T, hT⟩ : ∃ T, T = tri m := ⟨_, rfl⟩
    have HT := Lib.hid hT
    rw [← hT] at HCP HS HK q1 q2 q3 hc1 hc2 hc3 HXL hT1 HOKC HW ⊢
    have HC1 : Hid (∀ (k : Nat) (w' : World), k < T → Below (g + 2) w1 w' → w'.cell? ⟨b1, o1 + k, none⟩ = some (.int .i64 (nth x1 k))) := Lib.hid (fun k w' hk hb' => (hb'.cell (p := ⟨b1, o1 + k, none⟩) (by have := HSZ.out; show b1 < g + 2; omega)).trans (hc1 k hk))
    have HC2 : Hid (∀ (k : Nat) (w' : World), k < T → Below (g + 2) w1 w' → w'.cell? ⟨b2, o2 + k, none⟩ = some (.int .i64 (nth x2 k))) := Lib.hid (fun k w' hk hb' => (hb'.cell (p := ⟨b2, o2 + k, none⟩) (by have := HSZ.out; show b2 < g + 2; omega)).trans (hc2 k hk))
    have HC3 : Hid (∀ (k : Nat) (w' : World), k < T → Below (g + 2) w1 w' → w'.cell? ⟨b3, o3 + k, none⟩ = some (.int .i64 (nth x3 k))) := Lib.hid (fun k w' hk hb' => (hb'.cell (p := ⟨b3, o3 + k, none⟩) (by have := HSZ.out; show b3 < g + 2; omega)).trans (hc3 k hk))
    clear hm hl1 hl2 hl3 hT hb1 hb2 hb3 hc1 hc2 hc3 HN HLN
    go_enter Try.func35, Try.ntmps35
    go_upto_region 1 with fail
    rw [← HW.out, ← HG.out]
    go_upto_region 3 with (go_at_call 26; refine HOKC.out.mono ?_; rintro e w2 ⟨rfl, hb2⟩; have HB2 := Lib.hid hb2; clear hb2)
    have HK4 := Lib.hid (HK.out.below HB2.out (by have := HSZ.out; omega))
    clear q0 q1 q2 q3
    obtain ⟨q0, q1, q2, q3⟩ := cells4 HK4.out
    go_upto_region 4 with (go_at_call 75; refine (HCP.out _ HB2.out).mono ?_; rintro e w3 ⟨B1, B2, B3, m1, d1, m2, d2, m3, d3, rfl, ho3, hb3⟩; have HO3 := Lib.hid ho3; have HB3 := Lib.hid hb3; clear ho3 hb3)
    have hlq := HO3.out.lens
    have hxl := HXL.out
    obtain rfl : m1 = T := by omega
    obtain rfl : m2 = m1 := by omega
    obtain rfl : m3 = m2 := by omega
    obtain ⟨T, hT⟩ : ∃ T, T = m3 := ⟨_, rfl⟩
    obtain ⟨p, q, hp1, hp2, hp3, ho1, ho2, ho3⟩ := HO3.out
    obtain ⟨g1, rfl, k1, k1'⟩ := ho1.place hT1
    obtain ⟨g2, rfl, k2, k2'⟩ := ho2.place hT1
    obtain ⟨g3, rfl, k3, k3'⟩ := ho3.place hT1
    obtain ⟨wq, hwq⟩ : ∃ wq, wq = w3.alloc (.cells #[.int .i64 m, .slice (some ⟨g1, 0, none⟩) m3 d1, .slice (some ⟨g2, 0, none⟩) m3 d2, .slice (some ⟨g3, 0, none⟩) m3 d3] 35) := ⟨_, rfl⟩
    obtain ⟨gq, hgq⟩ : ∃ gq, gq = w3.heap.size := ⟨_, rfl⟩
    rw [← hwq, ← hgq]
    have HQ : Hid (Blk wq gq 35 #[.int .i64 m, .slice (some ⟨g1, 0, none⟩) m3 d1, .slice (some ⟨g2, 0, none⟩) m3 d2, .slice (some ⟨g3, 0, none⟩) m3 d3]) := Lib.hid (by rw [hwq, hgq]; exact Blk.new _ _ _)
    have HO : Hid (Own wq w2.heap.size p (some ⟨g1, 0, none⟩) m3 d1 x1 ∧ Own wq p q (some ⟨g2, 0, none⟩) m3 d2 x2 ∧ Own wq q gq (some ⟨g3, 0, none⟩) m3 d3 x3) := Lib.hid (by
      rw [hwq, hgq]
      exact ⟨ho1.below (Below.alloc_self _ _) (by omega), ho2.below (Below.alloc_self _ _) (by omega), ho3.below (Below.alloc_self _ _) (Nat.le_refl _)⟩)
    have HZ : Hid (g + 2 ≤ w2.heap.size ∧ (w2.heap.size ≤ p ∧ p ≤ q ∧ q ≤ gq) ∧ (w2.heap.size ≤ g1 ∧ g1 < p) ∧ (p ≤ g2 ∧ g2 < q) ∧ q ≤ g3 ∧ g3 < gq) := Lib.hid (by
      have h5 := HB2.out.size
      have h6 := HSZ.out
      omega)
    have HBQ : Hid (Below (g + 2) w1 wq) := Lib.hid (by
      have h5 := HB2.out.size
      have h6 := HSZ.out
      rw [hwq, ← HSZ.out]
      exact (HB2.out.trans (HB3.out.mono h5)).alloc (by have := HB3.out.size; omega) _)
    clear hlq hxl hT hwq hgq ho1 ho2 ho3 HO3 hp1 hp2 hp3 k1 k1' k2 k2' k3 k3' q0 q1 q2 q3 HCP HOKC HS HK4
    go_wp2_with fail

    go_loopw [5] (fun rv wr => ∃ r : Nat, r ≤ m ∧ rv = .int .i64 r ∧ (Own wr w2.heap.size p (some ⟨g1, 0, none⟩) m3 d1 (putR (toR m) (vAt x3) x1 r) ∧ Own wr p q (some ⟨g2, 0, none⟩) m3 d2 (putR (toR m) (vAt x1) x2 r) ∧ Own wr q gq (some ⟨g3, 0, none⟩) m3 d3 (putR (toR m) (vAt x2) x3 r)) ∧ Blk wr gq 35 #[.int .i64 m, .slice (some ⟨g1, 0, none⟩) m3 d1, .slice (some ⟨g2, 0, none⟩) m3 d2, .slice (some ⟨g3, 0, none⟩) m3 d3] ∧ Below (g + 2) w1 wr)
      (fun rv _ => m - (intOf rv).toNat)
    case atStart => exact ⟨0, Nat.zero_le _, rfl, HO.out, HQ.out, HBQ.out⟩
    case round =>
      obtain ⟨r, hr, rfl, how, hqw, hbw⟩ := hrel
      clear HO HQ HBQ
      have HO := Lib.hid how
      have HQ := Lib.hid hqw
      have HB := Lib.hid hbw
      clear how hqw hbw
      obtain ⟨p0, p1, p2, p3⟩ := cells4 (HK.out.below HB.out (by omega))
      by_cases hlt : r < m
      case neg =>
        have hrm : r = m := by omega
        subst hrm
        have hre := HK2.out.below HB.out (by omega)
        obtain ⟨q0, q1, q2, q3⟩ := cells4 HQ.out
        obtain ⟨rr0, rr1, rr2, rr3⟩ := cells4 hre
        obtain ⟨ff0, ff1, ff2, ff3⟩ := frozen4 hre
        have HR := Lib.hid (hre.put4 (.int .i64 r) (.slice (some ⟨g1, 0, none⟩) m3 d1) (.slice (some ⟨g2, 0, none⟩) m3 d2) (.slice (some ⟨g3, 0, none⟩) m3 d3))
        have HGZ := Lib.hid (grown_put4 wr (g + 1) (.int .i64 r) (.slice (some ⟨g1, 0, none⟩) m3 d1) (.slice (some ⟨g2, 0, none⟩) m3 d2) (.slice (some ⟨g3, 0, none⟩) m3 d3))
        clear hre
        go_wp2
        refine bodyPost_ret (results_rowP_tmp Try.results35 _ _ (g + 1) 35 #[.int .i64 r, .slice (some ⟨g1, 0, none⟩) m3 d1, .slice (some ⟨g2, 0, none⟩) m3 d2, .slice (some ⟨g3, 0, none⟩) m3 d3] _ rfl HR.out Try.underlying35 rfl Try.infoPz) rfl ?_
        have z1 := HB1.out.size
        have z2 := HZ.out
        have z3 := HB.out.size
        have z4 := HG.out
        have z5 := HSZ.out
        have z6 := HGZ.out.size
        have z7 := HQ.out.lt
        refine ⟨_, _, _, _, _, _, _, _, _, rfl, OwnQ.of (OwnP.wide ⟨p, q, z2.2.1.1, z2.2.1.2.1, z2.2.1.2.2, HO.out.1.grown HGZ.out (by rintro k ⟨⟩; omega), HO.out.2.1.grown HGZ.out (by rintro k ⟨⟩; omega), HO.out.2.2.grown HGZ.out (by rintro k ⟨⟩; omega)⟩ (by omega) (by omega)), ?_⟩
        exact (HB1.out.trans (HB.out.mono (by omega))).grown HGZ.out (by omega) (by rintro k ⟨⟩; omega)
      case pos =>
        have hltI : (r : Int) < (m : Int) := by omega
        have wr1 : IntKind.i64.wrap ((r : Int) + 1) = (r : Int) + 1 := IntWalk.i64_in _ (by omega)
        go_wp2_with fail
        clear p0 p1 p2 p3
        obtain ⟨wo, rfl⟩ : ∃ wo, wo = wr := ⟨wr, rfl⟩

        go_loopw [6] (fun kv wr => ∃ k : Nat, k ≤ r + 1 ∧ kv = .int .i64 k ∧ (Own wr w2.heap.size p (some ⟨g1, 0, none⟩) m3 d1 (putK (toR m) (vAt x3) r (putR (toR m) (vAt x3) x1 r) k) ∧ Own wr p q (some ⟨g2, 0, none⟩) m3 d2 (putK (toR m) (vAt x1) r (putR (toR m) (vAt x1) x2 r) k) ∧ Own wr q gq (some ⟨g3, 0, none⟩) m3 d3 (putK (toR m) (vAt x2) r (putR (toR m) (vAt x2) x3 r) k)) ∧ Blk wr gq 35 #[.int .i64 m, .slice (some ⟨g1, 0, none⟩) m3 d1, .slice (some ⟨g2, 0, none⟩) m3 d2, .slice (some ⟨g3, 0, none⟩) m3 d3] ∧ Below (g + 2) w1 wr)
          (fun kv _ => r + 1 - (intOf kv).toNat)
        case atStart => exact ⟨0, Nat.zero_le _, rfl, HO.out, HQ.out, HB.out⟩
        case round =>
          obtain ⟨k, hk, rfl, how, hqw, hbw⟩ := hrel
          clear HO HQ HB
          have HO := Lib.hid how
          have HQ := Lib.hid hqw
          have HB := Lib.hid hbw
          clear how hqw hbw
          by_cases hkr : k ≤ r
          case neg =>
            have hkI : ¬ (k : Int) ≤ (r : Int) := by omega
            have HKE : Hid (k = r + 1) := Lib.hid (by omega)
            go_wp2
            go_roundw
            case rel => exact ⟨r + 1, by omega, by go_num, by have h5 := HO.out; rw [HKE.out] at h5; exact h5, HQ.out, HB.out⟩
            case measure => simp [intOf]; omega
          case pos =>
            have hkI : (k : Int) ≤ (r : Int) := by omega
            have wk1 : IntKind.i64.wrap ((k : Int) + 1) = (k : Int) + 1 := IntWalk.i64_in _ (by omega)
            obtain ⟨a, ha⟩ : ∃ a, a = tri r + k := ⟨_, rfl⟩
            have hat : a < m3 := by rw [ha, HT.out]; exact tri_lt hlt (by omega)
            have haI : (a : Int) < (m3 : Int) := by omega
            have HP1 := Lib.hid (fun w => l5Place_at (i := (r : Int)) (j := (k : Int)) r k a rfl rfl ha w (by omega) (by omega))

            have u1 : IntKind.i64.wrap ((m : Int) - 1) = (m : Int) - 1 := IntWalk.i64_in _ (by omega)
            have u2 : IntKind.i64.wrap ((r : Int) - (k : Int)) = (r : Int) - (k : Int) := IntWalk.i64_in _ (by omega)
            have u3 : IntKind.i64.wrap ((m : Int) - 1 - ((r : Int) - (k : Int))) = (m : Int) - 1 - ((r : Int) - (k : Int)) := IntWalk.i64_in _ (by omega)
            have u4 : IntKind.i64.wrap ((m : Int) - 1 - (r : Int)) = (m : Int) - 1 - (r : Int) := IntWalk.i64_in _ (by omega)
            have HP2 := Lib.hid (fun w => l5Place_at (i := (m : Int) - 1 - ((r : Int) - (k : Int))) (j := (m : Int) - 1 - (r : Int)) (m - 1 - r + k) (m - 1 - r) (toR m r k) (by omega) (by omega) rfl w (by omega) (by omega))
            obtain ⟨A, hA⟩ : ∃ A, A = toR m r k := ⟨_, rfl⟩
            rw [← hA] at HP2
            have hAT : A < m3 := by rw [hA, HT.out]; exact ((moves_R m)).1 r k hlt (by omega)
            have hAI : (A : Int) < (m3 : Int) := by omega
            have HA := Lib.hid hA
            obtain ⟨t1, ht1⟩ : ∃ t1, t1 = nth x1 a := ⟨_, rfl⟩
            obtain ⟨t2, ht2⟩ : ∃ t2, t2 = nth x2 a := ⟨_, rfl⟩
            obtain ⟨t3, ht3⟩ : ∃ t3, t3 = nth x3 a := ⟨_, rfl⟩
            have HT123 : Hid (t1 = nth x1 (tri r + k) ∧ t2 = nth x2 (tri r + k) ∧ t3 = nth x3 (tri r + k)) := Lib.hid (by rw [← ha]; exact ⟨ht1, ht2, ht3⟩)
            have HD1 : Hid (∀ w', Below (g + 2) w1 w' → w'.cell? ⟨b1, o1 + a, none⟩ = some (.int .i64 t1)) := Lib.hid (fun w' hb' => by rw [ht1]; exact HC1.out a w' hat hb')
            have HD2 : Hid (∀ w', Below (g + 2) w1 w' → w'.cell? ⟨b2, o2 + a, none⟩ = some (.int .i64 t2)) := Lib.hid (fun w' hb' => by rw [ht2]; exact HC2.out a w' hat hb')
            have HD3 : Hid (∀ w', Below (g + 2) w1 w' → w'.cell? ⟨b3, o3 + a, none⟩ = some (.int .i64 t3)) := Lib.hid (fun w' hb' => by rw [ht3]; exact HC3.out a w' hat hb')
            clear ht1 ht2 ht3 ha hA
            obtain ⟨p0, p1, p2, p3⟩ := cells4 (HK.out.below HB.out (by omega))
            go_upto_region 12 with (first
              | (go_at_call 76; with_reducible refine (HP1.out _).mono ?_; rintro e w4 ⟨rfl, rfl⟩)
              | (go_at_call 76; with_reducible refine (HP2.out _).mono ?_; rintro e w4 ⟨rfl, rfl⟩))
            clear p0 p1 p2 p3
            obtain ⟨p0, p1, p2, p3⟩ := cells4 (HK.out.below HB.out (by omega))
            obtain ⟨q0, q1, q2, q3⟩ := cells4 HQ.out
            have sc := HD1.out _ HB.out
            have dc := HO.out.2.1.cellAt (k := A) hAT
            have df := HO.out.2.1.frozenAt A
            refine wp_region_still_tail 9 (by kernel_rfl) (by kernel_rfl) ?_
            simp only [List.take_succ_cons, List.take_zero, List.drop_succ_cons, List.drop_zero]
            repeat (first | still_step)
            refine wpStill_nil ?_
            change wpList _ _ _ _ _ wr.drew
            go_upto_region 13 with fail
            obtain ⟨wt1, hwt1⟩ : ∃ ws, ws = (wr.setCell ⟨g2, A, none⟩ (.int .i64 t1)).drew := ⟨_, rfl⟩
            rw [← hwt1]
            have hgs : wr.grownBy wt1 (some g2) := by rw [hwt1]; exact grown_setD _ _ _
            have HO1 : Hid (Own wt1 w2.heap.size p (some ⟨g1, 0, none⟩) m3 d1 (putK (toR m) (vAt x3) r (putR (toR m) (vAt x3) x1 r) k) ∧ Own wt1 p q (some ⟨g2, 0, none⟩) m3 d2 ((putK (toR m) (vAt x1) r (putR (toR m) (vAt x1) x2 r) k).set A t1) ∧ Own wt1 q gq (some ⟨g3, 0, none⟩) m3 d3 (putK (toR m) (vAt x2) r (putR (toR m) (vAt x2) x3 r) k)) := Lib.hid ⟨HO.out.1.grown hgs (by rintro k ⟨⟩; have h5 := HZ.out; omega), by rw [hwt1]; exact (HO.out.2.1.set_ (k := A) t1).1.drawn ⟨1, rfl⟩, HO.out.2.2.grown hgs (by rintro k ⟨⟩; have h5 := HZ.out; omega)⟩
            have HB1_ : Hid (Below (g + 2) w1 wt1) := Lib.hid (by rw [hwt1]; exact (HB.out.setCell (by have h5 := HZ.out; show g + 2 ≤ g2; omega) _).drew)
            have HQ1 := Lib.hid (HQ.out.grown hgs (fun e => by injection e with e; have h5 := HZ.out; omega))
            clear hgs hwt1 p0 p1 p2 p3 q0 q1 q2 q3 sc dc df
            obtain ⟨p0, p1, p2, p3⟩ := cells4 (HK.out.below HB1_.out (by omega))
            obtain ⟨q0, q1, q2, q3⟩ := cells4 HQ1.out
            have sc := HD2.out _ HB1_.out
            have dc := HO1.out.2.2.cellAt (k := A) hAT
            have df := HO1.out.2.2.frozenAt A
            refine wp_region_still_tail 9 (by kernel_rfl) (by kernel_rfl) ?_
            simp only [List.take_succ_cons, List.take_zero, List.drop_succ_cons, List.drop_zero]
            repeat (first | still_step)
            refine wpStill_nil ?_
            change wpList _ _ _ _ _ wt1.drew
            go_upto_region 14 with fail
            obtain ⟨wt2, hwt2⟩ : ∃ ws, ws = (wt1.setCell ⟨g3, A, none⟩ (.int .i64 t2)).drew := ⟨_, rfl⟩
            rw [← hwt2]
            have hgs : wt1.grownBy wt2 (some g3) := by rw [hwt2]; exact grown_setD _ _ _
            have HO2 : Hid (Own wt2 w2.heap.size p (some ⟨g1, 0, none⟩) m3 d1 (putK (toR m) (vAt x3) r (putR (toR m) (vAt x3) x1 r) k) ∧ Own wt2 p q (some ⟨g2, 0, none⟩) m3 d2 ((putK (toR m) (vAt x1) r (putR (toR m) (vAt x1) x2 r) k).set A t1) ∧ Own wt2 q gq (some ⟨g3, 0, none⟩) m3 d3 ((putK (toR m) (vAt x2) r (putR (toR m) (vAt x2) x3 r) k).set A t2)) := Lib.hid ⟨HO1.out.1.grown hgs (by rintro k ⟨⟩; have h5 := HZ.out; omega), HO1.out.2.1.grown hgs (by rintro k ⟨⟩; have h5 := HZ.out; omega), by rw [hwt2]; exact (HO1.out.2.2.set_ (k := A) t2).1.drawn ⟨1, rfl⟩⟩
            have HB2_ : Hid (Below (g + 2) w1 wt2) := Lib.hid (by rw [hwt2]; exact (HB1_.out.setCell (by have h5 := HZ.out; show g + 2 ≤ g3; omega) _).drew)
            have HQ2 := Lib.hid (HQ1.out.grown hgs (fun e => by injection e with e; have h5 := HZ.out; omega))
            clear hgs hwt2 p0 p1 p2 p3 q0 q1 q2 q3 sc dc df
            obtain ⟨p0, p1, p2, p3⟩ := cells4 (HK.out.below HB2_.out (by omega))
            obtain ⟨q0, q1, q2, q3⟩ := cells4 HQ2.out
            have sc := HD3.out _ HB2_.out
            have dc := HO2.out.1.cellAt (k := A) hAT
            have df := HO2.out.1.frozenAt A
            refine wp_region_still_tail 9 (by kernel_rfl) (by kernel_rfl) ?_
            simp only [List.take_succ_cons, List.take_zero, List.drop_succ_cons, List.drop_zero]
            repeat (first | still_step)
            refine wpStill_nil ?_
            change wpList _ _ _ _ _ wt2.drew
            go_upto_region 9 with fail
            obtain ⟨wt3, hwt3⟩ : ∃ ws, ws = (wt2.setCell ⟨g1, A, none⟩ (.int .i64 t3)).drew := ⟨_, rfl⟩
            rw [← hwt3]
            have hgs : wt2.grownBy wt3 (some g1) := by rw [hwt3]; exact grown_setD _ _ _
            have HO3 : Hid (Own wt3 w2.heap.size p (some ⟨g1, 0, none⟩) m3 d1 ((putK (toR m) (vAt x3) r (putR (toR m) (vAt x3) x1 r) k).set A t3) ∧ Own wt3 p q (some ⟨g2, 0, none⟩) m3 d2 ((putK (toR m) (vAt x1) r (putR (toR m) (vAt x1) x2 r) k).set A t1) ∧ Own wt3 q gq (some ⟨g3, 0, none⟩) m3 d3 ((putK (toR m) (vAt x2) r (putR (toR m) (vAt x2) x3 r) k).set A t2)) := Lib.hid ⟨by rw [hwt3]; exact (HO2.out.1.set_ (k := A) t3).1.drawn ⟨1, rfl⟩, HO2.out.2.1.grown hgs (by rintro k ⟨⟩; have h5 := HZ.out; omega), HO2.out.2.2.grown hgs (by rintro k ⟨⟩; have h5 := HZ.out; omega)⟩
            have HB3_ : Hid (Below (g + 2) w1 wt3) := Lib.hid (by rw [hwt3]; exact (HB2_.out.setCell (by have h5 := HZ.out; show g + 2 ≤ g1; omega) _).drew)
            have HQ3 := Lib.hid (HQ2.out.grown hgs (fun e => by injection e with e; have h5 := HZ.out; omega))
            clear hgs hwt3 p0 p1 p2 p3 q0 q1 q2 q3 sc dc df
            go_wp2
            go_roundw
            case rel => exact ⟨k + 1, by omega, by go_num, by have h5 := HO3.out; have h6 := HT123.out; rw [HA.out, h6.1, h6.2.1, h6.2.2] at h5; exact h5, HQ3.out, HB3_.out⟩
            case measure => simp [intOf]; omega
set_option maxRecDepth 100000 in
set_option maxHeartbeats 4000000 in
theorem specMirrorPuzzle_any (s : Int) (A1 A2 A3 : Option Addr) (n1 c1 n2 c2 n3 c3 : Nat) (x1 x2 x3 : List Int) (w : World) (h : PS w A1 A2 A3 n1 n2 n3 x1 x2 x3) (hc3 : n3 ≤ c3) (hn : n1 ≤ 1099511627776 ∧ n2 ≤ 1099511627776 ∧ n3 ≤ 1099511627776) :
    Calls Try.prog 38 #[.agg #[.int .i64 s, .slice A1 n1 c1, .slice A2 n2 c2, .slice A3 n3 c3]] w fun e w' =>
      FreshQ w w' e (rotS (pzB true s x1 x2 x3) s) (pzB true s x1 x2 x3) (rotL (pzB true s x1 x2 x3) s toM (vFl x2)) (rotL (pzB true s x1 x2 x3) s toM (vFl x1)) (rotL (pzB true s x1 x2 x3) s toM (vFl x3)) := by
  obtain ⟨w1, hw1⟩ : ∃ w1, w1 = (w.alloc (.cells #[.int .i64 s, .slice A1 n1 c1, .slice A2 n2 c2, .slice A3 n3 c3] 35)).alloc (.cells #[.int .i64 0, .slice none 0 0, .slice none 0 0, .slice none 0 0] 35) := ⟨_, rfl⟩
  obtain ⟨g, hg⟩ : ∃ g, g = w.heap.size := ⟨_, rfl⟩
  have hk : Blk w1 g 35 #[.int .i64 s, .slice A1 n1 c1, .slice A2 n2 c2, .slice A3 n3 c3] := by rw [hw1, hg]; exact (Blk.new _ _ _).alloc _
  have hk2 : Blk w1 (g + 1) 35 #[.int .i64 0, .slice none 0 0, .slice none 0 0, .slice none 0 0] := by
    rw [hw1, hg]
    have := Blk.new (w.alloc (.cells #[.int .i64 s, .slice A1 n1 c1, .slice A2 n2 c2, .slice A3 n3 c3] 35)) 35 #[.int .i64 0, .slice none 0 0, .slice none 0 0, .slice none 0 0]
    simpa using this
  have hb : Below w.heap.size w w1 := by rw [hw1]; go_grown
  have hs := h.below hb (Nat.le_refl _)
  have HS := Lib.hid hs
  have HN := Lib.hid hn
  have HB1 := Lib.hid hb
  have HW := Lib.hid hw1
  have HG := Lib.hid hg
  have HK := Lib.hid hk
  have HK2 := Lib.hid hk2
  have HLN := Lib.hid hs.lens
  have HSZ : Hid (w1.heap.size = g + 2) := Lib.hid (by rw [hw1, hg]; simp)
  obtain ⟨q0, q1, q2, q3⟩ := cells4 hk
  have HOKC := Lib.hid (specWeightedOk_any s A1 A2 A3 n1 c1 n2 c2 n3 c3 x1 x2 x3 w1 hs hc3 hn)
  obtain ⟨b, hbb⟩ : ∃ b, b = pzB true s x1 x2 x3 := ⟨_, rfl⟩
  have HBB := Lib.hid hbb
  rw [← hbb] at HOKC ⊢
  clear hw1 hg hk hk2 hb hs h hc3 hn hbb
  cases b with
  | false =>
    show Calls _ _ _ _ fun e w' => FreshQ w w' e 0 false [] [] []
    go_enter Try.func38, Try.ntmps38
    go_upto_region 1 with fail
    rw [← HW.out, ← HG.out]
    go_upto_region 2 with (go_at_call 30; refine HOKC.out.mono ?_; rintro e w2 ⟨rfl, hb2⟩; have HB2 := Lib.hid hb2; have hre := HK2.out.below HB2.out (by have := HSZ.out; omega); have HRE := Lib.hid hre; obtain ⟨rr0, rr1, rr2, rr3⟩ := cells4 hre; obtain ⟨ff0, ff1, ff2, ff3⟩ := frozen4 hre; clear hre hb2)
    have HR := Lib.hid (HRE.out.put4 (.int .i64 0) (.slice none 0 0) (.slice none 0 0) (.slice none 0 0))
    have HGZ := Lib.hid (grown_put4 w2 (g + 1) (.int .i64 0) (.slice none 0 0) (.slice none 0 0) (.slice none 0 0))
    clear q0 q1 q2 q3
    go_wp2
    refine bodyPost_ret (results_rowP_tmp Try.results38 _ _ (g + 1) 35 #[.int .i64 0, .slice none 0 0, .slice none 0 0, .slice none 0 0] _ rfl HR.out Try.underlying35 rfl Try.infoPz) rfl ?_
    refine ⟨none, none, none, 0, 0, 0, 0, 0, 0, rfl, OwnQ.nil _ ?_, ?_⟩
    · have h5 := HGZ.out.size; have h6 := HB2.out.size; have h7 := HB1.out.size; omega
    · exact (HB1.out.trans (HB2.out.mono (by have := HB1.out.size; omega))).grown HGZ.out (by have := HG.out; have := HB2.out.size; have := HSZ.out; omega) (by rintro k ⟨⟩; have := HG.out; omega)
  | true =>
    obtain ⟨m, rfl, hm, hl1, hl2, hl3⟩ := pz_lens HBB.out.symm
    have HLAB := Lib.hid (pz_labels HBB.out.symm)
    have hll : n1 = tri m ∧ n2 = tri m ∧ n3 = tri m := by have h5 := HLN.out; omega
    have HXL : Hid (x1.length = tri m ∧ x2.length = tri m ∧ x3.length = tri m) := Lib.hid ⟨hl1, hl2, hl3⟩
    have HM := Lib.hid hm
    have hm7 : m ≤ 7 := hm.2
    have hT1 : 0 < tri m := by have h5 := tri_lt (a := 0) (b := m) (k := 0) (by omega) (Nat.le_refl _); omega
    have HE1 : Hid (putR toM (vFl x2) (zeroN m) m = putR toM (vFl x2) x1 m) := Lib.hid (putR_any (moves_M m) (by simp [zeroN]) hl1)
    have HE2 : Hid (putR toM (vFl x1) (zeroN m) m = putR toM (vFl x1) x2 m) := Lib.hid (putR_any (moves_M m) (by simp [zeroN]) hl2)
    have HE3 : Hid (putR toM (vFl x3) (zeroN m) m = putR toM (vFl x3) x3 m) := Lib.hid (putR_any (moves_M m) (by simp [zeroN]) hl3)
    show Calls _ _ _ _ fun e w' => FreshQ w w' e (m : Int) true (putR toM (vFl x2) (zeroN m) m) (putR toM (vFl x1) (zeroN m) m) (putR toM (vFl x3) (zeroN m) m)
    rw [HE1.out, HE2.out, HE3.out]
    have HCP := Lib.hid (fun w' (hb' : Below w1.heap.size w1 w') => l5Copy_any (m : Int) A1 A2 A3 n1 c1 n2 c2 n3 c3 x1 x2 x3 w' (HS.out.below hb' (Nat.le_refl _)) HN.out)
    obtain ⟨b1, o1, rfl, hb1, hc1⟩ := HS.out.1.at_ (by omega)
    obtain ⟨b2, o2, rfl, hb2, hc2⟩ := HS.out.2.1.at_ (by omega)
    obtain ⟨b3, o3, rfl, hb3, hc3⟩ := HS.out.2.2.at_ (by omega)
    obtain ⟨e1, e2, e3⟩ := hll
    subst e1 e2 e3
    obtain ⟨T, hT⟩ : ∃ T, T = tri m := ⟨_, rfl⟩
    have HT := Lib.hid hT
    rw [← hT] at HCP HS HK q1 q2 q3 hc1 hc2 hc3 HXL hT1 HOKC HW ⊢
    have HC1 : Hid (∀ (k : Nat) (w' : World), k < T → Below (g + 2) w1 w' → w'.cell? ⟨b1, o1 + k, none⟩ = some (.int .i64 (nth x1 k))) := Lib.hid (fun k w' hk hb' => (hb'.cell (p := ⟨b1, o1 + k, none⟩) (by have := HSZ.out; show b1 < g + 2; omega)).trans (hc1 k hk))
    have HC2 : Hid (∀ (k : Nat) (w' : World), k < T → Below (g + 2) w1 w' → w'.cell? ⟨b2, o2 + k, none⟩ = some (.int .i64 (nth x2 k))) := Lib.hid (fun k w' hk hb' => (hb'.cell (p := ⟨b2, o2 + k, none⟩) (by have := HSZ.out; show b2 < g + 2; omega)).trans (hc2 k hk))
    have HC3 : Hid (∀ (k : Nat) (w' : World), k < T → Below (g + 2) w1 w' → w'.cell? ⟨b3, o3 + k, none⟩ = some (.int .i64 (nth x3 k))) := Lib.hid (fun k w' hk hb' => (hb'.cell (p := ⟨b3, o3 + k, none⟩) (by have := HSZ.out; show b3 < g + 2; omega)).trans (hc3 k hk))
    clear hm hl1 hl2 hl3 hT hb1 hb2 hb3 hc1 hc2 hc3 HN HLN
    go_enter Try.func38, Try.ntmps38
    go_upto_region 1 with fail
    rw [← HW.out, ← HG.out]
    go_upto_region 3 with (go_at_call 30; refine HOKC.out.mono ?_; rintro e w2 ⟨rfl, hb2⟩; have HB2 := Lib.hid hb2; clear hb2)
    have HK4 := Lib.hid (HK.out.below HB2.out (by have := HSZ.out; omega))
    clear q0 q1 q2 q3
    obtain ⟨q0, q1, q2, q3⟩ := cells4 HK4.out
    go_upto_region 4 with (go_at_call 75; refine (HCP.out _ HB2.out).mono ?_; rintro e w3 ⟨B1, B2, B3, m1, d1, m2, d2, m3, d3, rfl, ho3, hb3⟩; have HO3 := Lib.hid ho3; have HB3 := Lib.hid hb3; clear ho3 hb3)
    have hlq := HO3.out.lens
    have hxl := HXL.out
    obtain rfl : m1 = T := by omega
    obtain rfl : m2 = m1 := by omega
    obtain rfl : m3 = m2 := by omega
    obtain ⟨T, hT⟩ : ∃ T, T = m3 := ⟨_, rfl⟩
    obtain ⟨p, q, hp1, hp2, hp3, ho1, ho2, ho3⟩ := HO3.out
    obtain ⟨g1, rfl, k1, k1'⟩ := ho1.place hT1
    obtain ⟨g2, rfl, k2, k2'⟩ := ho2.place hT1
    obtain ⟨g3, rfl, k3, k3'⟩ := ho3.place hT1
    obtain ⟨wq, hwq⟩ : ∃ wq, wq = w3.alloc (.cells #[.int .i64 m, .slice (some ⟨g1, 0, none⟩) m3 d1, .slice (some ⟨g2, 0, none⟩) m3 d2, .slice (some ⟨g3, 0, none⟩) m3 d3] 35) := ⟨_, rfl⟩
    obtain ⟨gq, hgq⟩ : ∃ gq, gq = w3.heap.size := ⟨_, rfl⟩
    rw [← hwq, ← hgq]
    have HQ : Hid (Blk wq gq 35 #[.int .i64 m, .slice (some ⟨g1, 0, none⟩) m3 d1, .slice (some ⟨g2, 0, none⟩) m3 d2, .slice (some ⟨g3, 0, none⟩) m3 d3]) := Lib.hid (by rw [hwq, hgq]; exact Blk.new _ _ _)
    have HO : Hid (Own wq w2.heap.size p (some ⟨g1, 0, none⟩) m3 d1 x1 ∧ Own wq p q (some ⟨g2, 0, none⟩) m3 d2 x2 ∧ Own wq q gq (some ⟨g3, 0, none⟩) m3 d3 x3) := Lib.hid (by
      rw [hwq, hgq]
      exact ⟨ho1.below (Below.alloc_self _ _) (by omega), ho2.below (Below.alloc_self _ _) (by omega), ho3.below (Below.alloc_self _ _) (Nat.le_refl _)⟩)
    have HZ : Hid (g + 2 ≤ w2.heap.size ∧ (w2.heap.size ≤ p ∧ p ≤ q ∧ q ≤ gq) ∧ (w2.heap.size ≤ g1 ∧ g1 < p) ∧ (p ≤ g2 ∧ g2 < q) ∧ q ≤ g3 ∧ g3 < gq) := Lib.hid (by
      have h5 := HB2.out.size
      have h6 := HSZ.out
      omega)
    have HBQ : Hid (Below (g + 2) w1 wq) := Lib.hid (by
      have h5 := HB2.out.size
      have h6 := HSZ.out
      rw [hwq, ← HSZ.out]
      exact (HB2.out.trans (HB3.out.mono h5)).alloc (by have := HB3.out.size; omega) _)
    clear hlq hxl hT hwq hgq ho1 ho2 ho3 HO3 hp1 hp2 hp3 k1 k1' k2 k2' k3 k3' q0 q1 q2 q3 HCP HOKC HS HK4
    go_wp2_with fail

    go_loopw [5] (fun rv wr => ∃ r : Nat, r ≤ m ∧ rv = .int .i64 r ∧ (Own wr w2.heap.size p (some ⟨g1, 0, none⟩) m3 d1 (putR toM (vFl x2) x1 r) ∧ Own wr p q (some ⟨g2, 0, none⟩) m3 d2 (putR toM (vFl x1) x2 r) ∧ Own wr q gq (some ⟨g3, 0, none⟩) m3 d3 (putR toM (vFl x3) x3 r)) ∧ Blk wr gq 35 #[.int .i64 m, .slice (some ⟨g1, 0, none⟩) m3 d1, .slice (some ⟨g2, 0, none⟩) m3 d2, .slice (some ⟨g3, 0, none⟩) m3 d3] ∧ Below (g + 2) w1 wr)
      (fun rv _ => m - (intOf rv).toNat)
    case atStart => exact ⟨0, Nat.zero_le _, rfl, HO.out, HQ.out, HBQ.out⟩
    case round =>
      obtain ⟨r, hr, rfl, how, hqw, hbw⟩ := hrel
      clear HO HQ HBQ
      have HO := Lib.hid how
      have HQ := Lib.hid hqw
      have HB := Lib.hid hbw
      clear how hqw hbw
      obtain ⟨p0, p1, p2, p3⟩ := cells4 (HK.out.below HB.out (by omega))
      by_cases hlt : r < m
      case neg =>
        have hrm : r = m := by omega
        subst hrm
        have hre := HK2.out.below HB.out (by omega)
        obtain ⟨q0, q1, q2, q3⟩ := cells4 HQ.out
        obtain ⟨rr0, rr1, rr2, rr3⟩ := cells4 hre
        obtain ⟨ff0, ff1, ff2, ff3⟩ := frozen4 hre
        have HR := Lib.hid (hre.put4 (.int .i64 r) (.slice (some ⟨g1, 0, none⟩) m3 d1) (.slice (some ⟨g2, 0, none⟩) m3 d2) (.slice (some ⟨g3, 0, none⟩) m3 d3))
        have HGZ := Lib.hid (grown_put4 wr (g + 1) (.int .i64 r) (.slice (some ⟨g1, 0, none⟩) m3 d1) (.slice (some ⟨g2, 0, none⟩) m3 d2) (.slice (some ⟨g3, 0, none⟩) m3 d3))
        clear hre
        go_wp2
        refine bodyPost_ret (results_rowP_tmp Try.results38 _ _ (g + 1) 35 #[.int .i64 r, .slice (some ⟨g1, 0, none⟩) m3 d1, .slice (some ⟨g2, 0, none⟩) m3 d2, .slice (some ⟨g3, 0, none⟩) m3 d3] _ rfl HR.out Try.underlying35 rfl Try.infoPz) rfl ?_
        have z1 := HB1.out.size
        have z2 := HZ.out
        have z3 := HB.out.size
        have z4 := HG.out
        have z5 := HSZ.out
        have z6 := HGZ.out.size
        have z7 := HQ.out.lt
        refine ⟨_, _, _, _, _, _, _, _, _, rfl, OwnQ.of (OwnP.wide ⟨p, q, z2.2.1.1, z2.2.1.2.1, z2.2.1.2.2, HO.out.1.grown HGZ.out (by rintro k ⟨⟩; omega), HO.out.2.1.grown HGZ.out (by rintro k ⟨⟩; omega), HO.out.2.2.grown HGZ.out (by rintro k ⟨⟩; omega)⟩ (by omega) (by omega)), ?_⟩
        exact (HB1.out.trans (HB.out.mono (by omega))).grown HGZ.out (by omega) (by rintro k ⟨⟩; omega)
      case pos =>
        have hltI : (r : Int) < (m : Int) := by omega
        have wr1 : IntKind.i64.wrap ((r : Int) + 1) = (r : Int) + 1 := IntWalk.i64_in _ (by omega)
        go_wp2_with fail
        clear p0 p1 p2 p3
        obtain ⟨wo, rfl⟩ : ∃ wo, wo = wr := ⟨wr, rfl⟩

        go_loopw [6] (fun kv wr => ∃ k : Nat, k ≤ r + 1 ∧ kv = .int .i64 k ∧ (Own wr w2.heap.size p (some ⟨g1, 0, none⟩) m3 d1 (putK toM (vFl x2) r (putR toM (vFl x2) x1 r) k) ∧ Own wr p q (some ⟨g2, 0, none⟩) m3 d2 (putK toM (vFl x1) r (putR toM (vFl x1) x2 r) k) ∧ Own wr q gq (some ⟨g3, 0, none⟩) m3 d3 (putK toM (vFl x3) r (putR toM (vFl x3) x3 r) k)) ∧ Blk wr gq 35 #[.int .i64 m, .slice (some ⟨g1, 0, none⟩) m3 d1, .slice (some ⟨g2, 0, none⟩) m3 d2, .slice (some ⟨g3, 0, none⟩) m3 d3] ∧ Below (g + 2) w1 wr)
          (fun kv _ => r + 1 - (intOf kv).toNat)
        case atStart => exact ⟨0, Nat.zero_le _, rfl, HO.out, HQ.out, HB.out⟩
        case round =>
          obtain ⟨k, hk, rfl, how, hqw, hbw⟩ := hrel
          clear HO HQ HB
          have HO := Lib.hid how
          have HQ := Lib.hid hqw
          have HB := Lib.hid hbw
          clear how hqw hbw
          by_cases hkr : k ≤ r
          case neg =>
            have hkI : ¬ (k : Int) ≤ (r : Int) := by omega
            have HKE : Hid (k = r + 1) := Lib.hid (by omega)
            go_wp2
            go_roundw
            case rel => exact ⟨r + 1, by omega, by go_num, by have h5 := HO.out; rw [HKE.out] at h5; exact h5, HQ.out, HB.out⟩
            case measure => simp [intOf]; omega
          case pos =>
            have hkI : (k : Int) ≤ (r : Int) := by omega
            have wk1 : IntKind.i64.wrap ((k : Int) + 1) = (k : Int) + 1 := IntWalk.i64_in _ (by omega)
            obtain ⟨a, ha⟩ : ∃ a, a = tri r + k := ⟨_, rfl⟩
            have hat : a < m3 := by rw [ha, HT.out]; exact tri_lt hlt (by omega)
            have haI : (a : Int) < (m3 : Int) := by omega
            have HP1 := Lib.hid (fun w => l5Place_at (i := (r : Int)) (j := (k : Int)) r k a rfl rfl ha w (by omega) (by omega))

            have u2 : IntKind.i64.wrap ((r : Int) - (k : Int)) = (r : Int) - (k : Int) := IntWalk.i64_in _ (by omega)
            have HP2 := Lib.hid (fun w => l5Place_at (i := (r : Int)) (j := (r : Int) - (k : Int)) r (r - k) (toM r k) rfl (by omega) rfl w (by omega) (by omega))
            obtain ⟨A, hA⟩ : ∃ A, A = toM r k := ⟨_, rfl⟩
            rw [← hA] at HP2
            have hAT : A < m3 := by rw [hA, HT.out]; exact ((moves_M m)).1 r k hlt (by omega)
            have hAI : (A : Int) < (m3 : Int) := by omega
            have HA := Lib.hid hA
            obtain ⟨t1, ht1⟩ : ∃ t1, t1 = nth x1 a := ⟨_, rfl⟩
            obtain ⟨t2, ht2⟩ : ∃ t2, t2 = nth x2 a := ⟨_, rfl⟩
            obtain ⟨t3, ht3⟩ : ∃ t3, t3 = nth x3 a := ⟨_, rfl⟩
            have HT123 : Hid (t1 = nth x1 (tri r + k) ∧ t2 = nth x2 (tri r + k) ∧ t3 = nth x3 (tri r + k)) := Lib.hid (by rw [← ha]; exact ⟨ht1, ht2, ht3⟩)
            have HD1 : Hid (∀ w', Below (g + 2) w1 w' → w'.cell? ⟨b1, o1 + a, none⟩ = some (.int .i64 t1)) := Lib.hid (fun w' hb' => by rw [ht1]; exact HC1.out a w' hat hb')
            have HD2 : Hid (∀ w', Below (g + 2) w1 w' → w'.cell? ⟨b2, o2 + a, none⟩ = some (.int .i64 t2)) := Lib.hid (fun w' hb' => by rw [ht2]; exact HC2.out a w' hat hb')
            have HD3 : Hid (∀ w', Below (g + 2) w1 w' → w'.cell? ⟨b3, o3 + a, none⟩ = some (.int .i64 t3)) := Lib.hid (fun w' hb' => by rw [ht3]; exact HC3.out a w' hat hb')
            obtain ⟨f1, hf1⟩ : ∃ f, f = flipI t1 := ⟨_, rfl⟩
            obtain ⟨f2, hf2⟩ : ∃ f, f = flipI t2 := ⟨_, rfl⟩
            obtain ⟨f3, hf3⟩ : ∃ f, f = flipI t3 := ⟨_, rfl⟩
            have HFE : Hid (f1 = flipI t1 ∧ f2 = flipI t2 ∧ f3 = flipI t3) := Lib.hid ⟨hf1, hf2, hf3⟩
            have hat' : a < tri m := by rw [← HT.out]; exact hat
            have HF1 := Lib.hid (fun w => l5Other_any t1 (by rw [ht1]; exact (HLAB.out a hat').1) w)
            have HF2 := Lib.hid (fun w => l5Other_any t2 (by rw [ht2]; exact (HLAB.out a hat').2.1) w)
            have HF3 := Lib.hid (fun w => l5Other_any t3 (by rw [ht3]; exact (HLAB.out a hat').2.2) w)
            rw [← hf1] at HF1
            rw [← hf2] at HF2
            rw [← hf3] at HF3
            clear hf1 hf2 hf3 hat'
            clear ht1 ht2 ht3 ha hA
            obtain ⟨p0, p1, p2, p3⟩ := cells4 (HK.out.below HB.out (by omega))
            go_upto_region 12 with (first
              | (go_at_call 76; with_reducible refine (HP1.out _).mono ?_; rintro e w4 ⟨rfl, rfl⟩)
              | (go_at_call 76; with_reducible refine (HP2.out _).mono ?_; rintro e w4 ⟨rfl, rfl⟩))
            clear p0 p1 p2 p3
            obtain ⟨p0, p1, p2, p3⟩ := cells4 (HK.out.below HB.out (by omega))
            obtain ⟨q0, q1, q2, q3⟩ := cells4 HQ.out
            have sc := HD2.out _ HB.out
            have dc := HO.out.1.cellAt (k := A) hAT
            have df := HO.out.1.frozenAt A
            refine wp_region_still_tail 10 (by kernel_rfl) (by kernel_rfl) ?_
            simp only [List.take_succ_cons, List.take_zero, List.drop_succ_cons, List.drop_zero]
            repeat (first | still_step | still_call (HF2.out _))
            refine wpStill_nil ?_
            change wpList _ _ _ _ _ wr.drew
            go_upto_region 13 with fail
            obtain ⟨wt1, hwt1⟩ : ∃ ws, ws = (wr.setCell ⟨g1, A, none⟩ (.int .i64 f2)).drew := ⟨_, rfl⟩
            rw [← hwt1]
            have hgs : wr.grownBy wt1 (some g1) := by rw [hwt1]; exact grown_setD _ _ _
            have HO1 : Hid (Own wt1 w2.heap.size p (some ⟨g1, 0, none⟩) m3 d1 ((putK toM (vFl x2) r (putR toM (vFl x2) x1 r) k).set A f2) ∧ Own wt1 p q (some ⟨g2, 0, none⟩) m3 d2 (putK toM (vFl x1) r (putR toM (vFl x1) x2 r) k) ∧ Own wt1 q gq (some ⟨g3, 0, none⟩) m3 d3 (putK toM (vFl x3) r (putR toM (vFl x3) x3 r) k)) := Lib.hid ⟨by rw [hwt1]; exact (HO.out.1.set_ (k := A) f2).1.drawn ⟨1, rfl⟩, HO.out.2.1.grown hgs (by rintro k ⟨⟩; have h5 := HZ.out; omega), HO.out.2.2.grown hgs (by rintro k ⟨⟩; have h5 := HZ.out; omega)⟩
            have HB1_ : Hid (Below (g + 2) w1 wt1) := Lib.hid (by rw [hwt1]; exact (HB.out.setCell (by have h5 := HZ.out; show g + 2 ≤ g1; omega) _).drew)
            have HQ1 := Lib.hid (HQ.out.grown hgs (fun e => by injection e with e; have h5 := HZ.out; omega))
            clear hgs hwt1 p0 p1 p2 p3 q0 q1 q2 q3 sc dc df
            obtain ⟨p0, p1, p2, p3⟩ := cells4 (HK.out.below HB1_.out (by omega))
            obtain ⟨q0, q1, q2, q3⟩ := cells4 HQ1.out
            have sc := HD1.out _ HB1_.out
            have dc := HO1.out.2.1.cellAt (k := A) hAT
            have df := HO1.out.2.1.frozenAt A
            refine wp_region_still_tail 10 (by kernel_rfl) (by kernel_rfl) ?_
            simp only [List.take_succ_cons, List.take_zero, List.drop_succ_cons, List.drop_zero]
            repeat (first | still_step | still_call (HF1.out _))
            refine wpStill_nil ?_
            change wpList _ _ _ _ _ wt1.drew
            go_upto_region 14 with fail
            obtain ⟨wt2, hwt2⟩ : ∃ ws, ws = (wt1.setCell ⟨g2, A, none⟩ (.int .i64 f1)).drew := ⟨_, rfl⟩
            rw [← hwt2]
            have hgs : wt1.grownBy wt2 (some g2) := by rw [hwt2]; exact grown_setD _ _ _
            have HO2 : Hid (Own wt2 w2.heap.size p (some ⟨g1, 0, none⟩) m3 d1 ((putK toM (vFl x2) r (putR toM (vFl x2) x1 r) k).set A f2) ∧ Own wt2 p q (some ⟨g2, 0, none⟩) m3 d2 ((putK toM (vFl x1) r (putR toM (vFl x1) x2 r) k).set A f1) ∧ Own wt2 q gq (some ⟨g3, 0, none⟩) m3 d3 (putK toM (vFl x3) r (putR toM (vFl x3) x3 r) k)) := Lib.hid ⟨HO1.out.1.grown hgs (by rintro k ⟨⟩; have h5 := HZ.out; omega), by rw [hwt2]; exact (HO1.out.2.1.set_ (k := A) f1).1.drawn ⟨1, rfl⟩, HO1.out.2.2.grown hgs (by rintro k ⟨⟩; have h5 := HZ.out; omega)⟩
            have HB2_ : Hid (Below (g + 2) w1 wt2) := Lib.hid (by rw [hwt2]; exact (HB1_.out.setCell (by have h5 := HZ.out; show g + 2 ≤ g2; omega) _).drew)
            have HQ2 := Lib.hid (HQ1.out.grown hgs (fun e => by injection e with e; have h5 := HZ.out; omega))
            clear hgs hwt2 p0 p1 p2 p3 q0 q1 q2 q3 sc dc df
            obtain ⟨p0, p1, p2, p3⟩ := cells4 (HK.out.below HB2_.out (by omega))
            obtain ⟨q0, q1, q2, q3⟩ := cells4 HQ2.out
            have sc := HD3.out _ HB2_.out
            have dc := HO2.out.2.2.cellAt (k := A) hAT
            have df := HO2.out.2.2.frozenAt A
            refine wp_region_still_tail 10 (by kernel_rfl) (by kernel_rfl) ?_
            simp only [List.take_succ_cons, List.take_zero, List.drop_succ_cons, List.drop_zero]
            repeat (first | still_step | still_call (HF3.out _))
            refine wpStill_nil ?_
            change wpList _ _ _ _ _ wt2.drew
            go_upto_region 9 with fail
            obtain ⟨wt3, hwt3⟩ : ∃ ws, ws = (wt2.setCell ⟨g3, A, none⟩ (.int .i64 f3)).drew := ⟨_, rfl⟩
            rw [← hwt3]
            have hgs : wt2.grownBy wt3 (some g3) := by rw [hwt3]; exact grown_setD _ _ _
            have HO3 : Hid (Own wt3 w2.heap.size p (some ⟨g1, 0, none⟩) m3 d1 ((putK toM (vFl x2) r (putR toM (vFl x2) x1 r) k).set A f2) ∧ Own wt3 p q (some ⟨g2, 0, none⟩) m3 d2 ((putK toM (vFl x1) r (putR toM (vFl x1) x2 r) k).set A f1) ∧ Own wt3 q gq (some ⟨g3, 0, none⟩) m3 d3 ((putK toM (vFl x3) r (putR toM (vFl x3) x3 r) k).set A f3)) := Lib.hid ⟨HO2.out.1.grown hgs (by rintro k ⟨⟩; have h5 := HZ.out; omega), HO2.out.2.1.grown hgs (by rintro k ⟨⟩; have h5 := HZ.out; omega), by rw [hwt3]; exact (HO2.out.2.2.set_ (k := A) f3).1.drawn ⟨1, rfl⟩⟩
            have HB3_ : Hid (Below (g + 2) w1 wt3) := Lib.hid (by rw [hwt3]; exact (HB2_.out.setCell (by have h5 := HZ.out; show g + 2 ≤ g3; omega) _).drew)
            have HQ3 := Lib.hid (HQ2.out.grown hgs (fun e => by injection e with e; have h5 := HZ.out; omega))
            clear hgs hwt3 p0 p1 p2 p3 q0 q1 q2 q3 sc dc df
            go_wp2
            go_roundw
            case rel => exact ⟨k + 1, by omega, by go_num, by have h5 := HO3.out; have h6 := HT123.out; rw [HA.out, HFE.out.1, HFE.out.2.1, HFE.out.2.2, h6.1, h6.2.1, h6.2.2] at h5; exact h5, HQ3.out, HB3_.out⟩
            case measure => simp [intOf]; omega
end Go.Proofs.Ytdappakjbclffaa
