/-
  FnExactMeetSpaces: for every input the law returns true: the program's MeetSpaces answers as the specification's, changes no argument, and its answer owns its memory. No conditions.
-/
import Derived.Test.YtfaegfhbbkicgaaPkA4
namespace Go.Proofs.Ytfaegfhbbkicgaa
open Go.ChangeShapes Go.WideShapes Go.ChangeAt Go.RowKit

set_option maxRecDepth 100000 in
set_option maxHeartbeats 8000000 in
theorem walk_MeetSpaces (P0 R0 C0 : Int) (M0 : Option Addr) (e0 f0 : Nat) (y0 : List Int) (P1 R1 C1 : Int) (M1 : Option Addr) (e1 f1 : Nat) (y1 : List Int) (wA : World) (hp00 : SI wA M0 e0 y0) (hn0 : e0 ≤ 9223372036854775807) (_hfit0 : Fits y0) (hp01 : SI wA M1 e1 y1) (hn1 : e1 ≤ 9223372036854775807) (_hfit1 : Fits y1) :
    Calls Try.prog 5 #[.agg #[.int .i64 P0, .int .i64 R0, .int .i64 C0, .slice M0 e0 f0], .agg #[.int .i64 P1, .int .i64 R1, .int .i64 C1, .slice M1 e1 f1]] wA fun e w' => e = .returned (.bool true) ∧ Below wA.heap.size wA w' := by
  have HNN0 := Lib.hid hn0
  have YL0 := Lib.hid hp00.1
  clear hn0
  have HNN1 := Lib.hid hn1
  have YL1 := Lib.hid hp01.1
  clear hn1
  obtain ⟨zp, zr, zc, z, ok, hzz⟩ := meet_ex P0 R0 C0 y0 P1 R1 C1 y1
  have HZZ := Lib.hid hzz
  have MBC : Hid (z.length ≤ 1000) := Lib.hid hzz.len
  clear hzz
  obtain ⟨w, hw0⟩ : ∃ w, w = ((wA.alloc (.cells #[.int .i64 P0, .int .i64 R0, .int .i64 C0, .slice M0 e0 f0] 24)).alloc (.cells #[.int .i64 P1, .int .i64 R1, .int .i64 C1, .slice M1 e1 f1] 24)) := ⟨_, rfl⟩
  obtain ⟨gA0, hgA0⟩ : ∃ g, g = wA.heap.size := ⟨_, rfl⟩
  obtain ⟨gA1, hgA1⟩ : ∃ g, g = gA0 + 1 := ⟨_, rfl⟩
  have hbA : Below wA.heap.size wA w := by rw [hw0]; go_grown
  have HBA := Lib.hid hbA
  have hp0 := hp00.below hbA (Nat.le_refl _)
  have hp1 := hp01.below hbA (Nat.le_refl _)
  have KA0_0 : Hid (Blk w gA0 24 #[.int .i64 P0, .int .i64 R0, .int .i64 C0, .slice M0 e0 f0]) := Lib.hid (by rw [hw0, hgA0]; have := (Blk.new wA 24 #[.int .i64 P0, .int .i64 R0, .int .i64 C0, .slice M0 e0 f0]).alloc (.cells #[.int .i64 P1, .int .i64 R1, .int .i64 C1, .slice M1 e1 f1] 24); simpa using this)
  have KA1_0 : Hid (Blk w gA1 24 #[.int .i64 P1, .int .i64 R1, .int .i64 C1, .slice M1 e1 f1]) := Lib.hid (by rw [hw0, hgA1, hgA0]; have := Blk.new (wA.alloc (.cells #[.int .i64 P0, .int .i64 R0, .int .i64 C0, .slice M0 e0 f0] 24)) 24 #[.int .i64 P1, .int .i64 R1, .int .i64 C1, .slice M1 e1 f1]; simpa using this)
  have HB0 := Lib.hid (Below.refl w.heap.size w)
  have HW0 := Lib.hid hw0
  have HGA0 := Lib.hid hgA0
  have HGA1 := Lib.hid hgA1
  have HFIN : Hid (wA.heap.size ≤ w.heap.size) := Lib.hid hbA.size
  clear hw0 hbA hgA0 hp00 hgA1 hp01 
  go_enter Try.func5, Try.ntmps5
  go_upto_region 1 with fail
  rw [← HW0.out, ← HGA0.out, ← HGA1.out]
  obtain ⟨cA00, cA01, cA02, cA03⟩ := cells4 KA0_0.out
  obtain ⟨cA10, cA11, cA12, cA13⟩ := cells4 KA1_0.out
  go_wp2_with fail
  refine (szMatrix_any P0 R0 C0 _ _ _ 1048576 _ HNN0.out (by decide) (by decide)).mono ?_
  rintro e w1 ⟨rfl, hb⟩
  clear cA00 cA01 cA02 cA03 cA10 cA11 cA12 cA13
  have KA0_1 := Lib.hid (KA0_0.out.below hb KA0_0.out.lt)
  have KA1_1 := Lib.hid (KA1_0.out.below hb KA1_0.out.lt)
  have hsz := hb.size
  have HB1 := Lib.hid (HB0.out.trans (hb.mono HB0.out.size))
  clear HB0 hb hsz
  clear KA0_0 KA1_0
  by_cases hbigM : (1048576 : Int) < (e0 : Int)
  · rw [if_pos hbigM]
    clear hbigM
    go_wp2
    go_ret
    exact ⟨rfl, HBA.out.trans (HB1.out.mono HFIN.out)⟩
  rw [if_neg hbigM]
  obtain ⟨r0, hr0⟩ : ∃ r : Int, r = (1048576 : Int) - (e0 : Int) := ⟨_, rfl⟩
  rw [← hr0]
  have hr0n : ¬ r0 < 0 := by omega
  have hr0b : r0 ≤ 1048576 := by omega
  have SM0 : Hid (e0 ≤ 1048576) := Lib.hid (by omega)
  have YB0 : Hid (y0.length ≤ 1099511627776) := Lib.hid (by have := YL0.out; have := SM0.out; omega)
  clear hr0 hbigM
  obtain ⟨cA00, cA01, cA02, cA03⟩ := cells4 KA0_1.out
  obtain ⟨cA10, cA11, cA12, cA13⟩ := cells4 KA1_1.out
  go_wp2_with fail
  refine (szMatrix_any P1 R1 C1 _ _ _ r0 _ HNN1.out (by omega) (by omega)).mono ?_
  rintro e w2 ⟨rfl, hb⟩
  clear cA00 cA01 cA02 cA03 cA10 cA11 cA12 cA13
  have KA0_2 := Lib.hid (KA0_1.out.below hb KA0_1.out.lt)
  have KA1_2 := Lib.hid (KA1_1.out.below hb KA1_1.out.lt)
  have hsz := hb.size
  have HB2 := Lib.hid (HB1.out.trans (hb.mono HB1.out.size))
  clear HB1 hb hsz
  clear KA0_1 KA1_1
  by_cases hbigM : r0 < (e1 : Int)
  · rw [if_pos hbigM]
    clear hbigM
    go_wp2
    go_ret
    exact ⟨rfl, HBA.out.trans (HB2.out.mono HFIN.out)⟩
  rw [if_neg hbigM]
  obtain ⟨r1, hr1⟩ : ∃ r : Int, r = r0 - (e1 : Int) := ⟨_, rfl⟩
  rw [← hr1]
  have hr1n : ¬ r1 < 0 := by omega
  have hr1b : r1 ≤ 1048576 := by omega
  have SM1 : Hid (e1 ≤ 1048576) := Lib.hid (by omega)
  have YB1 : Hid (y1.length ≤ 1099511627776) := Lib.hid (by have := YL1.out; have := SM1.out; omega)
  clear hr1 hbigM
  obtain ⟨cA00, cA01, cA02, cA03⟩ := cells4 KA0_2.out
  obtain ⟨cA10, cA11, cA12, cA13⟩ := cells4 KA1_2.out
  go_upto_region 8 with fail
  clear cA00 cA01 cA02 cA03 cA10 cA11 cA12 cA13
  have MKS : Hid (∀ u, Below w2.heap.size w2 u → (Below w2.heap.size w2 u ∧ u.cell? ⟨gA0, 0, none⟩ = some (.int .i64 P0) ∧ u.cell? ⟨gA0, 1, none⟩ = some (.int .i64 R0) ∧ u.cell? ⟨gA0, 2, none⟩ = some (.int .i64 C0) ∧ u.cell? ⟨gA0, 3, none⟩ = some (.slice M0 e0 f0) ∧ u.cell? ⟨gA1, 0, none⟩ = some (.int .i64 P1) ∧ u.cell? ⟨gA1, 1, none⟩ = some (.int .i64 R1) ∧ u.cell? ⟨gA1, 2, none⟩ = some (.int .i64 C1) ∧ u.cell? ⟨gA1, 3, none⟩ = some (.slice M1 e1 f1))) := Lib.hid (fun u hb => by obtain ⟨cA00, cA01, cA02, cA03⟩ := cells4 (KA0_2.out.below hb KA0_2.out.lt); obtain ⟨cA10, cA11, cA12, cA13⟩ := cells4 (KA1_2.out.below hb KA1_2.out.lt); exact ⟨hb, cA00, cA01, cA02, cA03, cA10, cA11, cA12, cA13⟩)
  have Hcd : Hid (Below w2.heap.size w2 w2.drew) := Lib.hid ((Below.refl _ _).drew)
  have Hal : Hid (∀ o, Below w2.heap.size w2 (w2.alloc o).drew) := Lib.hid (fun o => ((Below.refl _ _).alloc (Nat.le_refl _) o).drew)
  have HPU0 : Hid (∀ u, Below w2.heap.size w2 u → SI u M0 e0 y0) := Lib.hid (fun u hb => (hp0.below HB2.out (Nat.le_refl _)).below hb (Nat.le_refl _))
  have HPU1 : Hid (∀ u, Below w2.heap.size w2 u → SI u M1 e1 y1) := Lib.hid (fun u hb => (hp1.below HB2.out (Nat.le_refl _)).below hb (Nat.le_refl _))
  go_cut [6, 7] from 17 (fun p6 b7 wx => ∃ gW lo hi P n c, p6 = .pointer (some ⟨gW, 0, none⟩) ∧ b7 = .bool ok ∧ BoxedM w2 wx gW lo hi P n c zp zr zc z)
  case first =>
    go_region_held3 (fun u => Below w2.heap.size w2 u ∧ u.cell? ⟨gA0, 0, none⟩ = some (.int .i64 P0) ∧ u.cell? ⟨gA0, 1, none⟩ = some (.int .i64 R0) ∧ u.cell? ⟨gA0, 2, none⟩ = some (.int .i64 C0) ∧ u.cell? ⟨gA0, 3, none⟩ = some (.slice M0 e0 f0) ∧ u.cell? ⟨gA1, 0, none⟩ = some (.int .i64 P1) ∧ u.cell? ⟨gA1, 1, none⟩ = some (.int .i64 R1) ∧ u.cell? ⟨gA1, 2, none⟩ = some (.int .i64 C1) ∧ u.cell? ⟨gA1, 3, none⟩ = some (.slice M1 e1 f1))
      (first | with_reducible exact MKS.out _ Hcd.out | with_reducible exact MKS.out _ Hcu0.out | with_reducible exact MKS.out _ Hcu1.out | with_reducible exact MKS.out _ HcuS.out | with_reducible exact MKS.out _ (Below.alloc Hcd.out Hcd.out.size _) | with_reducible exact MKS.out _ (Below.alloc Hcu0.out Hcu0.out.size _) | with_reducible exact MKS.out _ (Below.alloc Hcu1.out Hcu1.out.size _) | with_reducible exact MKS.out _ (Below.alloc HcuS.out HcuS.out.size _) | with_reducible exact MKS.out _ (Hal.out _) | exact MKS.out _ (below_put4 HcuS.out HGZS.out _ _ _ _) | exact MKS.out _ (Below.alloc HcuS.out HcuS.out.size _) | exact MKS.out _ (below_put4 (Below.alloc HcuS.out HcuS.out.size _) HcuS.out.size _ _ _ _))
      (first
        | (go_at_call 26
           refine calls_here ?_
           intro v2 hu
           have Hv : Hid (Below w2.heap.size w2 v2) := Lib.hid (by rw [hu]; first | exact Hcu1.out | exact Hcu1.out.alloc Hcu1.out.size _)
           have HT0 : Hid (SI v2 Aq0 nq0 y0) := Lib.hid (by rw [hu]; first | exact HS0.out | exact HS0.out.alloc _)
           have HT1 : Hid (SI v2 Aq1 nq1 y1) := Lib.hid (by rw [hu]; first | exact HS1.out | exact HS1.out.alloc _)
           first
             | (have HZ2 : Hid (Blk v2 u1.heap.size 27 #[.int .i64 0, .int .i64 0, .int .i64 0, .slice none 0 0]) := Lib.hid (by rw [hu]; first | exact Blk.new _ _ _))
             | skip
           with_reducible refine (specMeetSpaces_z P0 R0 C0 P1 R1 C1 _ _ _ _ _ _ y0 y1 _ HT0.out HT1.out (by have := HN0.out; have := SM0.out; omega) (by have := HN1.out; have := SM1.out; omega) HC0.out HC1.out zp zr zc z ok HZZ.out).mono ?_
           rintro e uS ⟨PS, nS, cS, rfl, ho, hb⟩
           have HcuS : Hid (Below w2.heap.size w2 uS) := Lib.hid (Hv.out.trans (hb.mono Hv.out.size))
           first
             | (have HY2 := Lib.hid (HZ2.out.below hb HZ2.out.lt); have HGZS : Hid (w2.heap.size ≤ u1.heap.size) := Lib.hid Hcu1.out.size; obtain ⟨rr0, rr1, rr2, rr3⟩ := cells4 HY2.out; obtain ⟨ff0, ff1, ff2, ff3⟩ := frozenM HY2.out; have HBX := Lib.hid (fun h3 => BoxedM.put (w0 := w2) (zp := zp) (zr := zr) (zc := zc) ho HY2.out Hv.out.size (Nat.le_refl _) h3 HGZS.out HcuS.out); have HBX2 := Lib.hid (HBX.out (.inl HZ2.out.lt)))
             | (have HZ2 := Lib.hid (Blk.eq_ hu HY1.out); have HY2 := Lib.hid (HZ2.out.below hb HZ2.out.lt); have HGZS := HGZ; obtain ⟨rr0, rr1, rr2, rr3⟩ := cells4 HY2.out; obtain ⟨ff0, ff1, ff2, ff3⟩ := frozenM HY2.out; have HBX2 := Lib.hid (BoxedM.put (w0 := w2) (zp := zp) (zr := zr) (zc := zc) ho HY2.out Hv.out.size (Nat.le_refl _) (.inl HZ2.out.lt) HGZS.out HcuS.out))
             | (have HBX2 := Lib.hid (BoxedM.new (w0 := w2) (zp := zp) (zr := zr) (zc := zc) ho Hv.out.size (Nat.le_refl _) HcuS.out))
           clear hu hb ho)
        | (go_at_call 16
           refine calls_here ?_
           intro v1 hu
           have Hv : Hid (Below w2.heap.size w2 v1) := Lib.hid (by rw [hu]; first | exact Hcu0.out | exact Hcu0.out.alloc Hcu0.out.size _)
           have HT0 : Hid (SI v1 Aq0 nq0 y0) := Lib.hid (by rw [hu]; first | exact HS0.out | exact HS0.out.alloc _)
           first
             | (have HZ1 : Hid (Blk v1 u0.heap.size 27 #[.int .i64 0, .int .i64 0, .int .i64 0, .slice none 0 0]) := Lib.hid (by rw [hu]; first | exact Blk.new _ _ _))
             | skip
           with_reducible refine (toMatrix_any P1 R1 C1 _ _ _ y1 v1 (HPU1.out _ Hv.out) (by have := SM1.out; omega)).mono ?_
           rintro e u1 ⟨Aq1, nq1, cq1, rfl, ho, hb⟩
           have Hcu1 : Hid (Below w2.heap.size w2 u1) := Lib.hid (Hv.out.trans (hb.mono Hv.out.size))
           have HS0 := Lib.hid (HT0.out.below hb (Nat.le_refl _))
           have HS1 := Lib.hid ho.si
           have HC1 := Lib.hid ho.cap
           have HN1 : Hid (nq1 = e1) := Lib.hid (by have h1 := ho.len; have h2 := YL1.out; omega)
           first
             | (have HY1 := Lib.hid (HZ1.out.below hb HZ1.out.lt))
             | (have HZ1 := Lib.hid (Blk.eq_ hu HY0.out); have HY1 := Lib.hid (HZ1.out.below hb HZ1.out.lt))
             | skip
           first | (have HGZ : Hid (w2.heap.size ≤ u0.heap.size) := (fun (_ : Hid (Blk v1 u0.heap.size 27 #[.int .i64 0, .int .i64 0, .int .i64 0, .slice none 0 0])) => Lib.hid Hcu0.out.size) HZ1) | skip
           clear hu hb ho)
        | (go_at_call 16
           refine calls_here ?_
           intro v0 hu
           have Hv : Hid (Below w2.heap.size w2 v0) := Lib.hid (by rw [hu]; first | exact Hcd.out | exact Hcd.out.alloc Hcd.out.size _ | exact Hal.out _)
           first
             | (have HZ0 : Hid (Blk v0 w2.heap.size 27 #[.int .i64 0, .int .i64 0, .int .i64 0, .slice none 0 0]) := Lib.hid (by rw [hu]; first | exact Blk.new _ _ _ | exact (Blk.new w2 _ _).drewN 1))
             | skip
           with_reducible refine (toMatrix_any P0 R0 C0 _ _ _ y0 v0 (HPU0.out _ Hv.out) (by have := SM0.out; omega)).mono ?_
           rintro e u0 ⟨Aq0, nq0, cq0, rfl, ho, hb⟩
           have Hcu0 : Hid (Below w2.heap.size w2 u0) := Lib.hid (Hv.out.trans (hb.mono Hv.out.size))
           have HS0 := Lib.hid ho.si
           have HC0 := Lib.hid ho.cap
           have HN0 : Hid (nq0 = e0) := Lib.hid (by have h1 := ho.len; have h2 := YL0.out; omega)
           first
             | (have HY0 := Lib.hid (HZ0.out.below hb HZ0.out.lt))
             | skip
           first | (have HGZ : Hid (w2.heap.size ≤ w2.heap.size) := (fun (_ : Hid (Blk v0 w2.heap.size 27 #[.int .i64 0, .int .i64 0, .int .i64 0, .slice none 0 0])) => Lib.hid Hcd.out.size) HZ0) | skip
           clear hu hb ho))
    all_goals
      (go_wp2
       go_meet
       case rel => exact ⟨_, _, _, _, _, _, rfl, rfl, HBX2.out⟩)
  case rest =>
    obtain ⟨w3, hwc⟩ : ∃ v, v = wc := ⟨_, rfl⟩
    subst hwc
    clear MKS Hcd Hal HPU0 HPU1
    obtain ⟨gW, loW, hiW, PW, nW, cW, rfl, rfl, ⟨ho, hkx, hlo, hhi, hap, hgz, hb⟩⟩ := hcut
    have YA0 := Lib.hid KA0_2.out.lt
    have YA1 := Lib.hid KA1_2.out.lt
    have HQO := Lib.hid ho
    have HQL := Lib.hid (And.intro hlo hhi)
    have HQN := Lib.hid ho.len
    have HQG := Lib.hid (Nat.le_trans HB2.out.size hlo)
    have HQK := Lib.hid hkx
    have HQA := Lib.hid hap
    have HQZ := Lib.hid hgz
    clear ho hlo hhi hkx hap hgz
    have KA0_3 := Lib.hid (KA0_2.out.below hb KA0_2.out.lt)
    have KA1_3 := Lib.hid (KA1_2.out.below hb KA1_2.out.lt)
    have hsz := hb.size
    have HB3 := Lib.hid (HB2.out.trans (hb.mono HB2.out.size))
    clear HB2 hb hsz
    clear KA0_2 KA1_2
    have OW_0 := HQO
    have LW_0 : Hid (hiW ≤ w3.heap.size) := Lib.hid HQL.out.2
    have NW := HQN
    have GW := HQG
    have DKA0_W : Hid (gA0 < loW ∨ hiW ≤ gA0) := Lib.hid (.inl (Nat.lt_of_lt_of_le YA0.out HQL.out.1))
    have DKA1_W : Hid (gA1 < loW ∨ hiW ≤ gA1) := Lib.hid (.inl (Nat.lt_of_lt_of_le YA1.out HQL.out.1))
    have KW_0 := HQK
    have DKW_W : Hid (gW < loW ∨ hiW ≤ gW) := HQA
    clear HQO HQL HQN HQG HQK HQA HQZ YA0 YA1
    obtain ⟨cA00, cA01, cA02, cA03⟩ := cells4 KA0_3.out
    obtain ⟨cA10, cA11, cA12, cA13⟩ := cells4 KA1_3.out
    obtain ⟨cW0, cW1, cW2, cW3⟩ := cells4 KW_0.out
    go_wp2_with fail
    refine (toMatrix_any P0 R0 C0 _ _ _ y0 _ (hp0.below HB3.out (Nat.le_refl _)) (by have := SM0.out; omega)).mono ?_
    rintro e w4 ⟨Pp0X, np0X, cp0X, rfl, ho, hb⟩
    clear cA00 cA01 cA02 cA03 cA10 cA11 cA12 cA13 cW0 cW1 cW2 cW3
    have KA0_4 := Lib.hid (KA0_3.out.below hb KA0_3.out.lt)
    have KA1_4 := Lib.hid (KA1_3.out.below hb KA1_3.out.lt)
    have KW_1 := Lib.hid (KW_0.out.below hb KW_0.out.lt)
    have DKA0_p0X : Hid (gA0 < w3.heap.size ∨ w4.heap.size ≤ gA0) := Lib.hid (.inl KA0_3.out.lt)
    have DKA1_p0X : Hid (gA1 < w3.heap.size ∨ w4.heap.size ≤ gA1) := Lib.hid (.inl KA1_3.out.lt)
    have DKW_p0X : Hid (gW < w3.heap.size ∨ w4.heap.size ≤ gW) := Lib.hid (.inl KW_0.out.lt)
    have hsz := hb.size
    have HB4 := Lib.hid (HB3.out.trans (hb.mono HB3.out.size))
    have OW_1 := Lib.hid (OW_0.out.below hb LW_0.out)
    have LW_1 := Lib.hid (Nat.le_trans LW_0.out hsz)
    have Op0X_0 := Lib.hid ho
    have Lp0X_0 := Lib.hid (Nat.le_refl w4.heap.size)
    have Np0X := Lib.hid ho.len
    have Gp0X := Lib.hid HB3.out.size
    have DW_p0X : Hid (_ ≤ w3.heap.size) := LW_0
    clear OW_0 LW_0 HB3 hb hsz ho
    clear KA0_3 KA1_3 KW_0
    obtain ⟨cA00, cA01, cA02, cA03⟩ := cells4 KA0_4.out
    obtain ⟨cA10, cA11, cA12, cA13⟩ := cells4 KA1_4.out
    obtain ⟨cW0, cW1, cW2, cW3⟩ := cells4 KW_1.out
    go_upto_region 10 with fail
    clear cA00 cA01 cA02 cA03 cA10 cA11 cA12 cA13 cW0 cW1 cW2 cW3
    obtain ⟨w5, hwx⟩ : ∃ w5, w5 = w4.alloc (.cells #[.int .i64 P0, .int .i64 R0, .int .i64 C0, .slice Pp0X np0X cp0X] 27) := ⟨_, rfl⟩
    obtain ⟨gX0, hgx⟩ : ∃ g, g = w4.heap.size := ⟨_, rfl⟩
    rw [← hwx, ← hgx]
    have hb : Below w4.heap.size w4 w5 := by rw [hwx]; exact Below.alloc_self _ _
    have KX0_0 : Hid (Blk w5 gX0 27 #[.int .i64 P0, .int .i64 R0, .int .i64 C0, .slice Pp0X np0X cp0X]) := Lib.hid (by rw [hwx, hgx]; exact Blk.new _ _ _)
    have DKX0_W : Hid (gX0 < loW ∨ hiW ≤ gX0) := Lib.hid (.inr (by rw [hgx]; exact LW_1.out))
    have DKX0_p0X : Hid (gX0 < w3.heap.size ∨ w4.heap.size ≤ gX0) := Lib.hid (.inr (by rw [hgx]; exact Lp0X_0.out))
    clear hwx hgx
    have KA0_5 := Lib.hid (KA0_4.out.below hb KA0_4.out.lt)
    have KA1_5 := Lib.hid (KA1_4.out.below hb KA1_4.out.lt)
    have KW_2 := Lib.hid (KW_1.out.below hb KW_1.out.lt)
    have hsz := hb.size
    have HB5 := Lib.hid (HB4.out.trans (hb.mono HB4.out.size))
    have OW_2 := Lib.hid (OW_1.out.below hb LW_1.out)
    have LW_2 := Lib.hid (Nat.le_trans LW_1.out hsz)
    have Op0X_1 := Lib.hid (Op0X_0.out.below hb Lp0X_0.out)
    have Lp0X_1 := Lib.hid (Nat.le_trans Lp0X_0.out hsz)
    clear OW_1 LW_1 Op0X_0 Lp0X_0 HB4 hb hsz
    clear KA0_4 KA1_4 KW_1
    obtain ⟨cA00, cA01, cA02, cA03⟩ := cells4 KA0_5.out
    obtain ⟨cA10, cA11, cA12, cA13⟩ := cells4 KA1_5.out
    obtain ⟨cW0, cW1, cW2, cW3⟩ := cells4 KW_2.out
    obtain ⟨cX00, cX01, cX02, cX03⟩ := cells4 KX0_0.out
    go_wp2_with fail
    refine (toMatrix_any P1 R1 C1 _ _ _ y1 _ (hp1.below HB5.out (Nat.le_refl _)) (by have := SM1.out; omega)).mono ?_
    rintro e w6 ⟨Pp1X, np1X, cp1X, rfl, ho, hb⟩
    clear cA00 cA01 cA02 cA03 cA10 cA11 cA12 cA13 cW0 cW1 cW2 cW3 cX00 cX01 cX02 cX03
    have KA0_6 := Lib.hid (KA0_5.out.below hb KA0_5.out.lt)
    have KA1_6 := Lib.hid (KA1_5.out.below hb KA1_5.out.lt)
    have KW_3 := Lib.hid (KW_2.out.below hb KW_2.out.lt)
    have KX0_1 := Lib.hid (KX0_0.out.below hb KX0_0.out.lt)
    have DKA0_p1X : Hid (gA0 < w5.heap.size ∨ w6.heap.size ≤ gA0) := Lib.hid (.inl KA0_5.out.lt)
    have DKA1_p1X : Hid (gA1 < w5.heap.size ∨ w6.heap.size ≤ gA1) := Lib.hid (.inl KA1_5.out.lt)
    have DKW_p1X : Hid (gW < w5.heap.size ∨ w6.heap.size ≤ gW) := Lib.hid (.inl KW_2.out.lt)
    have DKX0_p1X : Hid (gX0 < w5.heap.size ∨ w6.heap.size ≤ gX0) := Lib.hid (.inl KX0_0.out.lt)
    have hsz := hb.size
    have HB6 := Lib.hid (HB5.out.trans (hb.mono HB5.out.size))
    have OW_3 := Lib.hid (OW_2.out.below hb LW_2.out)
    have LW_3 := Lib.hid (Nat.le_trans LW_2.out hsz)
    have Op0X_2 := Lib.hid (Op0X_1.out.below hb Lp0X_1.out)
    have Lp0X_2 := Lib.hid (Nat.le_trans Lp0X_1.out hsz)
    have Op1X_0 := Lib.hid ho
    have Lp1X_0 := Lib.hid (Nat.le_refl w6.heap.size)
    have Np1X := Lib.hid ho.len
    have Gp1X := Lib.hid HB5.out.size
    have DW_p1X : Hid (_ ≤ w5.heap.size) := LW_2
    have Dp0X_p1X : Hid (_ ≤ w5.heap.size) := Lp0X_1
    clear OW_2 LW_2 Op0X_1 Lp0X_1 HB5 hb hsz ho
    clear KA0_5 KA1_5 KW_2 KX0_0
    obtain ⟨cA00, cA01, cA02, cA03⟩ := cells4 KA0_6.out
    obtain ⟨cA10, cA11, cA12, cA13⟩ := cells4 KA1_6.out
    obtain ⟨cW0, cW1, cW2, cW3⟩ := cells4 KW_3.out
    obtain ⟨cX00, cX01, cX02, cX03⟩ := cells4 KX0_1.out
    go_upto_region 11 with fail
    clear cA00 cA01 cA02 cA03 cA10 cA11 cA12 cA13 cW0 cW1 cW2 cW3 cX00 cX01 cX02 cX03
    obtain ⟨w7, hwx⟩ : ∃ w7, w7 = w6.alloc (.cells #[.int .i64 P1, .int .i64 R1, .int .i64 C1, .slice Pp1X np1X cp1X] 27) := ⟨_, rfl⟩
    obtain ⟨gX1, hgx⟩ : ∃ g, g = w6.heap.size := ⟨_, rfl⟩
    rw [← hwx, ← hgx]
    have hb : Below w6.heap.size w6 w7 := by rw [hwx]; exact Below.alloc_self _ _
    have KX1_0 : Hid (Blk w7 gX1 27 #[.int .i64 P1, .int .i64 R1, .int .i64 C1, .slice Pp1X np1X cp1X]) := Lib.hid (by rw [hwx, hgx]; exact Blk.new _ _ _)
    have DKX1_W : Hid (gX1 < loW ∨ hiW ≤ gX1) := Lib.hid (.inr (by rw [hgx]; exact LW_3.out))
    have DKX1_p0X : Hid (gX1 < w3.heap.size ∨ w4.heap.size ≤ gX1) := Lib.hid (.inr (by rw [hgx]; exact Lp0X_2.out))
    have DKX1_p1X : Hid (gX1 < w5.heap.size ∨ w6.heap.size ≤ gX1) := Lib.hid (.inr (by rw [hgx]; exact Lp1X_0.out))
    clear hwx hgx
    have KA0_7 := Lib.hid (KA0_6.out.below hb KA0_6.out.lt)
    have KA1_7 := Lib.hid (KA1_6.out.below hb KA1_6.out.lt)
    have KW_4 := Lib.hid (KW_3.out.below hb KW_3.out.lt)
    have KX0_2 := Lib.hid (KX0_1.out.below hb KX0_1.out.lt)
    have hsz := hb.size
    have HB7 := Lib.hid (HB6.out.trans (hb.mono HB6.out.size))
    have OW_4 := Lib.hid (OW_3.out.below hb LW_3.out)
    have LW_4 := Lib.hid (Nat.le_trans LW_3.out hsz)
    have Op0X_3 := Lib.hid (Op0X_2.out.below hb Lp0X_2.out)
    have Lp0X_3 := Lib.hid (Nat.le_trans Lp0X_2.out hsz)
    have Op1X_1 := Lib.hid (Op1X_0.out.below hb Lp1X_0.out)
    have Lp1X_1 := Lib.hid (Nat.le_trans Lp1X_0.out hsz)
    clear OW_3 LW_3 Op0X_2 Lp0X_2 Op1X_0 Lp1X_0 HB6 hb hsz
    clear KA0_6 KA1_6 KW_3 KX0_1
    obtain ⟨cA00, cA01, cA02, cA03⟩ := cells4 KA0_7.out
    obtain ⟨cA10, cA11, cA12, cA13⟩ := cells4 KA1_7.out
    obtain ⟨cW0, cW1, cW2, cW3⟩ := cells4 KW_4.out
    obtain ⟨cX00, cX01, cX02, cX03⟩ := cells4 KX0_2.out
    obtain ⟨cX10, cX11, cX12, cX13⟩ := cells4 KX1_0.out
    go_wp2_with fail
    refine (implMeetSpaces_z P0 R0 C0 P1 R1 C1 _ _ _ _ _ _ y0 y1 _ Op0X_3.out.si Op1X_1.out.si (by have := Np0X.out; have := YB0.out; omega) (by have := Np1X.out; have := YB1.out; omega) Op0X_3.out.cap Op1X_1.out.cap zp zr zc z ok HZZ.out).mono ?_
    rintro e w8 ⟨PV, nV, cV, rfl, ho, hb⟩
    clear cA00 cA01 cA02 cA03 cA10 cA11 cA12 cA13 cW0 cW1 cW2 cW3 cX00 cX01 cX02 cX03 cX10 cX11 cX12 cX13
    have KA0_8 := Lib.hid (KA0_7.out.below hb KA0_7.out.lt)
    have KA1_8 := Lib.hid (KA1_7.out.below hb KA1_7.out.lt)
    have KW_5 := Lib.hid (KW_4.out.below hb KW_4.out.lt)
    have KX0_3 := Lib.hid (KX0_2.out.below hb KX0_2.out.lt)
    have KX1_1 := Lib.hid (KX1_0.out.below hb KX1_0.out.lt)
    have DKA0_V : Hid (gA0 < w7.heap.size ∨ w8.heap.size ≤ gA0) := Lib.hid (.inl KA0_7.out.lt)
    have DKA1_V : Hid (gA1 < w7.heap.size ∨ w8.heap.size ≤ gA1) := Lib.hid (.inl KA1_7.out.lt)
    have DKW_V : Hid (gW < w7.heap.size ∨ w8.heap.size ≤ gW) := Lib.hid (.inl KW_4.out.lt)
    have DKX0_V : Hid (gX0 < w7.heap.size ∨ w8.heap.size ≤ gX0) := Lib.hid (.inl KX0_2.out.lt)
    have DKX1_V : Hid (gX1 < w7.heap.size ∨ w8.heap.size ≤ gX1) := Lib.hid (.inl KX1_0.out.lt)
    have hsz := hb.size
    have HB8 := Lib.hid (HB7.out.trans (hb.mono HB7.out.size))
    have OW_5 := Lib.hid (OW_4.out.below hb LW_4.out)
    have LW_5 := Lib.hid (Nat.le_trans LW_4.out hsz)
    have Op0X_4 := Lib.hid (Op0X_3.out.below hb Lp0X_3.out)
    have Lp0X_4 := Lib.hid (Nat.le_trans Lp0X_3.out hsz)
    have Op1X_2 := Lib.hid (Op1X_1.out.below hb Lp1X_1.out)
    have Lp1X_2 := Lib.hid (Nat.le_trans Lp1X_1.out hsz)
    have OV_0 := Lib.hid ho
    have LV_0 := Lib.hid (Nat.le_refl w8.heap.size)
    have NV := Lib.hid ho.len
    have GV := Lib.hid HB7.out.size
    have DW_V : Hid (_ ≤ w7.heap.size) := LW_4
    have Dp0X_V : Hid (_ ≤ w7.heap.size) := Lp0X_3
    have Dp1X_V : Hid (_ ≤ w7.heap.size) := Lp1X_1
    clear OW_4 LW_4 Op0X_3 Lp0X_3 Op1X_1 Lp1X_1 HB7 hb hsz ho
    clear KA0_7 KA1_7 KW_4 KX0_2 KX1_0
    obtain ⟨cA00, cA01, cA02, cA03⟩ := cells4 KA0_8.out
    obtain ⟨cA10, cA11, cA12, cA13⟩ := cells4 KA1_8.out
    obtain ⟨cW0, cW1, cW2, cW3⟩ := cells4 KW_5.out
    obtain ⟨cX00, cX01, cX02, cX03⟩ := cells4 KX0_3.out
    obtain ⟨cX10, cX11, cX12, cX13⟩ := cells4 KX1_1.out
    go_upto_region 12 with fail
    clear cA00 cA01 cA02 cA03 cA10 cA11 cA12 cA13 cW0 cW1 cW2 cW3 cX00 cX01 cX02 cX03 cX10 cX11 cX12 cX13
    obtain ⟨w9, hwx⟩ : ∃ w9, w9 = w8.alloc (.cells #[.int .i64 zp, .int .i64 zr, .int .i64 zc, .slice PV nV cV] 27) := ⟨_, rfl⟩
    obtain ⟨gV, hgx⟩ : ∃ g, g = w8.heap.size := ⟨_, rfl⟩
    rw [← hwx, ← hgx]
    have hb : Below w8.heap.size w8 w9 := by rw [hwx]; exact Below.alloc_self _ _
    have KV_0 : Hid (Blk w9 gV 27 #[.int .i64 zp, .int .i64 zr, .int .i64 zc, .slice PV nV cV]) := Lib.hid (by rw [hwx, hgx]; exact Blk.new _ _ _)
    have DKV_W : Hid (gV < loW ∨ hiW ≤ gV) := Lib.hid (.inr (by rw [hgx]; exact LW_5.out))
    have DKV_p0X : Hid (gV < w3.heap.size ∨ w4.heap.size ≤ gV) := Lib.hid (.inr (by rw [hgx]; exact Lp0X_4.out))
    have DKV_p1X : Hid (gV < w5.heap.size ∨ w6.heap.size ≤ gV) := Lib.hid (.inr (by rw [hgx]; exact Lp1X_2.out))
    have DKV_V : Hid (gV < w7.heap.size ∨ w8.heap.size ≤ gV) := Lib.hid (.inr (by rw [hgx]; exact LV_0.out))
    clear hwx hgx
    have KA0_9 := Lib.hid (KA0_8.out.below hb KA0_8.out.lt)
    have KA1_9 := Lib.hid (KA1_8.out.below hb KA1_8.out.lt)
    have KW_6 := Lib.hid (KW_5.out.below hb KW_5.out.lt)
    have KX0_4 := Lib.hid (KX0_3.out.below hb KX0_3.out.lt)
    have KX1_2 := Lib.hid (KX1_1.out.below hb KX1_1.out.lt)
    have hsz := hb.size
    have HB9 := Lib.hid (HB8.out.trans (hb.mono HB8.out.size))
    have OW_6 := Lib.hid (OW_5.out.below hb LW_5.out)
    have LW_6 := Lib.hid (Nat.le_trans LW_5.out hsz)
    have Op0X_5 := Lib.hid (Op0X_4.out.below hb Lp0X_4.out)
    have Lp0X_5 := Lib.hid (Nat.le_trans Lp0X_4.out hsz)
    have Op1X_3 := Lib.hid (Op1X_2.out.below hb Lp1X_2.out)
    have Lp1X_3 := Lib.hid (Nat.le_trans Lp1X_2.out hsz)
    have OV_1 := Lib.hid (OV_0.out.below hb LV_0.out)
    have LV_1 := Lib.hid (Nat.le_trans LV_0.out hsz)
    clear OW_5 LW_5 Op0X_4 Lp0X_4 Op1X_2 Lp1X_2 OV_0 LV_0 HB8 hb hsz
    clear KA0_8 KA1_8 KW_5 KX0_3 KX1_1
    obtain ⟨cA00, cA01, cA02, cA03⟩ := cells4 KA0_9.out
    obtain ⟨cA10, cA11, cA12, cA13⟩ := cells4 KA1_9.out
    obtain ⟨cW0, cW1, cW2, cW3⟩ := cells4 KW_6.out
    obtain ⟨cX00, cX01, cX02, cX03⟩ := cells4 KX0_4.out
    obtain ⟨cX10, cX11, cX12, cX13⟩ := cells4 KX1_2.out
    obtain ⟨cV0, cV1, cV2, cV3⟩ := cells4 KV_0.out
    go_wp2_with fail
    refine (eqMatrix_yes zp zr zc _ _ _ _ _ _ z _ OV_1.out.si OW_6.out.si (by have := MBC.out; omega)).mono ?_
    rintro e w10 ⟨rfl, hb⟩
    clear cA00 cA01 cA02 cA03 cA10 cA11 cA12 cA13 cW0 cW1 cW2 cW3 cX00 cX01 cX02 cX03 cX10 cX11 cX12 cX13 cV0 cV1 cV2 cV3
    have KA0_10 := Lib.hid (KA0_9.out.below hb KA0_9.out.lt)
    have KA1_10 := Lib.hid (KA1_9.out.below hb KA1_9.out.lt)
    have KW_7 := Lib.hid (KW_6.out.below hb KW_6.out.lt)
    have KX0_5 := Lib.hid (KX0_4.out.below hb KX0_4.out.lt)
    have KX1_3 := Lib.hid (KX1_2.out.below hb KX1_2.out.lt)
    have KV_1 := Lib.hid (KV_0.out.below hb KV_0.out.lt)
    have hsz := hb.size
    have HB10 := Lib.hid (HB9.out.trans (hb.mono HB9.out.size))
    have OW_7 := Lib.hid (OW_6.out.below hb LW_6.out)
    have LW_7 := Lib.hid (Nat.le_trans LW_6.out hsz)
    have Op0X_6 := Lib.hid (Op0X_5.out.below hb Lp0X_5.out)
    have Lp0X_6 := Lib.hid (Nat.le_trans Lp0X_5.out hsz)
    have Op1X_4 := Lib.hid (Op1X_3.out.below hb Lp1X_3.out)
    have Lp1X_4 := Lib.hid (Nat.le_trans Lp1X_3.out hsz)
    have OV_2 := Lib.hid (OV_1.out.below hb LV_1.out)
    have LV_2 := Lib.hid (Nat.le_trans LV_1.out hsz)
    clear OW_6 LW_6 Op0X_5 Lp0X_5 Op1X_3 Lp1X_3 OV_1 LV_1 HB9 hb hsz
    clear KA0_9 KA1_9 KW_6 KX0_4 KX1_2 KV_0
    obtain ⟨cA00, cA01, cA02, cA03⟩ := cells4 KA0_10.out
    obtain ⟨cA10, cA11, cA12, cA13⟩ := cells4 KA1_10.out
    obtain ⟨cW0, cW1, cW2, cW3⟩ := cells4 KW_7.out
    obtain ⟨cX00, cX01, cX02, cX03⟩ := cells4 KX0_5.out
    obtain ⟨cX10, cX11, cX12, cX13⟩ := cells4 KX1_3.out
    obtain ⟨cV0, cV1, cV2, cV3⟩ := cells4 KV_1.out
    go_upto_region 14 with fail
    clear cA00 cA01 cA02 cA03 cA10 cA11 cA12 cA13 cW0 cW1 cW2 cW3 cX00 cX01 cX02 cX03 cX10 cX11 cX12 cX13 cV0 cV1 cV2 cV3
    have hq0 : w10.cell? ⟨gX0, 0, none⟩ = some (.int .i64 P0) ∧ w10.cell? ⟨gX0, 1, none⟩ = some (.int .i64 R0) ∧ w10.cell? ⟨gX0, 2, none⟩ = some (.int .i64 C0) ∧ w10.cell? ⟨gX0, 3, none⟩ = some (.slice Pp0X np0X cp0X) ∧ w10.cell? ⟨gA0, 0, none⟩ = some (.int .i64 P0) ∧ w10.cell? ⟨gA0, 1, none⟩ = some (.int .i64 R0) ∧ w10.cell? ⟨gA0, 2, none⟩ = some (.int .i64 C0) ∧ w10.cell? ⟨gA0, 3, none⟩ = some (.slice M0 e0 f0) := by obtain ⟨a0, a1, a2, a3⟩ := cells4 KX0_5.out; obtain ⟨b0, b1, b2, b3⟩ := cells4 KA0_10.out; exact ⟨a0, a1, a2, a3, b0, b1, b2, b3⟩
    have hqd : w10.drew.cell? ⟨gX0, 0, none⟩ = some (.int .i64 P0) ∧ w10.drew.cell? ⟨gX0, 1, none⟩ = some (.int .i64 R0) ∧ w10.drew.cell? ⟨gX0, 2, none⟩ = some (.int .i64 C0) ∧ w10.drew.cell? ⟨gX0, 3, none⟩ = some (.slice Pp0X np0X cp0X) ∧ w10.drew.cell? ⟨gA0, 0, none⟩ = some (.int .i64 P0) ∧ w10.drew.cell? ⟨gA0, 1, none⟩ = some (.int .i64 R0) ∧ w10.drew.cell? ⟨gA0, 2, none⟩ = some (.int .i64 C0) ∧ w10.drew.cell? ⟨gA0, 3, none⟩ = some (.slice M0 e0 f0) := hq0
    have HQ0 := Lib.hid hq0
    have HQD := Lib.hid hqd
    clear hq0 hqd
    have HPD : Hid (SI w10.drew M0 e0 y0) := Lib.hid (hp0.below HB10.out.drew (Nat.le_refl _))
    go_region_held3 (fun w' => w'.cell? ⟨gX0, 0, none⟩ = some (.int .i64 P0) ∧ w'.cell? ⟨gX0, 1, none⟩ = some (.int .i64 R0) ∧ w'.cell? ⟨gX0, 2, none⟩ = some (.int .i64 C0) ∧ w'.cell? ⟨gX0, 3, none⟩ = some (.slice Pp0X np0X cp0X) ∧ w'.cell? ⟨gA0, 0, none⟩ = some (.int .i64 P0) ∧ w'.cell? ⟨gA0, 1, none⟩ = some (.int .i64 R0) ∧ w'.cell? ⟨gA0, 2, none⟩ = some (.int .i64 C0) ∧ w'.cell? ⟨gA0, 3, none⟩ = some (.slice M0 e0 f0))
      (first | with_reducible exact HQD.out | with_reducible exact HQ0.out | with_reducible exact KK4 | with_reducible exact KK5)
      (first
        | (go_at_call 16
           with_reducible refine (toMatrix_any P0 R0 C0 _ _ _ y0 _ HPD.out (by have := SM0.out; omega)).mono ?_
           rintro e w11 ⟨Pyp, nyp, cyp, rfl, ho0, hb0⟩
           have hb : Below w10.heap.size w10 w11 := ((Below.refl _ _).drew).trans hb0
           have ho : Own w11 w10.heap.size w11.heap.size Pyp nyp cyp y0 := ho0
           clear ho0 hb0
           have KA0_11 := Lib.hid (KA0_10.out.below hb KA0_10.out.lt)
           have KA1_11 := Lib.hid (KA1_10.out.below hb KA1_10.out.lt)
           have KW_8 := Lib.hid (KW_7.out.below hb KW_7.out.lt)
           have KX0_6 := Lib.hid (KX0_5.out.below hb KX0_5.out.lt)
           have KX1_4 := Lib.hid (KX1_3.out.below hb KX1_3.out.lt)
           have KV_2 := Lib.hid (KV_1.out.below hb KV_1.out.lt)
           have DKA0_yp : Hid (gA0 < w10.heap.size ∨ w11.heap.size ≤ gA0) := Lib.hid (.inl KA0_10.out.lt)
           have DKA1_yp : Hid (gA1 < w10.heap.size ∨ w11.heap.size ≤ gA1) := Lib.hid (.inl KA1_10.out.lt)
           have DKW_yp : Hid (gW < w10.heap.size ∨ w11.heap.size ≤ gW) := Lib.hid (.inl KW_7.out.lt)
           have DKX0_yp : Hid (gX0 < w10.heap.size ∨ w11.heap.size ≤ gX0) := Lib.hid (.inl KX0_5.out.lt)
           have DKX1_yp : Hid (gX1 < w10.heap.size ∨ w11.heap.size ≤ gX1) := Lib.hid (.inl KX1_3.out.lt)
           have DKV_yp : Hid (gV < w10.heap.size ∨ w11.heap.size ≤ gV) := Lib.hid (.inl KV_1.out.lt)
           have hsz := hb.size
           have HB11 := Lib.hid (HB10.out.trans (hb.mono HB10.out.size))
           have OW_8 := Lib.hid (OW_7.out.below hb LW_7.out)
           have LW_8 := Lib.hid (Nat.le_trans LW_7.out hsz)
           have Op0X_7 := Lib.hid (Op0X_6.out.below hb Lp0X_6.out)
           have Lp0X_7 := Lib.hid (Nat.le_trans Lp0X_6.out hsz)
           have Op1X_5 := Lib.hid (Op1X_4.out.below hb Lp1X_4.out)
           have Lp1X_5 := Lib.hid (Nat.le_trans Lp1X_4.out hsz)
           have OV_3 := Lib.hid (OV_2.out.below hb LV_2.out)
           have LV_3 := Lib.hid (Nat.le_trans LV_2.out hsz)
           have Oyp_0 := Lib.hid ho
           have Lyp_0 := Lib.hid (Nat.le_refl w11.heap.size)
           have Nyp := Lib.hid ho.len
           have Gyp := Lib.hid HB10.out.size
           have DW_yp : Hid (_ ≤ w10.heap.size) := LW_7
           have Dp0X_yp : Hid (_ ≤ w10.heap.size) := Lp0X_6
           have Dp1X_yp : Hid (_ ≤ w10.heap.size) := Lp1X_4
           have DV_yp : Hid (_ ≤ w10.heap.size) := LV_2
           clear OW_7 LW_7 Op0X_6 Lp0X_6 Op1X_4 Lp1X_4 OV_2 LV_2 HB10 hb hsz ho
           clear KA0_10 KA1_10 KW_7 KX0_5 KX1_3 KV_1
           have KK4 : w11.cell? ⟨gX0, 0, none⟩ = some (.int .i64 P0) ∧ w11.cell? ⟨gX0, 1, none⟩ = some (.int .i64 R0) ∧ w11.cell? ⟨gX0, 2, none⟩ = some (.int .i64 C0) ∧ w11.cell? ⟨gX0, 3, none⟩ = some (.slice Pp0X np0X cp0X) ∧ w11.cell? ⟨gA0, 0, none⟩ = some (.int .i64 P0) ∧ w11.cell? ⟨gA0, 1, none⟩ = some (.int .i64 R0) ∧ w11.cell? ⟨gA0, 2, none⟩ = some (.int .i64 C0) ∧ w11.cell? ⟨gA0, 3, none⟩ = some (.slice M0 e0 f0) := by obtain ⟨a0, a1, a2, a3⟩ := cells4 KX0_6.out; obtain ⟨b0, b1, b2, b3⟩ := cells4 KA0_11.out; exact ⟨a0, a1, a2, a3, b0, b1, b2, b3⟩
           have QX := Lib.hid Op0X_7.out.si
           have QY := Lib.hid Oyp_0.out.si)
        | (go_at_call 19
           with_reducible refine (eqMatrix_yes P0 R0 C0 _ _ _ _ _ _ y0 _ QX.out QY.out YB0.out).mono ?_
           rintro e w12 ⟨rfl, hb⟩
           have KA0_12 := Lib.hid (KA0_11.out.below hb KA0_11.out.lt)
           have KA1_12 := Lib.hid (KA1_11.out.below hb KA1_11.out.lt)
           have KW_9 := Lib.hid (KW_8.out.below hb KW_8.out.lt)
           have KX0_7 := Lib.hid (KX0_6.out.below hb KX0_6.out.lt)
           have KX1_5 := Lib.hid (KX1_4.out.below hb KX1_4.out.lt)
           have KV_3 := Lib.hid (KV_2.out.below hb KV_2.out.lt)
           have hsz := hb.size
           have HB12 := Lib.hid (HB11.out.trans (hb.mono HB11.out.size))
           have OW_9 := Lib.hid (OW_8.out.below hb LW_8.out)
           have LW_9 := Lib.hid (Nat.le_trans LW_8.out hsz)
           have Op0X_8 := Lib.hid (Op0X_7.out.below hb Lp0X_7.out)
           have Lp0X_8 := Lib.hid (Nat.le_trans Lp0X_7.out hsz)
           have Op1X_6 := Lib.hid (Op1X_5.out.below hb Lp1X_5.out)
           have Lp1X_6 := Lib.hid (Nat.le_trans Lp1X_5.out hsz)
           have OV_4 := Lib.hid (OV_3.out.below hb LV_3.out)
           have LV_4 := Lib.hid (Nat.le_trans LV_3.out hsz)
           have Oyp_1 := Lib.hid (Oyp_0.out.below hb Lyp_0.out)
           have Lyp_1 := Lib.hid (Nat.le_trans Lyp_0.out hsz)
           clear OW_8 LW_8 Op0X_7 Lp0X_7 Op1X_5 Lp1X_5 OV_3 LV_3 Oyp_0 Lyp_0 HB11 hb hsz
           clear KA0_11 KA1_11 KW_8 KX0_6 KX1_4 KV_2
           have KK5 : w12.cell? ⟨gX0, 0, none⟩ = some (.int .i64 P0) ∧ w12.cell? ⟨gX0, 1, none⟩ = some (.int .i64 R0) ∧ w12.cell? ⟨gX0, 2, none⟩ = some (.int .i64 C0) ∧ w12.cell? ⟨gX0, 3, none⟩ = some (.slice Pp0X np0X cp0X) ∧ w12.cell? ⟨gA0, 0, none⟩ = some (.int .i64 P0) ∧ w12.cell? ⟨gA0, 1, none⟩ = some (.int .i64 R0) ∧ w12.cell? ⟨gA0, 2, none⟩ = some (.int .i64 C0) ∧ w12.cell? ⟨gA0, 3, none⟩ = some (.slice M0 e0 f0) := by obtain ⟨a0, a1, a2, a3⟩ := cells4 KX0_7.out; obtain ⟨b0, b1, b2, b3⟩ := cells4 KA0_12.out; exact ⟨a0, a1, a2, a3, b0, b1, b2, b3⟩))
    clear HQ0 HQD HPD KK4 KK5 QX QY
    obtain ⟨cA00, cA01, cA02, cA03⟩ := cells4 KA0_12.out
    obtain ⟨cA10, cA11, cA12, cA13⟩ := cells4 KA1_12.out
    obtain ⟨cW0, cW1, cW2, cW3⟩ := cells4 KW_9.out
    obtain ⟨cX00, cX01, cX02, cX03⟩ := cells4 KX0_7.out
    obtain ⟨cX10, cX11, cX12, cX13⟩ := cells4 KX1_5.out
    obtain ⟨cV0, cV1, cV2, cV3⟩ := cells4 KV_3.out
    go_upto_region 16 with fail
    clear cA00 cA01 cA02 cA03 cA10 cA11 cA12 cA13 cW0 cW1 cW2 cW3 cX00 cX01 cX02 cX03 cX10 cX11 cX12 cX13 cV0 cV1 cV2 cV3
    have hq0 : w12.cell? ⟨gX1, 0, none⟩ = some (.int .i64 P1) ∧ w12.cell? ⟨gX1, 1, none⟩ = some (.int .i64 R1) ∧ w12.cell? ⟨gX1, 2, none⟩ = some (.int .i64 C1) ∧ w12.cell? ⟨gX1, 3, none⟩ = some (.slice Pp1X np1X cp1X) ∧ w12.cell? ⟨gA1, 0, none⟩ = some (.int .i64 P1) ∧ w12.cell? ⟨gA1, 1, none⟩ = some (.int .i64 R1) ∧ w12.cell? ⟨gA1, 2, none⟩ = some (.int .i64 C1) ∧ w12.cell? ⟨gA1, 3, none⟩ = some (.slice M1 e1 f1) := by obtain ⟨a0, a1, a2, a3⟩ := cells4 KX1_5.out; obtain ⟨b0, b1, b2, b3⟩ := cells4 KA1_12.out; exact ⟨a0, a1, a2, a3, b0, b1, b2, b3⟩
    have hqd : w12.drew.cell? ⟨gX1, 0, none⟩ = some (.int .i64 P1) ∧ w12.drew.cell? ⟨gX1, 1, none⟩ = some (.int .i64 R1) ∧ w12.drew.cell? ⟨gX1, 2, none⟩ = some (.int .i64 C1) ∧ w12.drew.cell? ⟨gX1, 3, none⟩ = some (.slice Pp1X np1X cp1X) ∧ w12.drew.cell? ⟨gA1, 0, none⟩ = some (.int .i64 P1) ∧ w12.drew.cell? ⟨gA1, 1, none⟩ = some (.int .i64 R1) ∧ w12.drew.cell? ⟨gA1, 2, none⟩ = some (.int .i64 C1) ∧ w12.drew.cell? ⟨gA1, 3, none⟩ = some (.slice M1 e1 f1) := hq0
    have HQ0 := Lib.hid hq0
    have HQD := Lib.hid hqd
    clear hq0 hqd
    have HPD : Hid (SI w12.drew M1 e1 y1) := Lib.hid (hp1.below HB12.out.drew (Nat.le_refl _))
    go_region_held3 (fun w' => w'.cell? ⟨gX1, 0, none⟩ = some (.int .i64 P1) ∧ w'.cell? ⟨gX1, 1, none⟩ = some (.int .i64 R1) ∧ w'.cell? ⟨gX1, 2, none⟩ = some (.int .i64 C1) ∧ w'.cell? ⟨gX1, 3, none⟩ = some (.slice Pp1X np1X cp1X) ∧ w'.cell? ⟨gA1, 0, none⟩ = some (.int .i64 P1) ∧ w'.cell? ⟨gA1, 1, none⟩ = some (.int .i64 R1) ∧ w'.cell? ⟨gA1, 2, none⟩ = some (.int .i64 C1) ∧ w'.cell? ⟨gA1, 3, none⟩ = some (.slice M1 e1 f1))
      (first | with_reducible exact HQD.out | with_reducible exact HQ0.out | with_reducible exact KK4 | with_reducible exact KK5)
      (first
        | (go_at_call 16
           with_reducible refine (toMatrix_any P1 R1 C1 _ _ _ y1 _ HPD.out (by have := SM1.out; omega)).mono ?_
           rintro e w13 ⟨Pyp, nyp, cyp, rfl, ho0, hb0⟩
           have hb : Below w12.heap.size w12 w13 := ((Below.refl _ _).drew).trans hb0
           have ho : Own w13 w12.heap.size w13.heap.size Pyp nyp cyp y1 := ho0
           clear ho0 hb0
           have KA0_13 := Lib.hid (KA0_12.out.below hb KA0_12.out.lt)
           have KA1_13 := Lib.hid (KA1_12.out.below hb KA1_12.out.lt)
           have KW_10 := Lib.hid (KW_9.out.below hb KW_9.out.lt)
           have KX0_8 := Lib.hid (KX0_7.out.below hb KX0_7.out.lt)
           have KX1_6 := Lib.hid (KX1_5.out.below hb KX1_5.out.lt)
           have KV_4 := Lib.hid (KV_3.out.below hb KV_3.out.lt)
           have DKA0_yp : Hid (gA0 < w12.heap.size ∨ w13.heap.size ≤ gA0) := Lib.hid (.inl KA0_12.out.lt)
           have DKA1_yp : Hid (gA1 < w12.heap.size ∨ w13.heap.size ≤ gA1) := Lib.hid (.inl KA1_12.out.lt)
           have DKW_yp : Hid (gW < w12.heap.size ∨ w13.heap.size ≤ gW) := Lib.hid (.inl KW_9.out.lt)
           have DKX0_yp : Hid (gX0 < w12.heap.size ∨ w13.heap.size ≤ gX0) := Lib.hid (.inl KX0_7.out.lt)
           have DKX1_yp : Hid (gX1 < w12.heap.size ∨ w13.heap.size ≤ gX1) := Lib.hid (.inl KX1_5.out.lt)
           have DKV_yp : Hid (gV < w12.heap.size ∨ w13.heap.size ≤ gV) := Lib.hid (.inl KV_3.out.lt)
           have hsz := hb.size
           have HB13 := Lib.hid (HB12.out.trans (hb.mono HB12.out.size))
           have OW_10 := Lib.hid (OW_9.out.below hb LW_9.out)
           have LW_10 := Lib.hid (Nat.le_trans LW_9.out hsz)
           have Op0X_9 := Lib.hid (Op0X_8.out.below hb Lp0X_8.out)
           have Lp0X_9 := Lib.hid (Nat.le_trans Lp0X_8.out hsz)
           have Op1X_7 := Lib.hid (Op1X_6.out.below hb Lp1X_6.out)
           have Lp1X_7 := Lib.hid (Nat.le_trans Lp1X_6.out hsz)
           have OV_5 := Lib.hid (OV_4.out.below hb LV_4.out)
           have LV_5 := Lib.hid (Nat.le_trans LV_4.out hsz)
           have Oyp_0 := Lib.hid ho
           have Lyp_0 := Lib.hid (Nat.le_refl w13.heap.size)
           have Nyp := Lib.hid ho.len
           have Gyp := Lib.hid HB12.out.size
           have DW_yp : Hid (_ ≤ w12.heap.size) := LW_9
           have Dp0X_yp : Hid (_ ≤ w12.heap.size) := Lp0X_8
           have Dp1X_yp : Hid (_ ≤ w12.heap.size) := Lp1X_6
           have DV_yp : Hid (_ ≤ w12.heap.size) := LV_4
           clear OW_9 LW_9 Op0X_8 Lp0X_8 Op1X_6 Lp1X_6 OV_4 LV_4 HB12 hb hsz ho
           clear KA0_12 KA1_12 KW_9 KX0_7 KX1_5 KV_3
           have KK4 : w13.cell? ⟨gX1, 0, none⟩ = some (.int .i64 P1) ∧ w13.cell? ⟨gX1, 1, none⟩ = some (.int .i64 R1) ∧ w13.cell? ⟨gX1, 2, none⟩ = some (.int .i64 C1) ∧ w13.cell? ⟨gX1, 3, none⟩ = some (.slice Pp1X np1X cp1X) ∧ w13.cell? ⟨gA1, 0, none⟩ = some (.int .i64 P1) ∧ w13.cell? ⟨gA1, 1, none⟩ = some (.int .i64 R1) ∧ w13.cell? ⟨gA1, 2, none⟩ = some (.int .i64 C1) ∧ w13.cell? ⟨gA1, 3, none⟩ = some (.slice M1 e1 f1) := by obtain ⟨a0, a1, a2, a3⟩ := cells4 KX1_6.out; obtain ⟨b0, b1, b2, b3⟩ := cells4 KA1_13.out; exact ⟨a0, a1, a2, a3, b0, b1, b2, b3⟩
           have QX := Lib.hid Op1X_7.out.si
           have QY := Lib.hid Oyp_0.out.si)
        | (go_at_call 19
           with_reducible refine (eqMatrix_yes P1 R1 C1 _ _ _ _ _ _ y1 _ QX.out QY.out YB1.out).mono ?_
           rintro e w14 ⟨rfl, hb⟩
           have KA0_14 := Lib.hid (KA0_13.out.below hb KA0_13.out.lt)
           have KA1_14 := Lib.hid (KA1_13.out.below hb KA1_13.out.lt)
           have KW_11 := Lib.hid (KW_10.out.below hb KW_10.out.lt)
           have KX0_9 := Lib.hid (KX0_8.out.below hb KX0_8.out.lt)
           have KX1_7 := Lib.hid (KX1_6.out.below hb KX1_6.out.lt)
           have KV_5 := Lib.hid (KV_4.out.below hb KV_4.out.lt)
           have hsz := hb.size
           have HB14 := Lib.hid (HB13.out.trans (hb.mono HB13.out.size))
           have OW_11 := Lib.hid (OW_10.out.below hb LW_10.out)
           have LW_11 := Lib.hid (Nat.le_trans LW_10.out hsz)
           have Op0X_10 := Lib.hid (Op0X_9.out.below hb Lp0X_9.out)
           have Lp0X_10 := Lib.hid (Nat.le_trans Lp0X_9.out hsz)
           have Op1X_8 := Lib.hid (Op1X_7.out.below hb Lp1X_7.out)
           have Lp1X_8 := Lib.hid (Nat.le_trans Lp1X_7.out hsz)
           have OV_6 := Lib.hid (OV_5.out.below hb LV_5.out)
           have LV_6 := Lib.hid (Nat.le_trans LV_5.out hsz)
           have Oyp_1 := Lib.hid (Oyp_0.out.below hb Lyp_0.out)
           have Lyp_1 := Lib.hid (Nat.le_trans Lyp_0.out hsz)
           clear OW_10 LW_10 Op0X_9 Lp0X_9 Op1X_7 Lp1X_7 OV_5 LV_5 Oyp_0 Lyp_0 HB13 hb hsz
           clear KA0_13 KA1_13 KW_10 KX0_8 KX1_6 KV_4
           have KK5 : w14.cell? ⟨gX1, 0, none⟩ = some (.int .i64 P1) ∧ w14.cell? ⟨gX1, 1, none⟩ = some (.int .i64 R1) ∧ w14.cell? ⟨gX1, 2, none⟩ = some (.int .i64 C1) ∧ w14.cell? ⟨gX1, 3, none⟩ = some (.slice Pp1X np1X cp1X) ∧ w14.cell? ⟨gA1, 0, none⟩ = some (.int .i64 P1) ∧ w14.cell? ⟨gA1, 1, none⟩ = some (.int .i64 R1) ∧ w14.cell? ⟨gA1, 2, none⟩ = some (.int .i64 C1) ∧ w14.cell? ⟨gA1, 3, none⟩ = some (.slice M1 e1 f1) := by obtain ⟨a0, a1, a2, a3⟩ := cells4 KX1_7.out; obtain ⟨b0, b1, b2, b3⟩ := cells4 KA1_14.out; exact ⟨a0, a1, a2, a3, b0, b1, b2, b3⟩))
    clear HQ0 HQD HPD KK4 KK5 QX QY
    obtain ⟨cA00, cA01, cA02, cA03⟩ := cells4 KA0_14.out
    obtain ⟨cA10, cA11, cA12, cA13⟩ := cells4 KA1_14.out
    obtain ⟨cW0, cW1, cW2, cW3⟩ := cells4 KW_11.out
    obtain ⟨cX00, cX01, cX02, cX03⟩ := cells4 KX0_9.out
    obtain ⟨cX10, cX11, cX12, cX13⟩ := cells4 KX1_7.out
    obtain ⟨cV0, cV1, cV2, cV3⟩ := cells4 KV_5.out
    go_wp2_with fail
    refine (markMatrix_any P0 R0 C0 _ _ _ _ _ y0 1 _ Op0X_10.out Lp0X_10.out (by have := SM0.out; have := Np0X.out; have := YL0.out; omega) (by omega) (by omega)).mono ?_
    rintro e w15 ⟨rfl, ho, hw⟩
    clear cA00 cA01 cA02 cA03 cA10 cA11 cA12 cA13 cW0 cW1 cW2 cW3 cX00 cX01 cX02 cX03 cX10 cX11 cX12 cX13 cV0 cV1 cV2 cV3
    have KA0_15 := Lib.hid (Blk.within_ KA0_14.out hw DKA0_p0X.out)
    have KA1_15 := Lib.hid (Blk.within_ KA1_14.out hw DKA1_p0X.out)
    have KW_12 := Lib.hid (Blk.within_ KW_11.out hw DKW_p0X.out)
    have KX0_10 := Lib.hid (Blk.within_ KX0_9.out hw DKX0_p0X.out)
    have KX1_8 := Lib.hid (Blk.within_ KX1_7.out hw DKX1_p0X.out)
    have KV_6 := Lib.hid (Blk.within_ KV_5.out hw DKV_p0X.out)
    have hsz := hw.size
    have HB15 := Lib.hid (HB14.out.trans (hw.below Gp0X.out HB14.out.size))
    have OW_12 := Lib.hid (OW_11.out.within hw (.inl DW_p0X.out))
    have LW_12 := Lib.hid (Nat.le_trans LW_11.out hsz)
    have Op0X_11 := Lib.hid ho
    have Lp0X_11 := Lib.hid (Nat.le_trans Lp0X_10.out hsz)
    have Op1X_9 := Lib.hid (Op1X_8.out.within hw (.inr Dp0X_p1X.out))
    have Lp1X_9 := Lib.hid (Nat.le_trans Lp1X_8.out hsz)
    have OV_7 := Lib.hid (OV_6.out.within hw (.inr Dp0X_V.out))
    have LV_7 := Lib.hid (Nat.le_trans LV_6.out hsz)
    clear OW_11 LW_11 Op0X_10 Lp0X_10 Op1X_8 Lp1X_8 OV_6 LV_6 HB14 hw hsz ho
    clear KA0_14 KA1_14 KW_11 KX0_9 KX1_7 KV_5
    have hpxn0 : np0X ≤ 1048576 := by have := SM0.out; have := Np0X.out; have := YL0.out; omega
    obtain ⟨k0, hk0⟩ : ∃ z : Int, z = 1 + (np0X : Int) := ⟨_, rfl⟩
    rw [← hk0]
    have hk0b : 0 ≤ k0 ∧ k0 ≤ 100000000 := by omega
    have hk0n : ¬ k0 < 0 := by omega
    clear hk0
    obtain ⟨cA00, cA01, cA02, cA03⟩ := cells4 KA0_15.out
    obtain ⟨cA10, cA11, cA12, cA13⟩ := cells4 KA1_15.out
    obtain ⟨cW0, cW1, cW2, cW3⟩ := cells4 KW_12.out
    obtain ⟨cX00, cX01, cX02, cX03⟩ := cells4 KX0_10.out
    obtain ⟨cX10, cX11, cX12, cX13⟩ := cells4 KX1_8.out
    obtain ⟨cV0, cV1, cV2, cV3⟩ := cells4 KV_6.out
    go_wp2_with fail
    refine (markMatrix_any P1 R1 C1 _ _ _ _ _ y1 k0 _ Op1X_9.out Lp1X_9.out (by have := SM1.out; have := Np1X.out; have := YL1.out; omega) (by omega) (by omega)).mono ?_
    rintro e w16 ⟨rfl, ho, hw⟩
    clear cA00 cA01 cA02 cA03 cA10 cA11 cA12 cA13 cW0 cW1 cW2 cW3 cX00 cX01 cX02 cX03 cX10 cX11 cX12 cX13 cV0 cV1 cV2 cV3
    have KA0_16 := Lib.hid (Blk.within_ KA0_15.out hw DKA0_p1X.out)
    have KA1_16 := Lib.hid (Blk.within_ KA1_15.out hw DKA1_p1X.out)
    have KW_13 := Lib.hid (Blk.within_ KW_12.out hw DKW_p1X.out)
    have KX0_11 := Lib.hid (Blk.within_ KX0_10.out hw DKX0_p1X.out)
    have KX1_9 := Lib.hid (Blk.within_ KX1_8.out hw DKX1_p1X.out)
    have KV_7 := Lib.hid (Blk.within_ KV_6.out hw DKV_p1X.out)
    have hsz := hw.size
    have HB16 := Lib.hid (HB15.out.trans (hw.below Gp1X.out HB15.out.size))
    have OW_13 := Lib.hid (OW_12.out.within hw (.inl DW_p1X.out))
    have LW_13 := Lib.hid (Nat.le_trans LW_12.out hsz)
    have Op0X_12 := Lib.hid (Op0X_11.out.within hw (.inl Dp0X_p1X.out))
    have Lp0X_12 := Lib.hid (Nat.le_trans Lp0X_11.out hsz)
    have Op1X_10 := Lib.hid ho
    have Lp1X_10 := Lib.hid (Nat.le_trans Lp1X_9.out hsz)
    have OV_8 := Lib.hid (OV_7.out.within hw (.inr Dp1X_V.out))
    have LV_8 := Lib.hid (Nat.le_trans LV_7.out hsz)
    clear OW_12 LW_12 Op0X_11 Lp0X_11 Op1X_9 Lp1X_9 OV_7 LV_7 HB15 hw hsz ho
    clear KA0_15 KA1_15 KW_12 KX0_10 KX1_8 KV_6
    have hpxn1 : np1X ≤ 1048576 := by have := SM1.out; have := Np1X.out; have := YL1.out; omega
    obtain ⟨k1, hk1⟩ : ∃ z : Int, z = k0 + (np1X : Int) := ⟨_, rfl⟩
    rw [← hk1]
    have hk1b : 0 ≤ k1 ∧ k1 ≤ 200000000 := by omega
    have hk1n : ¬ k1 < 0 := by omega
    clear hk1
    obtain ⟨cA00, cA01, cA02, cA03⟩ := cells4 KA0_16.out
    obtain ⟨cA10, cA11, cA12, cA13⟩ := cells4 KA1_16.out
    obtain ⟨cW0, cW1, cW2, cW3⟩ := cells4 KW_13.out
    obtain ⟨cX00, cX01, cX02, cX03⟩ := cells4 KX0_11.out
    obtain ⟨cX10, cX11, cX12, cX13⟩ := cells4 KX1_9.out
    obtain ⟨cV0, cV1, cV2, cV3⟩ := cells4 KV_7.out
    go_wp2_with fail
    refine (eqMatrix_yes zp zr zc _ _ _ _ _ _ z _ OV_8.out.si OW_13.out.si (by have := MBC.out; omega)).mono ?_
    rintro e w17 ⟨rfl, hb⟩
    clear cA00 cA01 cA02 cA03 cA10 cA11 cA12 cA13 cW0 cW1 cW2 cW3 cX00 cX01 cX02 cX03 cX10 cX11 cX12 cX13 cV0 cV1 cV2 cV3
    have KA0_17 := Lib.hid (KA0_16.out.below hb KA0_16.out.lt)
    have KA1_17 := Lib.hid (KA1_16.out.below hb KA1_16.out.lt)
    have KW_14 := Lib.hid (KW_13.out.below hb KW_13.out.lt)
    have KX0_12 := Lib.hid (KX0_11.out.below hb KX0_11.out.lt)
    have KX1_10 := Lib.hid (KX1_9.out.below hb KX1_9.out.lt)
    have KV_8 := Lib.hid (KV_7.out.below hb KV_7.out.lt)
    have hsz := hb.size
    have HB17 := Lib.hid (HB16.out.trans (hb.mono HB16.out.size))
    have OW_14 := Lib.hid (OW_13.out.below hb LW_13.out)
    have LW_14 := Lib.hid (Nat.le_trans LW_13.out hsz)
    have Op0X_13 := Lib.hid (Op0X_12.out.below hb Lp0X_12.out)
    have Lp0X_13 := Lib.hid (Nat.le_trans Lp0X_12.out hsz)
    have Op1X_11 := Lib.hid (Op1X_10.out.below hb Lp1X_10.out)
    have Lp1X_11 := Lib.hid (Nat.le_trans Lp1X_10.out hsz)
    have OV_9 := Lib.hid (OV_8.out.below hb LV_8.out)
    have LV_9 := Lib.hid (Nat.le_trans LV_8.out hsz)
    clear OW_13 LW_13 Op0X_12 Lp0X_12 Op1X_10 Lp1X_10 OV_8 LV_8 HB16 hb hsz
    clear KA0_16 KA1_16 KW_13 KX0_11 KX1_9 KV_7
    obtain ⟨cA00, cA01, cA02, cA03⟩ := cells4 KA0_17.out
    obtain ⟨cA10, cA11, cA12, cA13⟩ := cells4 KA1_17.out
    obtain ⟨cW0, cW1, cW2, cW3⟩ := cells4 KW_14.out
    obtain ⟨cX00, cX01, cX02, cX03⟩ := cells4 KX0_12.out
    obtain ⟨cX10, cX11, cX12, cX13⟩ := cells4 KX1_10.out
    obtain ⟨cV0, cV1, cV2, cV3⟩ := cells4 KV_8.out
    go_wp2_with fail
    refine (markMatrix_any zp zr zc _ _ _ _ _ z 1 _ OV_9.out LV_9.out (by have := MBC.out; have := NV.out; omega) (by omega) (by omega)).mono ?_
    rintro e w18 ⟨rfl, ho, hw⟩
    clear cA00 cA01 cA02 cA03 cA10 cA11 cA12 cA13 cW0 cW1 cW2 cW3 cX00 cX01 cX02 cX03 cX10 cX11 cX12 cX13 cV0 cV1 cV2 cV3
    have KA0_18 := Lib.hid (Blk.within_ KA0_17.out hw DKA0_V.out)
    have KA1_18 := Lib.hid (Blk.within_ KA1_17.out hw DKA1_V.out)
    have KW_15 := Lib.hid (Blk.within_ KW_14.out hw DKW_V.out)
    have KX0_13 := Lib.hid (Blk.within_ KX0_12.out hw DKX0_V.out)
    have KX1_11 := Lib.hid (Blk.within_ KX1_10.out hw DKX1_V.out)
    have KV_9 := Lib.hid (Blk.within_ KV_8.out hw DKV_V.out)
    have hsz := hw.size
    have HB18 := Lib.hid (HB17.out.trans (hw.below GV.out HB17.out.size))
    have OW_15 := Lib.hid (OW_14.out.within hw (.inl DW_V.out))
    have LW_15 := Lib.hid (Nat.le_trans LW_14.out hsz)
    have OV_10 := Lib.hid ho
    have LV_10 := Lib.hid (Nat.le_trans LV_9.out hsz)
    clear OW_14 LW_14 OV_9 LV_9 HB17 hw hsz ho
    clear KA0_17 KA1_17 KW_14 KX0_12 KX1_10 KV_8
    have hVn : nV ≤ 1000 := by have := MBC.out; have := NV.out; omega
    obtain ⟨cA00, cA01, cA02, cA03⟩ := cells4 KA0_18.out
    obtain ⟨cA10, cA11, cA12, cA13⟩ := cells4 KA1_18.out
    obtain ⟨cW0, cW1, cW2, cW3⟩ := cells4 KW_15.out
    obtain ⟨cX00, cX01, cX02, cX03⟩ := cells4 KX0_13.out
    obtain ⟨cX10, cX11, cX12, cX13⟩ := cells4 KX1_11.out
    obtain ⟨cV0, cV1, cV2, cV3⟩ := cells4 KV_9.out
    go_wp2_with fail
    refine (heldMatrix_yes zp zr zc _ _ _ 1 _ OV_10.out.si (by omega) (by omega) (by omega)).mono ?_
    rintro e w19 ⟨rfl, hb⟩
    clear cA00 cA01 cA02 cA03 cA10 cA11 cA12 cA13 cW0 cW1 cW2 cW3 cX00 cX01 cX02 cX03 cX10 cX11 cX12 cX13 cV0 cV1 cV2 cV3
    have KA0_19 := Lib.hid (KA0_18.out.below hb KA0_18.out.lt)
    have KA1_19 := Lib.hid (KA1_18.out.below hb KA1_18.out.lt)
    have KW_16 := Lib.hid (KW_15.out.below hb KW_15.out.lt)
    have KX0_14 := Lib.hid (KX0_13.out.below hb KX0_13.out.lt)
    have KX1_12 := Lib.hid (KX1_11.out.below hb KX1_11.out.lt)
    have KV_10 := Lib.hid (KV_9.out.below hb KV_9.out.lt)
    have hsz := hb.size
    have HB19 := Lib.hid (HB18.out.trans (hb.mono HB18.out.size))
    have OW_16 := Lib.hid (OW_15.out.below hb LW_15.out)
    have LW_16 := Lib.hid (Nat.le_trans LW_15.out hsz)
    have OV_11 := Lib.hid (OV_10.out.below hb LV_10.out)
    have LV_11 := Lib.hid (Nat.le_trans LV_10.out hsz)
    clear OW_15 LW_15 OV_10 LV_10 HB18 hb hsz
    clear KA0_18 KA1_18 KW_15 KX0_13 KX1_11 KV_9
    obtain ⟨zz, hz⟩ : ∃ z : Int, z = 1 + (nV : Int) := ⟨_, rfl⟩
    have HZ := Lib.hid hz
    have hzn : ¬ zz < 0 := by omega
    rw [← hz]
    clear hz
    obtain ⟨cA00, cA01, cA02, cA03⟩ := cells4 KA0_19.out
    obtain ⟨cA10, cA11, cA12, cA13⟩ := cells4 KA1_19.out
    obtain ⟨cW0, cW1, cW2, cW3⟩ := cells4 KW_16.out
    obtain ⟨cX00, cX01, cX02, cX03⟩ := cells4 KX0_14.out
    obtain ⟨cX10, cX11, cX12, cX13⟩ := cells4 KX1_12.out
    obtain ⟨cV0, cV1, cV2, cV3⟩ := cells4 KV_10.out
    go_upto_region 31 with fail
    clear cA00 cA01 cA02 cA03 cA10 cA11 cA12 cA13 cW0 cW1 cW2 cW3 cX00 cX01 cX02 cX03 cX10 cX11 cX12 cX13 cV0 cV1 cV2 cV3
    have MKS : Hid (∀ u, Below w19.heap.size w19 u → (Below w19.heap.size w19 u ∧ u.cell? ⟨gA0, 0, none⟩ = some (.int .i64 P0) ∧ u.cell? ⟨gA0, 1, none⟩ = some (.int .i64 R0) ∧ u.cell? ⟨gA0, 2, none⟩ = some (.int .i64 C0) ∧ u.cell? ⟨gA0, 3, none⟩ = some (.slice M0 e0 f0) ∧ u.cell? ⟨gA1, 0, none⟩ = some (.int .i64 P1) ∧ u.cell? ⟨gA1, 1, none⟩ = some (.int .i64 R1) ∧ u.cell? ⟨gA1, 2, none⟩ = some (.int .i64 C1) ∧ u.cell? ⟨gA1, 3, none⟩ = some (.slice M1 e1 f1))) := Lib.hid (fun u hb => by obtain ⟨cA00, cA01, cA02, cA03⟩ := cells4 (KA0_19.out.below hb KA0_19.out.lt); obtain ⟨cA10, cA11, cA12, cA13⟩ := cells4 (KA1_19.out.below hb KA1_19.out.lt); exact ⟨hb, cA00, cA01, cA02, cA03, cA10, cA11, cA12, cA13⟩)
    have Hcd : Hid (Below w19.heap.size w19 w19.drew) := Lib.hid ((Below.refl _ _).drew)
    have Hal : Hid (∀ o, Below w19.heap.size w19 (w19.alloc o).drew) := Lib.hid (fun o => ((Below.refl _ _).alloc (Nat.le_refl _) o).drew)
    have HPU0 : Hid (∀ u, Below w19.heap.size w19 u → SI u M0 e0 y0) := Lib.hid (fun u hb => (hp0.below HB19.out (Nat.le_refl _)).below hb (Nat.le_refl _))
    have HPU1 : Hid (∀ u, Below w19.heap.size w19 u → SI u M1 e1 y1) := Lib.hid (fun u hb => (hp1.below HB19.out (Nat.le_refl _)).below hb (Nat.le_refl _))
    go_cut [15, 16] from 17 (fun p6 b7 wx => ∃ gW lo hi P n c, p6 = .pointer (some ⟨gW, 0, none⟩) ∧ b7 = .bool ok ∧ BoxedM w19 wx gW lo hi P n c zp zr zc z)
    case first =>
      go_region_held3 (fun u => Below w19.heap.size w19 u ∧ u.cell? ⟨gA0, 0, none⟩ = some (.int .i64 P0) ∧ u.cell? ⟨gA0, 1, none⟩ = some (.int .i64 R0) ∧ u.cell? ⟨gA0, 2, none⟩ = some (.int .i64 C0) ∧ u.cell? ⟨gA0, 3, none⟩ = some (.slice M0 e0 f0) ∧ u.cell? ⟨gA1, 0, none⟩ = some (.int .i64 P1) ∧ u.cell? ⟨gA1, 1, none⟩ = some (.int .i64 R1) ∧ u.cell? ⟨gA1, 2, none⟩ = some (.int .i64 C1) ∧ u.cell? ⟨gA1, 3, none⟩ = some (.slice M1 e1 f1))
        (first | with_reducible exact MKS.out _ Hcd.out | with_reducible exact MKS.out _ Hcu0.out | with_reducible exact MKS.out _ Hcu1.out | with_reducible exact MKS.out _ HcuS.out | with_reducible exact MKS.out _ (Below.alloc Hcd.out Hcd.out.size _) | with_reducible exact MKS.out _ (Below.alloc Hcu0.out Hcu0.out.size _) | with_reducible exact MKS.out _ (Below.alloc Hcu1.out Hcu1.out.size _) | with_reducible exact MKS.out _ (Below.alloc HcuS.out HcuS.out.size _) | with_reducible exact MKS.out _ (Hal.out _) | exact MKS.out _ (below_put4 HcuS.out HGZS.out _ _ _ _) | exact MKS.out _ (Below.alloc HcuS.out HcuS.out.size _) | exact MKS.out _ (below_put4 (Below.alloc HcuS.out HcuS.out.size _) HcuS.out.size _ _ _ _))
        (first
          | (go_at_call 27
             refine calls_here ?_
             intro v2 hu
             have Hv : Hid (Below w19.heap.size w19 v2) := Lib.hid (by rw [hu]; first | exact Hcu1.out | exact Hcu1.out.alloc Hcu1.out.size _)
             have HT0 : Hid (SI v2 Aq0 nq0 y0) := Lib.hid (by rw [hu]; first | exact HS0.out | exact HS0.out.alloc _)
             have HT1 : Hid (SI v2 Aq1 nq1 y1) := Lib.hid (by rw [hu]; first | exact HS1.out | exact HS1.out.alloc _)
             first
               | (have HZ2 : Hid (Blk v2 u1.heap.size 27 #[.int .i64 0, .int .i64 0, .int .i64 0, .slice none 0 0]) := Lib.hid (by rw [hu]; first | exact Blk.new _ _ _))
               | skip
             with_reducible refine (implMeetSpaces_z P0 R0 C0 P1 R1 C1 _ _ _ _ _ _ y0 y1 _ HT0.out HT1.out (by have := HN0.out; have := SM0.out; omega) (by have := HN1.out; have := SM1.out; omega) HC0.out HC1.out zp zr zc z ok HZZ.out).mono ?_
             rintro e uS ⟨PS, nS, cS, rfl, ho, hb⟩
             have HcuS : Hid (Below w19.heap.size w19 uS) := Lib.hid (Hv.out.trans (hb.mono Hv.out.size))
             first
               | (have HY2 := Lib.hid (HZ2.out.below hb HZ2.out.lt); have HGZS : Hid (w19.heap.size ≤ u1.heap.size) := Lib.hid Hcu1.out.size; obtain ⟨rr0, rr1, rr2, rr3⟩ := cells4 HY2.out; obtain ⟨ff0, ff1, ff2, ff3⟩ := frozenM HY2.out; have HBX := Lib.hid (fun h3 => BoxedM.put (w0 := w19) (zp := zp) (zr := zr) (zc := zc) ho HY2.out Hv.out.size (Nat.le_refl _) h3 HGZS.out HcuS.out); have HBX2 := Lib.hid (HBX.out (.inl HZ2.out.lt)))
               | (have HZ2 := Lib.hid (Blk.eq_ hu HY1.out); have HY2 := Lib.hid (HZ2.out.below hb HZ2.out.lt); have HGZS := HGZ; obtain ⟨rr0, rr1, rr2, rr3⟩ := cells4 HY2.out; obtain ⟨ff0, ff1, ff2, ff3⟩ := frozenM HY2.out; have HBX2 := Lib.hid (BoxedM.put (w0 := w19) (zp := zp) (zr := zr) (zc := zc) ho HY2.out Hv.out.size (Nat.le_refl _) (.inl HZ2.out.lt) HGZS.out HcuS.out))
               | (have HBX2 := Lib.hid (BoxedM.new (w0 := w19) (zp := zp) (zr := zr) (zc := zc) ho Hv.out.size (Nat.le_refl _) HcuS.out))
             clear hu hb ho)
          | (go_at_call 16
             refine calls_here ?_
             intro v1 hu
             have Hv : Hid (Below w19.heap.size w19 v1) := Lib.hid (by rw [hu]; first | exact Hcu0.out | exact Hcu0.out.alloc Hcu0.out.size _)
             have HT0 : Hid (SI v1 Aq0 nq0 y0) := Lib.hid (by rw [hu]; first | exact HS0.out | exact HS0.out.alloc _)
             first
               | (have HZ1 : Hid (Blk v1 u0.heap.size 27 #[.int .i64 0, .int .i64 0, .int .i64 0, .slice none 0 0]) := Lib.hid (by rw [hu]; first | exact Blk.new _ _ _))
               | skip
             with_reducible refine (toMatrix_any P1 R1 C1 _ _ _ y1 v1 (HPU1.out _ Hv.out) (by have := SM1.out; omega)).mono ?_
             rintro e u1 ⟨Aq1, nq1, cq1, rfl, ho, hb⟩
             have Hcu1 : Hid (Below w19.heap.size w19 u1) := Lib.hid (Hv.out.trans (hb.mono Hv.out.size))
             have HS0 := Lib.hid (HT0.out.below hb (Nat.le_refl _))
             have HS1 := Lib.hid ho.si
             have HC1 := Lib.hid ho.cap
             have HN1 : Hid (nq1 = e1) := Lib.hid (by have h1 := ho.len; have h2 := YL1.out; omega)
             first
               | (have HY1 := Lib.hid (HZ1.out.below hb HZ1.out.lt))
               | (have HZ1 := Lib.hid (Blk.eq_ hu HY0.out); have HY1 := Lib.hid (HZ1.out.below hb HZ1.out.lt))
               | skip
             first | (have HGZ : Hid (w19.heap.size ≤ u0.heap.size) := (fun (_ : Hid (Blk v1 u0.heap.size 27 #[.int .i64 0, .int .i64 0, .int .i64 0, .slice none 0 0])) => Lib.hid Hcu0.out.size) HZ1) | skip
             clear hu hb ho)
          | (go_at_call 16
             refine calls_here ?_
             intro v0 hu
             have Hv : Hid (Below w19.heap.size w19 v0) := Lib.hid (by rw [hu]; first | exact Hcd.out | exact Hcd.out.alloc Hcd.out.size _ | exact Hal.out _)
             first
               | (have HZ0 : Hid (Blk v0 w19.heap.size 27 #[.int .i64 0, .int .i64 0, .int .i64 0, .slice none 0 0]) := Lib.hid (by rw [hu]; first | exact Blk.new _ _ _ | exact (Blk.new w19 _ _).drewN 1))
               | skip
             with_reducible refine (toMatrix_any P0 R0 C0 _ _ _ y0 v0 (HPU0.out _ Hv.out) (by have := SM0.out; omega)).mono ?_
             rintro e u0 ⟨Aq0, nq0, cq0, rfl, ho, hb⟩
             have Hcu0 : Hid (Below w19.heap.size w19 u0) := Lib.hid (Hv.out.trans (hb.mono Hv.out.size))
             have HS0 := Lib.hid ho.si
             have HC0 := Lib.hid ho.cap
             have HN0 : Hid (nq0 = e0) := Lib.hid (by have h1 := ho.len; have h2 := YL0.out; omega)
             first
               | (have HY0 := Lib.hid (HZ0.out.below hb HZ0.out.lt))
               | skip
             first | (have HGZ : Hid (w19.heap.size ≤ w19.heap.size) := (fun (_ : Hid (Blk v0 w19.heap.size 27 #[.int .i64 0, .int .i64 0, .int .i64 0, .slice none 0 0])) => Lib.hid Hcd.out.size) HZ0) | skip
             clear hu hb ho))
      all_goals
        (go_wp2
         go_meet
         case rel => exact ⟨_, _, _, _, _, _, rfl, rfl, HBX2.out⟩)
    case rest =>
      obtain ⟨w20, hwc⟩ : ∃ v, v = wc := ⟨_, rfl⟩
      subst hwc
      clear MKS Hcd Hal HPU0 HPU1
      obtain ⟨gU, loU, hiU, PU, nU, cU, rfl, rfl, ⟨ho, hkx, hlo, hhi, hap, hgz, hb⟩⟩ := hcut
      have ZW := LW_16
      have ZV := LV_11
      have YA0 := Lib.hid KA0_19.out.lt
      have YA1 := Lib.hid KA1_19.out.lt
      have YW := Lib.hid KW_16.out.lt
      have YX0 := Lib.hid KX0_14.out.lt
      have YX1 := Lib.hid KX1_12.out.lt
      have YV := Lib.hid KV_10.out.lt
      have HQO := Lib.hid ho
      have HQL := Lib.hid (And.intro hlo hhi)
      have HQN := Lib.hid ho.len
      have HQG := Lib.hid (Nat.le_trans HB19.out.size hlo)
      have HQK := Lib.hid hkx
      have HQA := Lib.hid hap
      have HQZ := Lib.hid hgz
      clear ho hlo hhi hkx hap hgz
      have KA0_20 := Lib.hid (KA0_19.out.below hb KA0_19.out.lt)
      have KA1_20 := Lib.hid (KA1_19.out.below hb KA1_19.out.lt)
      have KW_17 := Lib.hid (KW_16.out.below hb KW_16.out.lt)
      have KX0_15 := Lib.hid (KX0_14.out.below hb KX0_14.out.lt)
      have KX1_13 := Lib.hid (KX1_12.out.below hb KX1_12.out.lt)
      have KV_11 := Lib.hid (KV_10.out.below hb KV_10.out.lt)
      have hsz := hb.size
      have HB20 := Lib.hid (HB19.out.trans (hb.mono HB19.out.size))
      have OW_17 := Lib.hid (OW_16.out.below hb LW_16.out)
      have LW_17 := Lib.hid (Nat.le_trans LW_16.out hsz)
      have OV_12 := Lib.hid (OV_11.out.below hb LV_11.out)
      have LV_12 := Lib.hid (Nat.le_trans LV_11.out hsz)
      clear OW_16 LW_16 OV_11 LV_11 HB19 hb hsz
      clear KA0_19 KA1_19 KW_16 KX0_14 KX1_12 KV_10
      have OU_0 := HQO
      have LU_0 : Hid (hiU ≤ w20.heap.size) := Lib.hid HQL.out.2
      have NU := HQN
      have GU := HQG
      have DW_U : Hid (_ ≤ loU) := Lib.hid (Nat.le_trans ZW.out HQL.out.1)
      have DV_U : Hid (_ ≤ loU) := Lib.hid (Nat.le_trans ZV.out HQL.out.1)
      have DKA0_U : Hid (gA0 < loU ∨ hiU ≤ gA0) := Lib.hid (.inl (Nat.lt_of_lt_of_le YA0.out HQL.out.1))
      have DKA1_U : Hid (gA1 < loU ∨ hiU ≤ gA1) := Lib.hid (.inl (Nat.lt_of_lt_of_le YA1.out HQL.out.1))
      have DKW_U : Hid (gW < loU ∨ hiU ≤ gW) := Lib.hid (.inl (Nat.lt_of_lt_of_le YW.out HQL.out.1))
      have DKX0_U : Hid (gX0 < loU ∨ hiU ≤ gX0) := Lib.hid (.inl (Nat.lt_of_lt_of_le YX0.out HQL.out.1))
      have DKX1_U : Hid (gX1 < loU ∨ hiU ≤ gX1) := Lib.hid (.inl (Nat.lt_of_lt_of_le YX1.out HQL.out.1))
      have DKV_U : Hid (gV < loU ∨ hiU ≤ gV) := Lib.hid (.inl (Nat.lt_of_lt_of_le YV.out HQL.out.1))
      have KU_0 := HQK
      have DKU_U : Hid (gU < loU ∨ hiU ≤ gU) := HQA
      have DKU_W : Hid (gU < loW ∨ hiW ≤ gU) := Lib.hid (.inr (Nat.le_trans ZW.out HQZ.out))
      have DKU_V : Hid (gU < w7.heap.size ∨ w8.heap.size ≤ gU) := Lib.hid (.inr (Nat.le_trans ZV.out HQZ.out))
      clear HQO HQL HQN HQG HQK HQA HQZ ZW ZV YA0 YA1 YW YX0 YX1 YV
      obtain ⟨cA00, cA01, cA02, cA03⟩ := cells4 KA0_20.out
      obtain ⟨cA10, cA11, cA12, cA13⟩ := cells4 KA1_20.out
      obtain ⟨cW0, cW1, cW2, cW3⟩ := cells4 KW_17.out
      obtain ⟨cX00, cX01, cX02, cX03⟩ := cells4 KX0_15.out
      obtain ⟨cX10, cX11, cX12, cX13⟩ := cells4 KX1_13.out
      obtain ⟨cV0, cV1, cV2, cV3⟩ := cells4 KV_11.out
      obtain ⟨cU0, cU1, cU2, cU3⟩ := cells4 KU_0.out
      go_wp2_with fail
      refine (eqMatrix_yes zp zr zc _ _ _ _ _ _ z _ OU_0.out.si OW_17.out.si (by have := MBC.out; omega)).mono ?_
      rintro e w21 ⟨rfl, hb⟩
      clear cA00 cA01 cA02 cA03 cA10 cA11 cA12 cA13 cW0 cW1 cW2 cW3 cX00 cX01 cX02 cX03 cX10 cX11 cX12 cX13 cV0 cV1 cV2 cV3 cU0 cU1 cU2 cU3
      have KA0_21 := Lib.hid (KA0_20.out.below hb KA0_20.out.lt)
      have KA1_21 := Lib.hid (KA1_20.out.below hb KA1_20.out.lt)
      have KW_18 := Lib.hid (KW_17.out.below hb KW_17.out.lt)
      have KX0_16 := Lib.hid (KX0_15.out.below hb KX0_15.out.lt)
      have KX1_14 := Lib.hid (KX1_13.out.below hb KX1_13.out.lt)
      have KV_12 := Lib.hid (KV_11.out.below hb KV_11.out.lt)
      have KU_1 := Lib.hid (KU_0.out.below hb KU_0.out.lt)
      have hsz := hb.size
      have HB21 := Lib.hid (HB20.out.trans (hb.mono HB20.out.size))
      have OW_18 := Lib.hid (OW_17.out.below hb LW_17.out)
      have LW_18 := Lib.hid (Nat.le_trans LW_17.out hsz)
      have OV_13 := Lib.hid (OV_12.out.below hb LV_12.out)
      have LV_13 := Lib.hid (Nat.le_trans LV_12.out hsz)
      have OU_1 := Lib.hid (OU_0.out.below hb LU_0.out)
      have LU_1 := Lib.hid (Nat.le_trans LU_0.out hsz)
      clear OW_17 LW_17 OV_12 LV_12 OU_0 LU_0 HB20 hb hsz
      clear KA0_20 KA1_20 KW_17 KX0_15 KX1_13 KV_11 KU_0
      obtain ⟨cA00, cA01, cA02, cA03⟩ := cells4 KA0_21.out
      obtain ⟨cA10, cA11, cA12, cA13⟩ := cells4 KA1_21.out
      obtain ⟨cW0, cW1, cW2, cW3⟩ := cells4 KW_18.out
      obtain ⟨cX00, cX01, cX02, cX03⟩ := cells4 KX0_16.out
      obtain ⟨cX10, cX11, cX12, cX13⟩ := cells4 KX1_14.out
      obtain ⟨cV0, cV1, cV2, cV3⟩ := cells4 KV_12.out
      obtain ⟨cU0, cU1, cU2, cU3⟩ := cells4 KU_1.out
      go_wp2_with fail
      refine (heldMatrix_yes zp zr zc _ _ _ 1 _ OV_13.out.si (by omega) (by omega) (by omega)).mono ?_
      rintro e w22 ⟨rfl, hb⟩
      clear cA00 cA01 cA02 cA03 cA10 cA11 cA12 cA13 cW0 cW1 cW2 cW3 cX00 cX01 cX02 cX03 cX10 cX11 cX12 cX13 cV0 cV1 cV2 cV3 cU0 cU1 cU2 cU3
      have KA0_22 := Lib.hid (KA0_21.out.below hb KA0_21.out.lt)
      have KA1_22 := Lib.hid (KA1_21.out.below hb KA1_21.out.lt)
      have KW_19 := Lib.hid (KW_18.out.below hb KW_18.out.lt)
      have KX0_17 := Lib.hid (KX0_16.out.below hb KX0_16.out.lt)
      have KX1_15 := Lib.hid (KX1_14.out.below hb KX1_14.out.lt)
      have KV_13 := Lib.hid (KV_12.out.below hb KV_12.out.lt)
      have KU_2 := Lib.hid (KU_1.out.below hb KU_1.out.lt)
      have hsz := hb.size
      have HB22 := Lib.hid (HB21.out.trans (hb.mono HB21.out.size))
      have OW_19 := Lib.hid (OW_18.out.below hb LW_18.out)
      have LW_19 := Lib.hid (Nat.le_trans LW_18.out hsz)
      have OV_14 := Lib.hid (OV_13.out.below hb LV_13.out)
      have LV_14 := Lib.hid (Nat.le_trans LV_13.out hsz)
      have OU_2 := Lib.hid (OU_1.out.below hb LU_1.out)
      have LU_2 := Lib.hid (Nat.le_trans LU_1.out hsz)
      clear OW_18 LW_18 OV_13 LV_13 OU_1 LU_1 HB21 hb hsz
      clear KA0_21 KA1_21 KW_18 KX0_16 KX1_14 KV_12 KU_1
      rw [← HZ.out]
      go_wp2
      go_ret
      exact ⟨rfl, HBA.out.trans (HB22.out.mono HFIN.out)⟩

set_option maxRecDepth 100000 in
theorem lifted_MeetSpaces (os : Os) (started : os.Started) (H : Type) (enc : TypeId × Value → H) :
    ReturnsInHanded {} Try.checked os 5 .any (Rows.fnExactMeetSpacesSpec.pre6 enc Try.prog Try.f5 Rows.fnExactMeetSpacesRow.domain false) (Rows.fnExactMeetSpacesSpec.post enc Try.prog Try.f5 false true false false) := by
  refine returnsInHanded_of_change (C := Try.checked) own started (by kernel_rfl) Try.func5
    (ChangeSpec.witness6 (enc := enc) (C := Try.checked) false ⟨#[], #[.agg #[.int .i64 0, .int .i64 0, .int .i64 0, .slice none 0 0], .agg #[.int .i64 0, .int .i64 0, .int .i64 0, .slice none 0 0]], []⟩ 8 (by kernel_rfl) (by kernel_rfl) (by kernel_rfl) (by kernel_rfl)) ?_
  intro W base args ds gs before hval0 hW hcnd _
  have hval : ∀ (j : Nat) t v, Try.f5.params[j]? = some t → args[j]? = some v → Value.okWide Try.prog W .any base t v := hval0
  have hW' := hW
  obtain ⟨p, q, hA0, hV, rfl, hfz, hnd⟩ := hW
  have hA : DataW.TrodAll enc Try.prog W 0 (fun _ => true) true Try.f5.params.toList args.toList ds p := hA0
  rw [Try.params5] at hA hval
  obtain ⟨v0, vs0, d0, ds0, p0, q0, hargs, rfl, rfl, h0, r0⟩ := trodAll_cons hA
  obtain ⟨v1, vs1, d1, ds1, p1, q1, rfl, rfl, rfl, h1, r1⟩ := trodAll_cons r0
  obtain ⟨rfl, rfl, rfl⟩ := trodAll_nil r1
  obtain rfl : args = #[v0, v1] := by cases args; simp_all
  obtain ⟨rfl, rfl⟩ := trodVars_none hV
  have ok0 := hval 0 24 v0 rfl rfl
  obtain ⟨cs0, rfl, hsz0⟩ : ∃ cs : Array Value, v0 = .agg cs ∧ cs.size = 4 := by
    unfold Value.okWide at ok0
    rw [Try.underlying24] at ok0
    obtain ⟨cs, e, hz, _⟩ := ok0
    exact ⟨cs, e, by rw [hz]; kernel_rfl⟩
  clear ok0
  have k0 := h0
  have lt0 : ∀ x ∈ p0, x.block < W.heap.size := by obtain ⟨m, hm⟩ := k0; exact DataW.trod_lt m _ _ _ hm
  obtain ⟨P0, R0, C0, A0, n0, c0, y0, rfl, hp0, hn0, _, _, _, hf0⟩ := MX.of_trod hsz0 h0
  have ok1 := hval 1 24 v1 rfl rfl
  obtain ⟨cs1, rfl, hsz1⟩ : ∃ cs : Array Value, v1 = .agg cs ∧ cs.size = 4 := by
    unfold Value.okWide at ok1
    rw [Try.underlying24] at ok1
    obtain ⟨cs, e, hz, _⟩ := ok1
    exact ⟨cs, e, by rw [hz]; kernel_rfl⟩
  clear ok1
  have k1 := h1
  have lt1 : ∀ x ∈ p1, x.block < W.heap.size := by obtain ⟨m, hm⟩ := k1; exact DataW.trod_lt m _ _ _ hm
  obtain ⟨P1, R1, C1, A1, n1, c1, y1, rfl, hp1, hn1, _, _, _, hf1⟩ := MX.of_trod hsz1 h1
  clear hA0 hval0
  refine (walk_MeetSpaces P0 R0 C0 A0 n0 c0 y0 P1 R1 C1 A1 n1 c1 y1 W hp0 hn0 hf0 hp1 hn1 hf1).mono fun e W' ⟨he, bel⟩ => ?_
  subst he
  exact ⟨_, rfl, _, _, _, [], _, [], hW', trodAll_mk1 (shut_bool Try.underlying4 _), (trodAll_cons_mk (Below.trod laidOut (by kernel_rfl) (of_decide_eq_true (by kernel_rfl)) k0 bel lt0) (trodAll_cons_mk (Below.trod laidOut (by kernel_rfl) (of_decide_eq_true (by kernel_rfl)) k1 bel lt1) trodAll_mk0)), rfl, bel.frame _, fun h => by cases h⟩

theorem fnExactMeetSpaces_holds : Rows.FnExactMeetSpacesSaid :=
  OpenClaim.holds_of_wide 5 Try.f5 rfl rfl rfl rfl rfl rfl rfl ⟨rfl, rfl, rfl, rfl, rfl⟩ rfl rfl rfl rfl rfl (by kernel_rfl) Try.func5 (by kernel_rfl)
    (of_decide_eq_true (by kernel_rfl)) (by unfold Func.isWrapper; first | (rw [if_pos (by decide +kernel)]; kernel_rfl) | (rw [if_neg (by decide +kernel)]; exact ⟨rfl, rfl⟩))
    (fun os started H enc _ => lifted_MeetSpaces os started H enc)
end Go.Proofs.Ytfaegfhbbkicgaa
