/-
  FnExactWrapShape: for every input the law returns true: the program's WrapShape answers as the specification's, changes no argument, and its answer owns its memory. No conditions.
-/
import Derived.Test.YtdiiaallklkomaaPkB2
namespace Go.Proofs.Ytdiiaallklkomaa
open Go.ChangeShapes Go.WideShapes Go.ChangeAt Go.RowKit

set_option maxRecDepth 100000 in
set_option maxHeartbeats 4000000 in
theorem walk_WrapShape (B0 : Option Addr) (m0 d0 : Nat) (xs0 : List Int) (a1 : Int) (a2 : Int) (wA : World) (hs00 : SI wA B0 m0 xs0) (_fit0 : Fits xs0) (_ha1 : -9223372036854775808 ≤ a1 ∧ a1 ≤ 9223372036854775807) (_ha2 : -9223372036854775808 ≤ a2 ∧ a2 ≤ 9223372036854775807) :
    Calls Try.prog 3 #[.slice B0 m0 d0, .int .i64 a1, .int .i64 a2] wA fun e w' => e = .returned (.bool true) ∧ Below wA.heap.size wA w' := by
  obtain ⟨zp, zs, z, zt, hzz⟩ := wrp_ex xs0 a1 a2
  have HZZ := Lib.hid hzz
  have MBC : Hid (z.length ≤ 1000) := Lib.hid hzz.len
  clear hzz
  by_cases hbig0 : 1048576 < m0
  · go_enter Try.func3, Try.ntmps3
    go_wp2
    go_ret
    exact ⟨rfl, Below.refl _ _⟩
  obtain ⟨w, hw0⟩ : ∃ w, w = wA := ⟨_, rfl⟩
  subst hw0
  have hs0 := hs00
  clear hs00
  have HB0 := Lib.hid (Below.refl w.heap.size w)
  go_enter Try.func3, Try.ntmps3
  go_wp2_with fail
  refine (toIntS_fr _ _ _ xs0 _ (hs0.below HB0.out (Nat.le_refl _)) (by omega)).mono ?_
  rintro e w1 ⟨Aq0W, nq0W, cq0W, rfl, ho, hb⟩
  have hsz := hb.size
  have HB1 := Lib.hid (HB0.out.trans (hb.mono HB0.out.size))
  have Oq0W_0 := Lib.hid ho
  have Lq0W_0 := Lib.hid (Nat.le_refl w1.heap.size)
  have Nq0W := Lib.hid ho.len
  have Gq0W := Lib.hid HB0.out.size
  clear HB0 hb hsz ho
  have Eq0W : nq0W ≤ 1099511627776 := by have := Nq0W.out; have := hs0.1; omega
  go_wp2_with fail
  refine (specWrap_z _ _ _ xs0 a1 a2 _ Oq0W_0.out.si Oq0W_0.out.cap Eq0W zp zs z zt HZZ.out).mono ?_
  rintro e w2 ⟨PW, nW, cW, rfl, ho, hb⟩
  have hsz := hb.size
  have HB2 := Lib.hid (HB1.out.trans (hb.mono HB1.out.size))
  have Oq0W_1 := Lib.hid (Oq0W_0.out.below hb Lq0W_0.out)
  have Lq0W_1 := Lib.hid (Nat.le_trans Lq0W_0.out hsz)
  have OW_0 := Lib.hid ho
  have LW_0 := Lib.hid (Nat.le_refl w2.heap.size)
  have NW := Lib.hid ho.len
  have GW := Lib.hid HB1.out.size
  have Dq0W_W : Hid (_ ≤ w1.heap.size) := Lq0W_0
  clear Oq0W_0 Lq0W_0 HB1 hb hsz ho
  go_upto_region 4 with fail
  obtain ⟨w3, hwx⟩ : ∃ w3, w3 = w2.alloc (.cells #[.int .i64 zp, .slice PW nW cW, .int .i64 zs] 24) := ⟨_, rfl⟩
  obtain ⟨gW, hgx⟩ : ∃ g, g = w2.heap.size := ⟨_, rfl⟩
  rw [← hwx, ← hgx]
  have hb : Below w2.heap.size w2 w3 := by rw [hwx]; exact Below.alloc_self _ _
  have KW_0 : Hid (Blk w3 gW 24 #[.int .i64 zp, .slice PW nW cW, .int .i64 zs]) := Lib.hid (by rw [hwx, hgx]; exact Blk.new _ _ _)
  have DKW_q0W : Hid (gW < w.heap.size ∨ w1.heap.size ≤ gW) := Lib.hid (.inr (by rw [hgx]; exact Lq0W_1.out))
  have DKW_W : Hid (gW < w1.heap.size ∨ w2.heap.size ≤ gW) := Lib.hid (.inr (by rw [hgx]; exact LW_0.out))
  clear hwx hgx
  have hsz := hb.size
  have HB3 := Lib.hid (HB2.out.trans (hb.mono HB2.out.size))
  have Oq0W_2 := Lib.hid (Oq0W_1.out.below hb Lq0W_1.out)
  have Lq0W_2 := Lib.hid (Nat.le_trans Lq0W_1.out hsz)
  have OW_1 := Lib.hid (OW_0.out.below hb LW_0.out)
  have LW_1 := Lib.hid (Nat.le_trans LW_0.out hsz)
  clear Oq0W_1 Lq0W_1 OW_0 LW_0 HB2 hb hsz
  obtain ⟨cW0, cW1, cW2⟩ := cells3 KW_0.out
  go_wp2_with fail
  refine (toIntS_fr _ _ _ xs0 _ (hs0.below HB3.out (Nat.le_refl _)) (by omega)).mono ?_
  rintro e w4 ⟨Aq0X, nq0X, cq0X, rfl, ho, hb⟩
  clear cW0 cW1 cW2
  have KW_1 := Lib.hid (KW_0.out.below hb KW_0.out.lt)
  have DKW_q0X : Hid (gW < w3.heap.size ∨ w4.heap.size ≤ gW) := Lib.hid (.inl KW_0.out.lt)
  have hsz := hb.size
  have HB4 := Lib.hid (HB3.out.trans (hb.mono HB3.out.size))
  have OW_2 := Lib.hid (OW_1.out.below hb LW_1.out)
  have LW_2 := Lib.hid (Nat.le_trans LW_1.out hsz)
  have Oq0X_0 := Lib.hid ho
  have Lq0X_0 := Lib.hid (Nat.le_refl w4.heap.size)
  have Nq0X := Lib.hid ho.len
  have Gq0X := Lib.hid HB3.out.size
  have DW_q0X : Hid (_ ≤ w3.heap.size) := LW_1
  clear OW_1 LW_1 HB3 hb hsz ho
  clear KW_0
  have Eq0X : nq0X ≤ 1099511627776 := by have := Nq0X.out; have := hs0.1; omega
  obtain ⟨cW0, cW1, cW2⟩ := cells3 KW_1.out
  go_wp2_with fail
  refine (implWrap_z _ _ _ xs0 a1 a2 _ Oq0X_0.out.si Eq0X zp zs z zt HZZ.out).mono ?_
  rintro e w5 ⟨PV, nV, cV, rfl, ho, hb⟩
  clear cW0 cW1 cW2
  have KW_2 := Lib.hid (KW_1.out.below hb KW_1.out.lt)
  have DKW_V : Hid (gW < w4.heap.size ∨ w5.heap.size ≤ gW) := Lib.hid (.inl KW_1.out.lt)
  have hsz := hb.size
  have HB5 := Lib.hid (HB4.out.trans (hb.mono HB4.out.size))
  have OW_3 := Lib.hid (OW_2.out.below hb LW_2.out)
  have LW_3 := Lib.hid (Nat.le_trans LW_2.out hsz)
  have Oq0X_1 := Lib.hid (Oq0X_0.out.below hb Lq0X_0.out)
  have Lq0X_1 := Lib.hid (Nat.le_trans Lq0X_0.out hsz)
  have OV_0 := Lib.hid ho
  have LV_0 := Lib.hid (Nat.le_refl w5.heap.size)
  have NV := Lib.hid ho.len
  have GV := Lib.hid HB4.out.size
  have DW_V : Hid (_ ≤ w4.heap.size) := LW_2
  have Dq0X_V : Hid (_ ≤ w4.heap.size) := Lq0X_0
  clear OW_2 LW_2 Oq0X_0 Lq0X_0 HB4 hb hsz ho
  clear KW_1
  obtain ⟨cW0, cW1, cW2⟩ := cells3 KW_2.out
  go_upto_region 6 with fail
  clear cW0 cW1 cW2
  obtain ⟨w6, hwx⟩ : ∃ w6, w6 = w5.alloc (.cells #[.int .i64 zp, .slice PV nV cV, .int .i64 zs] 24) := ⟨_, rfl⟩
  obtain ⟨gV, hgx⟩ : ∃ g, g = w5.heap.size := ⟨_, rfl⟩
  rw [← hwx, ← hgx]
  have hb : Below w5.heap.size w5 w6 := by rw [hwx]; exact Below.alloc_self _ _
  have KV_0 : Hid (Blk w6 gV 24 #[.int .i64 zp, .slice PV nV cV, .int .i64 zs]) := Lib.hid (by rw [hwx, hgx]; exact Blk.new _ _ _)
  have DKV_W : Hid (gV < w1.heap.size ∨ w2.heap.size ≤ gV) := Lib.hid (.inr (by rw [hgx]; exact LW_3.out))
  have DKV_q0X : Hid (gV < w3.heap.size ∨ w4.heap.size ≤ gV) := Lib.hid (.inr (by rw [hgx]; exact Lq0X_1.out))
  have DKV_V : Hid (gV < w4.heap.size ∨ w5.heap.size ≤ gV) := Lib.hid (.inr (by rw [hgx]; exact LV_0.out))
  clear hwx hgx
  have KW_3 := Lib.hid (KW_2.out.below hb KW_2.out.lt)
  have hsz := hb.size
  have HB6 := Lib.hid (HB5.out.trans (hb.mono HB5.out.size))
  have OW_4 := Lib.hid (OW_3.out.below hb LW_3.out)
  have LW_4 := Lib.hid (Nat.le_trans LW_3.out hsz)
  have Oq0X_2 := Lib.hid (Oq0X_1.out.below hb Lq0X_1.out)
  have Lq0X_2 := Lib.hid (Nat.le_trans Lq0X_1.out hsz)
  have OV_1 := Lib.hid (OV_0.out.below hb LV_0.out)
  have LV_1 := Lib.hid (Nat.le_trans LV_0.out hsz)
  clear OW_3 LW_3 Oq0X_1 Lq0X_1 OV_0 LV_0 HB5 hb hsz
  clear KW_2
  obtain ⟨cW0, cW1, cW2⟩ := cells3 KW_3.out
  obtain ⟨cV0, cV1, cV2⟩ := cells3 KV_0.out
  go_wp2_with fail
  refine (eqQPart_yes zp zs _ _ _ _ _ _ z _ OV_1.out.si OW_4.out.si (by have := MBC.out; omega)).mono ?_
  rintro e w7 ⟨rfl, hb⟩
  clear cW0 cW1 cW2 cV0 cV1 cV2
  have KW_4 := Lib.hid (KW_3.out.below hb KW_3.out.lt)
  have KV_1 := Lib.hid (KV_0.out.below hb KV_0.out.lt)
  have hsz := hb.size
  have HB7 := Lib.hid (HB6.out.trans (hb.mono HB6.out.size))
  have OW_5 := Lib.hid (OW_4.out.below hb LW_4.out)
  have LW_5 := Lib.hid (Nat.le_trans LW_4.out hsz)
  have Oq0X_3 := Lib.hid (Oq0X_2.out.below hb Lq0X_2.out)
  have Lq0X_3 := Lib.hid (Nat.le_trans Lq0X_2.out hsz)
  have OV_2 := Lib.hid (OV_1.out.below hb LV_1.out)
  have LV_2 := Lib.hid (Nat.le_trans LV_1.out hsz)
  clear OW_4 LW_4 Oq0X_2 Lq0X_2 OV_1 LV_1 HB6 hb hsz
  clear KW_3 KV_0
  obtain ⟨cW0, cW1, cW2⟩ := cells3 KW_4.out
  obtain ⟨cV0, cV1, cV2⟩ := cells3 KV_1.out
  go_wp2_with fail
  refine (toIntS_fr _ _ _ xs0 _ (hs0.below HB7.out (Nat.le_refl _)) (by omega)).mono ?_
  rintro e w8 ⟨Ayq, nyq, cyq, rfl, ho, hb⟩
  clear cW0 cW1 cW2 cV0 cV1 cV2
  have KW_5 := Lib.hid (KW_4.out.below hb KW_4.out.lt)
  have KV_2 := Lib.hid (KV_1.out.below hb KV_1.out.lt)
  have DKW_yq : Hid (gW < w7.heap.size ∨ w8.heap.size ≤ gW) := Lib.hid (.inl KW_4.out.lt)
  have DKV_yq : Hid (gV < w7.heap.size ∨ w8.heap.size ≤ gV) := Lib.hid (.inl KV_1.out.lt)
  have hsz := hb.size
  have HB8 := Lib.hid (HB7.out.trans (hb.mono HB7.out.size))
  have OW_6 := Lib.hid (OW_5.out.below hb LW_5.out)
  have LW_6 := Lib.hid (Nat.le_trans LW_5.out hsz)
  have Oq0X_4 := Lib.hid (Oq0X_3.out.below hb Lq0X_3.out)
  have Lq0X_4 := Lib.hid (Nat.le_trans Lq0X_3.out hsz)
  have OV_3 := Lib.hid (OV_2.out.below hb LV_2.out)
  have LV_3 := Lib.hid (Nat.le_trans LV_2.out hsz)
  have Oyq_0 := Lib.hid ho
  have Lyq_0 := Lib.hid (Nat.le_refl w8.heap.size)
  have Nyq := Lib.hid ho.len
  have Gyq := Lib.hid HB7.out.size
  have DW_yq : Hid (_ ≤ w7.heap.size) := LW_5
  have Dq0X_yq : Hid (_ ≤ w7.heap.size) := Lq0X_3
  have DV_yq : Hid (_ ≤ w7.heap.size) := LV_2
  clear OW_5 LW_5 Oq0X_3 Lq0X_3 OV_2 LV_2 HB7 hb hsz ho
  clear KW_4 KV_1
  have Eyq : nyq ≤ 1099511627776 := by have := Nyq.out; have := hs0.1; omega
  obtain ⟨cW0, cW1, cW2⟩ := cells3 KW_5.out
  obtain ⟨cV0, cV1, cV2⟩ := cells3 KV_2.out
  go_wp2_with fail
  refine (eqIntS_any _ _ _ _ _ _ xs0 xs0 _ Oq0X_4.out.si Oyq_0.out.si Eq0X Eyq).mono ?_
  rintro e w9 ⟨rfl, hd⟩
  clear cW0 cW1 cW2 cV0 cV1 cV2
  rw [eqL_self]
  have hb : Below w8.heap.size w8 w9 := hd.below _
  have KW_6 := Lib.hid (KW_5.out.below hb KW_5.out.lt)
  have KV_3 := Lib.hid (KV_2.out.below hb KV_2.out.lt)
  clear hb
  have hb : Below w8.heap.size w8 w9 := hd.below _
  have hsz := hb.size
  have HB9 := Lib.hid (HB8.out.trans (hb.mono HB8.out.size))
  have OW_7 := Lib.hid (OW_6.out.below hb LW_6.out)
  have LW_7 := Lib.hid (Nat.le_trans LW_6.out hsz)
  have Oq0X_5 := Lib.hid (Oq0X_4.out.below hb Lq0X_4.out)
  have Lq0X_5 := Lib.hid (Nat.le_trans Lq0X_4.out hsz)
  have OV_4 := Lib.hid (OV_3.out.below hb LV_3.out)
  have LV_4 := Lib.hid (Nat.le_trans LV_3.out hsz)
  have Oyq_1 := Lib.hid (Oyq_0.out.below hb Lyq_0.out)
  have Lyq_1 := Lib.hid (Nat.le_trans Lyq_0.out hsz)
  clear OW_6 LW_6 Oq0X_4 Lq0X_4 OV_3 LV_3 Oyq_0 Lyq_0 HB8 hb hsz hd
  clear KW_5 KV_2
  obtain ⟨cW0, cW1, cW2⟩ := cells3 KW_6.out
  obtain ⟨cV0, cV1, cV2⟩ := cells3 KV_3.out
  go_wp2_with fail
  refine (markIntS_any _ _ _ _ _ xs0 1 _ Oq0X_5.out Eq0X (by omega) (by omega)).mono ?_
  rintro e w10 ⟨rfl, ho, hg⟩
  clear cW0 cW1 cW2 cV0 cV1 cV2
  have hw := Within.of_grown hg (fun g e => Oq0X_5.out.lt g e)
  clear hg
  have KW_7 := Lib.hid (Blk.within_ KW_6.out hw DKW_q0X.out)
  have KV_4 := Lib.hid (Blk.within_ KV_3.out hw DKV_q0X.out)
  have hsz := hw.size
  have HB10 := Lib.hid (HB9.out.trans (hw.below Gq0X.out HB9.out.size))
  have OW_8 := Lib.hid (OW_7.out.within hw (.inl DW_q0X.out))
  have LW_8 := Lib.hid (Nat.le_trans LW_7.out hsz)
  have Oq0X_6 := Lib.hid ho
  have Lq0X_6 := Lib.hid (Nat.le_trans Lq0X_5.out hsz)
  have OV_5 := Lib.hid (OV_4.out.within hw (.inr Dq0X_V.out))
  have LV_5 := Lib.hid (Nat.le_trans LV_4.out hsz)
  clear OW_7 LW_7 Oq0X_5 Lq0X_5 OV_4 LV_4 HB9 hw hsz ho
  clear KW_6 KV_3
  have hx0 : nq0X ≤ 1048576 := by have := Nq0X.out; have := hs0.1; omega
  obtain ⟨k1, hk1⟩ : ∃ z : Int, z = 1 + (nq0X : Int) := ⟨_, rfl⟩
  rw [← hk1]
  have hk1b : 0 ≤ k1 ∧ k1 ≤ 200000000 := by omega
  have hk1n : ¬ k1 < 0 := by omega
  clear hk1
  obtain ⟨cW0, cW1, cW2⟩ := cells3 KW_7.out
  obtain ⟨cV0, cV1, cV2⟩ := cells3 KV_4.out
  go_wp2_with fail
  refine (eqQPart_yes zp zs _ _ _ _ _ _ z _ OV_5.out.si OW_8.out.si (by have := MBC.out; omega)).mono ?_
  rintro e w11 ⟨rfl, hb⟩
  clear cW0 cW1 cW2 cV0 cV1 cV2
  have KW_8 := Lib.hid (KW_7.out.below hb KW_7.out.lt)
  have KV_5 := Lib.hid (KV_4.out.below hb KV_4.out.lt)
  have hsz := hb.size
  have HB11 := Lib.hid (HB10.out.trans (hb.mono HB10.out.size))
  have OW_9 := Lib.hid (OW_8.out.below hb LW_8.out)
  have LW_9 := Lib.hid (Nat.le_trans LW_8.out hsz)
  have Oq0X_7 := Lib.hid (Oq0X_6.out.below hb Lq0X_6.out)
  have Lq0X_7 := Lib.hid (Nat.le_trans Lq0X_6.out hsz)
  have OV_6 := Lib.hid (OV_5.out.below hb LV_5.out)
  have LV_6 := Lib.hid (Nat.le_trans LV_5.out hsz)
  clear OW_8 LW_8 Oq0X_6 Lq0X_6 OV_5 LV_5 HB10 hb hsz
  clear KW_7 KV_4
  obtain ⟨cW0, cW1, cW2⟩ := cells3 KW_8.out
  obtain ⟨cV0, cV1, cV2⟩ := cells3 KV_5.out
  go_wp2_with fail
  refine (markQPart_any zp zs _ _ _ _ _ z 1 _ OV_6.out LV_6.out (by have := MBC.out; have := NV.out; omega) (by omega) (by omega)).mono ?_
  rintro e w12 ⟨rfl, ho, hw⟩
  clear cW0 cW1 cW2 cV0 cV1 cV2
  have KW_9 := Lib.hid (Blk.within_ KW_8.out hw DKW_V.out)
  have KV_6 := Lib.hid (Blk.within_ KV_5.out hw DKV_V.out)
  have hsz := hw.size
  have HB12 := Lib.hid (HB11.out.trans (hw.below GV.out HB11.out.size))
  have OW_10 := Lib.hid (OW_9.out.within hw (.inl DW_V.out))
  have LW_10 := Lib.hid (Nat.le_trans LW_9.out hsz)
  have OV_7 := Lib.hid ho
  have LV_7 := Lib.hid (Nat.le_trans LV_6.out hsz)
  clear OW_9 LW_9 OV_6 LV_6 HB11 hw hsz ho
  clear KW_8 KV_5
  have hVn : nV ≤ 1000 := by have := MBC.out; have := NV.out; omega
  obtain ⟨cW0, cW1, cW2⟩ := cells3 KW_9.out
  obtain ⟨cV0, cV1, cV2⟩ := cells3 KV_6.out
  go_wp2_with fail
  refine (heldQPart_yes zp zs _ _ _ 1 _ OV_7.out.si (by omega) (by omega) (by omega)).mono ?_
  rintro e w13 ⟨rfl, hb⟩
  clear cW0 cW1 cW2 cV0 cV1 cV2
  have KW_10 := Lib.hid (KW_9.out.below hb KW_9.out.lt)
  have KV_7 := Lib.hid (KV_6.out.below hb KV_6.out.lt)
  have hsz := hb.size
  have HB13 := Lib.hid (HB12.out.trans (hb.mono HB12.out.size))
  have OW_11 := Lib.hid (OW_10.out.below hb LW_10.out)
  have LW_11 := Lib.hid (Nat.le_trans LW_10.out hsz)
  have OV_8 := Lib.hid (OV_7.out.below hb LV_7.out)
  have LV_8 := Lib.hid (Nat.le_trans LV_7.out hsz)
  clear OW_10 LW_10 OV_7 LV_7 HB12 hb hsz
  clear KW_9 KV_6
  obtain ⟨zz, hz⟩ : ∃ z : Int, z = 1 + (nV : Int) := ⟨_, rfl⟩
  have HZ := Lib.hid hz
  have hzn : ¬ zz < 0 := by omega
  rw [← hz]
  clear hz
  obtain ⟨cW0, cW1, cW2⟩ := cells3 KW_10.out
  obtain ⟨cV0, cV1, cV2⟩ := cells3 KV_7.out
  go_wp2_with fail
  refine (toIntS_fr _ _ _ xs0 _ (hs0.below HB13.out (Nat.le_refl _)) (by omega)).mono ?_
  rintro e w14 ⟨Aq0Z, nq0Z, cq0Z, rfl, ho, hb⟩
  clear cW0 cW1 cW2 cV0 cV1 cV2
  have KW_11 := Lib.hid (KW_10.out.below hb KW_10.out.lt)
  have KV_8 := Lib.hid (KV_7.out.below hb KV_7.out.lt)
  have DKW_q0Z : Hid (gW < w13.heap.size ∨ w14.heap.size ≤ gW) := Lib.hid (.inl KW_10.out.lt)
  have DKV_q0Z : Hid (gV < w13.heap.size ∨ w14.heap.size ≤ gV) := Lib.hid (.inl KV_7.out.lt)
  have hsz := hb.size
  have HB14 := Lib.hid (HB13.out.trans (hb.mono HB13.out.size))
  have OW_12 := Lib.hid (OW_11.out.below hb LW_11.out)
  have LW_12 := Lib.hid (Nat.le_trans LW_11.out hsz)
  have OV_9 := Lib.hid (OV_8.out.below hb LV_8.out)
  have LV_9 := Lib.hid (Nat.le_trans LV_8.out hsz)
  have Oq0Z_0 := Lib.hid ho
  have Lq0Z_0 := Lib.hid (Nat.le_refl w14.heap.size)
  have Nq0Z := Lib.hid ho.len
  have Gq0Z := Lib.hid HB13.out.size
  have DW_q0Z : Hid (_ ≤ w13.heap.size) := LW_11
  have DV_q0Z : Hid (_ ≤ w13.heap.size) := LV_8
  clear OW_11 LW_11 OV_8 LV_8 HB13 hb hsz ho
  clear KW_10 KV_7
  have Eq0Z : nq0Z ≤ 1099511627776 := by have := Nq0Z.out; have := hs0.1; omega
  obtain ⟨cW0, cW1, cW2⟩ := cells3 KW_11.out
  obtain ⟨cV0, cV1, cV2⟩ := cells3 KV_8.out
  go_wp2_with fail
  refine (implWrap_z _ _ _ xs0 a1 a2 _ Oq0Z_0.out.si Eq0Z zp zs z zt HZZ.out).mono ?_
  rintro e w15 ⟨PU, nU, cU, rfl, ho, hb⟩
  clear cW0 cW1 cW2 cV0 cV1 cV2
  have KW_12 := Lib.hid (KW_11.out.below hb KW_11.out.lt)
  have KV_9 := Lib.hid (KV_8.out.below hb KV_8.out.lt)
  have DKW_U : Hid (gW < w14.heap.size ∨ w15.heap.size ≤ gW) := Lib.hid (.inl KW_11.out.lt)
  have DKV_U : Hid (gV < w14.heap.size ∨ w15.heap.size ≤ gV) := Lib.hid (.inl KV_8.out.lt)
  have hsz := hb.size
  have HB15 := Lib.hid (HB14.out.trans (hb.mono HB14.out.size))
  have OW_13 := Lib.hid (OW_12.out.below hb LW_12.out)
  have LW_13 := Lib.hid (Nat.le_trans LW_12.out hsz)
  have OV_10 := Lib.hid (OV_9.out.below hb LV_9.out)
  have LV_10 := Lib.hid (Nat.le_trans LV_9.out hsz)
  have Oq0Z_1 := Lib.hid (Oq0Z_0.out.below hb Lq0Z_0.out)
  have Lq0Z_1 := Lib.hid (Nat.le_trans Lq0Z_0.out hsz)
  have OU_0 := Lib.hid ho
  have LU_0 := Lib.hid (Nat.le_refl w15.heap.size)
  have NU := Lib.hid ho.len
  have GU := Lib.hid HB14.out.size
  have DW_U : Hid (_ ≤ w14.heap.size) := LW_12
  have DV_U : Hid (_ ≤ w14.heap.size) := LV_9
  have Dq0Z_U : Hid (_ ≤ w14.heap.size) := Lq0Z_0
  clear OW_12 LW_12 OV_9 LV_9 Oq0Z_0 Lq0Z_0 HB14 hb hsz ho
  clear KW_11 KV_8
  obtain ⟨cW0, cW1, cW2⟩ := cells3 KW_12.out
  obtain ⟨cV0, cV1, cV2⟩ := cells3 KV_9.out
  go_upto_region 23 with fail
  clear cW0 cW1 cW2 cV0 cV1 cV2
  obtain ⟨w16, hwx⟩ : ∃ w16, w16 = w15.alloc (.cells #[.int .i64 zp, .slice PU nU cU, .int .i64 zs] 24) := ⟨_, rfl⟩
  obtain ⟨gU, hgx⟩ : ∃ g, g = w15.heap.size := ⟨_, rfl⟩
  rw [← hwx, ← hgx]
  have hb : Below w15.heap.size w15 w16 := by rw [hwx]; exact Below.alloc_self _ _
  have KU_0 : Hid (Blk w16 gU 24 #[.int .i64 zp, .slice PU nU cU, .int .i64 zs]) := Lib.hid (by rw [hwx, hgx]; exact Blk.new _ _ _)
  have DKU_W : Hid (gU < w1.heap.size ∨ w2.heap.size ≤ gU) := Lib.hid (.inr (by rw [hgx]; exact LW_13.out))
  have DKU_V : Hid (gU < w4.heap.size ∨ w5.heap.size ≤ gU) := Lib.hid (.inr (by rw [hgx]; exact LV_10.out))
  have DKU_q0Z : Hid (gU < w13.heap.size ∨ w14.heap.size ≤ gU) := Lib.hid (.inr (by rw [hgx]; exact Lq0Z_1.out))
  have DKU_U : Hid (gU < w14.heap.size ∨ w15.heap.size ≤ gU) := Lib.hid (.inr (by rw [hgx]; exact LU_0.out))
  clear hwx hgx
  have KW_13 := Lib.hid (KW_12.out.below hb KW_12.out.lt)
  have KV_10 := Lib.hid (KV_9.out.below hb KV_9.out.lt)
  have hsz := hb.size
  have HB16 := Lib.hid (HB15.out.trans (hb.mono HB15.out.size))
  have OW_14 := Lib.hid (OW_13.out.below hb LW_13.out)
  have LW_14 := Lib.hid (Nat.le_trans LW_13.out hsz)
  have OV_11 := Lib.hid (OV_10.out.below hb LV_10.out)
  have LV_11 := Lib.hid (Nat.le_trans LV_10.out hsz)
  have Oq0Z_2 := Lib.hid (Oq0Z_1.out.below hb Lq0Z_1.out)
  have Lq0Z_2 := Lib.hid (Nat.le_trans Lq0Z_1.out hsz)
  have OU_1 := Lib.hid (OU_0.out.below hb LU_0.out)
  have LU_1 := Lib.hid (Nat.le_trans LU_0.out hsz)
  clear OW_13 LW_13 OV_10 LV_10 Oq0Z_1 Lq0Z_1 OU_0 LU_0 HB15 hb hsz
  clear KW_12 KV_9
  obtain ⟨cW0, cW1, cW2⟩ := cells3 KW_13.out
  obtain ⟨cV0, cV1, cV2⟩ := cells3 KV_10.out
  obtain ⟨cU0, cU1, cU2⟩ := cells3 KU_0.out
  go_wp2_with fail
  refine (eqQPart_yes zp zs _ _ _ _ _ _ z _ OU_1.out.si OW_14.out.si (by have := MBC.out; omega)).mono ?_
  rintro e w17 ⟨rfl, hb⟩
  clear cW0 cW1 cW2 cV0 cV1 cV2 cU0 cU1 cU2
  have KW_14 := Lib.hid (KW_13.out.below hb KW_13.out.lt)
  have KV_11 := Lib.hid (KV_10.out.below hb KV_10.out.lt)
  have KU_1 := Lib.hid (KU_0.out.below hb KU_0.out.lt)
  have hsz := hb.size
  have HB17 := Lib.hid (HB16.out.trans (hb.mono HB16.out.size))
  have OW_15 := Lib.hid (OW_14.out.below hb LW_14.out)
  have LW_15 := Lib.hid (Nat.le_trans LW_14.out hsz)
  have OV_12 := Lib.hid (OV_11.out.below hb LV_11.out)
  have LV_12 := Lib.hid (Nat.le_trans LV_11.out hsz)
  have OU_2 := Lib.hid (OU_1.out.below hb LU_1.out)
  have LU_2 := Lib.hid (Nat.le_trans LU_1.out hsz)
  clear OW_14 LW_14 OV_11 LV_11 OU_1 LU_1 HB16 hb hsz
  clear KW_13 KV_10 KU_0
  obtain ⟨cW0, cW1, cW2⟩ := cells3 KW_14.out
  obtain ⟨cV0, cV1, cV2⟩ := cells3 KV_11.out
  obtain ⟨cU0, cU1, cU2⟩ := cells3 KU_1.out
  go_wp2_with fail
  refine (heldQPart_yes zp zs _ _ _ 1 _ OV_12.out.si (by omega) (by omega) (by omega)).mono ?_
  rintro e w18 ⟨rfl, hb⟩
  clear cW0 cW1 cW2 cV0 cV1 cV2 cU0 cU1 cU2
  have KW_15 := Lib.hid (KW_14.out.below hb KW_14.out.lt)
  have KV_12 := Lib.hid (KV_11.out.below hb KV_11.out.lt)
  have KU_2 := Lib.hid (KU_1.out.below hb KU_1.out.lt)
  have hsz := hb.size
  have HB18 := Lib.hid (HB17.out.trans (hb.mono HB17.out.size))
  have OW_16 := Lib.hid (OW_15.out.below hb LW_15.out)
  have LW_16 := Lib.hid (Nat.le_trans LW_15.out hsz)
  have OV_13 := Lib.hid (OV_12.out.below hb LV_12.out)
  have LV_13 := Lib.hid (Nat.le_trans LV_12.out hsz)
  have OU_3 := Lib.hid (OU_2.out.below hb LU_2.out)
  have LU_3 := Lib.hid (Nat.le_trans LU_2.out hsz)
  clear OW_15 LW_15 OV_12 LV_12 OU_2 LU_2 HB17 hb hsz
  clear KW_14 KV_11 KU_1
  rw [← HZ.out]
  go_wp2
  go_ret
  exact ⟨rfl, HB18.out⟩

set_option maxRecDepth 100000 in
theorem lifted_WrapShape (os : Os) (started : os.Started) (H : Type) (enc : TypeId × Value → H) :
    ReturnsInHanded {} Try.checked os 3 .any (Rows.fnExactWrapShapeSpec.pre6 enc Try.prog Try.f3 Rows.fnExactWrapShapeRow.domain false) (Rows.fnExactWrapShapeSpec.post enc Try.prog Try.f3 false true false false) := by
  refine returnsInHanded_of_change (C := Try.checked) own started (by kernel_rfl) Try.func3
    (ChangeSpec.witness6 (enc := enc) (C := Try.checked) false ⟨#[], #[.slice none 0 0, .int .i64 0, .int .i64 0], []⟩ 8 (by kernel_rfl) (by kernel_rfl) (by kernel_rfl) (by kernel_rfl)) ?_
  intro W base args ds gs before hval0 hW hcnd _
  have hval : ∀ (j : Nat) t v, Try.f3.params[j]? = some t → args[j]? = some v → Value.okWide Try.prog W .any base t v := hval0
  have hW' := hW
  obtain ⟨p, q, hA0, hV, rfl, hfz, hnd⟩ := hW
  have hA : DataW.TrodAll enc Try.prog W 0 (fun _ => true) true Try.f3.params.toList args.toList ds p := hA0
  rw [Try.params3] at hA hval
  obtain ⟨v0, vs0, d0, ds0, p0, q0, hargs, rfl, rfl, h0, r0⟩ := trodAll_cons hA
  obtain ⟨v1, vs1, d1, ds1, p1, q1, rfl, rfl, rfl, h1, r1⟩ := trodAll_cons r0
  obtain ⟨v2, vs2, d2, ds2, p2, q2, rfl, rfl, rfl, h2, r2⟩ := trodAll_cons r1
  obtain ⟨rfl, rfl, rfl⟩ := trodAll_nil r2
  obtain rfl : args = #[v0, v1, v2] := by cases args; simp_all
  obtain ⟨rfl, rfl⟩ := trodVars_none hV
  obtain ⟨b0, len0, cap0, rfl⟩ := okWide_slice Try.underlying22 (hval 0 22 v0 rfl rfl)
  have k0 := h0
  have lt0 : ∀ x ∈ p0, x.block < W.heap.size := by obtain ⟨m, hm⟩ := k0; exact DataW.trod_lt m _ _ _ hm
  obtain ⟨xs0, s0, fit0⟩ := SI.of_trod h0
  obtain ⟨a1, rfl, rfl, rfl, wf1⟩ := open_int Try.underlying3 (hval 1 3 v1 rfl rfl) h1
  have hb1 : -9223372036854775808 ≤ a1 ∧ a1 ≤ 9223372036854775807 := by have := bounds_i64 wf1; omega
  obtain ⟨a2, rfl, rfl, rfl, wf2⟩ := open_int Try.underlying3 (hval 2 3 v2 rfl rfl) h2
  have hb2 : -9223372036854775808 ≤ a2 ∧ a2 ≤ 9223372036854775807 := by have := bounds_i64 wf2; omega
  clear hA0 hval0
  refine (walk_WrapShape b0 len0 cap0 xs0 a1 a2 W s0 fit0 hb1 hb2).mono fun e W' ⟨he, bel⟩ => ?_
  subst he
  exact ⟨_, rfl, _, _, _, [], _, [], hW', trodAll_mk1 (shut_bool Try.underlying4 _), (trodAll_cons_mk (Below.trod laidOut (by kernel_rfl) (of_decide_eq_true (by kernel_rfl)) k0 bel lt0) (trodAll_cons_mk (shut_int Try.underlying3 wf1) (trodAll_cons_mk (shut_int Try.underlying3 wf2) trodAll_mk0))), rfl, bel.frame _, fun h => by cases h⟩

theorem fnExactWrapShape_holds : Rows.FnExactWrapShapeSaid :=
  OpenClaim.holds_of_wide 3 Try.f3 rfl rfl rfl rfl rfl rfl rfl ⟨rfl, rfl, rfl, rfl, rfl⟩ rfl rfl rfl rfl rfl (by kernel_rfl) Try.func3 (by kernel_rfl)
    (of_decide_eq_true (by kernel_rfl)) (by unfold Func.isWrapper; first | (rw [if_pos (by decide +kernel)]; kernel_rfl) | (rw [if_neg (by decide +kernel)]; exact ⟨rfl, rfl⟩))
    (fun os started H enc _ => lifted_WrapShape os started H enc)
end Go.Proofs.Ytdiiaallklkomaa
