/-
  FnExactFlagPerm: for every input the law returns true: the program's FlagPerm answers as the specification's, changes no argument, and its answer owns its memory. No conditions.
-/
import Derived.Test.YtdepalpkcmfegaaPkA4
namespace Go.Proofs.Ytdepalpkcmfegaa
open Go.ChangeShapes Go.WideShapes Go.ChangeAt Go.RowKit

set_option maxRecDepth 100000 in
set_option maxHeartbeats 8000000 in
theorem walk_FlagPerm (P0 R0 C0 : Int) (M0 : Option Addr) (e0 f0 : Nat) (y0 : List Int) (wA : World) (hp00 : SI wA M0 e0 y0) (hn0 : e0 ≤ 9223372036854775807) (_hfit0 : Fits y0) :
    Calls Try.prog 8 #[.agg #[.int .i64 P0, .int .i64 R0, .int .i64 C0, .slice M0 e0 f0]] wA fun e w' => e = .returned (.bool true) ∧ Below wA.heap.size wA w' := by
  have HNN0 := Lib.hid hn0
  have YL0 := Lib.hid hp00.1
  clear hn0
  have MBC : Hid ((flgW P0 R0 C0 y0).length ≤ 1000) := Lib.hid (flgW_len _ _ _ _)
  obtain ⟨w, hw0⟩ : ∃ w, w = (wA.alloc (.cells #[.int .i64 P0, .int .i64 R0, .int .i64 C0, .slice M0 e0 f0] 24)) := ⟨_, rfl⟩
  obtain ⟨gA0, hgA0⟩ : ∃ g, g = wA.heap.size := ⟨_, rfl⟩
  have hbA : Below wA.heap.size wA w := by rw [hw0]; go_grown
  have HBA := Lib.hid hbA
  have hp0 := hp00.below hbA (Nat.le_refl _)
  have KA0_0 : Hid (Blk w gA0 24 #[.int .i64 P0, .int .i64 R0, .int .i64 C0, .slice M0 e0 f0]) := Lib.hid (by rw [hw0, hgA0]; have := Blk.new wA 24 #[.int .i64 P0, .int .i64 R0, .int .i64 C0, .slice M0 e0 f0]; simpa using this)
  have HB0 := Lib.hid (Below.refl w.heap.size w)
  have HW0 := Lib.hid hw0
  have HGA0 := Lib.hid hgA0
  have HFIN : Hid (wA.heap.size ≤ w.heap.size) := Lib.hid hbA.size
  clear hw0 hbA hgA0 hp00 
  go_enter Try.func8, Try.ntmps8
  go_upto_region 1 with fail
  rw [← HW0.out, ← HGA0.out]
  obtain ⟨cA00, cA01, cA02, cA03⟩ := cells4 KA0_0.out
  go_wp2_with fail
  refine (szMatrix_any P0 R0 C0 _ _ _ 1048576 _ HNN0.out (by decide) (by decide)).mono ?_
  rintro e w1 ⟨rfl, hb⟩
  clear cA00 cA01 cA02 cA03
  have KA0_1 := Lib.hid (KA0_0.out.below hb KA0_0.out.lt)
  have hsz := hb.size
  have HB1 := Lib.hid (HB0.out.trans (hb.mono HB0.out.size))
  clear HB0 hb hsz
  clear KA0_0
  by_cases hbigM : (1048576 : Int) < (e0 : Int)
  · rw [if_pos hbigM]
    clear hbigM
    go_wp2
    go_ret
    exact ⟨rfl, HBA.out.trans (HB1.out.mono HFIN.out)⟩
  rw [if_neg hbigM]
  obtain ⟨r0, hr0⟩ : ∃ r : Int, r = (1048576 : Int) - (e0 : Int) := ⟨_, rfl⟩
  rw [← hr0]
  have hr0n : ¬ r0 < 0 := by omega
  have hr0b : r0 ≤ 1048576 := by omega
  have SM0 : Hid (e0 ≤ 1048576) := Lib.hid (by omega)
  have YB0 : Hid (y0.length ≤ 1099511627776) := Lib.hid (by have := YL0.out; have := SM0.out; omega)
  clear hr0 hbigM
  obtain ⟨cA00, cA01, cA02, cA03⟩ := cells4 KA0_1.out
  go_wp2_with fail
  refine (toMatrix_any P0 R0 C0 _ _ _ y0 _ (hp0.below HB1.out (Nat.le_refl _)) (by have := SM0.out; omega)).mono ?_
  rintro e w2 ⟨Pp0W, np0W, cp0W, rfl, ho, hb⟩
  clear cA00 cA01 cA02 cA03
  have KA0_2 := Lib.hid (KA0_1.out.below hb KA0_1.out.lt)
  have DKA0_p0W : Hid (gA0 < w1.heap.size ∨ w2.heap.size ≤ gA0) := Lib.hid (.inl KA0_1.out.lt)
  have hsz := hb.size
  have HB2 := Lib.hid (HB1.out.trans (hb.mono HB1.out.size))
  have Op0W_0 := Lib.hid ho
  have Lp0W_0 := Lib.hid (Nat.le_refl w2.heap.size)
  have Np0W := Lib.hid ho.len
  have Gp0W := Lib.hid HB1.out.size
  clear HB1 hb hsz ho
  clear KA0_1
  obtain ⟨cA00, cA01, cA02, cA03⟩ := cells4 KA0_2.out
  go_wp2_with fail
  refine (specFlagPerm_any P0 R0 C0 _ _ _ y0 _ Op0W_0.out.si (by have := Np0W.out; have := YB0.out; omega)).mono ?_
  rintro e w3 ⟨AW, nW, cW, rfl, ho, hb⟩
  clear cA00 cA01 cA02 cA03
  have KA0_3 := Lib.hid (KA0_2.out.below hb KA0_2.out.lt)
  have DKA0_W : Hid (gA0 < w2.heap.size ∨ w3.heap.size ≤ gA0) := Lib.hid (.inl KA0_2.out.lt)
  have hsz := hb.size
  have HB3 := Lib.hid (HB2.out.trans (hb.mono HB2.out.size))
  have Op0W_1 := Lib.hid (Op0W_0.out.below hb Lp0W_0.out)
  have Lp0W_1 := Lib.hid (Nat.le_trans Lp0W_0.out hsz)
  have OW_0 := Lib.hid ho
  have LW_0 := Lib.hid (Nat.le_refl w3.heap.size)
  have NW := Lib.hid ho.len
  have GW := Lib.hid HB2.out.size
  have Dp0W_W : Hid (_ ≤ w2.heap.size) := Lp0W_0
  clear Op0W_0 Lp0W_0 HB2 hb hsz ho
  clear KA0_2
  have EW : nW ≤ 1099511627776 := by have h := NW.out; have := MBC.out; omega
  obtain ⟨cA00, cA01, cA02, cA03⟩ := cells4 KA0_3.out
  go_wp2_with fail
  refine (toMatrix_any P0 R0 C0 _ _ _ y0 _ (hp0.below HB3.out (Nat.le_refl _)) (by have := SM0.out; omega)).mono ?_
  rintro e w4 ⟨Pp0X, np0X, cp0X, rfl, ho, hb⟩
  clear cA00 cA01 cA02 cA03
  have KA0_4 := Lib.hid (KA0_3.out.below hb KA0_3.out.lt)
  have DKA0_p0X : Hid (gA0 < w3.heap.size ∨ w4.heap.size ≤ gA0) := Lib.hid (.inl KA0_3.out.lt)
  have hsz := hb.size
  have HB4 := Lib.hid (HB3.out.trans (hb.mono HB3.out.size))
  have OW_1 := Lib.hid (OW_0.out.below hb LW_0.out)
  have LW_1 := Lib.hid (Nat.le_trans LW_0.out hsz)
  have Op0X_0 := Lib.hid ho
  have Lp0X_0 := Lib.hid (Nat.le_refl w4.heap.size)
  have Np0X := Lib.hid ho.len
  have Gp0X := Lib.hid HB3.out.size
  have DW_p0X : Hid (_ ≤ w3.heap.size) := LW_0
  clear OW_0 LW_0 HB3 hb hsz ho
  clear KA0_3
  obtain ⟨cA00, cA01, cA02, cA03⟩ := cells4 KA0_4.out
  go_upto_region 7 with fail
  clear cA00 cA01 cA02 cA03
  obtain ⟨w5, hwx⟩ : ∃ w5, w5 = w4.alloc (.cells #[.int .i64 P0, .int .i64 R0, .int .i64 C0, .slice Pp0X np0X cp0X] 26) := ⟨_, rfl⟩
  obtain ⟨gX0, hgx⟩ : ∃ g, g = w4.heap.size := ⟨_, rfl⟩
  rw [← hwx, ← hgx]
  have hb : Below w4.heap.size w4 w5 := by rw [hwx]; exact Below.alloc_self _ _
  have KX0_0 : Hid (Blk w5 gX0 26 #[.int .i64 P0, .int .i64 R0, .int .i64 C0, .slice Pp0X np0X cp0X]) := Lib.hid (by rw [hwx, hgx]; exact Blk.new _ _ _)
  have DKX0_W : Hid (gX0 < w2.heap.size ∨ w3.heap.size ≤ gX0) := Lib.hid (.inr (by rw [hgx]; exact LW_1.out))
  have DKX0_p0X : Hid (gX0 < w3.heap.size ∨ w4.heap.size ≤ gX0) := Lib.hid (.inr (by rw [hgx]; exact Lp0X_0.out))
  clear hwx hgx
  have KA0_5 := Lib.hid (KA0_4.out.below hb KA0_4.out.lt)
  have hsz := hb.size
  have HB5 := Lib.hid (HB4.out.trans (hb.mono HB4.out.size))
  have OW_2 := Lib.hid (OW_1.out.below hb LW_1.out)
  have LW_2 := Lib.hid (Nat.le_trans LW_1.out hsz)
  have Op0X_1 := Lib.hid (Op0X_0.out.below hb Lp0X_0.out)
  have Lp0X_1 := Lib.hid (Nat.le_trans Lp0X_0.out hsz)
  clear OW_1 LW_1 Op0X_0 Lp0X_0 HB4 hb hsz
  clear KA0_4
  obtain ⟨cA00, cA01, cA02, cA03⟩ := cells4 KA0_5.out
  obtain ⟨cX00, cX01, cX02, cX03⟩ := cells4 KX0_0.out
  go_wp2_with fail
  refine (implFlagPerm_any P0 R0 C0 _ _ _ y0 _ Op0X_1.out.si (by have := Np0X.out; have := YB0.out; omega) Op0X_1.out.cap).mono ?_
  rintro e w6 ⟨AV, nV, cV, rfl, ho, hb⟩
  clear cA00 cA01 cA02 cA03 cX00 cX01 cX02 cX03
  have KA0_6 := Lib.hid (KA0_5.out.below hb KA0_5.out.lt)
  have KX0_1 := Lib.hid (KX0_0.out.below hb KX0_0.out.lt)
  have DKA0_V : Hid (gA0 < w5.heap.size ∨ w6.heap.size ≤ gA0) := Lib.hid (.inl KA0_5.out.lt)
  have DKX0_V : Hid (gX0 < w5.heap.size ∨ w6.heap.size ≤ gX0) := Lib.hid (.inl KX0_0.out.lt)
  have hsz := hb.size
  have HB6 := Lib.hid (HB5.out.trans (hb.mono HB5.out.size))
  have OW_3 := Lib.hid (OW_2.out.below hb LW_2.out)
  have LW_3 := Lib.hid (Nat.le_trans LW_2.out hsz)
  have Op0X_2 := Lib.hid (Op0X_1.out.below hb Lp0X_1.out)
  have Lp0X_2 := Lib.hid (Nat.le_trans Lp0X_1.out hsz)
  have OV_0 := Lib.hid ho
  have LV_0 := Lib.hid (Nat.le_refl w6.heap.size)
  have NV := Lib.hid ho.len
  have GV := Lib.hid HB5.out.size
  have DW_V : Hid (_ ≤ w5.heap.size) := LW_2
  have Dp0X_V : Hid (_ ≤ w5.heap.size) := Lp0X_1
  clear OW_2 LW_2 Op0X_1 Lp0X_1 HB5 hb hsz ho
  clear KA0_5 KX0_0
  have EV : nV ≤ 1099511627776 := by have h := NV.out; have := MBC.out; omega
  obtain ⟨cA00, cA01, cA02, cA03⟩ := cells4 KA0_6.out
  obtain ⟨cX00, cX01, cX02, cX03⟩ := cells4 KX0_1.out
  go_wp2_with fail
  refine (eqIntS_any _ _ _ _ _ _ (flgW P0 R0 C0 y0) (flgW P0 R0 C0 y0) _ OV_0.out.si OW_3.out.si EV EW).mono ?_
  rintro e w7 ⟨rfl, hd⟩
  clear cA00 cA01 cA02 cA03 cX00 cX01 cX02 cX03
  rw [eqL_self]
  have hb : Below w6.heap.size w6 w7 := hd.below _
  have KA0_7 := Lib.hid (KA0_6.out.below hb KA0_6.out.lt)
  have KX0_2 := Lib.hid (KX0_1.out.below hb KX0_1.out.lt)
  clear hb
  have hb : Below w6.heap.size w6 w7 := hd.below _
  have hsz := hb.size
  have HB7 := Lib.hid (HB6.out.trans (hb.mono HB6.out.size))
  have OW_4 := Lib.hid (OW_3.out.below hb LW_3.out)
  have LW_4 := Lib.hid (Nat.le_trans LW_3.out hsz)
  have Op0X_3 := Lib.hid (Op0X_2.out.below hb Lp0X_2.out)
  have Lp0X_3 := Lib.hid (Nat.le_trans Lp0X_2.out hsz)
  have OV_1 := Lib.hid (OV_0.out.below hb LV_0.out)
  have LV_1 := Lib.hid (Nat.le_trans LV_0.out hsz)
  clear OW_3 LW_3 Op0X_2 Lp0X_2 OV_0 LV_0 HB6 hb hsz hd
  clear KA0_6 KX0_1
  obtain ⟨cA00, cA01, cA02, cA03⟩ := cells4 KA0_7.out
  obtain ⟨cX00, cX01, cX02, cX03⟩ := cells4 KX0_2.out
  go_upto_region 10 with fail
  clear cA00 cA01 cA02 cA03 cX00 cX01 cX02 cX03
  have hq0 : w7.cell? ⟨gX0, 0, none⟩ = some (.int .i64 P0) ∧ w7.cell? ⟨gX0, 1, none⟩ = some (.int .i64 R0) ∧ w7.cell? ⟨gX0, 2, none⟩ = some (.int .i64 C0) ∧ w7.cell? ⟨gX0, 3, none⟩ = some (.slice Pp0X np0X cp0X) ∧ w7.cell? ⟨gA0, 0, none⟩ = some (.int .i64 P0) ∧ w7.cell? ⟨gA0, 1, none⟩ = some (.int .i64 R0) ∧ w7.cell? ⟨gA0, 2, none⟩ = some (.int .i64 C0) ∧ w7.cell? ⟨gA0, 3, none⟩ = some (.slice M0 e0 f0) := by obtain ⟨a0, a1, a2, a3⟩ := cells4 KX0_2.out; obtain ⟨b0, b1, b2, b3⟩ := cells4 KA0_7.out; exact ⟨a0, a1, a2, a3, b0, b1, b2, b3⟩
  have hqd : w7.drew.cell? ⟨gX0, 0, none⟩ = some (.int .i64 P0) ∧ w7.drew.cell? ⟨gX0, 1, none⟩ = some (.int .i64 R0) ∧ w7.drew.cell? ⟨gX0, 2, none⟩ = some (.int .i64 C0) ∧ w7.drew.cell? ⟨gX0, 3, none⟩ = some (.slice Pp0X np0X cp0X) ∧ w7.drew.cell? ⟨gA0, 0, none⟩ = some (.int .i64 P0) ∧ w7.drew.cell? ⟨gA0, 1, none⟩ = some (.int .i64 R0) ∧ w7.drew.cell? ⟨gA0, 2, none⟩ = some (.int .i64 C0) ∧ w7.drew.cell? ⟨gA0, 3, none⟩ = some (.slice M0 e0 f0) := hq0
  have HQ0 := Lib.hid hq0
  have HQD := Lib.hid hqd
  clear hq0 hqd
  have HPD : Hid (SI w7.drew M0 e0 y0) := Lib.hid (hp0.below HB7.out.drew (Nat.le_refl _))
  go_region_held3 (fun w' => w'.cell? ⟨gX0, 0, none⟩ = some (.int .i64 P0) ∧ w'.cell? ⟨gX0, 1, none⟩ = some (.int .i64 R0) ∧ w'.cell? ⟨gX0, 2, none⟩ = some (.int .i64 C0) ∧ w'.cell? ⟨gX0, 3, none⟩ = some (.slice Pp0X np0X cp0X) ∧ w'.cell? ⟨gA0, 0, none⟩ = some (.int .i64 P0) ∧ w'.cell? ⟨gA0, 1, none⟩ = some (.int .i64 R0) ∧ w'.cell? ⟨gA0, 2, none⟩ = some (.int .i64 C0) ∧ w'.cell? ⟨gA0, 3, none⟩ = some (.slice M0 e0 f0))
    (first | with_reducible exact HQD.out | with_reducible exact HQ0.out | with_reducible exact KK4 | with_reducible exact KK5)
    (first
      | (go_at_call 17
         with_reducible refine (toMatrix_any P0 R0 C0 _ _ _ y0 _ HPD.out (by have := SM0.out; omega)).mono ?_
         rintro e w8 ⟨Pyp, nyp, cyp, rfl, ho0, hb0⟩
         have hb : Below w7.heap.size w7 w8 := ((Below.refl _ _).drew).trans hb0
         have ho : Own w8 w7.heap.size w8.heap.size Pyp nyp cyp y0 := ho0
         clear ho0 hb0
         have KA0_8 := Lib.hid (KA0_7.out.below hb KA0_7.out.lt)
         have KX0_3 := Lib.hid (KX0_2.out.below hb KX0_2.out.lt)
         have DKA0_yp : Hid (gA0 < w7.heap.size ∨ w8.heap.size ≤ gA0) := Lib.hid (.inl KA0_7.out.lt)
         have DKX0_yp : Hid (gX0 < w7.heap.size ∨ w8.heap.size ≤ gX0) := Lib.hid (.inl KX0_2.out.lt)
         have hsz := hb.size
         have HB8 := Lib.hid (HB7.out.trans (hb.mono HB7.out.size))
         have OW_5 := Lib.hid (OW_4.out.below hb LW_4.out)
         have LW_5 := Lib.hid (Nat.le_trans LW_4.out hsz)
         have Op0X_4 := Lib.hid (Op0X_3.out.below hb Lp0X_3.out)
         have Lp0X_4 := Lib.hid (Nat.le_trans Lp0X_3.out hsz)
         have OV_2 := Lib.hid (OV_1.out.below hb LV_1.out)
         have LV_2 := Lib.hid (Nat.le_trans LV_1.out hsz)
         have Oyp_0 := Lib.hid ho
         have Lyp_0 := Lib.hid (Nat.le_refl w8.heap.size)
         have Nyp := Lib.hid ho.len
         have Gyp := Lib.hid HB7.out.size
         have DW_yp : Hid (_ ≤ w7.heap.size) := LW_4
         have Dp0X_yp : Hid (_ ≤ w7.heap.size) := Lp0X_3
         have DV_yp : Hid (_ ≤ w7.heap.size) := LV_1
         clear OW_4 LW_4 Op0X_3 Lp0X_3 OV_1 LV_1 HB7 hb hsz ho
         clear KA0_7 KX0_2
         have KK4 : w8.cell? ⟨gX0, 0, none⟩ = some (.int .i64 P0) ∧ w8.cell? ⟨gX0, 1, none⟩ = some (.int .i64 R0) ∧ w8.cell? ⟨gX0, 2, none⟩ = some (.int .i64 C0) ∧ w8.cell? ⟨gX0, 3, none⟩ = some (.slice Pp0X np0X cp0X) ∧ w8.cell? ⟨gA0, 0, none⟩ = some (.int .i64 P0) ∧ w8.cell? ⟨gA0, 1, none⟩ = some (.int .i64 R0) ∧ w8.cell? ⟨gA0, 2, none⟩ = some (.int .i64 C0) ∧ w8.cell? ⟨gA0, 3, none⟩ = some (.slice M0 e0 f0) := by obtain ⟨a0, a1, a2, a3⟩ := cells4 KX0_3.out; obtain ⟨b0, b1, b2, b3⟩ := cells4 KA0_8.out; exact ⟨a0, a1, a2, a3, b0, b1, b2, b3⟩
         have QX := Lib.hid Op0X_4.out.si
         have QY := Lib.hid Oyp_0.out.si)
      | (go_at_call 19
         with_reducible refine (eqMatrix_yes P0 R0 C0 _ _ _ _ _ _ y0 _ QX.out QY.out YB0.out).mono ?_
         rintro e w9 ⟨rfl, hb⟩
         have KA0_9 := Lib.hid (KA0_8.out.below hb KA0_8.out.lt)
         have KX0_4 := Lib.hid (KX0_3.out.below hb KX0_3.out.lt)
         have hsz := hb.size
         have HB9 := Lib.hid (HB8.out.trans (hb.mono HB8.out.size))
         have OW_6 := Lib.hid (OW_5.out.below hb LW_5.out)
         have LW_6 := Lib.hid (Nat.le_trans LW_5.out hsz)
         have Op0X_5 := Lib.hid (Op0X_4.out.below hb Lp0X_4.out)
         have Lp0X_5 := Lib.hid (Nat.le_trans Lp0X_4.out hsz)
         have OV_3 := Lib.hid (OV_2.out.below hb LV_2.out)
         have LV_3 := Lib.hid (Nat.le_trans LV_2.out hsz)
         have Oyp_1 := Lib.hid (Oyp_0.out.below hb Lyp_0.out)
         have Lyp_1 := Lib.hid (Nat.le_trans Lyp_0.out hsz)
         clear OW_5 LW_5 Op0X_4 Lp0X_4 OV_2 LV_2 Oyp_0 Lyp_0 HB8 hb hsz
         clear KA0_8 KX0_3
         have KK5 : w9.cell? ⟨gX0, 0, none⟩ = some (.int .i64 P0) ∧ w9.cell? ⟨gX0, 1, none⟩ = some (.int .i64 R0) ∧ w9.cell? ⟨gX0, 2, none⟩ = some (.int .i64 C0) ∧ w9.cell? ⟨gX0, 3, none⟩ = some (.slice Pp0X np0X cp0X) ∧ w9.cell? ⟨gA0, 0, none⟩ = some (.int .i64 P0) ∧ w9.cell? ⟨gA0, 1, none⟩ = some (.int .i64 R0) ∧ w9.cell? ⟨gA0, 2, none⟩ = some (.int .i64 C0) ∧ w9.cell? ⟨gA0, 3, none⟩ = some (.slice M0 e0 f0) := by obtain ⟨a0, a1, a2, a3⟩ := cells4 KX0_4.out; obtain ⟨b0, b1, b2, b3⟩ := cells4 KA0_9.out; exact ⟨a0, a1, a2, a3, b0, b1, b2, b3⟩))
  clear HQ0 HQD HPD KK4 KK5 QX QY
  obtain ⟨cA00, cA01, cA02, cA03⟩ := cells4 KA0_9.out
  obtain ⟨cX00, cX01, cX02, cX03⟩ := cells4 KX0_4.out
  go_wp2_with fail
  refine (markMatrix_any P0 R0 C0 _ _ _ _ _ y0 1 _ Op0X_5.out Lp0X_5.out (by have := SM0.out; have := Np0X.out; have := YL0.out; omega) (by omega) (by omega)).mono ?_
  rintro e w10 ⟨rfl, ho, hw⟩
  clear cA00 cA01 cA02 cA03 cX00 cX01 cX02 cX03
  have KA0_10 := Lib.hid (Blk.within_ KA0_9.out hw DKA0_p0X.out)
  have KX0_5 := Lib.hid (Blk.within_ KX0_4.out hw DKX0_p0X.out)
  have hsz := hw.size
  have HB10 := Lib.hid (HB9.out.trans (hw.below Gp0X.out HB9.out.size))
  have OW_7 := Lib.hid (OW_6.out.within hw (.inl DW_p0X.out))
  have LW_7 := Lib.hid (Nat.le_trans LW_6.out hsz)
  have Op0X_6 := Lib.hid ho
  have Lp0X_6 := Lib.hid (Nat.le_trans Lp0X_5.out hsz)
  have OV_4 := Lib.hid (OV_3.out.within hw (.inr Dp0X_V.out))
  have LV_4 := Lib.hid (Nat.le_trans LV_3.out hsz)
  clear OW_6 LW_6 Op0X_5 Lp0X_5 OV_3 LV_3 HB9 hw hsz ho
  clear KA0_9 KX0_4
  have hpxn0 : np0X ≤ 1048576 := by have := SM0.out; have := Np0X.out; have := YL0.out; omega
  obtain ⟨k0, hk0⟩ : ∃ z : Int, z = 1 + (np0X : Int) := ⟨_, rfl⟩
  rw [← hk0]
  have hk0b : 0 ≤ k0 ∧ k0 ≤ 100000000 := by omega
  have hk0n : ¬ k0 < 0 := by omega
  clear hk0
  obtain ⟨cA00, cA01, cA02, cA03⟩ := cells4 KA0_10.out
  obtain ⟨cX00, cX01, cX02, cX03⟩ := cells4 KX0_5.out
  go_wp2_with fail
  refine (eqIntS_any _ _ _ _ _ _ (flgW P0 R0 C0 y0) (flgW P0 R0 C0 y0) _ OV_4.out.si OW_7.out.si EV EW).mono ?_
  rintro e w11 ⟨rfl, hd⟩
  clear cA00 cA01 cA02 cA03 cX00 cX01 cX02 cX03
  rw [eqL_self]
  have hb : Below w10.heap.size w10 w11 := hd.below _
  have KA0_11 := Lib.hid (KA0_10.out.below hb KA0_10.out.lt)
  have KX0_6 := Lib.hid (KX0_5.out.below hb KX0_5.out.lt)
  clear hb
  have hb : Below w10.heap.size w10 w11 := hd.below _
  have hsz := hb.size
  have HB11 := Lib.hid (HB10.out.trans (hb.mono HB10.out.size))
  have OW_8 := Lib.hid (OW_7.out.below hb LW_7.out)
  have LW_8 := Lib.hid (Nat.le_trans LW_7.out hsz)
  have Op0X_7 := Lib.hid (Op0X_6.out.below hb Lp0X_6.out)
  have Lp0X_7 := Lib.hid (Nat.le_trans Lp0X_6.out hsz)
  have OV_5 := Lib.hid (OV_4.out.below hb LV_4.out)
  have LV_5 := Lib.hid (Nat.le_trans LV_4.out hsz)
  clear OW_7 LW_7 Op0X_6 Lp0X_6 OV_4 LV_4 HB10 hb hsz hd
  clear KA0_10 KX0_5
  obtain ⟨cA00, cA01, cA02, cA03⟩ := cells4 KA0_11.out
  obtain ⟨cX00, cX01, cX02, cX03⟩ := cells4 KX0_6.out
  go_wp2_with fail
  refine (markIntS_any _ _ _ _ _ (flgW P0 R0 C0 y0) 1 _ OV_5.out EV (by omega) (by omega)).mono ?_
  rintro e w12 ⟨rfl, ho, hg⟩
  clear cA00 cA01 cA02 cA03 cX00 cX01 cX02 cX03
  have hw := Within.of_grown hg (fun g e => OV_5.out.lt g e)
  clear hg
  have KA0_12 := Lib.hid (Blk.within_ KA0_11.out hw DKA0_V.out)
  have KX0_7 := Lib.hid (Blk.within_ KX0_6.out hw DKX0_V.out)
  have hsz := hw.size
  have HB12 := Lib.hid (HB11.out.trans (hw.below GV.out HB11.out.size))
  have OW_9 := Lib.hid (OW_8.out.within hw (.inl DW_V.out))
  have LW_9 := Lib.hid (Nat.le_trans LW_8.out hsz)
  have OV_6 := Lib.hid ho
  have LV_6 := Lib.hid (Nat.le_trans LV_5.out hsz)
  clear OW_8 LW_8 OV_5 LV_5 HB11 hw hsz ho
  clear KA0_11 KX0_6
  have hVn : nV ≤ 1000 := by have := MBC.out; have := NV.out; omega
  obtain ⟨cA00, cA01, cA02, cA03⟩ := cells4 KA0_12.out
  obtain ⟨cX00, cX01, cX02, cX03⟩ := cells4 KX0_7.out
  go_wp2_with fail
  refine (heldIntS_yes _ _ _ 1 _ OV_6.out.si EV (by omega) (by omega)).mono ?_
  rintro e w13 ⟨rfl, hd⟩
  clear cA00 cA01 cA02 cA03 cX00 cX01 cX02 cX03
  have hb : Below w12.heap.size w12 w13 := hd.below _
  have KA0_13 := Lib.hid (KA0_12.out.below hb KA0_12.out.lt)
  have KX0_8 := Lib.hid (KX0_7.out.below hb KX0_7.out.lt)
  clear hb
  have hb : Below w12.heap.size w12 w13 := hd.below _
  have hsz := hb.size
  have HB13 := Lib.hid (HB12.out.trans (hb.mono HB12.out.size))
  have OW_10 := Lib.hid (OW_9.out.below hb LW_9.out)
  have LW_10 := Lib.hid (Nat.le_trans LW_9.out hsz)
  have OV_7 := Lib.hid (OV_6.out.below hb LV_6.out)
  have LV_7 := Lib.hid (Nat.le_trans LV_6.out hsz)
  clear OW_9 LW_9 OV_6 LV_6 HB12 hb hsz hd
  clear KA0_12 KX0_7
  obtain ⟨zz, hz⟩ : ∃ z : Int, z = 1 + (nV : Int) := ⟨_, rfl⟩
  have HZ := Lib.hid hz
  have hzn : ¬ zz < 0 := by omega
  rw [← hz]
  clear hz
  obtain ⟨cA00, cA01, cA02, cA03⟩ := cells4 KA0_13.out
  obtain ⟨cX00, cX01, cX02, cX03⟩ := cells4 KX0_8.out
  go_wp2_with fail
  refine (toMatrix_any P0 R0 C0 _ _ _ y0 _ (hp0.below HB13.out (Nat.le_refl _)) (by have := SM0.out; omega)).mono ?_
  rintro e w14 ⟨Pp0Z, np0Z, cp0Z, rfl, ho, hb⟩
  clear cA00 cA01 cA02 cA03 cX00 cX01 cX02 cX03
  have KA0_14 := Lib.hid (KA0_13.out.below hb KA0_13.out.lt)
  have KX0_9 := Lib.hid (KX0_8.out.below hb KX0_8.out.lt)
  have DKA0_p0Z : Hid (gA0 < w13.heap.size ∨ w14.heap.size ≤ gA0) := Lib.hid (.inl KA0_13.out.lt)
  have DKX0_p0Z : Hid (gX0 < w13.heap.size ∨ w14.heap.size ≤ gX0) := Lib.hid (.inl KX0_8.out.lt)
  have hsz := hb.size
  have HB14 := Lib.hid (HB13.out.trans (hb.mono HB13.out.size))
  have OW_11 := Lib.hid (OW_10.out.below hb LW_10.out)
  have LW_11 := Lib.hid (Nat.le_trans LW_10.out hsz)
  have OV_8 := Lib.hid (OV_7.out.below hb LV_7.out)
  have LV_8 := Lib.hid (Nat.le_trans LV_7.out hsz)
  have Op0Z_0 := Lib.hid ho
  have Lp0Z_0 := Lib.hid (Nat.le_refl w14.heap.size)
  have Np0Z := Lib.hid ho.len
  have Gp0Z := Lib.hid HB13.out.size
  have DW_p0Z : Hid (_ ≤ w13.heap.size) := LW_10
  have DV_p0Z : Hid (_ ≤ w13.heap.size) := LV_7
  clear OW_10 LW_10 OV_7 LV_7 HB13 hb hsz ho
  clear KA0_13 KX0_8
  obtain ⟨cA00, cA01, cA02, cA03⟩ := cells4 KA0_14.out
  obtain ⟨cX00, cX01, cX02, cX03⟩ := cells4 KX0_9.out
  go_wp2_with fail
  refine (implFlagPerm_any P0 R0 C0 _ _ _ y0 _ Op0Z_0.out.si (by have := Np0Z.out; have := YB0.out; omega) Op0Z_0.out.cap).mono ?_
  rintro e w15 ⟨AU, nU, cU, rfl, ho, hb⟩
  clear cA00 cA01 cA02 cA03 cX00 cX01 cX02 cX03
  have KA0_15 := Lib.hid (KA0_14.out.below hb KA0_14.out.lt)
  have KX0_10 := Lib.hid (KX0_9.out.below hb KX0_9.out.lt)
  have DKA0_U : Hid (gA0 < w14.heap.size ∨ w15.heap.size ≤ gA0) := Lib.hid (.inl KA0_14.out.lt)
  have DKX0_U : Hid (gX0 < w14.heap.size ∨ w15.heap.size ≤ gX0) := Lib.hid (.inl KX0_9.out.lt)
  have hsz := hb.size
  have HB15 := Lib.hid (HB14.out.trans (hb.mono HB14.out.size))
  have OW_12 := Lib.hid (OW_11.out.below hb LW_11.out)
  have LW_12 := Lib.hid (Nat.le_trans LW_11.out hsz)
  have OV_9 := Lib.hid (OV_8.out.below hb LV_8.out)
  have LV_9 := Lib.hid (Nat.le_trans LV_8.out hsz)
  have Op0Z_1 := Lib.hid (Op0Z_0.out.below hb Lp0Z_0.out)
  have Lp0Z_1 := Lib.hid (Nat.le_trans Lp0Z_0.out hsz)
  have OU_0 := Lib.hid ho
  have LU_0 := Lib.hid (Nat.le_refl w15.heap.size)
  have NU := Lib.hid ho.len
  have GU := Lib.hid HB14.out.size
  have DW_U : Hid (_ ≤ w14.heap.size) := LW_11
  have DV_U : Hid (_ ≤ w14.heap.size) := LV_8
  have Dp0Z_U : Hid (_ ≤ w14.heap.size) := Lp0Z_0
  clear OW_11 LW_11 OV_8 LV_8 Op0Z_0 Lp0Z_0 HB14 hb hsz ho
  clear KA0_14 KX0_9
  have EU : nU ≤ 1099511627776 := by have h := NU.out; have := MBC.out; omega
  obtain ⟨cA00, cA01, cA02, cA03⟩ := cells4 KA0_15.out
  obtain ⟨cX00, cX01, cX02, cX03⟩ := cells4 KX0_10.out
  go_wp2_with fail
  refine (eqIntS_any _ _ _ _ _ _ (flgW P0 R0 C0 y0) (flgW P0 R0 C0 y0) _ OU_0.out.si OW_12.out.si EU EW).mono ?_
  rintro e w16 ⟨rfl, hd⟩
  clear cA00 cA01 cA02 cA03 cX00 cX01 cX02 cX03
  rw [eqL_self]
  have hb : Below w15.heap.size w15 w16 := hd.below _
  have KA0_16 := Lib.hid (KA0_15.out.below hb KA0_15.out.lt)
  have KX0_11 := Lib.hid (KX0_10.out.below hb KX0_10.out.lt)
  clear hb
  have hb : Below w15.heap.size w15 w16 := hd.below _
  have hsz := hb.size
  have HB16 := Lib.hid (HB15.out.trans (hb.mono HB15.out.size))
  have OW_13 := Lib.hid (OW_12.out.below hb LW_12.out)
  have LW_13 := Lib.hid (Nat.le_trans LW_12.out hsz)
  have OV_10 := Lib.hid (OV_9.out.below hb LV_9.out)
  have LV_10 := Lib.hid (Nat.le_trans LV_9.out hsz)
  have OU_1 := Lib.hid (OU_0.out.below hb LU_0.out)
  have LU_1 := Lib.hid (Nat.le_trans LU_0.out hsz)
  clear OW_12 LW_12 OV_9 LV_9 OU_0 LU_0 HB15 hb hsz hd
  clear KA0_15 KX0_10
  obtain ⟨cA00, cA01, cA02, cA03⟩ := cells4 KA0_16.out
  obtain ⟨cX00, cX01, cX02, cX03⟩ := cells4 KX0_11.out
  go_wp2_with fail
  refine (heldIntS_yes _ _ _ 1 _ OV_10.out.si EV (by omega) (by omega)).mono ?_
  rintro e w17 ⟨rfl, hd⟩
  clear cA00 cA01 cA02 cA03 cX00 cX01 cX02 cX03
  have hb : Below w16.heap.size w16 w17 := hd.below _
  have KA0_17 := Lib.hid (KA0_16.out.below hb KA0_16.out.lt)
  have KX0_12 := Lib.hid (KX0_11.out.below hb KX0_11.out.lt)
  clear hb
  have hb : Below w16.heap.size w16 w17 := hd.below _
  have hsz := hb.size
  have HB17 := Lib.hid (HB16.out.trans (hb.mono HB16.out.size))
  have OW_14 := Lib.hid (OW_13.out.below hb LW_13.out)
  have LW_14 := Lib.hid (Nat.le_trans LW_13.out hsz)
  have OV_11 := Lib.hid (OV_10.out.below hb LV_10.out)
  have LV_11 := Lib.hid (Nat.le_trans LV_10.out hsz)
  have OU_2 := Lib.hid (OU_1.out.below hb LU_1.out)
  have LU_2 := Lib.hid (Nat.le_trans LU_1.out hsz)
  clear OW_13 LW_13 OV_10 LV_10 OU_1 LU_1 HB16 hb hsz hd
  clear KA0_16 KX0_11
  rw [← HZ.out]
  go_wp2
  go_ret
  exact ⟨rfl, HBA.out.trans (HB17.out.mono HFIN.out)⟩

set_option maxRecDepth 100000 in
theorem lifted_FlagPerm (os : Os) (started : os.Started) (H : Type) (enc : TypeId × Value → H) :
    ReturnsInHanded {} Try.checked os 8 .any (Rows.fnExactFlagPermSpec.pre6 enc Try.prog Try.f8 Rows.fnExactFlagPermRow.domain false) (Rows.fnExactFlagPermSpec.post enc Try.prog Try.f8 false true false false) := by
  refine returnsInHanded_of_change (C := Try.checked) own started (by kernel_rfl) Try.func8
    (ChangeSpec.witness6 (enc := enc) (C := Try.checked) false ⟨#[], #[.agg #[.int .i64 0, .int .i64 0, .int .i64 0, .slice none 0 0]], []⟩ 8 (by kernel_rfl) (by kernel_rfl) (by kernel_rfl) (by kernel_rfl)) ?_
  intro W base args ds gs before hval0 hW hcnd _
  have hval : ∀ (j : Nat) t v, Try.f8.params[j]? = some t → args[j]? = some v → Value.okWide Try.prog W .any base t v := hval0
  have hW' := hW
  obtain ⟨p, q, hA0, hV, rfl, hfz, hnd⟩ := hW
  have hA : DataW.TrodAll enc Try.prog W 0 (fun _ => true) true Try.f8.params.toList args.toList ds p := hA0
  rw [Try.params8] at hA hval
  obtain ⟨v0, vs0, d0, ds0, p0, q0, hargs, rfl, rfl, h0, r0⟩ := trodAll_cons hA
  obtain ⟨rfl, rfl, rfl⟩ := trodAll_nil r0
  obtain rfl : args = #[v0] := by cases args; simp_all
  obtain ⟨rfl, rfl⟩ := trodVars_none hV
  have ok0 := hval 0 24 v0 rfl rfl
  obtain ⟨cs0, rfl, hsz0⟩ : ∃ cs : Array Value, v0 = .agg cs ∧ cs.size = 4 := by
    unfold Value.okWide at ok0
    rw [Try.underlying24] at ok0
    obtain ⟨cs, e, hz, _⟩ := ok0
    exact ⟨cs, e, by rw [hz]; kernel_rfl⟩
  clear ok0
  have k0 := h0
  have lt0 : ∀ x ∈ p0, x.block < W.heap.size := by obtain ⟨m, hm⟩ := k0; exact DataW.trod_lt m _ _ _ hm
  obtain ⟨P0, R0, C0, A0, n0, c0, y0, rfl, hp0, hn0, _, _, _, hf0⟩ := MX.of_trod hsz0 h0
  clear hA0 hval0
  refine (walk_FlagPerm P0 R0 C0 A0 n0 c0 y0 W hp0 hn0 hf0).mono fun e W' ⟨he, bel⟩ => ?_
  subst he
  exact ⟨_, rfl, _, _, _, [], _, [], hW', trodAll_mk1 (shut_bool Try.underlying4 _), (trodAll_cons_mk (Below.trod laidOut (by kernel_rfl) (of_decide_eq_true (by kernel_rfl)) k0 bel lt0) trodAll_mk0), rfl, bel.frame _, fun h => by cases h⟩

theorem fnExactFlagPerm_holds : Rows.FnExactFlagPermSaid :=
  OpenClaim.holds_of_wide 8 Try.f8 rfl rfl rfl rfl rfl rfl rfl ⟨rfl, rfl, rfl, rfl, rfl⟩ rfl rfl rfl rfl rfl (by kernel_rfl) Try.func8 (by kernel_rfl)
    (of_decide_eq_true (by kernel_rfl)) (by unfold Func.isWrapper; first | (rw [if_pos (by decide +kernel)]; kernel_rfl) | (rw [if_neg (by decide +kernel)]; exact ⟨rfl, rfl⟩))
    (fun os started H enc _ => lifted_FlagPerm os started H enc)
end Go.Proofs.Ytdepalpkcmfegaa
