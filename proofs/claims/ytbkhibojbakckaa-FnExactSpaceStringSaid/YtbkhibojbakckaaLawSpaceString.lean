/-
  FnExactSpaceString: for every input the law returns true: the program's SpaceString answers as the specification's, changes no argument, and its answer owns its memory. No conditions.
-/
import Derived.Test.YtbkhibojbakckaaPkD1
namespace Go.Proofs.Ytbkhibojbakckaa
open Go.ChangeShapes Go.WideShapes Go.ChangeAt Go.RowKit

set_option maxRecDepth 100000 in
set_option maxHeartbeats 4000000 in
theorem walk_SpaceString (P0 R0 C0 : Int) (A1 : Option Addr) (n1 c1 : Nat) (y1 : List Int) (wA : World) (hp0 : SI wA A1 n1 y1) (hn : n1 ≤ 9223372036854775807) (_hfit : Fits y1) :
    Calls Try.prog 4 #[.agg #[.int .i64 P0, .int .i64 R0, .int .i64 C0, .slice A1 n1 c1]] wA fun e w' => e = .returned (.bool true) ∧ Below wA.heap.size wA w' := by
  have HNN := Lib.hid hn
  have YL := Lib.hid hp0.1
  clear hn
  have MBC : Hid ((strS P0 R0 C0 y1).length ≤ 1000) := Lib.hid (strS_len _ _ _ _)
  obtain ⟨w, hw0⟩ : ∃ w, w = wA.alloc (.cells #[.int .i64 P0, .int .i64 R0, .int .i64 C0, .slice A1 n1 c1] 24) := ⟨_, rfl⟩
  obtain ⟨gA, hgA⟩ : ∃ g, g = wA.heap.size := ⟨_, rfl⟩
  have hbA : Below wA.heap.size wA w := by rw [hw0]; exact Below.alloc_self _ _
  have HBA := Lib.hid hbA
  have hp := hp0.below hbA (Nat.le_refl _)
  have KA_0 : Hid (Blk w gA 24 #[.int .i64 P0, .int .i64 R0, .int .i64 C0, .slice A1 n1 c1]) := Lib.hid (by rw [hw0, hgA]; exact Blk.new _ _ _)
  have HB0 := Lib.hid (Below.refl w.heap.size w)
  have HW0 := Lib.hid hw0
  have HGA := Lib.hid hgA
  have HFIN : Hid (wA.heap.size ≤ w.heap.size) := Lib.hid hbA.size
  clear hw0 hgA hbA hp0 
  go_enter Try.func4, Try.ntmps4
  go_upto_region 1 with fail
  rw [← HW0.out, ← HGA.out]
  obtain ⟨cA0, cA1, cA2, cA3⟩ := cells4 KA_0.out
  go_wp2_with fail
  refine (szMatrix_any P0 R0 C0 _ _ _ 1048576 _ HNN.out (by decide) (by decide)).mono ?_
  rintro e w1 ⟨rfl, hb⟩
  clear cA0 cA1 cA2 cA3
  have KA_1 := Lib.hid (KA_0.out.below hb KA_0.out.lt)
  have hsz := hb.size
  have HB1 := Lib.hid (HB0.out.trans (hb.mono HB0.out.size))
  clear HB0 hb hsz
  clear KA_0
  by_cases hbigM : (1048576 : Int) < (n1 : Int)
  · rw [if_pos hbigM]
    clear hbigM
    go_wp2
    go_ret
    exact ⟨rfl, HBA.out.trans (HB1.out.mono HFIN.out)⟩
  rw [if_neg hbigM]
  obtain ⟨r0, hr0⟩ : ∃ r : Int, r = 1048576 - (n1 : Int) := ⟨_, rfl⟩
  rw [← hr0]
  have hr0n : ¬ r0 < 0 := by omega
  have SM : Hid (n1 ≤ 1048576) := Lib.hid (by omega)
  have YB : Hid (y1.length ≤ 1099511627776) := Lib.hid (by have := YL.out; have := SM.out; omega)
  clear hr0 hbigM
  obtain ⟨cA0, cA1, cA2, cA3⟩ := cells4 KA_1.out
  go_wp2_with fail
  refine (toMatrix_any P0 R0 C0 _ _ _ y1 _ (hp.below HB1.out (Nat.le_refl _)) (by have := SM.out; omega)).mono ?_
  rintro e w2 ⟨PpW, npW, cpW, rfl, ho, hb⟩
  clear cA0 cA1 cA2 cA3
  have KA_2 := Lib.hid (KA_1.out.below hb KA_1.out.lt)
  have DKA_pW : Hid (gA < w1.heap.size ∨ w2.heap.size ≤ gA) := Lib.hid (.inl KA_1.out.lt)
  have hsz := hb.size
  have HB2 := Lib.hid (HB1.out.trans (hb.mono HB1.out.size))
  have OpW_0 := Lib.hid ho
  have LpW_0 := Lib.hid (Nat.le_refl w2.heap.size)
  have NpW := Lib.hid ho.len
  have GpW := Lib.hid HB1.out.size
  clear HB1 hb hsz ho
  clear KA_1
  obtain ⟨cA0, cA1, cA2, cA3⟩ := cells4 KA_2.out
  go_wp2_with fail
  refine (specSpaceString_any P0 R0 C0 _ _ _ y1 _ OpW_0.out.si (by have := NpW.out; have := YB.out; omega)).mono ?_
  rintro e w3 ⟨AW, nW, cW, rfl, ho, hb⟩
  clear cA0 cA1 cA2 cA3
  have KA_3 := Lib.hid (KA_2.out.below hb KA_2.out.lt)
  have DKA_W : Hid (gA < w2.heap.size ∨ w3.heap.size ≤ gA) := Lib.hid (.inl KA_2.out.lt)
  have hsz := hb.size
  have HB3 := Lib.hid (HB2.out.trans (hb.mono HB2.out.size))
  have OpW_1 := Lib.hid (OpW_0.out.below hb LpW_0.out)
  have LpW_1 := Lib.hid (Nat.le_trans LpW_0.out hsz)
  have OW_0 := Lib.hid ho
  have LW_0 := Lib.hid (Nat.le_refl w3.heap.size)
  have NW := Lib.hid ho.len
  have GW := Lib.hid HB2.out.size
  have DpW_W : Hid (_ ≤ w2.heap.size) := LpW_0
  clear OpW_0 LpW_0 HB2 hb hsz ho
  clear KA_2
  have EW : nW ≤ 1099511627776 := by have h := NW.out; have := MBC.out; omega
  obtain ⟨cA0, cA1, cA2, cA3⟩ := cells4 KA_3.out
  go_wp2_with fail
  refine (toMatrix_any P0 R0 C0 _ _ _ y1 _ (hp.below HB3.out (Nat.le_refl _)) (by have := SM.out; omega)).mono ?_
  rintro e w4 ⟨PpX, npX, cpX, rfl, ho, hb⟩
  clear cA0 cA1 cA2 cA3
  have KA_4 := Lib.hid (KA_3.out.below hb KA_3.out.lt)
  have DKA_pX : Hid (gA < w3.heap.size ∨ w4.heap.size ≤ gA) := Lib.hid (.inl KA_3.out.lt)
  have hsz := hb.size
  have HB4 := Lib.hid (HB3.out.trans (hb.mono HB3.out.size))
  have OW_1 := Lib.hid (OW_0.out.below hb LW_0.out)
  have LW_1 := Lib.hid (Nat.le_trans LW_0.out hsz)
  have OpX_0 := Lib.hid ho
  have LpX_0 := Lib.hid (Nat.le_refl w4.heap.size)
  have NpX := Lib.hid ho.len
  have GpX := Lib.hid HB3.out.size
  have DW_pX : Hid (_ ≤ w3.heap.size) := LW_0
  clear OW_0 LW_0 HB3 hb hsz ho
  clear KA_3
  obtain ⟨cA0, cA1, cA2, cA3⟩ := cells4 KA_4.out
  go_upto_region 7 with fail
  clear cA0 cA1 cA2 cA3
  obtain ⟨w5, hwx⟩ : ∃ w5, w5 = w4.alloc (.cells #[.int .i64 P0, .int .i64 R0, .int .i64 C0, .slice PpX npX cpX] 27) := ⟨_, rfl⟩
  obtain ⟨gX, hgx⟩ : ∃ g, g = w4.heap.size := ⟨_, rfl⟩
  rw [← hwx, ← hgx]
  have hb : Below w4.heap.size w4 w5 := by rw [hwx]; exact Below.alloc_self _ _
  have KX_0 : Hid (Blk w5 gX 27 #[.int .i64 P0, .int .i64 R0, .int .i64 C0, .slice PpX npX cpX]) := Lib.hid (by rw [hwx, hgx]; exact Blk.new _ _ _)
  have DKX_W : Hid (gX < w2.heap.size ∨ w3.heap.size ≤ gX) := Lib.hid (.inr (by rw [hgx]; exact LW_1.out))
  have DKX_pX : Hid (gX < w3.heap.size ∨ w4.heap.size ≤ gX) := Lib.hid (.inr (by rw [hgx]; exact LpX_0.out))
  clear hwx hgx
  have KA_5 := Lib.hid (KA_4.out.below hb KA_4.out.lt)
  have hsz := hb.size
  have HB5 := Lib.hid (HB4.out.trans (hb.mono HB4.out.size))
  have OW_2 := Lib.hid (OW_1.out.below hb LW_1.out)
  have LW_2 := Lib.hid (Nat.le_trans LW_1.out hsz)
  have OpX_1 := Lib.hid (OpX_0.out.below hb LpX_0.out)
  have LpX_1 := Lib.hid (Nat.le_trans LpX_0.out hsz)
  clear OW_1 LW_1 OpX_0 LpX_0 HB4 hb hsz
  clear KA_4
  obtain ⟨cA0, cA1, cA2, cA3⟩ := cells4 KA_5.out
  obtain ⟨cX0, cX1, cX2, cX3⟩ := cells4 KX_0.out
  go_wp2_with fail
  refine (implSpaceString_any P0 R0 C0 _ _ _ y1 _ OpX_1.out.si (by have := NpX.out; have := YB.out; omega) OpX_1.out.cap).mono ?_
  rintro e w6 ⟨AV, nV, cV, rfl, ho, hb⟩
  clear cA0 cA1 cA2 cA3 cX0 cX1 cX2 cX3
  have KA_6 := Lib.hid (KA_5.out.below hb KA_5.out.lt)
  have KX_1 := Lib.hid (KX_0.out.below hb KX_0.out.lt)
  have DKA_V : Hid (gA < w5.heap.size ∨ w6.heap.size ≤ gA) := Lib.hid (.inl KA_5.out.lt)
  have DKX_V : Hid (gX < w5.heap.size ∨ w6.heap.size ≤ gX) := Lib.hid (.inl KX_0.out.lt)
  have hsz := hb.size
  have HB6 := Lib.hid (HB5.out.trans (hb.mono HB5.out.size))
  have OW_3 := Lib.hid (OW_2.out.below hb LW_2.out)
  have LW_3 := Lib.hid (Nat.le_trans LW_2.out hsz)
  have OpX_2 := Lib.hid (OpX_1.out.below hb LpX_1.out)
  have LpX_2 := Lib.hid (Nat.le_trans LpX_1.out hsz)
  have OV_0 := Lib.hid ho
  have LV_0 := Lib.hid (Nat.le_refl w6.heap.size)
  have NV := Lib.hid ho.len
  have GV := Lib.hid HB5.out.size
  have DW_V : Hid (_ ≤ w5.heap.size) := LW_2
  have DpX_V : Hid (_ ≤ w5.heap.size) := LpX_1
  clear OW_2 LW_2 OpX_1 LpX_1 HB5 hb hsz ho
  clear KA_5 KX_0
  have EV : nV ≤ 1099511627776 := by have h := NV.out; have := MBC.out; omega
  obtain ⟨cA0, cA1, cA2, cA3⟩ := cells4 KA_6.out
  obtain ⟨cX0, cX1, cX2, cX3⟩ := cells4 KX_1.out
  go_wp2_with fail
  refine (eqIntS_any _ _ _ _ _ _ (strS P0 R0 C0 y1) (strS P0 R0 C0 y1) _ OV_0.out.si OW_3.out.si EV EW).mono ?_
  rintro e w7 ⟨rfl, hd⟩
  clear cA0 cA1 cA2 cA3 cX0 cX1 cX2 cX3
  rw [eqL_self]
  have hb : Below w6.heap.size w6 w7 := hd.below _
  have KA_7 := Lib.hid (KA_6.out.below hb KA_6.out.lt)
  have KX_2 := Lib.hid (KX_1.out.below hb KX_1.out.lt)
  clear hb
  have hb : Below w6.heap.size w6 w7 := hd.below _
  have hsz := hb.size
  have HB7 := Lib.hid (HB6.out.trans (hb.mono HB6.out.size))
  have OW_4 := Lib.hid (OW_3.out.below hb LW_3.out)
  have LW_4 := Lib.hid (Nat.le_trans LW_3.out hsz)
  have OpX_3 := Lib.hid (OpX_2.out.below hb LpX_2.out)
  have LpX_3 := Lib.hid (Nat.le_trans LpX_2.out hsz)
  have OV_1 := Lib.hid (OV_0.out.below hb LV_0.out)
  have LV_1 := Lib.hid (Nat.le_trans LV_0.out hsz)
  clear OW_3 LW_3 OpX_2 LpX_2 OV_0 LV_0 HB6 hb hsz hd
  clear KA_6 KX_1
  obtain ⟨cA0, cA1, cA2, cA3⟩ := cells4 KA_7.out
  obtain ⟨cX0, cX1, cX2, cX3⟩ := cells4 KX_2.out
  go_upto_region 10 with fail
  clear cA0 cA1 cA2 cA3 cX0 cX1 cX2 cX3
  have hq0 : w7.cell? ⟨gX, 0, none⟩ = some (.int .i64 P0) ∧ w7.cell? ⟨gX, 1, none⟩ = some (.int .i64 R0) ∧ w7.cell? ⟨gX, 2, none⟩ = some (.int .i64 C0) ∧ w7.cell? ⟨gX, 3, none⟩ = some (.slice PpX npX cpX) ∧ w7.cell? ⟨gA, 0, none⟩ = some (.int .i64 P0) ∧ w7.cell? ⟨gA, 1, none⟩ = some (.int .i64 R0) ∧ w7.cell? ⟨gA, 2, none⟩ = some (.int .i64 C0) ∧ w7.cell? ⟨gA, 3, none⟩ = some (.slice A1 n1 c1) := by obtain ⟨a0, a1, a2, a3⟩ := cells4 KX_2.out; obtain ⟨b0, b1, b2, b3⟩ := cells4 KA_7.out; exact ⟨a0, a1, a2, a3, b0, b1, b2, b3⟩
  have hqd : w7.drew.cell? ⟨gX, 0, none⟩ = some (.int .i64 P0) ∧ w7.drew.cell? ⟨gX, 1, none⟩ = some (.int .i64 R0) ∧ w7.drew.cell? ⟨gX, 2, none⟩ = some (.int .i64 C0) ∧ w7.drew.cell? ⟨gX, 3, none⟩ = some (.slice PpX npX cpX) ∧ w7.drew.cell? ⟨gA, 0, none⟩ = some (.int .i64 P0) ∧ w7.drew.cell? ⟨gA, 1, none⟩ = some (.int .i64 R0) ∧ w7.drew.cell? ⟨gA, 2, none⟩ = some (.int .i64 C0) ∧ w7.drew.cell? ⟨gA, 3, none⟩ = some (.slice A1 n1 c1) := hq0
  have HQ0 := Lib.hid hq0
  have HQD := Lib.hid hqd
  clear hq0 hqd
  have HPD : Hid (SI w7.drew A1 n1 y1) := Lib.hid (hp.below HB7.out.drew (Nat.le_refl _))
  go_region_held3 (fun w' => w'.cell? ⟨gX, 0, none⟩ = some (.int .i64 P0) ∧ w'.cell? ⟨gX, 1, none⟩ = some (.int .i64 R0) ∧ w'.cell? ⟨gX, 2, none⟩ = some (.int .i64 C0) ∧ w'.cell? ⟨gX, 3, none⟩ = some (.slice PpX npX cpX) ∧ w'.cell? ⟨gA, 0, none⟩ = some (.int .i64 P0) ∧ w'.cell? ⟨gA, 1, none⟩ = some (.int .i64 R0) ∧ w'.cell? ⟨gA, 2, none⟩ = some (.int .i64 C0) ∧ w'.cell? ⟨gA, 3, none⟩ = some (.slice A1 n1 c1))
    (first | exact HQD.out | exact HQ0.out | exact KK4 | exact KK5)
    (first
      | (go_at_call 17
         with_reducible refine (toMatrix_any P0 R0 C0 _ _ _ y1 _ HPD.out (by have := SM.out; omega)).mono ?_
         rintro e w8 ⟨Pyp, nyp, cyp, rfl, ho0, hb0⟩
         have hb : Below w7.heap.size w7 w8 := ((Below.refl _ _).drew).trans hb0
         have ho : Own w8 w7.heap.size w8.heap.size Pyp nyp cyp y1 := ho0
         clear ho0 hb0
         have KA_8 := Lib.hid (KA_7.out.below hb KA_7.out.lt)
         have KX_3 := Lib.hid (KX_2.out.below hb KX_2.out.lt)
         have DKA_yp : Hid (gA < w7.heap.size ∨ w8.heap.size ≤ gA) := Lib.hid (.inl KA_7.out.lt)
         have DKX_yp : Hid (gX < w7.heap.size ∨ w8.heap.size ≤ gX) := Lib.hid (.inl KX_2.out.lt)
         have hsz := hb.size
         have HB8 := Lib.hid (HB7.out.trans (hb.mono HB7.out.size))
         have OW_5 := Lib.hid (OW_4.out.below hb LW_4.out)
         have LW_5 := Lib.hid (Nat.le_trans LW_4.out hsz)
         have OpX_4 := Lib.hid (OpX_3.out.below hb LpX_3.out)
         have LpX_4 := Lib.hid (Nat.le_trans LpX_3.out hsz)
         have OV_2 := Lib.hid (OV_1.out.below hb LV_1.out)
         have LV_2 := Lib.hid (Nat.le_trans LV_1.out hsz)
         have Oyp_0 := Lib.hid ho
         have Lyp_0 := Lib.hid (Nat.le_refl w8.heap.size)
         have Nyp := Lib.hid ho.len
         have Gyp := Lib.hid HB7.out.size
         have DW_yp : Hid (_ ≤ w7.heap.size) := LW_4
         have DpX_yp : Hid (_ ≤ w7.heap.size) := LpX_3
         have DV_yp : Hid (_ ≤ w7.heap.size) := LV_1
         clear OW_4 LW_4 OpX_3 LpX_3 OV_1 LV_1 HB7 hb hsz ho
         clear KA_7 KX_2
         have KK4 : w8.cell? ⟨gX, 0, none⟩ = some (.int .i64 P0) ∧ w8.cell? ⟨gX, 1, none⟩ = some (.int .i64 R0) ∧ w8.cell? ⟨gX, 2, none⟩ = some (.int .i64 C0) ∧ w8.cell? ⟨gX, 3, none⟩ = some (.slice PpX npX cpX) ∧ w8.cell? ⟨gA, 0, none⟩ = some (.int .i64 P0) ∧ w8.cell? ⟨gA, 1, none⟩ = some (.int .i64 R0) ∧ w8.cell? ⟨gA, 2, none⟩ = some (.int .i64 C0) ∧ w8.cell? ⟨gA, 3, none⟩ = some (.slice A1 n1 c1) := by obtain ⟨a0, a1, a2, a3⟩ := cells4 KX_3.out; obtain ⟨b0, b1, b2, b3⟩ := cells4 KA_8.out; exact ⟨a0, a1, a2, a3, b0, b1, b2, b3⟩
         have QX := Lib.hid OpX_4.out.si
         have QY := Lib.hid Oyp_0.out.si)
      | (go_at_call 20
         with_reducible refine (eqMatrix_yes P0 R0 C0 _ _ _ _ _ _ y1 _ QX.out QY.out YB.out).mono ?_
         rintro e w9 ⟨rfl, hb⟩
         have KA_9 := Lib.hid (KA_8.out.below hb KA_8.out.lt)
         have KX_4 := Lib.hid (KX_3.out.below hb KX_3.out.lt)
         have hsz := hb.size
         have HB9 := Lib.hid (HB8.out.trans (hb.mono HB8.out.size))
         have OW_6 := Lib.hid (OW_5.out.below hb LW_5.out)
         have LW_6 := Lib.hid (Nat.le_trans LW_5.out hsz)
         have OpX_5 := Lib.hid (OpX_4.out.below hb LpX_4.out)
         have LpX_5 := Lib.hid (Nat.le_trans LpX_4.out hsz)
         have OV_3 := Lib.hid (OV_2.out.below hb LV_2.out)
         have LV_3 := Lib.hid (Nat.le_trans LV_2.out hsz)
         have Oyp_1 := Lib.hid (Oyp_0.out.below hb Lyp_0.out)
         have Lyp_1 := Lib.hid (Nat.le_trans Lyp_0.out hsz)
         clear OW_5 LW_5 OpX_4 LpX_4 OV_2 LV_2 Oyp_0 Lyp_0 HB8 hb hsz
         clear KA_8 KX_3
         have KK5 : w9.cell? ⟨gX, 0, none⟩ = some (.int .i64 P0) ∧ w9.cell? ⟨gX, 1, none⟩ = some (.int .i64 R0) ∧ w9.cell? ⟨gX, 2, none⟩ = some (.int .i64 C0) ∧ w9.cell? ⟨gX, 3, none⟩ = some (.slice PpX npX cpX) ∧ w9.cell? ⟨gA, 0, none⟩ = some (.int .i64 P0) ∧ w9.cell? ⟨gA, 1, none⟩ = some (.int .i64 R0) ∧ w9.cell? ⟨gA, 2, none⟩ = some (.int .i64 C0) ∧ w9.cell? ⟨gA, 3, none⟩ = some (.slice A1 n1 c1) := by obtain ⟨a0, a1, a2, a3⟩ := cells4 KX_4.out; obtain ⟨b0, b1, b2, b3⟩ := cells4 KA_9.out; exact ⟨a0, a1, a2, a3, b0, b1, b2, b3⟩))
  clear HQ0 HQD HPD KK4 KK5 QX QY
  obtain ⟨cA0, cA1, cA2, cA3⟩ := cells4 KA_9.out
  obtain ⟨cX0, cX1, cX2, cX3⟩ := cells4 KX_4.out
  go_wp2_with fail
  refine (markMatrix_any P0 R0 C0 _ _ _ _ _ y1 1 _ OpX_5.out LpX_5.out (by have := SM.out; have := NpX.out; have := YL.out; omega) (by omega) (by omega)).mono ?_
  rintro e w10 ⟨rfl, ho, hw⟩
  clear cA0 cA1 cA2 cA3 cX0 cX1 cX2 cX3
  have KA_10 := Lib.hid (Blk.within_ KA_9.out hw DKA_pX.out)
  have KX_5 := Lib.hid (Blk.within_ KX_4.out hw DKX_pX.out)
  have hsz := hw.size
  have HB10 := Lib.hid (HB9.out.trans (hw.below GpX.out HB9.out.size))
  have OW_7 := Lib.hid (OW_6.out.within hw (.inl DW_pX.out))
  have LW_7 := Lib.hid (Nat.le_trans LW_6.out hsz)
  have OpX_6 := Lib.hid ho
  have LpX_6 := Lib.hid (Nat.le_trans LpX_5.out hsz)
  have OV_4 := Lib.hid (OV_3.out.within hw (.inr DpX_V.out))
  have LV_4 := Lib.hid (Nat.le_trans LV_3.out hsz)
  clear OW_6 LW_6 OpX_5 LpX_5 OV_3 LV_3 HB9 hw hsz ho
  clear KA_9 KX_4
  have hpxn : npX ≤ 1048576 := by have := SM.out; have := NpX.out; have := YL.out; omega
  obtain ⟨k0, hk0⟩ : ∃ z : Int, z = 1 + (npX : Int) := ⟨_, rfl⟩
  rw [← hk0]
  have hk0b : 0 ≤ k0 ∧ k0 ≤ 100000000 := by omega
  have hk0n : ¬ k0 < 0 := by omega
  clear hk0
  obtain ⟨cA0, cA1, cA2, cA3⟩ := cells4 KA_10.out
  obtain ⟨cX0, cX1, cX2, cX3⟩ := cells4 KX_5.out
  go_wp2_with fail
  refine (eqIntS_any _ _ _ _ _ _ (strS P0 R0 C0 y1) (strS P0 R0 C0 y1) _ OV_4.out.si OW_7.out.si EV EW).mono ?_
  rintro e w11 ⟨rfl, hd⟩
  clear cA0 cA1 cA2 cA3 cX0 cX1 cX2 cX3
  rw [eqL_self]
  have hb : Below w10.heap.size w10 w11 := hd.below _
  have KA_11 := Lib.hid (KA_10.out.below hb KA_10.out.lt)
  have KX_6 := Lib.hid (KX_5.out.below hb KX_5.out.lt)
  clear hb
  have hb : Below w10.heap.size w10 w11 := hd.below _
  have hsz := hb.size
  have HB11 := Lib.hid (HB10.out.trans (hb.mono HB10.out.size))
  have OW_8 := Lib.hid (OW_7.out.below hb LW_7.out)
  have LW_8 := Lib.hid (Nat.le_trans LW_7.out hsz)
  have OpX_7 := Lib.hid (OpX_6.out.below hb LpX_6.out)
  have LpX_7 := Lib.hid (Nat.le_trans LpX_6.out hsz)
  have OV_5 := Lib.hid (OV_4.out.below hb LV_4.out)
  have LV_5 := Lib.hid (Nat.le_trans LV_4.out hsz)
  clear OW_7 LW_7 OpX_6 LpX_6 OV_4 LV_4 HB10 hb hsz hd
  clear KA_10 KX_5
  obtain ⟨cA0, cA1, cA2, cA3⟩ := cells4 KA_11.out
  obtain ⟨cX0, cX1, cX2, cX3⟩ := cells4 KX_6.out
  go_wp2_with fail
  refine (markIntS_any _ _ _ _ _ (strS P0 R0 C0 y1) 1 _ OV_5.out EV (by omega) (by omega)).mono ?_
  rintro e w12 ⟨rfl, ho, hg⟩
  clear cA0 cA1 cA2 cA3 cX0 cX1 cX2 cX3
  have hw := Within.of_grown hg (fun g e => OV_5.out.lt g e)
  clear hg
  have KA_12 := Lib.hid (Blk.within_ KA_11.out hw DKA_V.out)
  have KX_7 := Lib.hid (Blk.within_ KX_6.out hw DKX_V.out)
  have hsz := hw.size
  have HB12 := Lib.hid (HB11.out.trans (hw.below GV.out HB11.out.size))
  have OW_9 := Lib.hid (OW_8.out.within hw (.inl DW_V.out))
  have LW_9 := Lib.hid (Nat.le_trans LW_8.out hsz)
  have OV_6 := Lib.hid ho
  have LV_6 := Lib.hid (Nat.le_trans LV_5.out hsz)
  clear OW_8 LW_8 OV_5 LV_5 HB11 hw hsz ho
  clear KA_11 KX_6
  have hVn : nV ≤ 1000 := by have := MBC.out; have := NV.out; omega
  obtain ⟨cA0, cA1, cA2, cA3⟩ := cells4 KA_12.out
  obtain ⟨cX0, cX1, cX2, cX3⟩ := cells4 KX_7.out
  go_wp2_with fail
  refine (heldIntS_yes _ _ _ 1 _ OV_6.out.si EV (by omega) (by omega)).mono ?_
  rintro e w13 ⟨rfl, hd⟩
  clear cA0 cA1 cA2 cA3 cX0 cX1 cX2 cX3
  have hb : Below w12.heap.size w12 w13 := hd.below _
  have KA_13 := Lib.hid (KA_12.out.below hb KA_12.out.lt)
  have KX_8 := Lib.hid (KX_7.out.below hb KX_7.out.lt)
  clear hb
  have hb : Below w12.heap.size w12 w13 := hd.below _
  have hsz := hb.size
  have HB13 := Lib.hid (HB12.out.trans (hb.mono HB12.out.size))
  have OW_10 := Lib.hid (OW_9.out.below hb LW_9.out)
  have LW_10 := Lib.hid (Nat.le_trans LW_9.out hsz)
  have OV_7 := Lib.hid (OV_6.out.below hb LV_6.out)
  have LV_7 := Lib.hid (Nat.le_trans LV_6.out hsz)
  clear OW_9 LW_9 OV_6 LV_6 HB12 hb hsz hd
  clear KA_12 KX_7
  obtain ⟨zz, hz⟩ : ∃ z : Int, z = 1 + (nV : Int) := ⟨_, rfl⟩
  have HZ := Lib.hid hz
  have hzn : ¬ zz < 0 := by omega
  rw [← hz]
  clear hz
  obtain ⟨cA0, cA1, cA2, cA3⟩ := cells4 KA_13.out
  obtain ⟨cX0, cX1, cX2, cX3⟩ := cells4 KX_8.out
  go_wp2_with fail
  refine (toMatrix_any P0 R0 C0 _ _ _ y1 _ (hp.below HB13.out (Nat.le_refl _)) (by have := SM.out; omega)).mono ?_
  rintro e w14 ⟨PpZ, npZ, cpZ, rfl, ho, hb⟩
  clear cA0 cA1 cA2 cA3 cX0 cX1 cX2 cX3
  have KA_14 := Lib.hid (KA_13.out.below hb KA_13.out.lt)
  have KX_9 := Lib.hid (KX_8.out.below hb KX_8.out.lt)
  have DKA_pZ : Hid (gA < w13.heap.size ∨ w14.heap.size ≤ gA) := Lib.hid (.inl KA_13.out.lt)
  have DKX_pZ : Hid (gX < w13.heap.size ∨ w14.heap.size ≤ gX) := Lib.hid (.inl KX_8.out.lt)
  have hsz := hb.size
  have HB14 := Lib.hid (HB13.out.trans (hb.mono HB13.out.size))
  have OW_11 := Lib.hid (OW_10.out.below hb LW_10.out)
  have LW_11 := Lib.hid (Nat.le_trans LW_10.out hsz)
  have OV_8 := Lib.hid (OV_7.out.below hb LV_7.out)
  have LV_8 := Lib.hid (Nat.le_trans LV_7.out hsz)
  have OpZ_0 := Lib.hid ho
  have LpZ_0 := Lib.hid (Nat.le_refl w14.heap.size)
  have NpZ := Lib.hid ho.len
  have GpZ := Lib.hid HB13.out.size
  have DW_pZ : Hid (_ ≤ w13.heap.size) := LW_10
  have DV_pZ : Hid (_ ≤ w13.heap.size) := LV_7
  clear OW_10 LW_10 OV_7 LV_7 HB13 hb hsz ho
  clear KA_13 KX_8
  obtain ⟨cA0, cA1, cA2, cA3⟩ := cells4 KA_14.out
  obtain ⟨cX0, cX1, cX2, cX3⟩ := cells4 KX_9.out
  go_wp2_with fail
  refine (implSpaceString_any P0 R0 C0 _ _ _ y1 _ OpZ_0.out.si (by have := NpZ.out; have := YB.out; omega) OpZ_0.out.cap).mono ?_
  rintro e w15 ⟨AU, nU, cU, rfl, ho, hb⟩
  clear cA0 cA1 cA2 cA3 cX0 cX1 cX2 cX3
  have KA_15 := Lib.hid (KA_14.out.below hb KA_14.out.lt)
  have KX_10 := Lib.hid (KX_9.out.below hb KX_9.out.lt)
  have DKA_U : Hid (gA < w14.heap.size ∨ w15.heap.size ≤ gA) := Lib.hid (.inl KA_14.out.lt)
  have DKX_U : Hid (gX < w14.heap.size ∨ w15.heap.size ≤ gX) := Lib.hid (.inl KX_9.out.lt)
  have hsz := hb.size
  have HB15 := Lib.hid (HB14.out.trans (hb.mono HB14.out.size))
  have OW_12 := Lib.hid (OW_11.out.below hb LW_11.out)
  have LW_12 := Lib.hid (Nat.le_trans LW_11.out hsz)
  have OV_9 := Lib.hid (OV_8.out.below hb LV_8.out)
  have LV_9 := Lib.hid (Nat.le_trans LV_8.out hsz)
  have OpZ_1 := Lib.hid (OpZ_0.out.below hb LpZ_0.out)
  have LpZ_1 := Lib.hid (Nat.le_trans LpZ_0.out hsz)
  have OU_0 := Lib.hid ho
  have LU_0 := Lib.hid (Nat.le_refl w15.heap.size)
  have NU := Lib.hid ho.len
  have GU := Lib.hid HB14.out.size
  have DW_U : Hid (_ ≤ w14.heap.size) := LW_11
  have DV_U : Hid (_ ≤ w14.heap.size) := LV_8
  have DpZ_U : Hid (_ ≤ w14.heap.size) := LpZ_0
  clear OW_11 LW_11 OV_8 LV_8 OpZ_0 LpZ_0 HB14 hb hsz ho
  clear KA_14 KX_9
  have EU : nU ≤ 1099511627776 := by have h := NU.out; have := MBC.out; omega
  obtain ⟨cA0, cA1, cA2, cA3⟩ := cells4 KA_15.out
  obtain ⟨cX0, cX1, cX2, cX3⟩ := cells4 KX_10.out
  go_wp2_with fail
  refine (eqIntS_any _ _ _ _ _ _ (strS P0 R0 C0 y1) (strS P0 R0 C0 y1) _ OU_0.out.si OW_12.out.si EU EW).mono ?_
  rintro e w16 ⟨rfl, hd⟩
  clear cA0 cA1 cA2 cA3 cX0 cX1 cX2 cX3
  rw [eqL_self]
  have hb : Below w15.heap.size w15 w16 := hd.below _
  have KA_16 := Lib.hid (KA_15.out.below hb KA_15.out.lt)
  have KX_11 := Lib.hid (KX_10.out.below hb KX_10.out.lt)
  clear hb
  have hb : Below w15.heap.size w15 w16 := hd.below _
  have hsz := hb.size
  have HB16 := Lib.hid (HB15.out.trans (hb.mono HB15.out.size))
  have OW_13 := Lib.hid (OW_12.out.below hb LW_12.out)
  have LW_13 := Lib.hid (Nat.le_trans LW_12.out hsz)
  have OV_10 := Lib.hid (OV_9.out.below hb LV_9.out)
  have LV_10 := Lib.hid (Nat.le_trans LV_9.out hsz)
  have OU_1 := Lib.hid (OU_0.out.below hb LU_0.out)
  have LU_1 := Lib.hid (Nat.le_trans LU_0.out hsz)
  clear OW_12 LW_12 OV_9 LV_9 OU_0 LU_0 HB15 hb hsz hd
  clear KA_15 KX_10
  obtain ⟨cA0, cA1, cA2, cA3⟩ := cells4 KA_16.out
  obtain ⟨cX0, cX1, cX2, cX3⟩ := cells4 KX_11.out
  go_wp2_with fail
  refine (heldIntS_yes _ _ _ 1 _ OV_10.out.si EV (by omega) (by omega)).mono ?_
  rintro e w17 ⟨rfl, hd⟩
  clear cA0 cA1 cA2 cA3 cX0 cX1 cX2 cX3
  have hb : Below w16.heap.size w16 w17 := hd.below _
  have KA_17 := Lib.hid (KA_16.out.below hb KA_16.out.lt)
  have KX_12 := Lib.hid (KX_11.out.below hb KX_11.out.lt)
  clear hb
  have hb : Below w16.heap.size w16 w17 := hd.below _
  have hsz := hb.size
  have HB17 := Lib.hid (HB16.out.trans (hb.mono HB16.out.size))
  have OW_14 := Lib.hid (OW_13.out.below hb LW_13.out)
  have LW_14 := Lib.hid (Nat.le_trans LW_13.out hsz)
  have OV_11 := Lib.hid (OV_10.out.below hb LV_10.out)
  have LV_11 := Lib.hid (Nat.le_trans LV_10.out hsz)
  have OU_2 := Lib.hid (OU_1.out.below hb LU_1.out)
  have LU_2 := Lib.hid (Nat.le_trans LU_1.out hsz)
  clear OW_13 LW_13 OV_10 LV_10 OU_1 LU_1 HB16 hb hsz hd
  clear KA_16 KX_11
  rw [← HZ.out]
  go_wp2
  go_ret
  exact ⟨rfl, HBA.out.trans (HB17.out.mono HFIN.out)⟩

set_option maxRecDepth 100000 in
theorem lifted_SpaceString (os : Os) (started : os.Started) (H : Type) (enc : TypeId × Value → H) :
    ReturnsInHanded {} Try.checked os 4 .any (Rows.fnExactSpaceStringSpec.pre6 enc Try.prog Try.f4 Rows.fnExactSpaceStringRow.domain false) (Rows.fnExactSpaceStringSpec.post enc Try.prog Try.f4 false true false false) := by
  refine returnsInHanded_of_change (C := Try.checked) own started (by kernel_rfl) Try.func4
    (ChangeSpec.witness6 (enc := enc) (C := Try.checked) false ⟨#[], #[.agg #[.int .i64 0, .int .i64 0, .int .i64 0, .slice none 0 0]], []⟩ 8 (by kernel_rfl) (by kernel_rfl) (by kernel_rfl) (by kernel_rfl)) ?_
  intro W base args ds gs before hval0 hW hcnd _
  have hval : ∀ (j : Nat) t v, Try.f4.params[j]? = some t → args[j]? = some v → Value.okWide Try.prog W .any base t v := hval0
  have hW' := hW
  obtain ⟨p, q, hA0, hV, rfl, hfz, hnd⟩ := hW
  have hA : DataW.TrodAll enc Try.prog W 0 (fun _ => true) true Try.f4.params.toList args.toList ds p := hA0
  rw [Try.params4] at hA hval
  obtain ⟨v0, vs0, d0, ds0, p0, q0, hargs, rfl, rfl, h0, r0⟩ := trodAll_cons hA
  obtain ⟨rfl, rfl, rfl⟩ := trodAll_nil r0
  obtain rfl : args = #[v0] := by cases args; simp_all
  obtain ⟨rfl, rfl⟩ := trodVars_none hV
  have ok0 := hval 0 24 v0 rfl rfl
  obtain ⟨cs0, rfl, hsz0⟩ : ∃ cs : Array Value, v0 = .agg cs ∧ cs.size = 4 := by
    unfold Value.okWide at ok0
    rw [Try.underlying24] at ok0
    obtain ⟨cs, e, hz, _⟩ := ok0
    exact ⟨cs, e, by rw [hz]; kernel_rfl⟩
  clear ok0
  have k0 := h0
  have lt0 : ∀ x ∈ p0, x.block < W.heap.size := by obtain ⟨m, hm⟩ := k0; exact DataW.trod_lt m _ _ _ hm
  obtain ⟨P0, R0, C0, A0, n0, c0, y0, rfl, hp0, hn0, _, _, _, hf0⟩ := MX.of_trod hsz0 h0
  clear hA0 hval0
  refine (walk_SpaceString P0 R0 C0 A0 n0 c0 y0 W hp0 hn0 hf0).mono fun e W' ⟨he, bel⟩ => ?_
  subst he
  exact ⟨_, rfl, _, _, _, [], _, [], hW', trodAll_mk1 (shut_bool Try.underlying4 _), (trodAll_cons_mk (Below.trod laidOut (by kernel_rfl) (of_decide_eq_true (by kernel_rfl)) k0 bel lt0) trodAll_mk0), rfl, bel.frame _, fun h => by cases h⟩

theorem fnExactSpaceString_holds : Rows.FnExactSpaceStringSaid :=
  OpenClaim.holds_of_wide 4 Try.f4 rfl rfl rfl rfl rfl rfl rfl ⟨rfl, rfl, rfl, rfl, rfl⟩ rfl rfl rfl rfl rfl (by kernel_rfl) Try.func4 (by kernel_rfl)
    (of_decide_eq_true (by kernel_rfl)) (by unfold Func.isWrapper; first | (rw [if_pos (by decide +kernel)]; kernel_rfl) | (rw [if_neg (by decide +kernel)]; exact ⟨rfl, rfl⟩))
    (fun os started H enc _ => lifted_SpaceString os started H enc)
end Go.Proofs.Ytbkhibojbakckaa
