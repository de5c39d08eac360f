/-
  FnExactSpanOf: for every input the law returns true: the program's SpanOf answers as the specification's, changes no argument, and its answer owns its memory. No conditions.
-/
import Derived.Test.YtololcgifhefnaaPkC1
namespace Go.Proofs.Ytololcgifhefnaa
open Go.ChangeShapes Go.WideShapes Go.ChangeAt Go.RowKit

set_option maxRecDepth 100000 in
set_option maxHeartbeats 4000000 in
theorem walk_SpanOf (P0 R0 C0 : Int) (A1 : Option Addr) (n1 c1 : Nat) (y1 : List Int) (wA : World) (hp0 : SI wA A1 n1 y1) (hn : n1 ≤ 9223372036854775807) (_hfit : Fits y1) :
    Calls Try.prog 12 #[.agg #[.int .i64 P0, .int .i64 R0, .int .i64 C0, .slice A1 n1 c1]] wA fun e w' => e = .returned (.bool true) ∧ Below wA.heap.size wA w' := by
  have HNN := Lib.hid hn
  have YL := Lib.hid hp0.1
  clear hn
  obtain ⟨zp, zr, zc, z, hzz⟩ := spn_ex P0 R0 C0 y1
  have HZZ := Lib.hid hzz
  have MBC : Hid (z.length ≤ 1000) := Lib.hid hzz.len
  clear hzz
  obtain ⟨w, hw0⟩ : ∃ w, w = wA.alloc (.cells #[.int .i64 P0, .int .i64 R0, .int .i64 C0, .slice A1 n1 c1] 24) := ⟨_, rfl⟩
  obtain ⟨gA, hgA⟩ : ∃ g, g = wA.heap.size := ⟨_, rfl⟩
  have hbA : Below wA.heap.size wA w := by rw [hw0]; exact Below.alloc_self _ _
  have HBA := Lib.hid hbA
  have hp := hp0.below hbA (Nat.le_refl _)
  have KA_0 : Hid (Blk w gA 24 #[.int .i64 P0, .int .i64 R0, .int .i64 C0, .slice A1 n1 c1]) := Lib.hid (by rw [hw0, hgA]; exact Blk.new _ _ _)
  have HB0 := Lib.hid (Below.refl w.heap.size w)
  have HW0 := Lib.hid hw0
  have HGA := Lib.hid hgA
  have HFIN : Hid (wA.heap.size ≤ w.heap.size) := Lib.hid hbA.size
  clear hw0 hgA hbA hp0 
  go_enter Try.func12, Try.ntmps12
  go_upto_region 1 with fail
  rw [← HW0.out, ← HGA.out]
  obtain ⟨cA0, cA1, cA2, cA3⟩ := cells4 KA_0.out
  go_wp2_with fail
  refine (szMatrix_any P0 R0 C0 _ _ _ 1048576 _ HNN.out (by decide) (by decide)).mono ?_
  rintro e w1 ⟨rfl, hb⟩
  clear cA0 cA1 cA2 cA3
  have KA_1 := Lib.hid (KA_0.out.below hb KA_0.out.lt)
  have hsz := hb.size
  have HB1 := Lib.hid (HB0.out.trans (hb.mono HB0.out.size))
  clear HB0 hb hsz
  clear KA_0
  by_cases hbigM : (1048576 : Int) < (n1 : Int)
  · rw [if_pos hbigM]
    clear hbigM
    go_wp2
    go_ret
    exact ⟨rfl, HBA.out.trans (HB1.out.mono HFIN.out)⟩
  rw [if_neg hbigM]
  obtain ⟨r0, hr0⟩ : ∃ r : Int, r = 1048576 - (n1 : Int) := ⟨_, rfl⟩
  rw [← hr0]
  have hr0n : ¬ r0 < 0 := by omega
  have SM : Hid (n1 ≤ 1048576) := Lib.hid (by omega)
  have YB : Hid (y1.length ≤ 1099511627776) := Lib.hid (by have := YL.out; have := SM.out; omega)
  clear hr0 hbigM
  obtain ⟨cA0, cA1, cA2, cA3⟩ := cells4 KA_1.out
  go_wp2_with fail
  refine (toMatrix_any P0 R0 C0 _ _ _ y1 _ (hp.below HB1.out (Nat.le_refl _)) (by have := SM.out; omega)).mono ?_
  rintro e w2 ⟨PpW, npW, cpW, rfl, ho, hb⟩
  clear cA0 cA1 cA2 cA3
  have KA_2 := Lib.hid (KA_1.out.below hb KA_1.out.lt)
  have DKA_pW : Hid (gA < w1.heap.size ∨ w2.heap.size ≤ gA) := Lib.hid (.inl KA_1.out.lt)
  have hsz := hb.size
  have HB2 := Lib.hid (HB1.out.trans (hb.mono HB1.out.size))
  have OpW_0 := Lib.hid ho
  have LpW_0 := Lib.hid (Nat.le_refl w2.heap.size)
  have NpW := Lib.hid ho.len
  have GpW := Lib.hid HB1.out.size
  clear HB1 hb hsz ho
  clear KA_1
  obtain ⟨cA0, cA1, cA2, cA3⟩ := cells4 KA_2.out
  go_wp2_with fail
  refine (specSpanOf_z P0 R0 C0 _ _ _ y1 _ OpW_0.out.si (by have := NpW.out; have := YB.out; omega) zp zr zc z HZZ.out).mono ?_
  rintro e w3 ⟨PW, nW, cW, rfl, ho, hb⟩
  clear cA0 cA1 cA2 cA3
  have KA_3 := Lib.hid (KA_2.out.below hb KA_2.out.lt)
  have DKA_W : Hid (gA < w2.heap.size ∨ w3.heap.size ≤ gA) := Lib.hid (.inl KA_2.out.lt)
  have hsz := hb.size
  have HB3 := Lib.hid (HB2.out.trans (hb.mono HB2.out.size))
  have OpW_1 := Lib.hid (OpW_0.out.below hb LpW_0.out)
  have LpW_1 := Lib.hid (Nat.le_trans LpW_0.out hsz)
  have OW_0 := Lib.hid ho
  have LW_0 := Lib.hid (Nat.le_refl w3.heap.size)
  have NW := Lib.hid ho.len
  have GW := Lib.hid HB2.out.size
  have DpW_W : Hid (_ ≤ w2.heap.size) := LpW_0
  clear OpW_0 LpW_0 HB2 hb hsz ho
  clear KA_2
  obtain ⟨cA0, cA1, cA2, cA3⟩ := cells4 KA_3.out
  go_upto_region 6 with fail
  clear cA0 cA1 cA2 cA3
  obtain ⟨w4, hwx⟩ : ∃ w4, w4 = w3.alloc (.cells #[.int .i64 zp, .int .i64 zr, .int .i64 zc, .slice PW nW cW] 27) := ⟨_, rfl⟩
  obtain ⟨gW, hgx⟩ : ∃ g, g = w3.heap.size := ⟨_, rfl⟩
  rw [← hwx, ← hgx]
  have hb : Below w3.heap.size w3 w4 := by rw [hwx]; exact Below.alloc_self _ _
  have KW_0 : Hid (Blk w4 gW 27 #[.int .i64 zp, .int .i64 zr, .int .i64 zc, .slice PW nW cW]) := Lib.hid (by rw [hwx, hgx]; exact Blk.new _ _ _)
  have DKW_pW : Hid (gW < w1.heap.size ∨ w2.heap.size ≤ gW) := Lib.hid (.inr (by rw [hgx]; exact LpW_1.out))
  have DKW_W : Hid (gW < w2.heap.size ∨ w3.heap.size ≤ gW) := Lib.hid (.inr (by rw [hgx]; exact LW_0.out))
  clear hwx hgx
  have KA_4 := Lib.hid (KA_3.out.below hb KA_3.out.lt)
  have hsz := hb.size
  have HB4 := Lib.hid (HB3.out.trans (hb.mono HB3.out.size))
  have OpW_2 := Lib.hid (OpW_1.out.below hb LpW_1.out)
  have LpW_2 := Lib.hid (Nat.le_trans LpW_1.out hsz)
  have OW_1 := Lib.hid (OW_0.out.below hb LW_0.out)
  have LW_1 := Lib.hid (Nat.le_trans LW_0.out hsz)
  clear OpW_1 LpW_1 OW_0 LW_0 HB3 hb hsz
  clear KA_3
  obtain ⟨cA0, cA1, cA2, cA3⟩ := cells4 KA_4.out
  obtain ⟨cW0, cW1, cW2, cW3⟩ := cells4 KW_0.out
  go_wp2_with fail
  refine (toMatrix_any P0 R0 C0 _ _ _ y1 _ (hp.below HB4.out (Nat.le_refl _)) (by have := SM.out; omega)).mono ?_
  rintro e w5 ⟨PpX, npX, cpX, rfl, ho, hb⟩
  clear cA0 cA1 cA2 cA3 cW0 cW1 cW2 cW3
  have KA_5 := Lib.hid (KA_4.out.below hb KA_4.out.lt)
  have KW_1 := Lib.hid (KW_0.out.below hb KW_0.out.lt)
  have DKA_pX : Hid (gA < w4.heap.size ∨ w5.heap.size ≤ gA) := Lib.hid (.inl KA_4.out.lt)
  have DKW_pX : Hid (gW < w4.heap.size ∨ w5.heap.size ≤ gW) := Lib.hid (.inl KW_0.out.lt)
  have hsz := hb.size
  have HB5 := Lib.hid (HB4.out.trans (hb.mono HB4.out.size))
  have OW_2 := Lib.hid (OW_1.out.below hb LW_1.out)
  have LW_2 := Lib.hid (Nat.le_trans LW_1.out hsz)
  have OpX_0 := Lib.hid ho
  have LpX_0 := Lib.hid (Nat.le_refl w5.heap.size)
  have NpX := Lib.hid ho.len
  have GpX := Lib.hid HB4.out.size
  have DW_pX : Hid (_ ≤ w4.heap.size) := LW_1
  clear OW_1 LW_1 HB4 hb hsz ho
  clear KA_4 KW_0
  obtain ⟨cA0, cA1, cA2, cA3⟩ := cells4 KA_5.out
  obtain ⟨cW0, cW1, cW2, cW3⟩ := cells4 KW_1.out
  go_upto_region 7 with fail
  clear cA0 cA1 cA2 cA3 cW0 cW1 cW2 cW3
  obtain ⟨w6, hwx⟩ : ∃ w6, w6 = w5.alloc (.cells #[.int .i64 P0, .int .i64 R0, .int .i64 C0, .slice PpX npX cpX] 27) := ⟨_, rfl⟩
  obtain ⟨gX, hgx⟩ : ∃ g, g = w5.heap.size := ⟨_, rfl⟩
  rw [← hwx, ← hgx]
  have hb : Below w5.heap.size w5 w6 := by rw [hwx]; exact Below.alloc_self _ _
  have KX_0 : Hid (Blk w6 gX 27 #[.int .i64 P0, .int .i64 R0, .int .i64 C0, .slice PpX npX cpX]) := Lib.hid (by rw [hwx, hgx]; exact Blk.new _ _ _)
  have DKX_W : Hid (gX < w2.heap.size ∨ w3.heap.size ≤ gX) := Lib.hid (.inr (by rw [hgx]; exact LW_2.out))
  have DKX_pX : Hid (gX < w4.heap.size ∨ w5.heap.size ≤ gX) := Lib.hid (.inr (by rw [hgx]; exact LpX_0.out))
  clear hwx hgx
  have KA_6 := Lib.hid (KA_5.out.below hb KA_5.out.lt)
  have KW_2 := Lib.hid (KW_1.out.below hb KW_1.out.lt)
  have hsz := hb.size
  have HB6 := Lib.hid (HB5.out.trans (hb.mono HB5.out.size))
  have OW_3 := Lib.hid (OW_2.out.below hb LW_2.out)
  have LW_3 := Lib.hid (Nat.le_trans LW_2.out hsz)
  have OpX_1 := Lib.hid (OpX_0.out.below hb LpX_0.out)
  have LpX_1 := Lib.hid (Nat.le_trans LpX_0.out hsz)
  clear OW_2 LW_2 OpX_0 LpX_0 HB5 hb hsz
  clear KA_5 KW_1
  obtain ⟨cA0, cA1, cA2, cA3⟩ := cells4 KA_6.out
  obtain ⟨cW0, cW1, cW2, cW3⟩ := cells4 KW_2.out
  obtain ⟨cX0, cX1, cX2, cX3⟩ := cells4 KX_0.out
  go_wp2_with fail
  refine (implSpanOf_z P0 R0 C0 _ _ _ y1 _ OpX_1.out.si (by have := NpX.out; have := YB.out; omega) OpX_1.out.cap zp zr zc z HZZ.out).mono ?_
  rintro e w7 ⟨PV, nV, cV, rfl, ho, hb⟩
  clear cA0 cA1 cA2 cA3 cW0 cW1 cW2 cW3 cX0 cX1 cX2 cX3
  have KA_7 := Lib.hid (KA_6.out.below hb KA_6.out.lt)
  have KW_3 := Lib.hid (KW_2.out.below hb KW_2.out.lt)
  have KX_1 := Lib.hid (KX_0.out.below hb KX_0.out.lt)
  have DKA_V : Hid (gA < w6.heap.size ∨ w7.heap.size ≤ gA) := Lib.hid (.inl KA_6.out.lt)
  have DKW_V : Hid (gW < w6.heap.size ∨ w7.heap.size ≤ gW) := Lib.hid (.inl KW_2.out.lt)
  have DKX_V : Hid (gX < w6.heap.size ∨ w7.heap.size ≤ gX) := Lib.hid (.inl KX_0.out.lt)
  have hsz := hb.size
  have HB7 := Lib.hid (HB6.out.trans (hb.mono HB6.out.size))
  have OW_4 := Lib.hid (OW_3.out.below hb LW_3.out)
  have LW_4 := Lib.hid (Nat.le_trans LW_3.out hsz)
  have OpX_2 := Lib.hid (OpX_1.out.below hb LpX_1.out)
  have LpX_2 := Lib.hid (Nat.le_trans LpX_1.out hsz)
  have OV_0 := Lib.hid ho
  have LV_0 := Lib.hid (Nat.le_refl w7.heap.size)
  have NV := Lib.hid ho.len
  have GV := Lib.hid HB6.out.size
  have DW_V : Hid (_ ≤ w6.heap.size) := LW_3
  have DpX_V : Hid (_ ≤ w6.heap.size) := LpX_1
  clear OW_3 LW_3 OpX_1 LpX_1 HB6 hb hsz ho
  clear KA_6 KW_2 KX_0
  obtain ⟨cA0, cA1, cA2, cA3⟩ := cells4 KA_7.out
  obtain ⟨cW0, cW1, cW2, cW3⟩ := cells4 KW_3.out
  obtain ⟨cX0, cX1, cX2, cX3⟩ := cells4 KX_1.out
  go_upto_region 8 with fail
  clear cA0 cA1 cA2 cA3 cW0 cW1 cW2 cW3 cX0 cX1 cX2 cX3
  obtain ⟨w8, hwx⟩ : ∃ w8, w8 = w7.alloc (.cells #[.int .i64 zp, .int .i64 zr, .int .i64 zc, .slice PV nV cV] 27) := ⟨_, rfl⟩
  obtain ⟨gV, hgx⟩ : ∃ g, g = w7.heap.size := ⟨_, rfl⟩
  rw [← hwx, ← hgx]
  have hb : Below w7.heap.size w7 w8 := by rw [hwx]; exact Below.alloc_self _ _
  have KV_0 : Hid (Blk w8 gV 27 #[.int .i64 zp, .int .i64 zr, .int .i64 zc, .slice PV nV cV]) := Lib.hid (by rw [hwx, hgx]; exact Blk.new _ _ _)
  have DKV_W : Hid (gV < w2.heap.size ∨ w3.heap.size ≤ gV) := Lib.hid (.inr (by rw [hgx]; exact LW_4.out))
  have DKV_pX : Hid (gV < w4.heap.size ∨ w5.heap.size ≤ gV) := Lib.hid (.inr (by rw [hgx]; exact LpX_2.out))
  have DKV_V : Hid (gV < w6.heap.size ∨ w7.heap.size ≤ gV) := Lib.hid (.inr (by rw [hgx]; exact LV_0.out))
  clear hwx hgx
  have KA_8 := Lib.hid (KA_7.out.below hb KA_7.out.lt)
  have KW_4 := Lib.hid (KW_3.out.below hb KW_3.out.lt)
  have KX_2 := Lib.hid (KX_1.out.below hb KX_1.out.lt)
  have hsz := hb.size
  have HB8 := Lib.hid (HB7.out.trans (hb.mono HB7.out.size))
  have OW_5 := Lib.hid (OW_4.out.below hb LW_4.out)
  have LW_5 := Lib.hid (Nat.le_trans LW_4.out hsz)
  have OpX_3 := Lib.hid (OpX_2.out.below hb LpX_2.out)
  have LpX_3 := Lib.hid (Nat.le_trans LpX_2.out hsz)
  have OV_1 := Lib.hid (OV_0.out.below hb LV_0.out)
  have LV_1 := Lib.hid (Nat.le_trans LV_0.out hsz)
  clear OW_4 LW_4 OpX_2 LpX_2 OV_0 LV_0 HB7 hb hsz
  clear KA_7 KW_3 KX_1
  obtain ⟨cA0, cA1, cA2, cA3⟩ := cells4 KA_8.out
  obtain ⟨cW0, cW1, cW2, cW3⟩ := cells4 KW_4.out
  obtain ⟨cX0, cX1, cX2, cX3⟩ := cells4 KX_2.out
  obtain ⟨cV0, cV1, cV2, cV3⟩ := cells4 KV_0.out
  go_wp2_with fail
  refine (eqMatrix_yes zp zr zc _ _ _ _ _ _ z _ OV_1.out.si OW_5.out.si (by have := MBC.out; omega)).mono ?_
  rintro e w9 ⟨rfl, hb⟩
  clear cA0 cA1 cA2 cA3 cW0 cW1 cW2 cW3 cX0 cX1 cX2 cX3 cV0 cV1 cV2 cV3
  have KA_9 := Lib.hid (KA_8.out.below hb KA_8.out.lt)
  have KW_5 := Lib.hid (KW_4.out.below hb KW_4.out.lt)
  have KX_3 := Lib.hid (KX_2.out.below hb KX_2.out.lt)
  have KV_1 := Lib.hid (KV_0.out.below hb KV_0.out.lt)
  have hsz := hb.size
  have HB9 := Lib.hid (HB8.out.trans (hb.mono HB8.out.size))
  have OW_6 := Lib.hid (OW_5.out.below hb LW_5.out)
  have LW_6 := Lib.hid (Nat.le_trans LW_5.out hsz)
  have OpX_4 := Lib.hid (OpX_3.out.below hb LpX_3.out)
  have LpX_4 := Lib.hid (Nat.le_trans LpX_3.out hsz)
  have OV_2 := Lib.hid (OV_1.out.below hb LV_1.out)
  have LV_2 := Lib.hid (Nat.le_trans LV_1.out hsz)
  clear OW_5 LW_5 OpX_3 LpX_3 OV_1 LV_1 HB8 hb hsz
  clear KA_8 KW_4 KX_2 KV_0
  obtain ⟨cA0, cA1, cA2, cA3⟩ := cells4 KA_9.out
  obtain ⟨cW0, cW1, cW2, cW3⟩ := cells4 KW_5.out
  obtain ⟨cX0, cX1, cX2, cX3⟩ := cells4 KX_3.out
  obtain ⟨cV0, cV1, cV2, cV3⟩ := cells4 KV_1.out
  go_upto_region 10 with fail
  clear cA0 cA1 cA2 cA3 cW0 cW1 cW2 cW3 cX0 cX1 cX2 cX3 cV0 cV1 cV2 cV3
  have hq0 : w9.cell? ⟨gX, 0, none⟩ = some (.int .i64 P0) ∧ w9.cell? ⟨gX, 1, none⟩ = some (.int .i64 R0) ∧ w9.cell? ⟨gX, 2, none⟩ = some (.int .i64 C0) ∧ w9.cell? ⟨gX, 3, none⟩ = some (.slice PpX npX cpX) ∧ w9.cell? ⟨gA, 0, none⟩ = some (.int .i64 P0) ∧ w9.cell? ⟨gA, 1, none⟩ = some (.int .i64 R0) ∧ w9.cell? ⟨gA, 2, none⟩ = some (.int .i64 C0) ∧ w9.cell? ⟨gA, 3, none⟩ = some (.slice A1 n1 c1) := by obtain ⟨a0, a1, a2, a3⟩ := cells4 KX_3.out; obtain ⟨b0, b1, b2, b3⟩ := cells4 KA_9.out; exact ⟨a0, a1, a2, a3, b0, b1, b2, b3⟩
  have hqd : w9.drew.cell? ⟨gX, 0, none⟩ = some (.int .i64 P0) ∧ w9.drew.cell? ⟨gX, 1, none⟩ = some (.int .i64 R0) ∧ w9.drew.cell? ⟨gX, 2, none⟩ = some (.int .i64 C0) ∧ w9.drew.cell? ⟨gX, 3, none⟩ = some (.slice PpX npX cpX) ∧ w9.drew.cell? ⟨gA, 0, none⟩ = some (.int .i64 P0) ∧ w9.drew.cell? ⟨gA, 1, none⟩ = some (.int .i64 R0) ∧ w9.drew.cell? ⟨gA, 2, none⟩ = some (.int .i64 C0) ∧ w9.drew.cell? ⟨gA, 3, none⟩ = some (.slice A1 n1 c1) := hq0
  have HQ0 := Lib.hid hq0
  have HQD := Lib.hid hqd
  clear hq0 hqd
  have HPD : Hid (SI w9.drew A1 n1 y1) := Lib.hid (hp.below HB9.out.drew (Nat.le_refl _))
  go_region_held3 (fun w' => w'.cell? ⟨gX, 0, none⟩ = some (.int .i64 P0) ∧ w'.cell? ⟨gX, 1, none⟩ = some (.int .i64 R0) ∧ w'.cell? ⟨gX, 2, none⟩ = some (.int .i64 C0) ∧ w'.cell? ⟨gX, 3, none⟩ = some (.slice PpX npX cpX) ∧ w'.cell? ⟨gA, 0, none⟩ = some (.int .i64 P0) ∧ w'.cell? ⟨gA, 1, none⟩ = some (.int .i64 R0) ∧ w'.cell? ⟨gA, 2, none⟩ = some (.int .i64 C0) ∧ w'.cell? ⟨gA, 3, none⟩ = some (.slice A1 n1 c1))
    (first | exact HQD.out | exact HQ0.out | exact KK4 | exact KK5)
    (first
      | (go_at_call 17
         with_reducible refine (toMatrix_any P0 R0 C0 _ _ _ y1 _ HPD.out (by have := SM.out; omega)).mono ?_
         rintro e w10 ⟨Pyp, nyp, cyp, rfl, ho0, hb0⟩
         have hb : Below w9.heap.size w9 w10 := ((Below.refl _ _).drew).trans hb0
         have ho : Own w10 w9.heap.size w10.heap.size Pyp nyp cyp y1 := ho0
         clear ho0 hb0
         have KA_10 := Lib.hid (KA_9.out.below hb KA_9.out.lt)
         have KW_6 := Lib.hid (KW_5.out.below hb KW_5.out.lt)
         have KX_4 := Lib.hid (KX_3.out.below hb KX_3.out.lt)
         have KV_2 := Lib.hid (KV_1.out.below hb KV_1.out.lt)
         have DKA_yp : Hid (gA < w9.heap.size ∨ w10.heap.size ≤ gA) := Lib.hid (.inl KA_9.out.lt)
         have DKW_yp : Hid (gW < w9.heap.size ∨ w10.heap.size ≤ gW) := Lib.hid (.inl KW_5.out.lt)
         have DKX_yp : Hid (gX < w9.heap.size ∨ w10.heap.size ≤ gX) := Lib.hid (.inl KX_3.out.lt)
         have DKV_yp : Hid (gV < w9.heap.size ∨ w10.heap.size ≤ gV) := Lib.hid (.inl KV_1.out.lt)
         have hsz := hb.size
         have HB10 := Lib.hid (HB9.out.trans (hb.mono HB9.out.size))
         have OW_7 := Lib.hid (OW_6.out.below hb LW_6.out)
         have LW_7 := Lib.hid (Nat.le_trans LW_6.out hsz)
         have OpX_5 := Lib.hid (OpX_4.out.below hb LpX_4.out)
         have LpX_5 := Lib.hid (Nat.le_trans LpX_4.out hsz)
         have OV_3 := Lib.hid (OV_2.out.below hb LV_2.out)
         have LV_3 := Lib.hid (Nat.le_trans LV_2.out hsz)
         have Oyp_0 := Lib.hid ho
         have Lyp_0 := Lib.hid (Nat.le_refl w10.heap.size)
         have Nyp := Lib.hid ho.len
         have Gyp := Lib.hid HB9.out.size
         have DW_yp : Hid (_ ≤ w9.heap.size) := LW_6
         have DpX_yp : Hid (_ ≤ w9.heap.size) := LpX_4
         have DV_yp : Hid (_ ≤ w9.heap.size) := LV_2
         clear OW_6 LW_6 OpX_4 LpX_4 OV_2 LV_2 HB9 hb hsz ho
         clear KA_9 KW_5 KX_3 KV_1
         have KK4 : w10.cell? ⟨gX, 0, none⟩ = some (.int .i64 P0) ∧ w10.cell? ⟨gX, 1, none⟩ = some (.int .i64 R0) ∧ w10.cell? ⟨gX, 2, none⟩ = some (.int .i64 C0) ∧ w10.cell? ⟨gX, 3, none⟩ = some (.slice PpX npX cpX) ∧ w10.cell? ⟨gA, 0, none⟩ = some (.int .i64 P0) ∧ w10.cell? ⟨gA, 1, none⟩ = some (.int .i64 R0) ∧ w10.cell? ⟨gA, 2, none⟩ = some (.int .i64 C0) ∧ w10.cell? ⟨gA, 3, none⟩ = some (.slice A1 n1 c1) := by obtain ⟨a0, a1, a2, a3⟩ := cells4 KX_4.out; obtain ⟨b0, b1, b2, b3⟩ := cells4 KA_10.out; exact ⟨a0, a1, a2, a3, b0, b1, b2, b3⟩
         have QX := Lib.hid OpX_5.out.si
         have QY := Lib.hid Oyp_0.out.si)
      | (go_at_call 19
         with_reducible refine (eqMatrix_yes P0 R0 C0 _ _ _ _ _ _ y1 _ QX.out QY.out YB.out).mono ?_
         rintro e w11 ⟨rfl, hb⟩
         have KA_11 := Lib.hid (KA_10.out.below hb KA_10.out.lt)
         have KW_7 := Lib.hid (KW_6.out.below hb KW_6.out.lt)
         have KX_5 := Lib.hid (KX_4.out.below hb KX_4.out.lt)
         have KV_3 := Lib.hid (KV_2.out.below hb KV_2.out.lt)
         have hsz := hb.size
         have HB11 := Lib.hid (HB10.out.trans (hb.mono HB10.out.size))
         have OW_8 := Lib.hid (OW_7.out.below hb LW_7.out)
         have LW_8 := Lib.hid (Nat.le_trans LW_7.out hsz)
         have OpX_6 := Lib.hid (OpX_5.out.below hb LpX_5.out)
         have LpX_6 := Lib.hid (Nat.le_trans LpX_5.out hsz)
         have OV_4 := Lib.hid (OV_3.out.below hb LV_3.out)
         have LV_4 := Lib.hid (Nat.le_trans LV_3.out hsz)
         have Oyp_1 := Lib.hid (Oyp_0.out.below hb Lyp_0.out)
         have Lyp_1 := Lib.hid (Nat.le_trans Lyp_0.out hsz)
         clear OW_7 LW_7 OpX_5 LpX_5 OV_3 LV_3 Oyp_0 Lyp_0 HB10 hb hsz
         clear KA_10 KW_6 KX_4 KV_2
         have KK5 : w11.cell? ⟨gX, 0, none⟩ = some (.int .i64 P0) ∧ w11.cell? ⟨gX, 1, none⟩ = some (.int .i64 R0) ∧ w11.cell? ⟨gX, 2, none⟩ = some (.int .i64 C0) ∧ w11.cell? ⟨gX, 3, none⟩ = some (.slice PpX npX cpX) ∧ w11.cell? ⟨gA, 0, none⟩ = some (.int .i64 P0) ∧ w11.cell? ⟨gA, 1, none⟩ = some (.int .i64 R0) ∧ w11.cell? ⟨gA, 2, none⟩ = some (.int .i64 C0) ∧ w11.cell? ⟨gA, 3, none⟩ = some (.slice A1 n1 c1) := by obtain ⟨a0, a1, a2, a3⟩ := cells4 KX_5.out; obtain ⟨b0, b1, b2, b3⟩ := cells4 KA_11.out; exact ⟨a0, a1, a2, a3, b0, b1, b2, b3⟩))
  clear HQ0 HQD HPD KK4 KK5 QX QY
  obtain ⟨cA0, cA1, cA2, cA3⟩ := cells4 KA_11.out
  obtain ⟨cW0, cW1, cW2, cW3⟩ := cells4 KW_7.out
  obtain ⟨cX0, cX1, cX2, cX3⟩ := cells4 KX_5.out
  obtain ⟨cV0, cV1, cV2, cV3⟩ := cells4 KV_3.out
  go_wp2_with fail
  refine (markMatrix_any P0 R0 C0 _ _ _ _ _ y1 1 _ OpX_6.out LpX_6.out (by have := SM.out; have := NpX.out; have := YL.out; omega) (by omega) (by omega)).mono ?_
  rintro e w12 ⟨rfl, ho, hw⟩
  clear cA0 cA1 cA2 cA3 cW0 cW1 cW2 cW3 cX0 cX1 cX2 cX3 cV0 cV1 cV2 cV3
  have KA_12 := Lib.hid (Blk.within_ KA_11.out hw DKA_pX.out)
  have KW_8 := Lib.hid (Blk.within_ KW_7.out hw DKW_pX.out)
  have KX_6 := Lib.hid (Blk.within_ KX_5.out hw DKX_pX.out)
  have KV_4 := Lib.hid (Blk.within_ KV_3.out hw DKV_pX.out)
  have hsz := hw.size
  have HB12 := Lib.hid (HB11.out.trans (hw.below GpX.out HB11.out.size))
  have OW_9 := Lib.hid (OW_8.out.within hw (.inl DW_pX.out))
  have LW_9 := Lib.hid (Nat.le_trans LW_8.out hsz)
  have OpX_7 := Lib.hid ho
  have LpX_7 := Lib.hid (Nat.le_trans LpX_6.out hsz)
  have OV_5 := Lib.hid (OV_4.out.within hw (.inr DpX_V.out))
  have LV_5 := Lib.hid (Nat.le_trans LV_4.out hsz)
  clear OW_8 LW_8 OpX_6 LpX_6 OV_4 LV_4 HB11 hw hsz ho
  clear KA_11 KW_7 KX_5 KV_3
  have hpxn : npX ≤ 1048576 := by have := SM.out; have := NpX.out; have := YL.out; omega
  obtain ⟨k0, hk0⟩ : ∃ z : Int, z = 1 + (npX : Int) := ⟨_, rfl⟩
  rw [← hk0]
  have hk0b : 0 ≤ k0 ∧ k0 ≤ 100000000 := by omega
  have hk0n : ¬ k0 < 0 := by omega
  clear hk0
  obtain ⟨cA0, cA1, cA2, cA3⟩ := cells4 KA_12.out
  obtain ⟨cW0, cW1, cW2, cW3⟩ := cells4 KW_8.out
  obtain ⟨cX0, cX1, cX2, cX3⟩ := cells4 KX_6.out
  obtain ⟨cV0, cV1, cV2, cV3⟩ := cells4 KV_4.out
  go_wp2_with fail
  refine (eqMatrix_yes zp zr zc _ _ _ _ _ _ z _ OV_5.out.si OW_9.out.si (by have := MBC.out; omega)).mono ?_
  rintro e w13 ⟨rfl, hb⟩
  clear cA0 cA1 cA2 cA3 cW0 cW1 cW2 cW3 cX0 cX1 cX2 cX3 cV0 cV1 cV2 cV3
  have KA_13 := Lib.hid (KA_12.out.below hb KA_12.out.lt)
  have KW_9 := Lib.hid (KW_8.out.below hb KW_8.out.lt)
  have KX_7 := Lib.hid (KX_6.out.below hb KX_6.out.lt)
  have KV_5 := Lib.hid (KV_4.out.below hb KV_4.out.lt)
  have hsz := hb.size
  have HB13 := Lib.hid (HB12.out.trans (hb.mono HB12.out.size))
  have OW_10 := Lib.hid (OW_9.out.below hb LW_9.out)
  have LW_10 := Lib.hid (Nat.le_trans LW_9.out hsz)
  have OpX_8 := Lib.hid (OpX_7.out.below hb LpX_7.out)
  have LpX_8 := Lib.hid (Nat.le_trans LpX_7.out hsz)
  have OV_6 := Lib.hid (OV_5.out.below hb LV_5.out)
  have LV_6 := Lib.hid (Nat.le_trans LV_5.out hsz)
  clear OW_9 LW_9 OpX_7 LpX_7 OV_5 LV_5 HB12 hb hsz
  clear KA_12 KW_8 KX_6 KV_4
  obtain ⟨cA0, cA1, cA2, cA3⟩ := cells4 KA_13.out
  obtain ⟨cW0, cW1, cW2, cW3⟩ := cells4 KW_9.out
  obtain ⟨cX0, cX1, cX2, cX3⟩ := cells4 KX_7.out
  obtain ⟨cV0, cV1, cV2, cV3⟩ := cells4 KV_5.out
  go_wp2_with fail
  refine (markMatrix_any zp zr zc _ _ _ _ _ z 1 _ OV_6.out LV_6.out (by have := MBC.out; have := NV.out; omega) (by omega) (by omega)).mono ?_
  rintro e w14 ⟨rfl, ho, hw⟩
  clear cA0 cA1 cA2 cA3 cW0 cW1 cW2 cW3 cX0 cX1 cX2 cX3 cV0 cV1 cV2 cV3
  have KA_14 := Lib.hid (Blk.within_ KA_13.out hw DKA_V.out)
  have KW_10 := Lib.hid (Blk.within_ KW_9.out hw DKW_V.out)
  have KX_8 := Lib.hid (Blk.within_ KX_7.out hw DKX_V.out)
  have KV_6 := Lib.hid (Blk.within_ KV_5.out hw DKV_V.out)
  have hsz := hw.size
  have HB14 := Lib.hid (HB13.out.trans (hw.below GV.out HB13.out.size))
  have OW_11 := Lib.hid (OW_10.out.within hw (.inl DW_V.out))
  have LW_11 := Lib.hid (Nat.le_trans LW_10.out hsz)
  have OV_7 := Lib.hid ho
  have LV_7 := Lib.hid (Nat.le_trans LV_6.out hsz)
  clear OW_10 LW_10 OV_6 LV_6 HB13 hw hsz ho
  clear KA_13 KW_9 KX_7 KV_5
  have hVn : nV ≤ 1000 := by have := MBC.out; have := NV.out; omega
  obtain ⟨cA0, cA1, cA2, cA3⟩ := cells4 KA_14.out
  obtain ⟨cW0, cW1, cW2, cW3⟩ := cells4 KW_10.out
  obtain ⟨cX0, cX1, cX2, cX3⟩ := cells4 KX_8.out
  obtain ⟨cV0, cV1, cV2, cV3⟩ := cells4 KV_6.out
  go_wp2_with fail
  refine (heldMatrix_yes zp zr zc _ _ _ 1 _ OV_7.out.si (by omega) (by omega) (by omega)).mono ?_
  rintro e w15 ⟨rfl, hb⟩
  clear cA0 cA1 cA2 cA3 cW0 cW1 cW2 cW3 cX0 cX1 cX2 cX3 cV0 cV1 cV2 cV3
  have KA_15 := Lib.hid (KA_14.out.below hb KA_14.out.lt)
  have KW_11 := Lib.hid (KW_10.out.below hb KW_10.out.lt)
  have KX_9 := Lib.hid (KX_8.out.below hb KX_8.out.lt)
  have KV_7 := Lib.hid (KV_6.out.below hb KV_6.out.lt)
  have hsz := hb.size
  have HB15 := Lib.hid (HB14.out.trans (hb.mono HB14.out.size))
  have OW_12 := Lib.hid (OW_11.out.below hb LW_11.out)
  have LW_12 := Lib.hid (Nat.le_trans LW_11.out hsz)
  have OV_8 := Lib.hid (OV_7.out.below hb LV_7.out)
  have LV_8 := Lib.hid (Nat.le_trans LV_7.out hsz)
  clear OW_11 LW_11 OV_7 LV_7 HB14 hb hsz
  clear KA_14 KW_10 KX_8 KV_6
  obtain ⟨zz, hz⟩ : ∃ z : Int, z = 1 + (nV : Int) := ⟨_, rfl⟩
  have HZ := Lib.hid hz
  have hzn : ¬ zz < 0 := by omega
  rw [← hz]
  clear hz
  obtain ⟨cA0, cA1, cA2, cA3⟩ := cells4 KA_15.out
  obtain ⟨cW0, cW1, cW2, cW3⟩ := cells4 KW_11.out
  obtain ⟨cX0, cX1, cX2, cX3⟩ := cells4 KX_9.out
  obtain ⟨cV0, cV1, cV2, cV3⟩ := cells4 KV_7.out
  go_wp2_with fail
  refine (toMatrix_any P0 R0 C0 _ _ _ y1 _ (hp.below HB15.out (Nat.le_refl _)) (by have := SM.out; omega)).mono ?_
  rintro e w16 ⟨PpZ, npZ, cpZ, rfl, ho, hb⟩
  clear cA0 cA1 cA2 cA3 cW0 cW1 cW2 cW3 cX0 cX1 cX2 cX3 cV0 cV1 cV2 cV3
  have KA_16 := Lib.hid (KA_15.out.below hb KA_15.out.lt)
  have KW_12 := Lib.hid (KW_11.out.below hb KW_11.out.lt)
  have KX_10 := Lib.hid (KX_9.out.below hb KX_9.out.lt)
  have KV_8 := Lib.hid (KV_7.out.below hb KV_7.out.lt)
  have DKA_pZ : Hid (gA < w15.heap.size ∨ w16.heap.size ≤ gA) := Lib.hid (.inl KA_15.out.lt)
  have DKW_pZ : Hid (gW < w15.heap.size ∨ w16.heap.size ≤ gW) := Lib.hid (.inl KW_11.out.lt)
  have DKX_pZ : Hid (gX < w15.heap.size ∨ w16.heap.size ≤ gX) := Lib.hid (.inl KX_9.out.lt)
  have DKV_pZ : Hid (gV < w15.heap.size ∨ w16.heap.size ≤ gV) := Lib.hid (.inl KV_7.out.lt)
  have hsz := hb.size
  have HB16 := Lib.hid (HB15.out.trans (hb.mono HB15.out.size))
  have OW_13 := Lib.hid (OW_12.out.below hb LW_12.out)
  have LW_13 := Lib.hid (Nat.le_trans LW_12.out hsz)
  have OV_9 := Lib.hid (OV_8.out.below hb LV_8.out)
  have LV_9 := Lib.hid (Nat.le_trans LV_8.out hsz)
  have OpZ_0 := Lib.hid ho
  have LpZ_0 := Lib.hid (Nat.le_refl w16.heap.size)
  have NpZ := Lib.hid ho.len
  have GpZ := Lib.hid HB15.out.size
  have DW_pZ : Hid (_ ≤ w15.heap.size) := LW_12
  have DV_pZ : Hid (_ ≤ w15.heap.size) := LV_8
  clear OW_12 LW_12 OV_8 LV_8 HB15 hb hsz ho
  clear KA_15 KW_11 KX_9 KV_7
  obtain ⟨cA0, cA1, cA2, cA3⟩ := cells4 KA_16.out
  obtain ⟨cW0, cW1, cW2, cW3⟩ := cells4 KW_12.out
  obtain ⟨cX0, cX1, cX2, cX3⟩ := cells4 KX_10.out
  obtain ⟨cV0, cV1, cV2, cV3⟩ := cells4 KV_8.out
  go_wp2_with fail
  refine (implSpanOf_z P0 R0 C0 _ _ _ y1 _ OpZ_0.out.si (by have := NpZ.out; have := YB.out; omega) OpZ_0.out.cap zp zr zc z HZZ.out).mono ?_
  rintro e w17 ⟨PU, nU, cU, rfl, ho, hb⟩
  clear cA0 cA1 cA2 cA3 cW0 cW1 cW2 cW3 cX0 cX1 cX2 cX3 cV0 cV1 cV2 cV3
  have KA_17 := Lib.hid (KA_16.out.below hb KA_16.out.lt)
  have KW_13 := Lib.hid (KW_12.out.below hb KW_12.out.lt)
  have KX_11 := Lib.hid (KX_10.out.below hb KX_10.out.lt)
  have KV_9 := Lib.hid (KV_8.out.below hb KV_8.out.lt)
  have DKA_U : Hid (gA < w16.heap.size ∨ w17.heap.size ≤ gA) := Lib.hid (.inl KA_16.out.lt)
  have DKW_U : Hid (gW < w16.heap.size ∨ w17.heap.size ≤ gW) := Lib.hid (.inl KW_12.out.lt)
  have DKX_U : Hid (gX < w16.heap.size ∨ w17.heap.size ≤ gX) := Lib.hid (.inl KX_10.out.lt)
  have DKV_U : Hid (gV < w16.heap.size ∨ w17.heap.size ≤ gV) := Lib.hid (.inl KV_8.out.lt)
  have hsz := hb.size
  have HB17 := Lib.hid (HB16.out.trans (hb.mono HB16.out.size))
  have OW_14 := Lib.hid (OW_13.out.below hb LW_13.out)
  have LW_14 := Lib.hid (Nat.le_trans LW_13.out hsz)
  have OV_10 := Lib.hid (OV_9.out.below hb LV_9.out)
  have LV_10 := Lib.hid (Nat.le_trans LV_9.out hsz)
  have OpZ_1 := Lib.hid (OpZ_0.out.below hb LpZ_0.out)
  have LpZ_1 := Lib.hid (Nat.le_trans LpZ_0.out hsz)
  have OU_0 := Lib.hid ho
  have LU_0 := Lib.hid (Nat.le_refl w17.heap.size)
  have NU := Lib.hid ho.len
  have GU := Lib.hid HB16.out.size
  have DW_U : Hid (_ ≤ w16.heap.size) := LW_13
  have DV_U : Hid (_ ≤ w16.heap.size) := LV_9
  have DpZ_U : Hid (_ ≤ w16.heap.size) := LpZ_0
  clear OW_13 LW_13 OV_9 LV_9 OpZ_0 LpZ_0 HB16 hb hsz ho
  clear KA_16 KW_12 KX_10 KV_8
  obtain ⟨cA0, cA1, cA2, cA3⟩ := cells4 KA_17.out
  obtain ⟨cW0, cW1, cW2, cW3⟩ := cells4 KW_13.out
  obtain ⟨cX0, cX1, cX2, cX3⟩ := cells4 KX_11.out
  obtain ⟨cV0, cV1, cV2, cV3⟩ := cells4 KV_9.out
  go_upto_region 25 with fail
  clear cA0 cA1 cA2 cA3 cW0 cW1 cW2 cW3 cX0 cX1 cX2 cX3 cV0 cV1 cV2 cV3
  obtain ⟨w18, hwx⟩ : ∃ w18, w18 = w17.alloc (.cells #[.int .i64 zp, .int .i64 zr, .int .i64 zc, .slice PU nU cU] 27) := ⟨_, rfl⟩
  obtain ⟨gU, hgx⟩ : ∃ g, g = w17.heap.size := ⟨_, rfl⟩
  rw [← hwx, ← hgx]
  have hb : Below w17.heap.size w17 w18 := by rw [hwx]; exact Below.alloc_self _ _
  have KU_0 : Hid (Blk w18 gU 27 #[.int .i64 zp, .int .i64 zr, .int .i64 zc, .slice PU nU cU]) := Lib.hid (by rw [hwx, hgx]; exact Blk.new _ _ _)
  have DKU_W : Hid (gU < w2.heap.size ∨ w3.heap.size ≤ gU) := Lib.hid (.inr (by rw [hgx]; exact LW_14.out))
  have DKU_V : Hid (gU < w6.heap.size ∨ w7.heap.size ≤ gU) := Lib.hid (.inr (by rw [hgx]; exact LV_10.out))
  have DKU_pZ : Hid (gU < w15.heap.size ∨ w16.heap.size ≤ gU) := Lib.hid (.inr (by rw [hgx]; exact LpZ_1.out))
  have DKU_U : Hid (gU < w16.heap.size ∨ w17.heap.size ≤ gU) := Lib.hid (.inr (by rw [hgx]; exact LU_0.out))
  clear hwx hgx
  have KA_18 := Lib.hid (KA_17.out.below hb KA_17.out.lt)
  have KW_14 := Lib.hid (KW_13.out.below hb KW_13.out.lt)
  have KX_12 := Lib.hid (KX_11.out.below hb KX_11.out.lt)
  have KV_10 := Lib.hid (KV_9.out.below hb KV_9.out.lt)
  have hsz := hb.size
  have HB18 := Lib.hid (HB17.out.trans (hb.mono HB17.out.size))
  have OW_15 := Lib.hid (OW_14.out.below hb LW_14.out)
  have LW_15 := Lib.hid (Nat.le_trans LW_14.out hsz)
  have OV_11 := Lib.hid (OV_10.out.below hb LV_10.out)
  have LV_11 := Lib.hid (Nat.le_trans LV_10.out hsz)
  have OpZ_2 := Lib.hid (OpZ_1.out.below hb LpZ_1.out)
  have LpZ_2 := Lib.hid (Nat.le_trans LpZ_1.out hsz)
  have OU_1 := Lib.hid (OU_0.out.below hb LU_0.out)
  have LU_1 := Lib.hid (Nat.le_trans LU_0.out hsz)
  clear OW_14 LW_14 OV_10 LV_10 OpZ_1 LpZ_1 OU_0 LU_0 HB17 hb hsz
  clear KA_17 KW_13 KX_11 KV_9
  obtain ⟨cA0, cA1, cA2, cA3⟩ := cells4 KA_18.out
  obtain ⟨cW0, cW1, cW2, cW3⟩ := cells4 KW_14.out
  obtain ⟨cX0, cX1, cX2, cX3⟩ := cells4 KX_12.out
  obtain ⟨cV0, cV1, cV2, cV3⟩ := cells4 KV_10.out
  obtain ⟨cU0, cU1, cU2, cU3⟩ := cells4 KU_0.out
  go_wp2_with fail
  refine (eqMatrix_yes zp zr zc _ _ _ _ _ _ z _ OU_1.out.si OW_15.out.si (by have := MBC.out; omega)).mono ?_
  rintro e w19 ⟨rfl, hb⟩
  clear cA0 cA1 cA2 cA3 cW0 cW1 cW2 cW3 cX0 cX1 cX2 cX3 cV0 cV1 cV2 cV3 cU0 cU1 cU2 cU3
  have KA_19 := Lib.hid (KA_18.out.below hb KA_18.out.lt)
  have KW_15 := Lib.hid (KW_14.out.below hb KW_14.out.lt)
  have KX_13 := Lib.hid (KX_12.out.below hb KX_12.out.lt)
  have KV_11 := Lib.hid (KV_10.out.below hb KV_10.out.lt)
  have KU_1 := Lib.hid (KU_0.out.below hb KU_0.out.lt)
  have hsz := hb.size
  have HB19 := Lib.hid (HB18.out.trans (hb.mono HB18.out.size))
  have OW_16 := Lib.hid (OW_15.out.below hb LW_15.out)
  have LW_16 := Lib.hid (Nat.le_trans LW_15.out hsz)
  have OV_12 := Lib.hid (OV_11.out.below hb LV_11.out)
  have LV_12 := Lib.hid (Nat.le_trans LV_11.out hsz)
  have OU_2 := Lib.hid (OU_1.out.below hb LU_1.out)
  have LU_2 := Lib.hid (Nat.le_trans LU_1.out hsz)
  clear OW_15 LW_15 OV_11 LV_11 OU_1 LU_1 HB18 hb hsz
  clear KA_18 KW_14 KX_12 KV_10 KU_0
  obtain ⟨cA0, cA1, cA2, cA3⟩ := cells4 KA_19.out
  obtain ⟨cW0, cW1, cW2, cW3⟩ := cells4 KW_15.out
  obtain ⟨cX0, cX1, cX2, cX3⟩ := cells4 KX_13.out
  obtain ⟨cV0, cV1, cV2, cV3⟩ := cells4 KV_11.out
  obtain ⟨cU0, cU1, cU2, cU3⟩ := cells4 KU_1.out
  go_wp2_with fail
  refine (heldMatrix_yes zp zr zc _ _ _ 1 _ OV_12.out.si (by omega) (by omega) (by omega)).mono ?_
  rintro e w20 ⟨rfl, hb⟩
  clear cA0 cA1 cA2 cA3 cW0 cW1 cW2 cW3 cX0 cX1 cX2 cX3 cV0 cV1 cV2 cV3 cU0 cU1 cU2 cU3
  have KA_20 := Lib.hid (KA_19.out.below hb KA_19.out.lt)
  have KW_16 := Lib.hid (KW_15.out.below hb KW_15.out.lt)
  have KX_14 := Lib.hid (KX_13.out.below hb KX_13.out.lt)
  have KV_12 := Lib.hid (KV_11.out.below hb KV_11.out.lt)
  have KU_2 := Lib.hid (KU_1.out.below hb KU_1.out.lt)
  have hsz := hb.size
  have HB20 := Lib.hid (HB19.out.trans (hb.mono HB19.out.size))
  have OW_17 := Lib.hid (OW_16.out.below hb LW_16.out)
  have LW_17 := Lib.hid (Nat.le_trans LW_16.out hsz)
  have OV_13 := Lib.hid (OV_12.out.below hb LV_12.out)
  have LV_13 := Lib.hid (Nat.le_trans LV_12.out hsz)
  have OU_3 := Lib.hid (OU_2.out.below hb LU_2.out)
  have LU_3 := Lib.hid (Nat.le_trans LU_2.out hsz)
  clear OW_16 LW_16 OV_12 LV_12 OU_2 LU_2 HB19 hb hsz
  clear KA_19 KW_15 KX_13 KV_11 KU_1
  rw [← HZ.out]
  go_wp2
  go_ret
  exact ⟨rfl, HBA.out.trans (HB20.out.mono HFIN.out)⟩

set_option maxRecDepth 100000 in
theorem lifted_SpanOf (os : Os) (started : os.Started) (H : Type) (enc : TypeId × Value → H) :
    ReturnsInHanded {} Try.checked os 12 .any (Rows.fnExactSpanOfSpec.pre6 enc Try.prog Try.f12 Rows.fnExactSpanOfRow.domain false) (Rows.fnExactSpanOfSpec.post enc Try.prog Try.f12 false true false false) := by
  refine returnsInHanded_of_change (C := Try.checked) own started (by kernel_rfl) Try.func12
    (ChangeSpec.witness6 (enc := enc) (C := Try.checked) false ⟨#[], #[.agg #[.int .i64 0, .int .i64 0, .int .i64 0, .slice none 0 0]], []⟩ 8 (by kernel_rfl) (by kernel_rfl) (by kernel_rfl) (by kernel_rfl)) ?_
  intro W base args ds gs before hval0 hW hcnd _
  have hval : ∀ (j : Nat) t v, Try.f12.params[j]? = some t → args[j]? = some v → Value.okWide Try.prog W .any base t v := hval0
  have hW' := hW
  obtain ⟨p, q, hA0, hV, rfl, hfz, hnd⟩ := hW
  have hA : DataW.TrodAll enc Try.prog W 0 (fun _ => true) true Try.f12.params.toList args.toList ds p := hA0
  rw [Try.params12] at hA hval
  obtain ⟨v0, vs0, d0, ds0, p0, q0, hargs, rfl, rfl, h0, r0⟩ := trodAll_cons hA
  obtain ⟨rfl, rfl, rfl⟩ := trodAll_nil r0
  obtain rfl : args = #[v0] := by cases args; simp_all
  obtain ⟨rfl, rfl⟩ := trodVars_none hV
  have ok0 := hval 0 24 v0 rfl rfl
  obtain ⟨cs0, rfl, hsz0⟩ : ∃ cs : Array Value, v0 = .agg cs ∧ cs.size = 4 := by
    unfold Value.okWide at ok0
    rw [Try.underlying24] at ok0
    obtain ⟨cs, e, hz, _⟩ := ok0
    exact ⟨cs, e, by rw [hz]; kernel_rfl⟩
  clear ok0
  have k0 := h0
  have lt0 : ∀ x ∈ p0, x.block < W.heap.size := by obtain ⟨m, hm⟩ := k0; exact DataW.trod_lt m _ _ _ hm
  obtain ⟨P0, R0, C0, A0, n0, c0, y0, rfl, hp0, hn0, _, _, _, hf0⟩ := MX.of_trod hsz0 h0
  clear hA0 hval0
  refine (walk_SpanOf P0 R0 C0 A0 n0 c0 y0 W hp0 hn0 hf0).mono fun e W' ⟨he, bel⟩ => ?_
  subst he
  exact ⟨_, rfl, _, _, _, [], _, [], hW', trodAll_mk1 (shut_bool Try.underlying4 _), (trodAll_cons_mk (Below.trod laidOut (by kernel_rfl) (of_decide_eq_true (by kernel_rfl)) k0 bel lt0) trodAll_mk0), rfl, bel.frame _, fun h => by cases h⟩

theorem fnExactSpanOf_holds : Rows.FnExactSpanOfSaid :=
  OpenClaim.holds_of_wide 12 Try.f12 rfl rfl rfl rfl rfl rfl rfl ⟨rfl, rfl, rfl, rfl, rfl⟩ rfl rfl rfl rfl rfl (by kernel_rfl) Try.func12 (by kernel_rfl)
    (of_decide_eq_true (by kernel_rfl)) (by unfold Func.isWrapper; first | (rw [if_pos (by decide +kernel)]; kernel_rfl) | (rw [if_neg (by decide +kernel)]; exact ⟨rfl, rfl⟩))
    (fun os started H enc _ => lifted_SpanOf os started H enc)
end Go.Proofs.Ytololcgifhefnaa
