/-
  FnExactKeepsEssential: for every input the law returns true: the program's KeepsEssential answers as the specification's, changes no argument, and its answer owns its memory. No conditions.
-/
import Derived.Test.YtbkhibojbakckaaPkB3
namespace Go.Proofs.Ytbkhibojbakckaa
open Go.ChangeShapes Go.WideShapes Go.ChangeAt Go.RowKit

set_option maxRecDepth 100000 in
set_option maxHeartbeats 4000000 in
theorem walk_KeepsEssential (P0 R0 C0 : Int) (A1 : Option Addr) (n1 c1 : Nat) (y1 : List Int) (B1 : Option Addr) (m1 d1 : Nat) (xs1 : List Int) (wA : World) (hp0 : SI wA A1 n1 y1) (hn : n1 ≤ 9223372036854775807) (_hfit : Fits y1) (hs01 : SI wA B1 m1 xs1) (_fit1 : Fits xs1) :
    Calls Try.prog 3 #[.agg #[.int .i64 P0, .int .i64 R0, .int .i64 C0, .slice A1 n1 c1], .slice B1 m1 d1] wA fun e w' => e = .returned (.bool true) ∧ Below wA.heap.size wA w' := by
  have HNN := Lib.hid hn
  have YL := Lib.hid hp0.1
  clear hn
  by_cases hbig1 : 1048576 < m1
  · go_enter Try.func3, Try.ntmps3
    go_wp2
    go_ret
    exact ⟨rfl, Below.alloc_self _ _⟩
  obtain ⟨w, hw0⟩ : ∃ w, w = wA.alloc (.cells #[.int .i64 P0, .int .i64 R0, .int .i64 C0, .slice A1 n1 c1] 24) := ⟨_, rfl⟩
  obtain ⟨gA, hgA⟩ : ∃ g, g = wA.heap.size := ⟨_, rfl⟩
  have hbA : Below wA.heap.size wA w := by rw [hw0]; exact Below.alloc_self _ _
  have HBA := Lib.hid hbA
  have hp := hp0.below hbA (Nat.le_refl _)
  have hs1 := hs01.below hbA (Nat.le_refl _)
  have KA_0 : Hid (Blk w gA 24 #[.int .i64 P0, .int .i64 R0, .int .i64 C0, .slice A1 n1 c1]) := Lib.hid (by rw [hw0, hgA]; exact Blk.new _ _ _)
  have HB0 := Lib.hid (Below.refl w.heap.size w)
  have HW0 := Lib.hid hw0
  have HGA := Lib.hid hgA
  have HFIN : Hid (wA.heap.size ≤ w.heap.size) := Lib.hid hbA.size
  clear hw0 hgA hbA hp0 hs01
  go_enter Try.func3, Try.ntmps3
  go_upto_region 1 with fail
  rw [← HW0.out, ← HGA.out]
  obtain ⟨cA0, cA1, cA2, cA3⟩ := cells4 KA_0.out
  go_wp2_with fail
  refine (szMatrix_any P0 R0 C0 _ _ _ 1048576 _ HNN.out (by decide) (by decide)).mono ?_
  rintro e w1 ⟨rfl, hb⟩
  clear cA0 cA1 cA2 cA3
  have KA_1 := Lib.hid (KA_0.out.below hb KA_0.out.lt)
  have hsz := hb.size
  have HB1 := Lib.hid (HB0.out.trans (hb.mono HB0.out.size))
  clear HB0 hb hsz
  clear KA_0
  by_cases hbigM : (1048576 : Int) < (n1 : Int)
  · rw [if_pos hbigM]
    clear hbigM
    go_wp2
    go_ret
    exact ⟨rfl, HBA.out.trans (HB1.out.mono HFIN.out)⟩
  rw [if_neg hbigM]
  obtain ⟨r0, hr0⟩ : ∃ r : Int, r = 1048576 - (n1 : Int) := ⟨_, rfl⟩
  rw [← hr0]
  have hr0n : ¬ r0 < 0 := by omega
  have SM : Hid (n1 ≤ 1048576) := Lib.hid (by omega)
  have YB : Hid (y1.length ≤ 1099511627776) := Lib.hid (by have := YL.out; have := SM.out; omega)
  clear hr0 hbigM
  obtain ⟨cA0, cA1, cA2, cA3⟩ := cells4 KA_1.out
  go_wp2_with fail
  refine (toMatrix_any P0 R0 C0 _ _ _ y1 _ (hp.below HB1.out (Nat.le_refl _)) (by have := SM.out; omega)).mono ?_
  rintro e w2 ⟨PpW, npW, cpW, rfl, ho, hb⟩
  clear cA0 cA1 cA2 cA3
  have KA_2 := Lib.hid (KA_1.out.below hb KA_1.out.lt)
  have DKA_pW : Hid (gA < w1.heap.size ∨ w2.heap.size ≤ gA) := Lib.hid (.inl KA_1.out.lt)
  have hsz := hb.size
  have HB2 := Lib.hid (HB1.out.trans (hb.mono HB1.out.size))
  have OpW_0 := Lib.hid ho
  have LpW_0 := Lib.hid (Nat.le_refl w2.heap.size)
  have NpW := Lib.hid ho.len
  have GpW := Lib.hid HB1.out.size
  clear HB1 hb hsz ho
  clear KA_1
  obtain ⟨cA0, cA1, cA2, cA3⟩ := cells4 KA_2.out
  go_wp2_with fail
  refine (toIntS_fr _ _ _ xs1 _ (hs1.below HB2.out (Nat.le_refl _)) (by omega)).mono ?_
  rintro e w3 ⟨Aq1W, nq1W, cq1W, rfl, ho, hb⟩
  clear cA0 cA1 cA2 cA3
  have KA_3 := Lib.hid (KA_2.out.below hb KA_2.out.lt)
  have DKA_q1W : Hid (gA < w2.heap.size ∨ w3.heap.size ≤ gA) := Lib.hid (.inl KA_2.out.lt)
  have hsz := hb.size
  have HB3 := Lib.hid (HB2.out.trans (hb.mono HB2.out.size))
  have OpW_1 := Lib.hid (OpW_0.out.below hb LpW_0.out)
  have LpW_1 := Lib.hid (Nat.le_trans LpW_0.out hsz)
  have Oq1W_0 := Lib.hid ho
  have Lq1W_0 := Lib.hid (Nat.le_refl w3.heap.size)
  have Nq1W := Lib.hid ho.len
  have Gq1W := Lib.hid HB2.out.size
  have DpW_q1W : Hid (_ ≤ w2.heap.size) := LpW_0
  clear OpW_0 LpW_0 HB2 hb hsz ho
  clear KA_2
  have Eq1W : nq1W ≤ 1099511627776 := by have := Nq1W.out; have := hs1.1; omega
  obtain ⟨cA0, cA1, cA2, cA3⟩ := cells4 KA_3.out
  go_wp2_with fail
  refine (specKeepsE_any P0 R0 C0 _ _ _ _ _ _ y1 xs1 _ OpW_1.out.si (by have := NpW.out; have := YB.out; omega) OpW_1.out.cap Oq1W_0.out.si Eq1W Oq1W_0.out.cap).mono ?_
  rintro e w4 ⟨rfl, hb⟩
  clear cA0 cA1 cA2 cA3
  have KA_4 := Lib.hid (KA_3.out.below hb KA_3.out.lt)
  have hsz := hb.size
  have HB4 := Lib.hid (HB3.out.trans (hb.mono HB3.out.size))
  have OpW_2 := Lib.hid (OpW_1.out.below hb LpW_1.out)
  have LpW_2 := Lib.hid (Nat.le_trans LpW_1.out hsz)
  have Oq1W_1 := Lib.hid (Oq1W_0.out.below hb Lq1W_0.out)
  have Lq1W_1 := Lib.hid (Nat.le_trans Lq1W_0.out hsz)
  clear OpW_1 LpW_1 Oq1W_0 Lq1W_0 HB3 hb hsz
  clear KA_3
  obtain ⟨cA0, cA1, cA2, cA3⟩ := cells4 KA_4.out
  go_wp2_with fail
  refine (toMatrix_any P0 R0 C0 _ _ _ y1 _ (hp.below HB4.out (Nat.le_refl _)) (by have := SM.out; omega)).mono ?_
  rintro e w5 ⟨PpX, npX, cpX, rfl, ho, hb⟩
  clear cA0 cA1 cA2 cA3
  have KA_5 := Lib.hid (KA_4.out.below hb KA_4.out.lt)
  have DKA_pX : Hid (gA < w4.heap.size ∨ w5.heap.size ≤ gA) := Lib.hid (.inl KA_4.out.lt)
  have hsz := hb.size
  have HB5 := Lib.hid (HB4.out.trans (hb.mono HB4.out.size))
  have OpX_0 := Lib.hid ho
  have LpX_0 := Lib.hid (Nat.le_refl w5.heap.size)
  have NpX := Lib.hid ho.len
  have GpX := Lib.hid HB4.out.size
  clear HB4 hb hsz ho
  clear KA_4
  obtain ⟨cA0, cA1, cA2, cA3⟩ := cells4 KA_5.out
  go_upto_region 9 with fail
  clear cA0 cA1 cA2 cA3
  obtain ⟨w6, hwx⟩ : ∃ w6, w6 = w5.alloc (.cells #[.int .i64 P0, .int .i64 R0, .int .i64 C0, .slice PpX npX cpX] 27) := ⟨_, rfl⟩
  obtain ⟨gX, hgx⟩ : ∃ g, g = w5.heap.size := ⟨_, rfl⟩
  rw [← hwx, ← hgx]
  have hb : Below w5.heap.size w5 w6 := by rw [hwx]; exact Below.alloc_self _ _
  have KX_0 : Hid (Blk w6 gX 27 #[.int .i64 P0, .int .i64 R0, .int .i64 C0, .slice PpX npX cpX]) := Lib.hid (by rw [hwx, hgx]; exact Blk.new _ _ _)
  have DKX_pX : Hid (gX < w4.heap.size ∨ w5.heap.size ≤ gX) := Lib.hid (.inr (by rw [hgx]; exact LpX_0.out))
  clear hwx hgx
  have KA_6 := Lib.hid (KA_5.out.below hb KA_5.out.lt)
  have hsz := hb.size
  have HB6 := Lib.hid (HB5.out.trans (hb.mono HB5.out.size))
  have OpX_1 := Lib.hid (OpX_0.out.below hb LpX_0.out)
  have LpX_1 := Lib.hid (Nat.le_trans LpX_0.out hsz)
  clear OpX_0 LpX_0 HB5 hb hsz
  clear KA_5
  obtain ⟨cA0, cA1, cA2, cA3⟩ := cells4 KA_6.out
  obtain ⟨cX0, cX1, cX2, cX3⟩ := cells4 KX_0.out
  go_wp2_with fail
  refine (toIntS_fr _ _ _ xs1 _ (hs1.below HB6.out (Nat.le_refl _)) (by omega)).mono ?_
  rintro e w7 ⟨Aq1X, nq1X, cq1X, rfl, ho, hb⟩
  clear cA0 cA1 cA2 cA3 cX0 cX1 cX2 cX3
  have KA_7 := Lib.hid (KA_6.out.below hb KA_6.out.lt)
  have KX_1 := Lib.hid (KX_0.out.below hb KX_0.out.lt)
  have DKA_q1X : Hid (gA < w6.heap.size ∨ w7.heap.size ≤ gA) := Lib.hid (.inl KA_6.out.lt)
  have DKX_q1X : Hid (gX < w6.heap.size ∨ w7.heap.size ≤ gX) := Lib.hid (.inl KX_0.out.lt)
  have hsz := hb.size
  have HB7 := Lib.hid (HB6.out.trans (hb.mono HB6.out.size))
  have OpX_2 := Lib.hid (OpX_1.out.below hb LpX_1.out)
  have LpX_2 := Lib.hid (Nat.le_trans LpX_1.out hsz)
  have Oq1X_0 := Lib.hid ho
  have Lq1X_0 := Lib.hid (Nat.le_refl w7.heap.size)
  have Nq1X := Lib.hid ho.len
  have Gq1X := Lib.hid HB6.out.size
  have DpX_q1X : Hid (_ ≤ w6.heap.size) := LpX_1
  clear OpX_1 LpX_1 HB6 hb hsz ho
  clear KA_6 KX_0
  have Eq1X : nq1X ≤ 1099511627776 := by have := Nq1X.out; have := hs1.1; omega
  obtain ⟨cA0, cA1, cA2, cA3⟩ := cells4 KA_7.out
  obtain ⟨cX0, cX1, cX2, cX3⟩ := cells4 KX_1.out
  go_wp2_with fail
  refine (implKeepsE_any P0 R0 C0 _ _ _ _ _ _ y1 xs1 _ OpX_2.out.si (by have := NpX.out; have := YB.out; omega) OpX_2.out.cap Oq1X_0.out.si Eq1X Oq1X_0.out.cap).mono ?_
  rintro e w8 ⟨rfl, hb⟩
  clear cA0 cA1 cA2 cA3 cX0 cX1 cX2 cX3
  have KA_8 := Lib.hid (KA_7.out.below hb KA_7.out.lt)
  have KX_2 := Lib.hid (KX_1.out.below hb KX_1.out.lt)
  have hsz := hb.size
  have HB8 := Lib.hid (HB7.out.trans (hb.mono HB7.out.size))
  have OpX_3 := Lib.hid (OpX_2.out.below hb LpX_2.out)
  have LpX_3 := Lib.hid (Nat.le_trans LpX_2.out hsz)
  have Oq1X_1 := Lib.hid (Oq1X_0.out.below hb Lq1X_0.out)
  have Lq1X_1 := Lib.hid (Nat.le_trans Lq1X_0.out hsz)
  clear OpX_2 LpX_2 Oq1X_0 Lq1X_0 HB7 hb hsz
  clear KA_7 KX_1
  obtain ⟨cA0, cA1, cA2, cA3⟩ := cells4 KA_8.out
  obtain ⟨cX0, cX1, cX2, cX3⟩ := cells4 KX_2.out
  go_upto_region 13 with fail
  clear cA0 cA1 cA2 cA3 cX0 cX1 cX2 cX3
  have hq0 : w8.cell? ⟨gX, 0, none⟩ = some (.int .i64 P0) ∧ w8.cell? ⟨gX, 1, none⟩ = some (.int .i64 R0) ∧ w8.cell? ⟨gX, 2, none⟩ = some (.int .i64 C0) ∧ w8.cell? ⟨gX, 3, none⟩ = some (.slice PpX npX cpX) ∧ w8.cell? ⟨gA, 0, none⟩ = some (.int .i64 P0) ∧ w8.cell? ⟨gA, 1, none⟩ = some (.int .i64 R0) ∧ w8.cell? ⟨gA, 2, none⟩ = some (.int .i64 C0) ∧ w8.cell? ⟨gA, 3, none⟩ = some (.slice A1 n1 c1) := by obtain ⟨a0, a1, a2, a3⟩ := cells4 KX_2.out; obtain ⟨b0, b1, b2, b3⟩ := cells4 KA_8.out; exact ⟨a0, a1, a2, a3, b0, b1, b2, b3⟩
  have hqd : w8.drew.cell? ⟨gX, 0, none⟩ = some (.int .i64 P0) ∧ w8.drew.cell? ⟨gX, 1, none⟩ = some (.int .i64 R0) ∧ w8.drew.cell? ⟨gX, 2, none⟩ = some (.int .i64 C0) ∧ w8.drew.cell? ⟨gX, 3, none⟩ = some (.slice PpX npX cpX) ∧ w8.drew.cell? ⟨gA, 0, none⟩ = some (.int .i64 P0) ∧ w8.drew.cell? ⟨gA, 1, none⟩ = some (.int .i64 R0) ∧ w8.drew.cell? ⟨gA, 2, none⟩ = some (.int .i64 C0) ∧ w8.drew.cell? ⟨gA, 3, none⟩ = some (.slice A1 n1 c1) := hq0
  have HQ0 := Lib.hid hq0
  have HQD := Lib.hid hqd
  clear hq0 hqd
  have HPD : Hid (SI w8.drew A1 n1 y1) := Lib.hid (hp.below HB8.out.drew (Nat.le_refl _))
  go_region_held3 (fun w' => w'.cell? ⟨gX, 0, none⟩ = some (.int .i64 P0) ∧ w'.cell? ⟨gX, 1, none⟩ = some (.int .i64 R0) ∧ w'.cell? ⟨gX, 2, none⟩ = some (.int .i64 C0) ∧ w'.cell? ⟨gX, 3, none⟩ = some (.slice PpX npX cpX) ∧ w'.cell? ⟨gA, 0, none⟩ = some (.int .i64 P0) ∧ w'.cell? ⟨gA, 1, none⟩ = some (.int .i64 R0) ∧ w'.cell? ⟨gA, 2, none⟩ = some (.int .i64 C0) ∧ w'.cell? ⟨gA, 3, none⟩ = some (.slice A1 n1 c1))
    (first | exact HQD.out | exact HQ0.out | exact KK4 | exact KK5)
    (first
      | (go_at_call 17
         with_reducible refine (toMatrix_any P0 R0 C0 _ _ _ y1 _ HPD.out (by have := SM.out; omega)).mono ?_
         rintro e w9 ⟨Pyp, nyp, cyp, rfl, ho0, hb0⟩
         have hb : Below w8.heap.size w8 w9 := ((Below.refl _ _).drew).trans hb0
         have ho : Own w9 w8.heap.size w9.heap.size Pyp nyp cyp y1 := ho0
         clear ho0 hb0
         have KA_9 := Lib.hid (KA_8.out.below hb KA_8.out.lt)
         have KX_3 := Lib.hid (KX_2.out.below hb KX_2.out.lt)
         have DKA_yp : Hid (gA < w8.heap.size ∨ w9.heap.size ≤ gA) := Lib.hid (.inl KA_8.out.lt)
         have DKX_yp : Hid (gX < w8.heap.size ∨ w9.heap.size ≤ gX) := Lib.hid (.inl KX_2.out.lt)
         have hsz := hb.size
         have HB9 := Lib.hid (HB8.out.trans (hb.mono HB8.out.size))
         have OpX_4 := Lib.hid (OpX_3.out.below hb LpX_3.out)
         have LpX_4 := Lib.hid (Nat.le_trans LpX_3.out hsz)
         have Oq1X_2 := Lib.hid (Oq1X_1.out.below hb Lq1X_1.out)
         have Lq1X_2 := Lib.hid (Nat.le_trans Lq1X_1.out hsz)
         have Oyp_0 := Lib.hid ho
         have Lyp_0 := Lib.hid (Nat.le_refl w9.heap.size)
         have Nyp := Lib.hid ho.len
         have Gyp := Lib.hid HB8.out.size
         have DpX_yp : Hid (_ ≤ w8.heap.size) := LpX_3
         have Dq1X_yp : Hid (_ ≤ w8.heap.size) := Lq1X_1
         clear OpX_3 LpX_3 Oq1X_1 Lq1X_1 HB8 hb hsz ho
         clear KA_8 KX_2
         have KK4 : w9.cell? ⟨gX, 0, none⟩ = some (.int .i64 P0) ∧ w9.cell? ⟨gX, 1, none⟩ = some (.int .i64 R0) ∧ w9.cell? ⟨gX, 2, none⟩ = some (.int .i64 C0) ∧ w9.cell? ⟨gX, 3, none⟩ = some (.slice PpX npX cpX) ∧ w9.cell? ⟨gA, 0, none⟩ = some (.int .i64 P0) ∧ w9.cell? ⟨gA, 1, none⟩ = some (.int .i64 R0) ∧ w9.cell? ⟨gA, 2, none⟩ = some (.int .i64 C0) ∧ w9.cell? ⟨gA, 3, none⟩ = some (.slice A1 n1 c1) := by obtain ⟨a0, a1, a2, a3⟩ := cells4 KX_3.out; obtain ⟨b0, b1, b2, b3⟩ := cells4 KA_9.out; exact ⟨a0, a1, a2, a3, b0, b1, b2, b3⟩
         have QX := Lib.hid OpX_4.out.si
         have QY := Lib.hid Oyp_0.out.si)
      | (go_at_call 20
         with_reducible refine (eqMatrix_yes P0 R0 C0 _ _ _ _ _ _ y1 _ QX.out QY.out YB.out).mono ?_
         rintro e w10 ⟨rfl, hb⟩
         have KA_10 := Lib.hid (KA_9.out.below hb KA_9.out.lt)
         have KX_4 := Lib.hid (KX_3.out.below hb KX_3.out.lt)
         have hsz := hb.size
         have HB10 := Lib.hid (HB9.out.trans (hb.mono HB9.out.size))
         have OpX_5 := Lib.hid (OpX_4.out.below hb LpX_4.out)
         have LpX_5 := Lib.hid (Nat.le_trans LpX_4.out hsz)
         have Oq1X_3 := Lib.hid (Oq1X_2.out.below hb Lq1X_2.out)
         have Lq1X_3 := Lib.hid (Nat.le_trans Lq1X_2.out hsz)
         have Oyp_1 := Lib.hid (Oyp_0.out.below hb Lyp_0.out)
         have Lyp_1 := Lib.hid (Nat.le_trans Lyp_0.out hsz)
         clear OpX_4 LpX_4 Oq1X_2 Lq1X_2 Oyp_0 Lyp_0 HB9 hb hsz
         clear KA_9 KX_3
         have KK5 : w10.cell? ⟨gX, 0, none⟩ = some (.int .i64 P0) ∧ w10.cell? ⟨gX, 1, none⟩ = some (.int .i64 R0) ∧ w10.cell? ⟨gX, 2, none⟩ = some (.int .i64 C0) ∧ w10.cell? ⟨gX, 3, none⟩ = some (.slice PpX npX cpX) ∧ w10.cell? ⟨gA, 0, none⟩ = some (.int .i64 P0) ∧ w10.cell? ⟨gA, 1, none⟩ = some (.int .i64 R0) ∧ w10.cell? ⟨gA, 2, none⟩ = some (.int .i64 C0) ∧ w10.cell? ⟨gA, 3, none⟩ = some (.slice A1 n1 c1) := by obtain ⟨a0, a1, a2, a3⟩ := cells4 KX_4.out; obtain ⟨b0, b1, b2, b3⟩ := cells4 KA_10.out; exact ⟨a0, a1, a2, a3, b0, b1, b2, b3⟩))
  clear HQ0 HQD HPD KK4 KK5 QX QY
  obtain ⟨cA0, cA1, cA2, cA3⟩ := cells4 KA_10.out
  obtain ⟨cX0, cX1, cX2, cX3⟩ := cells4 KX_4.out
  go_wp2_with fail
  refine (toIntS_fr _ _ _ xs1 _ (hs1.below HB10.out (Nat.le_refl _)) (by omega)).mono ?_
  rintro e w11 ⟨Ayq, nyq, cyq, rfl, ho, hb⟩
  clear cA0 cA1 cA2 cA3 cX0 cX1 cX2 cX3
  have KA_11 := Lib.hid (KA_10.out.below hb KA_10.out.lt)
  have KX_5 := Lib.hid (KX_4.out.below hb KX_4.out.lt)
  have DKA_yq : Hid (gA < w10.heap.size ∨ w11.heap.size ≤ gA) := Lib.hid (.inl KA_10.out.lt)
  have DKX_yq : Hid (gX < w10.heap.size ∨ w11.heap.size ≤ gX) := Lib.hid (.inl KX_4.out.lt)
  have hsz := hb.size
  have HB11 := Lib.hid (HB10.out.trans (hb.mono HB10.out.size))
  have OpX_6 := Lib.hid (OpX_5.out.below hb LpX_5.out)
  have LpX_6 := Lib.hid (Nat.le_trans LpX_5.out hsz)
  have Oq1X_4 := Lib.hid (Oq1X_3.out.below hb Lq1X_3.out)
  have Lq1X_4 := Lib.hid (Nat.le_trans Lq1X_3.out hsz)
  have Oyq_0 := Lib.hid ho
  have Lyq_0 := Lib.hid (Nat.le_refl w11.heap.size)
  have Nyq := Lib.hid ho.len
  have Gyq := Lib.hid HB10.out.size
  have DpX_yq : Hid (_ ≤ w10.heap.size) := LpX_5
  have Dq1X_yq : Hid (_ ≤ w10.heap.size) := Lq1X_3
  clear OpX_5 LpX_5 Oq1X_3 Lq1X_3 HB10 hb hsz ho
  clear KA_10 KX_4
  have Eyq : nyq ≤ 1099511627776 := by have := Nyq.out; have := hs1.1; omega
  obtain ⟨cA0, cA1, cA2, cA3⟩ := cells4 KA_11.out
  obtain ⟨cX0, cX1, cX2, cX3⟩ := cells4 KX_5.out
  go_wp2_with fail
  refine (eqIntS_any _ _ _ _ _ _ xs1 xs1 _ Oq1X_4.out.si Oyq_0.out.si Eq1X Eyq).mono ?_
  rintro e w12 ⟨rfl, hd⟩
  clear cA0 cA1 cA2 cA3 cX0 cX1 cX2 cX3
  rw [eqL_self]
  have hb : Below w11.heap.size w11 w12 := hd.below _
  have KA_12 := Lib.hid (KA_11.out.below hb KA_11.out.lt)
  have KX_6 := Lib.hid (KX_5.out.below hb KX_5.out.lt)
  clear hb
  have hb : Below w11.heap.size w11 w12 := hd.below _
  have hsz := hb.size
  have HB12 := Lib.hid (HB11.out.trans (hb.mono HB11.out.size))
  have OpX_7 := Lib.hid (OpX_6.out.below hb LpX_6.out)
  have LpX_7 := Lib.hid (Nat.le_trans LpX_6.out hsz)
  have Oq1X_5 := Lib.hid (Oq1X_4.out.below hb Lq1X_4.out)
  have Lq1X_5 := Lib.hid (Nat.le_trans Lq1X_4.out hsz)
  have Oyq_1 := Lib.hid (Oyq_0.out.below hb Lyq_0.out)
  have Lyq_1 := Lib.hid (Nat.le_trans Lyq_0.out hsz)
  clear OpX_6 LpX_6 Oq1X_4 Lq1X_4 Oyq_0 Lyq_0 HB11 hb hsz hd
  clear KA_11 KX_5
  go_wp2
  go_ret
  exact ⟨rfl, HBA.out.trans (HB12.out.mono HFIN.out)⟩

set_option maxRecDepth 100000 in
theorem lifted_KeepsEssential (os : Os) (started : os.Started) (H : Type) (enc : TypeId × Value → H) :
    ReturnsInHanded {} Try.checked os 3 .any (Rows.fnExactKeepsEssentialSpec.pre6 enc Try.prog Try.f3 Rows.fnExactKeepsEssentialRow.domain false) (Rows.fnExactKeepsEssentialSpec.post enc Try.prog Try.f3 false true false false) := by
  refine returnsInHanded_of_change (C := Try.checked) own started (by kernel_rfl) Try.func3
    (ChangeSpec.witness6 (enc := enc) (C := Try.checked) false ⟨#[], #[.agg #[.int .i64 0, .int .i64 0, .int .i64 0, .slice none 0 0], .slice none 0 0], []⟩ 8 (by kernel_rfl) (by kernel_rfl) (by kernel_rfl) (by kernel_rfl)) ?_
  intro W base args ds gs before hval0 hW hcnd _
  have hval : ∀ (j : Nat) t v, Try.f3.params[j]? = some t → args[j]? = some v → Value.okWide Try.prog W .any base t v := hval0
  have hW' := hW
  obtain ⟨p, q, hA0, hV, rfl, hfz, hnd⟩ := hW
  have hA : DataW.TrodAll enc Try.prog W 0 (fun _ => true) true Try.f3.params.toList args.toList ds p := hA0
  rw [Try.params3] at hA hval
  obtain ⟨v0, vs0, d0, ds0, p0, q0, hargs, rfl, rfl, h0, r0⟩ := trodAll_cons hA
  obtain ⟨v1, vs1, d1, ds1, p1, q1, rfl, rfl, rfl, h1, r1⟩ := trodAll_cons r0
  obtain ⟨rfl, rfl, rfl⟩ := trodAll_nil r1
  obtain rfl : args = #[v0, v1] := by cases args; simp_all
  obtain ⟨rfl, rfl⟩ := trodVars_none hV
  have ok0 := hval 0 24 v0 rfl rfl
  obtain ⟨cs0, rfl, hsz0⟩ : ∃ cs : Array Value, v0 = .agg cs ∧ cs.size = 4 := by
    unfold Value.okWide at ok0
    rw [Try.underlying24] at ok0
    obtain ⟨cs, e, hz, _⟩ := ok0
    exact ⟨cs, e, by rw [hz]; kernel_rfl⟩
  clear ok0
  have k0 := h0
  have lt0 : ∀ x ∈ p0, x.block < W.heap.size := by obtain ⟨m, hm⟩ := k0; exact DataW.trod_lt m _ _ _ hm
  obtain ⟨P0, R0, C0, A0, n0, c0, y0, rfl, hp0, hn0, _, _, _, hf0⟩ := MX.of_trod hsz0 h0
  obtain ⟨b1, len1, cap1, rfl⟩ := okWide_slice Try.underlying22 (hval 1 22 v1 rfl rfl)
  have k1 := h1
  have lt1 : ∀ x ∈ p1, x.block < W.heap.size := by obtain ⟨m, hm⟩ := k1; exact DataW.trod_lt m _ _ _ hm
  obtain ⟨xs1, s1, fit1⟩ := SI.of_trod h1
  clear hA0 hval0
  refine (walk_KeepsEssential P0 R0 C0 A0 n0 c0 y0 b1 len1 cap1 xs1 W hp0 hn0 hf0 s1 fit1).mono fun e W' ⟨he, bel⟩ => ?_
  subst he
  exact ⟨_, rfl, _, _, _, [], _, [], hW', trodAll_mk1 (shut_bool Try.underlying4 _), (trodAll_cons_mk (Below.trod laidOut (by kernel_rfl) (of_decide_eq_true (by kernel_rfl)) k0 bel lt0) (trodAll_cons_mk (Below.trod laidOut (by kernel_rfl) (of_decide_eq_true (by kernel_rfl)) k1 bel lt1) trodAll_mk0)), rfl, bel.frame _, fun h => by cases h⟩

theorem fnExactKeepsEssential_holds : Rows.FnExactKeepsEssentialSaid :=
  OpenClaim.holds_of_wide 3 Try.f3 rfl rfl rfl rfl rfl rfl rfl ⟨rfl, rfl, rfl, rfl, rfl⟩ rfl rfl rfl rfl rfl (by kernel_rfl) Try.func3 (by kernel_rfl)
    (of_decide_eq_true (by kernel_rfl)) (by unfold Func.isWrapper; first | (rw [if_pos (by decide +kernel)]; kernel_rfl) | (rw [if_neg (by decide +kernel)]; exact ⟨rfl, rfl⟩))
    (fun os started H enc _ => lifted_KeepsEssential os started H enc)
end Go.Proofs.Ytbkhibojbakckaa
