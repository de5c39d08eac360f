/-
  FnExactSidesOf: for every input the law returns true: the program's SidesOf answers as the specification's, changes no argument, and its answer owns its memory. No conditions.
-/
import Derived.Test.YtdkcngilmdpbgaaSid
import Derived.Test.YtdkcngilmdpbgaaPuzFrame
import Derived.Test.YtdkcngilmdpbgaaFrame
namespace Go.Proofs.Ytdkcngilmdpbgaa
open Go.ChangeShapes Go.WideShapes Go.ChangeAt Go.RowKit

set_option maxRecDepth 100000 in
set_option maxHeartbeats 4000000 in
theorem walk_SidesOf (s : Int) (A1 A2 A3 : Option Addr) (n1 c1 n2 c2 n3 c3 : Nat) (y1 y2 y3 : List Int) (wA : World) (hp0 : PS wA A1 A2 A3 n1 n2 n3 y1 y2 y3) (hn : n1 ≤ 9223372036854775807 ∧ n2 ≤ 9223372036854775807 ∧ n3 ≤ 9223372036854775807) :
    Calls Try.prog 10 #[.agg #[.int .i64 s, .slice A1 n1 c1, .slice A2 n2 c2, .slice A3 n3 c3]] wA fun e w' => e = .returned (.bool true) ∧ Below wA.heap.size wA w' := by
  have HNN := Lib.hid hn
  have YL := Lib.hid hp0.lens
  clear hn
  obtain ⟨bb, z1, z2, z3, hzz⟩ : ∃ b z1 z2 z3, SidesIs s y1 y2 y3 b z1 z2 z3 := ⟨_, _, _, _, rfl, rfl, rfl, rfl⟩
  have HZZ := Lib.hid hzz
  have MBC := Lib.hid hzz.len
  clear hzz
  obtain ⟨w, hw0⟩ : ∃ w, w = wA.alloc (.cells #[.int .i64 s, .slice A1 n1 c1, .slice A2 n2 c2, .slice A3 n3 c3] 43) := ⟨_, rfl⟩
  obtain ⟨gA, hgA⟩ : ∃ g, g = wA.heap.size := ⟨_, rfl⟩
  have hbA : Below wA.heap.size wA w := by rw [hw0]; exact Below.alloc_self _ _
  have HBA := Lib.hid hbA
  have hp := hp0.below hbA (Nat.le_refl _)
  have KA_0 : Hid (Blk w gA 43 #[.int .i64 s, .slice A1 n1 c1, .slice A2 n2 c2, .slice A3 n3 c3]) := Lib.hid (by rw [hw0, hgA]; exact Blk.new _ _ _)
  have HB0 := Lib.hid (Below.refl w.heap.size w)
  have HW0 := Lib.hid hw0
  have HGA := Lib.hid hgA
  have HFIN : Hid (wA.heap.size ≤ w.heap.size) := Lib.hid hbA.size
  clear hw0 hgA hbA hp0
  go_enter Try.func10, Try.ntmps10
  go_upto_region 1 with fail
  rw [← HW0.out, ← HGA.out]
  obtain ⟨cA0, cA1, cA2, cA3⟩ := cells4 KA_0.out
  go_wp2_with fail
  refine (szPuzzle_any s _ _ _ _ _ _ _ _ _ _ HNN.out.1 HNN.out.2.1 HNN.out.2.2).mono ?_
  rintro e w1 ⟨⟨r0, rfl, hr⟩, hb⟩
  clear cA0 cA1 cA2 cA3
  have KA_1 := Lib.hid (KA_0.out.below hb KA_0.out.lt)
  have hsz := hb.size
  have HB1 := Lib.hid (HB0.out.trans (hb.mono HB0.out.size))
  clear HB0 hb hsz
  clear KA_0
  rcases hr with hr | ⟨hr0, hsm⟩
  · go_wp2
    go_ret
    exact ⟨rfl, HBA.out.trans (HB1.out.mono HFIN.out)⟩
  have hr0n : ¬ r0 < 0 := by omega
  have SM := Lib.hid hsm
  have YB : Hid (y1.length ≤ 1099511627776 ∧ y2.length ≤ 1099511627776 ∧ y3.length ≤ 1099511627776) := Lib.hid (by have := YL.out; omega)
  have YC : Hid (y1.length ≤ 1048576 ∧ y2.length ≤ 1048576 ∧ y3.length ≤ 1048576) := Lib.hid (by have := YL.out; omega)
  clear hr0 hsm
  obtain ⟨cA0, cA1, cA2, cA3⟩ := cells4 KA_1.out
  go_wp2_with fail
  refine (toPuzzle_ps s _ _ _ _ _ _ _ _ _ y1 y2 y3 _ (hp.below HB1.out (Nat.le_refl _)) (by have := SM.out; omega)).mono ?_
  rintro e w2 ⟨PpW1, PpW2, PpW3, ppW1, rpW1, ppW2, rpW2, ppW3, rpW3, rfl, ho, hb⟩
  clear cA0 cA1 cA2 cA3
  have KA_2 := Lib.hid (KA_1.out.below hb KA_1.out.lt)
  have DKA_pW : Hid (gA < w1.heap.size ∨ w2.heap.size ≤ gA) := Lib.hid (.inl KA_1.out.lt)
  have hsz := hb.size
  have HB2 := Lib.hid (HB1.out.trans (hb.mono HB1.out.size))
  have OpW_0 := Lib.hid ho
  have LpW_0 := Lib.hid (Nat.le_refl w2.heap.size)
  have NpW := Lib.hid ho.len
  have GpW := Lib.hid HB1.out.size
  clear HB1 hb hsz ho
  clear KA_1
  obtain ⟨cA0, cA1, cA2, cA3⟩ := cells4 KA_2.out
  go_wp2_with fail
  refine (specSides_z s _ _ _ _ _ _ _ _ _ y1 y2 y3 _ OpW_0.out.si (OpW_0.out).caps.2.2 (by have := NpW.out; have := YB.out; omega) bb z1 z2 z3 HZZ.out).mono ?_
  rintro e w3 ⟨AW1, AW2, AW3, nW1, cW1, nW2, cW2, nW3, cW3, rfl, ho, hb⟩
  clear cA0 cA1 cA2 cA3
  have ZpW := LpW_0
  have YA := Lib.hid KA_2.out.lt
  have ZB := Lib.hid HB2.out.size
  have KA_3 := Lib.hid (KA_2.out.below hb KA_2.out.lt)
  have hsz := hb.size
  have HB3 := Lib.hid (HB2.out.trans (hb.mono HB2.out.size))
  have OpW_1 := Lib.hid (OpW_0.out.below hb LpW_0.out)
  have LpW_1 := Lib.hid (Nat.le_trans LpW_0.out hsz)
  clear OpW_0 LpW_0 HB2 hb hsz
  clear KA_2
  obtain ⟨pW1, eW1, pW2, eW2, pW3, eW3, hh, ho1, ho2, ho3⟩ := ho
  have OW1_0 := Lib.hid ho1
  have LW1_0 : Hid (eW1 ≤ w3.heap.size) := Lib.hid (by omega)
  have NW1 := Lib.hid ho1.len
  have GW1 : Hid (w.heap.size ≤ pW1) := Lib.hid (by have := ZB.out; omega)
  have DpW_W1 : Hid (_ ≤ pW1) := Lib.hid (Nat.le_trans ZpW.out (by omega))
  have DKA_W1 : Hid (gA < pW1 ∨ eW1 ≤ gA) := Lib.hid (.inl (by have := YA.out; omega))
  have OW2_0 := Lib.hid ho2
  have LW2_0 : Hid (eW2 ≤ w3.heap.size) := Lib.hid (by omega)
  have NW2 := Lib.hid ho2.len
  have GW2 : Hid (w.heap.size ≤ pW2) := Lib.hid (by have := ZB.out; omega)
  have DpW_W2 : Hid (_ ≤ pW2) := Lib.hid (Nat.le_trans ZpW.out (by omega))
  have DKA_W2 : Hid (gA < pW2 ∨ eW2 ≤ gA) := Lib.hid (.inl (by have := YA.out; omega))
  have OW3_0 := Lib.hid ho3
  have LW3_0 : Hid (eW3 ≤ w3.heap.size) := Lib.hid (by omega)
  have NW3 := Lib.hid ho3.len
  have GW3 : Hid (w.heap.size ≤ pW3) := Lib.hid (by have := ZB.out; omega)
  have DpW_W3 : Hid (_ ≤ pW3) := Lib.hid (Nat.le_trans ZpW.out (by omega))
  have DKA_W3 : Hid (gA < pW3 ∨ eW3 ≤ gA) := Lib.hid (.inl (by have := YA.out; omega))
  have QW1_W2 : Hid (eW1 ≤ pW2 ∨ eW2 ≤ pW1) := Lib.hid (by omega)
  have QW1_W3 : Hid (eW1 ≤ pW3 ∨ eW3 ≤ pW1) := Lib.hid (by omega)
  have QW2_W1 : Hid (eW2 ≤ pW1 ∨ eW1 ≤ pW2) := Lib.hid (by omega)
  have QW2_W3 : Hid (eW2 ≤ pW3 ∨ eW3 ≤ pW2) := Lib.hid (by omega)
  have QW3_W1 : Hid (eW3 ≤ pW1 ∨ eW1 ≤ pW3) := Lib.hid (by omega)
  have QW3_W2 : Hid (eW3 ≤ pW2 ∨ eW2 ≤ pW3) := Lib.hid (by omega)
  clear hh ho1 ho2 ho3 ZB ZpW YA
  have EW1 : nW1 ≤ 1000 := by have h := NW1.out; have := MBC.out; omega
  have EW2 : nW2 ≤ 1000 := by have h := NW2.out; have := MBC.out; omega
  have EW3 : nW3 ≤ 1000 := by have h := NW3.out; have := MBC.out; omega
  obtain ⟨cA0, cA1, cA2, cA3⟩ := cells4 KA_3.out
  go_wp2_with fail
  refine (toPuzzle_ps s _ _ _ _ _ _ _ _ _ y1 y2 y3 _ (hp.below HB3.out (Nat.le_refl _)) (by have := SM.out; omega)).mono ?_
  rintro e w4 ⟨PpX1, PpX2, PpX3, ppX1, rpX1, ppX2, rpX2, ppX3, rpX3, rfl, ho, hb⟩
  clear cA0 cA1 cA2 cA3
  have KA_4 := Lib.hid (KA_3.out.below hb KA_3.out.lt)
  have DKA_pX : Hid (gA < w3.heap.size ∨ w4.heap.size ≤ gA) := Lib.hid (.inl KA_3.out.lt)
  have hsz := hb.size
  have HB4 := Lib.hid (HB3.out.trans (hb.mono HB3.out.size))
  have OW1_1 := Lib.hid (OW1_0.out.below hb LW1_0.out)
  have LW1_1 := Lib.hid (Nat.le_trans LW1_0.out hsz)
  have OW2_1 := Lib.hid (OW2_0.out.below hb LW2_0.out)
  have LW2_1 := Lib.hid (Nat.le_trans LW2_0.out hsz)
  have OW3_1 := Lib.hid (OW3_0.out.below hb LW3_0.out)
  have LW3_1 := Lib.hid (Nat.le_trans LW3_0.out hsz)
  have OpX_0 := Lib.hid ho
  have LpX_0 := Lib.hid (Nat.le_refl w4.heap.size)
  have NpX := Lib.hid ho.len
  have GpX := Lib.hid HB3.out.size
  have DW1_pX : Hid (_ ≤ w3.heap.size) := LW1_0
  have DW2_pX : Hid (_ ≤ w3.heap.size) := LW2_0
  have DW3_pX : Hid (_ ≤ w3.heap.size) := LW3_0
  clear OW1_0 LW1_0 OW2_0 LW2_0 OW3_0 LW3_0 HB3 hb hsz ho
  clear KA_3
  obtain ⟨cA0, cA1, cA2, cA3⟩ := cells4 KA_4.out
  go_upto_region 7 with fail
  clear cA0 cA1 cA2 cA3
  obtain ⟨w5, hwx⟩ : ∃ w5, w5 = w4.alloc (.cells #[.int .i64 s, .slice PpX1 ppX1 rpX1, .slice PpX2 ppX2 rpX2, .slice PpX3 ppX3 rpX3] 47) := ⟨_, rfl⟩
  obtain ⟨gX, hgx⟩ : ∃ g, g = w4.heap.size := ⟨_, rfl⟩
  rw [← hwx, ← hgx]
  have hb : Below w4.heap.size w4 w5 := by rw [hwx]; exact Below.alloc_self _ _
  have KX_0 : Hid (Blk w5 gX 47 #[.int .i64 s, .slice PpX1 ppX1 rpX1, .slice PpX2 ppX2 rpX2, .slice PpX3 ppX3 rpX3]) := Lib.hid (by rw [hwx, hgx]; exact Blk.new _ _ _)
  have DKX_W1 : Hid (gX < pW1 ∨ eW1 ≤ gX) := Lib.hid (.inr (by rw [hgx]; exact LW1_1.out))
  have DKX_W2 : Hid (gX < pW2 ∨ eW2 ≤ gX) := Lib.hid (.inr (by rw [hgx]; exact LW2_1.out))
  have DKX_W3 : Hid (gX < pW3 ∨ eW3 ≤ gX) := Lib.hid (.inr (by rw [hgx]; exact LW3_1.out))
  have DKX_pX : Hid (gX < w3.heap.size ∨ w4.heap.size ≤ gX) := Lib.hid (.inr (by rw [hgx]; exact LpX_0.out))
  clear hwx hgx
  have KA_5 := Lib.hid (KA_4.out.below hb KA_4.out.lt)
  have hsz := hb.size
  have HB5 := Lib.hid (HB4.out.trans (hb.mono HB4.out.size))
  have OW1_2 := Lib.hid (OW1_1.out.below hb LW1_1.out)
  have LW1_2 := Lib.hid (Nat.le_trans LW1_1.out hsz)
  have OW2_2 := Lib.hid (OW2_1.out.below hb LW2_1.out)
  have LW2_2 := Lib.hid (Nat.le_trans LW2_1.out hsz)
  have OW3_2 := Lib.hid (OW3_1.out.below hb LW3_1.out)
  have LW3_2 := Lib.hid (Nat.le_trans LW3_1.out hsz)
  have OpX_1 := Lib.hid (OpX_0.out.below hb LpX_0.out)
  have LpX_1 := Lib.hid (Nat.le_trans LpX_0.out hsz)
  clear OW1_1 LW1_1 OW2_1 LW2_1 OW3_1 LW3_1 OpX_0 LpX_0 HB4 hb hsz
  clear KA_4
  obtain ⟨cA0, cA1, cA2, cA3⟩ := cells4 KA_5.out
  obtain ⟨cX0, cX1, cX2, cX3⟩ := cells4 KX_0.out
  go_wp2_with fail
  refine (implSides_z s _ _ _ _ _ _ _ _ _ y1 y2 y3 _ OpX_1.out.si (OpX_1.out).caps.2.2 (by have := NpX.out; have := YB.out; omega) bb z1 z2 z3 HZZ.out).mono ?_
  rintro e w6 ⟨AV1, AV2, AV3, nV1, cV1, nV2, cV2, nV3, cV3, rfl, ho, hb⟩
  clear cA0 cA1 cA2 cA3 cX0 cX1 cX2 cX3
  have ZW1 := LW1_2
  have ZW2 := LW2_2
  have ZW3 := LW3_2
  have ZpX := LpX_1
  have YA := Lib.hid KA_5.out.lt
  have YX := Lib.hid KX_0.out.lt
  have ZB := Lib.hid HB5.out.size
  have KA_6 := Lib.hid (KA_5.out.below hb KA_5.out.lt)
  have KX_1 := Lib.hid (KX_0.out.below hb KX_0.out.lt)
  have hsz := hb.size
  have HB6 := Lib.hid (HB5.out.trans (hb.mono HB5.out.size))
  have OW1_3 := Lib.hid (OW1_2.out.below hb LW1_2.out)
  have LW1_3 := Lib.hid (Nat.le_trans LW1_2.out hsz)
  have OW2_3 := Lib.hid (OW2_2.out.below hb LW2_2.out)
  have LW2_3 := Lib.hid (Nat.le_trans LW2_2.out hsz)
  have OW3_3 := Lib.hid (OW3_2.out.below hb LW3_2.out)
  have LW3_3 := Lib.hid (Nat.le_trans LW3_2.out hsz)
  have OpX_2 := Lib.hid (OpX_1.out.below hb LpX_1.out)
  have LpX_2 := Lib.hid (Nat.le_trans LpX_1.out hsz)
  clear OW1_2 LW1_2 OW2_2 LW2_2 OW3_2 LW3_2 OpX_1 LpX_1 HB5 hb hsz
  clear KA_5 KX_0
  obtain ⟨pV1, eV1, pV2, eV2, pV3, eV3, hh, ho1, ho2, ho3⟩ := ho
  have OV1_0 := Lib.hid ho1
  have LV1_0 : Hid (eV1 ≤ w6.heap.size) := Lib.hid (by omega)
  have NV1 := Lib.hid ho1.len
  have GV1 : Hid (w.heap.size ≤ pV1) := Lib.hid (by have := ZB.out; omega)
  have DW1_V1 : Hid (_ ≤ pV1) := Lib.hid (Nat.le_trans ZW1.out (by omega))
  have DW2_V1 : Hid (_ ≤ pV1) := Lib.hid (Nat.le_trans ZW2.out (by omega))
  have DW3_V1 : Hid (_ ≤ pV1) := Lib.hid (Nat.le_trans ZW3.out (by omega))
  have DpX_V1 : Hid (_ ≤ pV1) := Lib.hid (Nat.le_trans ZpX.out (by omega))
  have DKA_V1 : Hid (gA < pV1 ∨ eV1 ≤ gA) := Lib.hid (.inl (by have := YA.out; omega))
  have DKX_V1 : Hid (gX < pV1 ∨ eV1 ≤ gX) := Lib.hid (.inl (by have := YX.out; omega))
  have OV2_0 := Lib.hid ho2
  have LV2_0 : Hid (eV2 ≤ w6.heap.size) := Lib.hid (by omega)
  have NV2 := Lib.hid ho2.len
  have GV2 : Hid (w.heap.size ≤ pV2) := Lib.hid (by have := ZB.out; omega)
  have DW1_V2 : Hid (_ ≤ pV2) := Lib.hid (Nat.le_trans ZW1.out (by omega))
  have DW2_V2 : Hid (_ ≤ pV2) := Lib.hid (Nat.le_trans ZW2.out (by omega))
  have DW3_V2 : Hid (_ ≤ pV2) := Lib.hid (Nat.le_trans ZW3.out (by omega))
  have DpX_V2 : Hid (_ ≤ pV2) := Lib.hid (Nat.le_trans ZpX.out (by omega))
  have DKA_V2 : Hid (gA < pV2 ∨ eV2 ≤ gA) := Lib.hid (.inl (by have := YA.out; omega))
  have DKX_V2 : Hid (gX < pV2 ∨ eV2 ≤ gX) := Lib.hid (.inl (by have := YX.out; omega))
  have OV3_0 := Lib.hid ho3
  have LV3_0 : Hid (eV3 ≤ w6.heap.size) := Lib.hid (by omega)
  have NV3 := Lib.hid ho3.len
  have GV3 : Hid (w.heap.size ≤ pV3) := Lib.hid (by have := ZB.out; omega)
  have DW1_V3 : Hid (_ ≤ pV3) := Lib.hid (Nat.le_trans ZW1.out (by omega))
  have DW2_V3 : Hid (_ ≤ pV3) := Lib.hid (Nat.le_trans ZW2.out (by omega))
  have DW3_V3 : Hid (_ ≤ pV3) := Lib.hid (Nat.le_trans ZW3.out (by omega))
  have DpX_V3 : Hid (_ ≤ pV3) := Lib.hid (Nat.le_trans ZpX.out (by omega))
  have DKA_V3 : Hid (gA < pV3 ∨ eV3 ≤ gA) := Lib.hid (.inl (by have := YA.out; omega))
  have DKX_V3 : Hid (gX < pV3 ∨ eV3 ≤ gX) := Lib.hid (.inl (by have := YX.out; omega))
  have QV1_V2 : Hid (eV1 ≤ pV2 ∨ eV2 ≤ pV1) := Lib.hid (by omega)
  have QV1_V3 : Hid (eV1 ≤ pV3 ∨ eV3 ≤ pV1) := Lib.hid (by omega)
  have QV2_V1 : Hid (eV2 ≤ pV1 ∨ eV1 ≤ pV2) := Lib.hid (by omega)
  have QV2_V3 : Hid (eV2 ≤ pV3 ∨ eV3 ≤ pV2) := Lib.hid (by omega)
  have QV3_V1 : Hid (eV3 ≤ pV1 ∨ eV1 ≤ pV3) := Lib.hid (by omega)
  have QV3_V2 : Hid (eV3 ≤ pV2 ∨ eV2 ≤ pV3) := Lib.hid (by omega)
  clear hh ho1 ho2 ho3 ZB ZW1 ZW2 ZW3 ZpX YA YX
  have EV1 : nV1 ≤ 1000 := by have h := NV1.out; have := MBC.out; omega
  have EV2 : nV2 ≤ 1000 := by have h := NV2.out; have := MBC.out; omega
  have EV3 : nV3 ≤ 1000 := by have h := NV3.out; have := MBC.out; omega
  obtain ⟨cA0, cA1, cA2, cA3⟩ := cells4 KA_6.out
  obtain ⟨cX0, cX1, cX2, cX3⟩ := cells4 KX_1.out
  go_wp2_with fail
  refine (eqIntS_any _ _ _ _ _ _ z1 z1 _ OV1_0.out.si OW1_3.out.si (by omega) (by omega)).mono ?_
  rintro e w7 ⟨rfl, hd⟩
  clear cA0 cA1 cA2 cA3 cX0 cX1 cX2 cX3
  rw [eqL_self]
  have hb : Below w6.heap.size w6 w7 := hd.below _
  have KA_7 := Lib.hid (KA_6.out.below hb KA_6.out.lt)
  have KX_2 := Lib.hid (KX_1.out.below hb KX_1.out.lt)
  clear hb
  have hb : Below w6.heap.size w6 w7 := hd.below _
  have hsz := hb.size
  have HB7 := Lib.hid (HB6.out.trans (hb.mono HB6.out.size))
  have OW1_4 := Lib.hid (OW1_3.out.below hb LW1_3.out)
  have LW1_4 := Lib.hid (Nat.le_trans LW1_3.out hsz)
  have OW2_4 := Lib.hid (OW2_3.out.below hb LW2_3.out)
  have LW2_4 := Lib.hid (Nat.le_trans LW2_3.out hsz)
  have OW3_4 := Lib.hid (OW3_3.out.below hb LW3_3.out)
  have LW3_4 := Lib.hid (Nat.le_trans LW3_3.out hsz)
  have OpX_3 := Lib.hid (OpX_2.out.below hb LpX_2.out)
  have LpX_3 := Lib.hid (Nat.le_trans LpX_2.out hsz)
  have OV1_1 := Lib.hid (OV1_0.out.below hb LV1_0.out)
  have LV1_1 := Lib.hid (Nat.le_trans LV1_0.out hsz)
  have OV2_1 := Lib.hid (OV2_0.out.below hb LV2_0.out)
  have LV2_1 := Lib.hid (Nat.le_trans LV2_0.out hsz)
  have OV3_1 := Lib.hid (OV3_0.out.below hb LV3_0.out)
  have LV3_1 := Lib.hid (Nat.le_trans LV3_0.out hsz)
  clear OW1_3 LW1_3 OW2_3 LW2_3 OW3_3 LW3_3 OpX_2 LpX_2 OV1_0 LV1_0 OV2_0 LV2_0 OV3_0 LV3_0 HB6 hb hsz hd
  clear KA_6 KX_1
  obtain ⟨cA0, cA1, cA2, cA3⟩ := cells4 KA_7.out
  obtain ⟨cX0, cX1, cX2, cX3⟩ := cells4 KX_2.out
  go_wp2_with fail
  refine (eqIntS_any _ _ _ _ _ _ z2 z2 _ OV2_1.out.si OW2_4.out.si (by omega) (by omega)).mono ?_
  rintro e w8 ⟨rfl, hd⟩
  clear cA0 cA1 cA2 cA3 cX0 cX1 cX2 cX3
  rw [eqL_self]
  have hb : Below w7.heap.size w7 w8 := hd.below _
  have KA_8 := Lib.hid (KA_7.out.below hb KA_7.out.lt)
  have KX_3 := Lib.hid (KX_2.out.below hb KX_2.out.lt)
  clear hb
  have hb : Below w7.heap.size w7 w8 := hd.below _
  have hsz := hb.size
  have HB8 := Lib.hid (HB7.out.trans (hb.mono HB7.out.size))
  have OW1_5 := Lib.hid (OW1_4.out.below hb LW1_4.out)
  have LW1_5 := Lib.hid (Nat.le_trans LW1_4.out hsz)
  have OW2_5 := Lib.hid (OW2_4.out.below hb LW2_4.out)
  have LW2_5 := Lib.hid (Nat.le_trans LW2_4.out hsz)
  have OW3_5 := Lib.hid (OW3_4.out.below hb LW3_4.out)
  have LW3_5 := Lib.hid (Nat.le_trans LW3_4.out hsz)
  have OpX_4 := Lib.hid (OpX_3.out.below hb LpX_3.out)
  have LpX_4 := Lib.hid (Nat.le_trans LpX_3.out hsz)
  have OV1_2 := Lib.hid (OV1_1.out.below hb LV1_1.out)
  have LV1_2 := Lib.hid (Nat.le_trans LV1_1.out hsz)
  have OV2_2 := Lib.hid (OV2_1.out.below hb LV2_1.out)
  have LV2_2 := Lib.hid (Nat.le_trans LV2_1.out hsz)
  have OV3_2 := Lib.hid (OV3_1.out.below hb LV3_1.out)
  have LV3_2 := Lib.hid (Nat.le_trans LV3_1.out hsz)
  clear OW1_4 LW1_4 OW2_4 LW2_4 OW3_4 LW3_4 OpX_3 LpX_3 OV1_1 LV1_1 OV2_1 LV2_1 OV3_1 LV3_1 HB7 hb hsz hd
  clear KA_7 KX_2
  obtain ⟨cA0, cA1, cA2, cA3⟩ := cells4 KA_8.out
  obtain ⟨cX0, cX1, cX2, cX3⟩ := cells4 KX_3.out
  go_wp2_with fail
  refine (eqIntS_any _ _ _ _ _ _ z3 z3 _ OV3_2.out.si OW3_5.out.si (by omega) (by omega)).mono ?_
  rintro e w9 ⟨rfl, hd⟩
  clear cA0 cA1 cA2 cA3 cX0 cX1 cX2 cX3
  rw [eqL_self]
  have hb : Below w8.heap.size w8 w9 := hd.below _
  have KA_9 := Lib.hid (KA_8.out.below hb KA_8.out.lt)
  have KX_4 := Lib.hid (KX_3.out.below hb KX_3.out.lt)
  clear hb
  have hb : Below w8.heap.size w8 w9 := hd.below _
  have hsz := hb.size
  have HB9 := Lib.hid (HB8.out.trans (hb.mono HB8.out.size))
  have OW1_6 := Lib.hid (OW1_5.out.below hb LW1_5.out)
  have LW1_6 := Lib.hid (Nat.le_trans LW1_5.out hsz)
  have OW2_6 := Lib.hid (OW2_5.out.below hb LW2_5.out)
  have LW2_6 := Lib.hid (Nat.le_trans LW2_5.out hsz)
  have OW3_6 := Lib.hid (OW3_5.out.below hb LW3_5.out)
  have LW3_6 := Lib.hid (Nat.le_trans LW3_5.out hsz)
  have OpX_5 := Lib.hid (OpX_4.out.below hb LpX_4.out)
  have LpX_5 := Lib.hid (Nat.le_trans LpX_4.out hsz)
  have OV1_3 := Lib.hid (OV1_2.out.below hb LV1_2.out)
  have LV1_3 := Lib.hid (Nat.le_trans LV1_2.out hsz)
  have OV2_3 := Lib.hid (OV2_2.out.below hb LV2_2.out)
  have LV2_3 := Lib.hid (Nat.le_trans LV2_2.out hsz)
  have OV3_3 := Lib.hid (OV3_2.out.below hb LV3_2.out)
  have LV3_3 := Lib.hid (Nat.le_trans LV3_2.out hsz)
  clear OW1_5 LW1_5 OW2_5 LW2_5 OW3_5 LW3_5 OpX_4 LpX_4 OV1_2 LV1_2 OV2_2 LV2_2 OV3_2 LV3_2 HB8 hb hsz hd
  clear KA_8 KX_3
  obtain ⟨cA0, cA1, cA2, cA3⟩ := cells4 KA_9.out
  obtain ⟨cX0, cX1, cX2, cX3⟩ := cells4 KX_4.out
  go_upto_region 10 with fail
  clear cA0 cA1 cA2 cA3 cX0 cX1 cX2 cX3
  have hq0 : w9.cell? ⟨gX, 0, none⟩ = some (.int .i64 s) ∧ w9.cell? ⟨gX, 1, none⟩ = some (.slice PpX1 ppX1 rpX1) ∧ w9.cell? ⟨gX, 2, none⟩ = some (.slice PpX2 ppX2 rpX2) ∧ w9.cell? ⟨gX, 3, none⟩ = some (.slice PpX3 ppX3 rpX3) ∧ w9.cell? ⟨gA, 0, none⟩ = some (.int .i64 s) ∧ w9.cell? ⟨gA, 1, none⟩ = some (.slice A1 n1 c1) ∧ w9.cell? ⟨gA, 2, none⟩ = some (.slice A2 n2 c2) ∧ w9.cell? ⟨gA, 3, none⟩ = some (.slice A3 n3 c3) := by obtain ⟨a0, a1, a2, a3⟩ := cells4 KX_4.out; obtain ⟨b0, b1, b2, b3⟩ := cells4 KA_9.out; exact ⟨a0, a1, a2, a3, b0, b1, b2, b3⟩
  have hqd : w9.drew.cell? ⟨gX, 0, none⟩ = some (.int .i64 s) ∧ w9.drew.cell? ⟨gX, 1, none⟩ = some (.slice PpX1 ppX1 rpX1) ∧ w9.drew.cell? ⟨gX, 2, none⟩ = some (.slice PpX2 ppX2 rpX2) ∧ w9.drew.cell? ⟨gX, 3, none⟩ = some (.slice PpX3 ppX3 rpX3) ∧ w9.drew.cell? ⟨gA, 0, none⟩ = some (.int .i64 s) ∧ w9.drew.cell? ⟨gA, 1, none⟩ = some (.slice A1 n1 c1) ∧ w9.drew.cell? ⟨gA, 2, none⟩ = some (.slice A2 n2 c2) ∧ w9.drew.cell? ⟨gA, 3, none⟩ = some (.slice A3 n3 c3) := hq0
  have HQ0 := Lib.hid hq0
  have HQD := Lib.hid hqd
  clear hq0 hqd
  have HPD : Hid (PS w9.drew A1 A2 A3 n1 n2 n3 y1 y2 y3) := Lib.hid (hp.below HB9.out.drew (Nat.le_refl _))
  go_region_held3 (fun w' => w'.cell? ⟨gX, 0, none⟩ = some (.int .i64 s) ∧ w'.cell? ⟨gX, 1, none⟩ = some (.slice PpX1 ppX1 rpX1) ∧ w'.cell? ⟨gX, 2, none⟩ = some (.slice PpX2 ppX2 rpX2) ∧ w'.cell? ⟨gX, 3, none⟩ = some (.slice PpX3 ppX3 rpX3) ∧ w'.cell? ⟨gA, 0, none⟩ = some (.int .i64 s) ∧ w'.cell? ⟨gA, 1, none⟩ = some (.slice A1 n1 c1) ∧ w'.cell? ⟨gA, 2, none⟩ = some (.slice A2 n2 c2) ∧ w'.cell? ⟨gA, 3, none⟩ = some (.slice A3 n3 c3))
    (first | exact HQD.out | exact HQ0.out | exact KK4 | exact KK5)
    (first
      | (go_at_call 41
         with_reducible refine (toPuzzle_ps s _ _ _ _ _ _ _ _ _ y1 y2 y3 _ HPD.out (by have := SM.out; omega)).mono ?_
         rintro e w10 ⟨Pyp1, Pyp2, Pyp3, pyp1, ryp1, pyp2, ryp2, pyp3, ryp3, rfl, ho0, hb0⟩
         have hb : Below w9.heap.size w9 w10 := ((Below.refl _ _).drew).trans hb0
         have ho : OwnP w10 w9.heap.size w10.heap.size Pyp1 Pyp2 Pyp3 pyp1 ryp1 pyp2 ryp2 pyp3 ryp3 y1 y2 y3 := ho0
         clear ho0 hb0
         have KA_10 := Lib.hid (KA_9.out.below hb KA_9.out.lt)
         have KX_5 := Lib.hid (KX_4.out.below hb KX_4.out.lt)
         have DKA_yp : Hid (gA < w9.heap.size ∨ w10.heap.size ≤ gA) := Lib.hid (.inl KA_9.out.lt)
         have DKX_yp : Hid (gX < w9.heap.size ∨ w10.heap.size ≤ gX) := Lib.hid (.inl KX_4.out.lt)
         have hsz := hb.size
         have HB10 := Lib.hid (HB9.out.trans (hb.mono HB9.out.size))
         have OW1_7 := Lib.hid (OW1_6.out.below hb LW1_6.out)
         have LW1_7 := Lib.hid (Nat.le_trans LW1_6.out hsz)
         have OW2_7 := Lib.hid (OW2_6.out.below hb LW2_6.out)
         have LW2_7 := Lib.hid (Nat.le_trans LW2_6.out hsz)
         have OW3_7 := Lib.hid (OW3_6.out.below hb LW3_6.out)
         have LW3_7 := Lib.hid (Nat.le_trans LW3_6.out hsz)
         have OpX_6 := Lib.hid (OpX_5.out.below hb LpX_5.out)
         have LpX_6 := Lib.hid (Nat.le_trans LpX_5.out hsz)
         have OV1_4 := Lib.hid (OV1_3.out.below hb LV1_3.out)
         have LV1_4 := Lib.hid (Nat.le_trans LV1_3.out hsz)
         have OV2_4 := Lib.hid (OV2_3.out.below hb LV2_3.out)
         have LV2_4 := Lib.hid (Nat.le_trans LV2_3.out hsz)
         have OV3_4 := Lib.hid (OV3_3.out.below hb LV3_3.out)
         have LV3_4 := Lib.hid (Nat.le_trans LV3_3.out hsz)
         have Oyp_0 := Lib.hid ho
         have Lyp_0 := Lib.hid (Nat.le_refl w10.heap.size)
         have Nyp := Lib.hid ho.len
         have Gyp := Lib.hid HB9.out.size
         have DW1_yp : Hid (_ ≤ w9.heap.size) := LW1_6
         have DW2_yp : Hid (_ ≤ w9.heap.size) := LW2_6
         have DW3_yp : Hid (_ ≤ w9.heap.size) := LW3_6
         have DpX_yp : Hid (_ ≤ w9.heap.size) := LpX_5
         have DV1_yp : Hid (_ ≤ w9.heap.size) := LV1_3
         have DV2_yp : Hid (_ ≤ w9.heap.size) := LV2_3
         have DV3_yp : Hid (_ ≤ w9.heap.size) := LV3_3
         clear OW1_6 LW1_6 OW2_6 LW2_6 OW3_6 LW3_6 OpX_5 LpX_5 OV1_3 LV1_3 OV2_3 LV2_3 OV3_3 LV3_3 HB9 hb hsz ho
         clear KA_9 KX_4
         have KK4 : w10.cell? ⟨gX, 0, none⟩ = some (.int .i64 s) ∧ w10.cell? ⟨gX, 1, none⟩ = some (.slice PpX1 ppX1 rpX1) ∧ w10.cell? ⟨gX, 2, none⟩ = some (.slice PpX2 ppX2 rpX2) ∧ w10.cell? ⟨gX, 3, none⟩ = some (.slice PpX3 ppX3 rpX3) ∧ w10.cell? ⟨gA, 0, none⟩ = some (.int .i64 s) ∧ w10.cell? ⟨gA, 1, none⟩ = some (.slice A1 n1 c1) ∧ w10.cell? ⟨gA, 2, none⟩ = some (.slice A2 n2 c2) ∧ w10.cell? ⟨gA, 3, none⟩ = some (.slice A3 n3 c3) := by obtain ⟨a0, a1, a2, a3⟩ := cells4 KX_5.out; obtain ⟨b0, b1, b2, b3⟩ := cells4 KA_10.out; exact ⟨a0, a1, a2, a3, b0, b1, b2, b3⟩
         have QX := Lib.hid OpX_6.out.si
         have QY := Lib.hid Oyp_0.out.si)
      | (go_at_call 43
         with_reducible refine (eqPuzzle_yes s _ _ _ _ _ _ _ _ _ _ _ _ _ _ _ _ _ _ y1 y2 y3 _ QX.out QY.out YB.out).mono ?_
         rintro e w11 ⟨rfl, hb⟩
         have KA_11 := Lib.hid (KA_10.out.below hb KA_10.out.lt)
         have KX_6 := Lib.hid (KX_5.out.below hb KX_5.out.lt)
         have hsz := hb.size
         have HB11 := Lib.hid (HB10.out.trans (hb.mono HB10.out.size))
         have OW1_8 := Lib.hid (OW1_7.out.below hb LW1_7.out)
         have LW1_8 := Lib.hid (Nat.le_trans LW1_7.out hsz)
         have OW2_8 := Lib.hid (OW2_7.out.below hb LW2_7.out)
         have LW2_8 := Lib.hid (Nat.le_trans LW2_7.out hsz)
         have OW3_8 := Lib.hid (OW3_7.out.below hb LW3_7.out)
         have LW3_8 := Lib.hid (Nat.le_trans LW3_7.out hsz)
         have OpX_7 := Lib.hid (OpX_6.out.below hb LpX_6.out)
         have LpX_7 := Lib.hid (Nat.le_trans LpX_6.out hsz)
         have OV1_5 := Lib.hid (OV1_4.out.below hb LV1_4.out)
         have LV1_5 := Lib.hid (Nat.le_trans LV1_4.out hsz)
         have OV2_5 := Lib.hid (OV2_4.out.below hb LV2_4.out)
         have LV2_5 := Lib.hid (Nat.le_trans LV2_4.out hsz)
         have OV3_5 := Lib.hid (OV3_4.out.below hb LV3_4.out)
         have LV3_5 := Lib.hid (Nat.le_trans LV3_4.out hsz)
         have Oyp_1 := Lib.hid (Oyp_0.out.below hb Lyp_0.out)
         have Lyp_1 := Lib.hid (Nat.le_trans Lyp_0.out hsz)
         clear OW1_7 LW1_7 OW2_7 LW2_7 OW3_7 LW3_7 OpX_6 LpX_6 OV1_4 LV1_4 OV2_4 LV2_4 OV3_4 LV3_4 Oyp_0 Lyp_0 HB10 hb hsz
         clear KA_10 KX_5
         have KK5 : w11.cell? ⟨gX, 0, none⟩ = some (.int .i64 s) ∧ w11.cell? ⟨gX, 1, none⟩ = some (.slice PpX1 ppX1 rpX1) ∧ w11.cell? ⟨gX, 2, none⟩ = some (.slice PpX2 ppX2 rpX2) ∧ w11.cell? ⟨gX, 3, none⟩ = some (.slice PpX3 ppX3 rpX3) ∧ w11.cell? ⟨gA, 0, none⟩ = some (.int .i64 s) ∧ w11.cell? ⟨gA, 1, none⟩ = some (.slice A1 n1 c1) ∧ w11.cell? ⟨gA, 2, none⟩ = some (.slice A2 n2 c2) ∧ w11.cell? ⟨gA, 3, none⟩ = some (.slice A3 n3 c3) := by obtain ⟨a0, a1, a2, a3⟩ := cells4 KX_6.out; obtain ⟨b0, b1, b2, b3⟩ := cells4 KA_11.out; exact ⟨a0, a1, a2, a3, b0, b1, b2, b3⟩))
  clear HQ0 HQD HPD KK4 KK5 QX QY
  obtain ⟨cA0, cA1, cA2, cA3⟩ := cells4 KA_11.out
  obtain ⟨cX0, cX1, cX2, cX3⟩ := cells4 KX_6.out
  go_wp2_with fail
  refine (markPuzzle_any s _ _ _ _ _ _ _ _ _ _ _ y1 y2 y3 1 _ OpX_7.out LpX_7.out YC.out (by omega) (by omega)).mono ?_
  rintro e w12 ⟨rfl, ho, hw⟩
  clear cA0 cA1 cA2 cA3 cX0 cX1 cX2 cX3
  have KA_12 := Lib.hid (Blk.within_ KA_11.out hw DKA_pX.out)
  have KX_7 := Lib.hid (Blk.within_ KX_6.out hw DKX_pX.out)
  have hsz := hw.size
  have HB12 := Lib.hid (HB11.out.trans (hw.below GpX.out HB11.out.size))
  have OW1_9 := Lib.hid (OW1_8.out.within hw (.inl DW1_pX.out))
  have LW1_9 := Lib.hid (Nat.le_trans LW1_8.out hsz)
  have OW2_9 := Lib.hid (OW2_8.out.within hw (.inl DW2_pX.out))
  have LW2_9 := Lib.hid (Nat.le_trans LW2_8.out hsz)
  have OW3_9 := Lib.hid (OW3_8.out.within hw (.inl DW3_pX.out))
  have LW3_9 := Lib.hid (Nat.le_trans LW3_8.out hsz)
  have OpX_8 := Lib.hid ho
  have LpX_8 := Lib.hid (Nat.le_trans LpX_7.out hsz)
  have OV1_6 := Lib.hid (OV1_5.out.within hw (.inr DpX_V1.out))
  have LV1_6 := Lib.hid (Nat.le_trans LV1_5.out hsz)
  have OV2_6 := Lib.hid (OV2_5.out.within hw (.inr DpX_V2.out))
  have LV2_6 := Lib.hid (Nat.le_trans LV2_5.out hsz)
  have OV3_6 := Lib.hid (OV3_5.out.within hw (.inr DpX_V3.out))
  have LV3_6 := Lib.hid (Nat.le_trans LV3_5.out hsz)
  clear OW1_8 LW1_8 OW2_8 LW2_8 OW3_8 LW3_8 OpX_7 LpX_7 OV1_5 LV1_5 OV2_5 LV2_5 OV3_5 LV3_5 HB11 hw hsz ho
  clear KA_11 KX_6
  have hk0 : ¬ (1 + (y1.length : Int) + (y2.length : Int) + (y3.length : Int)) < 0 := by omega
  obtain ⟨cA0, cA1, cA2, cA3⟩ := cells4 KA_12.out
  obtain ⟨cX0, cX1, cX2, cX3⟩ := cells4 KX_7.out
  go_wp2_with fail
  refine (eqIntS_any _ _ _ _ _ _ z1 z1 _ OV1_6.out.si OW1_9.out.si (by omega) (by omega)).mono ?_
  rintro e w13 ⟨rfl, hd⟩
  clear cA0 cA1 cA2 cA3 cX0 cX1 cX2 cX3
  rw [eqL_self]
  have hb : Below w12.heap.size w12 w13 := hd.below _
  have KA_13 := Lib.hid (KA_12.out.below hb KA_12.out.lt)
  have KX_8 := Lib.hid (KX_7.out.below hb KX_7.out.lt)
  clear hb
  have hb : Below w12.heap.size w12 w13 := hd.below _
  have hsz := hb.size
  have HB13 := Lib.hid (HB12.out.trans (hb.mono HB12.out.size))
  have OW1_10 := Lib.hid (OW1_9.out.below hb LW1_9.out)
  have LW1_10 := Lib.hid (Nat.le_trans LW1_9.out hsz)
  have OW2_10 := Lib.hid (OW2_9.out.below hb LW2_9.out)
  have LW2_10 := Lib.hid (Nat.le_trans LW2_9.out hsz)
  have OW3_10 := Lib.hid (OW3_9.out.below hb LW3_9.out)
  have LW3_10 := Lib.hid (Nat.le_trans LW3_9.out hsz)
  have OpX_9 := Lib.hid (OpX_8.out.below hb LpX_8.out)
  have LpX_9 := Lib.hid (Nat.le_trans LpX_8.out hsz)
  have OV1_7 := Lib.hid (OV1_6.out.below hb LV1_6.out)
  have LV1_7 := Lib.hid (Nat.le_trans LV1_6.out hsz)
  have OV2_7 := Lib.hid (OV2_6.out.below hb LV2_6.out)
  have LV2_7 := Lib.hid (Nat.le_trans LV2_6.out hsz)
  have OV3_7 := Lib.hid (OV3_6.out.below hb LV3_6.out)
  have LV3_7 := Lib.hid (Nat.le_trans LV3_6.out hsz)
  clear OW1_9 LW1_9 OW2_9 LW2_9 OW3_9 LW3_9 OpX_8 LpX_8 OV1_6 LV1_6 OV2_6 LV2_6 OV3_6 LV3_6 HB12 hb hsz hd
  clear KA_12 KX_7
  obtain ⟨cA0, cA1, cA2, cA3⟩ := cells4 KA_13.out
  obtain ⟨cX0, cX1, cX2, cX3⟩ := cells4 KX_8.out
  go_wp2_with fail
  refine (eqIntS_any _ _ _ _ _ _ z2 z2 _ OV2_7.out.si OW2_10.out.si (by omega) (by omega)).mono ?_
  rintro e w14 ⟨rfl, hd⟩
  clear cA0 cA1 cA2 cA3 cX0 cX1 cX2 cX3
  rw [eqL_self]
  have hb : Below w13.heap.size w13 w14 := hd.below _
  have KA_14 := Lib.hid (KA_13.out.below hb KA_13.out.lt)
  have KX_9 := Lib.hid (KX_8.out.below hb KX_8.out.lt)
  clear hb
  have hb : Below w13.heap.size w13 w14 := hd.below _
  have hsz := hb.size
  have HB14 := Lib.hid (HB13.out.trans (hb.mono HB13.out.size))
  have OW1_11 := Lib.hid (OW1_10.out.below hb LW1_10.out)
  have LW1_11 := Lib.hid (Nat.le_trans LW1_10.out hsz)
  have OW2_11 := Lib.hid (OW2_10.out.below hb LW2_10.out)
  have LW2_11 := Lib.hid (Nat.le_trans LW2_10.out hsz)
  have OW3_11 := Lib.hid (OW3_10.out.below hb LW3_10.out)
  have LW3_11 := Lib.hid (Nat.le_trans LW3_10.out hsz)
  have OpX_10 := Lib.hid (OpX_9.out.below hb LpX_9.out)
  have LpX_10 := Lib.hid (Nat.le_trans LpX_9.out hsz)
  have OV1_8 := Lib.hid (OV1_7.out.below hb LV1_7.out)
  have LV1_8 := Lib.hid (Nat.le_trans LV1_7.out hsz)
  have OV2_8 := Lib.hid (OV2_7.out.below hb LV2_7.out)
  have LV2_8 := Lib.hid (Nat.le_trans LV2_7.out hsz)
  have OV3_8 := Lib.hid (OV3_7.out.below hb LV3_7.out)
  have LV3_8 := Lib.hid (Nat.le_trans LV3_7.out hsz)
  clear OW1_10 LW1_10 OW2_10 LW2_10 OW3_10 LW3_10 OpX_9 LpX_9 OV1_7 LV1_7 OV2_7 LV2_7 OV3_7 LV3_7 HB13 hb hsz hd
  clear KA_13 KX_8
  obtain ⟨cA0, cA1, cA2, cA3⟩ := cells4 KA_14.out
  obtain ⟨cX0, cX1, cX2, cX3⟩ := cells4 KX_9.out
  go_wp2_with fail
  refine (eqIntS_any _ _ _ _ _ _ z3 z3 _ OV3_8.out.si OW3_11.out.si (by omega) (by omega)).mono ?_
  rintro e w15 ⟨rfl, hd⟩
  clear cA0 cA1 cA2 cA3 cX0 cX1 cX2 cX3
  rw [eqL_self]
  have hb : Below w14.heap.size w14 w15 := hd.below _
  have KA_15 := Lib.hid (KA_14.out.below hb KA_14.out.lt)
  have KX_10 := Lib.hid (KX_9.out.below hb KX_9.out.lt)
  clear hb
  have hb : Below w14.heap.size w14 w15 := hd.below _
  have hsz := hb.size
  have HB15 := Lib.hid (HB14.out.trans (hb.mono HB14.out.size))
  have OW1_12 := Lib.hid (OW1_11.out.below hb LW1_11.out)
  have LW1_12 := Lib.hid (Nat.le_trans LW1_11.out hsz)
  have OW2_12 := Lib.hid (OW2_11.out.below hb LW2_11.out)
  have LW2_12 := Lib.hid (Nat.le_trans LW2_11.out hsz)
  have OW3_12 := Lib.hid (OW3_11.out.below hb LW3_11.out)
  have LW3_12 := Lib.hid (Nat.le_trans LW3_11.out hsz)
  have OpX_11 := Lib.hid (OpX_10.out.below hb LpX_10.out)
  have LpX_11 := Lib.hid (Nat.le_trans LpX_10.out hsz)
  have OV1_9 := Lib.hid (OV1_8.out.below hb LV1_8.out)
  have LV1_9 := Lib.hid (Nat.le_trans LV1_8.out hsz)
  have OV2_9 := Lib.hid (OV2_8.out.below hb LV2_8.out)
  have LV2_9 := Lib.hid (Nat.le_trans LV2_8.out hsz)
  have OV3_9 := Lib.hid (OV3_8.out.below hb LV3_8.out)
  have LV3_9 := Lib.hid (Nat.le_trans LV3_8.out hsz)
  clear OW1_11 LW1_11 OW2_11 LW2_11 OW3_11 LW3_11 OpX_10 LpX_10 OV1_8 LV1_8 OV2_8 LV2_8 OV3_8 LV3_8 HB14 hb hsz hd
  clear KA_14 KX_9
  obtain ⟨cA0, cA1, cA2, cA3⟩ := cells4 KA_15.out
  obtain ⟨cX0, cX1, cX2, cX3⟩ := cells4 KX_10.out
  go_wp2_with fail
  refine (markIntS_any _ _ _ _ _ z1 1 _ OV1_9.out (by omega) (by omega) (by omega)).mono ?_
  rintro e w16 ⟨rfl, ho, hg⟩
  clear cA0 cA1 cA2 cA3 cX0 cX1 cX2 cX3
  have hw := Within.of_grown hg (fun g e => OV1_9.out.lt g e)
  clear hg
  have KA_16 := Lib.hid (Blk.within_ KA_15.out hw DKA_V1.out)
  have KX_11 := Lib.hid (Blk.within_ KX_10.out hw DKX_V1.out)
  have hsz := hw.size
  have HB16 := Lib.hid (HB15.out.trans (hw.below GV1.out HB15.out.size))
  have OW1_13 := Lib.hid (OW1_12.out.within hw (.inl DW1_V1.out))
  have LW1_13 := Lib.hid (Nat.le_trans LW1_12.out hsz)
  have OW2_13 := Lib.hid (OW2_12.out.within hw (.inl DW2_V1.out))
  have LW2_13 := Lib.hid (Nat.le_trans LW2_12.out hsz)
  have OW3_13 := Lib.hid (OW3_12.out.within hw (.inl DW3_V1.out))
  have LW3_13 := Lib.hid (Nat.le_trans LW3_12.out hsz)
  have OV1_10 := Lib.hid ho
  have LV1_10 := Lib.hid (Nat.le_trans LV1_9.out hsz)
  have OV2_10 := Lib.hid (OV2_9.out.within hw QV2_V1.out)
  have LV2_10 := Lib.hid (Nat.le_trans LV2_9.out hsz)
  have OV3_10 := Lib.hid (OV3_9.out.within hw QV3_V1.out)
  have LV3_10 := Lib.hid (Nat.le_trans LV3_9.out hsz)
  clear OW1_12 LW1_12 OW2_12 LW2_12 OW3_12 LW3_12 OV1_9 LV1_9 OV2_9 LV2_9 OV3_9 LV3_9 HB15 hw hsz ho
  clear KA_15 KX_10
  obtain ⟨q1, hq1⟩ : ∃ z : Int, z = 1 + (nV1 : Int) := ⟨_, rfl⟩
  have HQ1 := Lib.hid hq1
  have hq1b : 0 ≤ q1 ∧ q1 ≤ 10000 := by omega
  rw [← hq1]
  clear hq1
  obtain ⟨cA0, cA1, cA2, cA3⟩ := cells4 KA_16.out
  obtain ⟨cX0, cX1, cX2, cX3⟩ := cells4 KX_11.out
  go_wp2_with fail
  refine (markIntS_any _ _ _ _ _ z2 q1 _ OV2_10.out (by omega) (by omega) (by omega)).mono ?_
  rintro e w17 ⟨rfl, ho, hg⟩
  clear cA0 cA1 cA2 cA3 cX0 cX1 cX2 cX3
  have hw := Within.of_grown hg (fun g e => OV2_10.out.lt g e)
  clear hg
  have KA_17 := Lib.hid (Blk.within_ KA_16.out hw DKA_V2.out)
  have KX_12 := Lib.hid (Blk.within_ KX_11.out hw DKX_V2.out)
  have hsz := hw.size
  have HB17 := Lib.hid (HB16.out.trans (hw.below GV2.out HB16.out.size))
  have OW1_14 := Lib.hid (OW1_13.out.within hw (.inl DW1_V2.out))
  have LW1_14 := Lib.hid (Nat.le_trans LW1_13.out hsz)
  have OW2_14 := Lib.hid (OW2_13.out.within hw (.inl DW2_V2.out))
  have LW2_14 := Lib.hid (Nat.le_trans LW2_13.out hsz)
  have OW3_14 := Lib.hid (OW3_13.out.within hw (.inl DW3_V2.out))
  have LW3_14 := Lib.hid (Nat.le_trans LW3_13.out hsz)
  have OV1_11 := Lib.hid (OV1_10.out.within hw QV1_V2.out)
  have LV1_11 := Lib.hid (Nat.le_trans LV1_10.out hsz)
  have OV2_11 := Lib.hid ho
  have LV2_11 := Lib.hid (Nat.le_trans LV2_10.out hsz)
  have OV3_11 := Lib.hid (OV3_10.out.within hw QV3_V2.out)
  have LV3_11 := Lib.hid (Nat.le_trans LV3_10.out hsz)
  clear OW1_13 LW1_13 OW2_13 LW2_13 OW3_13 LW3_13 OV1_10 LV1_10 OV2_10 LV2_10 OV3_10 LV3_10 HB16 hw hsz ho
  clear KA_16 KX_11
  obtain ⟨q2, hq2⟩ : ∃ z : Int, z = q1 + (nV2 : Int) := ⟨_, rfl⟩
  have HQ2 := Lib.hid hq2
  have hq2b : 0 ≤ q2 ∧ q2 ≤ 20000 := by omega
  rw [← hq2]
  clear hq2
  obtain ⟨cA0, cA1, cA2, cA3⟩ := cells4 KA_17.out
  obtain ⟨cX0, cX1, cX2, cX3⟩ := cells4 KX_12.out
  go_wp2_with fail
  refine (markIntS_any _ _ _ _ _ z3 q2 _ OV3_11.out (by omega) (by omega) (by omega)).mono ?_
  rintro e w18 ⟨rfl, ho, hg⟩
  clear cA0 cA1 cA2 cA3 cX0 cX1 cX2 cX3
  have hw := Within.of_grown hg (fun g e => OV3_11.out.lt g e)
  clear hg
  have KA_18 := Lib.hid (Blk.within_ KA_17.out hw DKA_V3.out)
  have KX_13 := Lib.hid (Blk.within_ KX_12.out hw DKX_V3.out)
  have hsz := hw.size
  have HB18 := Lib.hid (HB17.out.trans (hw.below GV3.out HB17.out.size))
  have OW1_15 := Lib.hid (OW1_14.out.within hw (.inl DW1_V3.out))
  have LW1_15 := Lib.hid (Nat.le_trans LW1_14.out hsz)
  have OW2_15 := Lib.hid (OW2_14.out.within hw (.inl DW2_V3.out))
  have LW2_15 := Lib.hid (Nat.le_trans LW2_14.out hsz)
  have OW3_15 := Lib.hid (OW3_14.out.within hw (.inl DW3_V3.out))
  have LW3_15 := Lib.hid (Nat.le_trans LW3_14.out hsz)
  have OV1_12 := Lib.hid (OV1_11.out.within hw QV1_V3.out)
  have LV1_12 := Lib.hid (Nat.le_trans LV1_11.out hsz)
  have OV2_12 := Lib.hid (OV2_11.out.within hw QV2_V3.out)
  have LV2_12 := Lib.hid (Nat.le_trans LV2_11.out hsz)
  have OV3_12 := Lib.hid ho
  have LV3_12 := Lib.hid (Nat.le_trans LV3_11.out hsz)
  clear OW1_14 LW1_14 OW2_14 LW2_14 OW3_14 LW3_14 OV1_11 LV1_11 OV2_11 LV2_11 OV3_11 LV3_11 HB17 hw hsz ho
  clear KA_17 KX_12
  obtain ⟨q3, hq3⟩ : ∃ z : Int, z = q2 + (nV3 : Int) := ⟨_, rfl⟩
  have HQ3 := Lib.hid hq3
  have hq3b : 0 ≤ q3 ∧ q3 ≤ 30000 := by omega
  rw [← hq3]
  clear hq3
  obtain ⟨cA0, cA1, cA2, cA3⟩ := cells4 KA_18.out
  obtain ⟨cX0, cX1, cX2, cX3⟩ := cells4 KX_13.out
  go_wp2_with fail
  refine (heldIntS_yes _ _ _ 1 _ OV1_12.out.si (by omega) (by omega) (by omega)).mono ?_
  rintro e w19 ⟨rfl, hd⟩
  clear cA0 cA1 cA2 cA3 cX0 cX1 cX2 cX3
  rw [← HQ1.out]
  have hb : Below w18.heap.size w18 w19 := hd.below _
  have KA_19 := Lib.hid (KA_18.out.below hb KA_18.out.lt)
  have KX_14 := Lib.hid (KX_13.out.below hb KX_13.out.lt)
  clear hb
  have hb : Below w18.heap.size w18 w19 := hd.below _
  have hsz := hb.size
  have HB19 := Lib.hid (HB18.out.trans (hb.mono HB18.out.size))
  have OW1_16 := Lib.hid (OW1_15.out.below hb LW1_15.out)
  have LW1_16 := Lib.hid (Nat.le_trans LW1_15.out hsz)
  have OW2_16 := Lib.hid (OW2_15.out.below hb LW2_15.out)
  have LW2_16 := Lib.hid (Nat.le_trans LW2_15.out hsz)
  have OW3_16 := Lib.hid (OW3_15.out.below hb LW3_15.out)
  have LW3_16 := Lib.hid (Nat.le_trans LW3_15.out hsz)
  have OV1_13 := Lib.hid (OV1_12.out.below hb LV1_12.out)
  have LV1_13 := Lib.hid (Nat.le_trans LV1_12.out hsz)
  have OV2_13 := Lib.hid (OV2_12.out.below hb LV2_12.out)
  have LV2_13 := Lib.hid (Nat.le_trans LV2_12.out hsz)
  have OV3_13 := Lib.hid (OV3_12.out.below hb LV3_12.out)
  have LV3_13 := Lib.hid (Nat.le_trans LV3_12.out hsz)
  clear OW1_15 LW1_15 OW2_15 LW2_15 OW3_15 LW3_15 OV1_12 LV1_12 OV2_12 LV2_12 OV3_12 LV3_12 HB18 hb hsz hd
  clear KA_18 KX_13
  have hq1n : ¬ q1 < 0 := by omega
  obtain ⟨cA0, cA1, cA2, cA3⟩ := cells4 KA_19.out
  obtain ⟨cX0, cX1, cX2, cX3⟩ := cells4 KX_14.out
  go_wp2_with fail
  refine (heldIntS_yes _ _ _ q1 _ OV2_13.out.si (by omega) (by omega) (by omega)).mono ?_
  rintro e w20 ⟨rfl, hd⟩
  clear cA0 cA1 cA2 cA3 cX0 cX1 cX2 cX3
  rw [← HQ2.out]
  have hb : Below w19.heap.size w19 w20 := hd.below _
  have KA_20 := Lib.hid (KA_19.out.below hb KA_19.out.lt)
  have KX_15 := Lib.hid (KX_14.out.below hb KX_14.out.lt)
  clear hb
  have hb : Below w19.heap.size w19 w20 := hd.below _
  have hsz := hb.size
  have HB20 := Lib.hid (HB19.out.trans (hb.mono HB19.out.size))
  have OW1_17 := Lib.hid (OW1_16.out.below hb LW1_16.out)
  have LW1_17 := Lib.hid (Nat.le_trans LW1_16.out hsz)
  have OW2_17 := Lib.hid (OW2_16.out.below hb LW2_16.out)
  have LW2_17 := Lib.hid (Nat.le_trans LW2_16.out hsz)
  have OW3_17 := Lib.hid (OW3_16.out.below hb LW3_16.out)
  have LW3_17 := Lib.hid (Nat.le_trans LW3_16.out hsz)
  have OV1_14 := Lib.hid (OV1_13.out.below hb LV1_13.out)
  have LV1_14 := Lib.hid (Nat.le_trans LV1_13.out hsz)
  have OV2_14 := Lib.hid (OV2_13.out.below hb LV2_13.out)
  have LV2_14 := Lib.hid (Nat.le_trans LV2_13.out hsz)
  have OV3_14 := Lib.hid (OV3_13.out.below hb LV3_13.out)
  have LV3_14 := Lib.hid (Nat.le_trans LV3_13.out hsz)
  clear OW1_16 LW1_16 OW2_16 LW2_16 OW3_16 LW3_16 OV1_13 LV1_13 OV2_13 LV2_13 OV3_13 LV3_13 HB19 hb hsz hd
  clear KA_19 KX_14
  have hq2n : ¬ q2 < 0 := by omega
  obtain ⟨cA0, cA1, cA2, cA3⟩ := cells4 KA_20.out
  obtain ⟨cX0, cX1, cX2, cX3⟩ := cells4 KX_15.out
  go_wp2_with fail
  refine (heldIntS_yes _ _ _ q2 _ OV3_14.out.si (by omega) (by omega) (by omega)).mono ?_
  rintro e w21 ⟨rfl, hd⟩
  clear cA0 cA1 cA2 cA3 cX0 cX1 cX2 cX3
  rw [← HQ3.out]
  have hb : Below w20.heap.size w20 w21 := hd.below _
  have KA_21 := Lib.hid (KA_20.out.below hb KA_20.out.lt)
  have KX_16 := Lib.hid (KX_15.out.below hb KX_15.out.lt)
  clear hb
  have hb : Below w20.heap.size w20 w21 := hd.below _
  have hsz := hb.size
  have HB21 := Lib.hid (HB20.out.trans (hb.mono HB20.out.size))
  have OW1_18 := Lib.hid (OW1_17.out.below hb LW1_17.out)
  have LW1_18 := Lib.hid (Nat.le_trans LW1_17.out hsz)
  have OW2_18 := Lib.hid (OW2_17.out.below hb LW2_17.out)
  have LW2_18 := Lib.hid (Nat.le_trans LW2_17.out hsz)
  have OW3_18 := Lib.hid (OW3_17.out.below hb LW3_17.out)
  have LW3_18 := Lib.hid (Nat.le_trans LW3_17.out hsz)
  have OV1_15 := Lib.hid (OV1_14.out.below hb LV1_14.out)
  have LV1_15 := Lib.hid (Nat.le_trans LV1_14.out hsz)
  have OV2_15 := Lib.hid (OV2_14.out.below hb LV2_14.out)
  have LV2_15 := Lib.hid (Nat.le_trans LV2_14.out hsz)
  have OV3_15 := Lib.hid (OV3_14.out.below hb LV3_14.out)
  have LV3_15 := Lib.hid (Nat.le_trans LV3_14.out hsz)
  clear OW1_17 LW1_17 OW2_17 LW2_17 OW3_17 LW3_17 OV1_14 LV1_14 OV2_14 LV2_14 OV3_14 LV3_14 HB20 hb hsz hd
  clear KA_20 KX_15
  have hq3n : ¬ q3 < 0 := by omega
  obtain ⟨cA0, cA1, cA2, cA3⟩ := cells4 KA_21.out
  obtain ⟨cX0, cX1, cX2, cX3⟩ := cells4 KX_16.out
  go_wp2_with fail
  refine (toPuzzle_ps s _ _ _ _ _ _ _ _ _ y1 y2 y3 _ (hp.below HB21.out (Nat.le_refl _)) (by have := SM.out; omega)).mono ?_
  rintro e w22 ⟨PpZ1, PpZ2, PpZ3, ppZ1, rpZ1, ppZ2, rpZ2, ppZ3, rpZ3, rfl, ho, hb⟩
  clear cA0 cA1 cA2 cA3 cX0 cX1 cX2 cX3
  have KA_22 := Lib.hid (KA_21.out.below hb KA_21.out.lt)
  have KX_17 := Lib.hid (KX_16.out.below hb KX_16.out.lt)
  have DKA_pZ : Hid (gA < w21.heap.size ∨ w22.heap.size ≤ gA) := Lib.hid (.inl KA_21.out.lt)
  have DKX_pZ : Hid (gX < w21.heap.size ∨ w22.heap.size ≤ gX) := Lib.hid (.inl KX_16.out.lt)
  have hsz := hb.size
  have HB22 := Lib.hid (HB21.out.trans (hb.mono HB21.out.size))
  have OW1_19 := Lib.hid (OW1_18.out.below hb LW1_18.out)
  have LW1_19 := Lib.hid (Nat.le_trans LW1_18.out hsz)
  have OW2_19 := Lib.hid (OW2_18.out.below hb LW2_18.out)
  have LW2_19 := Lib.hid (Nat.le_trans LW2_18.out hsz)
  have OW3_19 := Lib.hid (OW3_18.out.below hb LW3_18.out)
  have LW3_19 := Lib.hid (Nat.le_trans LW3_18.out hsz)
  have OV1_16 := Lib.hid (OV1_15.out.below hb LV1_15.out)
  have LV1_16 := Lib.hid (Nat.le_trans LV1_15.out hsz)
  have OV2_16 := Lib.hid (OV2_15.out.below hb LV2_15.out)
  have LV2_16 := Lib.hid (Nat.le_trans LV2_15.out hsz)
  have OV3_16 := Lib.hid (OV3_15.out.below hb LV3_15.out)
  have LV3_16 := Lib.hid (Nat.le_trans LV3_15.out hsz)
  have OpZ_0 := Lib.hid ho
  have LpZ_0 := Lib.hid (Nat.le_refl w22.heap.size)
  have NpZ := Lib.hid ho.len
  have GpZ := Lib.hid HB21.out.size
  have DW1_pZ : Hid (_ ≤ w21.heap.size) := LW1_18
  have DW2_pZ : Hid (_ ≤ w21.heap.size) := LW2_18
  have DW3_pZ : Hid (_ ≤ w21.heap.size) := LW3_18
  have DV1_pZ : Hid (_ ≤ w21.heap.size) := LV1_15
  have DV2_pZ : Hid (_ ≤ w21.heap.size) := LV2_15
  have DV3_pZ : Hid (_ ≤ w21.heap.size) := LV3_15
  clear OW1_18 LW1_18 OW2_18 LW2_18 OW3_18 LW3_18 OV1_15 LV1_15 OV2_15 LV2_15 OV3_15 LV3_15 HB21 hb hsz ho
  clear KA_21 KX_16
  obtain ⟨cA0, cA1, cA2, cA3⟩ := cells4 KA_22.out
  obtain ⟨cX0, cX1, cX2, cX3⟩ := cells4 KX_17.out
  go_wp2_with fail
  refine (implSides_z s _ _ _ _ _ _ _ _ _ y1 y2 y3 _ OpZ_0.out.si (OpZ_0.out).caps.2.2 (by have := NpZ.out; have := YB.out; omega) bb z1 z2 z3 HZZ.out).mono ?_
  rintro e w23 ⟨AU1, AU2, AU3, nU1, cU1, nU2, cU2, nU3, cU3, rfl, ho, hb⟩
  clear cA0 cA1 cA2 cA3 cX0 cX1 cX2 cX3
  have ZW1 := LW1_19
  have ZW2 := LW2_19
  have ZW3 := LW3_19
  have ZV1 := LV1_16
  have ZV2 := LV2_16
  have ZV3 := LV3_16
  have ZpZ := LpZ_0
  have YA := Lib.hid KA_22.out.lt
  have YX := Lib.hid KX_17.out.lt
  have ZB := Lib.hid HB22.out.size
  have KA_23 := Lib.hid (KA_22.out.below hb KA_22.out.lt)
  have KX_18 := Lib.hid (KX_17.out.below hb KX_17.out.lt)
  have hsz := hb.size
  have HB23 := Lib.hid (HB22.out.trans (hb.mono HB22.out.size))
  have OW1_20 := Lib.hid (OW1_19.out.below hb LW1_19.out)
  have LW1_20 := Lib.hid (Nat.le_trans LW1_19.out hsz)
  have OW2_20 := Lib.hid (OW2_19.out.below hb LW2_19.out)
  have LW2_20 := Lib.hid (Nat.le_trans LW2_19.out hsz)
  have OW3_20 := Lib.hid (OW3_19.out.below hb LW3_19.out)
  have LW3_20 := Lib.hid (Nat.le_trans LW3_19.out hsz)
  have OV1_17 := Lib.hid (OV1_16.out.below hb LV1_16.out)
  have LV1_17 := Lib.hid (Nat.le_trans LV1_16.out hsz)
  have OV2_17 := Lib.hid (OV2_16.out.below hb LV2_16.out)
  have LV2_17 := Lib.hid (Nat.le_trans LV2_16.out hsz)
  have OV3_17 := Lib.hid (OV3_16.out.below hb LV3_16.out)
  have LV3_17 := Lib.hid (Nat.le_trans LV3_16.out hsz)
  have OpZ_1 := Lib.hid (OpZ_0.out.below hb LpZ_0.out)
  have LpZ_1 := Lib.hid (Nat.le_trans LpZ_0.out hsz)
  clear OW1_19 LW1_19 OW2_19 LW2_19 OW3_19 LW3_19 OV1_16 LV1_16 OV2_16 LV2_16 OV3_16 LV3_16 OpZ_0 LpZ_0 HB22 hb hsz
  clear KA_22 KX_17
  obtain ⟨pU1, eU1, pU2, eU2, pU3, eU3, hh, ho1, ho2, ho3⟩ := ho
  have OU1_0 := Lib.hid ho1
  have LU1_0 : Hid (eU1 ≤ w23.heap.size) := Lib.hid (by omega)
  have NU1 := Lib.hid ho1.len
  have GU1 : Hid (w.heap.size ≤ pU1) := Lib.hid (by have := ZB.out; omega)
  have DW1_U1 : Hid (_ ≤ pU1) := Lib.hid (Nat.le_trans ZW1.out (by omega))
  have DW2_U1 : Hid (_ ≤ pU1) := Lib.hid (Nat.le_trans ZW2.out (by omega))
  have DW3_U1 : Hid (_ ≤ pU1) := Lib.hid (Nat.le_trans ZW3.out (by omega))
  have DV1_U1 : Hid (_ ≤ pU1) := Lib.hid (Nat.le_trans ZV1.out (by omega))
  have DV2_U1 : Hid (_ ≤ pU1) := Lib.hid (Nat.le_trans ZV2.out (by omega))
  have DV3_U1 : Hid (_ ≤ pU1) := Lib.hid (Nat.le_trans ZV3.out (by omega))
  have DpZ_U1 : Hid (_ ≤ pU1) := Lib.hid (Nat.le_trans ZpZ.out (by omega))
  have DKA_U1 : Hid (gA < pU1 ∨ eU1 ≤ gA) := Lib.hid (.inl (by have := YA.out; omega))
  have DKX_U1 : Hid (gX < pU1 ∨ eU1 ≤ gX) := Lib.hid (.inl (by have := YX.out; omega))
  have OU2_0 := Lib.hid ho2
  have LU2_0 : Hid (eU2 ≤ w23.heap.size) := Lib.hid (by omega)
  have NU2 := Lib.hid ho2.len
  have GU2 : Hid (w.heap.size ≤ pU2) := Lib.hid (by have := ZB.out; omega)
  have DW1_U2 : Hid (_ ≤ pU2) := Lib.hid (Nat.le_trans ZW1.out (by omega))
  have DW2_U2 : Hid (_ ≤ pU2) := Lib.hid (Nat.le_trans ZW2.out (by omega))
  have DW3_U2 : Hid (_ ≤ pU2) := Lib.hid (Nat.le_trans ZW3.out (by omega))
  have DV1_U2 : Hid (_ ≤ pU2) := Lib.hid (Nat.le_trans ZV1.out (by omega))
  have DV2_U2 : Hid (_ ≤ pU2) := Lib.hid (Nat.le_trans ZV2.out (by omega))
  have DV3_U2 : Hid (_ ≤ pU2) := Lib.hid (Nat.le_trans ZV3.out (by omega))
  have DpZ_U2 : Hid (_ ≤ pU2) := Lib.hid (Nat.le_trans ZpZ.out (by omega))
  have DKA_U2 : Hid (gA < pU2 ∨ eU2 ≤ gA) := Lib.hid (.inl (by have := YA.out; omega))
  have DKX_U2 : Hid (gX < pU2 ∨ eU2 ≤ gX) := Lib.hid (.inl (by have := YX.out; omega))
  have OU3_0 := Lib.hid ho3
  have LU3_0 : Hid (eU3 ≤ w23.heap.size) := Lib.hid (by omega)
  have NU3 := Lib.hid ho3.len
  have GU3 : Hid (w.heap.size ≤ pU3) := Lib.hid (by have := ZB.out; omega)
  have DW1_U3 : Hid (_ ≤ pU3) := Lib.hid (Nat.le_trans ZW1.out (by omega))
  have DW2_U3 : Hid (_ ≤ pU3) := Lib.hid (Nat.le_trans ZW2.out (by omega))
  have DW3_U3 : Hid (_ ≤ pU3) := Lib.hid (Nat.le_trans ZW3.out (by omega))
  have DV1_U3 : Hid (_ ≤ pU3) := Lib.hid (Nat.le_trans ZV1.out (by omega))
  have DV2_U3 : Hid (_ ≤ pU3) := Lib.hid (Nat.le_trans ZV2.out (by omega))
  have DV3_U3 : Hid (_ ≤ pU3) := Lib.hid (Nat.le_trans ZV3.out (by omega))
  have DpZ_U3 : Hid (_ ≤ pU3) := Lib.hid (Nat.le_trans ZpZ.out (by omega))
  have DKA_U3 : Hid (gA < pU3 ∨ eU3 ≤ gA) := Lib.hid (.inl (by have := YA.out; omega))
  have DKX_U3 : Hid (gX < pU3 ∨ eU3 ≤ gX) := Lib.hid (.inl (by have := YX.out; omega))
  have QU1_U2 : Hid (eU1 ≤ pU2 ∨ eU2 ≤ pU1) := Lib.hid (by omega)
  have QU1_U3 : Hid (eU1 ≤ pU3 ∨ eU3 ≤ pU1) := Lib.hid (by omega)
  have QU2_U1 : Hid (eU2 ≤ pU1 ∨ eU1 ≤ pU2) := Lib.hid (by omega)
  have QU2_U3 : Hid (eU2 ≤ pU3 ∨ eU3 ≤ pU2) := Lib.hid (by omega)
  have QU3_U1 : Hid (eU3 ≤ pU1 ∨ eU1 ≤ pU3) := Lib.hid (by omega)
  have QU3_U2 : Hid (eU3 ≤ pU2 ∨ eU2 ≤ pU3) := Lib.hid (by omega)
  clear hh ho1 ho2 ho3 ZB ZW1 ZW2 ZW3 ZV1 ZV2 ZV3 ZpZ YA YX
  have EU1 : nU1 ≤ 1000 := by have h := NU1.out; have := MBC.out; omega
  have EU2 : nU2 ≤ 1000 := by have h := NU2.out; have := MBC.out; omega
  have EU3 : nU3 ≤ 1000 := by have h := NU3.out; have := MBC.out; omega
  obtain ⟨cA0, cA1, cA2, cA3⟩ := cells4 KA_23.out
  obtain ⟨cX0, cX1, cX2, cX3⟩ := cells4 KX_18.out
  go_wp2_with fail
  refine (eqIntS_any _ _ _ _ _ _ z1 z1 _ OU1_0.out.si OW1_20.out.si (by omega) (by omega)).mono ?_
  rintro e w24 ⟨rfl, hd⟩
  clear cA0 cA1 cA2 cA3 cX0 cX1 cX2 cX3
  rw [eqL_self]
  have hb : Below w23.heap.size w23 w24 := hd.below _
  have KA_24 := Lib.hid (KA_23.out.below hb KA_23.out.lt)
  have KX_19 := Lib.hid (KX_18.out.below hb KX_18.out.lt)
  clear hb
  have hb : Below w23.heap.size w23 w24 := hd.below _
  have hsz := hb.size
  have HB24 := Lib.hid (HB23.out.trans (hb.mono HB23.out.size))
  have OW1_21 := Lib.hid (OW1_20.out.below hb LW1_20.out)
  have LW1_21 := Lib.hid (Nat.le_trans LW1_20.out hsz)
  have OW2_21 := Lib.hid (OW2_20.out.below hb LW2_20.out)
  have LW2_21 := Lib.hid (Nat.le_trans LW2_20.out hsz)
  have OW3_21 := Lib.hid (OW3_20.out.below hb LW3_20.out)
  have LW3_21 := Lib.hid (Nat.le_trans LW3_20.out hsz)
  have OV1_18 := Lib.hid (OV1_17.out.below hb LV1_17.out)
  have LV1_18 := Lib.hid (Nat.le_trans LV1_17.out hsz)
  have OV2_18 := Lib.hid (OV2_17.out.below hb LV2_17.out)
  have LV2_18 := Lib.hid (Nat.le_trans LV2_17.out hsz)
  have OV3_18 := Lib.hid (OV3_17.out.below hb LV3_17.out)
  have LV3_18 := Lib.hid (Nat.le_trans LV3_17.out hsz)
  have OU1_1 := Lib.hid (OU1_0.out.below hb LU1_0.out)
  have LU1_1 := Lib.hid (Nat.le_trans LU1_0.out hsz)
  have OU2_1 := Lib.hid (OU2_0.out.below hb LU2_0.out)
  have LU2_1 := Lib.hid (Nat.le_trans LU2_0.out hsz)
  have OU3_1 := Lib.hid (OU3_0.out.below hb LU3_0.out)
  have LU3_1 := Lib.hid (Nat.le_trans LU3_0.out hsz)
  clear OW1_20 LW1_20 OW2_20 LW2_20 OW3_20 LW3_20 OV1_17 LV1_17 OV2_17 LV2_17 OV3_17 LV3_17 OU1_0 LU1_0 OU2_0 LU2_0 OU3_0 LU3_0 HB23 hb hsz hd
  clear KA_23 KX_18
  obtain ⟨cA0, cA1, cA2, cA3⟩ := cells4 KA_24.out
  obtain ⟨cX0, cX1, cX2, cX3⟩ := cells4 KX_19.out
  go_wp2_with fail
  refine (eqIntS_any _ _ _ _ _ _ z2 z2 _ OU2_1.out.si OW2_21.out.si (by omega) (by omega)).mono ?_
  rintro e w25 ⟨rfl, hd⟩
  clear cA0 cA1 cA2 cA3 cX0 cX1 cX2 cX3
  rw [eqL_self]
  have hb : Below w24.heap.size w24 w25 := hd.below _
  have KA_25 := Lib.hid (KA_24.out.below hb KA_24.out.lt)
  have KX_20 := Lib.hid (KX_19.out.below hb KX_19.out.lt)
  clear hb
  have hb : Below w24.heap.size w24 w25 := hd.below _
  have hsz := hb.size
  have HB25 := Lib.hid (HB24.out.trans (hb.mono HB24.out.size))
  have OW1_22 := Lib.hid (OW1_21.out.below hb LW1_21.out)
  have LW1_22 := Lib.hid (Nat.le_trans LW1_21.out hsz)
  have OW2_22 := Lib.hid (OW2_21.out.below hb LW2_21.out)
  have LW2_22 := Lib.hid (Nat.le_trans LW2_21.out hsz)
  have OW3_22 := Lib.hid (OW3_21.out.below hb LW3_21.out)
  have LW3_22 := Lib.hid (Nat.le_trans LW3_21.out hsz)
  have OV1_19 := Lib.hid (OV1_18.out.below hb LV1_18.out)
  have LV1_19 := Lib.hid (Nat.le_trans LV1_18.out hsz)
  have OV2_19 := Lib.hid (OV2_18.out.below hb LV2_18.out)
  have LV2_19 := Lib.hid (Nat.le_trans LV2_18.out hsz)
  have OV3_19 := Lib.hid (OV3_18.out.below hb LV3_18.out)
  have LV3_19 := Lib.hid (Nat.le_trans LV3_18.out hsz)
  have OU1_2 := Lib.hid (OU1_1.out.below hb LU1_1.out)
  have LU1_2 := Lib.hid (Nat.le_trans LU1_1.out hsz)
  have OU2_2 := Lib.hid (OU2_1.out.below hb LU2_1.out)
  have LU2_2 := Lib.hid (Nat.le_trans LU2_1.out hsz)
  have OU3_2 := Lib.hid (OU3_1.out.below hb LU3_1.out)
  have LU3_2 := Lib.hid (Nat.le_trans LU3_1.out hsz)
  clear OW1_21 LW1_21 OW2_21 LW2_21 OW3_21 LW3_21 OV1_18 LV1_18 OV2_18 LV2_18 OV3_18 LV3_18 OU1_1 LU1_1 OU2_1 LU2_1 OU3_1 LU3_1 HB24 hb hsz hd
  clear KA_24 KX_19
  obtain ⟨cA0, cA1, cA2, cA3⟩ := cells4 KA_25.out
  obtain ⟨cX0, cX1, cX2, cX3⟩ := cells4 KX_20.out
  go_wp2_with fail
  refine (eqIntS_any _ _ _ _ _ _ z3 z3 _ OU3_2.out.si OW3_22.out.si (by omega) (by omega)).mono ?_
  rintro e w26 ⟨rfl, hd⟩
  clear cA0 cA1 cA2 cA3 cX0 cX1 cX2 cX3
  rw [eqL_self]
  have hb : Below w25.heap.size w25 w26 := hd.below _
  have KA_26 := Lib.hid (KA_25.out.below hb KA_25.out.lt)
  have KX_21 := Lib.hid (KX_20.out.below hb KX_20.out.lt)
  clear hb
  have hb : Below w25.heap.size w25 w26 := hd.below _
  have hsz := hb.size
  have HB26 := Lib.hid (HB25.out.trans (hb.mono HB25.out.size))
  have OW1_23 := Lib.hid (OW1_22.out.below hb LW1_22.out)
  have LW1_23 := Lib.hid (Nat.le_trans LW1_22.out hsz)
  have OW2_23 := Lib.hid (OW2_22.out.below hb LW2_22.out)
  have LW2_23 := Lib.hid (Nat.le_trans LW2_22.out hsz)
  have OW3_23 := Lib.hid (OW3_22.out.below hb LW3_22.out)
  have LW3_23 := Lib.hid (Nat.le_trans LW3_22.out hsz)
  have OV1_20 := Lib.hid (OV1_19.out.below hb LV1_19.out)
  have LV1_20 := Lib.hid (Nat.le_trans LV1_19.out hsz)
  have OV2_20 := Lib.hid (OV2_19.out.below hb LV2_19.out)
  have LV2_20 := Lib.hid (Nat.le_trans LV2_19.out hsz)
  have OV3_20 := Lib.hid (OV3_19.out.below hb LV3_19.out)
  have LV3_20 := Lib.hid (Nat.le_trans LV3_19.out hsz)
  have OU1_3 := Lib.hid (OU1_2.out.below hb LU1_2.out)
  have LU1_3 := Lib.hid (Nat.le_trans LU1_2.out hsz)
  have OU2_3 := Lib.hid (OU2_2.out.below hb LU2_2.out)
  have LU2_3 := Lib.hid (Nat.le_trans LU2_2.out hsz)
  have OU3_3 := Lib.hid (OU3_2.out.below hb LU3_2.out)
  have LU3_3 := Lib.hid (Nat.le_trans LU3_2.out hsz)
  clear OW1_22 LW1_22 OW2_22 LW2_22 OW3_22 LW3_22 OV1_19 LV1_19 OV2_19 LV2_19 OV3_19 LV3_19 OU1_2 LU1_2 OU2_2 LU2_2 OU3_2 LU3_2 HB25 hb hsz hd
  clear KA_25 KX_20
  obtain ⟨cA0, cA1, cA2, cA3⟩ := cells4 KA_26.out
  obtain ⟨cX0, cX1, cX2, cX3⟩ := cells4 KX_21.out
  go_wp2_with fail
  refine (heldIntS_yes _ _ _ 1 _ OV1_20.out.si (by omega) (by omega) (by omega)).mono ?_
  rintro e w27 ⟨rfl, hd⟩
  clear cA0 cA1 cA2 cA3 cX0 cX1 cX2 cX3
  rw [← HQ1.out]
  have hb : Below w26.heap.size w26 w27 := hd.below _
  have KA_27 := Lib.hid (KA_26.out.below hb KA_26.out.lt)
  have KX_22 := Lib.hid (KX_21.out.below hb KX_21.out.lt)
  clear hb
  have hb : Below w26.heap.size w26 w27 := hd.below _
  have hsz := hb.size
  have HB27 := Lib.hid (HB26.out.trans (hb.mono HB26.out.size))
  have OW1_24 := Lib.hid (OW1_23.out.below hb LW1_23.out)
  have LW1_24 := Lib.hid (Nat.le_trans LW1_23.out hsz)
  have OW2_24 := Lib.hid (OW2_23.out.below hb LW2_23.out)
  have LW2_24 := Lib.hid (Nat.le_trans LW2_23.out hsz)
  have OW3_24 := Lib.hid (OW3_23.out.below hb LW3_23.out)
  have LW3_24 := Lib.hid (Nat.le_trans LW3_23.out hsz)
  have OV1_21 := Lib.hid (OV1_20.out.below hb LV1_20.out)
  have LV1_21 := Lib.hid (Nat.le_trans LV1_20.out hsz)
  have OV2_21 := Lib.hid (OV2_20.out.below hb LV2_20.out)
  have LV2_21 := Lib.hid (Nat.le_trans LV2_20.out hsz)
  have OV3_21 := Lib.hid (OV3_20.out.below hb LV3_20.out)
  have LV3_21 := Lib.hid (Nat.le_trans LV3_20.out hsz)
  have OU1_4 := Lib.hid (OU1_3.out.below hb LU1_3.out)
  have LU1_4 := Lib.hid (Nat.le_trans LU1_3.out hsz)
  have OU2_4 := Lib.hid (OU2_3.out.below hb LU2_3.out)
  have LU2_4 := Lib.hid (Nat.le_trans LU2_3.out hsz)
  have OU3_4 := Lib.hid (OU3_3.out.below hb LU3_3.out)
  have LU3_4 := Lib.hid (Nat.le_trans LU3_3.out hsz)
  clear OW1_23 LW1_23 OW2_23 LW2_23 OW3_23 LW3_23 OV1_20 LV1_20 OV2_20 LV2_20 OV3_20 LV3_20 OU1_3 LU1_3 OU2_3 LU2_3 OU3_3 LU3_3 HB26 hb hsz hd
  clear KA_26 KX_21
  have hq1n : ¬ q1 < 0 := by omega
  obtain ⟨cA0, cA1, cA2, cA3⟩ := cells4 KA_27.out
  obtain ⟨cX0, cX1, cX2, cX3⟩ := cells4 KX_22.out
  go_wp2_with fail
  refine (heldIntS_yes _ _ _ q1 _ OV2_21.out.si (by omega) (by omega) (by omega)).mono ?_
  rintro e w28 ⟨rfl, hd⟩
  clear cA0 cA1 cA2 cA3 cX0 cX1 cX2 cX3
  rw [← HQ2.out]
  have hb : Below w27.heap.size w27 w28 := hd.below _
  have KA_28 := Lib.hid (KA_27.out.below hb KA_27.out.lt)
  have KX_23 := Lib.hid (KX_22.out.below hb KX_22.out.lt)
  clear hb
  have hb : Below w27.heap.size w27 w28 := hd.below _
  have hsz := hb.size
  have HB28 := Lib.hid (HB27.out.trans (hb.mono HB27.out.size))
  have OW1_25 := Lib.hid (OW1_24.out.below hb LW1_24.out)
  have LW1_25 := Lib.hid (Nat.le_trans LW1_24.out hsz)
  have OW2_25 := Lib.hid (OW2_24.out.below hb LW2_24.out)
  have LW2_25 := Lib.hid (Nat.le_trans LW2_24.out hsz)
  have OW3_25 := Lib.hid (OW3_24.out.below hb LW3_24.out)
  have LW3_25 := Lib.hid (Nat.le_trans LW3_24.out hsz)
  have OV1_22 := Lib.hid (OV1_21.out.below hb LV1_21.out)
  have LV1_22 := Lib.hid (Nat.le_trans LV1_21.out hsz)
  have OV2_22 := Lib.hid (OV2_21.out.below hb LV2_21.out)
  have LV2_22 := Lib.hid (Nat.le_trans LV2_21.out hsz)
  have OV3_22 := Lib.hid (OV3_21.out.below hb LV3_21.out)
  have LV3_22 := Lib.hid (Nat.le_trans LV3_21.out hsz)
  have OU1_5 := Lib.hid (OU1_4.out.below hb LU1_4.out)
  have LU1_5 := Lib.hid (Nat.le_trans LU1_4.out hsz)
  have OU2_5 := Lib.hid (OU2_4.out.below hb LU2_4.out)
  have LU2_5 := Lib.hid (Nat.le_trans LU2_4.out hsz)
  have OU3_5 := Lib.hid (OU3_4.out.below hb LU3_4.out)
  have LU3_5 := Lib.hid (Nat.le_trans LU3_4.out hsz)
  clear OW1_24 LW1_24 OW2_24 LW2_24 OW3_24 LW3_24 OV1_21 LV1_21 OV2_21 LV2_21 OV3_21 LV3_21 OU1_4 LU1_4 OU2_4 LU2_4 OU3_4 LU3_4 HB27 hb hsz hd
  clear KA_27 KX_22
  have hq2n : ¬ q2 < 0 := by omega
  obtain ⟨cA0, cA1, cA2, cA3⟩ := cells4 KA_28.out
  obtain ⟨cX0, cX1, cX2, cX3⟩ := cells4 KX_23.out
  go_wp2_with fail
  refine (heldIntS_yes _ _ _ q2 _ OV3_22.out.si (by omega) (by omega) (by omega)).mono ?_
  rintro e w29 ⟨rfl, hd⟩
  clear cA0 cA1 cA2 cA3 cX0 cX1 cX2 cX3
  rw [← HQ3.out]
  have hb : Below w28.heap.size w28 w29 := hd.below _
  have KA_29 := Lib.hid (KA_28.out.below hb KA_28.out.lt)
  have KX_24 := Lib.hid (KX_23.out.below hb KX_23.out.lt)
  clear hb
  have hb : Below w28.heap.size w28 w29 := hd.below _
  have hsz := hb.size
  have HB29 := Lib.hid (HB28.out.trans (hb.mono HB28.out.size))
  have OW1_26 := Lib.hid (OW1_25.out.below hb LW1_25.out)
  have LW1_26 := Lib.hid (Nat.le_trans LW1_25.out hsz)
  have OW2_26 := Lib.hid (OW2_25.out.below hb LW2_25.out)
  have LW2_26 := Lib.hid (Nat.le_trans LW2_25.out hsz)
  have OW3_26 := Lib.hid (OW3_25.out.below hb LW3_25.out)
  have LW3_26 := Lib.hid (Nat.le_trans LW3_25.out hsz)
  have OV1_23 := Lib.hid (OV1_22.out.below hb LV1_22.out)
  have LV1_23 := Lib.hid (Nat.le_trans LV1_22.out hsz)
  have OV2_23 := Lib.hid (OV2_22.out.below hb LV2_22.out)
  have LV2_23 := Lib.hid (Nat.le_trans LV2_22.out hsz)
  have OV3_23 := Lib.hid (OV3_22.out.below hb LV3_22.out)
  have LV3_23 := Lib.hid (Nat.le_trans LV3_22.out hsz)
  have OU1_6 := Lib.hid (OU1_5.out.below hb LU1_5.out)
  have LU1_6 := Lib.hid (Nat.le_trans LU1_5.out hsz)
  have OU2_6 := Lib.hid (OU2_5.out.below hb LU2_5.out)
  have LU2_6 := Lib.hid (Nat.le_trans LU2_5.out hsz)
  have OU3_6 := Lib.hid (OU3_5.out.below hb LU3_5.out)
  have LU3_6 := Lib.hid (Nat.le_trans LU3_5.out hsz)
  clear OW1_25 LW1_25 OW2_25 LW2_25 OW3_25 LW3_25 OV1_22 LV1_22 OV2_22 LV2_22 OV3_22 LV3_22 OU1_5 LU1_5 OU2_5 LU2_5 OU3_5 LU3_5 HB28 hb hsz hd
  clear KA_28 KX_23
  have hq3n : ¬ q3 < 0 := by omega
  go_wp2
  go_ret
  exact ⟨rfl, HBA.out.trans (HB29.out.mono HFIN.out)⟩

set_option maxRecDepth 100000 in
theorem lifted_SidesOf (os : Os) (started : os.Started) (H : Type) (enc : TypeId × Value → H) :
    ReturnsInHanded {} Try.checked os 10 .any (Rows.fnExactSidesOfSpec.pre6 enc Try.prog Try.f10 Rows.fnExactSidesOfRow.domain false) (Rows.fnExactSidesOfSpec.post enc Try.prog Try.f10 false true false false) := by
  refine returnsInHanded_of_change (C := Try.checked) own started (by kernel_rfl) Try.func10
    (ChangeSpec.witness6 (enc := enc) (C := Try.checked) false ⟨#[], #[.agg #[.int .i64 0, .slice none 0 0, .slice none 0 0, .slice none 0 0]], []⟩ 8 (by kernel_rfl) (by kernel_rfl) (by kernel_rfl) (by kernel_rfl)) ?_
  intro W base args ds gs before hval0 hW hcnd _
  have hval : ∀ (j : Nat) t v, Try.f10.params[j]? = some t → args[j]? = some v → Value.okWide Try.prog W .any base t v := hval0
  have hW' := hW
  obtain ⟨p, q, hA0, hV, rfl, hfz, hnd⟩ := hW
  have hA : DataW.TrodAll enc Try.prog W 0 (fun _ => true) true Try.f10.params.toList args.toList ds p := hA0
  rw [Try.params10] at hA hval
  obtain ⟨v0, vs0, d0, ds0, p0, q0, hargs, rfl, rfl, h0, r0⟩ := trodAll_cons hA
  obtain ⟨rfl, rfl, rfl⟩ := trodAll_nil r0
  obtain rfl : args = #[v0] := by cases args; simp_all
  obtain ⟨rfl, rfl⟩ := trodVars_none hV
  have ok0 := hval 0 43 v0 rfl rfl
  obtain ⟨cs0, rfl, hsz0⟩ : ∃ cs : Array Value, v0 = .agg cs ∧ cs.size = 4 := by
    unfold Value.okWide at ok0
    rw [Try.underlying43] at ok0
    obtain ⟨cs, e, hz, _⟩ := ok0
    exact ⟨cs, e, by rw [hz]; kernel_rfl⟩
  clear ok0
  have k0 := h0
  have lt0 : ∀ x ∈ p0, x.block < W.heap.size := by obtain ⟨m, hm⟩ := k0; exact DataW.trod_lt m _ _ _ hm
  obtain ⟨s0, A1, A2, A3, n1, c1, n2, c2, n3, c3, y1, y2, y3, rfl, hp0, hn0⟩ := PS.of_trod hsz0 h0
  clear hA0 hval0
  refine (walk_SidesOf s0 A1 A2 A3 n1 c1 n2 c2 n3 c3 y1 y2 y3 W hp0 hn0).mono fun e W' ⟨he, bel⟩ => ?_
  subst he
  exact ⟨_, rfl, _, _, _, [], _, [], hW', trodAll_mk1 (shut_bool Try.underlying4 _), (trodAll_cons_mk (Below.trod laidOut (by kernel_rfl) (of_decide_eq_true (by kernel_rfl)) k0 bel lt0) trodAll_mk0), rfl, bel.frame _, fun h => by cases h⟩

theorem fnExactSidesOf_holds : Rows.FnExactSidesOfSaid :=
  OpenClaim.holds_of_wide 10 Try.f10 rfl rfl rfl rfl rfl rfl rfl ⟨rfl, rfl, rfl, rfl, rfl⟩ rfl rfl rfl rfl rfl (by kernel_rfl) Try.func10 (by kernel_rfl)
    (of_decide_eq_true (by kernel_rfl)) (by unfold Func.isWrapper; first | (rw [if_pos (by decide +kernel)]; kernel_rfl) | (rw [if_neg (by decide +kernel)]; exact ⟨rfl, rfl⟩))
    (fun os started H enc _ => lifted_SidesOf os started H enc)
end Go.Proofs.Ytdkcngilmdpbgaa
