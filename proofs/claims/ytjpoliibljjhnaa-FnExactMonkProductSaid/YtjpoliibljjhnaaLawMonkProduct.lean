/-
  FnExactMonkProduct: for every input the law returns true: the program's MonkProduct answers as the specification's, changes no argument, and its answer owns its memory. No conditions.
-/
import Derived.Test.YtjpoliibljjhnaaPkC2
import Derived.Test.YtjpoliibljjhnaaJoinA
import Derived.Test.YtjpoliibljjhnaaJoinB
import Derived.Test.YtjpoliibljjhnaaJoinC
namespace Go.Proofs.Ytjpoliibljjhnaa
open Go.ChangeShapes Go.WideShapes Go.ChangeAt Go.RowKit

set_option maxHeartbeats 4000000 in
theorem walk_MonkProduct (A0 : Option Addr) (n0 c0 : Nat) (xs0 : List Int) (a1 : Int) (w : World) (hs0 : SI w A0 n0 xs0) (_fit0 : Fits xs0) (_ha1 : -9223372036854775808 ≤ a1 ∧ a1 ≤ 9223372036854775807) :
    Calls Try.prog 8 #[.slice A0 n0 c0, .int .i64 a1] w fun e w' => e = .returned (.bool true) ∧ Below w.heap.size w w' := by
  by_cases hbig0 : 1048576 < n0
  · go_enter Try.func8, Try.ntmps8
    go_wp2
    go_ret
    exact ⟨rfl, Below.refl _ _⟩
  have HB0 := Lib.hid (Below.refl w.heap.size w)
  obtain ⟨bb, hbb⟩ : ∃ bb, bb = (mnkB xs0 a1) := ⟨_, rfl⟩
  have HM : Hid (smallT (mnkC xs0 a1)) := Lib.hid (mnkC_small xs0 a1)
  go_enter Try.func8, Try.ntmps8
  go_wp2_with fail
  refine (toIntS_fr _ _ _ xs0 _ (hs0.below HB0.out (Nat.le_refl _)) (by omega)).mono ?_
  rintro e w1 ⟨Ap0, np0, cp0, rfl, ho, hb⟩
  have hsz := hb.size
  have HB1 := Lib.hid (HB0.out.trans (hb.mono HB0.out.size))
  have Op0_0 := Lib.hid ho
  have Lp0_0 := Lib.hid (Nat.le_refl w1.heap.size)
  have Np0 := Lib.hid ho.len
  have Gp0 := Lib.hid HB0.out.size
  clear HB0 hb hsz ho
  have Ep0 : np0 ≤ 1099511627776 := by have := Np0.out; have := hs0.1; omega
  have Qp0 : np0 ≤ 1048576 := by have := Np0.out; have := hs0.1; omega
  go_wp2_with fail
  refine (specMonk_any _ _ _ xs0 a1 _ Op0_0.out.si Op0_0.out.cap Ep0).mono ?_
  rintro e w2 ⟨AW, nW, cW, rfl, ho, hb⟩
  rw [← hbb]
  have hsz := hb.size
  have HB2 := Lib.hid (HB1.out.trans (hb.mono HB1.out.size))
  have Op0_1 := Lib.hid (Op0_0.out.below hb Lp0_0.out)
  have Lp0_1 := Lib.hid (Nat.le_trans Lp0_0.out hsz)
  have OW_0 := Lib.hid ho
  have LW_0 := Lib.hid (Nat.le_refl w2.heap.size)
  have NW := Lib.hid ho.len
  have GW := Lib.hid HB1.out.size
  have Dp0_W : Hid (_ ≤ w1.heap.size) := Lp0_0
  clear Op0_0 Lp0_0 HB1 hb hsz ho
  have EW : nW ≤ 1099511627776 := by have h := NW.out; rw [← h]; exact HM.out.le
  have FW : Hid (∀ k, k < nW → (tm (mnkC xs0 a1) k).1.length ≤ 1099511627776) := Lib.hid (fun k _ => HM.out.lens k)
  go_wp2_with fail
  refine (toIntS_fr _ _ _ xs0 _ (hs0.below HB2.out (Nat.le_refl _)) (by omega)).mono ?_
  rintro e w3 ⟨Ax0, nx0, cx0, rfl, ho, hb⟩
  have hsz := hb.size
  have HB3 := Lib.hid (HB2.out.trans (hb.mono HB2.out.size))
  have OW_1 := Lib.hid (OW_0.out.below hb LW_0.out)
  have LW_1 := Lib.hid (Nat.le_trans LW_0.out hsz)
  have Ox0_0 := Lib.hid ho
  have Lx0_0 := Lib.hid (Nat.le_refl w3.heap.size)
  have Nx0 := Lib.hid ho.len
  have Gx0 := Lib.hid HB2.out.size
  have DW_x0 : Hid (_ ≤ w2.heap.size) := LW_0
  clear OW_0 LW_0 HB2 hb hsz ho
  have Ex0 : nx0 ≤ 1099511627776 := by have := Nx0.out; have := hs0.1; omega
  have Qx0 : nx0 ≤ 1048576 := by have := Nx0.out; have := hs0.1; omega
  go_wp2_with fail
  refine (implMonk_any _ _ _ xs0 a1 _ Ox0_0.out.si Ex0).mono ?_
  rintro e w4 ⟨AV, nV, cV, rfl, ho, hb⟩
  rw [← hbb]
  have hsz := hb.size
  have HB4 := Lib.hid (HB3.out.trans (hb.mono HB3.out.size))
  have OW_2 := Lib.hid (OW_1.out.below hb LW_1.out)
  have LW_2 := Lib.hid (Nat.le_trans LW_1.out hsz)
  have Ox0_1 := Lib.hid (Ox0_0.out.below hb Lx0_0.out)
  have Lx0_1 := Lib.hid (Nat.le_trans Lx0_0.out hsz)
  have OV_0 := Lib.hid ho
  have LV_0 := Lib.hid (Nat.le_refl w4.heap.size)
  have NV := Lib.hid ho.len
  have GV := Lib.hid HB3.out.size
  have DW_V : Hid (_ ≤ w3.heap.size) := LW_1
  have Dx0_V : Hid (_ ≤ w3.heap.size) := Lx0_0
  clear OW_1 LW_1 Ox0_0 Lx0_0 HB3 hb hsz ho
  have EV : nV ≤ 1099511627776 := by have h := NV.out; rw [← h]; exact HM.out.le
  have FV : Hid (∀ k, k < nV → (tm (mnkC xs0 a1) k).1.length ≤ 1099511627776) := Lib.hid (fun k _ => HM.out.lens k)
  go_wp2_with fail
  refine (Cls.eqTermS_anyC _ _ _ _ _ _ (mnkC xs0 a1) (mnkC xs0 a1) _ OV_0.out.si OW_2.out.si EV EW FV.out FW.out).mono ?_
  rintro e w5 ⟨rfl, hb⟩
  rw [eqTs_self]
  have hsz := hb.size
  have HB5 := Lib.hid (HB4.out.trans (hb.mono HB4.out.size))
  have OW_3 := Lib.hid (OW_2.out.below hb LW_2.out)
  have LW_3 := Lib.hid (Nat.le_trans LW_2.out hsz)
  have Ox0_2 := Lib.hid (Ox0_1.out.below hb Lx0_1.out)
  have Lx0_2 := Lib.hid (Nat.le_trans Lx0_1.out hsz)
  have OV_1 := Lib.hid (OV_0.out.below hb LV_0.out)
  have LV_1 := Lib.hid (Nat.le_trans LV_0.out hsz)
  clear OW_2 LW_2 Ox0_1 Lx0_1 OV_0 LV_0 HB4 hb hsz
  go_wp2_with fail
  refine (toIntS_fr _ _ _ xs0 _ (hs0.below HB5.out (Nat.le_refl _)) (by omega)).mono ?_
  rintro e w6 ⟨Ay0, ny0, cy0, rfl, ho, hb⟩
  have hsz := hb.size
  have HB6 := Lib.hid (HB5.out.trans (hb.mono HB5.out.size))
  have OW_4 := Lib.hid (OW_3.out.below hb LW_3.out)
  have LW_4 := Lib.hid (Nat.le_trans LW_3.out hsz)
  have Ox0_3 := Lib.hid (Ox0_2.out.below hb Lx0_2.out)
  have Lx0_3 := Lib.hid (Nat.le_trans Lx0_2.out hsz)
  have OV_2 := Lib.hid (OV_1.out.below hb LV_1.out)
  have LV_2 := Lib.hid (Nat.le_trans LV_1.out hsz)
  have Oy0_0 := Lib.hid ho
  have Ly0_0 := Lib.hid (Nat.le_refl w6.heap.size)
  have Ny0 := Lib.hid ho.len
  have Gy0 := Lib.hid HB5.out.size
  have DW_y0 : Hid (_ ≤ w5.heap.size) := LW_3
  have Dx0_y0 : Hid (_ ≤ w5.heap.size) := Lx0_2
  have DV_y0 : Hid (_ ≤ w5.heap.size) := LV_1
  clear OW_3 LW_3 Ox0_2 Lx0_2 OV_1 LV_1 HB5 hb hsz ho
  have Ey0 : ny0 ≤ 1099511627776 := by have := Ny0.out; have := hs0.1; omega
  have Qy0 : ny0 ≤ 1048576 := by have := Ny0.out; have := hs0.1; omega
  go_wp2_with fail
  refine (eqIntS_any _ _ _ _ _ _ xs0 xs0 _ Ox0_3.out.si Oy0_0.out.si Ex0 Ey0).mono ?_
  rintro e w7 ⟨rfl, hd⟩
  rw [eqL_self]
  have hb : Below w6.heap.size w6 w7 := hd.below _
  have hsz := hb.size
  have HB7 := Lib.hid (HB6.out.trans (hb.mono HB6.out.size))
  have OW_5 := Lib.hid (OW_4.out.below hb LW_4.out)
  have LW_5 := Lib.hid (Nat.le_trans LW_4.out hsz)
  have Ox0_4 := Lib.hid (Ox0_3.out.below hb Lx0_3.out)
  have Lx0_4 := Lib.hid (Nat.le_trans Lx0_3.out hsz)
  have OV_3 := Lib.hid (OV_2.out.below hb LV_2.out)
  have LV_3 := Lib.hid (Nat.le_trans LV_2.out hsz)
  have Oy0_1 := Lib.hid (Oy0_0.out.below hb Ly0_0.out)
  have Ly0_1 := Lib.hid (Nat.le_trans Ly0_0.out hsz)
  clear OW_4 LW_4 Ox0_3 Lx0_3 OV_2 LV_2 Oy0_0 Ly0_0 HB6 hb hsz hd
  go_wp2_with fail
  refine (markIntS_any _ _ _ _ _ xs0 1 _ Ox0_4.out Ex0 (by omega) (by omega)).mono ?_
  rintro e w8 ⟨rfl, ho, hg⟩
  have hw := Within.of_grown hg (fun g e => Ox0_4.out.lt g e)
  clear hg
  have hsz := hw.size
  have HB8 := Lib.hid (HB7.out.trans (hw.below Gx0.out HB7.out.size))
  have OW_6 := Lib.hid (OW_5.out.within hw (.inl DW_x0.out))
  have LW_6 := Lib.hid (Nat.le_trans LW_5.out hsz)
  have Ox0_5 := Lib.hid ho
  have Lx0_5 := Lib.hid (Nat.le_trans Lx0_4.out hsz)
  have OV_4 := Lib.hid (OV_3.out.within hw (.inr Dx0_V.out))
  have LV_4 := Lib.hid (Nat.le_trans LV_3.out hsz)
  clear OW_5 LW_5 Ox0_4 Lx0_4 OV_3 LV_3 HB7 hw hsz ho
  go_wp2_with fail
  refine (Cls.eqTermS_anyC _ _ _ _ _ _ (mnkC xs0 a1) (mnkC xs0 a1) _ OV_4.out.si OW_6.out.si EV EW FV.out FW.out).mono ?_
  rintro e w9 ⟨rfl, hb⟩
  rw [eqTs_self]
  have hsz := hb.size
  have HB9 := Lib.hid (HB8.out.trans (hb.mono HB8.out.size))
  have OW_7 := Lib.hid (OW_6.out.below hb LW_6.out)
  have LW_7 := Lib.hid (Nat.le_trans LW_6.out hsz)
  have Ox0_6 := Lib.hid (Ox0_5.out.below hb Lx0_5.out)
  have Lx0_6 := Lib.hid (Nat.le_trans Lx0_5.out hsz)
  have OV_5 := Lib.hid (OV_4.out.below hb LV_4.out)
  have LV_5 := Lib.hid (Nat.le_trans LV_4.out hsz)
  clear OW_6 LW_6 Ox0_5 Lx0_5 OV_4 LV_4 HB8 hb hsz
  go_wp2_with fail
  refine (Cls.markTermS_anyC _ _ _ _ _ (mnkC xs0 a1) 1 _ OV_5.out EV FV.out (fun k _ => HM.out.ends k)).mono ?_
  rintro e w10 ⟨rfl, ho, hw⟩
  have hsz := hw.size
  have HB10 := Lib.hid (HB9.out.trans (hw.below GV.out HB9.out.size))
  have OW_8 := Lib.hid (OW_7.out.within hw (.inl DW_V.out))
  have LW_8 := Lib.hid (Nat.le_trans LW_7.out hsz)
  have OV_6 := Lib.hid ho
  have LV_6 := Lib.hid (Nat.le_trans LV_5.out hsz)
  clear OW_7 LW_7 OV_5 LV_5 HB9 hw hsz ho
  go_wp2_with fail
  refine (Cls.heldTermS_yesC _ _ _ (mnkC xs0 a1) 1 _ OV_6.out.si EV FV.out (fun k _ => HM.out.ends k)).mono ?_
  rintro e w11 ⟨rfl, hd⟩
  have hb : Below w10.heap.size w10 w11 := hd.below _
  have hsz := hb.size
  have HB11 := Lib.hid (HB10.out.trans (hb.mono HB10.out.size))
  have OW_9 := Lib.hid (OW_8.out.below hb LW_8.out)
  have LW_9 := Lib.hid (Nat.le_trans LW_8.out hsz)
  have OV_7 := Lib.hid (OV_6.out.below hb LV_6.out)
  have LV_7 := Lib.hid (Nat.le_trans LV_6.out hsz)
  clear OW_8 LW_8 OV_6 LV_6 HB10 hb hsz hd
  have he0 := HM.out.ends (mnkC xs0 a1).length
  rw [List.take_of_length_le (Nat.le_refl _)] at he0
  obtain ⟨z, hz⟩ : ∃ z, z = endT (mnkC xs0 a1) 1 := ⟨_, rfl⟩
  have HZ := Lib.hid hz
  rw [← hz] at he0 ⊢
  have he1 : ¬ z < 0 := by omega
  clear hz
  go_wp2_with fail
  refine (toIntS_fr _ _ _ xs0 _ (hs0.below HB11.out (Nat.le_refl _)) (by omega)).mono ?_
  rintro e w12 ⟨Az0, nz0, cz0, rfl, ho, hb⟩
  have hsz := hb.size
  have HB12 := Lib.hid (HB11.out.trans (hb.mono HB11.out.size))
  have OW_10 := Lib.hid (OW_9.out.below hb LW_9.out)
  have LW_10 := Lib.hid (Nat.le_trans LW_9.out hsz)
  have OV_8 := Lib.hid (OV_7.out.below hb LV_7.out)
  have LV_8 := Lib.hid (Nat.le_trans LV_7.out hsz)
  have Oz0_0 := Lib.hid ho
  have Lz0_0 := Lib.hid (Nat.le_refl w12.heap.size)
  have Nz0 := Lib.hid ho.len
  have Gz0 := Lib.hid HB11.out.size
  have DW_z0 : Hid (_ ≤ w11.heap.size) := LW_9
  have DV_z0 : Hid (_ ≤ w11.heap.size) := LV_7
  clear OW_9 LW_9 OV_7 LV_7 HB11 hb hsz ho
  have Ez0 : nz0 ≤ 1099511627776 := by have := Nz0.out; have := hs0.1; omega
  have Qz0 : nz0 ≤ 1048576 := by have := Nz0.out; have := hs0.1; omega
  go_wp2_with fail
  refine (implMonk_any _ _ _ xs0 a1 _ Oz0_0.out.si Ez0).mono ?_
  rintro e w13 ⟨AU, nU, cU, rfl, ho, hb⟩
  rw [← hbb]
  have hsz := hb.size
  have HB13 := Lib.hid (HB12.out.trans (hb.mono HB12.out.size))
  have OW_11 := Lib.hid (OW_10.out.below hb LW_10.out)
  have LW_11 := Lib.hid (Nat.le_trans LW_10.out hsz)
  have OV_9 := Lib.hid (OV_8.out.below hb LV_8.out)
  have LV_9 := Lib.hid (Nat.le_trans LV_8.out hsz)
  have Oz0_1 := Lib.hid (Oz0_0.out.below hb Lz0_0.out)
  have Lz0_1 := Lib.hid (Nat.le_trans Lz0_0.out hsz)
  have OU_0 := Lib.hid ho
  have LU_0 := Lib.hid (Nat.le_refl w13.heap.size)
  have NU := Lib.hid ho.len
  have GU := Lib.hid HB12.out.size
  have DW_U : Hid (_ ≤ w12.heap.size) := LW_10
  have DV_U : Hid (_ ≤ w12.heap.size) := LV_8
  have Dz0_U : Hid (_ ≤ w12.heap.size) := Lz0_0
  clear OW_10 LW_10 OV_8 LV_8 Oz0_0 Lz0_0 HB12 hb hsz ho
  have EU : nU ≤ 1099511627776 := by have h := NU.out; rw [← h]; exact HM.out.le
  have FU : Hid (∀ k, k < nU → (tm (mnkC xs0 a1) k).1.length ≤ 1099511627776) := Lib.hid (fun k _ => HM.out.lens k)
  go_wp2_with fail
  refine (Cls.eqTermS_anyC _ _ _ _ _ _ (mnkC xs0 a1) (mnkC xs0 a1) _ OU_0.out.si OW_11.out.si EU EW FU.out FW.out).mono ?_
  rintro e w14 ⟨rfl, hb⟩
  rw [eqTs_self]
  have hsz := hb.size
  have HB14 := Lib.hid (HB13.out.trans (hb.mono HB13.out.size))
  have OW_12 := Lib.hid (OW_11.out.below hb LW_11.out)
  have LW_12 := Lib.hid (Nat.le_trans LW_11.out hsz)
  have OV_10 := Lib.hid (OV_9.out.below hb LV_9.out)
  have LV_10 := Lib.hid (Nat.le_trans LV_9.out hsz)
  have OU_1 := Lib.hid (OU_0.out.below hb LU_0.out)
  have LU_1 := Lib.hid (Nat.le_trans LU_0.out hsz)
  clear OW_11 LW_11 OV_9 LV_9 OU_0 LU_0 HB13 hb hsz
  go_wp2_with fail
  refine (Cls.heldTermS_yesC _ _ _ (mnkC xs0 a1) 1 _ OV_10.out.si EV FV.out (fun k _ => HM.out.ends k)).mono ?_
  rintro e w15 ⟨rfl, hd⟩
  have hb : Below w14.heap.size w14 w15 := hd.below _
  have hsz := hb.size
  have HB15 := Lib.hid (HB14.out.trans (hb.mono HB14.out.size))
  have OW_13 := Lib.hid (OW_12.out.below hb LW_12.out)
  have LW_13 := Lib.hid (Nat.le_trans LW_12.out hsz)
  have OV_11 := Lib.hid (OV_10.out.below hb LV_10.out)
  have LV_11 := Lib.hid (Nat.le_trans LV_10.out hsz)
  have OU_2 := Lib.hid (OU_1.out.below hb LU_1.out)
  have LU_2 := Lib.hid (Nat.le_trans LU_1.out hsz)
  clear OW_12 LW_12 OV_10 LV_10 OU_1 LU_1 HB14 hb hsz hd
  rw [← HZ.out]
  go_wp2
  go_ret
  exact ⟨rfl, HB15.out⟩

set_option maxRecDepth 100000 in
theorem lifted_MonkProduct (os : Os) (started : os.Started) (H : Type) (enc : TypeId × Value → H) :
    ReturnsInHanded {} Try.checked os 8 .any (Rows.fnExactMonkProductSpec.pre6 enc Try.prog Try.f8 Rows.fnExactMonkProductRow.domain false) (Rows.fnExactMonkProductSpec.post enc Try.prog Try.f8 false true false false) := by
  refine returnsInHanded_of_change (C := Try.checked) own started (by kernel_rfl) Try.func8
    (ChangeSpec.witness6 (enc := enc) (C := Try.checked) false ⟨#[], #[.slice none 0 0, .int .i64 0], []⟩ 8 (by kernel_rfl) (by kernel_rfl) (by kernel_rfl) (by kernel_rfl)) ?_
  intro W base args ds gs before hval0 hW hcnd _
  have hval : ∀ (j : Nat) t v, Try.f8.params[j]? = some t → args[j]? = some v → Value.okWide Try.prog W .any base t v := hval0
  have hW' := hW
  obtain ⟨p, q, hA0, hV, rfl, hfz, hnd⟩ := hW
  have hA : DataW.TrodAll enc Try.prog W 0 (fun _ => true) true Try.f8.params.toList args.toList ds p := hA0
  rw [Try.params8] at hA hval
  obtain ⟨v0, vs0, d0, ds0, p0, q0, hargs, rfl, rfl, h0, r0⟩ := trodAll_cons hA
  obtain ⟨v1, vs1, d1, ds1, p1, q1, rfl, rfl, rfl, h1, r1⟩ := trodAll_cons r0
  obtain ⟨rfl, rfl, rfl⟩ := trodAll_nil r1
  obtain rfl : args = #[v0, v1] := by cases args; simp_all
  obtain ⟨rfl, rfl⟩ := trodVars_none hV
  obtain ⟨b0, len0, cap0, rfl⟩ := okWide_slice Try.underlying22 (hval 0 22 v0 rfl rfl)
  have k0 := h0
  have lt0 : ∀ x ∈ p0, x.block < W.heap.size := by obtain ⟨m, hm⟩ := k0; exact DataW.trod_lt m _ _ _ hm
  obtain ⟨xs0, s0, fit0⟩ := SI.of_trod h0
  obtain ⟨a1, rfl, rfl, rfl, wf1⟩ := open_int Try.underlying3 (hval 1 3 v1 rfl rfl) h1
  have hb1 : -9223372036854775808 ≤ a1 ∧ a1 ≤ 9223372036854775807 := by have := bounds_i64 wf1; omega
  clear hA0 hval0
  refine (walk_MonkProduct b0 len0 cap0 xs0 a1 W s0 fit0 hb1).mono fun e W' ⟨he, bel⟩ => ?_
  subst he
  exact ⟨_, rfl, _, _, _, [], _, [], hW', trodAll_mk1 (shut_bool Try.underlying4 _), (trodAll_cons_mk (Below.trod laidOut (by kernel_rfl) (of_decide_eq_true (by kernel_rfl)) k0 bel lt0) (trodAll_cons_mk (shut_int Try.underlying3 wf1) trodAll_mk0)), rfl, bel.frame _, fun h => by cases h⟩

theorem fnExactMonkProduct_holds : Rows.FnExactMonkProductSaid :=
  OpenClaim.holds_of_wide 8 Try.f8 rfl rfl rfl rfl rfl rfl rfl ⟨rfl, rfl, rfl, rfl, rfl⟩ rfl rfl rfl rfl rfl (by kernel_rfl) Try.func8 (by unfold joinedFacts; rw [mayEnter_ok, liftsFinal_ok, make_ok]; kernel_rfl)
    (of_decide_eq_true (by kernel_rfl)) (by unfold Func.isWrapper; first | (rw [if_pos (by decide +kernel)]; kernel_rfl) | (rw [if_neg (by decide +kernel)]; exact ⟨rfl, rfl⟩))
    (fun os started H enc _ => lifted_MonkProduct os started H enc)
end Go.Proofs.Ytjpoliibljjhnaa
