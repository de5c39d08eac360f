/-
  FnExactDreamPerm: for every input the law returns true: the program's DreamPerm answers as the specification's, changes no argument, and its answer owns its memory. No conditions.
-/
import Derived.Test.YtdiiaallklkomaaPkB2
namespace Go.Proofs.Ytdiiaallklkomaa
open Go.ChangeShapes Go.WideShapes Go.ChangeAt Go.RowKit

set_option maxHeartbeats 4000000 in
theorem walk_DreamPerm (a0 : Int) (A1 : Option Addr) (n1 c1 : Nat) (cs1 : List Ce) (w : World) (_ha0 : -9223372036854775808 ≤ a0 ∧ a0 ≤ 9223372036854775807) (hs1 : CS w A1 n1 cs1) (hn1 : n1 ≤ 9223372036854775807) (hfx1 : FitC cs1) :
    Calls Try.prog 5 #[.int .i64 a0, .slice A1 n1 c1] w fun e w' => e = .returned (.bool true) ∧ Below w.heap.size w w' := by
  by_cases hbig1 : 1048576 < n1
  · go_enter Try.func5, Try.ntmps5
    go_wp2_with (go_at_call 17; (with_reducible refine (szCellS_big _ _ _ _ hn1 hbig1).mono ?_); rintro e wq ⟨rfl, rfl⟩)
    go_ret
    exact ⟨rfl, Below.refl _ _⟩
  have HB0 := Lib.hid (Below.refl w.heap.size w)
  obtain ⟨bb, hbb⟩ : ∃ bb, bb = (dpB a0 cs1) := ⟨_, rfl⟩
  have HM : Hid ((dpL a0 cs1).length ≤ 1099511627775) := Lib.hid (dpL_small _ _)
  go_enter Try.func5, Try.ntmps5
  go_wp2_with fail
  refine (szCellS_ok _ _ _ _ (by omega)).mono ?_
  rintro e wq ⟨rfl, rfl⟩
  obtain ⟨r1, hr1⟩ : ∃ r : Int, r = 1048576 - (n1 : Int) := ⟨_, rfl⟩
  rw [← hr1]
  have hr1n : ¬ r1 < 0 := by omega
  clear hr1
  go_wp2_with fail
  refine (toCellS_any _ _ _ cs1 _ (hs1.below HB0.out (Nat.le_refl _)) (by omega)).mono ?_
  rintro e w1 ⟨Ap1, np1, cp1, rfl, ho, hb⟩
  have hsz := hb.size
  have HB1 := Lib.hid (HB0.out.trans (hb.mono HB0.out.size))
  have Op1_0 := Lib.hid ho
  have Lp1_0 := Lib.hid (Nat.le_refl w1.heap.size)
  have Np1 := Lib.hid ho.len
  have Gp1 := Lib.hid HB0.out.size
  clear HB0 hb hsz ho
  have Ep1 : np1 ≤ 1099511627776 := by have := Np1.out; have := hs1.1; omega
  go_wp2_with fail
  refine (specDreamPerm_any a0 _ _ _ cs1 _ Op1_0.out.si Ep1).mono ?_
  rintro e w2 ⟨AW, nW, cW, rfl, ho, hb⟩
  rw [← hbb]
  have hsz := hb.size
  have HB2 := Lib.hid (HB1.out.trans (hb.mono HB1.out.size))
  have Op1_1 := Lib.hid (Op1_0.out.below hb Lp1_0.out)
  have Lp1_1 := Lib.hid (Nat.le_trans Lp1_0.out hsz)
  have OW_0 := Lib.hid ho
  have LW_0 := Lib.hid (Nat.le_refl w2.heap.size)
  have NW := Lib.hid ho.len
  have GW := Lib.hid HB1.out.size
  have Dp1_W : Hid (_ ≤ w1.heap.size) := Lp1_0
  clear Op1_0 Lp1_0 HB1 hb hsz ho
  have EW : nW ≤ 1099511627776 := by have h := NW.out; rw [← h]; exact Nat.le_trans HM.out (by decide)
  go_wp2_with fail
  refine (toCellS_any _ _ _ cs1 _ (hs1.below HB2.out (Nat.le_refl _)) (by omega)).mono ?_
  rintro e w3 ⟨Ax1, nx1, cx1, rfl, ho, hb⟩
  have hsz := hb.size
  have HB3 := Lib.hid (HB2.out.trans (hb.mono HB2.out.size))
  have OW_1 := Lib.hid (OW_0.out.below hb LW_0.out)
  have LW_1 := Lib.hid (Nat.le_trans LW_0.out hsz)
  have Ox1_0 := Lib.hid ho
  have Lx1_0 := Lib.hid (Nat.le_refl w3.heap.size)
  have Nx1 := Lib.hid ho.len
  have Gx1 := Lib.hid HB2.out.size
  have DW_x1 : Hid (_ ≤ w2.heap.size) := LW_0
  clear OW_0 LW_0 HB2 hb hsz ho
  have Ex1 : nx1 ≤ 1099511627776 := by have := Nx1.out; have := hs1.1; omega
  go_wp2_with fail
  refine (implDreamPerm_any a0 _ _ _ cs1 _ Ox1_0.out.si Ex1 hfx1 Ox1_0.out.cap0).mono ?_
  rintro e w4 ⟨AV, nV, cV, rfl, ho, hb⟩
  rw [← hbb]
  have hsz := hb.size
  have HB4 := Lib.hid (HB3.out.trans (hb.mono HB3.out.size))
  have OW_2 := Lib.hid (OW_1.out.below hb LW_1.out)
  have LW_2 := Lib.hid (Nat.le_trans LW_1.out hsz)
  have Ox1_1 := Lib.hid (Ox1_0.out.below hb Lx1_0.out)
  have Lx1_1 := Lib.hid (Nat.le_trans Lx1_0.out hsz)
  have OV_0 := Lib.hid ho
  have LV_0 := Lib.hid (Nat.le_refl w4.heap.size)
  have NV := Lib.hid ho.len
  have GV := Lib.hid HB3.out.size
  have DW_V : Hid (_ ≤ w3.heap.size) := LW_1
  have Dx1_V : Hid (_ ≤ w3.heap.size) := Lx1_0
  clear OW_1 LW_1 Ox1_0 Lx1_0 HB3 hb hsz ho
  have EV : nV ≤ 1099511627776 := by have h := NV.out; rw [← h]; exact Nat.le_trans HM.out (by decide)
  go_wp2_with fail
  refine (eqIntS_any _ _ _ _ _ _ (dpL a0 cs1) (dpL a0 cs1) _ OV_0.out.si OW_2.out.si EV EW).mono ?_
  rintro e w5 ⟨rfl, hd⟩
  rw [eqL_self]
  have hb : Below w4.heap.size w4 w5 := hd.below _
  have hsz := hb.size
  have HB5 := Lib.hid (HB4.out.trans (hb.mono HB4.out.size))
  have OW_3 := Lib.hid (OW_2.out.below hb LW_2.out)
  have LW_3 := Lib.hid (Nat.le_trans LW_2.out hsz)
  have Ox1_2 := Lib.hid (Ox1_1.out.below hb Lx1_1.out)
  have Lx1_2 := Lib.hid (Nat.le_trans Lx1_1.out hsz)
  have OV_1 := Lib.hid (OV_0.out.below hb LV_0.out)
  have LV_1 := Lib.hid (Nat.le_trans LV_0.out hsz)
  clear OW_2 LW_2 Ox1_1 Lx1_1 OV_0 LV_0 HB4 hb hsz hd
  go_wp2_with fail
  refine (toCellS_any _ _ _ cs1 _ (hs1.below HB5.out (Nat.le_refl _)) (by omega)).mono ?_
  rintro e w6 ⟨Ay1, ny1, cy1, rfl, ho, hb⟩
  have hsz := hb.size
  have HB6 := Lib.hid (HB5.out.trans (hb.mono HB5.out.size))
  have OW_4 := Lib.hid (OW_3.out.below hb LW_3.out)
  have LW_4 := Lib.hid (Nat.le_trans LW_3.out hsz)
  have Ox1_3 := Lib.hid (Ox1_2.out.below hb Lx1_2.out)
  have Lx1_3 := Lib.hid (Nat.le_trans Lx1_2.out hsz)
  have OV_2 := Lib.hid (OV_1.out.below hb LV_1.out)
  have LV_2 := Lib.hid (Nat.le_trans LV_1.out hsz)
  have Oy1_0 := Lib.hid ho
  have Ly1_0 := Lib.hid (Nat.le_refl w6.heap.size)
  have Ny1 := Lib.hid ho.len
  have Gy1 := Lib.hid HB5.out.size
  have DW_y1 : Hid (_ ≤ w5.heap.size) := LW_3
  have Dx1_y1 : Hid (_ ≤ w5.heap.size) := Lx1_2
  have DV_y1 : Hid (_ ≤ w5.heap.size) := LV_1
  clear OW_3 LW_3 Ox1_2 Lx1_2 OV_1 LV_1 HB5 hb hsz ho
  have Ey1 : ny1 ≤ 1099511627776 := by have := Ny1.out; have := hs1.1; omega
  go_wp2_with fail
  refine (eqCellS_any _ _ _ _ _ _ cs1 cs1 _ Ox1_3.out.si Oy1_0.out.si Ex1 Ey1).mono ?_
  rintro e w7 ⟨rfl, hb⟩
  rw [eqCs_self]
  have hsz := hb.size
  have HB7 := Lib.hid (HB6.out.trans (hb.mono HB6.out.size))
  have OW_5 := Lib.hid (OW_4.out.below hb LW_4.out)
  have LW_5 := Lib.hid (Nat.le_trans LW_4.out hsz)
  have Ox1_4 := Lib.hid (Ox1_3.out.below hb Lx1_3.out)
  have Lx1_4 := Lib.hid (Nat.le_trans Lx1_3.out hsz)
  have OV_3 := Lib.hid (OV_2.out.below hb LV_2.out)
  have LV_3 := Lib.hid (Nat.le_trans LV_2.out hsz)
  have Oy1_1 := Lib.hid (Oy1_0.out.below hb Ly1_0.out)
  have Ly1_1 := Lib.hid (Nat.le_trans Ly1_0.out hsz)
  clear OW_4 LW_4 Ox1_3 Lx1_3 OV_2 LV_2 Oy1_0 Ly1_0 HB6 hb hsz
  go_wp2_with fail
  refine (markCellS_any _ _ _ _ _ cs1 1 _ Ox1_4.out Ex1 (by omega) (by omega)).mono ?_
  rintro e w8 ⟨rfl, ho, hw⟩
  have hsz := hw.size
  have HB8 := Lib.hid (HB7.out.trans (hw.below Gx1.out HB7.out.size))
  have OW_6 := Lib.hid (OW_5.out.within hw (.inl DW_x1.out))
  have LW_6 := Lib.hid (Nat.le_trans LW_5.out hsz)
  have Ox1_5 := Lib.hid ho
  have Lx1_5 := Lib.hid (Nat.le_trans Lx1_4.out hsz)
  have OV_4 := Lib.hid (OV_3.out.within hw (.inr Dx1_V.out))
  have LV_4 := Lib.hid (Nat.le_trans LV_3.out hsz)
  clear OW_5 LW_5 Ox1_4 Lx1_4 OV_3 LV_3 HB7 hw hsz ho
  obtain ⟨y1, hy1⟩ : ∃ y : Int, y = 1 + 2 * (nx1 : Int) := ⟨_, rfl⟩
  rw [← hy1]
  have hyn1 : ¬ y1 < 0 := by omega
  clear hy1
  go_wp2_with fail
  refine (eqIntS_any _ _ _ _ _ _ (dpL a0 cs1) (dpL a0 cs1) _ OV_4.out.si OW_6.out.si EV EW).mono ?_
  rintro e w9 ⟨rfl, hd⟩
  rw [eqL_self]
  have hb : Below w8.heap.size w8 w9 := hd.below _
  have hsz := hb.size
  have HB9 := Lib.hid (HB8.out.trans (hb.mono HB8.out.size))
  have OW_7 := Lib.hid (OW_6.out.below hb LW_6.out)
  have LW_7 := Lib.hid (Nat.le_trans LW_6.out hsz)
  have Ox1_6 := Lib.hid (Ox1_5.out.below hb Lx1_5.out)
  have Lx1_6 := Lib.hid (Nat.le_trans Lx1_5.out hsz)
  have OV_5 := Lib.hid (OV_4.out.below hb LV_4.out)
  have LV_5 := Lib.hid (Nat.le_trans LV_4.out hsz)
  clear OW_6 LW_6 Ox1_5 Lx1_5 OV_4 LV_4 HB8 hb hsz hd
  go_wp2_with fail
  refine (markIntS_any _ _ _ _ _ (dpL a0 cs1) 1 _ OV_5.out EV (by omega) (by omega)).mono ?_
  rintro e w10 ⟨rfl, ho, hg⟩
  have hsz := hg.size
  have HB10 := Lib.hid (HB9.out.trans (OV_5.out.mark_below hg HB9.out.size GV.out))
  have OW_8 := Lib.hid (OW_7.out.apart OV_5.out hg (.inl DW_V.out))
  have LW_8 := Lib.hid (Nat.le_trans LW_7.out hsz)
  have OV_6 := Lib.hid ho
  have LV_6 := Lib.hid (Nat.le_trans LV_5.out hsz)
  clear OW_7 LW_7 OV_5 LV_5 HB9 hg hsz ho
  go_wp2_with fail
  refine (heldIntS_yes _ _ _ 1 _ OV_6.out.si EV (by omega) (by omega)).mono ?_
  rintro e w11 ⟨rfl, hd⟩
  have hb : Below w10.heap.size w10 w11 := hd.below _
  have hsz := hb.size
  have HB11 := Lib.hid (HB10.out.trans (hb.mono HB10.out.size))
  have OW_9 := Lib.hid (OW_8.out.below hb LW_8.out)
  have LW_9 := Lib.hid (Nat.le_trans LW_8.out hsz)
  have OV_7 := Lib.hid (OV_6.out.below hb LV_6.out)
  have LV_7 := Lib.hid (Nat.le_trans LV_6.out hsz)
  clear OW_8 LW_8 OV_6 LV_6 HB10 hb hsz hd
  go_wp2_with fail
  refine (toCellS_any _ _ _ cs1 _ (hs1.below HB11.out (Nat.le_refl _)) (by omega)).mono ?_
  rintro e w12 ⟨Az1, nz1, cz1, rfl, ho, hb⟩
  have hsz := hb.size
  have HB12 := Lib.hid (HB11.out.trans (hb.mono HB11.out.size))
  have OW_10 := Lib.hid (OW_9.out.below hb LW_9.out)
  have LW_10 := Lib.hid (Nat.le_trans LW_9.out hsz)
  have OV_8 := Lib.hid (OV_7.out.below hb LV_7.out)
  have LV_8 := Lib.hid (Nat.le_trans LV_7.out hsz)
  have Oz1_0 := Lib.hid ho
  have Lz1_0 := Lib.hid (Nat.le_refl w12.heap.size)
  have Nz1 := Lib.hid ho.len
  have Gz1 := Lib.hid HB11.out.size
  have DW_z1 : Hid (_ ≤ w11.heap.size) := LW_9
  have DV_z1 : Hid (_ ≤ w11.heap.size) := LV_7
  clear OW_9 LW_9 OV_7 LV_7 HB11 hb hsz ho
  have Ez1 : nz1 ≤ 1099511627776 := by have := Nz1.out; have := hs1.1; omega
  go_wp2_with fail
  refine (implDreamPerm_any a0 _ _ _ cs1 _ Oz1_0.out.si Ez1 hfx1 Oz1_0.out.cap0).mono ?_
  rintro e w13 ⟨AU, nU, cU, rfl, ho, hb⟩
  rw [← hbb]
  have hsz := hb.size
  have HB13 := Lib.hid (HB12.out.trans (hb.mono HB12.out.size))
  have OW_11 := Lib.hid (OW_10.out.below hb LW_10.out)
  have LW_11 := Lib.hid (Nat.le_trans LW_10.out hsz)
  have OV_9 := Lib.hid (OV_8.out.below hb LV_8.out)
  have LV_9 := Lib.hid (Nat.le_trans LV_8.out hsz)
  have Oz1_1 := Lib.hid (Oz1_0.out.below hb Lz1_0.out)
  have Lz1_1 := Lib.hid (Nat.le_trans Lz1_0.out hsz)
  have OU_0 := Lib.hid ho
  have LU_0 := Lib.hid (Nat.le_refl w13.heap.size)
  have NU := Lib.hid ho.len
  have GU := Lib.hid HB12.out.size
  have DW_U : Hid (_ ≤ w12.heap.size) := LW_10
  have DV_U : Hid (_ ≤ w12.heap.size) := LV_8
  have Dz1_U : Hid (_ ≤ w12.heap.size) := Lz1_0
  clear OW_10 LW_10 OV_8 LV_8 Oz1_0 Lz1_0 HB12 hb hsz ho
  have EU : nU ≤ 1099511627776 := by have h := NU.out; rw [← h]; exact Nat.le_trans HM.out (by decide)
  go_wp2_with fail
  refine (eqIntS_any _ _ _ _ _ _ (dpL a0 cs1) (dpL a0 cs1) _ OU_0.out.si OW_11.out.si EU EW).mono ?_
  rintro e w14 ⟨rfl, hd⟩
  rw [eqL_self]
  have hb : Below w13.heap.size w13 w14 := hd.below _
  have hsz := hb.size
  have HB14 := Lib.hid (HB13.out.trans (hb.mono HB13.out.size))
  have OW_12 := Lib.hid (OW_11.out.below hb LW_11.out)
  have LW_12 := Lib.hid (Nat.le_trans LW_11.out hsz)
  have OV_10 := Lib.hid (OV_9.out.below hb LV_9.out)
  have LV_10 := Lib.hid (Nat.le_trans LV_9.out hsz)
  have OU_1 := Lib.hid (OU_0.out.below hb LU_0.out)
  have LU_1 := Lib.hid (Nat.le_trans LU_0.out hsz)
  clear OW_11 LW_11 OV_9 LV_9 OU_0 LU_0 HB13 hb hsz hd
  go_wp2_with fail
  refine (heldIntS_yes _ _ _ 1 _ OV_10.out.si EV (by omega) (by omega)).mono ?_
  rintro e w15 ⟨rfl, hd⟩
  have hb : Below w14.heap.size w14 w15 := hd.below _
  have hsz := hb.size
  have HB15 := Lib.hid (HB14.out.trans (hb.mono HB14.out.size))
  have OW_13 := Lib.hid (OW_12.out.below hb LW_12.out)
  have LW_13 := Lib.hid (Nat.le_trans LW_12.out hsz)
  have OV_11 := Lib.hid (OV_10.out.below hb LV_10.out)
  have LV_11 := Lib.hid (Nat.le_trans LV_10.out hsz)
  have OU_2 := Lib.hid (OU_1.out.below hb LU_1.out)
  have LU_2 := Lib.hid (Nat.le_trans LU_1.out hsz)
  clear OW_12 LW_12 OV_10 LV_10 OU_1 LU_1 HB14 hb hsz hd
  go_wp2
  go_ret
  exact ⟨rfl, HB15.out⟩

set_option maxRecDepth 100000 in
theorem lifted_DreamPerm (os : Os) (started : os.Started) (H : Type) (enc : TypeId × Value → H) :
    ReturnsInHanded {} Try.checked os 5 .any (Rows.fnExactDreamPermSpec.pre6 enc Try.prog Try.f5 Rows.fnExactDreamPermRow.domain false) (Rows.fnExactDreamPermSpec.post enc Try.prog Try.f5 false true false false) := by
  refine returnsInHanded_of_change (C := Try.checked) own started (by kernel_rfl) Try.func5
    (ChangeSpec.witness6 (enc := enc) (C := Try.checked) false ⟨#[], #[.int .i64 0, .slice none 0 0], []⟩ 8 (by kernel_rfl) (by kernel_rfl) (by kernel_rfl) (by kernel_rfl)) ?_
  intro W base args ds gs before hval0 hW hcnd _
  have hval : ∀ (j : Nat) t v, Try.f5.params[j]? = some t → args[j]? = some v → Value.okWide Try.prog W .any base t v := hval0
  have hW' := hW
  obtain ⟨p, q, hA0, hV, rfl, hfz, hnd⟩ := hW
  have hA : DataW.TrodAll enc Try.prog W 0 (fun _ => true) true Try.f5.params.toList args.toList ds p := hA0
  rw [Try.params5] at hA hval
  obtain ⟨v0, vs0, d0, ds0, p0, q0, hargs, rfl, rfl, h0, r0⟩ := trodAll_cons hA
  obtain ⟨v1, vs1, d1, ds1, p1, q1, rfl, rfl, rfl, h1, r1⟩ := trodAll_cons r0
  obtain ⟨rfl, rfl, rfl⟩ := trodAll_nil r1
  obtain rfl : args = #[v0, v1] := by cases args; simp_all
  obtain ⟨rfl, rfl⟩ := trodVars_none hV
  obtain ⟨a0, rfl, rfl, rfl, wf0⟩ := open_int Try.underlying3 (hval 0 3 v0 rfl rfl) h0
  have hb0 : -9223372036854775808 ≤ a0 ∧ a0 ≤ 9223372036854775807 := by have := bounds_i64 wf0; omega
  obtain ⟨b1, len1, cap1, rfl⟩ := okWide_slice Try.underlying33 (hval 1 33 v1 rfl rfl)
  have k1 := h1
  have lt1 : ∀ x ∈ p1, x.block < W.heap.size := by obtain ⟨m, hm⟩ := k1; exact DataW.trod_lt m _ _ _ hm
  obtain ⟨cs1, s1, hn1, hfx1⟩ := CS.of_trod h1
  clear hA0 hval0
  refine (walk_DreamPerm a0 b1 len1 cap1 cs1 W hb0 s1 hn1 hfx1).mono fun e W' ⟨he, bel⟩ => ?_
  subst he
  exact ⟨_, rfl, _, _, _, [], _, [], hW', trodAll_mk1 (shut_bool Try.underlying4 _), (trodAll_cons_mk (shut_int Try.underlying3 wf0) (trodAll_cons_mk (Below.trod laidOut (by kernel_rfl) (of_decide_eq_true (by kernel_rfl)) k1 bel lt1) trodAll_mk0)), rfl, bel.frame _, fun h => by cases h⟩

theorem fnExactDreamPerm_holds : Rows.FnExactDreamPermSaid :=
  OpenClaim.holds_of_wide 5 Try.f5 rfl rfl rfl rfl rfl rfl rfl ⟨rfl, rfl, rfl, rfl, rfl⟩ rfl rfl rfl rfl rfl (by kernel_rfl) Try.func5 (by kernel_rfl)
    (of_decide_eq_true (by kernel_rfl)) (by unfold Func.isWrapper; first | (rw [if_pos (by decide +kernel)]; kernel_rfl) | (rw [if_neg (by decide +kernel)]; exact ⟨rfl, rfl⟩))
    (fun os started H enc _ => lifted_DreamPerm os started H enc)
end Go.Proofs.Ytdiiaallklkomaa
