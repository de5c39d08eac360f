/-
  FnExactMulPolys: for every input the law returns true: the program's MulPolys answers as the specification's, changes no argument, and its answer owns its memory. No conditions.
-/
import Derived.Test.YtmndchhbafkbeaaPkA3
namespace Go.Proofs.Ytmndchhbafkbeaa
open Go.ChangeShapes Go.WideShapes Go.ChangeAt Go.RowKit

set_option maxHeartbeats 4000000 in
theorem walk_MulPolys (A0 : Option Addr) (n0 c0 : Nat) (ts0 : List Tm) (A1 : Option Addr) (n1 c1 : Nat) (ts1 : List Tm) (w : World) (hs0 : TS w A0 n0 ts0) (hn0 : n0 ≤ 9223372036854775807) (hne0 : ∀ k, k < n0 → (tm ts0 k).1.length ≤ 9223372036854775807) (hs1 : TS w A1 n1 ts1) (hn1 : n1 ≤ 9223372036854775807) (hne1 : ∀ k, k < n1 → (tm ts1 k).1.length ≤ 9223372036854775807) :
    Calls Try.prog 8 #[.slice A0 n0 c0, .slice A1 n1 c1] w fun e w' => e = .returned (.bool true) ∧ Below w.heap.size w w' := by
  have HB0 := Lib.hid (Below.refl w.heap.size w)
  obtain ⟨bb, hbb⟩ : ∃ bb, bb = (outB (mulOk ts0 ts1) (muP ts0 ts1)) := ⟨_, rfl⟩
  have HM : Hid (smallT (outL (mulOk ts0 ts1) (muP ts0 ts1))) := Lib.hid (outL_small _ _)
  go_enter Try.func8, Try.ntmps8
  go_wp2_with fail
  refine (szTermS_from _ _ _ ts0 1048576 _ (hs0.below HB0.out (Nat.le_refl _)) hn0 hne0 (by omega) (by omega)).mono ?_
  rintro e w1 ⟨⟨r0, rfl, hr⟩, hb⟩
  have hsz := hb.size
  have HB1 := Lib.hid (HB0.out.trans (hb.mono HB0.out.size))
  clear HB0 hb hsz
  rcases hr with hr | ⟨hr0, hrb, hsm, hsl, htot⟩
  · go_wp2
    go_ret
    exact ⟨rfl, HB1.out⟩
  have hr0 : ¬ r0 < 0 := by omega
  have HR0 := Lib.hid (And.intro hr0 hrb)
  have SM0 := Lib.hid (And.intro hsm hsl)
  have HT0 := Lib.hid htot
  clear hr0 hrb hsm hsl htot
  go_wp2_with fail
  refine (szTermS_from _ _ _ ts1 r0 _ (hs1.below HB1.out (Nat.le_refl _)) hn1 hne1 HR0.out.1 HR0.out.2).mono ?_
  rintro e w2 ⟨⟨r1, rfl, hr⟩, hb⟩
  have hsz := hb.size
  have HB2 := Lib.hid (HB1.out.trans (hb.mono HB1.out.size))
  clear HB1 hb hsz
  rcases hr with hr | ⟨hr0, hrb, hsm, hsl, htot⟩
  · go_wp2
    go_ret
    exact ⟨rfl, HB2.out⟩
  have hr1 : ¬ r1 < 0 := by omega
  have HR1 := Lib.hid (And.intro hr0 hrb)
  have SM1 := Lib.hid (And.intro hsm hsl)
  have HT1 := Lib.hid htot
  clear hr0 hrb hsm hsl htot
  go_wp2_with fail
  refine (toTermS_any _ _ _ ts0 _ (hs0.below HB2.out (Nat.le_refl _)) (by have := SM0.out.1; omega) (fun k hk => Nat.le_trans (SM0.out.2 k hk) (by decide))).mono ?_
  rintro e w3 ⟨Ap0, np0, cp0, rfl, ho, hb⟩
  have hsz := hb.size
  have HB3 := Lib.hid (HB2.out.trans (hb.mono HB2.out.size))
  have Op0_0 := Lib.hid ho
  have Lp0_0 := Lib.hid (Nat.le_refl w3.heap.size)
  have Np0 := Lib.hid ho.len
  have Gp0 := Lib.hid HB2.out.size
  clear HB2 hb hsz ho
  have Ep0 : np0 ≤ 1099511627776 := by have := Np0.out; have := hs0.1; have := SM0.out.1; omega
  have Fp0 : Hid (∀ k, k < np0 → (tm ts0 k).1.length ≤ 1099511627776) := Lib.hid (fun k hk => Nat.le_trans (SM0.out.2 k (by have := Np0.out; have := hs0.1; omega)) (by decide))
  go_wp2_with fail
  refine (toTermS_any _ _ _ ts1 _ (hs1.below HB3.out (Nat.le_refl _)) (by have := SM1.out.1; omega) (fun k hk => Nat.le_trans (SM1.out.2 k hk) (by decide))).mono ?_
  rintro e w4 ⟨Ap1, np1, cp1, rfl, ho, hb⟩
  have hsz := hb.size
  have HB4 := Lib.hid (HB3.out.trans (hb.mono HB3.out.size))
  have Op0_1 := Lib.hid (Op0_0.out.below hb Lp0_0.out)
  have Lp0_1 := Lib.hid (Nat.le_trans Lp0_0.out hsz)
  have Op1_0 := Lib.hid ho
  have Lp1_0 := Lib.hid (Nat.le_refl w4.heap.size)
  have Np1 := Lib.hid ho.len
  have Gp1 := Lib.hid HB3.out.size
  have Dp0_p1 : Hid (_ ≤ w3.heap.size) := Lp0_0
  clear Op0_0 Lp0_0 HB3 hb hsz ho
  have Ep1 : np1 ≤ 1099511627776 := by have := Np1.out; have := hs1.1; have := SM1.out.1; omega
  have Fp1 : Hid (∀ k, k < np1 → (tm ts1 k).1.length ≤ 1099511627776) := Lib.hid (fun k hk => Nat.le_trans (SM1.out.2 k (by have := Np1.out; have := hs1.1; omega)) (by decide))
  go_wp2_with fail
  refine (specMulPolys_any _ _ _ ts0 _ _ _ ts1 _ Op0_1.out.si Op1_0.out.si Ep0 Fp0.out Ep1 Fp1.out).mono ?_
  rintro e w5 ⟨AW, nW, cW, rfl, ho, hb⟩
  rw [← hbb]
  have hsz := hb.size
  have HB5 := Lib.hid (HB4.out.trans (hb.mono HB4.out.size))
  have Op0_2 := Lib.hid (Op0_1.out.below hb Lp0_1.out)
  have Lp0_2 := Lib.hid (Nat.le_trans Lp0_1.out hsz)
  have Op1_1 := Lib.hid (Op1_0.out.below hb Lp1_0.out)
  have Lp1_1 := Lib.hid (Nat.le_trans Lp1_0.out hsz)
  have OW_0 := Lib.hid ho
  have LW_0 := Lib.hid (Nat.le_refl w5.heap.size)
  have NW := Lib.hid ho.len
  have GW := Lib.hid HB4.out.size
  have Dp0_W : Hid (_ ≤ w4.heap.size) := Lp0_1
  have Dp1_W : Hid (_ ≤ w4.heap.size) := Lp1_0
  clear Op0_1 Lp0_1 Op1_0 Lp1_0 HB4 hb hsz ho
  have EW : nW ≤ 1099511627776 := by have h := NW.out; rw [← h]; exact HM.out.le
  have FW : Hid (∀ k, k < nW → (tm (outL (mulOk ts0 ts1) (muP ts0 ts1)) k).1.length ≤ 1099511627776) := Lib.hid (fun k _ => HM.out.lens k)
  go_wp2_with fail
  refine (toTermS_any _ _ _ ts0 _ (hs0.below HB5.out (Nat.le_refl _)) (by have := SM0.out.1; omega) (fun k hk => Nat.le_trans (SM0.out.2 k hk) (by decide))).mono ?_
  rintro e w6 ⟨Ax0, nx0, cx0, rfl, ho, hb⟩
  have hsz := hb.size
  have HB6 := Lib.hid (HB5.out.trans (hb.mono HB5.out.size))
  have OW_1 := Lib.hid (OW_0.out.below hb LW_0.out)
  have LW_1 := Lib.hid (Nat.le_trans LW_0.out hsz)
  have Ox0_0 := Lib.hid ho
  have Lx0_0 := Lib.hid (Nat.le_refl w6.heap.size)
  have Nx0 := Lib.hid ho.len
  have Gx0 := Lib.hid HB5.out.size
  have DW_x0 : Hid (_ ≤ w5.heap.size) := LW_0
  clear OW_0 LW_0 HB5 hb hsz ho
  have Ex0 : nx0 ≤ 1099511627776 := by have := Nx0.out; have := hs0.1; have := SM0.out.1; omega
  have Fx0 : Hid (∀ k, k < nx0 → (tm ts0 k).1.length ≤ 1099511627776) := Lib.hid (fun k hk => Nat.le_trans (SM0.out.2 k (by have := Nx0.out; have := hs0.1; omega)) (by decide))
  go_wp2_with fail
  refine (toTermS_any _ _ _ ts1 _ (hs1.below HB6.out (Nat.le_refl _)) (by have := SM1.out.1; omega) (fun k hk => Nat.le_trans (SM1.out.2 k hk) (by decide))).mono ?_
  rintro e w7 ⟨Ax1, nx1, cx1, rfl, ho, hb⟩
  have hsz := hb.size
  have HB7 := Lib.hid (HB6.out.trans (hb.mono HB6.out.size))
  have OW_2 := Lib.hid (OW_1.out.below hb LW_1.out)
  have LW_2 := Lib.hid (Nat.le_trans LW_1.out hsz)
  have Ox0_1 := Lib.hid (Ox0_0.out.below hb Lx0_0.out)
  have Lx0_1 := Lib.hid (Nat.le_trans Lx0_0.out hsz)
  have Ox1_0 := Lib.hid ho
  have Lx1_0 := Lib.hid (Nat.le_refl w7.heap.size)
  have Nx1 := Lib.hid ho.len
  have Gx1 := Lib.hid HB6.out.size
  have DW_x1 : Hid (_ ≤ w6.heap.size) := LW_1
  have Dx0_x1 : Hid (_ ≤ w6.heap.size) := Lx0_0
  clear OW_1 LW_1 Ox0_0 Lx0_0 HB6 hb hsz ho
  have Ex1 : nx1 ≤ 1099511627776 := by have := Nx1.out; have := hs1.1; have := SM1.out.1; omega
  have Fx1 : Hid (∀ k, k < nx1 → (tm ts1 k).1.length ≤ 1099511627776) := Lib.hid (fun k hk => Nat.le_trans (SM1.out.2 k (by have := Nx1.out; have := hs1.1; omega)) (by decide))
  go_wp2_with fail
  refine (implMulPolys_any _ _ _ ts0 _ _ _ ts1 _ Ox0_1.out.si Ox1_0.out.si Ex0 Fx0.out Ex1 Fx1.out).mono ?_
  rintro e w8 ⟨AV, nV, cV, rfl, ho, hb⟩
  rw [← hbb]
  have hsz := hb.size
  have HB8 := Lib.hid (HB7.out.trans (hb.mono HB7.out.size))
  have OW_3 := Lib.hid (OW_2.out.below hb LW_2.out)
  have LW_3 := Lib.hid (Nat.le_trans LW_2.out hsz)
  have Ox0_2 := Lib.hid (Ox0_1.out.below hb Lx0_1.out)
  have Lx0_2 := Lib.hid (Nat.le_trans Lx0_1.out hsz)
  have Ox1_1 := Lib.hid (Ox1_0.out.below hb Lx1_0.out)
  have Lx1_1 := Lib.hid (Nat.le_trans Lx1_0.out hsz)
  have OV_0 := Lib.hid ho
  have LV_0 := Lib.hid (Nat.le_refl w8.heap.size)
  have NV := Lib.hid ho.len
  have GV := Lib.hid HB7.out.size
  have DW_V : Hid (_ ≤ w7.heap.size) := LW_2
  have Dx0_V : Hid (_ ≤ w7.heap.size) := Lx0_1
  have Dx1_V : Hid (_ ≤ w7.heap.size) := Lx1_0
  clear OW_2 LW_2 Ox0_1 Lx0_1 Ox1_0 Lx1_0 HB7 hb hsz ho
  have EV : nV ≤ 1099511627776 := by have h := NV.out; rw [← h]; exact HM.out.le
  have FV : Hid (∀ k, k < nV → (tm (outL (mulOk ts0 ts1) (muP ts0 ts1)) k).1.length ≤ 1099511627776) := Lib.hid (fun k _ => HM.out.lens k)
  go_wp2_with fail
  refine (eqTermS_any _ _ _ _ _ _ (outL (mulOk ts0 ts1) (muP ts0 ts1)) (outL (mulOk ts0 ts1) (muP ts0 ts1)) _ OV_0.out.si OW_3.out.si EV EW FV.out FW.out).mono ?_
  rintro e w9 ⟨rfl, hb⟩
  rw [eqTs_self]
  have hsz := hb.size
  have HB9 := Lib.hid (HB8.out.trans (hb.mono HB8.out.size))
  have OW_4 := Lib.hid (OW_3.out.below hb LW_3.out)
  have LW_4 := Lib.hid (Nat.le_trans LW_3.out hsz)
  have Ox0_3 := Lib.hid (Ox0_2.out.below hb Lx0_2.out)
  have Lx0_3 := Lib.hid (Nat.le_trans Lx0_2.out hsz)
  have Ox1_2 := Lib.hid (Ox1_1.out.below hb Lx1_1.out)
  have Lx1_2 := Lib.hid (Nat.le_trans Lx1_1.out hsz)
  have OV_1 := Lib.hid (OV_0.out.below hb LV_0.out)
  have LV_1 := Lib.hid (Nat.le_trans LV_0.out hsz)
  clear OW_3 LW_3 Ox0_2 Lx0_2 Ox1_1 Lx1_1 OV_0 LV_0 HB8 hb hsz
  go_wp2_with fail
  refine (toTermS_any _ _ _ ts0 _ (hs0.below HB9.out (Nat.le_refl _)) (by have := SM0.out.1; omega) (fun k hk => Nat.le_trans (SM0.out.2 k hk) (by decide))).mono ?_
  rintro e w10 ⟨Ay0, ny0, cy0, rfl, ho, hb⟩
  have hsz := hb.size
  have HB10 := Lib.hid (HB9.out.trans (hb.mono HB9.out.size))
  have OW_5 := Lib.hid (OW_4.out.below hb LW_4.out)
  have LW_5 := Lib.hid (Nat.le_trans LW_4.out hsz)
  have Ox0_4 := Lib.hid (Ox0_3.out.below hb Lx0_3.out)
  have Lx0_4 := Lib.hid (Nat.le_trans Lx0_3.out hsz)
  have Ox1_3 := Lib.hid (Ox1_2.out.below hb Lx1_2.out)
  have Lx1_3 := Lib.hid (Nat.le_trans Lx1_2.out hsz)
  have OV_2 := Lib.hid (OV_1.out.below hb LV_1.out)
  have LV_2 := Lib.hid (Nat.le_trans LV_1.out hsz)
  have Oy0_0 := Lib.hid ho
  have Ly0_0 := Lib.hid (Nat.le_refl w10.heap.size)
  have Ny0 := Lib.hid ho.len
  have Gy0 := Lib.hid HB9.out.size
  have DW_y0 : Hid (_ ≤ w9.heap.size) := LW_4
  have Dx0_y0 : Hid (_ ≤ w9.heap.size) := Lx0_3
  have Dx1_y0 : Hid (_ ≤ w9.heap.size) := Lx1_2
  have DV_y0 : Hid (_ ≤ w9.heap.size) := LV_1
  clear OW_4 LW_4 Ox0_3 Lx0_3 Ox1_2 Lx1_2 OV_1 LV_1 HB9 hb hsz ho
  have Ey0 : ny0 ≤ 1099511627776 := by have := Ny0.out; have := hs0.1; have := SM0.out.1; omega
  have Fy0 : Hid (∀ k, k < ny0 → (tm ts0 k).1.length ≤ 1099511627776) := Lib.hid (fun k hk => Nat.le_trans (SM0.out.2 k (by have := Ny0.out; have := hs0.1; omega)) (by decide))
  go_wp2_with fail
  refine (eqTermS_any _ _ _ _ _ _ ts0 ts0 _ Ox0_4.out.si Oy0_0.out.si Ex0 Ey0 Fx0.out Fy0.out).mono ?_
  rintro e w11 ⟨rfl, hb⟩
  rw [eqTs_self]
  have hsz := hb.size
  have HB11 := Lib.hid (HB10.out.trans (hb.mono HB10.out.size))
  have OW_6 := Lib.hid (OW_5.out.below hb LW_5.out)
  have LW_6 := Lib.hid (Nat.le_trans LW_5.out hsz)
  have Ox0_5 := Lib.hid (Ox0_4.out.below hb Lx0_4.out)
  have Lx0_5 := Lib.hid (Nat.le_trans Lx0_4.out hsz)
  have Ox1_4 := Lib.hid (Ox1_3.out.below hb Lx1_3.out)
  have Lx1_4 := Lib.hid (Nat.le_trans Lx1_3.out hsz)
  have OV_3 := Lib.hid (OV_2.out.below hb LV_2.out)
  have LV_3 := Lib.hid (Nat.le_trans LV_2.out hsz)
  have Oy0_1 := Lib.hid (Oy0_0.out.below hb Ly0_0.out)
  have Ly0_1 := Lib.hid (Nat.le_trans Ly0_0.out hsz)
  clear OW_5 LW_5 Ox0_4 Lx0_4 Ox1_3 Lx1_3 OV_2 LV_2 Oy0_0 Ly0_0 HB10 hb hsz
  go_wp2_with fail
  refine (toTermS_any _ _ _ ts1 _ (hs1.below HB11.out (Nat.le_refl _)) (by have := SM1.out.1; omega) (fun k hk => Nat.le_trans (SM1.out.2 k hk) (by decide))).mono ?_
  rintro e w12 ⟨Ay1, ny1, cy1, rfl, ho, hb⟩
  have hsz := hb.size
  have HB12 := Lib.hid (HB11.out.trans (hb.mono HB11.out.size))
  have OW_7 := Lib.hid (OW_6.out.below hb LW_6.out)
  have LW_7 := Lib.hid (Nat.le_trans LW_6.out hsz)
  have Ox0_6 := Lib.hid (Ox0_5.out.below hb Lx0_5.out)
  have Lx0_6 := Lib.hid (Nat.le_trans Lx0_5.out hsz)
  have Ox1_5 := Lib.hid (Ox1_4.out.below hb Lx1_4.out)
  have Lx1_5 := Lib.hid (Nat.le_trans Lx1_4.out hsz)
  have OV_4 := Lib.hid (OV_3.out.below hb LV_3.out)
  have LV_4 := Lib.hid (Nat.le_trans LV_3.out hsz)
  have Oy1_0 := Lib.hid ho
  have Ly1_0 := Lib.hid (Nat.le_refl w12.heap.size)
  have Ny1 := Lib.hid ho.len
  have Gy1 := Lib.hid HB11.out.size
  have DW_y1 : Hid (_ ≤ w11.heap.size) := LW_6
  have Dx0_y1 : Hid (_ ≤ w11.heap.size) := Lx0_5
  have Dx1_y1 : Hid (_ ≤ w11.heap.size) := Lx1_4
  have DV_y1 : Hid (_ ≤ w11.heap.size) := LV_3
  clear OW_6 LW_6 Ox0_5 Lx0_5 Ox1_4 Lx1_4 OV_3 LV_3 HB11 hb hsz ho
  have Ey1 : ny1 ≤ 1099511627776 := by have := Ny1.out; have := hs1.1; have := SM1.out.1; omega
  have Fy1 : Hid (∀ k, k < ny1 → (tm ts1 k).1.length ≤ 1099511627776) := Lib.hid (fun k hk => Nat.le_trans (SM1.out.2 k (by have := Ny1.out; have := hs1.1; omega)) (by decide))
  go_wp2_with fail
  refine (eqTermS_any _ _ _ _ _ _ ts1 ts1 _ Ox1_5.out.si Oy1_0.out.si Ex1 Ey1 Fx1.out Fy1.out).mono ?_
  rintro e w13 ⟨rfl, hb⟩
  rw [eqTs_self]
  have hsz := hb.size
  have HB13 := Lib.hid (HB12.out.trans (hb.mono HB12.out.size))
  have OW_8 := Lib.hid (OW_7.out.below hb LW_7.out)
  have LW_8 := Lib.hid (Nat.le_trans LW_7.out hsz)
  have Ox0_7 := Lib.hid (Ox0_6.out.below hb Lx0_6.out)
  have Lx0_7 := Lib.hid (Nat.le_trans Lx0_6.out hsz)
  have Ox1_6 := Lib.hid (Ox1_5.out.below hb Lx1_5.out)
  have Lx1_6 := Lib.hid (Nat.le_trans Lx1_5.out hsz)
  have OV_5 := Lib.hid (OV_4.out.below hb LV_4.out)
  have LV_5 := Lib.hid (Nat.le_trans LV_4.out hsz)
  have Oy1_1 := Lib.hid (Oy1_0.out.below hb Ly1_0.out)
  have Ly1_1 := Lib.hid (Nat.le_trans Ly1_0.out hsz)
  clear OW_7 LW_7 Ox0_6 Lx0_6 Ox1_5 Lx1_5 OV_4 LV_4 Oy1_0 Ly1_0 HB12 hb hsz
  go_wp2_with fail
  refine (markTermS_any _ _ _ _ _ ts0 1 _ Ox0_7.out Ex0 Fx0.out (fun k h => by have h1 := HT0.out k (by have := Nx0.out; have := hs0.1; omega); exact ⟨h1.1, Int.le_trans h1.2 (by decide)⟩)).mono ?_
  rintro e w14 ⟨rfl, ho, hw⟩
  have hsz := hw.size
  have HB14 := Lib.hid (HB13.out.trans (hw.below Gx0.out HB13.out.size))
  have OW_9 := Lib.hid (OW_8.out.within hw (.inl DW_x0.out))
  have LW_9 := Lib.hid (Nat.le_trans LW_8.out hsz)
  have Ox0_8 := Lib.hid ho
  have Lx0_8 := Lib.hid (Nat.le_trans Lx0_7.out hsz)
  have Ox1_7 := Lib.hid (Ox1_6.out.within hw (.inr Dx0_x1.out))
  have Lx1_7 := Lib.hid (Nat.le_trans Lx1_6.out hsz)
  have OV_6 := Lib.hid (OV_5.out.within hw (.inr Dx0_V.out))
  have LV_6 := Lib.hid (Nat.le_trans LV_5.out hsz)
  clear OW_8 LW_8 Ox0_7 Lx0_7 Ox1_6 Lx1_6 OV_5 LV_5 HB13 hw hsz ho
  have hz0 := HT0.out ts0.length (by have := hs0.1; omega)
  rw [List.take_of_length_le (Nat.le_refl _)] at hz0
  obtain ⟨y0, hy0⟩ : ∃ y, y = endT ts0 1 := ⟨_, rfl⟩
  rw [← hy0] at hz0 ⊢
  have HY0 := Lib.hid hz0
  have hyn0 : ¬ y0 < 0 := by omega
  clear hz0 hy0
  go_wp2_with fail
  refine (markTermS_any _ _ _ _ _ ts1 y0 _ Ox1_7.out Ex1 Fx1.out (fun k h => endT_from HY0.out.1 HY0.out.2 (HT1.out k (by have := Nx1.out; have := hs1.1; omega)).2)).mono ?_
  rintro e w15 ⟨rfl, ho, hw⟩
  have hsz := hw.size
  have HB15 := Lib.hid (HB14.out.trans (hw.below Gx1.out HB14.out.size))
  have OW_10 := Lib.hid (OW_9.out.within hw (.inl DW_x1.out))
  have LW_10 := Lib.hid (Nat.le_trans LW_9.out hsz)
  have Ox0_9 := Lib.hid (Ox0_8.out.within hw (.inl Dx0_x1.out))
  have Lx0_9 := Lib.hid (Nat.le_trans Lx0_8.out hsz)
  have Ox1_8 := Lib.hid ho
  have Lx1_8 := Lib.hid (Nat.le_trans Lx1_7.out hsz)
  have OV_7 := Lib.hid (OV_6.out.within hw (.inr Dx1_V.out))
  have LV_7 := Lib.hid (Nat.le_trans LV_6.out hsz)
  clear OW_9 LW_9 Ox0_8 Lx0_8 Ox1_7 Lx1_7 OV_6 LV_6 HB14 hw hsz ho
  have hz0 := HT1.out ts1.length (by have := hs1.1; omega)
  rw [List.take_of_length_le (Nat.le_refl _)] at hz0
  have hz1 := endT_from HY0.out.1 HY0.out.2 hz0.2
  obtain ⟨y1, hy1⟩ : ∃ y, y = endT ts1 y0 := ⟨_, rfl⟩
  rw [← hy1] at hz1 ⊢
  have hyn1 : ¬ y1 < 0 := by omega
  clear hz0 hz1 hy1
  go_wp2_with fail
  refine (eqTermS_any _ _ _ _ _ _ (outL (mulOk ts0 ts1) (muP ts0 ts1)) (outL (mulOk ts0 ts1) (muP ts0 ts1)) _ OV_7.out.si OW_10.out.si EV EW FV.out FW.out).mono ?_
  rintro e w16 ⟨rfl, hb⟩
  rw [eqTs_self]
  have hsz := hb.size
  have HB16 := Lib.hid (HB15.out.trans (hb.mono HB15.out.size))
  have OW_11 := Lib.hid (OW_10.out.below hb LW_10.out)
  have LW_11 := Lib.hid (Nat.le_trans LW_10.out hsz)
  have Ox0_10 := Lib.hid (Ox0_9.out.below hb Lx0_9.out)
  have Lx0_10 := Lib.hid (Nat.le_trans Lx0_9.out hsz)
  have Ox1_9 := Lib.hid (Ox1_8.out.below hb Lx1_8.out)
  have Lx1_9 := Lib.hid (Nat.le_trans Lx1_8.out hsz)
  have OV_8 := Lib.hid (OV_7.out.below hb LV_7.out)
  have LV_8 := Lib.hid (Nat.le_trans LV_7.out hsz)
  clear OW_10 LW_10 Ox0_9 Lx0_9 Ox1_8 Lx1_8 OV_7 LV_7 HB15 hb hsz
  go_wp2_with fail
  refine (markTermS_any _ _ _ _ _ (outL (mulOk ts0 ts1) (muP ts0 ts1)) 1 _ OV_8.out EV FV.out (fun k _ => HM.out.ends k)).mono ?_
  rintro e w17 ⟨rfl, ho, hw⟩
  have hsz := hw.size
  have HB17 := Lib.hid (HB16.out.trans (hw.below GV.out HB16.out.size))
  have OW_12 := Lib.hid (OW_11.out.within hw (.inl DW_V.out))
  have LW_12 := Lib.hid (Nat.le_trans LW_11.out hsz)
  have OV_9 := Lib.hid ho
  have LV_9 := Lib.hid (Nat.le_trans LV_8.out hsz)
  clear OW_11 LW_11 OV_8 LV_8 HB16 hw hsz ho
  go_wp2_with fail
  refine (heldTermS_yes _ _ _ (outL (mulOk ts0 ts1) (muP ts0 ts1)) 1 _ OV_9.out.si EV FV.out (fun k _ => HM.out.ends k)).mono ?_
  rintro e w18 ⟨rfl, hd⟩
  have hb : Below w17.heap.size w17 w18 := hd.below _
  have hsz := hb.size
  have HB18 := Lib.hid (HB17.out.trans (hb.mono HB17.out.size))
  have OW_13 := Lib.hid (OW_12.out.below hb LW_12.out)
  have LW_13 := Lib.hid (Nat.le_trans LW_12.out hsz)
  have OV_10 := Lib.hid (OV_9.out.below hb LV_9.out)
  have LV_10 := Lib.hid (Nat.le_trans LV_9.out hsz)
  clear OW_12 LW_12 OV_9 LV_9 HB17 hb hsz hd
  have he0 := HM.out.ends (outL (mulOk ts0 ts1) (muP ts0 ts1)).length
  rw [List.take_of_length_le (Nat.le_refl _)] at he0
  obtain ⟨z, hz⟩ : ∃ z, z = endT (outL (mulOk ts0 ts1) (muP ts0 ts1)) 1 := ⟨_, rfl⟩
  have HZ := Lib.hid hz
  rw [← hz] at he0 ⊢
  have he1 : ¬ z < 0 := by omega
  clear hz
  go_wp2_with fail
  refine (toTermS_any _ _ _ ts0 _ (hs0.below HB18.out (Nat.le_refl _)) (by have := SM0.out.1; omega) (fun k hk => Nat.le_trans (SM0.out.2 k hk) (by decide))).mono ?_
  rintro e w19 ⟨Az0, nz0, cz0, rfl, ho, hb⟩
  have hsz := hb.size
  have HB19 := Lib.hid (HB18.out.trans (hb.mono HB18.out.size))
  have OW_14 := Lib.hid (OW_13.out.below hb LW_13.out)
  have LW_14 := Lib.hid (Nat.le_trans LW_13.out hsz)
  have OV_11 := Lib.hid (OV_10.out.below hb LV_10.out)
  have LV_11 := Lib.hid (Nat.le_trans LV_10.out hsz)
  have Oz0_0 := Lib.hid ho
  have Lz0_0 := Lib.hid (Nat.le_refl w19.heap.size)
  have Nz0 := Lib.hid ho.len
  have Gz0 := Lib.hid HB18.out.size
  have DW_z0 : Hid (_ ≤ w18.heap.size) := LW_13
  have DV_z0 : Hid (_ ≤ w18.heap.size) := LV_10
  clear OW_13 LW_13 OV_10 LV_10 HB18 hb hsz ho
  have Ez0 : nz0 ≤ 1099511627776 := by have := Nz0.out; have := hs0.1; have := SM0.out.1; omega
  have Fz0 : Hid (∀ k, k < nz0 → (tm ts0 k).1.length ≤ 1099511627776) := Lib.hid (fun k hk => Nat.le_trans (SM0.out.2 k (by have := Nz0.out; have := hs0.1; omega)) (by decide))
  go_wp2_with fail
  refine (toTermS_any _ _ _ ts1 _ (hs1.below HB19.out (Nat.le_refl _)) (by have := SM1.out.1; omega) (fun k hk => Nat.le_trans (SM1.out.2 k hk) (by decide))).mono ?_
  rintro e w20 ⟨Az1, nz1, cz1, rfl, ho, hb⟩
  have hsz := hb.size
  have HB20 := Lib.hid (HB19.out.trans (hb.mono HB19.out.size))
  have OW_15 := Lib.hid (OW_14.out.below hb LW_14.out)
  have LW_15 := Lib.hid (Nat.le_trans LW_14.out hsz)
  have OV_12 := Lib.hid (OV_11.out.below hb LV_11.out)
  have LV_12 := Lib.hid (Nat.le_trans LV_11.out hsz)
  have Oz0_1 := Lib.hid (Oz0_0.out.below hb Lz0_0.out)
  have Lz0_1 := Lib.hid (Nat.le_trans Lz0_0.out hsz)
  have Oz1_0 := Lib.hid ho
  have Lz1_0 := Lib.hid (Nat.le_refl w20.heap.size)
  have Nz1 := Lib.hid ho.len
  have Gz1 := Lib.hid HB19.out.size
  have DW_z1 : Hid (_ ≤ w19.heap.size) := LW_14
  have DV_z1 : Hid (_ ≤ w19.heap.size) := LV_11
  have Dz0_z1 : Hid (_ ≤ w19.heap.size) := Lz0_0
  clear OW_14 LW_14 OV_11 LV_11 Oz0_0 Lz0_0 HB19 hb hsz ho
  have Ez1 : nz1 ≤ 1099511627776 := by have := Nz1.out; have := hs1.1; have := SM1.out.1; omega
  have Fz1 : Hid (∀ k, k < nz1 → (tm ts1 k).1.length ≤ 1099511627776) := Lib.hid (fun k hk => Nat.le_trans (SM1.out.2 k (by have := Nz1.out; have := hs1.1; omega)) (by decide))
  go_wp2_with fail
  refine (implMulPolys_any _ _ _ ts0 _ _ _ ts1 _ Oz0_1.out.si Oz1_0.out.si Ez0 Fz0.out Ez1 Fz1.out).mono ?_
  rintro e w21 ⟨AU, nU, cU, rfl, ho, hb⟩
  rw [← hbb]
  have hsz := hb.size
  have HB21 := Lib.hid (HB20.out.trans (hb.mono HB20.out.size))
  have OW_16 := Lib.hid (OW_15.out.below hb LW_15.out)
  have LW_16 := Lib.hid (Nat.le_trans LW_15.out hsz)
  have OV_13 := Lib.hid (OV_12.out.below hb LV_12.out)
  have LV_13 := Lib.hid (Nat.le_trans LV_12.out hsz)
  have Oz0_2 := Lib.hid (Oz0_1.out.below hb Lz0_1.out)
  have Lz0_2 := Lib.hid (Nat.le_trans Lz0_1.out hsz)
  have Oz1_1 := Lib.hid (Oz1_0.out.below hb Lz1_0.out)
  have Lz1_1 := Lib.hid (Nat.le_trans Lz1_0.out hsz)
  have OU_0 := Lib.hid ho
  have LU_0 := Lib.hid (Nat.le_refl w21.heap.size)
  have NU := Lib.hid ho.len
  have GU := Lib.hid HB20.out.size
  have DW_U : Hid (_ ≤ w20.heap.size) := LW_15
  have DV_U : Hid (_ ≤ w20.heap.size) := LV_12
  have Dz0_U : Hid (_ ≤ w20.heap.size) := Lz0_1
  have Dz1_U : Hid (_ ≤ w20.heap.size) := Lz1_0
  clear OW_15 LW_15 OV_12 LV_12 Oz0_1 Lz0_1 Oz1_0 Lz1_0 HB20 hb hsz ho
  have EU : nU ≤ 1099511627776 := by have h := NU.out; rw [← h]; exact HM.out.le
  have FU : Hid (∀ k, k < nU → (tm (outL (mulOk ts0 ts1) (muP ts0 ts1)) k).1.length ≤ 1099511627776) := Lib.hid (fun k _ => HM.out.lens k)
  go_wp2_with fail
  refine (eqTermS_any _ _ _ _ _ _ (outL (mulOk ts0 ts1) (muP ts0 ts1)) (outL (mulOk ts0 ts1) (muP ts0 ts1)) _ OU_0.out.si OW_16.out.si EU EW FU.out FW.out).mono ?_
  rintro e w22 ⟨rfl, hb⟩
  rw [eqTs_self]
  have hsz := hb.size
  have HB22 := Lib.hid (HB21.out.trans (hb.mono HB21.out.size))
  have OW_17 := Lib.hid (OW_16.out.below hb LW_16.out)
  have LW_17 := Lib.hid (Nat.le_trans LW_16.out hsz)
  have OV_14 := Lib.hid (OV_13.out.below hb LV_13.out)
  have LV_14 := Lib.hid (Nat.le_trans LV_13.out hsz)
  have OU_1 := Lib.hid (OU_0.out.below hb LU_0.out)
  have LU_1 := Lib.hid (Nat.le_trans LU_0.out hsz)
  clear OW_16 LW_16 OV_13 LV_13 OU_0 LU_0 HB21 hb hsz
  go_wp2_with fail
  refine (heldTermS_yes _ _ _ (outL (mulOk ts0 ts1) (muP ts0 ts1)) 1 _ OV_14.out.si EV FV.out (fun k _ => HM.out.ends k)).mono ?_
  rintro e w23 ⟨rfl, hd⟩
  have hb : Below w22.heap.size w22 w23 := hd.below _
  have hsz := hb.size
  have HB23 := Lib.hid (HB22.out.trans (hb.mono HB22.out.size))
  have OW_18 := Lib.hid (OW_17.out.below hb LW_17.out)
  have LW_18 := Lib.hid (Nat.le_trans LW_17.out hsz)
  have OV_15 := Lib.hid (OV_14.out.below hb LV_14.out)
  have LV_15 := Lib.hid (Nat.le_trans LV_14.out hsz)
  have OU_2 := Lib.hid (OU_1.out.below hb LU_1.out)
  have LU_2 := Lib.hid (Nat.le_trans LU_1.out hsz)
  clear OW_17 LW_17 OV_14 LV_14 OU_1 LU_1 HB22 hb hsz hd
  rw [← HZ.out]
  go_wp2
  go_ret
  exact ⟨rfl, HB23.out⟩

set_option maxRecDepth 100000 in
theorem lifted_MulPolys (os : Os) (started : os.Started) (H : Type) (enc : TypeId × Value → H) :
    ReturnsInHanded {} Try.checked os 8 .any (Rows.fnExactMulPolysSpec.pre6 enc Try.prog Try.f8 Rows.fnExactMulPolysRow.domain false) (Rows.fnExactMulPolysSpec.post enc Try.prog Try.f8 false true false false) := by
  refine returnsInHanded_of_change (C := Try.checked) own started (by kernel_rfl) Try.func8
    (ChangeSpec.witness6 (enc := enc) (C := Try.checked) false ⟨#[], #[.slice none 0 0, .slice none 0 0], []⟩ 8 (by kernel_rfl) (by kernel_rfl) (by kernel_rfl) (by kernel_rfl)) ?_
  intro W base args ds gs before hval0 hW hcnd _
  have hval : ∀ (j : Nat) t v, Try.f8.params[j]? = some t → args[j]? = some v → Value.okWide Try.prog W .any base t v := hval0
  have hW' := hW
  obtain ⟨p, q, hA0, hV, rfl, hfz, hnd⟩ := hW
  have hA : DataW.TrodAll enc Try.prog W 0 (fun _ => true) true Try.f8.params.toList args.toList ds p := hA0
  rw [Try.params8] at hA hval
  obtain ⟨v0, vs0, d0, ds0, p0, q0, hargs, rfl, rfl, h0, r0⟩ := trodAll_cons hA
  obtain ⟨v1, vs1, d1, ds1, p1, q1, rfl, rfl, rfl, h1, r1⟩ := trodAll_cons r0
  obtain ⟨rfl, rfl, rfl⟩ := trodAll_nil r1
  obtain rfl : args = #[v0, v1] := by cases args; simp_all
  obtain ⟨rfl, rfl⟩ := trodVars_none hV
  obtain ⟨b0, len0, cap0, rfl⟩ := okWide_slice Try.underlying22 (hval 0 22 v0 rfl rfl)
  have k0 := h0
  have lt0 : ∀ x ∈ p0, x.block < W.heap.size := by obtain ⟨m, hm⟩ := k0; exact DataW.trod_lt m _ _ _ hm
  obtain ⟨ts0, s0, hn0, hne0⟩ := TS.of_trod h0
  obtain ⟨b1, len1, cap1, rfl⟩ := okWide_slice Try.underlying22 (hval 1 22 v1 rfl rfl)
  have k1 := h1
  have lt1 : ∀ x ∈ p1, x.block < W.heap.size := by obtain ⟨m, hm⟩ := k1; exact DataW.trod_lt m _ _ _ hm
  obtain ⟨ts1, s1, hn1, hne1⟩ := TS.of_trod h1
  clear hA0 hval0
  refine (walk_MulPolys b0 len0 cap0 ts0 b1 len1 cap1 ts1 W s0 hn0 hne0 s1 hn1 hne1).mono fun e W' ⟨he, bel⟩ => ?_
  subst he
  exact ⟨_, rfl, _, _, _, [], _, [], hW', trodAll_mk1 (shut_bool Try.underlying4 _), (trodAll_cons_mk (Below.trod laidOut (by kernel_rfl) (of_decide_eq_true (by kernel_rfl)) k0 bel lt0) (trodAll_cons_mk (Below.trod laidOut (by kernel_rfl) (of_decide_eq_true (by kernel_rfl)) k1 bel lt1) trodAll_mk0)), rfl, bel.frame _, fun h => by cases h⟩

theorem fnExactMulPolys_holds : Rows.FnExactMulPolysSaid :=
  OpenClaim.holds_of_wide 8 Try.f8 rfl rfl rfl rfl rfl rfl rfl ⟨rfl, rfl, rfl, rfl, rfl⟩ rfl rfl rfl rfl rfl (by kernel_rfl) Try.func8 (by kernel_rfl)
    (of_decide_eq_true (by kernel_rfl)) (by unfold Func.isWrapper; first | (rw [if_pos (by decide +kernel)]; kernel_rfl) | (rw [if_neg (by decide +kernel)]; exact ⟨rfl, rfl⟩))
    (fun os started H enc _ => lifted_MulPolys os started H enc)
end Go.Proofs.Ytmndchhbafkbeaa
