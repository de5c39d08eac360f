/-
  FnExactContainsShape: for every input the law returns true: the program's ContainsShape answers as the specification's, changes no argument, and its answer owns its memory. No conditions.
-/
import Derived.Test.YthinbmjcdcmioaaPkA1
namespace Go.Proofs.Ythinbmjcdcmioaa
open Go.ChangeShapes Go.WideShapes Go.ChangeAt Go.RowKit

set_option maxHeartbeats 4000000 in
theorem walk_ContainsShape (A0 : Option Addr) (n0 c0 : Nat) (xs0 : List Int) (A1 : Option Addr) (n1 c1 : Nat) (xs1 : List Int) (w : World) (hs0 : SI w A0 n0 xs0) (_fit0 : Fits xs0) (hs1 : SI w A1 n1 xs1) (_fit1 : Fits xs1) :
    Calls Try.prog 5 #[.slice A0 n0 c0, .slice A1 n1 c1] w fun e w' => e = .returned (.bool true) ∧ Below w.heap.size w w' := by
  by_cases hbig0 : 1048576 < n0
  · go_enter Try.func5, Try.ntmps5
    go_wp2
    go_ret
    exact ⟨rfl, Below.refl _ _⟩
  by_cases hbig1 : 1048576 < n1
  · go_enter Try.func5, Try.ntmps5
    go_wp2
    go_ret
    exact ⟨rfl, Below.refl _ _⟩
  have HB0 := Lib.hid (Below.refl w.heap.size w)
  go_enter Try.func5, Try.ntmps5
  go_wp2_with fail
  refine (toIntS_fr _ _ _ xs0 _ (hs0.below HB0.out (Nat.le_refl _)) (by omega)).mono ?_
  rintro e w1 ⟨Ap0, np0, cp0, rfl, ho, hb⟩
  have hsz := hb.size
  have HB1 := Lib.hid (HB0.out.trans (hb.mono HB0.out.size))
  have Op0_0 := Lib.hid ho
  have Lp0_0 := Lib.hid (Nat.le_refl w1.heap.size)
  have Np0 := Lib.hid ho.len
  have Gp0 := Lib.hid HB0.out.size
  clear HB0 hb hsz ho
  have Ep0 : np0 ≤ 1099511627776 := by have := Np0.out; have := hs0.1; omega
  have Qp0 : np0 ≤ 1048576 := by have := Np0.out; have := hs0.1; omega
  go_wp2_with fail
  refine (toIntS_fr _ _ _ xs1 _ (hs1.below HB1.out (Nat.le_refl _)) (by omega)).mono ?_
  rintro e w2 ⟨Ap1, np1, cp1, rfl, ho, hb⟩
  have hsz := hb.size
  have HB2 := Lib.hid (HB1.out.trans (hb.mono HB1.out.size))
  have Op0_1 := Lib.hid (Op0_0.out.below hb Lp0_0.out)
  have Lp0_1 := Lib.hid (Nat.le_trans Lp0_0.out hsz)
  have Op1_0 := Lib.hid ho
  have Lp1_0 := Lib.hid (Nat.le_refl w2.heap.size)
  have Np1 := Lib.hid ho.len
  have Gp1 := Lib.hid HB1.out.size
  have Dp0_p1 : Hid (_ ≤ w1.heap.size) := Lp0_0
  clear Op0_0 Lp0_0 HB1 hb hsz ho
  have Ep1 : np1 ≤ 1099511627776 := by have := Np1.out; have := hs1.1; omega
  have Qp1 : np1 ≤ 1048576 := by have := Np1.out; have := hs1.1; omega
  go_wp2_with fail
  refine (specContains_any _ _ _ _ _ _ xs0 xs1 _ Op0_1.out.si Op1_0.out.si Ep0 Ep1).mono ?_
  rintro e w3 ⟨rfl, hd⟩
  have hb : Below w2.heap.size w2 w3 := hd.below _
  have hsz := hb.size
  have HB3 := Lib.hid (HB2.out.trans (hb.mono HB2.out.size))
  have Op0_2 := Lib.hid (Op0_1.out.below hb Lp0_1.out)
  have Lp0_2 := Lib.hid (Nat.le_trans Lp0_1.out hsz)
  have Op1_1 := Lib.hid (Op1_0.out.below hb Lp1_0.out)
  have Lp1_1 := Lib.hid (Nat.le_trans Lp1_0.out hsz)
  clear Op0_1 Lp0_1 Op1_0 Lp1_0 HB2 hb hsz hd
  go_wp2_with fail
  refine (toIntS_fr _ _ _ xs0 _ (hs0.below HB3.out (Nat.le_refl _)) (by omega)).mono ?_
  rintro e w4 ⟨Ax0, nx0, cx0, rfl, ho, hb⟩
  have hsz := hb.size
  have HB4 := Lib.hid (HB3.out.trans (hb.mono HB3.out.size))
  have Ox0_0 := Lib.hid ho
  have Lx0_0 := Lib.hid (Nat.le_refl w4.heap.size)
  have Nx0 := Lib.hid ho.len
  have Gx0 := Lib.hid HB3.out.size
  clear HB3 hb hsz ho
  have Ex0 : nx0 ≤ 1099511627776 := by have := Nx0.out; have := hs0.1; omega
  have Qx0 : nx0 ≤ 1048576 := by have := Nx0.out; have := hs0.1; omega
  go_wp2_with fail
  refine (toIntS_fr _ _ _ xs1 _ (hs1.below HB4.out (Nat.le_refl _)) (by omega)).mono ?_
  rintro e w5 ⟨Ax1, nx1, cx1, rfl, ho, hb⟩
  have hsz := hb.size
  have HB5 := Lib.hid (HB4.out.trans (hb.mono HB4.out.size))
  have Ox0_1 := Lib.hid (Ox0_0.out.below hb Lx0_0.out)
  have Lx0_1 := Lib.hid (Nat.le_trans Lx0_0.out hsz)
  have Ox1_0 := Lib.hid ho
  have Lx1_0 := Lib.hid (Nat.le_refl w5.heap.size)
  have Nx1 := Lib.hid ho.len
  have Gx1 := Lib.hid HB4.out.size
  have Dx0_x1 : Hid (_ ≤ w4.heap.size) := Lx0_0
  clear Ox0_0 Lx0_0 HB4 hb hsz ho
  have Ex1 : nx1 ≤ 1099511627776 := by have := Nx1.out; have := hs1.1; omega
  have Qx1 : nx1 ≤ 1048576 := by have := Nx1.out; have := hs1.1; omega
  go_wp2_with fail
  refine (implContains_any _ _ _ _ _ _ xs0 xs1 _ Ox0_1.out.si Ox1_0.out.si Ex0 Ex1).mono ?_
  rintro e w6 ⟨rfl, hb⟩
  have hsz := hb.size
  have HB6 := Lib.hid (HB5.out.trans (hb.mono HB5.out.size))
  have Ox0_2 := Lib.hid (Ox0_1.out.below hb Lx0_1.out)
  have Lx0_2 := Lib.hid (Nat.le_trans Lx0_1.out hsz)
  have Ox1_1 := Lib.hid (Ox1_0.out.below hb Lx1_0.out)
  have Lx1_1 := Lib.hid (Nat.le_trans Lx1_0.out hsz)
  clear Ox0_1 Lx0_1 Ox1_0 Lx1_0 HB5 hb hsz
  go_wp2_with fail
  refine (toIntS_fr _ _ _ xs0 _ (hs0.below HB6.out (Nat.le_refl _)) (by omega)).mono ?_
  rintro e w7 ⟨Ay0, ny0, cy0, rfl, ho, hb⟩
  have hsz := hb.size
  have HB7 := Lib.hid (HB6.out.trans (hb.mono HB6.out.size))
  have Ox0_3 := Lib.hid (Ox0_2.out.below hb Lx0_2.out)
  have Lx0_3 := Lib.hid (Nat.le_trans Lx0_2.out hsz)
  have Ox1_2 := Lib.hid (Ox1_1.out.below hb Lx1_1.out)
  have Lx1_2 := Lib.hid (Nat.le_trans Lx1_1.out hsz)
  have Oy0_0 := Lib.hid ho
  have Ly0_0 := Lib.hid (Nat.le_refl w7.heap.size)
  have Ny0 := Lib.hid ho.len
  have Gy0 := Lib.hid HB6.out.size
  have Dx0_y0 : Hid (_ ≤ w6.heap.size) := Lx0_2
  have Dx1_y0 : Hid (_ ≤ w6.heap.size) := Lx1_1
  clear Ox0_2 Lx0_2 Ox1_1 Lx1_1 HB6 hb hsz ho
  have Ey0 : ny0 ≤ 1099511627776 := by have := Ny0.out; have := hs0.1; omega
  have Qy0 : ny0 ≤ 1048576 := by have := Ny0.out; have := hs0.1; omega
  go_wp2_with fail
  refine (eqIntS_any _ _ _ _ _ _ xs0 xs0 _ Ox0_3.out.si Oy0_0.out.si Ex0 Ey0).mono ?_
  rintro e w8 ⟨rfl, hd⟩
  rw [eqL_self]
  have hb : Below w7.heap.size w7 w8 := hd.below _
  have hsz := hb.size
  have HB8 := Lib.hid (HB7.out.trans (hb.mono HB7.out.size))
  have Ox0_4 := Lib.hid (Ox0_3.out.below hb Lx0_3.out)
  have Lx0_4 := Lib.hid (Nat.le_trans Lx0_3.out hsz)
  have Ox1_3 := Lib.hid (Ox1_2.out.below hb Lx1_2.out)
  have Lx1_3 := Lib.hid (Nat.le_trans Lx1_2.out hsz)
  have Oy0_1 := Lib.hid (Oy0_0.out.below hb Ly0_0.out)
  have Ly0_1 := Lib.hid (Nat.le_trans Ly0_0.out hsz)
  clear Ox0_3 Lx0_3 Ox1_2 Lx1_2 Oy0_0 Ly0_0 HB7 hb hsz hd
  go_wp2_with fail
  refine (toIntS_fr _ _ _ xs1 _ (hs1.below HB8.out (Nat.le_refl _)) (by omega)).mono ?_
  rintro e w9 ⟨Ay1, ny1, cy1, rfl, ho, hb⟩
  have hsz := hb.size
  have HB9 := Lib.hid (HB8.out.trans (hb.mono HB8.out.size))
  have Ox0_5 := Lib.hid (Ox0_4.out.below hb Lx0_4.out)
  have Lx0_5 := Lib.hid (Nat.le_trans Lx0_4.out hsz)
  have Ox1_4 := Lib.hid (Ox1_3.out.below hb Lx1_3.out)
  have Lx1_4 := Lib.hid (Nat.le_trans Lx1_3.out hsz)
  have Oy1_0 := Lib.hid ho
  have Ly1_0 := Lib.hid (Nat.le_refl w9.heap.size)
  have Ny1 := Lib.hid ho.len
  have Gy1 := Lib.hid HB8.out.size
  have Dx0_y1 : Hid (_ ≤ w8.heap.size) := Lx0_4
  have Dx1_y1 : Hid (_ ≤ w8.heap.size) := Lx1_3
  clear Ox0_4 Lx0_4 Ox1_3 Lx1_3 HB8 hb hsz ho
  have Ey1 : ny1 ≤ 1099511627776 := by have := Ny1.out; have := hs1.1; omega
  have Qy1 : ny1 ≤ 1048576 := by have := Ny1.out; have := hs1.1; omega
  go_wp2_with fail
  refine (eqIntS_any _ _ _ _ _ _ xs1 xs1 _ Ox1_4.out.si Oy1_0.out.si Ex1 Ey1).mono ?_
  rintro e w10 ⟨rfl, hd⟩
  rw [eqL_self]
  have hb : Below w9.heap.size w9 w10 := hd.below _
  have hsz := hb.size
  have HB10 := Lib.hid (HB9.out.trans (hb.mono HB9.out.size))
  have Ox0_6 := Lib.hid (Ox0_5.out.below hb Lx0_5.out)
  have Lx0_6 := Lib.hid (Nat.le_trans Lx0_5.out hsz)
  have Ox1_5 := Lib.hid (Ox1_4.out.below hb Lx1_4.out)
  have Lx1_5 := Lib.hid (Nat.le_trans Lx1_4.out hsz)
  have Oy1_1 := Lib.hid (Oy1_0.out.below hb Ly1_0.out)
  have Ly1_1 := Lib.hid (Nat.le_trans Ly1_0.out hsz)
  clear Ox0_5 Lx0_5 Ox1_4 Lx1_4 Oy1_0 Ly1_0 HB9 hb hsz hd
  go_wp2
  go_ret
  exact ⟨rfl, HB10.out⟩

set_option maxRecDepth 100000 in
theorem lifted_ContainsShape (os : Os) (started : os.Started) (H : Type) (enc : TypeId × Value → H) :
    ReturnsInHanded {} Try.checked os 5 .any (Rows.fnExactContainsShapeSpec.pre6 enc Try.prog Try.f5 Rows.fnExactContainsShapeRow.domain false) (Rows.fnExactContainsShapeSpec.post enc Try.prog Try.f5 false true false false) := by
  refine returnsInHanded_of_change (C := Try.checked) own started (by kernel_rfl) Try.func5
    (ChangeSpec.witness6 (enc := enc) (C := Try.checked) false ⟨#[], #[.slice none 0 0, .slice none 0 0], []⟩ 8 (by kernel_rfl) (by kernel_rfl) (by kernel_rfl) (by kernel_rfl)) ?_
  intro W base args ds gs before hval0 hW hcnd _
  have hval : ∀ (j : Nat) t v, Try.f5.params[j]? = some t → args[j]? = some v → Value.okWide Try.prog W .any base t v := hval0
  have hW' := hW
  obtain ⟨p, q, hA0, hV, rfl, hfz, hnd⟩ := hW
  have hA : DataW.TrodAll enc Try.prog W 0 (fun _ => true) true Try.f5.params.toList args.toList ds p := hA0
  rw [Try.params5] at hA hval
  obtain ⟨v0, vs0, d0, ds0, p0, q0, hargs, rfl, rfl, h0, r0⟩ := trodAll_cons hA
  obtain ⟨v1, vs1, d1, ds1, p1, q1, rfl, rfl, rfl, h1, r1⟩ := trodAll_cons r0
  obtain ⟨rfl, rfl, rfl⟩ := trodAll_nil r1
  obtain rfl : args = #[v0, v1] := by cases args; simp_all
  obtain ⟨rfl, rfl⟩ := trodVars_none hV
  obtain ⟨b0, len0, cap0, rfl⟩ := okWide_slice Try.underlying22 (hval 0 22 v0 rfl rfl)
  have k0 := h0
  have lt0 : ∀ x ∈ p0, x.block < W.heap.size := by obtain ⟨m, hm⟩ := k0; exact DataW.trod_lt m _ _ _ hm
  obtain ⟨xs0, s0, fit0⟩ := SI.of_trod h0
  obtain ⟨b1, len1, cap1, rfl⟩ := okWide_slice Try.underlying22 (hval 1 22 v1 rfl rfl)
  have k1 := h1
  have lt1 : ∀ x ∈ p1, x.block < W.heap.size := by obtain ⟨m, hm⟩ := k1; exact DataW.trod_lt m _ _ _ hm
  obtain ⟨xs1, s1, fit1⟩ := SI.of_trod h1
  clear hA0 hval0
  refine (walk_ContainsShape b0 len0 cap0 xs0 b1 len1 cap1 xs1 W s0 fit0 s1 fit1).mono fun e W' ⟨he, bel⟩ => ?_
  subst he
  exact ⟨_, rfl, _, _, _, [], _, [], hW', trodAll_mk1 (shut_bool Try.underlying4 _), (trodAll_cons_mk (Below.trod laidOut (by kernel_rfl) (of_decide_eq_true (by kernel_rfl)) k0 bel lt0) (trodAll_cons_mk (Below.trod laidOut (by kernel_rfl) (of_decide_eq_true (by kernel_rfl)) k1 bel lt1) trodAll_mk0)), rfl, bel.frame _, fun h => by cases h⟩

theorem fnExactContainsShape_holds : Rows.FnExactContainsShapeSaid :=
  OpenClaim.holds_of_wide 5 Try.f5 rfl rfl rfl rfl rfl rfl rfl ⟨rfl, rfl, rfl, rfl, rfl⟩ rfl rfl rfl rfl rfl (by kernel_rfl) Try.func5 (by kernel_rfl)
    (of_decide_eq_true (by kernel_rfl)) (by unfold Func.isWrapper; first | (rw [if_pos (by decide +kernel)]; kernel_rfl) | (rw [if_neg (by decide +kernel)]; exact ⟨rfl, rfl⟩))
    (fun os started H enc _ => lifted_ContainsShape os started H enc)
end Go.Proofs.Ythinbmjcdcmioaa
