/-
  FnExactIsInBox: for every input the law returns true: the program's IsInBox answers as the specification's, changes no argument, and its answer owns its memory. No conditions.
-/
import Derived.Test.YtdkcngilmdpbgaaDeg
import Derived.Test.YtdkcngilmdpbgaaFrame
namespace Go.Proofs.Ytdkcngilmdpbgaa
open Go.ChangeShapes Go.WideShapes Go.ChangeAt Go.RowKit

set_option maxHeartbeats 4000000 in
theorem walk_IsInBox (A0 : Option Addr) (n0 c0 : Nat) (xs0 : List Int) (a1 : Int) (a2 : Int) (w : World) (hs0 : SI w A0 n0 xs0) (_fit0 : Fits xs0) (_ha1 : -9223372036854775808 ≤ a1 ∧ a1 ≤ 9223372036854775807) (_ha2 : -9223372036854775808 ≤ a2 ∧ a2 ≤ 9223372036854775807) :
    Calls Try.prog 3 #[.slice A0 n0 c0, .int .i64 a1, .int .i64 a2] w fun e w' => e = .returned (.bool true) ∧ Below w.heap.size w w' := by
  by_cases hbig0 : 1048576 < n0
  · go_enter Try.func3, Try.ntmps3
    go_wp2
    go_ret
    exact ⟨rfl, Below.refl _ _⟩
  have HB0 := Lib.hid (Below.refl w.heap.size w)
  go_enter Try.func3, Try.ntmps3
  go_wp2_with fail
  refine (toIntS_fr _ _ _ xs0 _ (hs0.below HB0.out (Nat.le_refl _)) (by omega)).mono ?_
  rintro e w1 ⟨Ap0, np0, cp0, rfl, ho, hb⟩
  have hsz := hb.size
  have HB1 := Lib.hid (HB0.out.trans (hb.mono HB0.out.size))
  have Op0_0 := Lib.hid ho
  have Lp0_0 := Lib.hid (Nat.le_refl w1.heap.size)
  have Np0 := Lib.hid ho.len
  have Gp0 := Lib.hid HB0.out.size
  clear HB0 hb hsz ho
  have Ep0 : np0 ≤ 1099511627776 := by have := Np0.out; have := hs0.1; omega
  have Qp0 : np0 ≤ 1048576 := by have := Np0.out; have := hs0.1; omega
  go_wp2_with fail
  refine (specInBox_any _ _ _ xs0 a1 a2 _ Op0_0.out.si Ep0).mono ?_
  rintro e w2 ⟨rfl, hd⟩
  have hb : Below w1.heap.size w1 w2 := hd.below _
  have hsz := hb.size
  have HB2 := Lib.hid (HB1.out.trans (hb.mono HB1.out.size))
  have Op0_1 := Lib.hid (Op0_0.out.below hb Lp0_0.out)
  have Lp0_1 := Lib.hid (Nat.le_trans Lp0_0.out hsz)
  clear Op0_0 Lp0_0 HB1 hb hsz hd
  go_wp2_with fail
  refine (toIntS_fr _ _ _ xs0 _ (hs0.below HB2.out (Nat.le_refl _)) (by omega)).mono ?_
  rintro e w3 ⟨Ax0, nx0, cx0, rfl, ho, hb⟩
  have hsz := hb.size
  have HB3 := Lib.hid (HB2.out.trans (hb.mono HB2.out.size))
  have Ox0_0 := Lib.hid ho
  have Lx0_0 := Lib.hid (Nat.le_refl w3.heap.size)
  have Nx0 := Lib.hid ho.len
  have Gx0 := Lib.hid HB2.out.size
  clear HB2 hb hsz ho
  have Ex0 : nx0 ≤ 1099511627776 := by have := Nx0.out; have := hs0.1; omega
  have Qx0 : nx0 ≤ 1048576 := by have := Nx0.out; have := hs0.1; omega
  go_wp2_with fail
  refine (implInBox_any _ _ _ xs0 a1 a2 _ Ox0_0.out.si Ex0).mono ?_
  rintro e w4 ⟨rfl, hd⟩
  have hb : Below w3.heap.size w3 w4 := hd.below _
  have hsz := hb.size
  have HB4 := Lib.hid (HB3.out.trans (hb.mono HB3.out.size))
  have Ox0_1 := Lib.hid (Ox0_0.out.below hb Lx0_0.out)
  have Lx0_1 := Lib.hid (Nat.le_trans Lx0_0.out hsz)
  clear Ox0_0 Lx0_0 HB3 hb hsz hd
  go_wp2_with fail
  refine (toIntS_fr _ _ _ xs0 _ (hs0.below HB4.out (Nat.le_refl _)) (by omega)).mono ?_
  rintro e w5 ⟨Ay0, ny0, cy0, rfl, ho, hb⟩
  have hsz := hb.size
  have HB5 := Lib.hid (HB4.out.trans (hb.mono HB4.out.size))
  have Ox0_2 := Lib.hid (Ox0_1.out.below hb Lx0_1.out)
  have Lx0_2 := Lib.hid (Nat.le_trans Lx0_1.out hsz)
  have Oy0_0 := Lib.hid ho
  have Ly0_0 := Lib.hid (Nat.le_refl w5.heap.size)
  have Ny0 := Lib.hid ho.len
  have Gy0 := Lib.hid HB4.out.size
  have Dx0_y0 : Hid (_ ≤ w4.heap.size) := Lx0_1
  clear Ox0_1 Lx0_1 HB4 hb hsz ho
  have Ey0 : ny0 ≤ 1099511627776 := by have := Ny0.out; have := hs0.1; omega
  have Qy0 : ny0 ≤ 1048576 := by have := Ny0.out; have := hs0.1; omega
  go_wp2_with fail
  refine (eqIntS_any _ _ _ _ _ _ xs0 xs0 _ Ox0_2.out.si Oy0_0.out.si Ex0 Ey0).mono ?_
  rintro e w6 ⟨rfl, hd⟩
  rw [eqL_self]
  have hb : Below w5.heap.size w5 w6 := hd.below _
  have hsz := hb.size
  have HB6 := Lib.hid (HB5.out.trans (hb.mono HB5.out.size))
  have Ox0_3 := Lib.hid (Ox0_2.out.below hb Lx0_2.out)
  have Lx0_3 := Lib.hid (Nat.le_trans Lx0_2.out hsz)
  have Oy0_1 := Lib.hid (Oy0_0.out.below hb Ly0_0.out)
  have Ly0_1 := Lib.hid (Nat.le_trans Ly0_0.out hsz)
  clear Ox0_2 Lx0_2 Oy0_0 Ly0_0 HB5 hb hsz hd
  go_wp2
  go_ret
  exact ⟨rfl, HB6.out⟩

set_option maxRecDepth 100000 in
theorem lifted_IsInBox (os : Os) (started : os.Started) (H : Type) (enc : TypeId × Value → H) :
    ReturnsInHanded {} Try.checked os 3 .any (Rows.fnExactIsInBoxSpec.pre6 enc Try.prog Try.f3 Rows.fnExactIsInBoxRow.domain false) (Rows.fnExactIsInBoxSpec.post enc Try.prog Try.f3 false true false false) := by
  refine returnsInHanded_of_change (C := Try.checked) own started (by kernel_rfl) Try.func3
    (ChangeSpec.witness6 (enc := enc) (C := Try.checked) false ⟨#[], #[.slice none 0 0, .int .i64 0, .int .i64 0], []⟩ 8 (by kernel_rfl) (by kernel_rfl) (by kernel_rfl) (by kernel_rfl)) ?_
  intro W base args ds gs before hval0 hW hcnd _
  have hval : ∀ (j : Nat) t v, Try.f3.params[j]? = some t → args[j]? = some v → Value.okWide Try.prog W .any base t v := hval0
  have hW' := hW
  obtain ⟨p, q, hA0, hV, rfl, hfz, hnd⟩ := hW
  have hA : DataW.TrodAll enc Try.prog W 0 (fun _ => true) true Try.f3.params.toList args.toList ds p := hA0
  rw [Try.params3] at hA hval
  obtain ⟨v0, vs0, d0, ds0, p0, q0, hargs, rfl, rfl, h0, r0⟩ := trodAll_cons hA
  obtain ⟨v1, vs1, d1, ds1, p1, q1, rfl, rfl, rfl, h1, r1⟩ := trodAll_cons r0
  obtain ⟨v2, vs2, d2, ds2, p2, q2, rfl, rfl, rfl, h2, r2⟩ := trodAll_cons r1
  obtain ⟨rfl, rfl, rfl⟩ := trodAll_nil r2
  obtain rfl : args = #[v0, v1, v2] := by cases args; simp_all
  obtain ⟨rfl, rfl⟩ := trodVars_none hV
  obtain ⟨b0, len0, cap0, rfl⟩ := okWide_slice Try.underlying22 (hval 0 22 v0 rfl rfl)
  have k0 := h0
  have lt0 : ∀ x ∈ p0, x.block < W.heap.size := by obtain ⟨m, hm⟩ := k0; exact DataW.trod_lt m _ _ _ hm
  obtain ⟨xs0, s0, fit0⟩ := SI.of_trod h0
  obtain ⟨a1, rfl, rfl, rfl, wf1⟩ := open_int Try.underlying3 (hval 1 3 v1 rfl rfl) h1
  have hb1 : -9223372036854775808 ≤ a1 ∧ a1 ≤ 9223372036854775807 := by have := bounds_i64 wf1; omega
  obtain ⟨a2, rfl, rfl, rfl, wf2⟩ := open_int Try.underlying3 (hval 2 3 v2 rfl rfl) h2
  have hb2 : -9223372036854775808 ≤ a2 ∧ a2 ≤ 9223372036854775807 := by have := bounds_i64 wf2; omega
  clear hA0 hval0
  refine (walk_IsInBox b0 len0 cap0 xs0 a1 a2 W s0 fit0 hb1 hb2).mono fun e W' ⟨he, bel⟩ => ?_
  subst he
  exact ⟨_, rfl, _, _, _, [], _, [], hW', trodAll_mk1 (shut_bool Try.underlying4 _), (trodAll_cons_mk (Below.trod laidOut (by kernel_rfl) (of_decide_eq_true (by kernel_rfl)) k0 bel lt0) (trodAll_cons_mk (shut_int Try.underlying3 wf1) (trodAll_cons_mk (shut_int Try.underlying3 wf2) trodAll_mk0))), rfl, bel.frame _, fun h => by cases h⟩

theorem fnExactIsInBox_holds : Rows.FnExactIsInBoxSaid :=
  OpenClaim.holds_of_wide 3 Try.f3 rfl rfl rfl rfl rfl rfl rfl ⟨rfl, rfl, rfl, rfl, rfl⟩ rfl rfl rfl rfl rfl (by kernel_rfl) Try.func3 (by kernel_rfl)
    (of_decide_eq_true (by kernel_rfl)) (by unfold Func.isWrapper; first | (rw [if_pos (by decide +kernel)]; kernel_rfl) | (rw [if_neg (by decide +kernel)]; exact ⟨rfl, rfl⟩))
    (fun os started H enc _ => lifted_IsInBox os started H enc)
end Go.Proofs.Ytdkcngilmdpbgaa
