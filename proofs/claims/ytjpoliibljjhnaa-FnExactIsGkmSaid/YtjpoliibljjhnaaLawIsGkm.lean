/-
  FnExactIsGkm: for every input the law returns true: the program's IsGkm answers as the specification's, changes no argument, and its answer owns its memory. No conditions.
-/
import Derived.Test.YtjpoliibljjhnaaPkB4
import Derived.Test.YtjpoliibljjhnaaJoinA
import Derived.Test.YtjpoliibljjhnaaJoinB
import Derived.Test.YtjpoliibljjhnaaJoinC
namespace Go.Proofs.Ytjpoliibljjhnaa
open Go.ChangeShapes Go.WideShapes Go.ChangeAt Go.RowKit

set_option maxHeartbeats 4000000 in
theorem walk_IsGkm (a0 : Int) (A1 : Option Addr) (n1 c1 : Nat) (xs1 : List Int) (A2 : Option Addr) (n2 c2 : Nat) (xs2 : List Int) (w : World) (_ha0 : -9223372036854775808 ≤ a0 ∧ a0 ≤ 9223372036854775807) (hs1 : SI w A1 n1 xs1) (_fit1 : Fits xs1) (hs2 : SI w A2 n2 xs2) (_fit2 : Fits xs2) :
    Calls Try.prog 4 #[.int .i64 a0, .slice A1 n1 c1, .slice A2 n2 c2] w fun e w' => e = .returned (.bool true) ∧ Below w.heap.size w w' := by
  by_cases hbig1 : 1048576 < n1
  · go_enter Try.func4, Try.ntmps4
    go_wp2
    go_ret
    exact ⟨rfl, Below.refl _ _⟩
  by_cases hbig2 : 1048576 < n2
  · go_enter Try.func4, Try.ntmps4
    go_wp2
    go_ret
    exact ⟨rfl, Below.refl _ _⟩
  have HB0 := Lib.hid (Below.refl w.heap.size w)
  go_enter Try.func4, Try.ntmps4
  go_wp2_with fail
  refine (toIntS_fr _ _ _ xs1 _ (hs1.below HB0.out (Nat.le_refl _)) (by omega)).mono ?_
  rintro e w1 ⟨Ap1, np1, cp1, rfl, ho, hb⟩
  have hsz := hb.size
  have HB1 := Lib.hid (HB0.out.trans (hb.mono HB0.out.size))
  have Op1_0 := Lib.hid ho
  have Lp1_0 := Lib.hid (Nat.le_refl w1.heap.size)
  have Np1 := Lib.hid ho.len
  have Gp1 := Lib.hid HB0.out.size
  clear HB0 hb hsz ho
  have Ep1 : np1 ≤ 1099511627776 := by have := Np1.out; have := hs1.1; omega
  have Qp1 : np1 ≤ 1048576 := by have := Np1.out; have := hs1.1; omega
  go_wp2_with fail
  refine (toIntS_fr _ _ _ xs2 _ (hs2.below HB1.out (Nat.le_refl _)) (by omega)).mono ?_
  rintro e w2 ⟨Ap2, np2, cp2, rfl, ho, hb⟩
  have hsz := hb.size
  have HB2 := Lib.hid (HB1.out.trans (hb.mono HB1.out.size))
  have Op1_1 := Lib.hid (Op1_0.out.below hb Lp1_0.out)
  have Lp1_1 := Lib.hid (Nat.le_trans Lp1_0.out hsz)
  have Op2_0 := Lib.hid ho
  have Lp2_0 := Lib.hid (Nat.le_refl w2.heap.size)
  have Np2 := Lib.hid ho.len
  have Gp2 := Lib.hid HB1.out.size
  have Dp1_p2 : Hid (_ ≤ w1.heap.size) := Lp1_0
  clear Op1_0 Lp1_0 HB1 hb hsz ho
  have Ep2 : np2 ≤ 1099511627776 := by have := Np2.out; have := hs2.1; omega
  have Qp2 : np2 ≤ 1048576 := by have := Np2.out; have := hs2.1; omega
  go_wp2_with fail
  refine (specGkm_any a0 _ _ _ _ _ _ xs1 xs2 _ Op1_1.out.si Op2_0.out.si Op2_0.out.cap).mono ?_
  rintro e w3 ⟨rfl, hb⟩
  have hsz := hb.size
  have HB3 := Lib.hid (HB2.out.trans (hb.mono HB2.out.size))
  have Op1_2 := Lib.hid (Op1_1.out.below hb Lp1_1.out)
  have Lp1_2 := Lib.hid (Nat.le_trans Lp1_1.out hsz)
  have Op2_1 := Lib.hid (Op2_0.out.below hb Lp2_0.out)
  have Lp2_1 := Lib.hid (Nat.le_trans Lp2_0.out hsz)
  clear Op1_1 Lp1_1 Op2_0 Lp2_0 HB2 hb hsz
  go_wp2_with fail
  refine (toIntS_fr _ _ _ xs1 _ (hs1.below HB3.out (Nat.le_refl _)) (by omega)).mono ?_
  rintro e w4 ⟨Ax1, nx1, cx1, rfl, ho, hb⟩
  have hsz := hb.size
  have HB4 := Lib.hid (HB3.out.trans (hb.mono HB3.out.size))
  have Ox1_0 := Lib.hid ho
  have Lx1_0 := Lib.hid (Nat.le_refl w4.heap.size)
  have Nx1 := Lib.hid ho.len
  have Gx1 := Lib.hid HB3.out.size
  clear HB3 hb hsz ho
  have Ex1 : nx1 ≤ 1099511627776 := by have := Nx1.out; have := hs1.1; omega
  have Qx1 : nx1 ≤ 1048576 := by have := Nx1.out; have := hs1.1; omega
  go_wp2_with fail
  refine (toIntS_fr _ _ _ xs2 _ (hs2.below HB4.out (Nat.le_refl _)) (by omega)).mono ?_
  rintro e w5 ⟨Ax2, nx2, cx2, rfl, ho, hb⟩
  have hsz := hb.size
  have HB5 := Lib.hid (HB4.out.trans (hb.mono HB4.out.size))
  have Ox1_1 := Lib.hid (Ox1_0.out.below hb Lx1_0.out)
  have Lx1_1 := Lib.hid (Nat.le_trans Lx1_0.out hsz)
  have Ox2_0 := Lib.hid ho
  have Lx2_0 := Lib.hid (Nat.le_refl w5.heap.size)
  have Nx2 := Lib.hid ho.len
  have Gx2 := Lib.hid HB4.out.size
  have Dx1_x2 : Hid (_ ≤ w4.heap.size) := Lx1_0
  clear Ox1_0 Lx1_0 HB4 hb hsz ho
  have Ex2 : nx2 ≤ 1099511627776 := by have := Nx2.out; have := hs2.1; omega
  have Qx2 : nx2 ≤ 1048576 := by have := Nx2.out; have := hs2.1; omega
  go_wp2_with fail
  refine (implGkm_any a0 _ _ _ _ _ _ xs1 xs2 _ Ox1_1.out.si Ox2_0.out.si Ox2_0.out.cap Ex1 Ex2).mono ?_
  rintro e w6 ⟨rfl, hb⟩
  have hsz := hb.size
  have HB6 := Lib.hid (HB5.out.trans (hb.mono HB5.out.size))
  have Ox1_2 := Lib.hid (Ox1_1.out.below hb Lx1_1.out)
  have Lx1_2 := Lib.hid (Nat.le_trans Lx1_1.out hsz)
  have Ox2_1 := Lib.hid (Ox2_0.out.below hb Lx2_0.out)
  have Lx2_1 := Lib.hid (Nat.le_trans Lx2_0.out hsz)
  clear Ox1_1 Lx1_1 Ox2_0 Lx2_0 HB5 hb hsz
  go_wp2_with fail
  refine (toIntS_fr _ _ _ xs1 _ (hs1.below HB6.out (Nat.le_refl _)) (by omega)).mono ?_
  rintro e w7 ⟨Ay1, ny1, cy1, rfl, ho, hb⟩
  have hsz := hb.size
  have HB7 := Lib.hid (HB6.out.trans (hb.mono HB6.out.size))
  have Ox1_3 := Lib.hid (Ox1_2.out.below hb Lx1_2.out)
  have Lx1_3 := Lib.hid (Nat.le_trans Lx1_2.out hsz)
  have Ox2_2 := Lib.hid (Ox2_1.out.below hb Lx2_1.out)
  have Lx2_2 := Lib.hid (Nat.le_trans Lx2_1.out hsz)
  have Oy1_0 := Lib.hid ho
  have Ly1_0 := Lib.hid (Nat.le_refl w7.heap.size)
  have Ny1 := Lib.hid ho.len
  have Gy1 := Lib.hid HB6.out.size
  have Dx1_y1 : Hid (_ ≤ w6.heap.size) := Lx1_2
  have Dx2_y1 : Hid (_ ≤ w6.heap.size) := Lx2_1
  clear Ox1_2 Lx1_2 Ox2_1 Lx2_1 HB6 hb hsz ho
  have Ey1 : ny1 ≤ 1099511627776 := by have := Ny1.out; have := hs1.1; omega
  have Qy1 : ny1 ≤ 1048576 := by have := Ny1.out; have := hs1.1; omega
  go_wp2_with fail
  refine (eqIntS_any _ _ _ _ _ _ xs1 xs1 _ Ox1_3.out.si Oy1_0.out.si Ex1 Ey1).mono ?_
  rintro e w8 ⟨rfl, hd⟩
  rw [eqL_self]
  have hb : Below w7.heap.size w7 w8 := hd.below _
  have hsz := hb.size
  have HB8 := Lib.hid (HB7.out.trans (hb.mono HB7.out.size))
  have Ox1_4 := Lib.hid (Ox1_3.out.below hb Lx1_3.out)
  have Lx1_4 := Lib.hid (Nat.le_trans Lx1_3.out hsz)
  have Ox2_3 := Lib.hid (Ox2_2.out.below hb Lx2_2.out)
  have Lx2_3 := Lib.hid (Nat.le_trans Lx2_2.out hsz)
  have Oy1_1 := Lib.hid (Oy1_0.out.below hb Ly1_0.out)
  have Ly1_1 := Lib.hid (Nat.le_trans Ly1_0.out hsz)
  clear Ox1_3 Lx1_3 Ox2_2 Lx2_2 Oy1_0 Ly1_0 HB7 hb hsz hd
  go_wp2_with fail
  refine (toIntS_fr _ _ _ xs2 _ (hs2.below HB8.out (Nat.le_refl _)) (by omega)).mono ?_
  rintro e w9 ⟨Ay2, ny2, cy2, rfl, ho, hb⟩
  have hsz := hb.size
  have HB9 := Lib.hid (HB8.out.trans (hb.mono HB8.out.size))
  have Ox1_5 := Lib.hid (Ox1_4.out.below hb Lx1_4.out)
  have Lx1_5 := Lib.hid (Nat.le_trans Lx1_4.out hsz)
  have Ox2_4 := Lib.hid (Ox2_3.out.below hb Lx2_3.out)
  have Lx2_4 := Lib.hid (Nat.le_trans Lx2_3.out hsz)
  have Oy2_0 := Lib.hid ho
  have Ly2_0 := Lib.hid (Nat.le_refl w9.heap.size)
  have Ny2 := Lib.hid ho.len
  have Gy2 := Lib.hid HB8.out.size
  have Dx1_y2 : Hid (_ ≤ w8.heap.size) := Lx1_4
  have Dx2_y2 : Hid (_ ≤ w8.heap.size) := Lx2_3
  clear Ox1_4 Lx1_4 Ox2_3 Lx2_3 HB8 hb hsz ho
  have Ey2 : ny2 ≤ 1099511627776 := by have := Ny2.out; have := hs2.1; omega
  have Qy2 : ny2 ≤ 1048576 := by have := Ny2.out; have := hs2.1; omega
  go_wp2_with fail
  refine (eqIntS_any _ _ _ _ _ _ xs2 xs2 _ Ox2_4.out.si Oy2_0.out.si Ex2 Ey2).mono ?_
  rintro e w10 ⟨rfl, hd⟩
  rw [eqL_self]
  have hb : Below w9.heap.size w9 w10 := hd.below _
  have hsz := hb.size
  have HB10 := Lib.hid (HB9.out.trans (hb.mono HB9.out.size))
  have Ox1_6 := Lib.hid (Ox1_5.out.below hb Lx1_5.out)
  have Lx1_6 := Lib.hid (Nat.le_trans Lx1_5.out hsz)
  have Ox2_5 := Lib.hid (Ox2_4.out.below hb Lx2_4.out)
  have Lx2_5 := Lib.hid (Nat.le_trans Lx2_4.out hsz)
  have Oy2_1 := Lib.hid (Oy2_0.out.below hb Ly2_0.out)
  have Ly2_1 := Lib.hid (Nat.le_trans Ly2_0.out hsz)
  clear Ox1_5 Lx1_5 Ox2_4 Lx2_4 Oy2_0 Ly2_0 HB9 hb hsz hd
  go_wp2
  go_ret
  exact ⟨rfl, HB10.out⟩

set_option maxRecDepth 100000 in
theorem lifted_IsGkm (os : Os) (started : os.Started) (H : Type) (enc : TypeId × Value → H) :
    ReturnsInHanded {} Try.checked os 4 .any (Rows.fnExactIsGkmSpec.pre6 enc Try.prog Try.f4 Rows.fnExactIsGkmRow.domain false) (Rows.fnExactIsGkmSpec.post enc Try.prog Try.f4 false true false false) := by
  refine returnsInHanded_of_change (C := Try.checked) own started (by kernel_rfl) Try.func4
    (ChangeSpec.witness6 (enc := enc) (C := Try.checked) false ⟨#[], #[.int .i64 0, .slice none 0 0, .slice none 0 0], []⟩ 8 (by kernel_rfl) (by kernel_rfl) (by kernel_rfl) (by kernel_rfl)) ?_
  intro W base args ds gs before hval0 hW hcnd _
  have hval : ∀ (j : Nat) t v, Try.f4.params[j]? = some t → args[j]? = some v → Value.okWide Try.prog W .any base t v := hval0
  have hW' := hW
  obtain ⟨p, q, hA0, hV, rfl, hfz, hnd⟩ := hW
  have hA : DataW.TrodAll enc Try.prog W 0 (fun _ => true) true Try.f4.params.toList args.toList ds p := hA0
  rw [Try.params4] at hA hval
  obtain ⟨v0, vs0, d0, ds0, p0, q0, hargs, rfl, rfl, h0, r0⟩ := trodAll_cons hA
  obtain ⟨v1, vs1, d1, ds1, p1, q1, rfl, rfl, rfl, h1, r1⟩ := trodAll_cons r0
  obtain ⟨v2, vs2, d2, ds2, p2, q2, rfl, rfl, rfl, h2, r2⟩ := trodAll_cons r1
  obtain ⟨rfl, rfl, rfl⟩ := trodAll_nil r2
  obtain rfl : args = #[v0, v1, v2] := by cases args; simp_all
  obtain ⟨rfl, rfl⟩ := trodVars_none hV
  obtain ⟨a0, rfl, rfl, rfl, wf0⟩ := open_int Try.underlying3 (hval 0 3 v0 rfl rfl) h0
  have hb0 : -9223372036854775808 ≤ a0 ∧ a0 ≤ 9223372036854775807 := by have := bounds_i64 wf0; omega
  obtain ⟨b1, len1, cap1, rfl⟩ := okWide_slice Try.underlying22 (hval 1 22 v1 rfl rfl)
  have k1 := h1
  have lt1 : ∀ x ∈ p1, x.block < W.heap.size := by obtain ⟨m, hm⟩ := k1; exact DataW.trod_lt m _ _ _ hm
  obtain ⟨xs1, s1, fit1⟩ := SI.of_trod h1
  obtain ⟨b2, len2, cap2, rfl⟩ := okWide_slice Try.underlying22 (hval 2 22 v2 rfl rfl)
  have k2 := h2
  have lt2 : ∀ x ∈ p2, x.block < W.heap.size := by obtain ⟨m, hm⟩ := k2; exact DataW.trod_lt m _ _ _ hm
  obtain ⟨xs2, s2, fit2⟩ := SI.of_trod h2
  clear hA0 hval0
  refine (walk_IsGkm a0 b1 len1 cap1 xs1 b2 len2 cap2 xs2 W hb0 s1 fit1 s2 fit2).mono fun e W' ⟨he, bel⟩ => ?_
  subst he
  exact ⟨_, rfl, _, _, _, [], _, [], hW', trodAll_mk1 (shut_bool Try.underlying4 _), (trodAll_cons_mk (shut_int Try.underlying3 wf0) (trodAll_cons_mk (Below.trod laidOut (by kernel_rfl) (of_decide_eq_true (by kernel_rfl)) k1 bel lt1) (trodAll_cons_mk (Below.trod laidOut (by kernel_rfl) (of_decide_eq_true (by kernel_rfl)) k2 bel lt2) trodAll_mk0))), rfl, bel.frame _, fun h => by cases h⟩

theorem fnExactIsGkm_holds : Rows.FnExactIsGkmSaid :=
  OpenClaim.holds_of_wide 4 Try.f4 rfl rfl rfl rfl rfl rfl rfl ⟨rfl, rfl, rfl, rfl, rfl⟩ rfl rfl rfl rfl rfl (by kernel_rfl) Try.func4 (by unfold joinedFacts; rw [mayEnter_ok, liftsFinal_ok, make_ok]; kernel_rfl)
    (of_decide_eq_true (by kernel_rfl)) (by unfold Func.isWrapper; first | (rw [if_pos (by decide +kernel)]; kernel_rfl) | (rw [if_neg (by decide +kernel)]; exact ⟨rfl, rfl⟩))
    (fun os started H enc _ => lifted_IsGkm os started H enc)
end Go.Proofs.Ytjpoliibljjhnaa
