/-
  FnExactFormatClasses: for every input the law returns true: the program's FormatClasses answers as the specification's, changes no argument, and its answer owns its memory. Listed: the library's table of powers of ten (and two tables of package math/bits), tied to the program's text. No conditions of ours.
-/
import Derived.Test.YtdiiaallklkomaaDoorPkA4
import Derived.Test.YtdiiaallklkomaaDoorTie
import Derived.Test.YtdiiaallklkomaaDoorCards
import Derived.SevenTiedAt
namespace Go.Proofs.YtdiiaallklkomaaDoor
open Go.ChangeShapes Go.WideShapes Go.ChangeAt Go.RowKit

set_option maxHeartbeats 4000000 in
theorem walk_FormatClasses (A0 : Option Addr) (n0 c0 : Nat) (ts0 : List Tm) (w : World) (hs0 : TS w A0 n0 ts0) (hn0 : n0 ≤ 9223372036854775807) (hne0 : ∀ k, k < n0 → (tm ts0 k).1.length ≤ 9223372036854775807) (hft : FitT ts0) (htab : Lib.TabIs Tryd.prog w "internal/strconv.uint64pow10" .u64 Lib.pow10Tab) :
    Calls Tryd.prog 6 #[.slice A0 n0 c0] w fun e w' => e = .returned (.bool true) ∧ Below w.heap.size w w' := by
  have HTAB := Lib.hid htab
  clear htab
  have HFT := Lib.hid hft
  clear hft
  have HB0 := Lib.hid (Below.refl w.heap.size w)
  go_enter Tryd.func6, Tryd.ntmps6
  go_wp2_with fail
  refine (Cls.szTermS_anyC _ _ _ ts0 _ (hs0.below HB0.out (Nat.le_refl _)) hn0 hne0).mono ?_
  rintro e w1 ⟨⟨r0, rfl, hr⟩, hb⟩
  have hsz := hb.size
  have HB1 := Lib.hid (HB0.out.trans (hb.mono HB0.out.size))
  clear HB0 hb hsz
  rcases hr with hr | ⟨hr0, hsm, hsl⟩
  · go_wp2
    go_ret
    exact ⟨rfl, HB1.out⟩
  have hr0 : ¬ r0 < 0 := by omega
  have SM0 := Lib.hid (And.intro hsm hsl)
  clear hr0 hsm hsl
  go_wp2_with fail
  refine (Cls.toTermS_anyC _ _ _ ts0 _ (hs0.below HB1.out (Nat.le_refl _)) (by have := SM0.out.1; omega) (fun k hk => Nat.le_trans (SM0.out.2 k hk) (by decide))).mono ?_
  rintro e w2 ⟨Ap0, np0, cp0, rfl, ho, hb⟩
  have hsz := hb.size
  have HB2 := Lib.hid (HB1.out.trans (hb.mono HB1.out.size))
  have Op0_0 := Lib.hid ho
  have Lp0_0 := Lib.hid (Nat.le_refl w2.heap.size)
  have Np0 := Lib.hid ho.len
  have Gp0 := Lib.hid HB1.out.size
  clear HB1 hb hsz ho
  have Ep0 : np0 ≤ 1099511627776 := by have := Np0.out; have := hs0.1; have := SM0.out.1; omega
  have Fp0 : Hid (∀ k, k < np0 → (tm ts0 k).1.length ≤ 1099511627776) := Lib.hid (fun k hk => Nat.le_trans (SM0.out.2 k (by have := Np0.out; have := hs0.1; omega)) (by decide))
  go_wp2_with fail
  refine (specFcl_any _ _ _ ts0 _ Op0_0.out.si (by have := Np0.out; have := hs0.1; have := SM0.out.1; omega) (fun k hk => SM0.out.2 k (by have := Np0.out; have := hs0.1; omega)) HFT.out).mono ?_
  rintro e w3 ⟨rfl, hb⟩
  have hsz := hb.size
  have HB3 := Lib.hid (HB2.out.trans (hb.mono HB2.out.size))
  have Op0_1 := Lib.hid (Op0_0.out.below hb Lp0_0.out)
  have Lp0_1 := Lib.hid (Nat.le_trans Lp0_0.out hsz)
  clear Op0_0 Lp0_0 HB2 hb hsz
  go_wp2_with fail
  refine (Cls.toTermS_anyC _ _ _ ts0 _ (hs0.below HB3.out (Nat.le_refl _)) (by have := SM0.out.1; omega) (fun k hk => Nat.le_trans (SM0.out.2 k hk) (by decide))).mono ?_
  rintro e w4 ⟨Ax0, nx0, cx0, rfl, ho, hb⟩
  have hsz := hb.size
  have HB4 := Lib.hid (HB3.out.trans (hb.mono HB3.out.size))
  have Ox0_0 := Lib.hid ho
  have Lx0_0 := Lib.hid (Nat.le_refl w4.heap.size)
  have Nx0 := Lib.hid ho.len
  have Gx0 := Lib.hid HB3.out.size
  clear HB3 hb hsz ho
  have Ex0 : nx0 ≤ 1099511627776 := by have := Nx0.out; have := hs0.1; have := SM0.out.1; omega
  have Fx0 : Hid (∀ k, k < nx0 → (tm ts0 k).1.length ≤ 1099511627776) := Lib.hid (fun k hk => Nat.le_trans (SM0.out.2 k (by have := Nx0.out; have := hs0.1; omega)) (by decide))
  go_wp2_with fail
  refine (implFcl_any _ _ _ ts0 _ Ox0_0.out.si (by have := Nx0.out; have := hs0.1; have := SM0.out.1; omega) (fun k hk => SM0.out.2 k (by have := Nx0.out; have := hs0.1; omega)) HFT.out (tab_below HTAB.out HB4.out)).mono ?_
  rintro e w5 ⟨rfl, hb⟩
  have hsz := hb.size
  have HB5 := Lib.hid (HB4.out.trans (hb.mono HB4.out.size))
  have Ox0_1 := Lib.hid (Ox0_0.out.below hb Lx0_0.out)
  have Lx0_1 := Lib.hid (Nat.le_trans Lx0_0.out hsz)
  clear Ox0_0 Lx0_0 HB4 hb hsz
  go_wp2_with fail
  refine (Cls.toTermS_anyC _ _ _ ts0 _ (hs0.below HB5.out (Nat.le_refl _)) (by have := SM0.out.1; omega) (fun k hk => Nat.le_trans (SM0.out.2 k hk) (by decide))).mono ?_
  rintro e w6 ⟨Ay0, ny0, cy0, rfl, ho, hb⟩
  have hsz := hb.size
  have HB6 := Lib.hid (HB5.out.trans (hb.mono HB5.out.size))
  have Ox0_2 := Lib.hid (Ox0_1.out.below hb Lx0_1.out)
  have Lx0_2 := Lib.hid (Nat.le_trans Lx0_1.out hsz)
  have Oy0_0 := Lib.hid ho
  have Ly0_0 := Lib.hid (Nat.le_refl w6.heap.size)
  have Ny0 := Lib.hid ho.len
  have Gy0 := Lib.hid HB5.out.size
  have Dx0_y0 : Hid (_ ≤ w5.heap.size) := Lx0_1
  clear Ox0_1 Lx0_1 HB5 hb hsz ho
  have Ey0 : ny0 ≤ 1099511627776 := by have := Ny0.out; have := hs0.1; have := SM0.out.1; omega
  have Fy0 : Hid (∀ k, k < ny0 → (tm ts0 k).1.length ≤ 1099511627776) := Lib.hid (fun k hk => Nat.le_trans (SM0.out.2 k (by have := Ny0.out; have := hs0.1; omega)) (by decide))
  go_wp2_with fail
  refine (Cls.eqTermS_anyC _ _ _ _ _ _ ts0 ts0 _ Ox0_2.out.si Oy0_0.out.si Ex0 Ey0 Fx0.out Fy0.out).mono ?_
  rintro e w7 ⟨rfl, hb⟩
  rw [eqTs_self]
  have hsz := hb.size
  have HB7 := Lib.hid (HB6.out.trans (hb.mono HB6.out.size))
  have Ox0_3 := Lib.hid (Ox0_2.out.below hb Lx0_2.out)
  have Lx0_3 := Lib.hid (Nat.le_trans Lx0_2.out hsz)
  have Oy0_1 := Lib.hid (Oy0_0.out.below hb Ly0_0.out)
  have Ly0_1 := Lib.hid (Nat.le_trans Ly0_0.out hsz)
  clear Ox0_2 Lx0_2 Oy0_0 Ly0_0 HB6 hb hsz
  go_wp2
  go_ret
  exact ⟨rfl, HB7.out⟩

set_option maxRecDepth 100000 in
theorem lifted_FormatClasses (os : Os) (started : os.Started) (H : Type) (enc : TypeId × Value → H) :
    ReturnsInHanded {} Tryd.checked os 6 .any (fun w args => (Rows.fnExactFormatClassesSpec.pre enc Tryd.prog Tryd.f6 Rows.fnExactFormatClassesRow.domain false w args ∧ laidMetH Tryd.prog Rows.fnExactFormatClassesRow.laid w) ∧ sizedMet enc Tryd.prog Tryd.f6 (OpenSpec.ofChange Rows.fnExactFormatClassesSpec) false w args)
      (Rows.fnExactFormatClassesSpec.post enc Tryd.prog Tryd.f6 false true false false) := by
  refine returnsInHanded_of_change_and (C := Tryd.checked) (X := fun w _ => laidMetH Tryd.prog Rows.fnExactFormatClassesRow.laid w) (fun _ _ _ hh h => h.of_heap hh) ownF started (by kernel_rfl) Tryd.func6
    (ChangeSpec.witness_shaped (enc := enc) (C := Tryd.checked) (os := os) (X := fun w _ => laidMetH Tryd.prog Rows.fnExactFormatClassesRow.laid w) false (World.laidAll Tryd.prog os Rows.fnExactFormatClassesRow.laid) #[.slice none 0 0] 8 (World.laidAll_os _ _ _)
      (World.shaped_of_ZipB (by kernel_rfl) (by kernel_rfl)) (by kernel_rfl) (by kernel_rfl) (by kernel_rfl)
      (by rw [MakeChecks.laidMetH_plain _ _ _ (by kernel_rfl)]; exact laidMet_laidAll _ (by kernel_rfl) (by kernel_rfl))) ?_
  intro W base args ds gs before hval0 hW hcnd _ hL _
  have hval : ∀ (j : Nat) t v, Tryd.f6.params[j]? = some t → args[j]? = some v → Value.okWide Tryd.prog W .any base t v := hval0
  have hW' := hW
  obtain ⟨p, q, hA0, hV, rfl, hfz, hnd⟩ := hW
  have hA : DataW.TrodAll enc Tryd.prog W 0 (fun _ => true) true Tryd.f6.params.toList args.toList ds p := hA0
  rw [Tryd.params6] at hA hval
  obtain ⟨v0, vs0, d0, ds0, p0, q0, hargs, rfl, rfl, h0, r0⟩ := trodAll_cons hA
  obtain ⟨rfl, rfl, rfl⟩ := trodAll_nil r0
  obtain rfl : args = #[v0] := by cases args; simp_all
  obtain ⟨rfl, rfl⟩ := trodVars_none hV
  obtain ⟨b0, len0, cap0, rfl⟩ := okWide_slice Tryd.underlying36 (hval 0 36 v0 rfl rfl)
  have k0 := h0
  have lt0 : ∀ x ∈ p0, x.block < W.heap.size := by obtain ⟨m, hm⟩ := k0; exact DataW.trod_lt m _ _ _ hm
  obtain ⟨ts0, s0, hn0, hne0, hft0⟩ := Cls.TS.of_trodCF h0
  clear hA0 hval0
  refine (walk_FormatClasses b0 len0 cap0 ts0 W s0 hn0 hne0 hft0 (pow_of_laid hL)).mono fun e W' ⟨he, bel⟩ => ?_
  subst he
  exact ⟨_, rfl, _, _, _, [], _, [], hW', trodAll_mk1 (shut_bool Tryd.underlying4 _), (trodAll_cons_mk (Below.trod laidOut (by kernel_rfl) (of_decide_eq_true (by kernel_rfl)) k0 bel lt0) trodAll_mk0), rfl, bel.frame _, fun h => by cases h⟩

theorem fnExactFormatClasses_row : Rows.FnExactFormatClassesSaid :=
  OpenClaim.holds_of_wide 6 Tryd.f6 rfl rfl rfl rfl rfl rfl rfl ⟨rfl, rfl, rfl, rfl, rfl⟩ rfl rfl rfl rfl rfl (by kernel_rfl) Tryd.func6 (by kernel_rfl)
    (of_decide_eq_true (by kernel_rfl)) (by unfold Func.isWrapper; first | (rw [if_pos (by decide +kernel)]; kernel_rfl) | (rw [if_neg (by decide +kernel)]; exact ⟨rfl, rfl⟩))
    (fun os started H enc _ => lifted_FormatClasses os started H enc)
theorem fnExactFormatClasses_holds : Rows.FnExactFormatClassesCardSaid :=
  Claim7.holds_tied_plain_at .later [] [.data, .data, .data] true Rows.fnExactFormatClassesCard.stood.harness false fnExactFormatClasses_row (fun _ h => by cases h) (by kernel_rfl) (fun _ h => by cases h) fnExactFormatClasses_row_tie rfl ⟨rfl, rfl⟩ (by kernel_rfl) rfl
    (fun f fn hf hfn => by
      obtain rfl : f = 6 := Option.some.inj ((show Tryd.prog.funcNamed "loop.example/g03113/laws.FnExactFormatClasses" = some 6 by kernel_rfl).symm.trans hf) |>.symm
      obtain rfl : fn = Tryd.f6 := (Option.some.inj (Tryd.func6.symm.trans hfn)).symm
      exact ⟨by kernel_rfl, fun j t ht => by
        rw [Tryd.params6] at ht
        have hm : t ∈ [36] := by simpa using Array.mem_of_getElem? ht
        have hall : ([36].all fun u => !Tryd.prog.wantsStandIn u) = true := by kernel_rfl
        exact (show Tryd.prog.wantsStandIn t = false by simpa using List.all_eq_true.1 hall t hm)⟩)
    (by kernel_rfl)
end Go.Proofs.YtdiiaallklkomaaDoor
