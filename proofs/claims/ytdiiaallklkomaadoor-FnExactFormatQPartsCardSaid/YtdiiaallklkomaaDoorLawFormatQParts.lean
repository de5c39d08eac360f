/-
  FnExactFormatQParts: for every input the law returns true: the program's FormatQParts answers as the specification's, changes no argument, and its answer owns its memory. Listed: the library's table of powers of ten (and two tables of package math/bits), tied to the program's text. No conditions of ours.
-/
import Derived.Test.YtdiiaallklkomaaDoorPkQ1
import Derived.Test.YtdiiaallklkomaaDoorTie
import Derived.Test.YtdiiaallklkomaaDoorCards
import Derived.SevenTiedAt
namespace Go.Proofs.YtdiiaallklkomaaDoor
open Go.ChangeShapes Go.WideShapes Go.ChangeAt Go.RowKit

set_option maxHeartbeats 4000000 in
theorem walk_FormatQParts (A0 : Option Addr) (n0 c0 : Nat) (ts0 : List Qm) (w : World) (hs0 : QS w A0 n0 ts0) (hn0 : n0 ≤ 9223372036854775807) (hne0 : ∀ k, k < n0 → (qm ts0 k).2.1.length ≤ 9223372036854775807) (hft : FitQ ts0) (htab : Lib.TabIs Tryd.prog w "internal/strconv.uint64pow10" .u64 Lib.pow10Tab) :
    Calls Tryd.prog 7 #[.slice A0 n0 c0] w fun e w' => e = .returned (.bool true) ∧ Below w.heap.size w w' := by
  have HTAB := Lib.hid htab
  have HFT := Lib.hid hft
  have HB0 := Lib.hid (Below.refl w.heap.size w)
  clear htab hft
  go_enter Tryd.func7, Tryd.ntmps7
  go_wp2_with fail
  refine (szQmS_any _ _ _ ts0 _ (hs0.below HB0.out (Nat.le_refl _)) hn0 hne0).mono ?_
  rintro e w1 ⟨⟨r0, rfl, hr⟩, hb⟩
  have HB1 := Lib.hid (HB0.out.trans (hb.mono HB0.out.size))
  clear HB0 hb
  rcases hr with hr | ⟨hr0, hsm, hsl⟩
  · go_wp2
    go_ret
    exact ⟨rfl, HB1.out⟩
  have hr0 : ¬ r0 < 0 := by omega
  have SM0 := Lib.hid (And.intro hsm hsl)
  have SM1 : Hid (n0 ≤ 1099511627776 ∧ ∀ k, k < n0 → (qm ts0 k).2.1.length ≤ 1099511627776) := Lib.hid ⟨by omega, fun k hk => Nat.le_trans (hsl k hk) (by decide)⟩
  clear hr0 hsm hsl
  go_wp2_with fail
  refine (toQmS_any _ _ _ ts0 _ (hs0.below HB1.out (Nat.le_refl _)) SM1.out.1 SM1.out.2).mono ?_
  rintro e w2 ⟨Ap, cp, rfl, ho, hb⟩
  have HB2 := Lib.hid (HB1.out.trans (hb.mono HB1.out.size))
  have Op := Lib.hid ho
  clear ho
  clear HB1 hb
  go_wp2_with fail
  refine (specFqp_any _ _ _ ts0 _ Op.out SM0.out.1 SM0.out.2 HFT.out).mono ?_
  rintro e w3 ⟨rfl, hb⟩
  have HB3 := Lib.hid (HB2.out.trans (hb.mono HB2.out.size))
  have Op_ := Lib.hid (Op.out.below hb (Nat.le_refl _))
  clear Op
  have Op := Lib.hid Op_.out
  clear Op_
  clear HB2 hb
  go_wp2_with fail
  refine (toQmS_any _ _ _ ts0 _ (hs0.below HB3.out (Nat.le_refl _)) SM1.out.1 SM1.out.2).mono ?_
  rintro e w4 ⟨Ax, cx, rfl, ho, hb⟩
  have HB4 := Lib.hid (HB3.out.trans (hb.mono HB3.out.size))
  have Op_ := Lib.hid (Op.out.below hb (Nat.le_refl _))
  clear Op
  have Op := Lib.hid Op_.out
  clear Op_
  have Ox := Lib.hid ho
  clear ho
  clear HB3 hb
  go_wp2_with fail
  refine (implFqp_any _ _ _ ts0 _ Ox.out SM0.out.1 SM0.out.2 HFT.out (tab_below HTAB.out HB4.out)).mono ?_
  rintro e w5 ⟨rfl, hb⟩
  have HB5 := Lib.hid (HB4.out.trans (hb.mono HB4.out.size))
  have Op_ := Lib.hid (Op.out.below hb (Nat.le_refl _))
  clear Op
  have Op := Lib.hid Op_.out
  clear Op_
  have Ox_ := Lib.hid (Ox.out.below hb (Nat.le_refl _))
  clear Ox
  have Ox := Lib.hid Ox_.out
  clear Ox_
  clear HB4 hb
  go_wp2_with fail
  refine (toQmS_any _ _ _ ts0 _ (hs0.below HB5.out (Nat.le_refl _)) SM1.out.1 SM1.out.2).mono ?_
  rintro e w6 ⟨Ay, cy, rfl, ho, hb⟩
  have HB6 := Lib.hid (HB5.out.trans (hb.mono HB5.out.size))
  have Op_ := Lib.hid (Op.out.below hb (Nat.le_refl _))
  clear Op
  have Op := Lib.hid Op_.out
  clear Op_
  have Ox_ := Lib.hid (Ox.out.below hb (Nat.le_refl _))
  clear Ox
  have Ox := Lib.hid Ox_.out
  clear Ox_
  have Oy := Lib.hid ho
  clear ho
  clear HB5 hb
  go_wp2_with fail
  refine (eqQmS_any _ _ _ _ _ _ ts0 ts0 _ Ox.out Oy.out SM1.out.1 SM1.out.1 SM1.out.2 SM1.out.2).mono ?_
  rintro e w7 ⟨rfl, hb⟩
  have HB7 := Lib.hid (HB6.out.trans (hb.mono HB6.out.size))
  have Op_ := Lib.hid (Op.out.below hb (Nat.le_refl _))
  clear Op
  have Op := Lib.hid Op_.out
  clear Op_
  have Ox_ := Lib.hid (Ox.out.below hb (Nat.le_refl _))
  clear Ox
  have Ox := Lib.hid Ox_.out
  clear Ox_
  have Oy_ := Lib.hid (Oy.out.below hb (Nat.le_refl _))
  clear Oy
  have Oy := Lib.hid Oy_.out
  clear Oy_
  clear HB6 hb
  rw [eqQs_self]
  go_wp2
  go_ret
  exact ⟨rfl, HB7.out⟩

set_option maxRecDepth 100000 in
theorem lifted_FormatQParts (os : Os) (started : os.Started) (H : Type) (enc : TypeId × Value → H) :
    ReturnsInHanded {} Tryd.checked os 7 .any (fun w args => (Rows.fnExactFormatQPartsSpec.pre enc Tryd.prog Tryd.f7 Rows.fnExactFormatQPartsRow.domain false w args ∧ laidMetH Tryd.prog Rows.fnExactFormatQPartsRow.laid w) ∧ sizedMet enc Tryd.prog Tryd.f7 (OpenSpec.ofChange Rows.fnExactFormatQPartsSpec) false w args)
      (Rows.fnExactFormatQPartsSpec.post enc Tryd.prog Tryd.f7 false true false false) := by
  refine returnsInHanded_of_change_and (C := Tryd.checked) (X := fun w _ => laidMetH Tryd.prog Rows.fnExactFormatQPartsRow.laid w) (fun _ _ _ hh h => h.of_heap hh) ownF started (by kernel_rfl) Tryd.func7
    (ChangeSpec.witness_shaped (enc := enc) (C := Tryd.checked) (os := os) (X := fun w _ => laidMetH Tryd.prog Rows.fnExactFormatQPartsRow.laid w) false (World.laidAll Tryd.prog os Rows.fnExactFormatQPartsRow.laid) #[.slice none 0 0] 8 (World.laidAll_os _ _ _)
      (World.shaped_of_ZipB (by kernel_rfl) (by kernel_rfl)) (by kernel_rfl) (by kernel_rfl) (by kernel_rfl)
      (by rw [MakeChecks.laidMetH_plain _ _ _ (by kernel_rfl)]; exact laidMet_laidAll _ (by kernel_rfl) (by kernel_rfl))) ?_
  intro W base args ds gs before hval0 hW hcnd _ hL _
  have hval : ∀ (j : Nat) t v, Tryd.f7.params[j]? = some t → args[j]? = some v → Value.okWide Tryd.prog W .any base t v := hval0
  have hW' := hW
  obtain ⟨p, q, hA0, hV, rfl, hfz, hnd⟩ := hW
  have hA : DataW.TrodAll enc Tryd.prog W 0 (fun _ => true) true Tryd.f7.params.toList args.toList ds p := hA0
  rw [Tryd.params7] at hA hval
  obtain ⟨v0, vs0, d0, ds0, p0, q0, hargs, rfl, rfl, h0, r0⟩ := trodAll_cons hA
  obtain ⟨rfl, rfl, rfl⟩ := trodAll_nil r0
  obtain rfl : args = #[v0] := by cases args; simp_all
  obtain ⟨rfl, rfl⟩ := trodVars_none hV
  obtain ⟨b0, len0, cap0, rfl⟩ := okWide_slice Tryd.underlying43 (hval 0 43 v0 rfl rfl)
  have k0 := h0
  have lt0 : ∀ x ∈ p0, x.block < W.heap.size := by obtain ⟨m, hm⟩ := k0; exact DataW.trod_lt m _ _ _ hm
  obtain ⟨ts0, s0, hn0, hne0, hft0⟩ := QS.of_trod h0
  clear hA0 hval0
  refine (walk_FormatQParts b0 len0 cap0 ts0 W s0 hn0 hne0 hft0 (pow_of_laid hL)).mono fun e W' ⟨he, bel⟩ => ?_
  subst he
  exact ⟨_, rfl, _, _, _, [], _, [], hW', trodAll_mk1 (shut_bool Tryd.underlying4 _), (trodAll_cons_mk (Below.trod laidOut (by kernel_rfl) (of_decide_eq_true (by kernel_rfl)) k0 bel lt0) trodAll_mk0), rfl, bel.frame _, fun h => by cases h⟩

theorem fnExactFormatQParts_row : Rows.FnExactFormatQPartsSaid :=
  OpenClaim.holds_of_wide 7 Tryd.f7 rfl rfl rfl rfl rfl rfl rfl ⟨rfl, rfl, rfl, rfl, rfl⟩ rfl rfl rfl rfl rfl (by kernel_rfl) Tryd.func7 (by kernel_rfl)
    (of_decide_eq_true (by kernel_rfl)) (by unfold Func.isWrapper; first | (rw [if_pos (by decide +kernel)]; kernel_rfl) | (rw [if_neg (by decide +kernel)]; exact ⟨rfl, rfl⟩))
    (fun os started H enc _ => lifted_FormatQParts os started H enc)
theorem fnExactFormatQParts_holds : Rows.FnExactFormatQPartsCardSaid :=
  Claim7.holds_tied_plain_at .later [] [.data, .data, .data] true Rows.fnExactFormatQPartsCard.stood.harness false fnExactFormatQParts_row (fun _ h => by cases h) (by kernel_rfl) (fun _ h => by cases h) fnExactFormatQParts_row_tie rfl ⟨rfl, rfl⟩ (by kernel_rfl) rfl
    (fun f fn hf hfn => by
      obtain rfl : f = 7 := Option.some.inj ((show Tryd.prog.funcNamed "loop.example/g03113/laws.FnExactFormatQParts" = some 7 by kernel_rfl).symm.trans hf) |>.symm
      obtain rfl : fn = Tryd.f7 := (Option.some.inj (Tryd.func7.symm.trans hfn)).symm
      exact ⟨by kernel_rfl, fun j t ht => by
        rw [Tryd.params7] at ht
        have hm : t ∈ [43] := by simpa using Array.mem_of_getElem? ht
        have hall : ([43].all fun u => !Tryd.prog.wantsStandIn u) = true := by kernel_rfl
        exact (show Tryd.prog.wantsStandIn t = false by simpa using List.all_eq_true.1 hall t hm)⟩)
    (by kernel_rfl)
end Go.Proofs.YtdiiaallklkomaaDoor
