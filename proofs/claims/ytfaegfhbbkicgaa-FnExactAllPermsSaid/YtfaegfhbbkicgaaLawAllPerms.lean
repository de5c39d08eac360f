/-
  FnExactAllPerms: for every input the law returns true: the program's AllPerms answers as the specification's, changes no argument, and its answer owns its memory. No conditions.
-/
import Derived.Test.YtfaegfhbbkicgaaApmS
import Derived.Test.YtfaegfhbbkicgaaApmI
import Derived.Test.YtfaegfhbbkicgaaLsHelp
import Derived.Test.YtfaegfhbbkicgaaLsFrame
import Derived.Test.YtfaegfhbbkicgaaFrame
namespace Go.Proofs.Ytfaegfhbbkicgaa
open Go.ChangeShapes Go.WideShapes Go.ChangeAt Go.RowKit

set_option maxHeartbeats 4000000 in
theorem walk_AllPerms (a0 : Int) (w : World) (_ha0 : -9223372036854775808 ≤ a0 ∧ a0 ≤ 9223372036854775807) :
    Calls Try.prog 13 #[.int .i64 a0] w fun e w' => e = .returned (.bool true) ∧ Below w.heap.size w w' := by
  have HB0 := Lib.hid (Below.refl w.heap.size w)
  have HM : Hid (ShortL (allP a0)) := Lib.hid (allP_short a0)
  go_enter Try.func13, Try.ntmps13
  go_wp2_with fail
  refine (specAllPerms_any a0 _).mono ?_
  rintro e w1 ⟨AW, nW, cW, rfl, ho, hb⟩
  have hsz := hb.size
  have HB1 := Lib.hid (HB0.out.trans (hb.mono HB0.out.size))
  have OW_0 := Lib.hid ho
  have LW_0 := Lib.hid (Nat.le_refl w1.heap.size)
  have NW := Lib.hid ho.len
  have GW := Lib.hid HB0.out.size
  clear HB0 hb hsz ho
  have EW : nW ≤ 1099511627776 := by have h := NW.out; rw [← h]; exact HM.out.le
  have FW : Hid (∀ k, k < nW → (li (allP a0) k).length ≤ 1099511627776) := Lib.hid (fun k _ => HM.out.lens k)
  go_wp2_with fail
  refine (implAllPerms_any a0 _).mono ?_
  rintro e w2 ⟨AV, nV, cV, rfl, ho, hb⟩
  have hsz := hb.size
  have HB2 := Lib.hid (HB1.out.trans (hb.mono HB1.out.size))
  have OW_1 := Lib.hid (OW_0.out.below hb LW_0.out)
  have LW_1 := Lib.hid (Nat.le_trans LW_0.out hsz)
  have OV_0 := Lib.hid ho
  have LV_0 := Lib.hid (Nat.le_refl w2.heap.size)
  have NV := Lib.hid ho.len
  have GV := Lib.hid HB1.out.size
  have DW_V : Hid (_ ≤ w1.heap.size) := LW_0
  clear OW_0 LW_0 HB1 hb hsz ho
  have EV : nV ≤ 1099511627776 := by have h := NV.out; rw [← h]; exact HM.out.le
  have FV : Hid (∀ k, k < nV → (li (allP a0) k).length ≤ 1099511627776) := Lib.hid (fun k _ => HM.out.lens k)
  go_wp2_with fail
  refine (eqIntSS_any _ _ _ _ _ _ (allP a0) (allP a0) _ OV_0.out.si OW_1.out.si EV EW FV.out FW.out).mono ?_
  rintro e w3 ⟨rfl, hd⟩
  rw [eqLs_self]
  have hb : Below w2.heap.size w2 w3 := hd.below _
  have hsz := hb.size
  have HB3 := Lib.hid (HB2.out.trans (hb.mono HB2.out.size))
  have OW_2 := Lib.hid (OW_1.out.below hb LW_1.out)
  have LW_2 := Lib.hid (Nat.le_trans LW_1.out hsz)
  have OV_1 := Lib.hid (OV_0.out.below hb LV_0.out)
  have LV_1 := Lib.hid (Nat.le_trans LV_0.out hsz)
  clear OW_1 LW_1 OV_0 LV_0 HB2 hb hsz hd
  go_wp2_with fail
  refine (markIntSS_any _ _ _ _ _ (allP a0) 1 _ OV_1.out EV FV.out (fun k _ => HM.out.ends k)).mono ?_
  rintro e w4 ⟨rfl, ho, hw⟩
  have hsz := hw.size
  have HB4 := Lib.hid (HB3.out.trans (hw.below GV.out HB3.out.size))
  have OW_3 := Lib.hid (OW_2.out.within hw (.inl DW_V.out))
  have LW_3 := Lib.hid (Nat.le_trans LW_2.out hsz)
  have OV_2 := Lib.hid ho
  have LV_2 := Lib.hid (Nat.le_trans LV_1.out hsz)
  clear OW_2 LW_2 OV_1 LV_1 HB3 hw hsz ho
  go_wp2_with fail
  refine (heldIntSS_yes _ _ _ (allP a0) 1 _ OV_2.out.si EV FV.out (fun k _ => HM.out.ends k)).mono ?_
  rintro e w5 ⟨rfl, hd⟩
  have hb : Below w4.heap.size w4 w5 := hd.below _
  have hsz := hb.size
  have HB5 := Lib.hid (HB4.out.trans (hb.mono HB4.out.size))
  have OW_4 := Lib.hid (OW_3.out.below hb LW_3.out)
  have LW_4 := Lib.hid (Nat.le_trans LW_3.out hsz)
  have OV_3 := Lib.hid (OV_2.out.below hb LV_2.out)
  have LV_3 := Lib.hid (Nat.le_trans LV_2.out hsz)
  clear OW_3 LW_3 OV_2 LV_2 HB4 hb hsz hd
  have he0 := HM.out.ends (allP a0).length
  rw [List.take_of_length_le (Nat.le_refl _)] at he0
  obtain ⟨z, hz⟩ : ∃ z, z = endS (allP a0) 1 := ⟨_, rfl⟩
  have HZ := Lib.hid hz
  rw [← hz] at he0 ⊢
  have he1 : ¬ z < 0 := by omega
  clear hz
  go_wp2_with fail
  refine (implAllPerms_any a0 _).mono ?_
  rintro e w6 ⟨AU, nU, cU, rfl, ho, hb⟩
  have hsz := hb.size
  have HB6 := Lib.hid (HB5.out.trans (hb.mono HB5.out.size))
  have OW_5 := Lib.hid (OW_4.out.below hb LW_4.out)
  have LW_5 := Lib.hid (Nat.le_trans LW_4.out hsz)
  have OV_4 := Lib.hid (OV_3.out.below hb LV_3.out)
  have LV_4 := Lib.hid (Nat.le_trans LV_3.out hsz)
  have OU_0 := Lib.hid ho
  have LU_0 := Lib.hid (Nat.le_refl w6.heap.size)
  have NU := Lib.hid ho.len
  have GU := Lib.hid HB5.out.size
  have DW_U : Hid (_ ≤ w5.heap.size) := LW_4
  have DV_U : Hid (_ ≤ w5.heap.size) := LV_3
  clear OW_4 LW_4 OV_3 LV_3 HB5 hb hsz ho
  have EU : nU ≤ 1099511627776 := by have h := NU.out; rw [← h]; exact HM.out.le
  have FU : Hid (∀ k, k < nU → (li (allP a0) k).length ≤ 1099511627776) := Lib.hid (fun k _ => HM.out.lens k)
  go_wp2_with fail
  refine (eqIntSS_any _ _ _ _ _ _ (allP a0) (allP a0) _ OU_0.out.si OW_5.out.si EU EW FU.out FW.out).mono ?_
  rintro e w7 ⟨rfl, hd⟩
  rw [eqLs_self]
  have hb : Below w6.heap.size w6 w7 := hd.below _
  have hsz := hb.size
  have HB7 := Lib.hid (HB6.out.trans (hb.mono HB6.out.size))
  have OW_6 := Lib.hid (OW_5.out.below hb LW_5.out)
  have LW_6 := Lib.hid (Nat.le_trans LW_5.out hsz)
  have OV_5 := Lib.hid (OV_4.out.below hb LV_4.out)
  have LV_5 := Lib.hid (Nat.le_trans LV_4.out hsz)
  have OU_1 := Lib.hid (OU_0.out.below hb LU_0.out)
  have LU_1 := Lib.hid (Nat.le_trans LU_0.out hsz)
  clear OW_5 LW_5 OV_4 LV_4 OU_0 LU_0 HB6 hb hsz hd
  go_wp2_with fail
  refine (heldIntSS_yes _ _ _ (allP a0) 1 _ OV_5.out.si EV FV.out (fun k _ => HM.out.ends k)).mono ?_
  rintro e w8 ⟨rfl, hd⟩
  have hb : Below w7.heap.size w7 w8 := hd.below _
  have hsz := hb.size
  have HB8 := Lib.hid (HB7.out.trans (hb.mono HB7.out.size))
  have OW_7 := Lib.hid (OW_6.out.below hb LW_6.out)
  have LW_7 := Lib.hid (Nat.le_trans LW_6.out hsz)
  have OV_6 := Lib.hid (OV_5.out.below hb LV_5.out)
  have LV_6 := Lib.hid (Nat.le_trans LV_5.out hsz)
  have OU_2 := Lib.hid (OU_1.out.below hb LU_1.out)
  have LU_2 := Lib.hid (Nat.le_trans LU_1.out hsz)
  clear OW_6 LW_6 OV_5 LV_5 OU_1 LU_1 HB7 hb hsz hd
  rw [← HZ.out]
  go_wp2
  go_ret
  exact ⟨rfl, HB8.out⟩

set_option maxRecDepth 100000 in
theorem lifted_AllPerms (os : Os) (started : os.Started) (H : Type) (enc : TypeId × Value → H) :
    ReturnsInHanded {} Try.checked os 13 .any (Rows.fnExactAllPermsSpec.pre6 enc Try.prog Try.f13 Rows.fnExactAllPermsRow.domain false) (Rows.fnExactAllPermsSpec.post enc Try.prog Try.f13 false true false false) := by
  refine returnsInHanded_of_change (C := Try.checked) own started (by kernel_rfl) Try.func13
    (ChangeSpec.witness6 (enc := enc) (C := Try.checked) false ⟨#[], #[.int .i64 0], []⟩ 8 (by kernel_rfl) (by kernel_rfl) (by kernel_rfl) (by kernel_rfl)) ?_
  intro W base args ds gs before hval0 hW hcnd _
  have hval : ∀ (j : Nat) t v, Try.f13.params[j]? = some t → args[j]? = some v → Value.okWide Try.prog W .any base t v := hval0
  have hW' := hW
  obtain ⟨p, q, hA0, hV, rfl, hfz, hnd⟩ := hW
  have hA : DataW.TrodAll enc Try.prog W 0 (fun _ => true) true Try.f13.params.toList args.toList ds p := hA0
  rw [Try.params13] at hA hval
  obtain ⟨v0, vs0, d0, ds0, p0, q0, hargs, rfl, rfl, h0, r0⟩ := trodAll_cons hA
  obtain ⟨rfl, rfl, rfl⟩ := trodAll_nil r0
  obtain rfl : args = #[v0] := by cases args; simp_all
  obtain ⟨rfl, rfl⟩ := trodVars_none hV
  obtain ⟨a0, rfl, rfl, rfl, wf0⟩ := open_int Try.underlying3 (hval 0 3 v0 rfl rfl) h0
  have hb0 : -9223372036854775808 ≤ a0 ∧ a0 ≤ 9223372036854775807 := by have := bounds_i64 wf0; omega
  clear hA0 hval0
  refine (walk_AllPerms a0 W hb0).mono fun e W' ⟨he, bel⟩ => ?_
  subst he
  exact ⟨_, rfl, _, _, _, [], _, [], hW', trodAll_mk1 (shut_bool Try.underlying4 _), (trodAll_cons_mk (shut_int Try.underlying3 wf0) trodAll_mk0), rfl, bel.frame _, fun h => by cases h⟩

theorem fnExactAllPerms_holds : Rows.FnExactAllPermsSaid :=
  OpenClaim.holds_of_wide 13 Try.f13 rfl rfl rfl rfl rfl rfl rfl ⟨rfl, rfl, rfl, rfl, rfl⟩ rfl rfl rfl rfl rfl (by kernel_rfl) Try.func13 (by kernel_rfl)
    (of_decide_eq_true (by kernel_rfl)) (by unfold Func.isWrapper; first | (rw [if_pos (by decide +kernel)]; kernel_rfl) | (rw [if_neg (by decide +kernel)]; exact ⟨rfl, rfl⟩))
    (fun os started H enc _ => lifted_AllPerms os started H enc)
end Go.Proofs.Ytfaegfhbbkicgaa
