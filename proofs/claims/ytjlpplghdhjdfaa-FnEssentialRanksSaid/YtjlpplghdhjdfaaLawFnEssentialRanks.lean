/-
  FnEssentialRanks: for every input the law returns true: the ranks at the essential cells of one permutation decide whether it lies below another. No conditions.
-/
import Derived.Test.YtjlpplghdhjdfaaDrawTwo
import Derived.Test.YtjlpplghdhjdfaaFulton
import Derived.Test.YtjlpplghdhjdfaaEssI
import Derived.Test.YtjlpplghdhjdfaaImplH
import Derived.Test.YtjlpplghdhjdfaaInts
import Derived.Test.YtjlpplghdhjdfaaFrameB
namespace Go.Proofs.Ytjlpplghdhjdfaa
open Go.ChangeShapes Go.WideShapes Go.ChangeAt Go.RowKit

theorem quiet_loadcell {C : World → Prop} {a : Act} {o : Oper} {K : Act → Prop} (ty : TypeId) (x : Operand) (ho : o.op = .load ty x) (b off : Nat) (hx : a.eval x = .pointer (some ⟨b, off, none⟩)) (v : Value)
    (hb : ∀ w, C w → w.cell? ⟨b, off, none⟩ = some v) (hu : ty = 3) (hk : K (a.put o.dst v)) : o.quiet Try.prog a C K :=
  ⟨_, fun w hw => by
    subst hu
    have hc := hb w hw
    have hl : (loadVar 3 ⟨b, off, none⟩).run Try.prog w = .ok v w := by
      simp [loadVar, isAgg, underlying, Try.underlying3, hc, Result.andThen]
    unfold Oper.quietAt execOp
    simp only [ho, hx, Instr.loadAt, Instr.sureAddr, Sem.run_bind, Sem.run_pure, Result.andThen_ok, hl]
    exact ⟨rfl, rfl⟩, hk⟩

set_option maxRecDepth 100000 in
set_option maxHeartbeats 8000000 in
theorem walk_FnEssentialRanks (A : Option Addr) (n c : Nat) (bs : List Int) (w : World) (hs : SB w w.heap.size A n bs) :
    Calls Try.prog 7 #[.slice A n c] w fun e w' => e = .returned (.bool true) ∧ Below w.heap.size w w' := by
  by_cases hbig : 1048576 < n
  · have hbI : decide (1048576 < (n : Int)) = true := by simp; omega
    go_enter Try.func7, Try.ntmps7
    go_wp2_with fail
    refine (big_any A n c w).mono ?_
    rintro e w1 ⟨rfl, rfl⟩
    rw [hbI]
    go_wp2
    go_ret
    exact ⟨rfl, Below.refl _ _⟩
  have hbI : decide (1048576 < (n : Int)) = false := by simp; omega
  have HbI := Lib.hid hbI
  clear hbI
  have HS0 := Lib.hid hs
  clear hs
  go_enter Try.func7, Try.ntmps7
  go_wp2_with fail
  refine (big_any A n c w).mono ?_
  rintro e w0 ⟨rfl, rfl⟩
  rw [HbI.out]
  go_wp2_with fail
  refine (drawTwoPerms_any A n c bs w HS0.out (by omega)).mono ?_
  rintro e w1 ⟨us, vs, A1, A2, m, c1, c2, rfl, hou, hov, hpu, hpv, hm5, hb⟩
  have HB1 := Lib.hid hb
  have Ou_0 := Lib.hid hou
  have Lu_0 := Lib.hid (Nat.le_refl w1.heap.size)
  have Ov_0 := Lib.hid hov
  have Lv_0 := Lib.hid (Nat.le_refl w1.heap.size)
  have hlu : us.length = m := hou.len
  have hlv : vs.length = m := hov.len
  have K := Lib.hid (And.intro hlu (And.intro hlv (And.intro hpu hpv)))
  have hm1 : 1 ≤ m := by have := hpu.1; omega
  clear hou hov hpu hpv hb hlu hlv
  go_wp2_with fail
  refine (implEssential_any _ _ _ us _ Ou_0.out.si (by omega)).mono ?_
  rintro e w2 ⟨Al, nl, cl, rfl, ho, hb⟩
  have hsz := hb.size
  have HB2 := Lib.hid (HB1.out.trans (hb.mono HB1.out.size))
  have Ou_1 := Lib.hid (Ou_0.out.below hb Lu_0.out)
  have Lu_1 := Lib.hid (Nat.le_trans Lu_0.out hsz)
  have Ov_1 := Lib.hid (Ov_0.out.below hb Lv_0.out)
  have Lv_1 := Lib.hid (Nat.le_trans Lv_0.out hsz)
  have Ol_0 := Lib.hid ho
  have Ll_0 := Lib.hid (Nat.le_refl w2.heap.size)
  have Nl := Lib.hid ho.len
  have Gl := Lib.hid HB1.out.size
  have Du_l : Hid (_ ≤ w1.heap.size) := Lu_0
  have Dv_l : Hid (_ ≤ w1.heap.size) := Lv_0
  clear Ou_0 Lu_0 Ov_0 Lv_0 HB1 hb hsz ho
  have hl49 : (nl : Int) ≤ 49 := by have h1 := Nl.out; have h2 := essPerm_small us; omega
  go_wp2
  go_loopw [6, 7] (fun v i wr => ∃ k : Nat, k ≤ nl ∧ i = .int .i64 k ∧ v = .bool (keepB us vs (essPerm us) k) ∧ Below w2.heap.size w2 wr)
    (fun _ i _ => nl - (intOf i).toNat)
  case atStart => exact ⟨0, Nat.zero_le _, rfl, rfl, Below.refl _ _⟩
  case round =>
    obtain ⟨k, hk, rfl, rfl, hbel⟩ := hrel
    have HBE := Lib.hid hbel
    by_cases hlt : k < nl
    · have hlI : (k : Int) < (nl : Int) := by omega
      have hcs := Ol_0.out.si.below hbel (Nat.le_refl _)
      obtain ⟨b, o, eAl, hb, hc0, hc1⟩ := hcs.at_ hlt
      subst eAl
      obtain ⟨i, j, hij, hi, hj⟩ := ess_at K.out.2.2.1 (by have := K.out; omega) (t := k) (by have := Nl.out; omega)
      rw [hij] at hc0 hc1
      have SU := Ou_1.out.si.below hbel (Nat.le_refl _)
      have SV := Ov_1.out.si.below hbel (Nat.le_refl _)
      have ru := rank_cell K.out.2.2.1 hi hj
      have rv := rank_cell K.out.2.2.2 (i := i) (j := j) (by have := K.out; omega) (by have := K.out; omega)
      obtain ⟨p, hp⟩ : ∃ p : Int, p = (rankN us ((j : Int) + 1) (i + 1) : Int) := ⟨_, rfl⟩
      obtain ⟨q, hq⟩ : ∃ q : Int, q = (rankN vs ((j : Int) + 1) (i + 1) : Int) := ⟨_, rfl⟩
      have nx : keepB us vs (essPerm us) (k + 1) = (keepB us vs (essPerm us) k && decide (q ≤ p)) := by
        rw [keepB_next (w := vs) hij, hp, hq]; congr 1; exact decide_eq_decide.2 (by omega)
      rw [← hp] at ru
      rw [← hq] at rv
      have hi5 : i < 5 := by have := K.out; omega
      have hj5 : j < 5 := by have := K.out; omega
      have call1 : ∀ w', AfterT wr w' → Calls Try.prog 33 #[.slice A2 m c2, .int .i64 ((i : Int) + 1), .int .i64 ((j : Int) + 1)] w' (fun e w'' => e = .returned (.int .i64 q) ∧ AfterT wr w'') := fun w' hw' =>
        (implRank_any _ _ _ vs _ _ w' (SV.below hw' (Nat.le_refl _)) (by omega)).mono fun e w'' ⟨he, hb⟩ => ⟨by rw [he, rv], Below.trans hw' (hb.mono hw'.size)⟩
      have call2 : ∀ w', AfterT wr w' → Calls Try.prog 33 #[.slice A1 m c1, .int .i64 ((i : Int) + 1), .int .i64 ((j : Int) + 1)] w' (fun e w'' => e = .returned (.int .i64 p) ∧ AfterT wr w'') := fun w' hw' =>
        (implRank_any _ _ _ us _ _ w' (SU.below hw' (Nat.le_refl _)) (by omega)).mono fun e w'' ⟨he, hb⟩ => ⟨by rw [he, ru], Below.trans hw' (hb.mono hw'.size)⟩
      have LC0 : Hid (∀ w', AfterT wr w' → w'.cell? ⟨b, o + k * 2, none⟩ = some (.int .i64 (i : Int))) := Lib.hid fun w' hw' => by rw [Below.cell hw' (p := ⟨b, o + k * 2, none⟩) hb]; exact hc0
      have LC1 : Hid (∀ w', AfterT wr w' → w'.cell? ⟨b, o + k * 2 + 1, none⟩ = some (.int .i64 (j : Int))) := Lib.hid fun w' hw' => by rw [Below.cell hw' (p := ⟨b, o + k * 2 + 1, none⟩) hb]; exact hc1
      have CA1 := Lib.hid call1
      have CA2 := Lib.hid call2
      have NX := Lib.hid nx
      clear hcs hb hc0 hc1 hij hi hj SU SV ru rv hp hq nx call1 call2 hbel
      cases hkb : keepB us vs (essPerm us) k with
      | false =>
        have hn := NX.out
        rw [hkb, Bool.false_and] at hn
        have HN := Lib.hid hn
        clear hn hkb
        go_wp2_with fail
        refine tq_class (AfterT wr) (by kernel_rfl) (by kernel_rfl) (Below.refl _ _).drew ?_
        go_big_quiet_want
        go_big_quiet_op
        first | go_big_quiet_on | (refine ⟨_, fun _ _ => rfl, ?_⟩; go_big_quiet_on)
        go_big_quiet_want
        go_big_quiet_op
        first | go_big_quiet_on | (refine ⟨_, fun _ _ => rfl, ?_⟩; go_big_quiet_on)
        repeat go_big_quiet_skip
        go_big_quiet_want
        go_big_quiet_op
        first | go_big_quiet_on | (refine ⟨_, fun _ _ => rfl, ?_⟩; go_big_quiet_on)
        go_big_quiet_want
        go_big_quiet_op
        first | go_big_quiet_on | (refine ⟨_, fun _ _ => rfl, ?_⟩; go_big_quiet_on)
        refine wpQuiet_nil ?_
        intro w6 hw6
        have HB6 := Lib.hid (HBE.out.trans (Below.mono hw6 HBE.out.size))
        clear hw6
        go_wp2
        go_roundw
        case rel => exact ⟨k + 1, by omega, by go_num, by rw [HN.out], HB6.out⟩
        case measure => simp [intOf]; omega
      | true =>
        have hn := NX.out
        rw [hkb, Bool.true_and] at hn
        have HN := Lib.hid hn
        clear hn hkb
        go_wp2_with fail
        refine tq_class (AfterT wr) (by kernel_rfl) (by kernel_rfl) (Below.refl _ _).drew ?_
        go_big_quiet_want
        go_big_quiet_op
        first | go_big_quiet_on | (refine ⟨_, fun _ _ => rfl, ?_⟩; go_big_quiet_on)
        go_big_quiet_want
        go_big_quiet_op
        first | go_big_quiet_on | (refine ⟨_, fun _ _ => rfl, ?_⟩; go_big_quiet_on)
        go_big_quiet_want
        go_big_quiet_op
        first | go_big_quiet_on | (refine ⟨_, fun _ _ => rfl, ?_⟩; go_big_quiet_on)
        go_big_quiet_want
        go_big_quiet_op
        first | go_big_quiet_on | (refine ⟨_, fun _ _ => rfl, ?_⟩; go_big_quiet_on)
        go_big_quiet_want
        go_big_quiet_op
        first | go_big_quiet_on | (refine ⟨_, fun _ _ => rfl, ?_⟩; go_big_quiet_on)
        go_big_quiet_want
        go_big_quiet_op
        first | go_big_quiet_on | (refine ⟨_, fun _ _ => rfl, ?_⟩; go_big_quiet_on)
        go_big_quiet_want
        go_big_quiet_op
        first | go_big_quiet_on | (refine ⟨_, fun _ _ => rfl, ?_⟩; go_big_quiet_on)
        go_big_quiet_want
        refine quiet_loadcell 3 (.tmp 29) rfl b (o + k * 2) rfl (.int .i64 (i : Int)) LC0.out rfl ?_
        go_big_quiet_on
        go_simp
        go_big_quiet_want
        go_big_quiet_op
        first | go_big_quiet_on | (refine ⟨_, fun _ _ => rfl, ?_⟩; go_big_quiet_on)
        go_big_quiet_want
        go_big_quiet_op
        first | go_big_quiet_on | (refine ⟨_, fun _ _ => rfl, ?_⟩; go_big_quiet_on)
        go_big_quiet_want
        go_big_quiet_op
        first | go_big_quiet_on | (refine ⟨_, fun _ _ => rfl, ?_⟩; go_big_quiet_on)
        go_big_quiet_want
        go_big_quiet_op
        first | go_big_quiet_on | (refine ⟨_, fun _ _ => rfl, ?_⟩; go_big_quiet_on)
        go_big_quiet_want
        go_big_quiet_op
        first | go_big_quiet_on | (refine ⟨_, fun _ _ => rfl, ?_⟩; go_big_quiet_on)
        go_big_quiet_want
        refine quiet_loadcell 3 (.tmp 35) rfl b (o + k * 2 + 1) rfl (.int .i64 (j : Int)) LC1.out rfl ?_
        go_big_quiet_on
        go_simp
        go_big_quiet_want
        go_big_quiet_op
        first | go_big_quiet_on | (refine ⟨_, fun _ _ => rfl, ?_⟩; go_big_quiet_on)
        go_big_quiet_want
        go_big_quiet_op
        refine ⟨.int .i64 q, fun w' hw' => CA1.out w' hw', ?_⟩
        go_big_quiet_on
        go_big_quiet_want
        go_big_quiet_op
        first | go_big_quiet_on | (refine ⟨_, fun _ _ => rfl, ?_⟩; go_big_quiet_on)
        go_big_quiet_want
        go_big_quiet_op
        first | go_big_quiet_on | (refine ⟨_, fun _ _ => rfl, ?_⟩; go_big_quiet_on)
        go_big_quiet_want
        go_big_quiet_op
        first | go_big_quiet_on | (refine ⟨_, fun _ _ => rfl, ?_⟩; go_big_quiet_on)
        go_big_quiet_want
        go_big_quiet_op
        first | go_big_quiet_on | (refine ⟨_, fun _ _ => rfl, ?_⟩; go_big_quiet_on)
        go_big_quiet_want
        go_big_quiet_op
        first | go_big_quiet_on | (refine ⟨_, fun _ _ => rfl, ?_⟩; go_big_quiet_on)
        go_big_quiet_want
        refine quiet_loadcell 3 (.tmp 43) rfl b (o + k * 2) rfl (.int .i64 (i : Int)) LC0.out rfl ?_
        go_big_quiet_on
        go_simp
        go_big_quiet_want
        go_big_quiet_op
        first | go_big_quiet_on | (refine ⟨_, fun _ _ => rfl, ?_⟩; go_big_quiet_on)
        go_big_quiet_want
        go_big_quiet_op
        first | go_big_quiet_on | (refine ⟨_, fun _ _ => rfl, ?_⟩; go_big_quiet_on)
        go_big_quiet_want
        go_big_quiet_op
        first | go_big_quiet_on | (refine ⟨_, fun _ _ => rfl, ?_⟩; go_big_quiet_on)
        go_big_quiet_want
        go_big_quiet_op
        first | go_big_quiet_on | (refine ⟨_, fun _ _ => rfl, ?_⟩; go_big_quiet_on)
        go_big_quiet_want
        go_big_quiet_op
        first | go_big_quiet_on | (refine ⟨_, fun _ _ => rfl, ?_⟩; go_big_quiet_on)
        go_big_quiet_want
        refine quiet_loadcell 3 (.tmp 49) rfl b (o + k * 2 + 1) rfl (.int .i64 (j : Int)) LC1.out rfl ?_
        go_big_quiet_on
        go_simp
        go_big_quiet_want
        go_big_quiet_op
        first | go_big_quiet_on | (refine ⟨_, fun _ _ => rfl, ?_⟩; go_big_quiet_on)
        go_big_quiet_want
        go_big_quiet_op
        refine ⟨.int .i64 p, fun w' hw' => CA2.out w' hw', ?_⟩
        go_big_quiet_on
        go_big_quiet_want
        go_big_quiet_op
        first | go_big_quiet_on | (refine ⟨_, fun _ _ => rfl, ?_⟩; go_big_quiet_on)
        go_big_quiet_want
        go_big_quiet_op
        first | go_big_quiet_on | (refine ⟨_, fun _ _ => rfl, ?_⟩; go_big_quiet_on)
        go_big_quiet_want
        go_big_quiet_op
        first | go_big_quiet_on | (refine ⟨_, fun _ _ => rfl, ?_⟩; go_big_quiet_on)
        refine wpQuiet_nil ?_
        intro w6 hw6
        have HB6 := Lib.hid (HBE.out.trans (Below.mono hw6 HBE.out.size))
        clear hw6
        go_wp2
        go_roundw
        case rel => exact ⟨k + 1, by omega, by go_num, by rw [HN.out], HB6.out⟩
        case measure => simp [intOf]; omega
    · have hkn : k = nl := by omega
      subst hkn
      obtain ⟨w3, rfl⟩ : ∃ wz : World, wz = wr := ⟨_, rfl⟩
      have hb : Below w2.heap.size w2 w3 := HBE.out
      have hkeep := keep_below K.out.2.2.1 K.out.2.2.2 (by have := K.out; omega) (by have := K.out; omega)
      rw [Nl.out] at hkeep
      rw [hkeep]
      have hfull := rank_full K.out.2.2.2
      rw [K.out.2.1] at hfull
      have HF := Lib.hid hfull
      clear hkeep hfull hbel HBE
      have hsz := hb.size
      have HB3 := Lib.hid (HB2.out.trans (hb.mono HB2.out.size))
      have Ou_2 := Lib.hid (Ou_1.out.below hb Lu_1.out)
      have Lu_2 := Lib.hid (Nat.le_trans Lu_1.out hsz)
      have Ov_2 := Lib.hid (Ov_1.out.below hb Lv_1.out)
      have Lv_2 := Lib.hid (Nat.le_trans Lv_1.out hsz)
      have Ol_1 := Lib.hid (Ol_0.out.below hb Ll_0.out)
      have Ll_1 := Lib.hid (Nat.le_trans Ll_0.out hsz)
      clear Ou_1 Lu_1 Ov_1 Lv_1 Ol_0 Ll_0 HB2 hb hsz
      obtain ⟨bb, hbb⟩ : ∃ bb, bb = belowPerm us vs := ⟨_, rfl⟩
      have HBB := Lib.hid hbb
      rw [← hbb]
      clear hbb
      go_wp2_with fail
      refine (implBelow_any _ _ _ _ _ _ us vs _ Ou_2.out.si Ov_2.out.si (by omega) (by omega)).mono ?_
      rintro e w4 ⟨rfl, hb⟩
      rw [← HBB.out]
      have hsz := hb.size
      have HB4 := Lib.hid (HB3.out.trans (hb.mono HB3.out.size))
      have Ou_3 := Lib.hid (Ou_2.out.below hb Lu_2.out)
      have Lu_3 := Lib.hid (Nat.le_trans Lu_2.out hsz)
      have Ov_3 := Lib.hid (Ov_2.out.below hb Lv_2.out)
      have Lv_3 := Lib.hid (Nat.le_trans Lv_2.out hsz)
      have Ol_2 := Lib.hid (Ol_1.out.below hb Ll_1.out)
      have Ll_2 := Lib.hid (Nat.le_trans Ll_1.out hsz)
      clear Ou_2 Lu_2 Ov_2 Lv_2 Ol_1 Ll_1 HB3 hb hsz
      go_wp2_with fail
      refine (implRank_any _ _ _ vs (m : Int) (m : Int) _ Ov_3.out.si (by omega)).mono ?_
      rintro e w5 ⟨rfl, hb⟩
      rw [HF.out]
      have hsz := hb.size
      have HB5 := Lib.hid (HB4.out.trans (hb.mono HB4.out.size))
      have Ou_4 := Lib.hid (Ou_3.out.below hb Lu_3.out)
      have Lu_4 := Lib.hid (Nat.le_trans Lu_3.out hsz)
      have Ov_4 := Lib.hid (Ov_3.out.below hb Lv_3.out)
      have Lv_4 := Lib.hid (Nat.le_trans Lv_3.out hsz)
      have Ol_3 := Lib.hid (Ol_2.out.below hb Ll_2.out)
      have Ll_3 := Lib.hid (Nat.le_trans Ll_2.out hsz)
      clear Ou_3 Lu_3 Ov_3 Lv_3 Ol_2 Ll_2 HB4 hb hsz
      go_wp2
      go_ret
      exact ⟨rfl, HB5.out⟩

set_option maxRecDepth 100000 in
theorem lifted_FnEssentialRanks (os : Os) (started : os.Started) (H : Type) (enc : TypeId × Value → H) :
    ReturnsInHanded {} Try.checked os 7 .any (Rows.fnEssentialRanksSpec.pre6 enc Try.prog Try.f7 Rows.fnEssentialRanksRow.domain false) (Rows.fnEssentialRanksSpec.post enc Try.prog Try.f7 false true false false) := by
  refine returnsInHanded_of_change (C := Try.checked) own started (by kernel_rfl) Try.func7
    (ChangeSpec.witness6 (enc := enc) (C := Try.checked) false ⟨#[], #[.slice none 0 0], []⟩ 8 (by kernel_rfl) (by kernel_rfl) (by kernel_rfl) (by kernel_rfl)) ?_
  intro W base args ds gs before hval0 hW hcnd _
  have hval : ∀ (j : Nat) t v, Try.f7.params[j]? = some t → args[j]? = some v → Value.okWide Try.prog W .any base t v := hval0
  have hW' := hW
  obtain ⟨p, q, hA0, hV, rfl, hfz, hnd⟩ := hW
  have hA : DataW.TrodAll enc Try.prog W 0 (fun _ => true) true Try.f7.params.toList args.toList ds p := hA0
  rw [Try.params7] at hA hval
  obtain ⟨v0, vs0, d0, ds0, p0, q0, hargs, rfl, rfl, h0, r0⟩ := trodAll_cons hA
  obtain ⟨rfl, rfl, rfl⟩ := trodAll_nil r0
  obtain rfl : args = #[v0] := by cases args; simp_all
  obtain ⟨rfl, rfl⟩ := trodVars_none hV
  obtain ⟨b0, len0, cap0, rfl⟩ := okWide_slice Try.underlying35 (hval 0 35 v0 rfl rfl)
  have k0 := h0
  have lt0 : ∀ x ∈ p0, x.block < W.heap.size := by obtain ⟨m, hm⟩ := k0; exact DataW.trod_lt m _ _ _ hm
  obtain ⟨bs, s0⟩ := SB.of_trod h0
  clear hA0 hval0
  refine (walk_FnEssentialRanks b0 len0 cap0 bs W s0).mono fun e W' ⟨he, bel⟩ => ?_
  subst he
  exact ⟨_, rfl, _, _, _, [], _, [], hW', trodAll_mk1 (shut_bool Try.underlying4 _), (trodAll_cons_mk (Below.trod laidOut (by kernel_rfl) (of_decide_eq_true (by kernel_rfl)) k0 bel lt0) trodAll_mk0), rfl, bel.frame _, fun h => by cases h⟩

theorem fnEssentialRanks_holds : Rows.FnEssentialRanksSaid :=
  OpenClaim.holds_of_wide 7 Try.f7 rfl rfl rfl rfl rfl rfl rfl ⟨rfl, rfl, rfl, rfl, rfl⟩ rfl rfl rfl rfl rfl (by kernel_rfl) Try.func7 (by kernel_rfl)
    (of_decide_eq_true (by kernel_rfl)) (by unfold Func.isWrapper; first | (rw [if_pos (by decide +kernel)]; kernel_rfl) | (rw [if_neg (by decide +kernel)]; exact ⟨rfl, rfl⟩))
    (fun os started H enc _ => lifted_FnEssentialRanks os started H enc)

end Go.Proofs.Ytjlpplghdhjdfaa
