/-
  FnExactFlagOk: for every input the law returns true: the program's FlagOk answers as the specification's, changes no argument, and its answer owns its memory. No conditions.
-/
import Derived.Test.YtdepalpkcmfegaaPkA4
namespace Go.Proofs.Ytdepalpkcmfegaa
open Go.ChangeShapes Go.WideShapes Go.ChangeAt Go.RowKit

set_option maxRecDepth 100000 in
set_option maxHeartbeats 8000000 in
theorem walk_FlagOk (P0 R0 C0 : Int) (M0 : Option Addr) (e0 f0 : Nat) (y0 : List Int) (wA : World) (hp00 : SI wA M0 e0 y0) (hn0 : e0 ≤ 9223372036854775807) (_hfit0 : Fits y0) :
    Calls Try.prog 6 #[.agg #[.int .i64 P0, .int .i64 R0, .int .i64 C0, .slice M0 e0 f0]] wA fun e w' => e = .returned (.bool true) ∧ Below wA.heap.size wA w' := by
  have HNN0 := Lib.hid hn0
  have YL0 := Lib.hid hp00.1
  clear hn0
  obtain ⟨w, hw0⟩ : ∃ w, w = (wA.alloc (.cells #[.int .i64 P0, .int .i64 R0, .int .i64 C0, .slice M0 e0 f0] 24)) := ⟨_, rfl⟩
  obtain ⟨gA0, hgA0⟩ : ∃ g, g = wA.heap.size := ⟨_, rfl⟩
  have hbA : Below wA.heap.size wA w := by rw [hw0]; go_grown
  have HBA := Lib.hid hbA
  have hp0 := hp00.below hbA (Nat.le_refl _)
  have KA0_0 : Hid (Blk w gA0 24 #[.int .i64 P0, .int .i64 R0, .int .i64 C0, .slice M0 e0 f0]) := Lib.hid (by rw [hw0, hgA0]; have := Blk.new wA 24 #[.int .i64 P0, .int .i64 R0, .int .i64 C0, .slice M0 e0 f0]; simpa using this)
  have HB0 := Lib.hid (Below.refl w.heap.size w)
  have HW0 := Lib.hid hw0
  have HGA0 := Lib.hid hgA0
  have HFIN : Hid (wA.heap.size ≤ w.heap.size) := Lib.hid hbA.size
  clear hw0 hbA hgA0 hp00 
  go_enter Try.func6, Try.ntmps6
  go_upto_region 1 with fail
  rw [← HW0.out, ← HGA0.out]
  obtain ⟨cA00, cA01, cA02, cA03⟩ := cells4 KA0_0.out
  go_wp2_with fail
  refine (szMatrix_any P0 R0 C0 _ _ _ 1048576 _ HNN0.out (by decide) (by decide)).mono ?_
  rintro e w1 ⟨rfl, hb⟩
  clear cA00 cA01 cA02 cA03
  have KA0_1 := Lib.hid (KA0_0.out.below hb KA0_0.out.lt)
  have hsz := hb.size
  have HB1 := Lib.hid (HB0.out.trans (hb.mono HB0.out.size))
  clear HB0 hb hsz
  clear KA0_0
  by_cases hbigM : (1048576 : Int) < (e0 : Int)
  · rw [if_pos hbigM]
    clear hbigM
    go_wp2
    go_ret
    exact ⟨rfl, HBA.out.trans (HB1.out.mono HFIN.out)⟩
  rw [if_neg hbigM]
  obtain ⟨r0, hr0⟩ : ∃ r : Int, r = (1048576 : Int) - (e0 : Int) := ⟨_, rfl⟩
  rw [← hr0]
  have hr0n : ¬ r0 < 0 := by omega
  have hr0b : r0 ≤ 1048576 := by omega
  have SM0 : Hid (e0 ≤ 1048576) := Lib.hid (by omega)
  have YB0 : Hid (y0.length ≤ 1099511627776) := Lib.hid (by have := YL0.out; have := SM0.out; omega)
  clear hr0 hbigM
  obtain ⟨cA00, cA01, cA02, cA03⟩ := cells4 KA0_1.out
  go_wp2_with fail
  refine (toMatrix_any P0 R0 C0 _ _ _ y0 _ (hp0.below HB1.out (Nat.le_refl _)) (by have := SM0.out; omega)).mono ?_
  rintro e w2 ⟨Pp0W, np0W, cp0W, rfl, ho, hb⟩
  clear cA00 cA01 cA02 cA03
  have KA0_2 := Lib.hid (KA0_1.out.below hb KA0_1.out.lt)
  have DKA0_p0W : Hid (gA0 < w1.heap.size ∨ w2.heap.size ≤ gA0) := Lib.hid (.inl KA0_1.out.lt)
  have hsz := hb.size
  have HB2 := Lib.hid (HB1.out.trans (hb.mono HB1.out.size))
  have Op0W_0 := Lib.hid ho
  have Lp0W_0 := Lib.hid (Nat.le_refl w2.heap.size)
  have Np0W := Lib.hid ho.len
  have Gp0W := Lib.hid HB1.out.size
  clear HB1 hb hsz ho
  clear KA0_1
  obtain ⟨cA00, cA01, cA02, cA03⟩ := cells4 KA0_2.out
  go_wp2_with fail
  refine (specFlagOk_any P0 R0 C0 _ _ _ y0 _ Op0W_0.out.si (by have := Np0W.out; have := YB0.out; omega)).mono ?_
  rintro e w3 ⟨rfl, hb⟩
  clear cA00 cA01 cA02 cA03
  have KA0_3 := Lib.hid (KA0_2.out.below hb KA0_2.out.lt)
  have hsz := hb.size
  have HB3 := Lib.hid (HB2.out.trans (hb.mono HB2.out.size))
  have Op0W_1 := Lib.hid (Op0W_0.out.below hb Lp0W_0.out)
  have Lp0W_1 := Lib.hid (Nat.le_trans Lp0W_0.out hsz)
  clear Op0W_0 Lp0W_0 HB2 hb hsz
  clear KA0_2
  obtain ⟨cA00, cA01, cA02, cA03⟩ := cells4 KA0_3.out
  go_wp2_with fail
  refine (toMatrix_any P0 R0 C0 _ _ _ y0 _ (hp0.below HB3.out (Nat.le_refl _)) (by have := SM0.out; omega)).mono ?_
  rintro e w4 ⟨Pp0X, np0X, cp0X, rfl, ho, hb⟩
  clear cA00 cA01 cA02 cA03
  have KA0_4 := Lib.hid (KA0_3.out.below hb KA0_3.out.lt)
  have DKA0_p0X : Hid (gA0 < w3.heap.size ∨ w4.heap.size ≤ gA0) := Lib.hid (.inl KA0_3.out.lt)
  have hsz := hb.size
  have HB4 := Lib.hid (HB3.out.trans (hb.mono HB3.out.size))
  have Op0X_0 := Lib.hid ho
  have Lp0X_0 := Lib.hid (Nat.le_refl w4.heap.size)
  have Np0X := Lib.hid ho.len
  have Gp0X := Lib.hid HB3.out.size
  clear HB3 hb hsz ho
  clear KA0_3
  obtain ⟨cA00, cA01, cA02, cA03⟩ := cells4 KA0_4.out
  go_upto_region 7 with fail
  clear cA00 cA01 cA02 cA03
  obtain ⟨w5, hwx⟩ : ∃ w5, w5 = w4.alloc (.cells #[.int .i64 P0, .int .i64 R0, .int .i64 C0, .slice Pp0X np0X cp0X] 26) := ⟨_, rfl⟩
  obtain ⟨gX0, hgx⟩ : ∃ g, g = w4.heap.size := ⟨_, rfl⟩
  rw [← hwx, ← hgx]
  have hb : Below w4.heap.size w4 w5 := by rw [hwx]; exact Below.alloc_self _ _
  have KX0_0 : Hid (Blk w5 gX0 26 #[.int .i64 P0, .int .i64 R0, .int .i64 C0, .slice Pp0X np0X cp0X]) := Lib.hid (by rw [hwx, hgx]; exact Blk.new _ _ _)
  have DKX0_p0X : Hid (gX0 < w3.heap.size ∨ w4.heap.size ≤ gX0) := Lib.hid (.inr (by rw [hgx]; exact Lp0X_0.out))
  clear hwx hgx
  have KA0_5 := Lib.hid (KA0_4.out.below hb KA0_4.out.lt)
  have hsz := hb.size
  have HB5 := Lib.hid (HB4.out.trans (hb.mono HB4.out.size))
  have Op0X_1 := Lib.hid (Op0X_0.out.below hb Lp0X_0.out)
  have Lp0X_1 := Lib.hid (Nat.le_trans Lp0X_0.out hsz)
  clear Op0X_0 Lp0X_0 HB4 hb hsz
  clear KA0_4
  obtain ⟨cA00, cA01, cA02, cA03⟩ := cells4 KA0_5.out
  obtain ⟨cX00, cX01, cX02, cX03⟩ := cells4 KX0_0.out
  go_wp2_with fail
  refine (implFlagOk_any P0 R0 C0 _ _ _ y0 _ Op0X_1.out.si (by have := Np0X.out; have := YB0.out; omega) Op0X_1.out.cap).mono ?_
  rintro e w6 ⟨rfl, hb⟩
  clear cA00 cA01 cA02 cA03 cX00 cX01 cX02 cX03
  have KA0_6 := Lib.hid (KA0_5.out.below hb KA0_5.out.lt)
  have KX0_1 := Lib.hid (KX0_0.out.below hb KX0_0.out.lt)
  have hsz := hb.size
  have HB6 := Lib.hid (HB5.out.trans (hb.mono HB5.out.size))
  have Op0X_2 := Lib.hid (Op0X_1.out.below hb Lp0X_1.out)
  have Lp0X_2 := Lib.hid (Nat.le_trans Lp0X_1.out hsz)
  clear Op0X_1 Lp0X_1 HB5 hb hsz
  clear KA0_5 KX0_0
  obtain ⟨cA00, cA01, cA02, cA03⟩ := cells4 KA0_6.out
  obtain ⟨cX00, cX01, cX02, cX03⟩ := cells4 KX0_1.out
  go_upto_region 10 with fail
  clear cA00 cA01 cA02 cA03 cX00 cX01 cX02 cX03
  have hq0 : w6.cell? ⟨gX0, 0, none⟩ = some (.int .i64 P0) ∧ w6.cell? ⟨gX0, 1, none⟩ = some (.int .i64 R0) ∧ w6.cell? ⟨gX0, 2, none⟩ = some (.int .i64 C0) ∧ w6.cell? ⟨gX0, 3, none⟩ = some (.slice Pp0X np0X cp0X) ∧ w6.cell? ⟨gA0, 0, none⟩ = some (.int .i64 P0) ∧ w6.cell? ⟨gA0, 1, none⟩ = some (.int .i64 R0) ∧ w6.cell? ⟨gA0, 2, none⟩ = some (.int .i64 C0) ∧ w6.cell? ⟨gA0, 3, none⟩ = some (.slice M0 e0 f0) := by obtain ⟨a0, a1, a2, a3⟩ := cells4 KX0_1.out; obtain ⟨b0, b1, b2, b3⟩ := cells4 KA0_6.out; exact ⟨a0, a1, a2, a3, b0, b1, b2, b3⟩
  have hqd : w6.drew.cell? ⟨gX0, 0, none⟩ = some (.int .i64 P0) ∧ w6.drew.cell? ⟨gX0, 1, none⟩ = some (.int .i64 R0) ∧ w6.drew.cell? ⟨gX0, 2, none⟩ = some (.int .i64 C0) ∧ w6.drew.cell? ⟨gX0, 3, none⟩ = some (.slice Pp0X np0X cp0X) ∧ w6.drew.cell? ⟨gA0, 0, none⟩ = some (.int .i64 P0) ∧ w6.drew.cell? ⟨gA0, 1, none⟩ = some (.int .i64 R0) ∧ w6.drew.cell? ⟨gA0, 2, none⟩ = some (.int .i64 C0) ∧ w6.drew.cell? ⟨gA0, 3, none⟩ = some (.slice M0 e0 f0) := hq0
  have HQ0 := Lib.hid hq0
  have HQD := Lib.hid hqd
  clear hq0 hqd
  have HPD : Hid (SI w6.drew M0 e0 y0) := Lib.hid (hp0.below HB6.out.drew (Nat.le_refl _))
  go_region_held3 (fun w' => w'.cell? ⟨gX0, 0, none⟩ = some (.int .i64 P0) ∧ w'.cell? ⟨gX0, 1, none⟩ = some (.int .i64 R0) ∧ w'.cell? ⟨gX0, 2, none⟩ = some (.int .i64 C0) ∧ w'.cell? ⟨gX0, 3, none⟩ = some (.slice Pp0X np0X cp0X) ∧ w'.cell? ⟨gA0, 0, none⟩ = some (.int .i64 P0) ∧ w'.cell? ⟨gA0, 1, none⟩ = some (.int .i64 R0) ∧ w'.cell? ⟨gA0, 2, none⟩ = some (.int .i64 C0) ∧ w'.cell? ⟨gA0, 3, none⟩ = some (.slice M0 e0 f0))
    (first | with_reducible exact HQD.out | with_reducible exact HQ0.out | with_reducible exact KK4 | with_reducible exact KK5)
    (first
      | (go_at_call 17
         with_reducible refine (toMatrix_any P0 R0 C0 _ _ _ y0 _ HPD.out (by have := SM0.out; omega)).mono ?_
         rintro e w7 ⟨Pyp, nyp, cyp, rfl, ho0, hb0⟩
         have hb : Below w6.heap.size w6 w7 := ((Below.refl _ _).drew).trans hb0
         have ho : Own w7 w6.heap.size w7.heap.size Pyp nyp cyp y0 := ho0
         clear ho0 hb0
         have KA0_7 := Lib.hid (KA0_6.out.below hb KA0_6.out.lt)
         have KX0_2 := Lib.hid (KX0_1.out.below hb KX0_1.out.lt)
         have DKA0_yp : Hid (gA0 < w6.heap.size ∨ w7.heap.size ≤ gA0) := Lib.hid (.inl KA0_6.out.lt)
         have DKX0_yp : Hid (gX0 < w6.heap.size ∨ w7.heap.size ≤ gX0) := Lib.hid (.inl KX0_1.out.lt)
         have hsz := hb.size
         have HB7 := Lib.hid (HB6.out.trans (hb.mono HB6.out.size))
         have Op0X_3 := Lib.hid (Op0X_2.out.below hb Lp0X_2.out)
         have Lp0X_3 := Lib.hid (Nat.le_trans Lp0X_2.out hsz)
         have Oyp_0 := Lib.hid ho
         have Lyp_0 := Lib.hid (Nat.le_refl w7.heap.size)
         have Nyp := Lib.hid ho.len
         have Gyp := Lib.hid HB6.out.size
         have Dp0X_yp : Hid (_ ≤ w6.heap.size) := Lp0X_2
         clear Op0X_2 Lp0X_2 HB6 hb hsz ho
         clear KA0_6 KX0_1
         have KK4 : w7.cell? ⟨gX0, 0, none⟩ = some (.int .i64 P0) ∧ w7.cell? ⟨gX0, 1, none⟩ = some (.int .i64 R0) ∧ w7.cell? ⟨gX0, 2, none⟩ = some (.int .i64 C0) ∧ w7.cell? ⟨gX0, 3, none⟩ = some (.slice Pp0X np0X cp0X) ∧ w7.cell? ⟨gA0, 0, none⟩ = some (.int .i64 P0) ∧ w7.cell? ⟨gA0, 1, none⟩ = some (.int .i64 R0) ∧ w7.cell? ⟨gA0, 2, none⟩ = some (.int .i64 C0) ∧ w7.cell? ⟨gA0, 3, none⟩ = some (.slice M0 e0 f0) := by obtain ⟨a0, a1, a2, a3⟩ := cells4 KX0_2.out; obtain ⟨b0, b1, b2, b3⟩ := cells4 KA0_7.out; exact ⟨a0, a1, a2, a3, b0, b1, b2, b3⟩
         have QX := Lib.hid Op0X_3.out.si
         have QY := Lib.hid Oyp_0.out.si)
      | (go_at_call 19
         with_reducible refine (eqMatrix_yes P0 R0 C0 _ _ _ _ _ _ y0 _ QX.out QY.out YB0.out).mono ?_
         rintro e w8 ⟨rfl, hb⟩
         have KA0_8 := Lib.hid (KA0_7.out.below hb KA0_7.out.lt)
         have KX0_3 := Lib.hid (KX0_2.out.below hb KX0_2.out.lt)
         have hsz := hb.size
         have HB8 := Lib.hid (HB7.out.trans (hb.mono HB7.out.size))
         have Op0X_4 := Lib.hid (Op0X_3.out.below hb Lp0X_3.out)
         have Lp0X_4 := Lib.hid (Nat.le_trans Lp0X_3.out hsz)
         have Oyp_1 := Lib.hid (Oyp_0.out.below hb Lyp_0.out)
         have Lyp_1 := Lib.hid (Nat.le_trans Lyp_0.out hsz)
         clear Op0X_3 Lp0X_3 Oyp_0 Lyp_0 HB7 hb hsz
         clear KA0_7 KX0_2
         have KK5 : w8.cell? ⟨gX0, 0, none⟩ = some (.int .i64 P0) ∧ w8.cell? ⟨gX0, 1, none⟩ = some (.int .i64 R0) ∧ w8.cell? ⟨gX0, 2, none⟩ = some (.int .i64 C0) ∧ w8.cell? ⟨gX0, 3, none⟩ = some (.slice Pp0X np0X cp0X) ∧ w8.cell? ⟨gA0, 0, none⟩ = some (.int .i64 P0) ∧ w8.cell? ⟨gA0, 1, none⟩ = some (.int .i64 R0) ∧ w8.cell? ⟨gA0, 2, none⟩ = some (.int .i64 C0) ∧ w8.cell? ⟨gA0, 3, none⟩ = some (.slice M0 e0 f0) := by obtain ⟨a0, a1, a2, a3⟩ := cells4 KX0_3.out; obtain ⟨b0, b1, b2, b3⟩ := cells4 KA0_8.out; exact ⟨a0, a1, a2, a3, b0, b1, b2, b3⟩))
  clear HQ0 HQD HPD KK4 KK5 QX QY
  go_wp2
  go_ret
  exact ⟨rfl, HBA.out.trans (HB8.out.mono HFIN.out)⟩

set_option maxRecDepth 100000 in
theorem lifted_FlagOk (os : Os) (started : os.Started) (H : Type) (enc : TypeId × Value → H) :
    ReturnsInHanded {} Try.checked os 6 .any (Rows.fnExactFlagOkSpec.pre6 enc Try.prog Try.f6 Rows.fnExactFlagOkRow.domain false) (Rows.fnExactFlagOkSpec.post enc Try.prog Try.f6 false true false false) := by
  refine returnsInHanded_of_change (C := Try.checked) own started (by kernel_rfl) Try.func6
    (ChangeSpec.witness6 (enc := enc) (C := Try.checked) false ⟨#[], #[.agg #[.int .i64 0, .int .i64 0, .int .i64 0, .slice none 0 0]], []⟩ 8 (by kernel_rfl) (by kernel_rfl) (by kernel_rfl) (by kernel_rfl)) ?_
  intro W base args ds gs before hval0 hW hcnd _
  have hval : ∀ (j : Nat) t v, Try.f6.params[j]? = some t → args[j]? = some v → Value.okWide Try.prog W .any base t v := hval0
  have hW' := hW
  obtain ⟨p, q, hA0, hV, rfl, hfz, hnd⟩ := hW
  have hA : DataW.TrodAll enc Try.prog W 0 (fun _ => true) true Try.f6.params.toList args.toList ds p := hA0
  rw [Try.params6] at hA hval
  obtain ⟨v0, vs0, d0, ds0, p0, q0, hargs, rfl, rfl, h0, r0⟩ := trodAll_cons hA
  obtain ⟨rfl, rfl, rfl⟩ := trodAll_nil r0
  obtain rfl : args = #[v0] := by cases args; simp_all
  obtain ⟨rfl, rfl⟩ := trodVars_none hV
  have ok0 := hval 0 24 v0 rfl rfl
  obtain ⟨cs0, rfl, hsz0⟩ : ∃ cs : Array Value, v0 = .agg cs ∧ cs.size = 4 := by
    unfold Value.okWide at ok0
    rw [Try.underlying24] at ok0
    obtain ⟨cs, e, hz, _⟩ := ok0
    exact ⟨cs, e, by rw [hz]; kernel_rfl⟩
  clear ok0
  have k0 := h0
  have lt0 : ∀ x ∈ p0, x.block < W.heap.size := by obtain ⟨m, hm⟩ := k0; exact DataW.trod_lt m _ _ _ hm
  obtain ⟨P0, R0, C0, A0, n0, c0, y0, rfl, hp0, hn0, _, _, _, hf0⟩ := MX.of_trod hsz0 h0
  clear hA0 hval0
  refine (walk_FlagOk P0 R0 C0 A0 n0 c0 y0 W hp0 hn0 hf0).mono fun e W' ⟨he, bel⟩ => ?_
  subst he
  exact ⟨_, rfl, _, _, _, [], _, [], hW', trodAll_mk1 (shut_bool Try.underlying4 _), (trodAll_cons_mk (Below.trod laidOut (by kernel_rfl) (of_decide_eq_true (by kernel_rfl)) k0 bel lt0) trodAll_mk0), rfl, bel.frame _, fun h => by cases h⟩

theorem fnExactFlagOk_holds : Rows.FnExactFlagOkSaid :=
  OpenClaim.holds_of_wide 6 Try.f6 rfl rfl rfl rfl rfl rfl rfl ⟨rfl, rfl, rfl, rfl, rfl⟩ rfl rfl rfl rfl rfl (by kernel_rfl) Try.func6 (by kernel_rfl)
    (of_decide_eq_true (by kernel_rfl)) (by unfold Func.isWrapper; first | (rw [if_pos (by decide +kernel)]; kernel_rfl) | (rw [if_neg (by decide +kernel)]; exact ⟨rfl, rfl⟩))
    (fun os started H enc _ => lifted_FlagOk os started H enc)
end Go.Proofs.Ytdepalpkcmfegaa
