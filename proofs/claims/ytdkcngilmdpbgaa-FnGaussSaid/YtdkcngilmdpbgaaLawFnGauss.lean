/-
  FnGauss: for every input the law returns true: shapes in a drawn box are counted by size in a way that dual shapes and the other box do not change, and as two smaller boxes say. No conditions.
-/
import Derived.Test.YtdkcngilmdpbgaaBoxD
import Derived.Test.YtdkcngilmdpbgaaGausF
import Derived.Test.YtdkcngilmdpbgaaRevL
import Derived.Test.YtdkcngilmdpbgaaInts
import Derived.Test.YtdkcngilmdpbgaaFrameB
namespace Go.Proofs.Ytdkcngilmdpbgaa
open Go.ChangeShapes Go.WideShapes Go.ChangeAt Go.RowKit

set_option maxRecDepth 100000 in
set_option maxHeartbeats 8000000 in
theorem walk_FnGauss (A : Option Addr) (n c : Nat) (bs : List Int) (w : World) (hs : SB w w.heap.size A n bs) :
    Calls Try.prog 14 #[.slice A n c] w fun e w' => e = .returned (.bool true) ∧ Below w.heap.size w w' := by
  by_cases hbig : 1048576 < n
  · have hbI : decide (1048576 < (n : Int)) = true := by simp; omega
    go_enter Try.func14, Try.ntmps14
    go_wp2_with fail
    refine (big_any A n c w).mono ?_
    rintro e w1 ⟨rfl, rfl⟩
    rw [hbI]
    go_wp2
    go_ret
    exact ⟨rfl, Below.refl _ _⟩
  have hbI : decide (1048576 < (n : Int)) = false := by simp; omega
  have HbI := Lib.hid hbI
  clear hbI
  have HS0 := Lib.hid hs
  clear hs
  go_enter Try.func14, Try.ntmps14
  go_wp2_with fail
  refine (big_any A n c w).mono ?_
  rintro e w0 ⟨rfl, rfl⟩
  rw [HbI.out]
  go_wp2_with fail
  refine (drawBoxes_any A n c bs w HS0.out (by omega)).mono ?_
  rintro e w1 ⟨us, ys, zs, A1, A2, A3, n1, c1, n2, c2, n3, c3, k, m, rfl, -, -, -, hpx, -, -, hm2, hm6, hb⟩
  have HB1 := Lib.hid hb
  have hkm : k ≤ m := by have := hpx.2.2.2.1; omega
  have HF := Lib.hid (gs_facts hkm hm2 hm6)
  obtain ⟨d, hd⟩ : ∃ d : Nat, d = m - k := ⟨_, rfl⟩
  obtain ⟨p, hpd⟩ : ∃ p : Nat, p = k * d := ⟨_, rfl⟩
  have hp36 : p ≤ 36 := by rw [hpd]; exact Nat.mul_le_mul (show k ≤ 6 by omega) (show d ≤ 6 by omega)
  obtain ⟨N, hN⟩ : ∃ N : Nat, N = p + 1 := ⟨_, rfl⟩
  have hw1 : IntKind.i64.wrap ((m : Int) - (k : Int)) = (d : Int) := by rw [show (m : Int) - (k : Int) = (d : Int) by omega]; exact IntWalk.i64_in _ (by omega)
  have hw2 : IntKind.i64.wrap ((k : Int) * (d : Int)) = (p : Int) := by have e := Int.natCast_mul k d; rw [← hpd] at e; rw [← e]; exact IntWalk.i64_in _ (by omega)
  have hw3 : IntKind.i64.wrap ((p : Int) + 1) = (N : Int) := by rw [show (p : Int) + 1 = (N : Int) by omega]; exact IntWalk.i64_in _ (by omega)
  have hw4 : IntKind.i64.wrap ((m : Int) - 1) = (m : Int) - 1 := IntWalk.i64_in _ (by omega)
  have hw5 : IntKind.i64.wrap ((k : Int) - 1) = (k : Int) - 1 := IntWalk.i64_in _ (by omega)
  have HO : Hid (gauN (d : Int) (m : Int) = gauN (k : Int) (m : Int)) := Lib.hid (by rw [hd]; exact HF.out.oth)
  have HLN : Hid ((gauN (k : Int) (m : Int)).length = N) := Lib.hid (by rw [HF.out.len, hN, hpd, hd])
  have hN50 : N ≤ 50 := by omega
  have HD := Lib.hid (And.intro hd (And.intro hpd hN))
  clear hpx hb hd hpd hN
  go_wp2_with fail
  refine (implGauss_any _ _ _).mono ?_
  rintro e w2 ⟨Al, nl, cl, rfl, ho, hb⟩
  have hsz := hb.size
  have HB2 := Lib.hid (HB1.out.trans (hb.mono HB1.out.size))
  have Ol_0 := Lib.hid ho
  have Ll_0 := Lib.hid (Nat.le_refl w2.heap.size)
  have Nl := Lib.hid ho.len
  have Gl := Lib.hid HB1.out.size
  clear HB1 hb hsz ho
  obtain rfl : N = nl := by have := Nl.out; have := HLN.out; omega
  go_wp2_with fail
  refine (reversed_any _ _ _ (gauN (k : Int) (m : Int)) _ Ol_0.out.si (by omega)).mono ?_
  rintro e w3 ⟨Ar, nr, cr, rfl, ho, hb⟩
  rw [HF.out.rev] at ho
  have hsz := hb.size
  have HB3 := Lib.hid (HB2.out.trans (hb.mono HB2.out.size))
  have Ol_1 := Lib.hid (Ol_0.out.below hb Ll_0.out)
  have Ll_1 := Lib.hid (Nat.le_trans Ll_0.out hsz)
  have Or_0 := Lib.hid ho
  have Lr_0 := Lib.hid (Nat.le_refl w3.heap.size)
  have Nr := Lib.hid ho.len
  have Gr := Lib.hid HB2.out.size
  have Dl_r : Hid (_ ≤ w2.heap.size) := Ll_0
  clear Ol_0 Ll_0 HB2 hb hsz ho
  have er : nr ≤ 50 := by have := Nr.out; have := HLN.out; omega
  go_wp2_with fail
  refine (ints_any _ _ _ _ _ _ (gauN (k : Int) (m : Int)) (gauN (k : Int) (m : Int)) _ Ol_1.out.si Or_0.out.si (by omega) (by omega)).mono ?_
  rintro e w4 ⟨rfl, hd⟩
  rw [eqL_self]
  have hb : Below w3.heap.size w3 w4 := hd.below _
  have hsz := hb.size
  have HB4 := Lib.hid (HB3.out.trans (hb.mono HB3.out.size))
  have Ol_2 := Lib.hid (Ol_1.out.below hb Ll_1.out)
  have Ll_2 := Lib.hid (Nat.le_trans Ll_1.out hsz)
  have Or_1 := Lib.hid (Or_0.out.below hb Lr_0.out)
  have Lr_1 := Lib.hid (Nat.le_trans Lr_0.out hsz)
  clear Ol_1 Ll_1 Or_0 Lr_0 HB3 hb hsz hd
  go_wp2_with fail
  refine (implGauss_any _ _ _).mono ?_
  rintro e w5 ⟨Aq, nq, cq, rfl, ho, hb⟩
  rw [HO.out] at ho
  have hsz := hb.size
  have HB5 := Lib.hid (HB4.out.trans (hb.mono HB4.out.size))
  have Ol_3 := Lib.hid (Ol_2.out.below hb Ll_2.out)
  have Ll_3 := Lib.hid (Nat.le_trans Ll_2.out hsz)
  have Or_2 := Lib.hid (Or_1.out.below hb Lr_1.out)
  have Lr_2 := Lib.hid (Nat.le_trans Lr_1.out hsz)
  have Oq_0 := Lib.hid ho
  have Lq_0 := Lib.hid (Nat.le_refl w5.heap.size)
  have Nq := Lib.hid ho.len
  have Gq := Lib.hid HB4.out.size
  have Dl_q : Hid (_ ≤ w4.heap.size) := Ll_2
  have Dr_q : Hid (_ ≤ w4.heap.size) := Lr_1
  clear Ol_2 Ll_2 Or_1 Lr_1 HB4 hb hsz ho
  have eq : nq ≤ 50 := by have := Nq.out; have := HLN.out; omega
  go_wp2_with fail
  refine (ints_any _ _ _ _ _ _ (gauN (k : Int) (m : Int)) (gauN (k : Int) (m : Int)) _ Ol_3.out.si Oq_0.out.si (by omega) (by omega)).mono ?_
  rintro e w6 ⟨rfl, hd⟩
  rw [eqL_self]
  have hb : Below w5.heap.size w5 w6 := hd.below _
  have hsz := hb.size
  have HB6 := Lib.hid (HB5.out.trans (hb.mono HB5.out.size))
  have Ol_4 := Lib.hid (Ol_3.out.below hb Ll_3.out)
  have Ll_4 := Lib.hid (Nat.le_trans Ll_3.out hsz)
  have Or_3 := Lib.hid (Or_2.out.below hb Lr_2.out)
  have Lr_3 := Lib.hid (Nat.le_trans Lr_2.out hsz)
  have Oq_1 := Lib.hid (Oq_0.out.below hb Lq_0.out)
  have Lq_1 := Lib.hid (Nat.le_trans Lq_0.out hsz)
  clear Ol_3 Ll_3 Or_2 Lr_2 Oq_0 Lq_0 HB5 hb hsz hd
  obtain ⟨gl, rfl, hgl1, hgl2⟩ := Ol_4.out.place (by have := HD.out.2.2; omega)
  have HGL := Lib.hid (And.intro hgl1 hgl2)
  clear hgl1 hgl2
  by_cases he : k = 0 ∨ k = m
  · have h1 : N = 1 := by
      obtain ⟨e1, e2, e3⟩ := HD.out
      rcases he with e | e
      · rw [e, Nat.zero_mul] at e2; omega
      · rw [show d = 0 by omega, Nat.mul_zero] at e2; omega
    have h2 := HF.out.one he
    have hc0 : w6.cell? ⟨gl, 0, none⟩ = some (.int .i64 1) := by rw [← h2]; exact Ol_4.out.cellAt (by omega)
    have hN1 : (N : Int) = 1 := by omega
    clear h2
    by_cases hk0 : k = 0
    · have hkI : (k : Int) = 0 := by omega
      clear he h1 hk0
      go_wp2
      go_ret
      exact ⟨rfl, HB6.out⟩
    · have hk1 : k = m := he.resolve_left hk0
      subst hk1
      have hkI : ((k : Int) == 0) = false := by simp; omega
      have hkI2 : ¬ (k : Int) = 0 := by omega
      clear he h1 hk0
      go_wp2
      go_ret
      exact ⟨rfl, HB6.out⟩
  · have hk0 : ((k : Int) == 0) = false := by simp; omega
    have hkm2 : ((k : Int) == (m : Int)) = false := by simp; omega
    have hm1 : ((m : Int) == 1) = false := by simp; omega
    have h1k : 1 ≤ k := by omega
    have HT := Lib.hid (HF.out.two he)
    have hla := HF.out.la he
    have hlb := HF.out.lb he
    clear he
    go_wp2_with fail
    refine (implGauss_any _ _ _).mono ?_
    rintro e w7 ⟨Aa, na, ca, rfl, ho, hb⟩
    have hsz := hb.size
    have HB7 := Lib.hid (HB6.out.trans (hb.mono HB6.out.size))
    have Ol_5 := Lib.hid (Ol_4.out.below hb Ll_4.out)
    have Ll_5 := Lib.hid (Nat.le_trans Ll_4.out hsz)
    have Or_4 := Lib.hid (Or_3.out.below hb Lr_3.out)
    have Lr_4 := Lib.hid (Nat.le_trans Lr_3.out hsz)
    have Oq_2 := Lib.hid (Oq_1.out.below hb Lq_1.out)
    have Lq_2 := Lib.hid (Nat.le_trans Lq_1.out hsz)
    have Oa_0 := Lib.hid ho
    have La_0 := Lib.hid (Nat.le_refl w7.heap.size)
    have Na := Lib.hid ho.len
    have Ga := Lib.hid HB6.out.size
    have Dl_a : Hid (_ ≤ w6.heap.size) := Ll_4
    have Dr_a : Hid (_ ≤ w6.heap.size) := Lr_3
    have Dq_a : Hid (_ ≤ w6.heap.size) := Lq_1
    clear Ol_4 Ll_4 Or_3 Lr_3 Oq_1 Lq_1 HB6 hb hsz ho
    have ea : na ≤ 50 := by have := Na.out; omega
    go_wp2_with fail
    refine (implGauss_any _ _ _).mono ?_
    rintro e w8 ⟨Ab, nb, cb, rfl, ho, hb⟩
    have hsz := hb.size
    have HB8 := Lib.hid (HB7.out.trans (hb.mono HB7.out.size))
    have Ol_6 := Lib.hid (Ol_5.out.below hb Ll_5.out)
    have Ll_6 := Lib.hid (Nat.le_trans Ll_5.out hsz)
    have Or_5 := Lib.hid (Or_4.out.below hb Lr_4.out)
    have Lr_5 := Lib.hid (Nat.le_trans Lr_4.out hsz)
    have Oq_3 := Lib.hid (Oq_2.out.below hb Lq_2.out)
    have Lq_3 := Lib.hid (Nat.le_trans Lq_2.out hsz)
    have Oa_1 := Lib.hid (Oa_0.out.below hb La_0.out)
    have La_1 := Lib.hid (Nat.le_trans La_0.out hsz)
    have Ob_0 := Lib.hid ho
    have Lb_0 := Lib.hid (Nat.le_refl w8.heap.size)
    have Nb := Lib.hid ho.len
    have Gb := Lib.hid HB7.out.size
    have Dl_b : Hid (_ ≤ w7.heap.size) := Ll_5
    have Dr_b : Hid (_ ≤ w7.heap.size) := Lr_4
    have Dq_b : Hid (_ ≤ w7.heap.size) := Lq_2
    have Da_b : Hid (_ ≤ w7.heap.size) := La_0
    clear Ol_5 Ll_5 Or_4 Lr_4 Oq_2 Lq_2 Oa_0 La_0 HB7 hb hsz ho
    have eb : nb ≤ 50 := by have := Nb.out; omega
    clear hla hlb
    have HTT : Hid (∀ i, i < N → nth (gauN (k : Int) ((m : Int) - 1)) i + (if d ≤ i then nth (gauN ((k : Int) - 1) ((m : Int) - 1)) (i - d) else 0) = nth (gauN (k : Int) (m : Int)) i ∧ (0 ≤ nth (gauN (k : Int) (m : Int)) i ∧ nth (gauN (k : Int) (m : Int)) i ≤ 1000) ∧ 0 ≤ nth (gauN (k : Int) ((m : Int) - 1)) i ∧ nth (gauN (k : Int) ((m : Int) - 1)) i ≤ 1000) := Lib.hid (fun i hi => by have e1 := HD.out; have := HT.out i (by rw [← e1.1, ← e1.2.1]; omega); rw [← e1.1] at this; exact this)
    clear HT
    have hdm : d ≤ 6 := by have := HD.out.1; omega
    go_wp2_with fail
    go_loopw [11] (fun iv wr => ∃ i : Nat, i ≤ N ∧ iv = .int .i64 i ∧ Drawn w8 wr)
      (fun iv _ => N - (intOf iv).toNat)
    case atStart => exact ⟨0, Nat.zero_le _, rfl, Drawn.refl _⟩
    case round =>
      obtain ⟨i, hi, rfl, hD⟩ := hrel
      have HDR := Lib.hid hD
      clear hD
      by_cases hlt : i < N
      · have hlI : (i : Int) < (N : Int) := by omega
        have hcl := (Ol_6.out.drawn HDR.out).cellAt hlt
        have hE := HTT.out i hlt
        obtain ⟨y, hy⟩ : ∃ y, y = nth (gauN (k : Int) (m : Int)) i := ⟨_, rfl⟩
        rw [← hy] at hcl hE
        by_cases hia : i < na
        · obtain ⟨ga, oa, rfl, hga, hca⟩ := (Oa_1.out.drawn HDR.out).si.at_ (by omega)
          have hca1 := hca i hia
          obtain ⟨x, hx⟩ : ∃ x, x = nth (gauN (k : Int) ((m : Int) - 1)) i := ⟨_, rfl⟩
          rw [← hx] at hca1 hE
          have hiaI : (i : Int) < (na : Int) := by omega
          by_cases hdi : d ≤ i
          · rw [if_pos hdi] at hE
            obtain ⟨j, hj⟩ : ∃ j : Nat, j = i - d := ⟨_, rfl⟩
            rw [← hj] at hE
            have hw6 : IntKind.i64.wrap ((i : Int) - (d : Int)) = (j : Int) := by rw [show (i : Int) - (d : Int) = (j : Int) by omega]; exact IntWalk.i64_in _ (by omega)
            have hj0 : (0 : Int) ≤ (j : Int) := by omega
            by_cases hjb : j < nb
            · obtain ⟨gb, ob, rfl, hgb, hcb⟩ := (Ob_0.out.drawn HDR.out).si.at_ (by omega)
              have hcb1 := hcb j hjb
              obtain ⟨z, hz⟩ : ∃ z, z = nth (gauN ((k : Int) - 1) ((m : Int) - 1)) j := ⟨_, rfl⟩
              rw [← hz] at hcb1 hE
              have hw7 : IntKind.i64.wrap (x + z) = y := by rw [hE.1]; exact IntWalk.i64_in _ (by omega)
              have hjbI : (j : Int) < (nb : Int) := by omega
              clear hca hcb hy hx hj hz hE
              go_wp2
              go_roundw
              case rel => exact ⟨i + 1, by omega, by go_num, HDR.out⟩
              case measure => simp [intOf]; omega
            · have hz0 : nth (gauN ((k : Int) - 1) ((m : Int) - 1)) j = 0 := nth_out (by have := Nb.out; omega)
              have hxy : x = y := by have := hE.1; omega
              subst hxy
              have hjbI : ¬ (j : Int) < (nb : Int) := by omega
              clear hca hy hx hj hE hz0
              go_wp2
              go_roundw
              case rel => exact ⟨i + 1, by omega, by go_num, HDR.out⟩
              case measure => simp [intOf]; omega
          · rw [if_neg hdi] at hE
            have hxy : x = y := by have := hE.1; omega
            subst hxy
            have hw6 : IntKind.i64.wrap ((i : Int) - (d : Int)) = (i : Int) - (d : Int) := IntWalk.i64_in _ (by omega)
            have hj0 : ¬ (i : Int) - (d : Int) ≥ 0 := by omega
            clear hca hy hx hE hdi
            go_wp2
            go_roundw
            case rel => exact ⟨i + 1, by omega, by go_num, HDR.out⟩
            case measure => simp [intOf]; omega
        · have hx0 : nth (gauN (k : Int) ((m : Int) - 1)) i = 0 := nth_out (by have := Na.out; omega)
          rw [hx0] at hE
          have hiaI : ¬ (i : Int) < (na : Int) := by omega
          by_cases hdi : d ≤ i
          · rw [if_pos hdi] at hE
            obtain ⟨j, hj⟩ : ∃ j : Nat, j = i - d := ⟨_, rfl⟩
            rw [← hj] at hE
            have hw6 : IntKind.i64.wrap ((i : Int) - (d : Int)) = (j : Int) := by rw [show (i : Int) - (d : Int) = (j : Int) by omega]; exact IntWalk.i64_in _ (by omega)
            have hj0 : (0 : Int) ≤ (j : Int) := by omega
            by_cases hjb : j < nb
            · obtain ⟨gb, ob, rfl, hgb, hcb⟩ := (Ob_0.out.drawn HDR.out).si.at_ (by omega)
              have hcb1 := hcb j hjb
              have hzy : nth (gauN ((k : Int) - 1) ((m : Int) - 1)) j = y := by have := hE.1; omega
              rw [hzy] at hcb1
              have hw7 : IntKind.i64.wrap ((0 : Int) + y) = y := by rw [Int.zero_add]; exact IntWalk.i64_in _ (by omega)
              have hw8 : IntKind.i64.wrap y = y := IntWalk.i64_in _ (by omega)
              have hjbI : (j : Int) < (nb : Int) := by omega
              clear hcb hy hj hzy hE hx0
              go_wp2
              go_roundw
              case rel => exact ⟨i + 1, by omega, by go_num, HDR.out⟩
              case measure => simp [intOf]; omega
            · have hz0 : nth (gauN ((k : Int) - 1) ((m : Int) - 1)) j = 0 := nth_out (by have := Nb.out; omega)
              have hy0 : y = 0 := by have := hE.1; omega
              subst hy0
              have hjbI : ¬ (j : Int) < (nb : Int) := by omega
              clear hy hj hE hz0 hx0
              go_wp2
              go_roundw
              case rel => exact ⟨i + 1, by omega, by go_num, HDR.out⟩
              case measure => simp [intOf]; omega
          · rw [if_neg hdi] at hE
            have hy0 : y = 0 := by have := hE.1; omega
            subst hy0
            have hw6 : IntKind.i64.wrap ((i : Int) - (d : Int)) = (i : Int) - (d : Int) := IntWalk.i64_in _ (by omega)
            have hj0 : ¬ (i : Int) - (d : Int) ≥ 0 := by omega
            clear hy hE hdi hx0
            go_wp2
            go_roundw
            case rel => exact ⟨i + 1, by omega, by go_num, HDR.out⟩
            case measure => simp [intOf]; omega
      · obtain rfl : i = N := by omega
        go_wp2
        go_ret
        exact ⟨rfl, HB8.out.trans (HDR.out.below _)⟩

set_option maxRecDepth 100000 in
theorem lifted_FnGauss (os : Os) (started : os.Started) (H : Type) (enc : TypeId × Value → H) :
    ReturnsInHanded {} Try.checked os 14 .any (Rows.fnGaussSpec.pre6 enc Try.prog Try.f14 Rows.fnGaussRow.domain false) (Rows.fnGaussSpec.post enc Try.prog Try.f14 false true false false) := by
  refine returnsInHanded_of_change (C := Try.checked) own started (by kernel_rfl) Try.func14
    (ChangeSpec.witness6 (enc := enc) (C := Try.checked) false ⟨#[], #[.slice none 0 0], []⟩ 8 (by kernel_rfl) (by kernel_rfl) (by kernel_rfl) (by kernel_rfl)) ?_
  intro W base args ds gs before hval0 hW hcnd _
  have hval : ∀ (j : Nat) t v, Try.f14.params[j]? = some t → args[j]? = some v → Value.okWide Try.prog W .any base t v := hval0
  have hW' := hW
  obtain ⟨p, q, hA0, hV, rfl, hfz, hnd⟩ := hW
  have hA : DataW.TrodAll enc Try.prog W 0 (fun _ => true) true Try.f14.params.toList args.toList ds p := hA0
  rw [Try.params14] at hA hval
  obtain ⟨v0, vs0, d0, ds0, p0, q0, hargs, rfl, rfl, h0, r0⟩ := trodAll_cons hA
  obtain ⟨rfl, rfl, rfl⟩ := trodAll_nil r0
  obtain rfl : args = #[v0] := by cases args; simp_all
  obtain ⟨rfl, rfl⟩ := trodVars_none hV
  obtain ⟨b0, len0, cap0, rfl⟩ := okWide_slice Try.underlying56 (hval 0 56 v0 rfl rfl)
  have k0 := h0
  have lt0 : ∀ x ∈ p0, x.block < W.heap.size := by obtain ⟨m, hm⟩ := k0; exact DataW.trod_lt m _ _ _ hm
  obtain ⟨bs, s0⟩ := SB.of_trod h0
  clear hA0 hval0
  refine (walk_FnGauss b0 len0 cap0 bs W s0).mono fun e W' ⟨he, bel⟩ => ?_
  subst he
  exact ⟨_, rfl, _, _, _, [], _, [], hW', trodAll_mk1 (shut_bool Try.underlying4 _), (trodAll_cons_mk (Below.trod laidOut (by kernel_rfl) (of_decide_eq_true (by kernel_rfl)) k0 bel lt0) trodAll_mk0), rfl, bel.frame _, fun h => by cases h⟩

theorem fnGauss_holds : Rows.FnGaussSaid :=
  OpenClaim.holds_of_wide 14 Try.f14 rfl rfl rfl rfl rfl rfl rfl ⟨rfl, rfl, rfl, rfl, rfl⟩ rfl rfl rfl rfl rfl (by kernel_rfl) Try.func14 (by kernel_rfl)
    (of_decide_eq_true (by kernel_rfl)) (by unfold Func.isWrapper; first | (rw [if_pos (by decide +kernel)]; kernel_rfl) | (rw [if_neg (by decide +kernel)]; exact ⟨rfl, rfl⟩))
    (fun os started H enc _ => lifted_FnGauss os started H enc)

end Go.Proofs.Ytdkcngilmdpbgaa
