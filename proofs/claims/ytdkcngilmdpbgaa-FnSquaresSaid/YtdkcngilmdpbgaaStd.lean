/-
  How many standard tableaux a shape has, on both sides. Conditions: lengths below 2^40.
-/
import Derived.Test.YtdkcngilmdpbgaaHook
namespace Go.Proofs.Ytdkcngilmdpbgaa
open Go.RowKit

theorem stdOk_no {xs : List Int} (h : stdOk xs = false) : stdCount xs = -1 := by unfold stdCount; rw [h]; rfl
theorem stdOk_yes {xs : List Int} (h : stdOk xs = true) : stdCount xs = (stdN xs : Int) := by unfold stdCount; rw [h]; rfl
theorem sum_bnd {xs : List Int} (h : isShapeP xs) (k : Nat) (hk : k ≤ 16) : 0 ≤ sumN xs k ∧ sumN xs k ≤ 16 * (k : Int) := by
  induction k with
  | zero => exact ⟨Int.le_refl _, Int.le_refl _⟩
  | succ k ih =>
    have h1 := ih (by omega)
    have h2 := shape_range h k
    have e : sumN xs (k + 1) = sumN xs k + nth xs k := rfl
    rw [e]; omega
theorem tdiv_nat (a b : Nat) : Int.tdiv (a : Int) (b : Int) = ((a / b : Nat) : Int) := by rw [Int.tdiv_eq_ediv_of_nonneg (by omega)]; rfl
set_option maxRecDepth 100000 in
set_option maxHeartbeats 2000000 in
theorem specStd_any (A : Option Addr) (n c : Nat) (xs : List Int) (w : World) (hs : SI w A n xs) (hn : n ≤ 1099511627776) :
    Calls Try.prog 79 #[.slice A n c] w fun e w' => e = .returned (.int .i64 (stdCount xs)) ∧ Below w.heap.size w w' := by
  have HI := Lib.hid (specIsShape_any A n c xs w hs hn)
  cases hsh : isShapeB xs with
  | false =>
    rw [hsh] at HI
    have HE := Lib.hid (stdOk_no (xs := xs) (by unfold stdOk; rw [hsh]; rfl))
    clear hsh hs
    go_enter Try.func79, Try.ntmps79
    go_wp2_with (go_at_call 69; refine HI.out.mono ?_; rintro e w1 ⟨rfl, hd1⟩)
    go_ret
    exact ⟨by rw [HE.out]; rfl, hd1.below _⟩
  | true =>
    rw [hsh] at HI
    have hp := isShapeB_P hsh
    have hl := hs.1
    have HP := Lib.hid hp
    have h16 : n ≤ 16 := by have := hp.1; omega
    have HSM := Lib.hid (fun w' (hd : Below w.heap.size w w') => l1Sum_any A n c xs w' (hs.below hd (Nat.le_refl _)) hn (fun k hk => by have := sum_bnd hp k (by omega); omega))
    by_cases h20 : 20 < sumN xs n
    · have HE := Lib.hid (stdOk_no (xs := xs) (by unfold stdOk; rw [decide_eq_false (by rw [hl]; omega), Bool.and_false]))
      obtain ⟨s, hs0⟩ : ∃ s, s = sumN xs n := ⟨_, rfl⟩
      rw [← hs0] at HSM h20
      clear hsh hs hp hl hs0
      go_enter Try.func79, Try.ntmps79
      go_wp2_with (first
        | (go_at_call 69; refine HI.out.mono ?_; rintro e w1 ⟨rfl, hd1⟩; have HD1 := Lib.hid (hd1.below w.heap.size); clear hd1)
        | (go_at_call 82; refine (HSM.out _ HD1.out).mono ?_; rintro e w2 ⟨rfl, hd2⟩; have HD2 := Lib.hid (HD1.out.trans (hd2.below w.heap.size)); clear hd2))
      go_ret
      exact ⟨by rw [HE.out]; rfl, HD2.out⟩
    · have hst : stdOk xs = true := by unfold stdOk; rw [hsh, hl, decide_eq_true (by omega)]; rfl
      have HE := Lib.hid (stdOk_yes hst)
      have hc := cellsN_sum (xs := xs) (fun k => (shape_range hp k).1) n
      obtain ⟨s, hs0⟩ : ∃ s, s = cellsN xs n := ⟨_, rfl⟩
      have hs20 : s ≤ 20 := by omega
      rw [hc, ← hs0] at HSM
      have HPB := Lib.hid (prod_bnd hp)
      have HST : Hid (stdN xs = factN s / allProd xs n) := Lib.hid (by unfold stdN; rw [hl, hs0])
      have HS := Lib.hid hs
      have HL := Lib.hid hl
      have HF20 := Lib.hid (fact20 hs20)
      have HCO := Lib.hid (fun w' (hd : Below w.heap.size w w') => specConj_any A n c xs w' (hs.below hd (Nat.le_refl _)) hn)
      have HCY := Lib.hid (conj_yes hsh)
      have HRN := Lib.hid (shape_range hp)
      have h20' : ¬ (20 : Int) < (s : Int) := by omega
      clear hsh hs hp hl hs0 hst hc h20
      go_enter Try.func79, Try.ntmps79
      go_wp2_with (first
        | (go_at_call 69; refine HI.out.mono ?_; rintro e w1 ⟨rfl, hd1⟩; have HD1 := Lib.hid (hd1.below w.heap.size); clear hd1)
        | (go_at_call 115; refine (HCO.out _ HD2.out).mono ?_; rintro e w3 ⟨A3, n3, c3, rfl, ho3, hb3⟩
           rw [HCY.out] at ho3
           have HO3 := Lib.hid ho3
           have HB3 : Hid (Below w.heap.size w w3) := Lib.hid (HD2.out.trans (hb3.mono HD2.out.size))
           clear ho3 hb3)
        | (go_at_call 82; first
            | ((with_reducible refine (HSM.out _ HD1.out).mono ?_); rintro e w2 ⟨rfl, hd2⟩; have HD2 := Lib.hid (HD1.out.trans (hd2.below w.heap.size)); clear hd2)
            | ((with_reducible refine (HSM.out _ HB3.out).mono ?_); rintro e w4 ⟨rfl, hd4⟩; have HD4 := Lib.hid hd4; clear hd4))
        | (go_at_call 116; refine (l1Factorial_any s _ hs20).mono ?_; rintro e w5 ⟨rfl, rfl⟩))
      obtain ⟨wf, rfl⟩ : ∃ wf, wf = w4 := ⟨w4, rfl⟩
      have HB4 : Hid (Below w.heap.size w wf) := Lib.hid (HB3.out.trans (HD4.out.below _))
      have HO4 : Hid (SI wf A3 n3 (conjL xs (nth xs 0).toNat)) := Lib.hid (HD4.out.si HO3.out.si)
      have HN3 : Hid (n3 = (nth xs 0).toNat) := Lib.hid (by have := HO3.out.len; rw [conjL_len] at this; exact this.symm)
      go_loopw [4, 5] (fun pv iv wr => ∃ i : Nat, i ≤ n ∧ iv = .int .i64 i ∧ pv = .int .i64 ((factN s / allProd xs i : Nat) : Int) ∧ Drawn wf wr)
        (fun _ iv _ => n - (intOf iv).toNat)
      case atStart => exact ⟨0, Nat.zero_le _, rfl, by show _ = Value.int .i64 ((factN s / 1 : Nat) : Int); rw [Nat.div_one], Drawn.refl _⟩
      case round =>
        obtain ⟨i, hi, rfl, rfl, hD⟩ := hrel
        have HDR := Lib.hid hD
        clear hD
        by_cases hlt : i < n
        · have hiI : (i : Int) < (n : Int) := by omega
          obtain ⟨t, ht⟩ : ∃ t : Nat, nth xs i = (t : Int) := ⟨(nth xs i).toNat, by have := (HRN.out i).1; omega⟩
          have HT := Lib.hid ht
          have ht16 : t ≤ 16 := by have := (HRN.out i).2; omega
          have HTR : Hid (rowN xs i = t) := Lib.hid (by unfold rowN; omega)
          go_wp2_with fail
          go_loopw [4, 6] (fun pv jv wx => ∃ j : Nat, j ≤ t ∧ jv = .int .i64 j ∧ pv = .int .i64 ((factN s / (allProd xs i * rowProd xs i j) : Nat) : Int) ∧ Drawn wf wx)
            (fun _ jv _ => t - (intOf jv).toNat)
          case atStart => exact ⟨0, Nat.zero_le _, rfl, by show _ = Value.int .i64 ((factN s / (allProd xs i * 1) : Nat) : Int); rw [Nat.mul_one], HDR.out⟩
          case round =>
            obtain ⟨j, hj, rfl, rfl, hD⟩ := hrel
            clear HDR
            have HDR := Lib.hid hD
            obtain ⟨b, o, e1, hb, hc⟩ := (HS.out.below (HB4.out.trans (hD.below _)) (Nat.le_refl _)).at_ (by omega)
            subst e1
            have hc1 := hc i hlt
            rw [ht] at hc1
            clear hD hc
            by_cases hlt2 : j < t
            · have hjI : (j : Int) < (t : Int) := by omega
              have hjx : (j : Int) < nth xs i := by omega
              have hfirst := shape_first HP.out i (by rw [HL.out]; exact hlt)
              have hjn : j < n3 := by rw [HN3.out]; omega
              have hjnI : (j : Int) < (n3 : Int) := by omega
              obtain ⟨b3, o3, e3, hb3, hc3⟩ := (HDR.out.si HO4.out).at_ (by omega)
              subst e3
              have hc31 := hc3 j hjn
              rw [show nth (conjL xs (nth xs 0).toNat) j = cntN xs j xs.length by rw [nth_get (by rw [conjL_len, ← HN3.out]; exact hjn)]; simp [conjL]] at hc31
              have hbn := hook_bnd HP.out (by rw [HL.out]; exact hlt) hjx
              have hcr := cntN_range xs j xs.length
              obtain ⟨y, hy⟩ : ∃ y, y = cntN xs j xs.length := ⟨_, rfl⟩
              have hhk : hkI xs i j = (t : Int) - (j : Int) + y - (i : Int) - 1 := by unfold hkI; rw [ht, ← hy]
              rw [← hy] at hc31 hcr
              rw [HL.out] at hcr
              obtain ⟨h, hh⟩ : ∃ h : Nat, (t : Int) - (j : Int) + y - (i : Int) - 1 = (h : Int) := ⟨hkN xs i j, by unfold hkN; rw [← hhk]; have := hbn.1; omega⟩
              have hh1 : 1 ≤ h := by have := hbn.1; omega
              have HNX : Hid (allProd xs i * rowProd xs i (j + 1) = allProd xs i * rowProd xs i j * h) := Lib.hid (by
                show allProd xs i * (rowProd xs i j * hkN xs i j) = _
                rw [show hkN xs i j = h by unfold hkN; omega, Nat.mul_assoc])
              obtain ⟨q, hq⟩ : ∃ q, q = factN s / (allProd xs i * rowProd xs i j) := ⟨_, rfl⟩
              obtain ⟨r, hr⟩ : ∃ r, r = q / h := ⟨_, rfl⟩
              have HQ : Hid (factN s / (allProd xs i * rowProd xs i j * h) = r) := Lib.hid (by rw [hr, hq, Nat.div_div_eq_div_mul])
              have hq20 : q ≤ 2432902008176640000 := by rw [hq]; exact Nat.le_trans (Nat.div_le_self _ _) HF20.out
              rw [← hq]
              obtain ⟨hcr0, hcr1⟩ := hcr
              have hw1 : IntKind.i64.wrap ((t : Int) - (j : Int)) = (t : Int) - (j : Int) := IntWalk.i64_in _ (by omega)
              have hw2 : IntKind.i64.wrap ((t : Int) - (j : Int) + y) = (t : Int) - (j : Int) + y := IntWalk.i64_in _ (by omega)
              have hw3 : IntKind.i64.wrap ((t : Int) - (j : Int) + y - (i : Int)) = (t : Int) - (j : Int) + y - (i : Int) := IntWalk.i64_in _ (by omega)
              have hw4 : IntKind.i64.wrap ((t : Int) - (j : Int) + y - (i : Int) - 1) = (h : Int) := by rw [hh]; exact IntWalk.i64_in _ (by omega)
              have hnz : ¬ (h : Int) = 0 := by omega
              have hr20 : r ≤ 2432902008176640000 := by rw [hr]; exact Nat.le_trans (Nat.div_le_self _ _) hq20
              have hdv : IntKind.i64.wrap (Int.tdiv (q : Int) (h : Int)) = (r : Int) := by rw [tdiv_nat, ← hr]; exact IntWalk.i64_in _ (by omega)
              have HW : Hid (wrap64 ((q : Int) / (h : Int)) = (r : Int)) := Lib.hid (by
                have e1 : (q : Int) / (h : Int) = (r : Int) := by rw [hr]; rfl
                rw [e1]; unfold wrap64; omega)
              clear hr hc3 hbn hy hhk hq hfirst hjx ht hh hb3 hb
              go_wp2_with fail
              go_quiet (fail)
              clear hw1 hw2 hw3 hw4 hdv
              go_wp2
              go_roundw
              case rel => exact ⟨j + 1, by omega, by go_num, by rw [HNX.out, HQ.out, HW.out], HDR.out.drewN _⟩
              case measure => simp [intOf]; omega
            · obtain rfl : j = t := by omega
              have HAP : Hid (allProd xs (i + 1) = allProd xs i * rowProd xs i j) := Lib.hid (by show allProd xs i * rowProd xs i (rowN xs i) = _; rw [HTR.out])
              obtain ⟨q, hq⟩ : ∃ q, q = factN s / (allProd xs i * rowProd xs i j) := ⟨_, rfl⟩
              rw [← hq]
              have HQ : Hid (factN s / allProd xs (i + 1) = q) := Lib.hid (by rw [hq, HAP.out])
              clear hq
              go_wp2
              go_roundw
              case rel => exact ⟨i + 1, by omega, by go_num, by rw [HQ.out], HDR.out⟩
              case measure => simp [intOf]; omega
        · obtain rfl : i = n := by omega
          have HR : Hid (factN s / allProd xs i = stdN xs) := Lib.hid HST.out.symm
          obtain ⟨q, hq⟩ : ∃ q, q = factN s / allProd xs i := ⟨_, rfl⟩
          rw [← hq] at HR ⊢
          clear hq
          go_wp2
          go_ret
          exact ⟨by rw [HE.out, ← HR.out]; rfl, HB4.out.trans (HDR.out.below _)⟩
set_option maxHeartbeats 800000 in
theorem isShapeUpTo_any (A : Option Addr) (n c : Nat) (xs : List Int) (m : Int) (w : World) (hs : SI w A n xs) (hn : n ≤ 1099511627776) (hm : 0 ≤ m ∧ m ≤ 1000) :
    Calls Try.prog 97 #[.int .i64 m, .slice A n c] w fun e w' => e = .returned (.bool (isShapeB xs && decide (sumN xs xs.length ≤ m))) ∧ Drawn w w' := by
  have HI := Lib.hid (implIsShape_any A n c xs w hs hn)
  cases hsh : isShapeB xs with
  | false =>
    rw [hsh] at HI
    clear hsh hs
    go_enter Try.func97, Try.ntmps97
    go_wp2_with (go_at_call 72; refine HI.out.mono ?_; rintro e w1 ⟨rfl, hd1⟩)
    go_ret
    exact ⟨ret_bool (by simp), hd1⟩
  | true =>
    rw [hsh] at HI
    have hp := isShapeB_P hsh
    have hl := hs.1
    have h16 : n ≤ 16 := by have := hp.1; omega
    have HSB := Lib.hid (sum_bnd hp)
    have HRN := Lib.hid (shape_range hp)
    have HS := Lib.hid hs
    rw [hl]
    clear hsh hs hp hl
    go_enter Try.func97, Try.ntmps97
    go_wp2_with (go_at_call 72; refine HI.out.mono ?_; rintro e w1 ⟨rfl, hd1⟩; have HD1 := Lib.hid hd1; clear hd1)
    go_loopw [0, 12] (fun mv iv wr => ∃ i : Nat, i ≤ n ∧ iv = .int .i64 i ∧ mv = .int .i64 (m - sumN xs i) ∧ Drawn w wr)
      (fun _ iv _ => n - (intOf iv).toNat)
    case atStart => exact ⟨0, Nat.zero_le _, rfl, by show _ = Value.int .i64 (m - 0); rw [Int.sub_zero], HD1.out⟩
    case round =>
      obtain ⟨i, hi, rfl, rfl, hD⟩ := hrel
      have HDR := Lib.hid hD
      have hb := HSB.out i (by omega)
      obtain ⟨y, hy⟩ : ∃ y, y = sumN xs i := ⟨_, rfl⟩
      have e : sumN xs (i + 1) = sumN xs i + nth xs i := rfl
      rw [← hy] at e hb ⊢
      by_cases hlt : i < n
      · have hiI : (i : Int) < (n : Int) := by omega
        obtain ⟨b, o, rfl, hbb, hc⟩ := (hD.si HS.out).at_ (by omega)
        have hc1 := hc i hlt
        have hr := HRN.out i
        obtain ⟨x, hx⟩ : ∃ x, x = nth xs i := ⟨_, rfl⟩
        rw [← hx] at hc1 e hr
        obtain ⟨hr0, hr1⟩ := hr
        obtain ⟨hb0, hb1⟩ := hb
        have HE : Hid (m - sumN xs (i + 1) = m - y - x) := Lib.hid (by rw [e]; omega)
        have hwr : IntKind.i64.wrap (m - y - x) = m - y - x := IntWalk.i64_in _ (by omega)
        clear hc hD hy hx e
        go_wp2
        go_roundw
        case rel => exact ⟨i + 1, by omega, by go_num, by rw [HE.out], HDR.out⟩
        case measure => simp [intOf]; omega
      · obtain rfl : i = n := by omega
        have HY : Hid (sumN xs i = y) := Lib.hid hy.symm
        clear hD hy e
        go_wp2
        go_ret
        refine ⟨ret_bool ?_, HDR.out⟩
        rw [HY.out]
        by_cases h : y ≤ m
        · simp [h]
        · simp [h] <;> omega
set_option maxRecDepth 100000 in
set_option maxHeartbeats 2000000 in
theorem implStd_any (A : Option Addr) (n c : Nat) (xs : List Int) (w : World) (hs : SI w A n xs) (hn : n ≤ 1099511627776) :
    Calls Try.prog 52 #[.slice A n c] w fun e w' => e = .returned (.int .i64 (stdCount xs)) ∧ Below w.heap.size w w' := by
  have HU := Lib.hid (isShapeUpTo_any A n c xs 20 w hs hn (by omega))
  rw [show (isShapeB xs && decide (sumN xs xs.length ≤ 20)) = stdOk xs from rfl] at HU
  cases hst : stdOk xs with
  | false =>
    rw [hst] at HU
    have HE := Lib.hid (stdOk_no hst)
    clear hst hs
    go_enter Try.func52, Try.ntmps52
    go_wp2_with (go_at_call 97; refine HU.out.mono ?_; rintro e w1 ⟨rfl, hd1⟩)
    go_ret
    exact ⟨by rw [HE.out]; rfl, hd1.below _⟩
  | true =>
    rw [hst] at HU
    have HE := Lib.hid (stdOk_yes hst)
    unfold stdOk at hst
    simp only [Bool.and_eq_true, decide_eq_true_eq] at hst
    obtain ⟨hsh, h20⟩ := hst
    have hp := isShapeB_P hsh
    have hl := hs.1
    rw [hl] at h20
    have HP := Lib.hid hp
    have h16 : n ≤ 16 := by have := hp.1; omega
    have hc := cellsN_sum (xs := xs) (fun k => (shape_range hp k).1) n
    obtain ⟨s, hs0⟩ : ∃ s, s = cellsN xs n := ⟨_, rfl⟩
    have hs20 : s ≤ 20 := by omega
    have hpb := prod_bnd hp
    rw [hl, ← hs0] at hpb
    have HPB := Lib.hid hpb
    have HCM : Hid (∀ i, i ≤ n → cellsN xs i ≤ s) := Lib.hid (fun i hi => by rw [hs0]; exact cellsN_mono xs hi)
    have HSS : Hid (cellsN xs n = s) := Lib.hid hs0.symm
    have HST : Hid (stdN xs = factN s / allProd xs n) := Lib.hid (by unfold stdN; rw [hl, hs0])
    have HS := Lib.hid hs
    have HL := Lib.hid hl
    have HF20 := Lib.hid (fact20 hs20)
    have HCO := Lib.hid (fun w' (hd : Below w.heap.size w w') => implConj_any A n c xs w' (hs.below hd (Nat.le_refl _)) hn)
    have HCY := Lib.hid (conj_yes hsh)
    have HRN := Lib.hid (shape_range hp)
    clear hsh hs hp hl hs0 hc h20 hpb
    go_enter Try.func52, Try.ntmps52
    go_wp2_with (first
      | (go_at_call 97; refine HU.out.mono ?_; rintro e w1 ⟨rfl, hd1⟩; have HD1 := Lib.hid (hd1.below w.heap.size); clear hd1)
      | (go_at_call 53; refine (HCO.out _ HD1.out).mono ?_; rintro e wf ⟨A3, n3, c3, rfl, ho3, hb3⟩
         rw [HCY.out] at ho3
         have HO4 : Hid (SI wf A3 n3 (conjL xs (nth xs 0).toNat)) := Lib.hid ho3.si
         have HN3 : Hid (n3 = (nth xs 0).toNat) := Lib.hid (by have := ho3.len; rw [conjL_len] at this; exact this.symm)
         have HB4 : Hid (Below w.heap.size w wf) := Lib.hid (HD1.out.trans (hb3.mono HD1.out.size))
         clear ho3 hb3))
    go_loopw [4, 5, 6, 17] (fun sv nv hv iv wr => ∃ i : Nat, i ≤ n ∧ iv = .int .i64 i ∧ sv = .int .i64 (cellsN xs i : Nat) ∧ nv = .int .i64 (factN (cellsN xs i) : Nat) ∧ hv = .int .i64 (allProd xs i : Nat) ∧ Drawn wf wr)
      (fun _ _ _ iv _ => n - (intOf iv).toNat)
    case atStart => exact ⟨0, Nat.zero_le _, rfl, rfl, rfl, rfl, Drawn.refl _⟩
    case round =>
      obtain ⟨i, hi, rfl, rfl, rfl, rfl, hD⟩ := hrel
      have HDR := Lib.hid hD
      clear hD
      by_cases hlt : i < n
      · have hiI : (i : Int) < (n : Int) := by omega
        obtain ⟨b, o, rfl, hb, hc⟩ := (HS.out.below (HB4.out.trans (HDR.out.below _)) (Nat.le_refl _)).at_ (by omega)
        have hc1 := hc i hlt
        obtain ⟨t, ht⟩ : ∃ t : Nat, nth xs i = (t : Int) := ⟨(nth xs i).toNat, by have := (HRN.out i).1; omega⟩
        have HT := Lib.hid ht
        have ht16 : t ≤ 16 := by have := (HRN.out i).2; omega
        have HTR : Hid (rowN xs i = t) := Lib.hid (by unfold rowN; omega)
        rw [ht] at hc1
        clear hc ht
        obtain ⟨a, ha⟩ : ∃ a, a = cellsN xs i := ⟨_, rfl⟩
        have HAC := Lib.hid ha
        have has : a + t ≤ s := by have := HCM.out (i + 1) hlt; have e : cellsN xs (i + 1) = cellsN xs i + rowN xs i := rfl; rw [e, HTR.out, ← ha] at this; exact this
        obtain ⟨P, hP⟩ : ∃ P, P = allProd xs i := ⟨_, rfl⟩
        have HPC := Lib.hid hP
        obtain ⟨F, hF⟩ : ∃ F, F = factN a := ⟨_, rfl⟩
        have HFC := Lib.hid hF
        rw [← ha, ← hP, ← hF]
        clear ha hP hF
        go_wp2_with fail
        clear hc1
        go_loopw [4, 5, 6, 23] (fun sv nv hv jv wx => ∃ j : Nat, j ≤ t ∧ jv = .int .i64 j ∧ sv = .int .i64 (a + j : Nat) ∧ nv = .int .i64 (factN (a + j) : Nat) ∧ hv = .int .i64 (P * rowProd xs i j : Nat) ∧ Drawn wf wx)
          (fun _ _ _ jv _ => t - (intOf jv).toNat)
        case atStart => exact ⟨0, Nat.zero_le _, rfl, rfl, by rw [HFC.out]; rfl, by show _ = Value.int .i64 ((P * 1 : Nat) : Int); rw [Nat.mul_one], HDR.out⟩
        case round =>
          obtain ⟨j, hj, rfl, rfl, rfl, rfl, hD⟩ := hrel
          clear HDR
          have HDR := Lib.hid hD
          clear hD
          by_cases hlt2 : j < t
          · have hjI : (j : Int) < (t : Int) := by omega
            have hjx : (j : Int) < nth xs i := by have := HT.out; omega
            have hfirst := shape_first HP.out i (by rw [HL.out]; exact hlt)
            have hjn : j < n3 := by rw [HN3.out]; have := HT.out; omega
            have hjnI : (j : Int) < (n3 : Int) := by omega
            obtain ⟨b3, o3, rfl, hb3, hc3⟩ := (HDR.out.si HO4.out).at_ (by omega)
            have hc31 := hc3 j hjn
            rw [show nth (conjL xs (nth xs 0).toNat) j = cntN xs j xs.length by rw [nth_get (by rw [conjL_len, ← HN3.out]; exact hjn)]; simp [conjL]] at hc31
            have hbn := hook_bnd HP.out (by rw [HL.out]; exact hlt) hjx
            have hcr := cntN_range xs j xs.length
            obtain ⟨y, hy⟩ : ∃ y, y = cntN xs j xs.length := ⟨_, rfl⟩
            have hhk : hkI xs i j = (t : Int) - (j : Int) + y - (i : Int) - 1 := by unfold hkI; rw [HT.out, ← hy]
            rw [← hy] at hc31 hcr
            rw [HL.out] at hcr
            obtain ⟨h, hh⟩ : ∃ h : Nat, (t : Int) - (j : Int) + y - (i : Int) - 1 = (h : Int) := ⟨hkN xs i j, by unfold hkN; rw [← hhk]; have := hbn.1; omega⟩
            have hpb1 := ((HPB.out i (by omega)).1 (j + 1) (by rw [HTR.out]; omega) hlt).2
            rw [← HPC.out] at hpb1
            obtain ⟨p, hp⟩ : ∃ p, p = P * rowProd xs i j := ⟨_, rfl⟩
            have HNX : Hid (P * rowProd xs i (j + 1) = p * h) := Lib.hid (by
              show P * (rowProd xs i j * hkN xs i j) = _
              rw [show hkN xs i j = h by unfold hkN; omega, hp, Nat.mul_assoc])
            rw [HNX.out] at hpb1
            have hph : p * h ≤ 2432902008176640000 := Nat.le_trans (Nat.le_trans (Nat.le_mul_of_pos_right _ (factN_pos _)) hpb1) HF20.out
            obtain ⟨f, hf⟩ : ∃ f, f = factN (a + j) := ⟨_, rfl⟩
            have hfm : factN (a + j + 1) ≤ 2432902008176640000 := fact20 (by omega)
            have HFN : Hid (factN (a + (j + 1)) = (a + j + 1) * f) := Lib.hid (by rw [hf]; rfl)
            have hfm2 : (a + j + 1) * f ≤ 2432902008176640000 := by rw [← HFN.out]; exact hfm
            rw [← hp, ← hf]
            obtain ⟨hcr0, hcr1⟩ := hcr
            have haj : a + j ≤ 20 := by omega
            obtain ⟨q, hq⟩ : ∃ q, q = a + j := ⟨_, rfl⟩
            rw [← hq] at hfm2 HFN haj ⊢
            have HQ := Lib.hid hq
            obtain ⟨r, hr⟩ : ∃ r, r = (q + 1) * f := ⟨_, rfl⟩
            rw [← hr] at hfm2 HFN
            obtain ⟨z, hz⟩ : ∃ z, z = p * h := ⟨_, rfl⟩
            rw [← hz] at hph HNX
            have hw0 : IntKind.i64.wrap ((q : Int) + 1) = (q : Int) + 1 := IntWalk.i64_in _ (by omega)
            have hw1 : IntKind.i64.wrap ((t : Int) - (j : Int)) = (t : Int) - (j : Int) := IntWalk.i64_in _ (by omega)
            have hw2 : IntKind.i64.wrap ((t : Int) - (j : Int) + y) = (t : Int) - (j : Int) + y := IntWalk.i64_in _ (by omega)
            have hw3 : IntKind.i64.wrap ((t : Int) - (j : Int) + y - (i : Int)) = (t : Int) - (j : Int) + y - (i : Int) := IntWalk.i64_in _ (by omega)
            have hw4 : IntKind.i64.wrap ((t : Int) - (j : Int) + y - (i : Int) - 1) = (h : Int) := by rw [hh]; exact IntWalk.i64_in _ (by omega)
            have hw5 : IntKind.i64.wrap ((f : Int) * ((q : Int) + 1)) = (r : Int) := by
              have e1 : (f : Int) * ((q : Int) + 1) = (r : Int) := by rw [hr, Nat.mul_comm, Int.natCast_mul]; rfl
              rw [e1]; exact IntWalk.i64_in _ (by omega)
            have hw6 : IntKind.i64.wrap ((p : Int) * (h : Int)) = (z : Int) := by
              have e1 : (p : Int) * (h : Int) = (z : Int) := by rw [hz, Int.natCast_mul]
              rw [e1]; exact IntWalk.i64_in _ (by omega)
            clear hc3 hbn hy hhk hq hfirst hjx hh hb3 hp hf hfm hr hz hpb1
            go_wp2
            go_roundw
            case rel => exact ⟨j + 1, by omega, by go_num, by rw [show ((a + (j + 1) : Nat) : Int) = (q : Int) + 1 by have := HQ.out; omega], by rw [HFN.out], by rw [HNX.out], HDR.out⟩
            case measure => simp [intOf]; omega
          · obtain rfl : j = t := by omega
            have HA1 : Hid (cellsN xs (i + 1) = a + j) := Lib.hid (by show cellsN xs i + rowN xs i = _; rw [HTR.out, ← HAC.out])
            have HA2 : Hid (allProd xs (i + 1) = P * rowProd xs i j) := Lib.hid (by show allProd xs i * rowProd xs i (rowN xs i) = _; rw [HTR.out, ← HPC.out])
            go_wp2
            go_roundw
            case rel => exact ⟨i + 1, by omega, by go_num, by rw [HA1.out], by rw [HA1.out], by rw [HA2.out], HDR.out⟩
            case measure => simp [intOf]; omega
      · obtain rfl : i = n := by omega
        have HR : Hid (stdN xs = factN s / allProd xs i) := Lib.hid HST.out
        have hpos : 0 < allProd xs i := ((HPB.out i (Nat.le_refl _)).2).1
        rw [HSS.out]
        obtain ⟨P, hP⟩ : ∃ P, P = allProd xs i := ⟨_, rfl⟩
        have hF := HF20.out
        obtain ⟨F, hFF⟩ : ∃ F, F = factN s := ⟨_, rfl⟩
        obtain ⟨r, hr⟩ : ∃ r, r = F / P := ⟨_, rfl⟩
        have hr20 : r ≤ 2432902008176640000 := by rw [hr]; exact Nat.le_trans (Nat.div_le_self _ _) (by rw [hFF]; exact hF)
        have HW : Hid (wrap64 ((F : Int) / (P : Int)) = (r : Int)) := Lib.hid (by
          have e1 : (F : Int) / (P : Int) = (r : Int) := by rw [hr]; rfl
          rw [e1]; unfold wrap64; omega)
        have HR2 : Hid (stdN xs = r) := Lib.hid (by rw [HR.out, hr, hP, hFF])
        rw [← hP] at hpos ⊢
        rw [← hFF]
        have hnz : ¬ (P : Int) = 0 := by omega
        have hdv : IntKind.i64.wrap (Int.tdiv (F : Int) (P : Int)) = (r : Int) := by rw [tdiv_nat, ← hr]; exact IntWalk.i64_in _ (by omega)
        clear hP hF hFF hr hpos
        go_wp2
        go_ret
        refine ⟨?_, HB4.out.trans (HDR.out.below _)⟩
        rw [HE.out, HR2.out]
        first | rfl | (have := HW.out; simp [this]) | (have := HW.out; simpa using this)
end Go.Proofs.Ytdkcngilmdpbgaa
