/-
  Texts GkmS to GkmJ, merged. Conditions: as each says.
-/
import Derived.Deep.Cut
import Derived.Test.YtjpoliibljjhnaaPkB3
/-
  The document's IsGkm. Conditions: lengths below 2^40.
-/






namespace Go.Proofs.Ytjpoliibljjhnaa
open Go.RowKit

theorem drewN_belowS {w wr : World} (h : Below w.heap.size w wr) (m : Nat) : Below w.heap.size w (wr.drewN m) := h.trans (((Drawn.refl wr).drewN m).below _)
theorem numB_no {a : Int} {ys : List Int} (h : ¬ numP a ys) : numB a ys = false := by
  cases hb : numB a ys with
  | false => rfl
  | true => exact absurd ((numB_iff a ys).1 hb) h
theorem aptB_noS {a : Int} {ys : List Int} (h : ¬ aptP a ys) : aptB a ys = false := by
  cases hb : aptB a ys with
  | false => rfl
  | true => exact absurd ((aptB_iff a ys).1 hb) h
theorem valB_noS {n : Nat} {vs : List Int} (h : ¬ valP n vs) : valB n vs = false := by
  cases hb : valB n vs with
  | false => rfl
  | true => exact absurd ((valB_iff n vs).1 hb) h
set_option maxHeartbeats 1000000 in
theorem l8Numbers_any (a : Int) (A : Option Addr) (n c : Nat) (ys : List Int) (w : World) (hs : SI w A n ys) :
    Calls Try.prog 170 #[.int .i64 a, .slice A n c] w fun e w' => e = .returned (.bool (numB a ys)) ∧ Drawn w w' := by
  have HL := Lib.hid hs.1
  by_cases ha : 1 ≤ a ∧ a ≤ 5
  · have HIN := Lib.hid (fun u => l1In_yes' ha.1 ha.2 u)
    by_cases hna : (n : Int) = a
    · subst hna
      have hki : ((n : Int) != (n : Int)) = false := by simp
      have HS := Lib.hid hs
      have HA := Lib.hid ha
      clear hs ha
      go_enter Try.func170, Try.ntmps170
      go_wp2_with (go_at_call 88; (with_reducible refine (HIN.out _).mono ?_); rintro e w1 ⟨rfl, rfl⟩)
      go_loopw [5] (fun iv wr => ∃ k : Nat, k ≤ n ∧ iv = .int .i64 k ∧ (∀ j, j < k → -9 ≤ nth ys j ∧ nth ys j ≤ 9) ∧ Drawn w wr)
        (fun iv _ => n - (intOf iv).toNat)
      case atStart => exact ⟨0, Nat.zero_le _, rfl, fun j hj => absurd hj (by omega), Drawn.refl _⟩
      case round =>
        obtain ⟨k, hk, rfl, hall, hd⟩ := hrel
        have HALL := Lib.hid hall
        have HD := Lib.hid hd
        clear hall hd
        have hn5 := HA.out.2
        by_cases hlt : k < n
        · have hkI : (k : Int) < (n : Int) := by omega
          obtain ⟨b, o, rfl, _, hc⟩ := (HD.out.si HS.out).at_ (by omega)
          have hc1 := hc k hlt
          obtain ⟨y, hy⟩ : ∃ y, y = nth ys k := ⟨_, rfl⟩
          rw [← hy] at hc1
          have HY := Lib.hid hy
          clear hc hy
          by_cases hin : -9 ≤ y ∧ y ≤ 9
          · have HI2 := Lib.hid (fun u => l1In_yes' hin.1 hin.2 u)
            have HIN2 := Lib.hid hin
            clear hin
            go_wp2_with (go_at_call 88; (with_reducible refine (HI2.out _).mono ?_); rintro e w1 ⟨rfl, rfl⟩)
            go_roundw
            case rel => exact ⟨k + 1, by omega, by go_num, fun j hj => by
              rcases Nat.lt_or_ge j k with h | h
              · exact HALL.out j h
              · obtain rfl : j = k := by omega
                rw [← HY.out]; exact HIN2.out, HD.out⟩
            case measure => simp [intOf]; omega
          · have HI2 := Lib.hid (fun u => l1In_no' (a := y) (lo := -9) (hi := 9) (by omega) u)
            have HE : Hid (numB (n : Int) ys = false) := Lib.hid (numB_no fun h => hin (by have := h.2.2.2 k (by rw [HL.out]; exact hlt); rwa [← HY.out] at this))
            clear hin
            go_wp2_with (go_at_call 88; (with_reducible refine (HI2.out _).mono ?_); rintro e w1 ⟨rfl, rfl⟩)
            go_ret
            exact ⟨ret_bool HE.out.symm, HD.out⟩
        · have hkI : ¬ (k : Int) < (n : Int) := by omega
          obtain rfl : k = n := by omega
          have HE : Hid (numB (k : Int) ys = true) := Lib.hid ((numB_iff _ _).2 ⟨HA.out.1, HA.out.2, by rw [HL.out], by rw [HL.out]; exact HALL.out⟩)
          go_wp2
          go_ret
          exact ⟨ret_bool HE.out.symm, HD.out⟩
    · have hki : ((n : Int) != a) = true := by simpa using hna
      have HE : Hid (numB a ys = false) := Lib.hid (numB_no fun h => hna (by have := h.2.2.1; rwa [HL.out] at this))
      clear hs hna
      go_enter Try.func170, Try.ntmps170
      go_wp2_with (go_at_call 88; (with_reducible refine (HIN.out _).mono ?_); rintro e w1 ⟨rfl, rfl⟩)
      go_ret
      exact ⟨ret_bool HE.out.symm, Drawn.refl _⟩
  · have HIN := Lib.hid (fun u => l1In_no' (a := a) (lo := 1) (hi := 5) (by omega) u)
    have HE : Hid (numB a ys = false) := Lib.hid (numB_no fun h => ha ⟨h.1, h.2.1⟩)
    clear hs ha
    go_enter Try.func170, Try.ntmps170
    go_wp2_with (go_at_call 88; (with_reducible refine (HIN.out _).mono ?_); rintro e w1 ⟨rfl, rfl⟩)
    go_ret
    exact ⟨ret_bool HE.out.symm, Drawn.refl _⟩
set_option maxHeartbeats 1000000 in
theorem l8Apart_any (a : Int) (A : Option Addr) (n c : Nat) (ys : List Int) (w : World) (hs : SI w A n ys) (hnc : n ≤ c) :
    Calls Try.prog 79 #[.int .i64 a, .slice A n c] w fun e w' => e = .returned (.bool (aptB a ys)) ∧ Drawn w w' := by
  have HL := Lib.hid hs.1
  have hnu := l8Numbers_any a A n c ys w hs
  cases hu : numB a ys with
  | false =>
    rw [hu] at hnu
    have HNU := Lib.hid hnu
    have HE : Hid (aptB a ys = false) := Lib.hid (by simp [aptB, hu])
    clear hs hnu hu
    go_enter Try.func79, Try.ntmps79
    go_wp2_with (go_at_call 170; (with_reducible refine HNU.out.mono ?_); rintro e w1 ⟨rfl, hd1⟩; have HD1 := Lib.hid hd1; clear hd1)
    go_ret
    exact ⟨ret_bool HE.out.symm, HD1.out⟩
  | true =>
    rw [hu] at hnu
    have HNU := Lib.hid hnu
    have hnp := (numB_iff a ys).1 hu
    obtain rfl : a = (n : Int) := by rw [← hnp.2.2.1, HL.out]
    have HNP := Lib.hid hnp
    by_cases h4 : (n : Int) > 4
    · have HE : Hid (aptB (n : Int) ys = false) := Lib.hid (aptB_noS fun h => by have := h.2.1; omega)
      clear hs hnu hu hnp
      go_enter Try.func79, Try.ntmps79
      go_wp2_with (go_at_call 170; (with_reducible refine HNU.out.mono ?_); rintro e w1 ⟨rfl, hd1⟩; have HD1 := Lib.hid hd1; clear hd1)
      go_ret
      exact ⟨ret_bool HE.out.symm, HD1.out⟩
    · have HS := Lib.hid hs
      clear hs hnu hu hnp
      go_enter Try.func79, Try.ntmps79
      go_wp2_with (go_at_call 170; (with_reducible refine HNU.out.mono ?_); rintro e w1 ⟨rfl, hd1⟩; have HD1 := Lib.hid hd1; clear hd1)
      go_loopw [5] (fun iv wr => ∃ k : Nat, k ≤ n ∧ iv = .int .i64 k ∧ (∀ j, j < k → hasB (ys.take j) (nth ys j) = false) ∧ Drawn w wr)
        (fun iv _ => n - (intOf iv).toNat)
      case atStart => exact ⟨0, Nat.zero_le _, rfl, fun j hj => absurd hj (by omega), HD1.out⟩
      case round =>
        obtain ⟨k, hk, rfl, hall, hd⟩ := hrel
        have HALL := Lib.hid hall
        have HD := Lib.hid hd
        clear hall hd HD1
        by_cases hlt : k < n
        · have hkI : (k : Int) < (n : Int) := by omega
          have hkc : (k : Int) ≤ (c : Int) := by omega
          have HLT := Lib.hid hlt
          have hsr := HD.out.si HS.out
          obtain ⟨b, o, e1, hb, hc⟩ := hsr.at_ (by omega)
          have hst := hsr.take (k := k) (by omega)
          subst e1
          have hc1 := hc k hlt
          have HST := Lib.hid hst
          clear hc hsr hst
          obtain ⟨x, hx⟩ : ∃ x, x = nth ys k := ⟨_, rfl⟩
          obtain ⟨ts, hy⟩ : ∃ ts, ts = ys.take k := ⟨_, rfl⟩
          rw [← hx] at hc1
          rw [← hy] at HST
          have HX := Lib.hid hx
          have HY := Lib.hid hy
          clear hx hy
          go_wp2_with fail
          go_quiet ((go_at_call 132; exact Calls.quiet_of (l1Has_any _ _ _ ts _ _ HST.out (by omega))))
          go_wp2
          · have hh : hasB ts x = true := by assumption
            go_ret
            refine ⟨ret_bool ?_, HD.out.drewN _⟩
            refine (aptB_noS fun h => ?_).symm
            have := h.2.2 k (by rw [HL.out]; exact HLT.out)
            rw [← HX.out, ← HY.out, hh] at this
            cases this
          · have hh' : hasB ts x = false := by assumption
            have HH := Lib.hid hh'
            clear hh'
            go_roundw
            case rel => exact ⟨k + 1, by have := HLT.out; omega, by go_num, fun j hj => by
              rcases Nat.lt_or_ge j k with h | h
              · exact HALL.out j h
              · obtain rfl : j = k := by omega
                rw [← HX.out, ← HY.out]; exact HH.out, HD.out.drewN _⟩
            case measure => have := HLT.out; simp [intOf]; omega
        · have hkI : ¬ (k : Int) < (n : Int) := by omega
          obtain rfl : k = n := by omega
          have HE : Hid (aptB (k : Int) ys = true) := Lib.hid ((aptB_iff _ _).2 ⟨HNP.out, by omega, by rw [HL.out]; exact HALL.out⟩)
          go_wp2
          go_ret
          exact ⟨ret_bool HE.out.symm, HD.out⟩
set_option maxHeartbeats 1000000 in
theorem l8Values_any (m : Nat) (A : Option Addr) (n c : Nat) (vs : List Int) (w : World) (hs : SI w A n vs) (h5 : m ≤ 5) :
    Calls Try.prog 80 #[.int .i64 m, .slice A n c] w fun e w' => e = .returned (.bool (valB m vs)) ∧ Drawn w w' := by
  have HL := Lib.hid hs.1
  have HCP := Lib.hid (fun u => l1Factorial_any m u (by omega))
  have HF5 := Lib.hid (fact120 h5)
  obtain ⟨f, hf⟩ : ∃ f, f = factN m := ⟨_, rfl⟩
  rw [← hf] at HCP HF5
  have HF := Lib.hid hf
  clear hf
  by_cases ha : n = f
  · subst ha
    have hki : ((n : Int) != (n : Int)) = false := by simp
    have hn120 := HF5.out
    have HS := Lib.hid hs
    clear hs
    go_enter Try.func80, Try.ntmps80
    go_wp2_with (go_at_call 171; (with_reducible refine (HCP.out _).mono ?_); rintro e w1 ⟨rfl, rfl⟩)
    go_loopw [5] (fun iv wr => ∃ k : Nat, k ≤ n ∧ iv = .int .i64 k ∧ (∀ j, j < k → -1000000000000 ≤ nth vs j ∧ nth vs j ≤ 1000000000000) ∧ Drawn w wr)
      (fun iv _ => n - (intOf iv).toNat)
    case atStart => exact ⟨0, Nat.zero_le _, rfl, fun j hj => absurd hj (by omega), Drawn.refl _⟩
    case round =>
      obtain ⟨k, hk, rfl, hall, hd⟩ := hrel
      have HALL := Lib.hid hall
      have HD := Lib.hid hd
      clear hall hd
      by_cases hlt : k < n
      · have hkI : (k : Int) < (n : Int) := by omega
        obtain ⟨b, o, rfl, _, hc⟩ := (HD.out.si HS.out).at_ (by omega)
        have hc1 := hc k hlt
        obtain ⟨y, hy⟩ : ∃ y, y = nth vs k := ⟨_, rfl⟩
        rw [← hy] at hc1
        have HY := Lib.hid hy
        clear hc hy
        by_cases hin : -1000000000000 ≤ y ∧ y ≤ 1000000000000
        · have HI2 := Lib.hid (fun u => l1In_yes' hin.1 hin.2 u)
          have HIN2 := Lib.hid hin
          clear hin
          go_wp2_with (go_at_call 88; (with_reducible refine (HI2.out _).mono ?_); rintro e w1 ⟨rfl, rfl⟩)
          go_roundw
          case rel => exact ⟨k + 1, by omega, by go_num, fun j hj => by
            rcases Nat.lt_or_ge j k with h | h
            · exact HALL.out j h
            · obtain rfl : j = k := by omega
              rw [← HY.out]; exact HIN2.out, HD.out⟩
          case measure => simp [intOf]; omega
        · have HI2 := Lib.hid (fun u => l1In_no' (a := y) (lo := -1000000000000) (hi := 1000000000000) (by omega) u)
          have HE : Hid (valB m vs = false) := Lib.hid (valB_noS fun h => hin (by have := h.2 k (by rw [HL.out]; exact hlt); rwa [← HY.out] at this))
          clear hin
          go_wp2_with (go_at_call 88; (with_reducible refine (HI2.out _).mono ?_); rintro e w1 ⟨rfl, rfl⟩)
          go_ret
          exact ⟨ret_bool HE.out.symm, HD.out⟩
      · have hkI : ¬ (k : Int) < (n : Int) := by omega
        obtain rfl : k = n := by omega
        have HE : Hid (valB m vs = true) := Lib.hid ((valB_iff _ _).2 ⟨by rw [HL.out]; exact HF.out, by rw [HL.out]; exact HALL.out⟩)
        go_wp2
        go_ret
        exact ⟨ret_bool HE.out.symm, HD.out⟩
  · have hki : ((n : Int) != (f : Int)) = true := by simp; omega
    have HE : Hid (valB m vs = false) := Lib.hid (valB_noS fun h => ha (by have := h.1; rw [HL.out] at this; rw [HF.out]; exact this))
    clear hs ha
    go_enter Try.func80, Try.ntmps80
    go_wp2_with (go_at_call 171; (with_reducible refine (HCP.out _).mono ?_); rintro e w1 ⟨rfl, rfl⟩)
    go_ret
    exact ⟨ret_bool HE.out.symm, Drawn.refl _⟩
set_option maxHeartbeats 1000000 in
theorem l1Place_any (A : Option Addr) (n c : Nat) (xs : List Int) (w : World) (hs : SI w A n xs) (h5 : n ≤ 5) :
    Calls Try.prog 82 #[.slice A n c] w fun e w' => e = .returned (.int .i64 (plcN xs n n : Nat)) ∧ Below w.heap.size w w' := by
  have HCD := Lib.hid (l1Code_any A n c xs w hs (by omega))
  have HPL : Hid (∀ k, k ≤ n → plcN xs n k ≤ 3124) := Lib.hid (fun k hk => plc_le h5 hk)
  have HCC : Hid (∀ k, codeCnt xs k n ≤ 5) := Lib.hid (fun k => Nat.le_trans (codeCnt_le xs k n) h5)
  clear hs
  go_enter Try.func82, Try.ntmps82
  go_wp2_with (go_at_call 163; (with_reducible refine HCD.out.mono ?_); rintro e w1 ⟨A1, n1, c1, rfl, ho1, hb1⟩
               obtain rfl : n1 = n := by rw [← ho1.len, codeL_len]
               have HO1 := Lib.hid ho1.si
               have HB1 := Lib.hid hb1
               clear ho1 hb1)
  go_loopw [4, 5] (fun cv iv wr => ∃ k : Nat, k ≤ n1 ∧ iv = .int .i64 k ∧ cv = .int .i64 (plcN xs n1 k : Nat) ∧ Drawn w1 wr)
    (fun _ iv _ => n1 - (intOf iv).toNat)
  case atStart => exact ⟨0, Nat.zero_le _, rfl, rfl, Drawn.refl _⟩
  case round =>
    obtain ⟨k, hk, rfl, rfl, hd⟩ := hrel
    have HD := Lib.hid hd
    clear hd
    by_cases hlt : k < n1
    · have hkI : (k : Int) < (n1 : Int) := by omega
      obtain ⟨b, o, rfl, _, hc⟩ := (HD.out.si HO1.out).at_ (by omega)
      have hc1 := hc k hlt
      rw [codeL_nth _ _ _ _ hlt, if_pos hlt] at hc1
      have hpl := HPL.out k hk
      have hpl2 := HPL.out (k + 1) hlt
      have hcc := HCC.out k
      have e : plcN xs n1 (k + 1) = plcN xs n1 k * (n1 - k) + codeCnt xs k n1 := rfl
      obtain ⟨p, hpe⟩ : ∃ p, p = plcN xs n1 k := ⟨_, rfl⟩
      obtain ⟨q, hqe⟩ : ∃ q, q = plcN xs n1 (k + 1) := ⟨_, rfl⟩
      obtain ⟨r, hre⟩ : ∃ r, r = codeCnt xs k n1 := ⟨_, rfl⟩
      obtain ⟨d, hde⟩ : ∃ d, d = n1 - k := ⟨_, rfl⟩
      obtain ⟨s, hse⟩ : ∃ s, s = p * d := ⟨_, rfl⟩
      rw [← hqe, ← hpe, ← hre, ← hde, ← hse] at e
      rw [← hpe] at hpl ⊢
      rw [← hqe] at hpl2
      rw [← hre] at hcc hc1
      have HQ := Lib.hid hqe
      have hw1 : IntKind.i64.wrap ((n1 : Int) - (k : Int)) = (d : Int) := by rw [show (n1 : Int) - (k : Int) = (d : Int) by omega]; exact IntWalk.i64_in _ (by omega)
      have hw2 : IntKind.i64.wrap ((p : Int) * (d : Int)) = (s : Int) := by rw [hse, Int.natCast_mul, ← Int.natCast_mul, ← hse]; exact IntWalk.i64_in _ (by omega)
      have hw3 : IntKind.i64.wrap ((s : Int) + (r : Int)) = (q : Int) := by rw [show (s : Int) + (r : Int) = (q : Int) by omega]; exact IntWalk.i64_in _ (by omega)
      have hnk : (n1 : Int) - (k : Int) = (d : Int) := by omega
      clear hc hpe hqe hre hde hse e
      go_wp2
      go_roundw
      case rel => exact ⟨k + 1, by omega, by go_num, by rw [← HQ.out], HD.out⟩
      case measure => simp [intOf]; omega
    · have hkI : ¬ (k : Int) < (n1 : Int) := by omega
      obtain rfl : k = n1 := by omega
      go_wp2
      go_ret
      exact ⟨rfl, HB1.out.trans (HD.out.below _ |>.mono HB1.out.size)⟩
set_option maxRecDepth 100000 in
set_option maxHeartbeats 4000000 in
theorem specGkm_any (a : Int) (A A2 : Option Addr) (F c n c2 : Nat) (vs ys : List Int) (w : World) (hs : SI w A F vs) (hs2 : SI w A2 n ys) (hnc2 : n ≤ c2) :
    Calls Try.prog 23 #[.int .i64 a, .slice A F c, .slice A2 n c2] w fun e w' => e = .returned (.bool (gkmB a vs ys)) ∧ Below w.heap.size w w' := by
  have hd := l8Apart_any a A2 n c2 ys w hs2 hnc2
  cases h1 : aptB a ys with
  | false =>
    rw [h1] at hd
    have HD := Lib.hid hd
    have HE : Hid (gkmB a vs ys = false) := Lib.hid (by simp [gkmB, h1])
    clear hs hs2 hd h1
    go_enter Try.func23, Try.ntmps23
    go_wp2_with (go_at_call 79; (with_reducible refine HD.out.mono ?_); rintro e w1 ⟨rfl, hd1⟩; have HD1 := Lib.hid hd1; clear hd1)
    go_ret
    exact ⟨ret_bool HE.out.symm, HD1.out.below _⟩
  | true =>
    rw [h1] at hd
    have HD := Lib.hid hd
    have hap := (aptB_iff a ys).1 h1
    obtain rfl : a = (n : Int) := by rw [← hap.1.2.2.1, hs2.1]
    have hlv := fun u (hd : Drawn w u) => l8Values_any n A F c vs u (hd.si hs) (by have := hap.2.1; omega)
    cases h2 : valB n vs with
    | false =>
      rw [h2] at hlv
      have HLV := Lib.hid hlv
      have HE : Hid (gkmB (n : Int) vs ys = false) := Lib.hid (by unfold gkmB; rw [Int.toNat_natCast, h2]; simp)
      clear hs hs2 hd h1 hlv h2 hap
      go_enter Try.func23, Try.ntmps23
      go_wp2_with (first
        | (go_at_call 79; (with_reducible refine HD.out.mono ?_); rintro e w1 ⟨rfl, hd1⟩; have HD1 := Lib.hid hd1; clear hd1)
        | (go_at_call 80; (with_reducible refine (HLV.out _ HD1.out).mono ?_); rintro e w2 ⟨rfl, hd2⟩; have HD2 := Lib.hid (HD1.out.trans hd2); clear hd2))
      go_ret
      exact ⟨ret_bool HE.out.symm, HD2.out.below _⟩
    | true =>
      rw [h2] at hlv
      have HLV := Lib.hid hlv
      have HE : Hid (gkmB (n : Int) vs ys = mulB n vs ys) := Lib.hid (by unfold gkmB; rw [Int.toNat_natCast, h1, h2]; simp)
      have hval := (valB_iff n vs).1 h2
      have HS := Lib.hid hs
      have HS2 := Lib.hid hs2
      have hn4 : n ≤ 4 := by have := hap.2.1; omega
      have hn5 : n ≤ 5 := by omega
      have hn7 : n ≤ 7 := by omega
      have hn1 : 1 ≤ n := by have := hap.1.1; omega
      have HFF : Hid (F = factN n) := Lib.hid (by rw [← hs.1]; exact hval.1)
      have hF24 : F ≤ 24 := by rw [HFF.out]; exact fact24 hn4
      have HVB : Hid (∀ k, k < factN n → -1000000000000 ≤ nth vs k ∧ nth vs k ≤ 1000000000000) := Lib.hid (by have := hval.2; rwa [hval.1] at this)
      have HYB : Hid (∀ k, k < n → -9 ≤ nth ys k ∧ nth ys k ≤ 9) := Lib.hid (by have := hap.1.2.2.2; rwa [hs2.1] at this)
      have HDN : Hid (∀ j k, j ≠ k → j < n → k < n → nth ys j ≠ nth ys k) := Lib.hid (fun j k h1 h2 h3 => dif_ne hap.2.2 h1 (by rw [hs2.1]; exact h2) (by rw [hs2.1]; exact h3))
      have HPM := Lib.hid (fun u => l8Perms_any n u hn1 hn5)
      rw [← HFF.out] at HPM
      clear hs hs2 hd h1 hlv h2 hap hval
      go_enter Try.func23, Try.ntmps23
      go_upto_region 4 with (first
        | (go_at_call 79; (with_reducible refine HD.out.mono ?_); rintro e w1 ⟨rfl, hd1⟩; have HD1 := Lib.hid hd1; clear hd1)
        | (go_at_call 80; (with_reducible refine (HLV.out _ HD1.out).mono ?_); rintro e w2 ⟨rfl, hd2⟩; have HD2 := Lib.hid (HD1.out.trans hd2); clear hd2)
        | (go_at_call 81; (with_reducible refine (HPM.out _).mono ?_); rintro e w3 ⟨A3, n3, c3, rfl, ho3, hb3⟩
           obtain ⟨E3, he3⟩ := ho3
           have HE3 := Lib.hid he3
           have HB3 : Hid (Below w.heap.size w w3) := Lib.hid ((HD2.out.below _).trans (hb3.mono (HD2.out.below w.heap.size).size))
           clear he3 hb3))
      obtain rfl : n3 = F := by rw [← HE3.out.1, permL_len]
      have hF0 : 0 < n3 := by rw [HFF.out]; exact factN_pos n
      obtain ⟨gl, rfl, hgl1, hgl2⟩ := HE3.out.place hF0
      have HGL := Lib.hid hgl2
      clear hgl1 hgl2
      go_wp2_with fail
      go_loopw [8] (fun iv wr => ∃ x : Nat, x ≤ n3 ∧ iv = .int .i64 x ∧ (∀ x', x' < x → ∀ i j, i < j → j < n → mulC n vs ys x' i j = true) ∧ Below w3.heap.size w3 wr)
        (fun iv _ => n3 - (intOf iv).toNat)
      case atStart => exact ⟨0, Nat.zero_le _, rfl, fun x' h => absurd h (by omega), Below.refl _ _⟩
      case round =>
        obtain ⟨x, hx, rfl, hall, hb⟩ := hrel
        have HALL := Lib.hid hall
        have HB := Lib.hid hb
        clear hall hb
        by_cases hlt : x < n3
        · have hxI : (x : Int) < (n3 : Int) := by omega
          have HXL := Lib.hid hlt
          have HXF : Hid (x < factN n) := Lib.hid (by rw [← HFF.out]; exact hlt)
          go_wp2_with fail
          go_loopw [9] (fun iv wr => ∃ i : Nat, i ≤ n ∧ iv = .int .i64 i ∧ (∀ i', i' < i → ∀ j, i' < j → j < n → mulC n vs ys x i' j = true) ∧ Below w3.heap.size w3 wr)
            (fun iv _ => n - (intOf iv).toNat)
          case atStart => exact ⟨0, Nat.zero_le _, rfl, fun i' h => absurd h (by omega), HB.out⟩
          case round =>
            obtain ⟨i, hi, rfl, halli, hb⟩ := hrel
            clear HB
            have HALI := Lib.hid halli
            have HB := Lib.hid hb
            clear halli hb
            by_cases hil : i < n
            · have hiI : (i : Int) < (n : Int) := by omega
              have HIL := Lib.hid hil
              go_wp2_with fail
              go_loopw [10] (fun jv wr => ∃ j : Nat, i < j ∧ j ≤ n ∧ jv = .int .i64 j ∧ (∀ j', i < j' → j' < j → mulC n vs ys x i j' = true) ∧ Below w3.heap.size w3 wr)
                (fun jv _ => n - (intOf jv).toNat)
              case atStart => exact ⟨i + 1, by omega, by omega, by go_num, fun j' h1 h2 => absurd h1 (by omega), HB.out⟩
              case round =>
                obtain ⟨j, hij, hj, rfl, hallj, hb⟩ := hrel
                clear HB
                have HALJ := Lib.hid hallj
                have HB := Lib.hid hb
                clear hallj hb
                by_cases hjl : j < n
                · have hjI : (j : Int) < (n : Int) := by omega
                  have HP1 := pAt_is (x := x) hn1 hn7 (show i < n by omega)
                  have HP2 := pAt_is (x := x) hn1 hn7 (show j < n by omega)
                  have hne := HDN.out (pAt n x i) (pAt n x j) (pAt_ne (x := x) hn1 hn7 (by omega) (by omega) (by omega)) HP1.2 HP2.2
                  have hOl := oAt_lt (x := x) (i := i) (j := j) hn5
                  have hb1 := HVB.out x HXF.out
                  have hb2 := HVB.out (oAt n x i j) hOl
                  have hy1 := HYB.out (pAt n x i) HP1.2
                  have hy2 := HYB.out (pAt n x j) HP2.2
                  have hmc : mulC n vs ys x i j = decide ((nth vs x - nth vs (oAt n x i j)).tmod (nth ys (pAt n x i) - nth ys (pAt n x j)) = 0) := rfl
                  obtain ⟨V, hV⟩ : ∃ V, V = nth vs x := ⟨_, rfl⟩
                  obtain ⟨O, hO⟩ : ∃ O, O = oAt n x i j := ⟨_, rfl⟩
                  rw [← hO] at hOl hb2 hmc
                  obtain ⟨U, hU⟩ : ∃ U, U = nth vs O := ⟨_, rfl⟩
                  obtain ⟨a, ha⟩ : ∃ a, a = pAt n x i := ⟨_, rfl⟩
                  obtain ⟨b, hb⟩ : ∃ b, b = pAt n x j := ⟨_, rfl⟩
                  rw [← ha] at HP1 hne hy1 hmc
                  rw [← hb] at HP2 hne hy2 hmc
                  obtain ⟨P, hP⟩ : ∃ P, P = nth ys a := ⟨_, rfl⟩
                  obtain ⟨Q, hQ⟩ : ∃ Q, Q = nth ys b := ⟨_, rfl⟩
                  rw [← hV, ← hU, ← hP, ← hQ] at hmc
                  rw [← hV] at hb1
                  rw [← hU] at hb2
                  rw [← hP] at hy1 hne
                  rw [← hQ] at hy2 hne
                  obtain ⟨D, hD⟩ : ∃ D, D = V - U := ⟨_, rfl⟩
                  obtain ⟨S, hS⟩ : ∃ S, S = P - Q := ⟨_, rfl⟩
                  have hwD : IntKind.i64.wrap (V - U) = D := by rw [hD]; exact IntWalk.i64_in _ (by omega)
                  have hwS : IntKind.i64.wrap (P - Q) = S := by rw [hS]; exact IntWalk.i64_in _ (by omega)
                  have hS0 : ¬ S = 0 := by omega
                  obtain ⟨r, hr⟩ : ∃ r, r = D.tmod S := ⟨_, rfl⟩
                  have hrb : r.natAbs ≤ 2000000000000 := by
                    rw [hr, Int.natAbs_tmod]
                    exact Nat.le_trans (Nat.mod_le _ _) (by omega)
                  have hwr : IntKind.i64.wrap r = r := IntWalk.i64_in _ (by omega)
                  have hrr : D.tmod S = r := hr.symm
                  rw [← hD, ← hS, hrr] at hmc
                  have HV := Lib.hid hV
                  have HU := Lib.hid hU
                  have HOO := Lib.hid hO
                  have HPQ := Lib.hid (And.intro hP hQ)
                  have HAB := Lib.hid (And.intro ha hb)
                  have HMC := Lib.hid hmc
                  have HRR := Lib.hid hrr
                  have HW3 : Hid (Below w.heap.size w wr) := Lib.hid (HB3.out.trans (HB.out.mono HB3.out.size))
                  have hEr := HE3.out.below HB.out (Nat.le_refl _)
                  have hce := hEr.cellAt hlt
                  have hOE := hEr.2.2.2.1 x hlt
                  rw [permL_li hlt] at hOE
                  obtain ⟨⟨A', n', c'⟩, hEi⟩ : ∃ t, t = E3 x := ⟨_, rfl⟩
                  rw [← hEi] at hce hOE
                  have hla := apm_len (i := x) hn1 hn7
                  have hn' : n' = n := by have := hOE.len; rw [hla] at this; exact this.symm
                  subst hn'
                  obtain ⟨gx, hgx, hgx1, hgx2⟩ := hOE.place (show 0 < n' by omega)
                  subst hgx
                  have hcell : wr.cell? ⟨gl, x, none⟩ = some (.slice (some ⟨gx, 0, none⟩) n' c') := hce
                  have HCL := Lib.hid hcell
                  have HOX := Lib.hid hOE
                  have HSW := Lib.hid (l1Swap_any (some ⟨gx, 0, none⟩) n' c' i j (apm n' x) wr hOE.si (by omega) hjl (by omega) (by omega))
                  have HL1 : Hid (nth (apm n' x) i = (a : Int)) := Lib.hid (by rw [HAB.out.1]; exact (pAt_is hn1 hn7 (by omega)).1)
                  have HL2 : Hid (nth (apm n' x) j = (b : Int)) := Lib.hid (by rw [HAB.out.2]; exact (pAt_is hn1 hn7 (by omega)).1)
                  have HSL : Hid ((swapL (apm n' x) i j).length = n') := Lib.hid (by rw [swapL_len]; exact hla)
                  have HPC : Hid (plcN (swapL (apm n' x) i j) n' n' = O) := Lib.hid (by rw [HOO.out]; rfl)
                  have ha1 := HP1.2
                  have hb1' := HP2.2
                  have haI : (a : Int) < (n' : Int) := by omega
                  have hbI : (b : Int) < (n' : Int) := by omega
                  have hOF : (O : Int) < (n3 : Int) := by rw [HFF.out]; omega
                  have HOL := Lib.hid hOl
                  have HIX : Hid (i < n' ∧ j < n' ∧ x < n3) := Lib.hid ⟨by omega, hjl, hlt⟩
                  clear hV hU hO ha hb hP hQ hD hS hr hrr hmc hb1 hb2 hy1 hy2 hne HP1 HP2 hOl hEr hce hOE hEi hgx1 hgx2 hla
                  go_upto_region 14 with (first
                    | (go_at_call 83; (with_reducible refine HSW.out.mono ?_); rintro e w4 ⟨A4, n4, c4, rfl, ho4, hb4⟩
                       obtain rfl : n4 = n' := by rw [← ho4.len]; exact HSL.out
                       have HPL := Lib.hid (l1Place_any A4 n4 c4 (swapL (apm n4 x) i j) w4 ho4.si hn5)
                       have HB4 := Lib.hid hb4
                       clear ho4 hb4)
                    | (go_at_call 82; (with_reducible refine HPL.out.mono ?_); rintro e w5 ⟨rfl, hb5⟩
                       rw [HPC.out]
                       have HB5 : Hid (Below w3.heap.size w3 w5) := Lib.hid (HB.out.trans ((HB4.out.trans (hb5.mono HB4.out.size)).mono HB.out.size))
                       have HR5 : Hid (Below wr.heap.size wr w5) := Lib.hid (HB4.out.trans (hb5.mono HB4.out.size))
                       have HW5 : Hid (Below w.heap.size w w5) := Lib.hid (HB3.out.trans (HB5.out.mono HB3.out.size))
                       clear hb5))
                  have hcl5 : w5.cell? ⟨gl, x, none⟩ = some (.slice (some ⟨gx, 0, none⟩) n4 c') := by
                    have h := (HE3.out.below HB5.out (Nat.le_refl _)).cellAt HIX.out.2.2
                    have h0 := (HE3.out.below HB.out (Nat.le_refl _)).cellAt HIX.out.2.2
                    rw [HCL.out] at h0
                    rw [h, ← h0]
                  have hown := HOX.out.below (HR5.out.mono (Below.size HB.out)) (Nat.le_refl _)
                  have hca : w5.cell? ⟨gx, i, none⟩ = some (.int .i64 (a : Int)) := by
                    have h := hown.cellAt HIX.out.1
                    rw [HL1.out] at h; exact h
                  have hcb : w5.cell? ⟨gx, j, none⟩ = some (.int .i64 (b : Int)) := by
                    have h := hown.cellAt HIX.out.2.1
                    rw [HL2.out] at h; exact h
                  obtain ⟨by_, oy, rfl, _, hcy⟩ := (HS2.out.below HW5.out (Nat.le_refl _)).at_ (show 0 < n4 by omega)
                  have hy1 := hcy a ha1
                  have hy2 := hcy b hb1'
                  rw [← HPQ.out.1] at hy1
                  rw [← HPQ.out.2] at hy2
                  obtain ⟨bv, ov, rfl, _, hcv⟩ := (HS.out.below HW5.out (Nat.le_refl _)).at_ hF0
                  have hv1 := hcv x HIX.out.2.2
                  have hv2 := hcv O (by rw [HFF.out]; exact HOL.out)
                  rw [← HV.out] at hv1
                  rw [← HU.out] at hv2
                  have HMF : Hid (¬ r = 0 → mulB n4 vs ys = false) := Lib.hid (fun hr0 => mulB_no HXF.out hij hjl (by rw [HMC.out]; simpa using hr0))
                  have HMT : Hid (r = 0 → mulC n4 vs ys x i j = true) := Lib.hid (fun hr0 => by rw [HMC.out]; simp [hr0])
                  clear hcy hcv hown hcell
                  go_wp2_with fail
                  go_quiet (fail)
                  go_wp2
                  · have hh : (D.tmod S != 0) = true := by assumption
                    have hr0 : ¬ r = 0 := by rw [← HRR.out]; simpa using hh
                    have HM := HMF.out hr0
                    go_ret
                    rw [HE.out]
                    exact ⟨ret_bool HM.symm, by first | exact drewN_belowS HW5.out _ | exact drewN_belowS (drewN_belowS HW5.out _) _⟩
                  · have hh : (D.tmod S != 0) = false := by assumption
                    have hr0 : r = 0 := by rw [← HRR.out]; simpa using hh
                    have HM := Lib.hid (HMT.out hr0)
                    clear hh hr0
                    go_roundw
                    case rel => exact ⟨j + 1, by omega, by omega, by go_num, fun j' h1' h2' => by
                      rcases Nat.lt_or_ge j' j with h | h
                      · exact HALJ.out j' h1' h
                      · obtain rfl : j' = j := by omega
                        exact HM.out, by first | exact drewN_belowS HB5.out _ | exact drewN_belowS (drewN_belowS HB5.out _) _⟩
                    case measure => simp [intOf]; omega
                · have hjI : ¬ (j : Int) < (n : Int) := by omega
                  obtain rfl : j = n := by omega
                  go_wp2
                  go_roundw
                  case rel => exact ⟨i + 1, by have := HIL.out; omega, by go_num, fun i' hi' j' h1' h2' => by
                    rcases Nat.lt_or_ge i' i with h | h
                    · exact HALI.out i' h j' h1' h2'
                    · obtain rfl : i' = i := by omega
                      exact HALJ.out j' h1' h2', HB.out⟩
                  case measure => have := HIL.out; simp [intOf]; omega
            · have hiI : ¬ (i : Int) < (n : Int) := by omega
              obtain rfl : i = n := by omega
              go_wp2
              go_roundw
              case rel => exact ⟨x + 1, by have := HXL.out; omega, by go_num, fun x' hx' i' j' hij' hj' => by
                rcases Nat.lt_or_ge x' x with h | h
                · exact HALL.out x' h i' j' hij' hj'
                · obtain rfl : x' = x := by omega
                  exact HALI.out i' (by omega) j' hij' hj', HB.out⟩
              case measure => have := HXL.out; simp [intOf]; omega
        · have hxI : ¬ (x : Int) < (n3 : Int) := by omega
          obtain rfl : x = n3 := by omega
          have HMT : Hid (mulB n vs ys = true) := Lib.hid ((mulB_iff n vs ys).2 (by rw [← HFF.out]; exact HALL.out))
          go_wp2
          go_ret
          rw [HE.out]
          exact ⟨ret_bool HMT.out.symm, HB3.out.trans (HB.out.mono HB3.out.size)⟩
end Go.Proofs.Ytjpoliibljjhnaa

/-
  The program's tests of numbers: none beyond. Conditions: lengths below 2^40.
-/

namespace Go.Proofs.Ytjpoliibljjhnaa
open Go.RowKit

theorem ShfFn_any (x : Int) (w : World) : Calls Try.prog 223 #[.int .i64 x] w fun r w' => r = .returned (.bool (decide (¬ (-9 ≤ x ∧ x ≤ 9)))) ∧ w = w' := by
  by_cases h1 : x < -9
  · have HE : Hid (true = decide (¬ (-9 ≤ x ∧ x ≤ 9))) := Lib.hid (decide_eq_true (by omega)).symm
    go_enter Try.func223, Try.ntmps223
    go_wp2
    go_ret
    exact ⟨ret_bool HE.out, rfl⟩
  · by_cases h2 : x > 9
    · have HE : Hid (true = decide (¬ (-9 ≤ x ∧ x ≤ 9))) := Lib.hid (decide_eq_true (by omega)).symm
      go_enter Try.func223, Try.ntmps223
      go_wp2
      go_ret
      first | exact ⟨ret_bool HE.out, rfl⟩ | exact ⟨rfl, rfl⟩
    · have HE : Hid (false = decide (¬ (-9 ≤ x ∧ x ≤ 9))) := Lib.hid (decide_eq_false (by omega)).symm
      go_enter Try.func223, Try.ntmps223
      go_wp2
      go_ret
      first | exact ⟨ret_bool HE.out, rfl⟩ | exact ⟨rfl, rfl⟩
set_option maxHeartbeats 800000 in
theorem indexShf_any (A : Option Addr) (n c : Nat) (xs : List Int) (w : World) (hs : SI w A n xs) (hn : n ≤ 1099511627776) :
    Calls Try.prog 212 #[.slice A n c, .func (.func 223) #[] #[]] w fun r w' =>
      ∃ i : Int, r = .returned (.int .i64 i) ∧ (i < 0 ∧ (∀ k, k < n → (-9 ≤ nth xs k ∧ nth xs k ≤ 9)) ∨ 0 ≤ i ∧ ∃ k, k < n ∧ ¬ (-9 ≤ nth xs k ∧ nth xs k ≤ 9)) ∧ Drawn w w' := by
  go_enter Try.func212, Try.ntmps212
  go_wp2
  go_loopw [8] (fun i wr => ∃ k : Nat, k ≤ n ∧ i = .int .i64 k ∧ Drawn w wr ∧ ∀ j, j < k → (-9 ≤ nth xs j ∧ nth xs j ≤ 9))
    (fun i _ => n - (intOf i).toNat)
  case atStart => exact ⟨0, Nat.zero_le _, rfl, Drawn.refl _, fun j hj => absurd hj (by omega)⟩
  case round =>
    obtain ⟨k, hk, rfl, hD, hall⟩ := hrel
    have HA := Lib.hid hall
    have HDR := Lib.hid hD
    have hs := hD.si hs
    clear hall hD
    by_cases hlt : k < n
    · have hlI : (k : Int) < (n : Int) := by omega
      obtain ⟨b, o, rfl, hb, hc⟩ := hs.at_ (by omega)
      have hc1 := hc k hlt
      obtain ⟨x, hx⟩ : ∃ x, x = nth xs k := ⟨_, rfl⟩
      rw [← hx] at hc1
      have HX := Lib.hid hx
      clear hc hx hs
      by_cases hg : (-9 ≤ x ∧ x ≤ 9)
      · have HF : Hid (∀ w, Calls Try.prog 223 #[.int .i64 x] w fun r w' => r = .returned (.bool false) ∧ w = w') := Lib.hid (fun w => by
          have := ShfFn_any x w
          rwa [decide_eq_false (fun h => h hg)] at this)
        have HG := Lib.hid hg
        clear hg
        go_wp2_with (go_at_call 223; refine (HF.out _).mono ?_; rintro r w2 ⟨rfl, rfl⟩)
        go_roundw
        case rel => exact ⟨k + 1, by omega, by go_num, HDR.out, fun j hj => by
          rcases Nat.lt_or_ge j k with h | h
          · exact HA.out j h
          · obtain rfl : j = k := by omega
            rw [← HX.out]; exact HG.out⟩
        case measure => simp [intOf]; omega
      · have HF : Hid (∀ w, Calls Try.prog 223 #[.int .i64 x] w fun r w' => r = .returned (.bool true) ∧ w = w') := Lib.hid (fun w => by
          have := ShfFn_any x w
          rwa [decide_eq_true hg] at this)
        have HG := Lib.hid hg
        clear hg
        go_wp2_with (go_at_call 223; refine (HF.out _).mono ?_; rintro r w2 ⟨rfl, rfl⟩)
        go_ret
        exact ⟨(k : Int), rfl, .inr ⟨by omega, k, hlt, by rw [← HX.out]; exact HG.out⟩, HDR.out⟩
    · have hkn : k = n := by omega
      subst hkn
      go_wp2
      go_ret
      exact ⟨-1, rfl, .inl ⟨by omega, HA.out⟩, HDR.out⟩
set_option maxHeartbeats 400000 in
theorem containsShf_any (A : Option Addr) (n c : Nat) (xs : List Int) (w : World) (hs : SI w A n xs) (hn : n ≤ 1099511627776) :
    Calls Try.prog 177 #[.slice A n c, .func (.func 223) #[] #[]] w fun r w' =>
      ∃ b : Bool, r = .returned (.bool b) ∧ (b = false ↔ ∀ k, k < n → (-9 ≤ nth xs k ∧ nth xs k ≤ 9)) ∧ Drawn w w' := by
  have HC := Lib.hid (indexShf_any A n c xs w hs hn)
  clear hs
  go_enter Try.func177, Try.ntmps177
  go_wp2_with (go_at_call 212; refine HC.out.mono ?_; rintro r w2 ⟨i, rfl, hi, hd⟩; have HI := Lib.hid hi; have HD := Lib.hid hd; clear hi hd)
  go_ret
  refine ⟨_, rfl, ?_, HD.out⟩
  rcases HI.out with ⟨h1, h2⟩ | ⟨h1, k, hk, h2⟩
  · simp only [decide_eq_false_iff_not]
    exact ⟨fun _ => h2, fun _ => by omega⟩
  · simp only [decide_eq_false_iff_not]
    exact ⟨fun h => absurd h1 (by omega), fun h => absurd (h k hk) h2⟩
/-- The same, when what it answers is known. -/
theorem containsShf_no (A : Option Addr) (n c : Nat) (xs : List Int) (w : World) (hs : SI w A n xs) (hn : n ≤ 1099511627776) (h : ∀ k, k < n → (-9 ≤ nth xs k ∧ nth xs k ≤ 9)) :
    Calls Try.prog 177 #[.slice A n c, .func (.func 223) #[] #[]] w fun r w' => r = .returned (.bool false) ∧ Drawn w w' :=
  (containsShf_any A n c xs w hs hn).mono fun r w' ⟨b, hr, hb, hd⟩ => by
    have e : b = false := hb.2 h
    subst e; exact ⟨hr, hd⟩
theorem containsShf_yes (A : Option Addr) (n c : Nat) (xs : List Int) (w : World) (hs : SI w A n xs) (hn : n ≤ 1099511627776) (h : ¬ ∀ k, k < n → (-9 ≤ nth xs k ∧ nth xs k ≤ 9)) :
    Calls Try.prog 177 #[.slice A n c, .func (.func 223) #[] #[]] w fun r w' => r = .returned (.bool true) ∧ Drawn w w' :=
  (containsShf_any A n c xs w hs hn).mono fun r w' ⟨b, hr, hb, hd⟩ => by
    have e : b = true := by cases b with | true => rfl | false => exact absurd (hb.1 rfl) h
    subst e; exact ⟨hr, hd⟩
theorem LvlFn_any (x : Int) (w : World) : Calls Try.prog 175 #[.int .i64 x] w fun r w' => r = .returned (.bool (decide (¬ (-1000000000000 ≤ x ∧ x ≤ 1000000000000)))) ∧ w = w' := by
  by_cases h1 : x < -1000000000000
  · have HE : Hid (true = decide (¬ (-1000000000000 ≤ x ∧ x ≤ 1000000000000))) := Lib.hid (decide_eq_true (by omega)).symm
    go_enter Try.func175, Try.ntmps175
    go_wp2
    go_ret
    exact ⟨ret_bool HE.out, rfl⟩
  · by_cases h2 : x > 1000000000000
    · have HE : Hid (true = decide (¬ (-1000000000000 ≤ x ∧ x ≤ 1000000000000))) := Lib.hid (decide_eq_true (by omega)).symm
      go_enter Try.func175, Try.ntmps175
      go_wp2
      go_ret
      first | exact ⟨ret_bool HE.out, rfl⟩ | exact ⟨rfl, rfl⟩
    · have HE : Hid (false = decide (¬ (-1000000000000 ≤ x ∧ x ≤ 1000000000000))) := Lib.hid (decide_eq_false (by omega)).symm
      go_enter Try.func175, Try.ntmps175
      go_wp2
      go_ret
      first | exact ⟨ret_bool HE.out, rfl⟩ | exact ⟨rfl, rfl⟩
set_option maxHeartbeats 800000 in
theorem indexLvl_any (A : Option Addr) (n c : Nat) (xs : List Int) (w : World) (hs : SI w A n xs) (hn : n ≤ 1099511627776) :
    Calls Try.prog 212 #[.slice A n c, .func (.func 175) #[] #[]] w fun r w' =>
      ∃ i : Int, r = .returned (.int .i64 i) ∧ (i < 0 ∧ (∀ k, k < n → (-1000000000000 ≤ nth xs k ∧ nth xs k ≤ 1000000000000)) ∨ 0 ≤ i ∧ ∃ k, k < n ∧ ¬ (-1000000000000 ≤ nth xs k ∧ nth xs k ≤ 1000000000000)) ∧ Drawn w w' := by
  go_enter Try.func212, Try.ntmps212
  go_wp2
  go_loopw [8] (fun i wr => ∃ k : Nat, k ≤ n ∧ i = .int .i64 k ∧ Drawn w wr ∧ ∀ j, j < k → (-1000000000000 ≤ nth xs j ∧ nth xs j ≤ 1000000000000))
    (fun i _ => n - (intOf i).toNat)
  case atStart => exact ⟨0, Nat.zero_le _, rfl, Drawn.refl _, fun j hj => absurd hj (by omega)⟩
  case round =>
    obtain ⟨k, hk, rfl, hD, hall⟩ := hrel
    have HA := Lib.hid hall
    have HDR := Lib.hid hD
    have hs := hD.si hs
    clear hall hD
    by_cases hlt : k < n
    · have hlI : (k : Int) < (n : Int) := by omega
      obtain ⟨b, o, rfl, hb, hc⟩ := hs.at_ (by omega)
      have hc1 := hc k hlt
      obtain ⟨x, hx⟩ : ∃ x, x = nth xs k := ⟨_, rfl⟩
      rw [← hx] at hc1
      have HX := Lib.hid hx
      clear hc hx hs
      by_cases hg : (-1000000000000 ≤ x ∧ x ≤ 1000000000000)
      · have HF : Hid (∀ w, Calls Try.prog 175 #[.int .i64 x] w fun r w' => r = .returned (.bool false) ∧ w = w') := Lib.hid (fun w => by
          have := LvlFn_any x w
          rwa [decide_eq_false (fun h => h hg)] at this)
        have HG := Lib.hid hg
        clear hg
        go_wp2_with (go_at_call 175; refine (HF.out _).mono ?_; rintro r w2 ⟨rfl, rfl⟩)
        go_roundw
        case rel => exact ⟨k + 1, by omega, by go_num, HDR.out, fun j hj => by
          rcases Nat.lt_or_ge j k with h | h
          · exact HA.out j h
          · obtain rfl : j = k := by omega
            rw [← HX.out]; exact HG.out⟩
        case measure => simp [intOf]; omega
      · have HF : Hid (∀ w, Calls Try.prog 175 #[.int .i64 x] w fun r w' => r = .returned (.bool true) ∧ w = w') := Lib.hid (fun w => by
          have := LvlFn_any x w
          rwa [decide_eq_true hg] at this)
        have HG := Lib.hid hg
        clear hg
        go_wp2_with (go_at_call 175; refine (HF.out _).mono ?_; rintro r w2 ⟨rfl, rfl⟩)
        go_ret
        exact ⟨(k : Int), rfl, .inr ⟨by omega, k, hlt, by rw [← HX.out]; exact HG.out⟩, HDR.out⟩
    · have hkn : k = n := by omega
      subst hkn
      go_wp2
      go_ret
      exact ⟨-1, rfl, .inl ⟨by omega, HA.out⟩, HDR.out⟩
set_option maxHeartbeats 400000 in
theorem containsLvl_any (A : Option Addr) (n c : Nat) (xs : List Int) (w : World) (hs : SI w A n xs) (hn : n ≤ 1099511627776) :
    Calls Try.prog 177 #[.slice A n c, .func (.func 175) #[] #[]] w fun r w' =>
      ∃ b : Bool, r = .returned (.bool b) ∧ (b = false ↔ ∀ k, k < n → (-1000000000000 ≤ nth xs k ∧ nth xs k ≤ 1000000000000)) ∧ Drawn w w' := by
  have HC := Lib.hid (indexLvl_any A n c xs w hs hn)
  clear hs
  go_enter Try.func177, Try.ntmps177
  go_wp2_with (go_at_call 212; refine HC.out.mono ?_; rintro r w2 ⟨i, rfl, hi, hd⟩; have HI := Lib.hid hi; have HD := Lib.hid hd; clear hi hd)
  go_ret
  refine ⟨_, rfl, ?_, HD.out⟩
  rcases HI.out with ⟨h1, h2⟩ | ⟨h1, k, hk, h2⟩
  · simp only [decide_eq_false_iff_not]
    exact ⟨fun _ => h2, fun _ => by omega⟩
  · simp only [decide_eq_false_iff_not]
    exact ⟨fun h => absurd h1 (by omega), fun h => absurd (h k hk) h2⟩
/-- The same, when what it answers is known. -/
theorem containsLvl_no (A : Option Addr) (n c : Nat) (xs : List Int) (w : World) (hs : SI w A n xs) (hn : n ≤ 1099511627776) (h : ∀ k, k < n → (-1000000000000 ≤ nth xs k ∧ nth xs k ≤ 1000000000000)) :
    Calls Try.prog 177 #[.slice A n c, .func (.func 175) #[] #[]] w fun r w' => r = .returned (.bool false) ∧ Drawn w w' :=
  (containsLvl_any A n c xs w hs hn).mono fun r w' ⟨b, hr, hb, hd⟩ => by
    have e : b = false := hb.2 h
    subst e; exact ⟨hr, hd⟩
theorem containsLvl_yes (A : Option Addr) (n c : Nat) (xs : List Int) (w : World) (hs : SI w A n xs) (hn : n ≤ 1099511627776) (h : ¬ ∀ k, k < n → (-1000000000000 ≤ nth xs k ∧ nth xs k ≤ 1000000000000)) :
    Calls Try.prog 177 #[.slice A n c, .func (.func 175) #[] #[]] w fun r w' => r = .returned (.bool true) ∧ Drawn w w' :=
  (containsLvl_any A n c xs w hs hn).mono fun r w' ⟨b, hr, hb, hd⟩ => by
    have e : b = true := by cases b with | true => rfl | false => exact absurd (hb.1 rfl) h
    subst e; exact ⟨hr, hd⟩
end Go.Proofs.Ytjpoliibljjhnaa

/-
  Permutations found from codes: the program's side. Conditions: lengths below 2^40.
-/



namespace Go.Proofs.Ytjpoliibljjhnaa
open Go.RowKit

/-- The first k numbers of the permutation, then zeros. -/
def wL (cs : List Int) (n k : Nat) : List Int := decL cs n k ++ List.replicate (n - k) 0
theorem wL_zero (cs : List Int) (n : Nat) : wL cs n 0 = List.replicate n 0 := by simp [wL, decL]
theorem wL_all (cs : List Int) (n : Nat) : wL cs n n = decL cs n n := by simp [wL]
theorem wL_succ {cs : List Int} {n k : Nat} (hk : k < n) {v : Int} (hx : nth (remL (decL cs n k) n) (nth cs k).toNat = v) : (wL cs n k).set k v = wL cs n (k + 1) := by
  unfold wL
  have hl : (decL cs n k).length = k := decL_len cs n k
  rw [List.set_append_right _ _ (by omega), hl, Nat.sub_self, show n - k = (n - (k + 1)) + 1 by omega, List.replicate_succ, List.set_cons_zero]
  have e : decL cs n (k + 1) = decL cs n k ++ [v] := by show _ ++ [_] = _; rw [hx]
  rw [e, List.append_assoc]
  rfl

set_option maxRecDepth 100000 in
set_option maxHeartbeats 1600000 in
theorem implPoc_any (A : Option Addr) (n c : Nat) (cs : List Int) (w : World) (hs : SI w A n cs) (hn : n ≤ 1099511627776) :
    Calls Try.prog 224 #[.slice A n c] w fun e w' => Fresh w w' e (pocPerm cs) := by
  have hl := hs.1
  have HL := Lib.hid hl
  by_cases hr : 1 ≤ n ∧ n ≤ 7
  · obtain ⟨hr1, hr7⟩ := hr
    have HS := Lib.hid hs
    have hid : idPerm (n : Int) = remL [] n := by unfold idPerm; rw [if_pos (by omega), remL_nil, Int.toNat_natCast]
    have HID := Lib.hid hid
    clear hl hid hs
    go_enter Try.func224, Try.ntmps224
    go_wp2_with (go_at_call 182; refine (isPermSize_yes (by omega) (by omega) _).mono ?_; rintro e w1 ⟨rfl, rfl⟩)
    refine (implIdentity_any (n : Int) _).mono ?_
    rintro e w1 ⟨Au, nu, cu, rfl, hou, hbu⟩
    rw [HID.out] at hou
    have hnu : nu = n := by have := hou.len; rw [remL_len, unused_nil] at this; exact this.symm
    subst hnu
    obtain ⟨gu, rfl, hg1, hg2⟩ := hou.place (by omega)
    have HU := Lib.hid hou
    have HBU := Lib.hid hbu
    have HG := Lib.hid (And.intro hg1 hg2)
    clear hou hbu hg1 hg2
    go_wp2_with (at_make; refine wpList_make_zero rfl (.tmp 15) (.tmp 15) rfl nu rfl rfl (by omega) ?_; intro w2 ho hb)
    have HU2 := Lib.hid (HU.out.below hb (Nat.le_refl _))
    have HW2 := Lib.hid ho
    have HB2 := Lib.hid (HBU.out.trans (hb.mono HBU.out.size))
    have hsz : w1.heap.size ≤ w2.heap.size := hb.size
    have hgw : w1.heap.size < w2.heap.size := (ho.lt w1.heap.size rfl).2
    clear ho hb HU
    obtain ⟨gw, hgw0⟩ : ∃ gw, gw = w1.heap.size := ⟨_, rfl⟩
    rw [← hgw0] at HU2 HW2 HG hgw hsz ⊢
    have HGW := Lib.hid (And.intro hgw0 (And.intro hgw hsz))
    clear hgw0 hgw hsz
    go_loopw [3, 19] (fun v i wr => ∃ k : Nat, k ≤ nu ∧ i = .int .i64 k ∧ v = .slice (some ⟨gu, 0, none⟩) (nu - k) cu ∧ (∀ j, j < k → 0 ≤ nth cs j ∧ nth cs j ≤ (nu : Int) - 1 - j) ∧ DecP cs (decL cs nu k) nu k ∧
        Own wr w.heap.size gw (some ⟨gu, 0, none⟩) (nu - k) cu (remL (decL cs nu k) nu) ∧ Own wr gw w2.heap.size (some ⟨gw, 0, none⟩) nu nu (wL cs nu k) ∧ w2.heap.size ≤ wr.heap.size ∧ Below w.heap.size w wr)
      (fun _ i _ => nu - (intOf i).toNat)
    case atStart => exact ⟨0, Nat.zero_le _, rfl, by simp, fun j hj => absurd hj (by omega), DecP.zero _ _, HU2.out, by rw [wL_zero]; exact HW2.out, Nat.le_refl _, HB2.out⟩
    case round =>
      obtain ⟨k, hk, rfl, rfl, hall, hdec, hou, how, hwz, hbel⟩ := hrel
      have HA := Lib.hid hall
      have HD := Lib.hid hdec
      have HU := Lib.hid hou
      have HW := Lib.hid how
      have HB := Lib.hid hbel
      have hsc := HS.out.below hbel (Nat.le_refl _)
      clear hall hdec HU2 HW2 HB2
      by_cases hlt : k < nu
      · have hlI : (k : Int) < (nu : Int) := by omega
        obtain ⟨b, o, rfl, hb, hc⟩ := hsc.at_ (by omega)
        have hc1 := hc k hlt
        by_cases hin : 0 ≤ nth cs k ∧ nth cs k ≤ (nu : Int) - 1 - (k : Int)
        · obtain ⟨v, hv, hvb, hvu, hvx, hvr⟩ := decL_step HD.out hlt hin.1 hin.2
          have hws := wL_succ hlt hvx
          obtain ⟨q, hq⟩ : ∃ q : Nat, nth cs k = (q : Int) := ⟨(nth cs k).toNat, by omega⟩
          have hqt : (nth cs k).toNat = q := by omega
          rw [hqt] at hvx hvr
          rw [hq] at hc1 hin hvu
          have hqn : q < nu - k := by omega
          have hcu := hou.cellAt (k := q) hqn
          rw [hvx] at hcu
          have hfw := how.frozenAt k
          have hcw := how.cellAt (k := k) hlt
          obtain ⟨y, hy⟩ : ∃ y, y = nth (wL cs nu k) k := ⟨_, rfl⟩
          rw [← hy] at hcw
          obtain ⟨hst, hsg⟩ := how.set_ (k := k) (v : Int)
          rw [hws] at hst
          have hu3 := hou.kept hsg (fun g hg => by simp [Value.ownBlock] at hg; intro e; injection e with e; have := HG.out.2; omega)
          have hdel := delete_own gu (nu - k) cu q w.heap.size gw _ _ hu3 hqn
          have hnk : nu - k - 1 = nu - (k + 1) := by omega
          rw [← hvr, hnk] at hdel
          have hdc : decL cs nu (k + 1) = decL cs nu k ++ [(v : Int)] := by
            show _ ++ [_] = _
            rw [hqt, hvx]
          have hsd := HD.out.snoc hv hvb (by rw [hvu, hq])
          rw [← hdc] at hsd hdel
          have HDEL := Lib.hid hdel
          have HST := Lib.hid (And.intro hst hsg)
          have HSD := Lib.hid hsd
          have HQ := Lib.hid (And.intro hq hin)
          have hqI : (q : Int) < ((nu - k : Nat) : Int) := by omega
          have hw1 : IntKind.i64.wrap ((q : Int) + 1) = (q : Int) + 1 := IntWalk.i64_in _ (by omega)
          clear hc hsc hou how hbel hvx hvr hvu hvb hws hq hqt hst hsg hu3 hdel hdc hsd hy hin
          go_wp2_with fail
          refine HDEL.out.mono ?_
          rintro e w5 ⟨rfl, ho5, hg5⟩
          have HO5 := Lib.hid ho5
          have HW5 := Lib.hid (HST.out.1.kept hg5 (fun g hg => by simp [Value.ownBlock] at hg; intro e; injection e with e; have := HG.out.2; omega))
          have HB5 := Lib.hid ((HB.out.grown HST.out.2 HB.out.size (by rintro g ⟨⟩; have := HBU.out.size; have := HGW.out; omega)).grown hg5 (by have h1 := HB.out.size; have h2 := HST.out.2.size; omega) (by rintro g ⟨⟩; exact HG.out.1))
          have HZ5 := Lib.hid (Nat.le_trans hwz (Nat.le_trans HST.out.2.size hg5.size))
          clear ho5 hg5
          go_wp2
          go_roundw
          case rel => exact ⟨k + 1, by omega, by go_num, rfl, fun j hj => by
            rcases Nat.lt_or_ge j k with h | h
            · exact HA.out j h
            · obtain rfl : j = k := by omega
              rw [HQ.out.1]; exact HQ.out.2, HSD.out, HO5.out, HW5.out, HZ5.out, HB5.out⟩
          case measure => simp [intOf]; omega
        · have hno : pocPerm cs = [] := pocPerm_no (fun h => hin (by have := h.2.2 k (by rw [HL.out]; exact hlt); rw [HL.out] at this; exact this))
          have HNO := Lib.hid hno
          obtain ⟨x, hx⟩ : ∃ x, x = nth cs k := ⟨_, rfl⟩
          rw [← hx] at hc1 hin
          clear hc hsc hou how hbel hno hx
          by_cases hx0 : x < 0
          · go_wp2
            go_ret
            rw [HNO.out]
            exact ⟨none, 0, 0, rfl, Own.nil _ _ _, HB.out⟩
          · have hxg : ((nu - k : Nat) : Int) ≤ x := by omega
            go_wp2
            go_ret
            rw [HNO.out]
            exact ⟨none, 0, 0, rfl, Own.nil _ _ _, HB.out⟩
      · have hkn : k = nu := by omega
        subst hkn
        clear hou how hbel hsc
        go_wp2
        go_ret
        have hY := pocPerm_yes (cs := cs) (by rw [HL.out]; exact hr1) (by rw [HL.out]; exact hr7) (by rw [HL.out]; exact HA.out)
        rw [HL.out] at hY
        rw [hY]
        have hw := HW.out
        rw [wL_all] at hw
        exact ⟨_, _, _, rfl, hw.wide (by have := HBU.out.size; have := HGW.out.1; omega) hwz, HB.out⟩
  · rw [pocPerm_no (fun h => hr (by rw [hl] at h; exact ⟨h.1, h.2.1⟩))]
    go_enter Try.func224, Try.ntmps224
    go_wp2_with (go_at_call 182; refine (isPermSize_no (by omega) _).mono ?_; rintro e w1 ⟨rfl, rfl⟩)
    go_ret
    exact ⟨none, 0, 0, rfl, Own.nil _ _ _, Below.refl _ _⟩
end Go.Proofs.Ytjpoliibljjhnaa

/-
  The program's AllPerms. No conditions.
-/



namespace Go.Proofs.Ytjpoliibljjhnaa
open Go.RowKit

theorem countPerms_any (n : Nat) (w : World) (h : n ≤ 5) :
    Calls Try.prog 176 #[.int .i64 n] w fun e w' => e = .returned (.int .i64 (factN n : Nat)) ∧ w = w' := by
  go_enter Try.func176, Try.ntmps176
  go_wp2
  go_loopw [3, 6] (fun pv iv wr => ∃ k : Nat, k ≤ n ∧ iv = .int .i64 k ∧ pv = .int .i64 (factN k : Nat) ∧ w = wr)
    (fun _ iv _ => n - (intOf iv).toNat)
  case atStart => exact ⟨0, Nat.zero_le _, rfl, rfl, rfl⟩
  case round =>
    obtain ⟨k, hk, rfl, rfl, rfl⟩ := hrel
    by_cases hlt : k < n
    · have hkI : (k : Int) < (n : Int) := by omega
      have e : factN (k + 1) = (k + 1) * factN k := rfl
      have hb := fact120 (n := k + 1) (by omega)
      obtain ⟨f, hf⟩ : ∃ f, f = factN k := ⟨_, rfl⟩
      rw [← hf] at e ⊢
      rw [e] at hb
      have HE := Lib.hid e
      have hw1 : IntKind.i64.wrap ((k : Int) + 1) = ((k + 1 : Nat) : Int) := IntWalk.i64_in _ (by omega)
      have hw2 : IntKind.i64.wrap ((f : Int) * ((k + 1 : Nat) : Int)) = (((k + 1) * f : Nat) : Int) := by
        rw [← Int.natCast_mul, Nat.mul_comm]; exact IntWalk.i64_in _ (by omega)
      obtain ⟨q, hq⟩ : ∃ q, q = (k + 1) * f := ⟨_, rfl⟩
      rw [← hq] at hw2 HE
      have hfk : (f : Int) * ((k : Int) + 1) = (q : Int) := by rw [hq, Int.natCast_mul, Int.mul_comm]; rfl
      have HW2 : Hid (wrap64 ((f : Int) * ((k : Int) + 1)) = (q : Int)) := Lib.hid (by rw [hfk]; unfold wrap64; omega)
      clear hfk
      clear e hb hf hq hw2
      go_wp2
      go_roundw
      case rel => exact ⟨k + 1, by omega, by go_num, by rw [HE.out]; exact congrArg (Value.int IntKind.i64) HW2.out, by trivial⟩
      case measure => simp [intOf]; omega
    · have hkI : ¬ (k : Int) < (n : Int) := by omega
      obtain rfl : k = n := by omega
      go_wp2
      go_ret
      exact ⟨rfl, rfl⟩
set_option maxHeartbeats 1000000 in
theorem permAt_any (n i : Nat) (w : World) (h1 : 1 ≤ n) (h5 : n ≤ 5) (hi : i ≤ 120) :
    Calls Try.prog 178 #[.int .i64 n, .int .i64 i] w fun e w' => e = .returned (arr (fillA (apm n i) n)) ∧ Below w.heap.size w w' := by
  obtain ⟨w1, hw1⟩ : ∃ w1, w1 = w.alloc (.cells zeroC 107) := ⟨_, rfl⟩
  obtain ⟨g, hg⟩ : ∃ g, g = w.heap.size := ⟨_, rfl⟩
  have HK : Hid (Blk w1 g 107 zeroC) := Lib.hid (by rw [hw1, hg]; exact Blk.new w _ _)
  have HB1 : Hid (Below w.heap.size w w1) := Lib.hid (by rw [hw1]; exact Below.alloc_self _ _)
  have HZ1 : Hid (w1.heap.size = g + 1) := Lib.hid (by rw [hw1, hg]; simp)
  have HW := Lib.hid hw1
  have HG := Lib.hid hg
  have HN := Lib.hid (And.intro h1 h5)
  clear hw1 hg
  have hwn : IntKind.i64.wrap ((n : Int) - 1) = (n : Int) - 1 := IntWalk.i64_in _ (by omega)
  go_enter Try.func178, Try.ntmps178
  go_upto_region 1 with fail
  rw [← HW.out, ← HG.out]
  go_wp2_with (at_make; refine wpList_make_zero rfl (.tmp 9) (.tmp 9) rfl n rfl rfl (by omega) ?_; intro w2 ho2 hb2; have HO2 := Lib.hid ho2; have HB2 := Lib.hid hb2; clear ho2 hb2)
  obtain ⟨B, hB⟩ : ∃ B, B = w1.heap.size := ⟨_, rfl⟩
  rw [← hB] at HO2 HB2 ⊢
  have HBE : Hid (B = g + 1 ∧ B + 1 ≤ w2.heap.size) := Lib.hid ⟨by rw [hB]; exact HZ1.out, by have := (HO2.out.lt B rfl).2; omega⟩
  have HO3 : Hid (Own w2 B (B + 1) (some ⟨B, 0, none⟩) n n (List.replicate n 0)) := Lib.hid ⟨HO2.out.1, fun k hk => by simp [Value.ownBlock] at hk; omega⟩
  have HBB : Hid (Below B w1 w2) := HB2
  have HD : Hid (dgt n n i (List.replicate n 0) = codeAt n i) := Lib.hid rfl
  clear hB HO2 HB2
  go_loopw [1, 6] (fun rv jv wx => ∃ (k r : Nat) (j x : Int) (l : List Int), k ≤ n ∧ j = (k : Int) - 1 ∧ jv = .int .i64 j ∧ rv = .int .i64 x ∧ x = (r : Int) ∧ r ≤ 120 ∧ l.length = n ∧ dgt n k r l = codeAt n i ∧ Own wx B (B + 1) (some ⟨B, 0, none⟩) n n l ∧ Below B w1 wx ∧ B + 1 ≤ wx.heap.size)
    (fun _ jv _ => (intOf jv + 1).toNat)
  case atStart => exact ⟨n, i, _, _, _, Nat.le_refl _, rfl, rfl, rfl, rfl, hi, by simp, HD.out, HO3.out, HBB.out, HBE.out.2⟩
  case round =>
    obtain ⟨k, r, j, x, l, hk, hj, rfl, rfl, hx, hr, hl, hd, hown, hbw, hz⟩ := hrel
    have HDk := Lib.hid hd
    have HOk := Lib.hid hown
    have HBk := Lib.hid hbw
    have HZk := Lib.hid hz
    have HLk := Lib.hid hl
    clear hd hbw hz HD HO3 HBB hl
    by_cases hk0 : k = 0
    · subst hk0
      have hj0 : ¬ (0 : Int) ≤ j := by omega
      have hj1 : ¬ j ≥ 0 := hj0
      have HX := Lib.hid (show Own wr B (B + 1) (some ⟨B, 0, none⟩) n n (codeAt n i) from by have h := HDk.out; rw [dgt] at h; rw [← h]; exact HOk.out)
      have HPO := Lib.hid (implPoc_any (some ⟨B, 0, none⟩) n n (codeAt n i) wr HX.out.si (by omega))
      have HPB := Lib.hid (isPermB_true (apm_P (i := i) HN.out.1 (show n ≤ 7 by have := HN.out.2; omega)))
      have HPL := Lib.hid (apm_len (i := i) HN.out.1 (show n ≤ 7 by have := HN.out.2; omega))
      rw [show pocPerm (codeAt n i) = apm n i from rfl] at HPO
      clear hj hown HDk HOk
      go_wp2_with (first
        | (go_at_call 224; (with_reducible refine HPO.out.mono ?_); rintro e w3 ⟨A3, n3, c3, rfl, ho3, hb3⟩
           obtain rfl : n3 = n := by rw [← ho3.len]; exact HPL.out
           have HO3 := Lib.hid ho3
           have HB3 : Hid (Below B w1 w3) := Lib.hid (HBk.out.trans (hb3.mono (by have := HZk.out; omega)))
           have HS3 : Hid (B + 1 ≤ w3.heap.size) := Lib.hid (Nat.le_trans HZk.out hb3.size)
           clear ho3 hb3)
        | (go_at_call 97; (with_reducible refine (arrayOf_yes c3 HO3.out.si (by omega) HPB.out).mono ?_); rintro e w4 ⟨rfl, hb4⟩
           have HB4 : Hid (Below B w1 w4) := Lib.hid (HB3.out.trans (hb4.mono (by have := HS3.out; omega)))
           have HS4 : Hid (B + 1 ≤ w4.heap.size) := Lib.hid (Nat.le_trans HS3.out hb4.size)
           have HKN := Lib.hid (Blk.new w4 107 (arrC (fillA (apm n3 i) n3)))
           have HB5 : Hid (Below B w1 (w4.alloc (.cells (arrC (fillA (apm n3 i) n3)) 107))) := Lib.hid (HB4.out.trans ((Below.refl _ _).alloc (by have := HS4.out; omega) _))
           have HS5 : Hid (w1.heap.size ≤ (w4.alloc (.cells (arrC (fillA (apm n3 i) n3)) 107)).heap.size) := Lib.hid HB5.out.size
           clear hb4)
        | (refine wpList_load_blk rfl 107 (.tmp 7) rfl w4.heap.size rfl 107 (arrC (fillA (apm n3 i) n3)) 7 3 HKN.out Try.undArr Try.infoArr ?_)
        | (refine wpList_store_blk rfl 107 (.tmp 4) (.tmp 36) rfl g (arrC (fillA (apm n3 i) n3)) rfl rfl 107 zeroC (HK.out.below HB5.out (by have := HBE.out.1; omega)) Try.infoArr rfl (by simp [Value.oneCell']) ?_; intro w6 hb6 hg6)
        | fail)
      refine bodyPost_ret (results_blk Try.results178 _ _ _ _ _ 7 3 rfl hb6 Try.undArr Try.infoArr) rfl ?_
      have l1 := HBE.out
      have l2 := HG.out
      have l3 := HB1.out.size
      exact ⟨rfl, (HB1.out.trans (HB5.out.mono (by omega))).grown hg6 (by have := HS5.out; omega) (by rintro q ⟨⟩; omega)⟩
    · obtain ⟨m, rfl⟩ : ∃ m, k = m + 1 := ⟨k - 1, by omega⟩
      obtain rfl : j = (m : Int) := by omega
      have hmI : (m : Int) < (n : Int) := by omega
      have h0 : (0 : Int) ≤ (m : Int) := by omega
      have h0' : (m : Int) ≥ 0 := h0
      obtain ⟨d, hd⟩ : ∃ d : Int, d = (n : Int) - (m : Int) := ⟨_, rfl⟩
      have hdn : d = ((n - m : Nat) : Int) := by omega
      have hw1 : IntKind.i64.wrap ((n : Int) - (m : Int)) = d := by rw [hd]; exact IntWalk.i64_in _ (by omega)
      have hd0 : ¬ d = 0 := by omega
      have hqr : r / (n - m) ≤ r := Nat.div_le_self _ _
      have htr : r % (n - m) ≤ r := Nat.mod_le _ _
      obtain ⟨q, hq⟩ : ∃ q : Int, q = ((r / (n - m) : Nat) : Int) := ⟨_, rfl⟩
      obtain ⟨t, ht⟩ : ∃ t : Int, t = ((r % (n - m) : Nat) : Int) := ⟨_, rfl⟩
      have hqb : 0 ≤ q ∧ q ≤ 120 := by rw [hq]; exact ⟨Int.natCast_nonneg _, by exact_mod_cast Nat.le_trans hqr hr⟩
      have htb : 0 ≤ t ∧ t ≤ 120 := by rw [ht]; exact ⟨Int.natCast_nonneg _, by exact_mod_cast Nat.le_trans htr hr⟩
      have hq1 : x.tdiv d = q := by rw [hq, hx, hdn]; exact Int.tdiv_eq_ediv_of_nonneg (by omega)
      have ht1 : x.tmod d = t := by rw [ht, hx, hdn]; exact Int.tmod_eq_emod_of_nonneg (by omega)
      have hw2 : IntKind.i64.wrap q = q := IntWalk.i64_in _ (by omega)
      have hw3 : IntKind.i64.wrap t = t := IntWalk.i64_in _ (by omega)
      have hw4 : IntKind.i64.wrap ((m : Int) - 1) = (m : Int) - 1 := IntWalk.i64_in _ (by omega)
      have hcc := hown.cellAt (k := m) (by omega)
      have hff := hown.frozenAt m
      have HSET := Lib.hid (hown.set_ (k := m) t).1
      have HDN : Hid (dgt n m (r / (n - m)) (l.set m t) = codeAt n i) := Lib.hid (by have h := HDk.out; rw [dgt] at h; rw [ht]; exact h)
      have HQ := Lib.hid (And.intro hq (show r / (n - m) ≤ 120 from Nat.le_trans hqr hr))
      have HM := Lib.hid (show m ≤ n by omega)
      clear hown hq ht hqr htr hqb htb hd hdn hx hj HDk HOk
      go_wp2
      go_roundw
      case rel => exact ⟨m, r / (n - m), _, _, _, HM.out, rfl, rfl, rfl, HQ.out.1, HQ.out.2, by simp [HLk.out], HDN.out, HSET.out, HBk.out.setCell (Nat.le_refl _) _, by simpa using HZk.out⟩
      case measure => simp [intOf]
end Go.Proofs.Ytjpoliibljjhnaa

/-
  The program's IsGkm. Conditions: lengths below 2^40.
-/






namespace Go.Proofs.Ytjpoliibljjhnaa
open Go.RowKit

set_option maxHeartbeats 1000000 in
theorem areShifts_any (A : Option Addr) (n c : Nat) (a : Int) (ys : List Int) (w : World) (hs : SI w A n ys) (hn : n ≤ 1099511627776) :
    Calls Try.prog 174 #[.slice A n c, .int .i64 a] w fun e w' => e = .returned (.bool (decide ((n : Int) = a) && shfB ys)) ∧ Drawn w w' := by
  have HL := Lib.hid hs.1
  by_cases ha : (n : Int) = a
  · subst ha
    have hki : ((n : Int) == (n : Int)) = true := by simp
    by_cases hall : ∀ k, k < n → -9 ≤ nth ys k ∧ nth ys k ≤ 9
    · have HC := Lib.hid (containsShf_no A n c ys w hs hn hall)
      have HE : Hid (shfB ys = true) := Lib.hid ((shfB_iff ys).2 (by rw [HL.out]; exact hall))
      clear hs hall
      go_enter Try.func174, Try.ntmps174
      go_wp2_with (go_at_call 177; (with_reducible refine HC.out.mono ?_); rintro e w1 ⟨rfl, hd1⟩; have HD1 := Lib.hid hd1; clear hd1)
      go_ret
      exact ⟨ret_bool (by rw [HE.out]; simp), HD1.out⟩
    · have HC := Lib.hid (containsShf_yes A n c ys w hs hn hall)
      have HE : Hid (shfB ys = false) := Lib.hid (by
        cases h : shfB ys with
        | false => rfl
        | true => exact absurd (by have := (shfB_iff ys).1 h; rwa [HL.out] at this) hall)
      clear hs hall
      go_enter Try.func174, Try.ntmps174
      go_wp2_with (go_at_call 177; (with_reducible refine HC.out.mono ?_); rintro e w1 ⟨rfl, hd1⟩; have HD1 := Lib.hid hd1; clear hd1)
      go_ret
      exact ⟨ret_bool (by rw [HE.out]; simp), HD1.out⟩
  · have hki : ((n : Int) == a) = false := by simpa using ha
    have HE : Hid ((decide ((n : Int) = a) && shfB ys) = false) := Lib.hid (by simp [ha])
    clear hs
    go_enter Try.func174, Try.ntmps174
    go_wp2
    go_ret
    exact ⟨ret_bool HE.out.symm, Drawn.refl _⟩
theorem aptB_no {a : Int} {ys : List Int} (h : ¬ aptP a ys) : aptB a ys = false := by
  cases hb : aptB a ys with
  | false => rfl
  | true => exact absurd ((aptB_iff a ys).1 hb) h
set_option maxHeartbeats 1000000 in
theorem areDifferent_any (A : Option Addr) (n c : Nat) (a : Int) (ys : List Int) (w : World) (hs : SI w A n ys) (hnc : n ≤ c) (hn : n ≤ 1099511627776) :
    Calls Try.prog 84 #[.slice A n c, .int .i64 a] w fun e w' => e = .returned (.bool (aptB a ys)) ∧ Drawn w w' := by
  have HL := Lib.hid hs.1
  have HS := Lib.hid hs
  have hsh := areShifts_any A n c a ys w hs hn
  clear hs
  by_cases h1 : a < 1
  · have HE : Hid (aptB a ys = false) := Lib.hid (aptB_no fun h => by have := h.1.1; omega)
    go_enter Try.func84, Try.ntmps84
    go_wp2
    go_ret
    exact ⟨ret_bool HE.out.symm, Drawn.refl _⟩
  · by_cases h2 : a > 4
    · have HE : Hid (aptB a ys = false) := Lib.hid (aptB_no fun h => by have := h.2.1; omega)
      go_enter Try.func84, Try.ntmps84
      go_wp2
      go_ret
      exact ⟨ret_bool HE.out.symm, Drawn.refl _⟩
    · cases hb : (decide ((n : Int) = a) && shfB ys) with
      | false =>
        rw [hb] at hsh
        have HSH := Lib.hid hsh
        have HE : Hid (aptB a ys = false) := Lib.hid (aptB_no fun h => by
          have e : (decide ((n : Int) = a) && shfB ys) = true := by
            rw [Bool.and_eq_true, shfB_iff, decide_eq_true_eq]
            exact ⟨by have := h.1.2.2.1; rw [HL.out] at this; exact this, h.1.2.2.2⟩
          rw [hb] at e; cases e)
        clear hsh hb
        go_enter Try.func84, Try.ntmps84
        go_wp2_with (go_at_call 174; (with_reducible refine HSH.out.mono ?_); rintro e w1 ⟨rfl, hd1⟩; have HD1 := Lib.hid hd1; clear hd1)
        go_ret
        exact ⟨ret_bool HE.out.symm, HD1.out⟩
      | true =>
        rw [hb] at hsh
        have HSH := Lib.hid hsh
        rw [Bool.and_eq_true, shfB_iff, decide_eq_true_eq] at hb
        obtain ⟨ha, hall⟩ := hb
        subst ha
        have HNUM : Hid (numP (n : Int) ys) := Lib.hid ⟨by omega, by omega, by rw [HL.out], hall⟩
        clear hsh hall
        go_enter Try.func84, Try.ntmps84
        go_wp2_with (go_at_call 174; (with_reducible refine HSH.out.mono ?_); rintro e w1 ⟨rfl, hd1⟩; have HD1 := Lib.hid hd1; clear hd1)
        go_loopw [21] (fun iv wr => ∃ k : Nat, k ≤ n ∧ iv = .int .i64 k ∧ (∀ j, j < k → hasB (ys.take j) (nth ys j) = false) ∧ Drawn w wr)
          (fun iv _ => n - (intOf iv).toNat)
        case atStart => exact ⟨0, Nat.zero_le _, rfl, fun j hj => absurd hj (by omega), HD1.out⟩
        case round =>
          obtain ⟨k, hk, rfl, hall, hd⟩ := hrel
          have HALL := Lib.hid hall
          have HD := Lib.hid hd
          clear hall hd HD1
          by_cases hlt : k < n
          · have hkI : (k : Int) < (n : Int) := by omega
            have hkc : (k : Int) ≤ (c : Int) := by omega
            have HLT := Lib.hid hlt
            have hsr := HD.out.si HS.out
            obtain ⟨b, o, rfl, _, hc⟩ := hsr.at_ (by omega)
            have hc1 := hc k hlt
            have HTK : Hid (∀ u, Drawn wr u → SI u (some ⟨b, o, none⟩) k (ys.take k)) := Lib.hid (fun u hd => (hd.si hsr).take (by omega))
            obtain ⟨y, hy⟩ : ∃ y, y = nth ys k := ⟨_, rfl⟩
            rw [← hy] at hc1
            have HY := Lib.hid hy
            clear hc hsr hy
            have HCN := Lib.hid (fun u (hd : Drawn wr u) => containsInts_any (some ⟨b, o, none⟩) k c (ys.take k) y u (HTK.out u hd) (by omega))
            cases hh : hasB (ys.take k) y with
            | true =>
              rw [hh] at HCN
              have HE : Hid (aptB (n : Int) ys = false) := Lib.hid (aptB_no fun h => by
                have := h.2.2 k (by rw [HL.out]; exact HLT.out)
                rw [← HY.out, hh] at this; cases this)
              clear hh
              go_wp2_with (go_at_call 168; (with_reducible refine (HCN.out _ (Drawn.refl _)).mono ?_); rintro e w2 ⟨rfl, hd2⟩; have HD2 := Lib.hid hd2; clear hd2)
              go_ret
              exact ⟨ret_bool HE.out.symm, HD.out.trans HD2.out⟩
            | false =>
              rw [hh] at HCN
              have HH := Lib.hid hh
              clear hh
              go_wp2_with (go_at_call 168; (with_reducible refine (HCN.out _ (Drawn.refl _)).mono ?_); rintro e w2 ⟨rfl, hd2⟩; have HD2 := Lib.hid hd2; clear hd2)
              go_roundw
              case rel => exact ⟨k + 1, by omega, by go_num, fun j hj => by
                rcases Nat.lt_or_ge j k with h | h
                · exact HALL.out j h
                · obtain rfl : j = k := by omega
                  rw [← HY.out]; exact HH.out, HD.out.trans HD2.out⟩
              case measure => simp [intOf]; omega
          · have hkI : ¬ (k : Int) < (n : Int) := by omega
            obtain rfl : k = n := by omega
            have HE : Hid (aptB (k : Int) ys = true) := Lib.hid ((aptB_iff _ _).2 ⟨HNUM.out, by omega, by rw [HL.out]; exact HALL.out⟩)
            go_wp2
            go_ret
            exact ⟨ret_bool HE.out.symm, HD.out⟩
theorem valB_no {n : Nat} {vs : List Int} (h : ¬ valP n vs) : valB n vs = false := by
  cases hb : valB n vs with
  | false => rfl
  | true => exact absurd ((valB_iff n vs).1 hb) h
set_option maxHeartbeats 1000000 in
theorem areLocal_any (A : Option Addr) (m n c : Nat) (vs : List Int) (w : World) (hs : SI w A n vs) (hn : n ≤ 1099511627776) (h5 : m ≤ 5) :
    Calls Try.prog 85 #[.int .i64 m, .slice A n c] w fun e w' => e = .returned (.bool (valB m vs)) ∧ Drawn w w' := by
  have HL := Lib.hid hs.1
  have HCP := Lib.hid (fun u => countPerms_any m u h5)
  obtain ⟨f, hf⟩ : ∃ f, f = factN m := ⟨_, rfl⟩
  rw [← hf] at HCP
  have HF := Lib.hid hf
  clear hf
  by_cases ha : n = f
  · subst ha
    have hki : ((n : Int) == (n : Int)) = true := by simp
    by_cases hall : ∀ k, k < n → -1000000000000 ≤ nth vs k ∧ nth vs k ≤ 1000000000000
    · have HC := Lib.hid (containsLvl_no A n c vs w hs hn hall)
      have HE : Hid (valB m vs = true) := Lib.hid ((valB_iff m vs).2 ⟨by rw [HL.out]; exact HF.out, by rw [HL.out]; exact hall⟩)
      clear hs hall
      go_enter Try.func85, Try.ntmps85
      go_wp2_with (first
        | (go_at_call 176; (with_reducible refine (HCP.out _).mono ?_); rintro e w0 ⟨rfl, rfl⟩)
        | (go_at_call 177; (with_reducible refine HC.out.mono ?_); rintro e w1 ⟨rfl, hd1⟩; have HD1 := Lib.hid hd1; clear hd1))
      go_ret
      exact ⟨ret_bool HE.out.symm, HD1.out⟩
    · have HC := Lib.hid (containsLvl_yes A n c vs w hs hn hall)
      have HE : Hid (valB m vs = false) := Lib.hid (valB_no fun h => hall (by have := h.2; rwa [HL.out] at this))
      clear hs hall
      go_enter Try.func85, Try.ntmps85
      go_wp2_with (first
        | (go_at_call 176; (with_reducible refine (HCP.out _).mono ?_); rintro e w0 ⟨rfl, rfl⟩)
        | (go_at_call 177; (with_reducible refine HC.out.mono ?_); rintro e w1 ⟨rfl, hd1⟩; have HD1 := Lib.hid hd1; clear hd1))
      go_ret
      exact ⟨ret_bool HE.out.symm, HD1.out⟩
  · have hki : ((n : Int) == (f : Int)) = false := by simp; omega
    have HE : Hid (valB m vs = false) := Lib.hid (valB_no fun h => ha (by have := h.1; rw [HL.out] at this; rw [HF.out]; exact this))
    clear hs ha
    go_enter Try.func85, Try.ntmps85
    go_wp2_with (go_at_call 176; (with_reducible refine (HCP.out _).mono ?_); rintro e w0 ⟨rfl, rfl⟩)
    go_ret
    exact ⟨ret_bool HE.out.symm, Drawn.refl _⟩
set_option maxHeartbeats 1000000 in
theorem before_any (xs : List Int) (n : Nat) (w : World) (hp : isPermP xs) (hl : xs.length = n) (h5 : n ≤ 5) :
    Calls Try.prog 179 #[arr (fillA xs n), .int .i64 n] w fun e w' => e = .returned (.int .i64 (plcN xs n n : Nat)) ∧ Below w.heap.size w w' := by
  have HIV : Hid (∀ (k : Nat) u, k < n → Calls Try.prog 225 #[arr (fillA xs n), .int .i64 k] u fun e w' => e = .returned (.int .i64 (codeCnt xs k n : Int)) ∧ Below u.heap.size u w') := Lib.hid (fun k u hk => by
    have h := inversionsAt_any (fillA xs n) k u (by omega)
    have e := codeCnt_fill hp k (by rw [hl]; exact hk)
    rw [hl] at e
    rwa [e] at h)
  have HPL : Hid (∀ k, k ≤ n → plcN xs n k ≤ 3124) := Lib.hid (fun k hk => plc_le h5 hk)
  have HCC : Hid (∀ k, codeCnt xs k n ≤ 5) := Lib.hid (fun k => Nat.le_trans (codeCnt_le xs k n) h5)
  obtain ⟨l, hL⟩ : ∃ l, l = fillA xs n := ⟨_, rfl⟩
  rw [← hL] at HIV ⊢
  clear hL hp
  go_enter Try.func179, Try.ntmps179
  go_wp2
  go_loopw [5, 8] (fun cv iv wr => ∃ k : Nat, k ≤ n ∧ iv = .int .i64 k ∧ cv = .int .i64 (plcN xs n k : Nat) ∧ Blk wr w.heap.size 107 (arrC l) ∧ Below w.heap.size w wr)
    (fun _ iv _ => n - (intOf iv).toNat)
  case atStart => exact ⟨0, Nat.zero_le _, rfl, rfl, Blk.new w _ _, Below.alloc_self _ _⟩
  case round =>
    obtain ⟨k, hk, rfl, rfl, hK, hB⟩ := hrel
    have HK := Lib.hid hK
    have HB := Lib.hid hB
    clear hK hB
    by_cases hlt : k < n
    · have hkI : (k : Int) < (n : Int) := by omega
      have hpl := HPL.out k hk
      have hpl2 := HPL.out (k + 1) hlt
      have hcc := HCC.out k
      have e : plcN xs n (k + 1) = plcN xs n k * (n - k) + codeCnt xs k n := rfl
      have HIK := Lib.hid (fun u => HIV.out k u hlt)
      obtain ⟨p, hpe⟩ : ∃ p, p = plcN xs n k := ⟨_, rfl⟩
      obtain ⟨q, hqe⟩ : ∃ q, q = plcN xs n (k + 1) := ⟨_, rfl⟩
      obtain ⟨r, hre⟩ : ∃ r, r = codeCnt xs k n := ⟨_, rfl⟩
      obtain ⟨d, hde⟩ : ∃ d, d = n - k := ⟨_, rfl⟩
      obtain ⟨s, hse⟩ : ∃ s, s = p * d := ⟨_, rfl⟩
      rw [← hqe, ← hpe, ← hre, ← hde, ← hse] at e
      rw [← hpe] at hpl ⊢
      rw [← hqe] at hpl2
      rw [← hre] at hcc HIK
      have HQ := Lib.hid hqe
      have hw1 : IntKind.i64.wrap ((n : Int) - (k : Int)) = (d : Int) := by rw [show (n : Int) - (k : Int) = (d : Int) by omega]; exact IntWalk.i64_in _ (by omega)
      have hw2 : IntKind.i64.wrap ((p : Int) * (d : Int)) = (s : Int) := by rw [hse, Int.natCast_mul, ← Int.natCast_mul, ← hse]; exact IntWalk.i64_in _ (by omega)
      have hw3 : IntKind.i64.wrap ((s : Int) + (r : Int)) = (q : Int) := by rw [show (s : Int) + (r : Int) = (q : Int) by omega]; exact IntWalk.i64_in _ (by omega)
      have HD : Hid (d = n - k) := Lib.hid hde
      have hnk : (n : Int) - (k : Int) = (d : Int) := by omega
      clear hpe hqe hre hde hse e
      go_wp2_with (first
        | (refine wpList_load_blk rfl 107 (.tmp 2) rfl w.heap.size rfl 107 (arrC l) 7 3 HK.out Try.undArr Try.infoArr ?_)
        | (go_at_call 225; (with_reducible refine (HIK.out _).mono ?_); rintro e w1 ⟨rfl, hb1⟩))
      go_roundw
      case rel => exact ⟨k + 1, by omega, by go_num, by rw [← HQ.out], HK.out.below hb1 HK.out.lt, HB.out.trans (hb1.mono HB.out.size)⟩
      case measure => simp [intOf]; omega
    · have hkn : k = n := by omega
      subst hkn
      go_wp2
      go_ret
      exact ⟨rfl, HB.out⟩
end Go.Proofs.Ytjpoliibljjhnaa

/-
  The program's IsGkm: values that differ by multiples. Conditions: lengths below 2^40.
-/

namespace Go.Proofs.Ytjpoliibljjhnaa
open Go.RowKit

theorem drewN_below {w wr : World} (h : Below w.heap.size w wr) (m : Nat) : Below w.heap.size w (wr.drewN m) := h.trans (((Drawn.refl wr).drewN m).below _)
set_option maxRecDepth 100000 in
set_option maxHeartbeats 4000000 in
theorem differBy_any (A A2 : Option Addr) (F c n c2 : Nat) (vs ys : List Int) (w : World) (hs : SI w A F vs) (hs2 : SI w A2 n ys) (hap : aptP (n : Int) ys) (hval : valP n vs) :
    Calls Try.prog 86 #[.slice A F c, .slice A2 n c2] w fun e w' => e = .returned (.bool (mulB n vs ys)) ∧ Below w.heap.size w w' := by
  have HS := Lib.hid hs
  have HS2 := Lib.hid hs2
  have hn4 : n ≤ 4 := by have := hap.2.1; omega
  have hn5 : n ≤ 5 := by omega
  have hn7 : n ≤ 7 := by omega
  have hn1 : 1 ≤ n := by have := hap.1.1; omega
  have HFF : Hid (F = factN n) := Lib.hid (by rw [← hs.1]; exact hval.1)
  have hF24 : F ≤ 24 := by rw [HFF.out]; exact fact24 hn4
  have HVB : Hid (∀ k, k < factN n → -1000000000000 ≤ nth vs k ∧ nth vs k ≤ 1000000000000) := Lib.hid (by have := hval.2; rwa [hval.1] at this)
  have HYB : Hid (∀ k, k < n → -9 ≤ nth ys k ∧ nth ys k ≤ 9) := Lib.hid (by have := hap.1.2.2.2; rwa [hs2.1] at this)
  have HDN : Hid (∀ j k, j ≠ k → j < n → k < n → nth ys j ≠ nth ys k) := Lib.hid (fun j k h1 h2 h3 => dif_ne hap.2.2 h1 (by rw [hs2.1]; exact h2) (by rw [hs2.1]; exact h3))
  have HPA := Lib.hid (fun (i : Nat) (hi : i ≤ 120) u => permAt_any n i u hn1 hn5 hi)
  clear hs hs2 hap hval
  go_enter Try.func86, Try.ntmps86
  go_wp2
  go_loopw [16] (fun iv wr => ∃ x : Nat, x ≤ F ∧ iv = .int .i64 x ∧ (∀ x', x' < x → ∀ i j, i < j → j < n → mulC n vs ys x' i j = true) ∧ Below w.heap.size w wr)
    (fun iv _ => F - (intOf iv).toNat)
  case atStart => exact ⟨0, Nat.zero_le _, rfl, fun x' h => absurd h (by omega), Below.refl _ _⟩
  case round =>
    obtain ⟨x, hx, rfl, hall, hb⟩ := hrel
    have HALL := Lib.hid hall
    have HB := Lib.hid hb
    clear hall hb
    by_cases hlt : x < F
    · have hxI : (x : Int) < (F : Int) := by omega
      have HXL := Lib.hid hlt
      have HXF : Hid (x < factN n) := Lib.hid (by rw [← HFF.out]; exact hlt)
      have hsr := HS.out.below HB.out (Nat.le_refl _)
      obtain ⟨bv, ov, rfl, hbv, hcv⟩ := hsr.at_ (show 0 < F by omega)
      have hcx := hcv x hlt
      have HBV : Hid (bv < w.heap.size) := Lib.hid (by obtain ⟨b', o', e', hb', _⟩ := HS.out.at_ (show 0 < F by omega); injection e' with e'; injection e' with e1 e2; rw [e1]; exact hb')
      obtain ⟨V0, hV0⟩ : ∃ V0, V0 = nth vs x := ⟨_, rfl⟩
      rw [← hV0] at hcx
      have HV0 := Lib.hid hV0
      clear hsr hbv hcv hV0
      go_upto_region 6 with (go_at_call 178; (with_reducible refine (HPA.out x (by omega) _).mono ?_); rintro e w1 ⟨rfl, hb1⟩; have HB1 : Hid (Below w.heap.size w w1) := Lib.hid (HB.out.trans (hb1.mono HB.out.size)); clear hb1)
      obtain ⟨l, hl⟩ : ∃ l, l = fillA (apm n x) n := ⟨_, rfl⟩
      have HLA := Lib.hid hl
      rw [← hl]
      clear hl hcx
      obtain ⟨g, hg⟩ : ∃ g, g = w1.heap.size := ⟨_, rfl⟩
      have HG : Hid (w.heap.size ≤ g) := Lib.hid (by rw [hg]; exact HB1.out.size)
      obtain ⟨w2, hw2⟩ : ∃ w2, w2 = w1.alloc (.cells (arrC l) 107) := ⟨_, rfl⟩
      have HK2 : Hid (Blk w2 g 107 (arrC l)) := Lib.hid (by rw [hw2, hg]; exact Blk.new _ _ _)
      have HB2 : Hid (Below w.heap.size w w2) := Lib.hid (by rw [hw2]; exact HB1.out.alloc HB1.out.size _)
      rw [← hw2, ← hg]
      clear hw2 hg
      go_wp2_with fail
      go_loopw [25] (fun iv wr => ∃ j : Nat, j ≤ n ∧ iv = .int .i64 j ∧ (∀ j', j' < j → ∀ i, i < j' → mulC n vs ys x i j' = true) ∧ Blk wr g 107 (arrC l) ∧ Below w.heap.size w wr)
        (fun iv _ => n - (intOf iv).toNat)
      case atStart => exact ⟨0, Nat.zero_le _, rfl, fun j' h => absurd h (by omega), HK2.out, HB2.out⟩
      case round =>
        obtain ⟨j, hj, rfl, hallj, hk, hb⟩ := hrel
        clear HK2 HB2
        have HALJ := Lib.hid hallj
        have HK := Lib.hid hk
        have HB := Lib.hid hb
        clear hallj hk hb
        by_cases hjl : j < n
        · have hjI : (j : Int) < (n : Int) := by omega
          go_wp2_with fail
          go_loopw [29] (fun iv wr => ∃ i : Nat, i ≤ j ∧ iv = .int .i64 i ∧ (∀ i', i' < i → mulC n vs ys x i' j = true) ∧ Blk wr g 107 (arrC l) ∧ Below w.heap.size w wr)
            (fun iv _ => j - (intOf iv).toNat)
          case atStart => exact ⟨0, Nat.zero_le _, rfl, fun i' h => absurd h (by omega), HK.out, HB.out⟩
          case round =>
            obtain ⟨i, hi, rfl, halli, hk, hb⟩ := hrel
            clear HK HB
            have HALI := Lib.hid halli
            have HK := Lib.hid hk
            have HB := Lib.hid hb
            clear halli hk hb
            by_cases hil : i < j
            · have hiI : (i : Int) < (j : Int) := by omega
              have HP1 := pAt_is (x := x) hn1 hn7 (show i < n by omega)
              have HP2 := pAt_is (x := x) hn1 hn7 (show j < n by omega)
              have hne := HDN.out (pAt n x i) (pAt n x j) (pAt_ne (x := x) hn1 hn7 (by omega) (by omega) (by omega)) HP1.2 HP2.2
              have hOl := oAt_lt (x := x) (i := i) (j := j) hn5
              have hb1 := HVB.out x HXF.out
              have hb2 := HVB.out (oAt n x i j) hOl
              have hy1 := HYB.out (pAt n x i) HP1.2
              have hy2 := HYB.out (pAt n x j) HP2.2
              have hmc : mulC n vs ys x i j = decide ((nth vs x - nth vs (oAt n x i j)).tmod (nth ys (pAt n x i) - nth ys (pAt n x j)) = 0) := rfl
              obtain ⟨V, hV⟩ : ∃ V, V = nth vs x := ⟨_, rfl⟩
              obtain ⟨O, hO⟩ : ∃ O, O = oAt n x i j := ⟨_, rfl⟩
              rw [← hO] at hOl hb2 hmc
              obtain ⟨U, hU⟩ : ∃ U, U = nth vs O := ⟨_, rfl⟩
              obtain ⟨a, ha⟩ : ∃ a, a = pAt n x i := ⟨_, rfl⟩
              obtain ⟨b, hb⟩ : ∃ b, b = pAt n x j := ⟨_, rfl⟩
              rw [← ha] at HP1 hne hy1 hmc
              rw [← hb] at HP2 hne hy2 hmc
              obtain ⟨P, hP⟩ : ∃ P, P = nth ys a := ⟨_, rfl⟩
              obtain ⟨Q, hQ⟩ : ∃ Q, Q = nth ys b := ⟨_, rfl⟩
              rw [← hV, ← hU, ← hP, ← hQ] at hmc
              rw [← hV] at hb1
              rw [← hU] at hb2
              rw [← hP] at hy1 hne
              rw [← hQ] at hy2 hne
              obtain ⟨D, hD⟩ : ∃ D, D = V - U := ⟨_, rfl⟩
              obtain ⟨S, hS⟩ : ∃ S, S = P - Q := ⟨_, rfl⟩
              have hwD : IntKind.i64.wrap (V - U) = D := by rw [hD]; exact IntWalk.i64_in _ (by omega)
              have hwS : IntKind.i64.wrap (P - Q) = S := by rw [hS]; exact IntWalk.i64_in _ (by omega)
              have hS0 : ¬ S = 0 := by omega
              obtain ⟨r, hr⟩ : ∃ r, r = D.tmod S := ⟨_, rfl⟩
              have hrb : r.natAbs ≤ 2000000000000 := by
                rw [hr, Int.natAbs_tmod]
                exact Nat.le_trans (Nat.mod_le _ _) (by omega)
              have hwr : IntKind.i64.wrap r = r := IntWalk.i64_in _ (by omega)
              have hrr : D.tmod S = r := hr.symm
              rw [← hD, ← hS, hrr] at hmc
              have HV := Lib.hid hV
              have HU := Lib.hid hU
              have HOO := Lib.hid hO
              have HPQ := Lib.hid (And.intro hP hQ)
              have HAB := Lib.hid (And.intro ha hb)
              have HMC := Lib.hid hmc
              have HRR := Lib.hid hrr
              have hll : l.length = 7 := by rw [HLA.out, fillA_len]
              have HEX := Lib.hid (fun u => exchanged_any l i j u (by omega) (by omega) (by omega) hll)
              have HBF : Hid (∀ u, Calls Try.prog 179 #[arr (swapL l i j), .int .i64 n] u fun e w' => e = .returned (.int .i64 (O : Nat)) ∧ Below u.heap.size u w') := Lib.hid (fun u => by
                have hla := apm_len (i := x) hn1 hn7
                have h := before_any (swapL (apm n x) i j) n u (swap_pp (apm_P (i := x) hn1 hn7) hil (by omega)) (by rw [swapL_len]; exact hla) hn5
                rw [HLA.out, oAt_fill hn1 hn7 hil hjl, HOO.out]
                exact h)
              have HL1 : Hid (nth l i = (a : Int)) := Lib.hid (by rw [HLA.out, fillA_lt (by omega) (by omega), HAB.out.1]; exact (pAt_is hn1 hn7 (by omega)).1)
              have HL2 : Hid (nth l j = (b : Int)) := Lib.hid (by rw [HLA.out, fillA_lt (by omega) (by omega), HAB.out.2]; exact (pAt_is hn1 hn7 (by omega)).1)
              have HCO : Hid (∀ u, Below w.heap.size w u → u.cell? ⟨bv, ov + O, none⟩ = some (.int .i64 U)) := Lib.hid (fun u hu => by
                obtain ⟨b', o', e', _, hc'⟩ := (HS.out.below hu (Nat.le_refl _)).at_ (show 0 < F by omega)
                injection e' with e'; injection e' with e1 e2
                subst e1; subst e2
                rw [HU.out]
                exact hc' O (by rw [HFF.out]; exact hOl))
              have hOF : (O : Int) < (F : Int) := by rw [HFF.out]; omega
              have hO0 : (0 : Int) ≤ (O : Int) := by omega
              have ha1 := HP1.2
              have hb1' := HP2.2
              have haI : (a : Int) < (n : Int) := by omega
              have hbI : (b : Int) < (n : Int) := by omega
              have HSY : Hid (∀ u, Below w.heap.size w u → SI u A2 n ys) := Lib.hid (fun u hu => HS2.out.below hu (Nat.le_refl _))
              clear hV hU hO ha hb hP hQ hD hS hr hrr hmc hll hb1 hb2 hy1 hy2 hne HP1 HP2 hOl
              rw [show (V0 : Int) = V from by rw [HV0.out, HV.out]]
              go_upto_region 13 with (first
                | (refine wpList_load_blk rfl 107 (.tmp 8) rfl g rfl 107 (arrC l) 7 3 HK.out Try.undArr Try.infoArr ?_)
                | (go_at_call 99; (with_reducible refine (HEX.out _).mono ?_); rintro e w3 ⟨rfl, hb3⟩; have HB3 := Lib.hid hb3; clear hb3)
                | (go_at_call 179; (with_reducible refine (HBF.out _).mono ?_); rintro e w4 ⟨rfl, hb4⟩
                   have HB4 : Hid (Below wr.heap.size wr w4) := Lib.hid (HB3.out.trans (hb4.mono HB3.out.size))
                   have HW4 : Hid (Below w.heap.size w w4) := Lib.hid (HB.out.trans (HB4.out.mono HB.out.size))
                   have HK4 := Lib.hid (HK.out.below HB4.out HK.out.lt)
                   have hcO := HCO.out _ HW4.out
                   clear hb4))
              have hca : w4.cell? ⟨g, i, none⟩ = some (.int .i64 (a : Int)) := by
                have h := (HK4.out.cell i).trans (arrC_get l i (by omega))
                rw [HL1.out] at h; exact h
              have hcb : w4.cell? ⟨g, j, none⟩ = some (.int .i64 (b : Int)) := by
                have h := (HK4.out.cell j).trans (arrC_get l j (by omega))
                rw [HL2.out] at h; exact h
              obtain ⟨by_, oy, rfl, _, hcy⟩ := (HSY.out _ HW4.out).at_ (show 0 < n by omega)
              have hy1 := hcy a ha1
              have hy2 := hcy b hb1'
              rw [← HPQ.out.1] at hy1
              rw [← HPQ.out.2] at hy2
              have hi7 : (i : Int) < 7 := by omega
              have hj7 : (j : Int) < 7 := by omega
              clear hcy hcO
              have HMF : Hid (¬ r = 0 → mulB n vs ys = false) := Lib.hid (fun hr0 => mulB_no HXF.out hil hjl (by rw [HMC.out]; simpa using hr0))
              have HMT : Hid (r = 0 → mulC n vs ys x i j = true) := Lib.hid (fun hr0 => by rw [HMC.out]; simp [hr0])
              go_wp2_with fail
              go_quiet (fail)
              go_wp2
              · have hh : (D.tmod S != 0) = true := by assumption
                have hr0 : ¬ r = 0 := by rw [← HRR.out]; simpa using hh
                have HM := HMF.out hr0
                go_ret
                exact ⟨ret_bool HM.symm, by first | exact drewN_below HW4.out _ | exact drewN_below (drewN_below HW4.out _) _⟩
              · have hh : (D.tmod S != 0) = false := by assumption
                have hr0 : r = 0 := by rw [← HRR.out]; simpa using hh
                have HM := Lib.hid (HMT.out hr0)
                clear hh hr0
                go_roundw
                case rel => exact ⟨i + 1, by omega, by go_num, fun i' hi' => by
                  rcases Nat.lt_or_ge i' i with h | h
                  · exact HALI.out i' h
                  · obtain rfl : i' = i := by omega
                    exact HM.out, by first | exact HK4.out.drawn ((Drawn.refl _).drewN _) | exact HK4.out.drawn (((Drawn.refl _).drewN _).drewN _), by first | exact drewN_below HW4.out _ | exact drewN_below (drewN_below HW4.out _) _⟩
                case measure => simp [intOf]; omega
            · have hiI : ¬ (i : Int) < (j : Int) := by omega
              obtain rfl : i = j := by omega
              go_wp2
              go_roundw
              case rel => exact ⟨i + 1, by omega, by go_num, fun j' hj' i' hi' => by
                rcases Nat.lt_or_ge j' i with h | h
                · exact HALJ.out j' h i' hi'
                · obtain rfl : j' = i := by omega
                  exact HALI.out i' hi', HK.out, HB.out⟩
              case measure => simp [intOf]; omega
        · have hjI : ¬ (j : Int) < (n : Int) := by omega
          obtain rfl : j = n := by omega
          go_wp2
          go_roundw
          case rel => exact ⟨x + 1, by have := HXL.out; omega, by go_num, fun x' hx' i j' hij hj' => by
            rcases Nat.lt_or_ge x' x with h | h
            · exact HALL.out x' h i j' hij hj'
            · obtain rfl : x' = x := by omega
              exact HALJ.out j' hj' i hij, HB.out⟩
          case measure => have := HXL.out; simp [intOf]; omega
    · have hxI : ¬ (x : Int) < (F : Int) := by omega
      obtain rfl : x = F := by omega
      have HMT : Hid (mulB n vs ys = true) := Lib.hid ((mulB_iff n vs ys).2 (by rw [← HFF.out]; exact HALL.out))
      go_wp2
      go_ret
      exact ⟨ret_bool HMT.out.symm, HB.out⟩
set_option maxHeartbeats 1000000 in
theorem implGkm_any (a : Int) (A A2 : Option Addr) (m c n c2 : Nat) (vs ys : List Int) (w : World) (hs : SI w A m vs) (hs2 : SI w A2 n ys) (hnc2 : n ≤ c2) (hm : m ≤ 1099511627776) (hn : n ≤ 1099511627776) :
    Calls Try.prog 24 #[.int .i64 a, .slice A m c, .slice A2 n c2] w fun e w' => e = .returned (.bool (gkmB a vs ys)) ∧ Below w.heap.size w w' := by
  have hd := areDifferent_any A2 n c2 a ys w hs2 hnc2 hn
  cases h1 : aptB a ys with
  | false =>
    rw [h1] at hd
    have HD := Lib.hid hd
    have HE : Hid (gkmB a vs ys = false) := Lib.hid (by simp [gkmB, h1])
    clear hs hs2 hd h1
    go_enter Try.func24, Try.ntmps24
    go_wp2_with (go_at_call 84; (with_reducible refine HD.out.mono ?_); rintro e w1 ⟨rfl, hd1⟩; have HD1 := Lib.hid hd1; clear hd1)
    go_ret
    exact ⟨ret_bool HE.out.symm, HD1.out.below _⟩
  | true =>
    rw [h1] at hd
    have HD := Lib.hid hd
    have hap := (aptB_iff a ys).1 h1
    obtain rfl : a = (n : Int) := by rw [← hap.1.2.2.1, hs2.1]
    have HAP := Lib.hid hap
    have hlv := fun u (hd : Drawn w u) => areLocal_any A n m c vs u (hd.si hs) hm (by have := hap.2.1; omega)
    cases h2 : valB n vs with
    | false =>
      rw [h2] at hlv
      have HLV := Lib.hid hlv
      have HE : Hid (gkmB (n : Int) vs ys = false) := Lib.hid (by unfold gkmB; rw [Int.toNat_natCast, h2]; simp)
      clear hs hs2 hd h1 hlv h2 hap
      go_enter Try.func24, Try.ntmps24
      go_wp2_with (first
        | (go_at_call 84; (with_reducible refine HD.out.mono ?_); rintro e w1 ⟨rfl, hd1⟩; have HD1 := Lib.hid hd1; clear hd1)
        | (go_at_call 85; (with_reducible refine (HLV.out _ HD1.out).mono ?_); rintro e w2 ⟨rfl, hd2⟩; have HD2 := Lib.hid (HD1.out.trans hd2); clear hd2))
      go_ret
      exact ⟨ret_bool HE.out.symm, HD2.out.below _⟩
    | true =>
      rw [h2] at hlv
      have HLV := Lib.hid hlv
      have HE : Hid (gkmB (n : Int) vs ys = mulB n vs ys) := Lib.hid (by unfold gkmB; rw [Int.toNat_natCast, h1, h2]; simp)
      have HMB := Lib.hid (fun u (hd : Drawn w u) => differBy_any A A2 m c n c2 vs ys u (hd.si hs) (hd.si hs2) hap ((valB_iff n vs).1 h2))
      clear hs hs2 hd h1 hlv h2 hap
      go_enter Try.func24, Try.ntmps24
      go_wp2_with (first
        | (go_at_call 84; (with_reducible refine HD.out.mono ?_); rintro e w1 ⟨rfl, hd1⟩; have HD1 := Lib.hid hd1; clear hd1)
        | (go_at_call 85; (with_reducible refine (HLV.out _ HD1.out).mono ?_); rintro e w2 ⟨rfl, hd2⟩; have HD2 := Lib.hid (HD1.out.trans hd2); clear hd2)
        | (go_at_call 86; (with_reducible refine (HMB.out _ HD2.out).mono ?_); rintro e w3 ⟨rfl, hb3⟩; have HB3 : Hid (Below w.heap.size w w3) := Lib.hid ((HD2.out.below _).trans (hb3.mono (HD2.out.below w.heap.size).size)); clear hb3))
      go_ret
      exact ⟨ret_bool HE.out.symm, HB3.out⟩
end Go.Proofs.Ytjpoliibljjhnaa
