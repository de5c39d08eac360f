/-
  Values modulo the prime, on both sides. Conditions: lengths below 2^40.
-/
import Derived.Test.YthpgahlfkmkigaaPolyOkI
namespace Go.Proofs.Ythpgahlfkmkigaa
open Go.RowKit

theorem tmod_P (n : Int) : -32003 < n.tmod 32003 ∧ n.tmod 32003 < 32003 ∧ n % 32003 = (if n.tmod 32003 < 0 then n.tmod 32003 + 32003 else n.tmod 32003) := by
  have h1 := Int.mul_tdiv_add_tmod n 32003
  have h2 : n.tmod 32003 < 32003 := Int.tmod_lt_of_pos n (by decide)
  have h3 : -32003 < n.tmod 32003 := Int.lt_tmod_of_pos n (by decide)
  generalize n.tmod 32003 = r at *
  generalize n.tdiv 32003 = q at *
  refine ⟨h3, h2, ?_⟩
  split <;> omega
theorem tmod_pos {n : Int} (h : 0 ≤ n) : n.tmod 32003 = n % 32003 := by
  obtain ⟨h1, h2, h3⟩ := tmod_P n
  have h4 : 0 ≤ n.tmod 32003 := Int.tmod_nonneg _ h
  rw [h3, if_neg (by omega)]
theorem l2Residue_any (n : Int) (w : World) : Calls Try.prog 65 #[.int .i64 n] w fun r w' => r = .returned (.int .i64 (n % 32003)) ∧ w' = w := by
  obtain ⟨h1, h2, h3⟩ := tmod_P n
  have H3 := Lib.hid h3
  have h4 : 0 ≤ n.tmod 32003 + 32003 := by omega
  clear h3
  go_enter Try.func65, Try.ntmps65
  go_wp2
  go_ret
  refine ⟨ret_int ?_, rfl⟩
  rw [H3.out]
  split <;> omega
theorem moduloPrime_any (n : Int) (w : World) : Calls Try.prog 67 #[.int .i64 n] w fun r w' => r = .returned (.int .i64 (n % 32003)) ∧ w' = w := by
  obtain ⟨h1, h2, h3⟩ := tmod_P n
  have H3 := Lib.hid h3
  clear h3
  by_cases h4 : n.tmod 32003 < 0
  · go_enter Try.func67, Try.ntmps67
    go_wp2
    go_ret
    exact ⟨ret_int (by rw [H3.out, if_pos h4]), rfl⟩
  · go_enter Try.func67, Try.ntmps67
    go_wp2
    go_ret
    exact ⟨ret_int (by rw [H3.out, if_neg (by omega)]), rfl⟩

/-- x times the power of v, modulo the prime. -/
def powR (x v : Int) : Nat → Int
  | 0 => x
  | j + 1 => powR x v j * v % 32003
/-- The value of one term after i variables. -/
def valN (e vs : List Int) (c : Int) : Nat → Int
  | 0 => c % 32003
  | i + 1 => powR (valN e vs c i) (nth vs i % 32003) (nth e i).toNat
theorem powR_range {x v : Int} (hx : 0 ≤ x ∧ x < 32003) : ∀ j, 0 ≤ powR x v j ∧ powR x v j < 32003
  | 0 => hx
  | j + 1 => by show 0 ≤ powR x v j * v % 32003 ∧ powR x v j * v % 32003 < 32003; omega
theorem valN_range (e vs : List Int) (c : Int) : ∀ i, 0 ≤ valN e vs c i ∧ valN e vs c i < 32003
  | 0 => by show 0 ≤ c % 32003 ∧ c % 32003 < 32003; omega
  | i + 1 => powR_range (valN_range e vs c i) _
/-- The sum of the values of the first k terms. -/
def sumV (ts : List Tm) (vs : List Int) : Nat → Int
  | 0 => 0
  | k + 1 => sumV ts vs k + valN (tm ts k).1 vs (tm ts k).2 7
theorem sumV_range (ts : List Tm) (vs : List Int) : ∀ k, 0 ≤ sumV ts vs k ∧ sumV ts vs k ≤ 32003 * (k : Int)
  | 0 => ⟨Int.le_refl _, by simp [sumV]⟩
  | k + 1 => by
    have h1 := sumV_range ts vs k
    have h2 := valN_range (tm ts k).1 vs (tm ts k).2 7
    have e : sumV ts vs (k + 1) = sumV ts vs k + valN (tm ts k).1 vs (tm ts k).2 7 := rfl
    rw [e]
    omega
def evalPoly (ts : List Tm) (vs : List Int) : Int := if polyB ts = true ∧ vs.length = 7 then sumV ts vs ts.length % 32003 else -1
theorem evalPoly_no {ts : List Tm} {vs : List Int} (h : polyB ts = false ∨ vs.length ≠ 7) : evalPoly ts vs = -1 := by
  unfold evalPoly
  rw [if_neg]
  rintro ⟨h1, h2⟩
  rcases h with h | h
  · rw [h] at h1; cases h1
  · exact h h2
theorem evalPoly_yes {ts : List Tm} {vs : List Int} (h : polyB ts = true) (h' : vs.length = 7) : evalPoly ts vs = sumV ts vs ts.length % 32003 := by
  unfold evalPoly; rw [if_pos ⟨h, h'⟩]

set_option maxHeartbeats 1600000 in
theorem valueAt_any (A A' : Option Addr) (c c' : Nat) (xs vs : List Int) (x : Int) (w : World) (hs : SI w A 7 xs) (hs' : SI w A' 7 vs) (hsm : smallE xs = true) :
    Calls Try.prog 66 #[.agg #[.slice A 7 c, .int .i64 x], .slice A' 7 c'] w fun r w' => r = .returned (.int .i64 (valN xs vs x 7)) ∧ Below w.heap.size w w' := by
  have HL := Lib.hid hs.1
  have HS := Lib.hid hsm
  have hb0 : Below w.heap.size w (w.alloc (.cells #[.slice A 7 c, .int .i64 x] 51)) := by go_grown
  have hs0 := hs.below hb0 (Nat.le_refl _)
  have hs0' := hs'.below hb0 (Nat.le_refl _)
  have HB := Lib.hid hb0
  clear hsm hb0 hs hs'
  go_enter Try.func66, Try.ntmps66
  go_wp2_with fail
  refine (moduloPrime_any x _).mono ?_
  rintro r w1 ⟨rfl, rfl⟩
  go_wp2
  generalize (w.alloc (.cells #[.slice A 7 c, .int .i64 x] 51)) = w0 at *
  go_loopw [5, 15] (fun v i wr => ∃ k : Nat, k ≤ 7 ∧ i = .int .i64 k ∧ v = .int .i64 (valN xs vs x k) ∧ wr = w0)
    (fun _ i _ => 7 - (intOf i).toNat)
  case atStart => exact ⟨0, Nat.zero_le _, rfl, rfl, rfl⟩
  case round =>
    obtain ⟨k, hk, rfl, rfl, rfl⟩ := hrel
    by_cases hlt : k < 7
    · obtain ⟨b, o, rfl, hb, hc⟩ := hs0.at_ (by omega)
      obtain ⟨b', o', rfl, hb', hc'⟩ := hs0'.at_ (by omega)
      have hc1 := hc k hlt
      have hc2 := hc' k hlt
      have hsm := smallE_nth HS.out (k := k) (by rw [HL.out]; exact hlt)
      have hvr := valN_range xs vs x k
      have e : valN xs vs x (k + 1) = powR (valN xs vs x k) (nth vs k % 32003) (nth xs k).toNat := rfl
      obtain ⟨p, hp⟩ : ∃ p, p = nth xs k := ⟨_, rfl⟩
      obtain ⟨y, hy⟩ : ∃ y, y = nth vs k := ⟨_, rfl⟩
      obtain ⟨v, hv⟩ : ∃ v, v = valN xs vs x k := ⟨_, rfl⟩
      rw [← hp, ← hy, ← hv] at e
      rw [← hp] at hc1 hsm
      rw [← hy] at hc2
      rw [← hv] at hvr ⊢
      obtain ⟨q, rfl⟩ : ∃ q : Nat, p = (q : Int) := ⟨p.toNat, by omega⟩
      have HE := Lib.hid e
      have HV := Lib.hid hvr
      have hq24 : q ≤ 24 := by omega
      have hkI : (k : Int) < 7 := by omega
      clear hc hc' hs0 hs0' e hp hy hv hvr hsm
      go_wp2_with fail
      refine (moduloPrime_any y _).mono ?_
      rintro r w1 ⟨rfl, rfl⟩
      obtain ⟨u, hu⟩ : ∃ u, u = y % 32003 := ⟨_, rfl⟩
      have hu0 : 0 ≤ u := by omega
      have hu1 : u < 32003 := by omega
      rw [← hu]
      rw [← hu] at HE
      have HU := Lib.hid hu
      clear hu
      go_wp2
      go_loopw [5, 26] (fun z i wr => ∃ j : Nat, j ≤ q ∧ i = .int .i64 j ∧ z = .int .i64 (powR v u j) ∧ wr = w1)
        (fun _ i _ => q - (intOf i).toNat)
      case atStart => exact ⟨0, Nat.zero_le _, rfl, rfl, rfl⟩
      case round =>
        obtain ⟨j, hj, rfl, rfl, rfl⟩ := hrel
        have hpr := powR_range (v := u) HV.out j
        have e2 : powR v u (j + 1) = powR v u j * u % 32003 := rfl
        obtain ⟨z, hz⟩ : ∃ z, z = powR v u j := ⟨_, rfl⟩
        rw [← hz] at hpr e2 ⊢
        have HE2 := Lib.hid e2
        obtain ⟨hz0, hz1⟩ := hpr
        have HZ := Lib.hid hz
        clear hz e2
        by_cases hjq : j < q
        · have hjI : (j : Int) < (q : Int) := by omega
          have hm1 : 0 ≤ z * u := Int.mul_nonneg hz0 hu0
          have hm2 : z * u ≤ 32003 * 32003 := Int.mul_le_mul (by omega) (by omega) hu0 (by decide)
          have hw : IntKind.i64.wrap (z * u) = z * u := IntWalk.i64_in _ (by omega)
          go_wp2_with fail
          refine (moduloPrime_any (z * u) _).mono ?_
          rintro r w3 ⟨rfl, rfl⟩
          go_wp2
          go_roundw
          case rel => exact ⟨j + 1, by omega, by go_num, by rw [HE2.out], trivial⟩
          case measure => simp [intOf]; omega
        · have hjn : j = q := by omega
          subst hjn
          go_wp2
          go_roundw
          case rel => exact ⟨k + 1, by omega, by go_num, by rw [HE.out, Int.toNat_natCast, HZ.out], trivial⟩
          case measure => simp [intOf]; omega
    · have hkn : k = 7 := by omega
      subst hkn
      go_wp2
      go_ret
      exact ⟨rfl, HB.out⟩

set_option maxRecDepth 100000 in
set_option maxHeartbeats 3200000 in
theorem specEvaluate_any (A A' : Option Addr) (n c n' c' : Nat) (ts : List Tm) (vs : List Int) (w : World) (hs : TS w A n ts) (hs' : SI w A' n' vs) (hn : n ≤ 1099511627776) (hne : ∀ k, k < n → (tm ts k).1.length ≤ 1099511627776) (hn' : n' ≤ 1099511627776) :
    Calls Try.prog 35 #[.slice A n c, .slice A' n' c'] w fun r w' => r = .returned (.int .i64 (evalPoly ts vs)) ∧ Drawn w w' := by
  have HL := Lib.hid (And.intro hs.1 hs'.1)
  have hP := specPolyOk_any A n c ts w hs hn hne
  cases hu : polyB ts with
  | false =>
    rw [hu] at hP
    have HP := Lib.hid hP
    have HE := Lib.hid (evalPoly_no (vs := vs) (.inl hu))
    clear hP hu
    go_enter Try.func35, Try.ntmps35
    go_wp2_with fail
    refine HP.out.mono ?_
    rintro r w1 ⟨rfl, hd1⟩
    go_wp2
    go_ret
    exact ⟨ret_int HE.out.symm, hd1⟩
  | true =>
    rw [hu] at hP
    have HP := Lib.hid hP
    by_cases h7 : n' = 7
    · subst h7
      have HE := Lib.hid (evalPoly_yes hu hs'.1)
      have HU := Lib.hid hu
      clear hP hu
      go_enter Try.func35, Try.ntmps35
      go_wp2_with fail
      refine HP.out.mono ?_
      rintro r w1 ⟨rfl, hd1⟩
      have HD1 := Lib.hid hd1
      have hts := hs.drawn hd1
      have hvs := hd1.si hs'
      clear hd1 hs hs' hne
      go_wp2
      go_loopw [5, 6] (fun v i wr => ∃ k : Nat, k ≤ n ∧ i = .int .i64 k ∧ v = .int .i64 (sumV ts vs k % 32003) ∧ wr = w1)
        (fun _ i _ => n - (intOf i).toNat)
      case atStart => exact ⟨0, Nat.zero_le _, rfl, rfl, rfl⟩
      case round =>
        obtain ⟨k, hk, rfl, rfl, rfl⟩ := hrel
        by_cases hlt : k < n
        · have hlI : (k : Int) < (n : Int) := by omega
          obtain ⟨b, o, A2, n2, c2, rfl, hb, hc0, hc1, hsi, hnc, hnil⟩ := hts.at_ hlt
          have hg := (goodT_iff _).1 (polyB_good HU.out (k := k) (by rw [HL.out.1]; exact hlt))
          obtain rfl : n2 = 7 := by rw [← hsi.1]; exact hg.1
          have e : sumV ts vs (k + 1) = sumV ts vs k + valN (tm ts k).1 vs (tm ts k).2 7 := rfl
          obtain ⟨x, hx⟩ : ∃ x, x = (tm ts k).2 := ⟨_, rfl⟩
          obtain ⟨xs, hxs⟩ : ∃ xs, xs = (tm ts k).1 := ⟨_, rfl⟩
          obtain ⟨y, hy⟩ : ∃ y, y = sumV ts vs k := ⟨_, rfl⟩
          rw [← hx] at hc1
          rw [← hxs] at hsi hg
          rw [← hx, ← hxs, ← hy] at e
          rw [← hy]
          have HEE := Lib.hid e
          have HSM := Lib.hid (And.intro hg.1 hg.2.1)
          clear hts hnil hg e hx hxs hy
          go_wp2_with fail
          refine (l2Residue_any x _).mono ?_
          rintro r w2 ⟨rfl, rfl⟩
          go_wp2
          go_loopw [7, 8] (fun v i wr => ∃ j : Nat, j ≤ 7 ∧ i = .int .i64 j ∧ v = .int .i64 (valN xs vs x j) ∧ wr = w2)
            (fun _ i _ => 7 - (intOf i).toNat)
          case atStart => exact ⟨0, Nat.zero_le _, rfl, rfl, rfl⟩
          case round =>
            obtain ⟨j, hj, rfl, rfl, rfl⟩ := hrel
            by_cases hj7 : j < 7
            · obtain ⟨b3, o3, rfl, hb3, hc3⟩ := hsi.at_ (by omega)
              obtain ⟨b4, o4, rfl, hb4, hc4⟩ := hvs.at_ (by omega)
              have hc5 := hc3 j hj7
              have hc6 := hc4 j hj7
              have hsm := smallE_nth HSM.out.2 (k := j) (by rw [HSM.out.1]; exact hj7)
              have hvr := valN_range xs vs x j
              have e : valN xs vs x (j + 1) = powR (valN xs vs x j) (nth vs j % 32003) (nth xs j).toNat := rfl
              obtain ⟨p, hp⟩ : ∃ p, p = nth xs j := ⟨_, rfl⟩
              obtain ⟨u, hu⟩ : ∃ u, u = nth vs j := ⟨_, rfl⟩
              obtain ⟨v, hv⟩ : ∃ v, v = valN xs vs x j := ⟨_, rfl⟩
              rw [← hp, ← hu, ← hv] at e
              rw [← hp] at hc5 hsm
              rw [← hu] at hc6
              rw [← hv] at hvr ⊢
              obtain ⟨q, rfl⟩ : ∃ q : Nat, p = (q : Int) := ⟨p.toNat, by omega⟩
              have HE2 := Lib.hid e
              have HV := Lib.hid hvr
              have hq24 : q ≤ 24 := by omega
              have hjI : (j : Int) < 7 := by omega
              clear hc3 hc4 hsi hvs e hp hu hv hvr hsm
              go_wp2
              go_loopw [7, 9] (fun z i wq => ∃ m : Nat, m ≤ q ∧ i = .int .i64 m ∧ z = .int .i64 (powR v (u % 32003) m) ∧ wq = wr)
                (fun _ i _ => q - (intOf i).toNat)
              case atStart => exact ⟨0, Nat.zero_le _, rfl, rfl, rfl⟩
              case round =>
                obtain ⟨m, hm, rfl, rfl, rfl⟩ := hrel
                have hpr := powR_range (v := u % 32003) HV.out m
                have e2 : powR v (u % 32003) (m + 1) = powR v (u % 32003) m * (u % 32003) % 32003 := rfl
                obtain ⟨z, hz⟩ : ∃ z, z = powR v (u % 32003) m := ⟨_, rfl⟩
                rw [← hz] at hpr e2 ⊢
                have HE3 := Lib.hid e2
                have HZ := Lib.hid hz
                obtain ⟨hz0, hz1⟩ := hpr
                clear hz e2
                by_cases hmq : m < q
                · have hmI : (m : Int) < (q : Int) := by omega
                  go_wp2_with fail
                  refine (l2Residue_any u _).mono ?_
                  rintro r w3 ⟨rfl, rfl⟩
                  obtain ⟨t, ht⟩ : ∃ t, t = u % 32003 := ⟨_, rfl⟩
                  have ht0 : 0 ≤ t := by omega
                  have ht1 : t < 32003 := by omega
                  have HT := Lib.hid ht
                  rw [← ht] at HE3 ⊢
                  have hm1 : 0 ≤ z * t := Int.mul_nonneg hz0 ht0
                  have hm2 : z * t ≤ 32003 * 32003 := Int.mul_le_mul (by omega) (by omega) ht0 (by decide)
                  have hw : IntKind.i64.wrap (z * t) = z * t := IntWalk.i64_in _ (by omega)
                  have hmod : (z * t).tmod 32003 = z * t % 32003 := tmod_pos hm1
                  clear ht
                  go_wp2
                  go_roundw
                  case rel => exact ⟨m + 1, by omega, by go_num, by rw [← HT.out, HE3.out], trivial⟩
                  case measure => simp [intOf]; omega
                · have hmn : m = q := by omega
                  subst hmn
                  go_wp2
                  go_roundw
                  case rel => exact ⟨j + 1, by omega, by go_num, by rw [HE2.out, Int.toNat_natCast, HZ.out], trivial⟩
                  case measure => simp [intOf]; omega
            · have hj7 : j = 7 := by omega
              subst hj7
              have hvr := valN_range xs vs x 7
              obtain ⟨v, hv⟩ : ∃ v, v = valN xs vs x 7 := ⟨_, rfl⟩
              rw [← hv] at hvr HEE ⊢
              obtain ⟨hv0, hv1⟩ := hvr
              obtain ⟨s, hsd⟩ : ∃ s, s = y % 32003 := ⟨_, rfl⟩
              have hs0 : 0 ≤ s := by omega
              have hs1 : s < 32003 := by omega
              have HSD := Lib.hid hsd
              rw [← hsd]
              have hmod : (s + v).tmod 32003 = (s + v) % 32003 := tmod_pos (by omega)
              clear hv hsd
              go_wp2
              go_roundw
              case rel => exact ⟨k + 1, by omega, by go_num, by rw [HEE.out, HSD.out]; congr 1; omega, trivial⟩
              case measure => simp [intOf]; omega
        · have hkn : k = n := by omega
          subst hkn
          go_wp2
          go_ret
          exact ⟨ret_int (by rw [HE.out, HL.out.1]), HD1.out⟩
    · have h7' : ¬ (n' : Int) = 7 := by omega
      have HE := Lib.hid (evalPoly_no (ts := ts) (vs := vs) (.inr (by rw [hs'.1]; exact h7)))
      clear hP hu
      go_enter Try.func35, Try.ntmps35
      go_wp2_with fail
      refine HP.out.mono ?_
      rintro r w1 ⟨rfl, hd1⟩
      go_wp2
      go_ret
      exact ⟨ret_int HE.out.symm, hd1⟩

set_option maxHeartbeats 1600000 in
theorem implEvaluate_any (A A' : Option Addr) (n c n' c' : Nat) (ts : List Tm) (vs : List Int) (w : World) (hs : TS w A n ts) (hs' : SI w A' n' vs) (hn : n ≤ 1099511627776) (hne : ∀ k, k < n → (tm ts k).1.length ≤ 1099511627776) (hn' : n' ≤ 1099511627776) :
    Calls Try.prog 36 #[.slice A n c, .slice A' n' c'] w fun r w' => r = .returned (.int .i64 (evalPoly ts vs)) ∧ Below w.heap.size w w' := by
  have HL := Lib.hid (And.intro hs.1 hs'.1)
  have hP := implPolyOk_any A n c ts w hs hn hne
  cases hu : polyB ts with
  | false =>
    rw [hu] at hP
    have HP := Lib.hid hP
    have HE := Lib.hid (evalPoly_no (vs := vs) (.inl hu))
    clear hP hu
    go_enter Try.func36, Try.ntmps36
    go_wp2_with fail
    refine HP.out.mono ?_
    rintro r w1 ⟨rfl, hd1⟩
    go_wp2
    go_ret
    exact ⟨ret_int HE.out.symm, hd1⟩
  | true =>
    rw [hu] at hP
    have HP := Lib.hid hP
    by_cases h7 : n' = 7
    · subst h7
      have HE := Lib.hid (evalPoly_yes hu hs'.1)
      have HU := Lib.hid hu
      have hlen : n ≤ 600 := by have := polyB_len hu; have := hs.1; omega
      clear hP hu
      go_enter Try.func36, Try.ntmps36
      go_wp2_with fail
      refine HP.out.mono ?_
      rintro r w1 ⟨rfl, hd1⟩
      go_wp2
      go_loopw [5, 18] (fun v i wr => ∃ k : Nat, k ≤ n ∧ i = .int .i64 k ∧ v = .int .i64 (sumV ts vs k) ∧ Below w.heap.size w wr)
        (fun _ i _ => n - (intOf i).toNat)
      case atStart => exact ⟨0, Nat.zero_le _, rfl, rfl, hd1⟩
      case round =>
        obtain ⟨k, hk, rfl, rfl, hbel⟩ := hrel
        have HB := Lib.hid hbel
        have hts := hs.below hbel (Nat.le_refl _)
        have hvs := hs'.below hbel (Nat.le_refl _)
        have hsr := sumV_range ts vs k
        clear hbel hs hs' hd1 hne
        by_cases hlt : k < n
        · have hlI : (k : Int) < (n : Int) := by omega
          obtain ⟨b, o, A2, n2, c2, rfl, hb, hc0, hc1, hsi, hnc, hnil⟩ := hts.at_ hlt
          have hg := (goodT_iff _).1 (polyB_good HU.out (k := k) (by rw [HL.out.1]; exact hlt))
          obtain rfl : n2 = 7 := by rw [← hsi.1]; exact hg.1
          have e : sumV ts vs (k + 1) = sumV ts vs k + valN (tm ts k).1 vs (tm ts k).2 7 := rfl
          have hvr := valN_range (tm ts k).1 vs (tm ts k).2 7
          obtain ⟨x, hx⟩ : ∃ x, x = (tm ts k).2 := ⟨_, rfl⟩
          rw [← hx] at hc1 e hvr
          have hS := valueAt_any A2 A' c2 c' (tm ts k).1 vs x (wr.alloc (.cells #[.slice A2 7 c2, .int .i64 x] 51)) (hsi.alloc _) (hvs.alloc _) hg.2.1
          obtain ⟨y, hy⟩ : ∃ y, y = sumV ts vs k := ⟨_, rfl⟩
          obtain ⟨v, hv⟩ : ∃ v, v = valN (tm ts k).1 vs x 7 := ⟨_, rfl⟩
          rw [← hv] at hS hvr
          rw [← hv, ← hy] at e
          rw [← hy] at hsr ⊢
          obtain ⟨hv0, hv1⟩ := hvr
          obtain ⟨hy0, hy1⟩ := hsr
          have HEE := Lib.hid e
          have HS := Lib.hid hS
          have hy2 : y ≤ 19201800 := by omega
          clear hts hvs hsi hnil hg e hx hy hv hS hy1
          go_wp2_with fail
          refine HS.out.mono ?_
          rintro r w2 ⟨rfl, hb2⟩
          have HB2 := Lib.hid ((HB.out.alloc HB.out.size (.cells #[.slice A2 7 c2, .int .i64 x] 51)).trans (hb2.mono (by have := HB.out.size; simp; omega)))
          clear hb2
          go_wp2
          go_roundw
          case rel => exact ⟨k + 1, by omega, by go_num, by rw [HEE.out], HB2.out⟩
          case measure => simp [intOf]; omega
        · have hkn : k = n := by omega
          subst hkn
          go_wp2_with fail
          refine (moduloPrime_any _ _).mono ?_
          rintro r w2 ⟨rfl, rfl⟩
          go_wp2
          go_ret
          exact ⟨ret_int (by rw [HE.out, HL.out.1]), HB.out⟩
    · have h7' : ¬ (n' : Int) = 7 := by omega
      have HE := Lib.hid (evalPoly_no (ts := ts) (vs := vs) (.inr (by rw [hs'.1]; exact h7)))
      clear hP hu
      go_enter Try.func36, Try.ntmps36
      go_wp2_with fail
      refine HP.out.mono ?_
      rintro r w1 ⟨rfl, hd1⟩
      go_wp2
      go_ret
      exact ⟨ret_int HE.out.symm, hd1⟩
end Go.Proofs.Ythpgahlfkmkigaa
