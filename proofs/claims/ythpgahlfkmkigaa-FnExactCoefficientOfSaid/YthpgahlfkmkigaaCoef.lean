/-
  The coefficient at given exponents, on both sides. Conditions: lengths below 2^40.
-/
import Derived.Test.YthpgahlfkmkigaaTermEq
namespace Go.Proofs.Ythpgahlfkmkigaa
open Go.RowKit

set_option maxHeartbeats 400000 in
/-- l1Same: are the two lists one. -/
theorem l1Same_any (A A' : Option Addr) (n c n' c' : Nat) (xs ys : List Int) (w : World) (hs : SI w A n xs) (hs' : SI w A' n' ys) (hn : n ≤ 1099511627776) (hn' : n' ≤ 1099511627776) :
    Calls Try.prog 63 #[.slice A n c, .slice A' n' c'] w fun e w' => e = .returned (.bool (eqL xs ys)) ∧ Drawn w w' := by
  have hl := hs.1
  have hl' := hs'.1
  by_cases hne : n = n'
  · subst hne
    go_enter Try.func63, Try.ntmps63
    go_wp2
    go_loopw [5] (fun i wr => ∃ k : Nat, k ≤ n ∧ i = .int .i64 k ∧ Drawn w wr ∧ ∀ j, j < k → nth xs j = nth ys j)
      (fun i _ => n - (intOf i).toNat)
    case atStart => exact ⟨0, Nat.zero_le _, rfl, Drawn.refl _, fun j hj => absurd hj (by omega)⟩
    case round =>
      obtain ⟨k, hk, rfl, hD, hall⟩ := hrel
      have HA := Lib.hid hall
      have hs := hD.si hs
      have hs' := hD.si hs'
      have HD := Lib.hid hD
      clear hall hD
      by_cases hlt : k < n
      · obtain ⟨b, o, rfl, hb, hc⟩ := hs.at_ (by omega)
        obtain ⟨b', o', rfl, hb', hc'⟩ := hs'.at_ (by omega)
        have hc1 := hc k hlt
        have hc1' := hc' k hlt
        clear hc hc' hs hs' hl hl'
        by_cases heq : nth xs k = nth ys k
        · have HE := Lib.hid heq
          rw [← heq] at hc1'
          clear heq
          obtain ⟨x, hx⟩ : ∃ x, x = nth xs k := ⟨_, rfl⟩
          rw [← hx] at hc1 hc1'
          clear hx
          have hlI : (k : Int) < (n : Int) := by omega
          go_wp2_with fail
          go_quiet (fail)
          go_wp2
          go_roundw
          case rel => exact ⟨k + 1, by omega, by go_num, HD.out.drewN _, fun j hj => by
            rcases Nat.lt_or_ge j k with h | h
            · exact HA.out j h
            · obtain rfl : j = k := by omega
              exact HE.out⟩
          case measure => simp [intOf]; omega
        · have HE := Lib.hid heq
          obtain ⟨x, hx⟩ : ∃ x, x = nth xs k := ⟨_, rfl⟩
          obtain ⟨y, hy⟩ : ∃ y, y = nth ys k := ⟨_, rfl⟩
          rw [← hx] at hc1 heq
          rw [← hy] at hc1' heq
          clear hx hy
          have hlI : (k : Int) < (n : Int) := by omega
          have hb : (x != y) = true := by simpa using heq
          clear heq
          go_wp2_with fail
          go_quiet (fail)
          go_wp2
          go_ret
          exact ⟨ret_bool (eqL_ne HE.out).symm, HD.out.drewN _⟩
      · have hkn : k = n := by omega
        subst hkn
        go_wp2
        go_ret
        exact ⟨ret_bool (eqL_all (by omega) (by rw [hl]; exact HA.out)).symm, HD.out⟩
  · have hne' : ¬ (n : Int) = (n' : Int) := by omega
    go_enter Try.func63, Try.ntmps63
    go_wp2
    go_ret
    exact ⟨ret_bool (eqL_len (by omega)).symm, Drawn.refl _⟩

set_option maxHeartbeats 400000 in
/-- slices.Equal: are the two lists one. -/
theorem slicesEqual_any (A A' : Option Addr) (n c n' c' : Nat) (xs ys : List Int) (w : World) (hs : SI w A n xs) (hs' : SI w A' n' ys) (hn : n ≤ 1099511627776) (hn' : n' ≤ 1099511627776) :
    Calls Try.prog 64 #[.slice A n c, .slice A' n' c'] w fun e w' => e = .returned (.bool (eqL xs ys)) ∧ Drawn w w' := by
  have hl := hs.1
  have hl' := hs'.1
  by_cases hne : n = n'
  · subst hne
    go_enter Try.func64, Try.ntmps64
    go_wp2
    go_loopw [13] (fun i wr => ∃ k : Nat, k ≤ n ∧ i = .int .i64 k ∧ Drawn w wr ∧ ∀ j, j < k → nth xs j = nth ys j)
      (fun i _ => n - (intOf i).toNat)
    case atStart => exact ⟨0, Nat.zero_le _, rfl, Drawn.refl _, fun j hj => absurd hj (by omega)⟩
    case round =>
      obtain ⟨k, hk, rfl, hD, hall⟩ := hrel
      have HA := Lib.hid hall
      have hs := hD.si hs
      have hs' := hD.si hs'
      have HD := Lib.hid hD
      clear hall hD
      by_cases hlt : k < n
      · obtain ⟨b, o, rfl, hb, hc⟩ := hs.at_ (by omega)
        obtain ⟨b', o', rfl, hb', hc'⟩ := hs'.at_ (by omega)
        have hc1 := hc k hlt
        have hc1' := hc' k hlt
        clear hc hc' hs hs' hl hl'
        by_cases heq : nth xs k = nth ys k
        · have HE := Lib.hid heq
          rw [← heq] at hc1'
          clear heq
          obtain ⟨x, hx⟩ : ∃ x, x = nth xs k := ⟨_, rfl⟩
          rw [← hx] at hc1 hc1'
          clear hx
          have hlI : (k : Int) < (n : Int) := by omega
          go_wp2_with fail
          go_quiet (fail)
          go_wp2
          go_roundw
          case rel => exact ⟨k + 1, by omega, by go_num, HD.out.drewN _, fun j hj => by
            rcases Nat.lt_or_ge j k with h | h
            · exact HA.out j h
            · obtain rfl : j = k := by omega
              exact HE.out⟩
          case measure => simp [intOf]; omega
        · have HE := Lib.hid heq
          obtain ⟨x, hx⟩ : ∃ x, x = nth xs k := ⟨_, rfl⟩
          obtain ⟨y, hy⟩ : ∃ y, y = nth ys k := ⟨_, rfl⟩
          rw [← hx] at hc1 heq
          rw [← hy] at hc1' heq
          clear hx hy
          have hlI : (k : Int) < (n : Int) := by omega
          have hb : (x != y) = true := by simpa using heq
          clear heq
          go_wp2_with fail
          go_quiet (fail)
          go_wp2
          go_ret
          exact ⟨ret_bool (eqL_ne HE.out).symm, HD.out.drewN _⟩
      · have hkn : k = n := by omega
        subst hkn
        go_wp2
        go_ret
        exact ⟨ret_bool (eqL_all (by omega) (by rw [hl]; exact HA.out)).symm, HD.out⟩
  · have hne' : ¬ (n : Int) = (n' : Int) := by omega
    go_enter Try.func64, Try.ntmps64
    go_wp2
    go_ret
    exact ⟨ret_bool (eqL_len (by omega)).symm, Drawn.refl _⟩


/-- The number of the first term with the exponents e. -/
def coefOf : List Tm → List Int → Int
  | [], _ => 0
  | t :: r, e => if t.1 = e then t.2 else coefOf r e
theorem tm_zero (t : Tm) (r : List Tm) : tm (t :: r) 0 = t := rfl
theorem tm_succ (t : Tm) (r : List Tm) (k : Nat) : tm (t :: r) (k + 1) = tm r k := by simp [tm, List.getD]
theorem coef_none {e : List Int} : ∀ {ts : List Tm}, (∀ j, j < ts.length → ¬ (tm ts j).1 = e) → coefOf ts e = 0
  | [], _ => rfl
  | t :: r, h => by
    have h0 := h 0 (by simp)
    rw [tm_zero] at h0
    unfold coefOf
    rw [if_neg h0]
    exact coef_none fun j hj => by have := h (j + 1) (by simp; omega); rwa [tm_succ] at this
theorem coef_hit {e : List Int} : ∀ {ts : List Tm} {k : Nat}, k < ts.length → (∀ j, j < k → ¬ (tm ts j).1 = e) → (tm ts k).1 = e → coefOf ts e = (tm ts k).2
  | [], k, hk, _, _ => absurd hk (by simp)
  | t :: r, 0, _, _, he => by
    rw [tm_zero] at he ⊢
    unfold coefOf
    rw [if_pos he]
  | t :: r, k + 1, hk, h, he => by
    have h0 := h 0 (by omega)
    rw [tm_zero] at h0
    rw [tm_succ] at he ⊢
    unfold coefOf
    rw [if_neg h0]
    exact coef_hit (by simpa using hk) (fun j hj => by have := h (j + 1) (by omega); rwa [tm_succ] at this) he

set_option maxHeartbeats 800000 in
theorem specCoefficient_any (A A' : Option Addr) (n c n' c' : Nat) (ts : List Tm) (e : List Int) (w : World) (hs : TS w A n ts) (hs' : SI w A' n' e) (hn : n ≤ 1099511627776) (hne : ∀ k, k < n → (tm ts k).1.length ≤ 1099511627776) (hn' : n' ≤ 1099511627776) :
    Calls Try.prog 33 #[.slice A n c, .slice A' n' c'] w fun r w' => r = .returned (.int .i64 (coefOf ts e)) ∧ Drawn w w' := by
  have HL := Lib.hid hs.1
  have HNE := Lib.hid hne
  clear hne
  go_enter Try.func33, Try.ntmps33
  go_wp2
  go_loopw [5] (fun i wr => ∃ k : Nat, k ≤ n ∧ i = .int .i64 k ∧ (∀ j, j < k → ¬ (tm ts j).1 = e) ∧ Drawn w wr)
    (fun i _ => n - (intOf i).toNat)
  case atStart => exact ⟨0, Nat.zero_le _, rfl, fun j hj => absurd hj (by omega), Drawn.refl _⟩
  case round =>
    obtain ⟨k, hk, rfl, hall, hD⟩ := hrel
    have HA := Lib.hid hall
    have HD := Lib.hid hD
    have hts := hs.drawn hD
    have hse := hD.si hs'
    clear hall hD hs hs'
    by_cases hlt : k < n
    · have hlI : (k : Int) < (n : Int) := by omega
      obtain ⟨b, o, A2, n2, c2, rfl, hb, hc0, hc1, hsi, hnc, hnil⟩ := hts.at_ hlt
      have hl2 : n2 ≤ 1099511627776 := by have := HNE.out k hlt; have := hsi.1; omega
      obtain ⟨x, hx⟩ : ∃ x, x = (tm ts k).2 := ⟨_, rfl⟩
      rw [← hx] at hc1
      have HX := Lib.hid hx
      have hS := l1Same_any A2 A' n2 c2 n' c' (tm ts k).1 e wr hsi hse hl2 hn'
      obtain ⟨q, hq⟩ : ∃ q, q = eqL (tm ts k).1 e := ⟨_, rfl⟩
      rw [← hq] at hS
      have HQ := Lib.hid hq
      have HS := Lib.hid hS
      clear hts hse hsi hx hS hq hnil
      go_wp2_with fail
      refine HS.out.mono ?_
      rintro r w2 ⟨rfl, hD2⟩
      have hcx : w2.cell? ⟨b, o + k * 2 + 1, none⟩ = some (.int .i64 x) := by obtain ⟨m, rfl⟩ := hD2; exact hc1
      have HD2 := Lib.hid (HD.out.trans hD2)
      clear hD2 hc0 hc1
      cases q with
      | true =>
        go_wp2
        go_ret
        have he : (tm ts k).1 = e := of_decide_eq_true HQ.out.symm
        exact ⟨ret_int (by rw [coef_hit (by rw [HL.out]; exact hlt) HA.out he, HX.out]), HD2.out⟩
      | false =>
        go_wp2
        go_roundw
        case rel => exact ⟨k + 1, by omega, by go_num, fun j hj => by
          rcases Nat.lt_or_ge j k with h | h
          · exact HA.out j h
          · obtain rfl : j = k := by omega
            exact of_decide_eq_false HQ.out.symm, HD2.out⟩
        case measure => simp [intOf]; omega
    · have hkn : k = n := by omega
      subst hkn
      go_wp2
      go_ret
      exact ⟨ret_int (coef_none (by rw [HL.out]; exact HA.out)).symm, HD.out⟩

set_option maxHeartbeats 800000 in
theorem implCoefficient_any (A A' : Option Addr) (n c n' c' : Nat) (ts : List Tm) (e : List Int) (w : World) (hs : TS w A n ts) (hs' : SI w A' n' e) (hn : n ≤ 1099511627776) (hne : ∀ k, k < n → (tm ts k).1.length ≤ 1099511627776) (hn' : n' ≤ 1099511627776) :
    Calls Try.prog 34 #[.slice A n c, .slice A' n' c'] w fun r w' => r = .returned (.int .i64 (coefOf ts e)) ∧ Below w.heap.size w w' := by
  have HL := Lib.hid hs.1
  have HNE := Lib.hid hne
  clear hne
  go_enter Try.func34, Try.ntmps34
  go_wp2
  go_loopw [9] (fun i wr => ∃ k : Nat, k ≤ n ∧ i = .int .i64 k ∧ (∀ j, j < k → ¬ (tm ts j).1 = e) ∧ Below w.heap.size w wr)
    (fun i _ => n - (intOf i).toNat)
  case atStart => exact ⟨0, Nat.zero_le _, rfl, fun j hj => absurd hj (by omega), Below.refl _ _⟩
  case round =>
    obtain ⟨k, hk, rfl, hall, hbel⟩ := hrel
    have HA := Lib.hid hall
    have HB := Lib.hid hbel
    have hts := hs.below hbel (Nat.le_refl _)
    have hse := hs'.below hbel (Nat.le_refl _)
    clear hall hbel hs hs'
    by_cases hlt : k < n
    · have hlI : (k : Int) < (n : Int) := by omega
      obtain ⟨b, o, A2, n2, c2, rfl, hb, hc0, hc1, hsi, hnc, hnil⟩ := hts.at_ hlt
      have hl2 : n2 ≤ 1099511627776 := by have := HNE.out k hlt; have := hsi.1; omega
      obtain ⟨x, hx⟩ : ∃ x, x = (tm ts k).2 := ⟨_, rfl⟩
      rw [← hx] at hc1
      have HX := Lib.hid hx
      have hS := slicesEqual_any A2 A' n2 c2 n' c' (tm ts k).1 e (wr.alloc (.cells #[.slice A2 n2 c2, .int .i64 x] 51)) (hsi.alloc _) (hse.alloc _) hl2 hn'
      obtain ⟨q, hq⟩ : ∃ q, q = eqL (tm ts k).1 e := ⟨_, rfl⟩
      rw [← hq] at hS
      have HQ := Lib.hid hq
      have HS := Lib.hid hS
      clear hts hse hsi hx hS hq hnil
      go_wp2_with fail
      refine HS.out.mono ?_
      rintro r w2 ⟨rfl, m, rfl⟩
      have HB2 : Hid (Below w.heap.size w ((wr.alloc (.cells #[.slice A2 n2 c2, .int .i64 x] 51)).drewN m)) := Lib.hid ((HB.out.alloc HB.out.size _).drawnN m)
      cases q with
      | true =>
        go_wp2
        go_ret
        have he : (tm ts k).1 = e := of_decide_eq_true HQ.out.symm
        exact ⟨ret_int (by rw [coef_hit (by rw [HL.out]; exact hlt) HA.out he, HX.out]), HB2.out⟩
      | false =>
        go_wp2
        go_roundw
        case rel => exact ⟨k + 1, by omega, by go_num, fun j hj => by
          rcases Nat.lt_or_ge j k with h | h
          · exact HA.out j h
          · obtain rfl : j = k := by omega
            exact of_decide_eq_false HQ.out.symm, HB2.out⟩
        case measure => simp [intOf]; omega
    · have hkn : k = n := by omega
      subst hkn
      go_wp2
      go_ret
      exact ⟨ret_int (coef_none (by rw [HL.out]; exact HA.out)).symm, HB.out⟩
end Go.Proofs.Ythpgahlfkmkigaa
