/-
  The order of permutations: the specification's side. Conditions: lengths below 2^40.
-/
import Derived.Test.YtjegngkemdibcabSpecF
namespace Go.Proofs.Ytjegngkemdibcab
open Go.RowKit

/-- Does the first list keep the ranks of the second. -/
def belowP (us vs : List Int) (n : Nat) : Prop := ∀ r, r ≤ n → ∀ c : Nat, c ≤ n → rankN vs (c : Int) r ≤ rankN us (c : Int) r
def belowB (us vs : List Int) (n : Nat) : Bool := (List.range (n + 1)).all fun r => (List.range (n + 1)).all fun (c : Nat) => decide (rankN vs (c : Int) r ≤ rankN us (c : Int) r)
theorem belowB_iff (us vs : List Int) (n : Nat) : belowB us vs n = true ↔ belowP us vs n := by
  simp [belowB, belowP, Nat.lt_succ_iff]
theorem belowB_true {us vs : List Int} {n : Nat} (h : belowP us vs n) : belowB us vs n = true := (belowB_iff us vs n).2 h
theorem belowB_false {us vs : List Int} {n : Nat} (h : ¬ belowP us vs n) : belowB us vs n = false := by
  cases hb : belowB us vs n with
  | false => rfl
  | true => exact absurd ((belowB_iff us vs n).1 hb) h

set_option maxHeartbeats 1000000 in
theorem l1Below2_any (A A' : Option Addr) (n c c' : Nat) (us vs : List Int) (w : World) (hs : SI w A n us) (hs' : SI w A' n vs) (hn : n ≤ 1099511627776) :
    Calls Try.prog 57 #[.slice A n c, .slice A' n c'] w fun e w' => e = .returned (.bool (belowB us vs n)) ∧ Drawn w w' := by
  go_enter Try.func57, Try.ntmps57
  go_wp2
  go_loopw [5] (fun i wr => ∃ r : Nat, r ≤ n + 1 ∧ i = .int .i64 r ∧ (∀ r', r' < r → ∀ x : Nat, x ≤ n → rankN vs (x : Int) r' ≤ rankN us (x : Int) r') ∧ Drawn w wr)
    (fun i _ => n + 1 - (intOf i).toNat)
  case atStart => exact ⟨0, Nat.zero_le _, rfl, fun r' h => absurd h (by omega), Drawn.refl _⟩
  case round =>
    obtain ⟨r, hr, rfl, hall, hD⟩ := hrel
    have HA := Lib.hid hall
    have HD := Lib.hid hD
    clear hall hD
    by_cases hlt : r ≤ n
    · go_wp2
      go_loopw [6] (fun i wr => ∃ x : Nat, x ≤ n + 1 ∧ i = .int .i64 x ∧ (∀ x' : Nat, x' < x → rankN vs (x' : Int) r ≤ rankN us (x' : Int) r) ∧ Drawn w wr)
        (fun i _ => n + 1 - (intOf i).toNat)
      case atStart => exact ⟨0, Nat.zero_le _, rfl, fun x' h => absurd h (by omega), HD.out⟩
      case round =>
        obtain ⟨x, hx, rfl, hall2, hD2⟩ := hrel
        have HA2 := Lib.hid hall2
        have HD2 := Lib.hid hD2
        clear hall2 hD2
        by_cases hxl : x ≤ n
        · go_wp2_with fail
          refine (l1Rank_any A n c r us (x : Int) _ (HD2.out.si hs) hlt hn).mono ?_
          rintro e w2 ⟨rfl, hd2⟩
          have HD3 := Lib.hid (HD2.out.trans hd2)
          clear hd2
          go_wp2_with fail
          refine (l1Rank_any A' n c' r vs (x : Int) _ (HD3.out.si hs') hlt hn).mono ?_
          rintro e w3 ⟨rfl, hd3⟩
          have HD4 := Lib.hid (HD3.out.trans hd3)
          clear hd3
          obtain ⟨p, hp⟩ : ∃ p, p = rankN us (x : Int) r := ⟨_, rfl⟩
          obtain ⟨q, hq⟩ : ∃ q, q = rankN vs (x : Int) r := ⟨_, rfl⟩
          rw [← hp, ← hq]
          have HP := Lib.hid hp
          have HQ := Lib.hid hq
          clear hp hq
          by_cases hpq : p < q
          · have hpI : (p : Int) < (q : Int) := by omega
            go_wp2
            go_ret
            refine ⟨ret_bool (belowB_false (fun h => ?_)).symm, HD4.out⟩
            have := h r hlt x hxl
            have e1 := HP.out
            have e2 := HQ.out
            omega
          · have hpI : ¬ (p : Int) < (q : Int) := by omega
            go_wp2
            go_roundw
            case rel => exact ⟨x + 1, by omega, by go_num, fun x' h => by
              rcases Nat.lt_or_ge x' x with h1 | h1
              · exact HA2.out x' h1
              · obtain rfl : x' = x := by omega
                have e1 := HP.out
                have e2 := HQ.out
                omega, HD4.out⟩
            case measure => simp [intOf]; omega
        · have hxn : x = n + 1 := by omega
          subst hxn
          go_wp2
          go_roundw
          case rel => exact ⟨r + 1, by omega, by go_num, fun r' h x' hx' => by
            rcases Nat.lt_or_ge r' r with h1 | h1
            · exact HA.out r' h1 x' hx'
            · obtain rfl : r' = r := by omega
              exact HA2.out x' (by omega), HD2.out⟩
          case measure => simp [intOf]; omega
    · have hrn : r = n + 1 := by omega
      subst hrn
      go_wp2
      go_ret
      exact ⟨ret_bool (belowB_true (fun r' h x hx => HA.out r' (by omega) x hx)).symm, HD.out⟩
/-- What IsBelowPerm answers. -/
def belowPerm (us vs : List Int) : Bool := isPermB us && (isPermB vs && (decide (us.length = vs.length) && belowB us vs us.length))
theorem belowPerm_1 {us vs : List Int} (h : isPermB us = false) : belowPerm us vs = false := by unfold belowPerm; rw [h]; rfl
theorem belowPerm_2 {us vs : List Int} (h : isPermB vs = false) : belowPerm us vs = false := by unfold belowPerm; rw [h]; simp
theorem belowPerm_3 {us vs : List Int} (h : us.length ≠ vs.length) : belowPerm us vs = false := by unfold belowPerm; simp [h]
theorem belowPerm_4 {us vs : List Int} (h1 : isPermB us = true) (h2 : isPermB vs = true) (h3 : us.length = vs.length) : belowPerm us vs = belowB us vs us.length := by unfold belowPerm; simp [h1, h2, h3]
set_option maxHeartbeats 800000 in
theorem specBelow_any (A A' : Option Addr) (n c n' c' : Nat) (us vs : List Int) (w : World) (hs : SI w A n us) (hs' : SI w A' n' vs) (hnc : n ≤ c) (hnc' : n' ≤ c') (hn : n ≤ 1099511627776) (hn' : n' ≤ 1099511627776) :
    Calls Try.prog 25 #[.slice A n c, .slice A' n' c'] w fun e w' => e = .returned (.bool (belowPerm us vs)) ∧ Drawn w w' := by
  have hl := hs.1
  have hl' := hs'.1
  cases hu : isPermB us with
  | false =>
    have HE := Lib.hid (belowPerm_1 (vs := vs) hu)
    have HU := Lib.hid hu
    clear hu
    go_enter Try.func25, Try.ntmps25
    go_wp2_with fail
    refine (specIsPerm_is c HU.out hs hnc hn).mono ?_
    rintro e w1 ⟨rfl, hd1⟩
    go_wp2
    go_ret
    exact ⟨ret_bool HE.out.symm, hd1⟩
  | true =>
    have HU := Lib.hid hu
    clear hu
    cases hv : isPermB vs with
    | false =>
      have HE := Lib.hid (belowPerm_2 (us := us) hv)
      have HV := Lib.hid hv
      clear hv
      go_enter Try.func25, Try.ntmps25
      go_wp2_with fail
      refine (specIsPerm_is c HU.out hs hnc hn).mono ?_
      rintro e w1 ⟨rfl, hd1⟩
      go_wp2_with fail
      refine (specIsPerm_is c' HV.out (hd1.si hs') hnc' hn').mono ?_
      rintro e w2 ⟨rfl, hd2⟩
      go_wp2
      go_ret
      exact ⟨ret_bool HE.out.symm, hd1.trans hd2⟩
    | true =>
      have HV := Lib.hid hv
      clear hv
      by_cases hnn : n = n'
      · subst hnn
        have HE := Lib.hid (belowPerm_4 HU.out HV.out (by omega))
        go_enter Try.func25, Try.ntmps25
        go_wp2_with fail
        refine (specIsPerm_is c HU.out hs hnc hn).mono ?_
        rintro e w1 ⟨rfl, hd1⟩
        go_wp2_with fail
        refine (specIsPerm_is c' HV.out (hd1.si hs') hnc' hn').mono ?_
        rintro e w2 ⟨rfl, hd2⟩
        go_wp2_with fail
        refine (l1Below2_any A A' n c c' us vs _ ((hd1.trans hd2).si hs) ((hd1.trans hd2).si hs') hn).mono ?_
        rintro e w3 ⟨rfl, hd3⟩
        go_wp2
        go_ret
        exact ⟨ret_bool (by rw [HE.out, hl]), (hd1.trans hd2).trans hd3⟩
      · have hne' : ¬ (n : Int) = (n' : Int) := by omega
        have HE := Lib.hid (belowPerm_3 (us := us) (vs := vs) (by omega))
        go_enter Try.func25, Try.ntmps25
        go_wp2_with fail
        refine (specIsPerm_is c HU.out hs hnc hn).mono ?_
        rintro e w1 ⟨rfl, hd1⟩
        go_wp2_with fail
        refine (specIsPerm_is c' HV.out (hd1.si hs') hnc' hn').mono ?_
        rintro e w2 ⟨rfl, hd2⟩
        go_wp2
        go_ret
        exact ⟨ret_bool HE.out.symm, hd1.trans hd2⟩
end Go.Proofs.Ytjegngkemdibcab
