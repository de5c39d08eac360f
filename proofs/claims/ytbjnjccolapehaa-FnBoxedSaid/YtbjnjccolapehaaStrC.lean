/-
  A list of numbers all of which are 0 or 1: the program's tests. Conditions: lengths below 2^40.
-/
import Derived.Test.YtbjnjccolapehaaStrM
namespace Go.Proofs.Ytbjnjccolapehaa
open Go.RowKit

set_option maxHeartbeats 400000 in
theorem StrFn_any (x : Int) (w : World) : Calls Try.prog 49 #[.int .i64 x] w fun r w' => r = .returned (.bool (decide (¬ (0 ≤ x ∧ x ≤ 1)))) ∧ w = w' := by
  by_cases h0 : x = 0
  · subst h0
    go_enter Try.func49, Try.ntmps49
    go_wp2
    go_ret
    exact ⟨ret_bool (by decide), rfl⟩
  · by_cases h1 : x = 1
    · subst h1
      go_enter Try.func49, Try.ntmps49
      go_wp2
      go_ret
      exact ⟨ret_bool (by decide), rfl⟩
    · have HE : Hid (true = decide (¬ (0 ≤ x ∧ x ≤ 1))) := Lib.hid (decide_eq_true (by omega)).symm
      have hb0 : (x != 0) = true := by simpa using h0
      have hb1 : (x != 1) = true := by simpa using h1
      clear h0 h1
      go_enter Try.func49, Try.ntmps49
      go_wp2
      go_ret
      exact ⟨ret_bool HE.out, rfl⟩
set_option maxHeartbeats 800000 in
theorem indexStr_any (A : Option Addr) (n c : Nat) (xs : List Int) (w : World) (hs : SI w A n xs) (hn : n ≤ 1099511627776) :
    Calls Try.prog 57 #[.slice A n c, .func (.func 49) #[] #[]] w fun r w' =>
      ∃ i : Int, r = .returned (.int .i64 i) ∧ (i < 0 ∧ (∀ k, k < n → (0 ≤ nth xs k ∧ nth xs k ≤ 1)) ∨ 0 ≤ i ∧ ∃ k, k < n ∧ ¬ (0 ≤ nth xs k ∧ nth xs k ≤ 1)) ∧ Drawn w w' := by
  go_enter Try.func57, Try.ntmps57
  go_wp2
  go_loopw [8] (fun i wr => ∃ k : Nat, k ≤ n ∧ i = .int .i64 k ∧ Drawn w wr ∧ ∀ j, j < k → (0 ≤ nth xs j ∧ nth xs j ≤ 1))
    (fun i _ => n - (intOf i).toNat)
  case atStart => exact ⟨0, Nat.zero_le _, rfl, Drawn.refl _, fun j hj => absurd hj (by omega)⟩
  case round =>
    obtain ⟨k, hk, rfl, hD, hall⟩ := hrel
    have HA := Lib.hid hall
    have HDR := Lib.hid hD
    have hs := hD.si hs
    clear hall hD
    by_cases hlt : k < n
    · have hlI : (k : Int) < (n : Int) := by omega
      obtain ⟨b, o, rfl, hb, hc⟩ := hs.at_ (by omega)
      have hc1 := hc k hlt
      obtain ⟨x, hx⟩ : ∃ x, x = nth xs k := ⟨_, rfl⟩
      rw [← hx] at hc1
      have HX := Lib.hid hx
      clear hc hx hs
      by_cases hg : (0 ≤ x ∧ x ≤ 1)
      · have HF : Hid (∀ w, Calls Try.prog 49 #[.int .i64 x] w fun r w' => r = .returned (.bool false) ∧ w = w') := Lib.hid (fun w => by
          have := StrFn_any x w
          rwa [decide_eq_false (fun h => h hg)] at this)
        have HG := Lib.hid hg
        clear hg
        go_wp2_with (go_at_call 49; refine (HF.out _).mono ?_; rintro r w2 ⟨rfl, rfl⟩)
        go_roundw
        case rel => exact ⟨k + 1, by omega, by go_num, HDR.out, fun j hj => by
          rcases Nat.lt_or_ge j k with h | h
          · exact HA.out j h
          · obtain rfl : j = k := by omega
            rw [← HX.out]; exact HG.out⟩
        case measure => simp [intOf]; omega
      · have HF : Hid (∀ w, Calls Try.prog 49 #[.int .i64 x] w fun r w' => r = .returned (.bool true) ∧ w = w') := Lib.hid (fun w => by
          have := StrFn_any x w
          rwa [decide_eq_true hg] at this)
        have HG := Lib.hid hg
        clear hg
        go_wp2_with (go_at_call 49; refine (HF.out _).mono ?_; rintro r w2 ⟨rfl, rfl⟩)
        go_ret
        exact ⟨(k : Int), rfl, .inr ⟨by omega, k, hlt, by rw [← HX.out]; exact HG.out⟩, HDR.out⟩
    · have hkn : k = n := by omega
      subst hkn
      go_wp2
      go_ret
      exact ⟨-1, rfl, .inl ⟨by omega, HA.out⟩, HDR.out⟩
set_option maxHeartbeats 400000 in
theorem containsStr_any (A : Option Addr) (n c : Nat) (xs : List Int) (w : World) (hs : SI w A n xs) (hn : n ≤ 1099511627776) :
    Calls Try.prog 51 #[.slice A n c, .func (.func 49) #[] #[]] w fun r w' =>
      ∃ b : Bool, r = .returned (.bool b) ∧ (b = false ↔ ∀ k, k < n → (0 ≤ nth xs k ∧ nth xs k ≤ 1)) ∧ Drawn w w' := by
  have HC := Lib.hid (indexStr_any A n c xs w hs hn)
  clear hs
  go_enter Try.func51, Try.ntmps51
  go_wp2_with (go_at_call 57; refine HC.out.mono ?_; rintro r w2 ⟨i, rfl, hi, hd⟩; have HI := Lib.hid hi; have HD := Lib.hid hd; clear hi hd)
  go_ret
  refine ⟨_, rfl, ?_, HD.out⟩
  rcases HI.out with ⟨h1, h2⟩ | ⟨h1, k, hk, h2⟩
  · simp only [decide_eq_false_iff_not]
    exact ⟨fun _ => h2, fun _ => by omega⟩
  · simp only [decide_eq_false_iff_not]
    exact ⟨fun h => absurd h1 (by omega), fun h => absurd (h k hk) h2⟩
/-- The same, when what it answers is known. -/
theorem containsStr_no (A : Option Addr) (n c : Nat) (xs : List Int) (w : World) (hs : SI w A n xs) (hn : n ≤ 1099511627776) (h : ∀ k, k < n → (0 ≤ nth xs k ∧ nth xs k ≤ 1)) :
    Calls Try.prog 51 #[.slice A n c, .func (.func 49) #[] #[]] w fun r w' => r = .returned (.bool false) ∧ Drawn w w' :=
  (containsStr_any A n c xs w hs hn).mono fun r w' ⟨b, hr, hb, hd⟩ => by
    have e : b = false := hb.2 h
    subst e; exact ⟨hr, hd⟩
theorem containsStr_yes (A : Option Addr) (n c : Nat) (xs : List Int) (w : World) (hs : SI w A n xs) (hn : n ≤ 1099511627776) (h : ¬ ∀ k, k < n → (0 ≤ nth xs k ∧ nth xs k ≤ 1)) :
    Calls Try.prog 51 #[.slice A n c, .func (.func 49) #[] #[]] w fun r w' => r = .returned (.bool true) ∧ Drawn w w' :=
  (containsStr_any A n c xs w hs hn).mono fun r w' ⟨b, hr, hb, hd⟩ => by
    have e : b = true := by cases b with | true => rfl | false => exact absurd (hb.1 rfl) h
    subst e; exact ⟨hr, hd⟩
end Go.Proofs.Ytbjnjccolapehaa
