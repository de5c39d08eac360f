/-
  Is there a number that is no entry: the program's test. Conditions: lengths below 2^40.
-/
import Derived.Test.YtfaegfhbbkicgaaStrM
namespace Go.Proofs.Ytfaegfhbbkicgaa
open Go.RowKit

theorem isEntryR_any (x : Int) (w : World) :
    Calls Try.prog 86 #[.int .i64 x] w fun e w' => e = .returned (.bool (decide (0 ≤ x ∧ x ≤ 20))) ∧ w = w' := by
  by_cases h1 : 0 ≤ x
  · by_cases h2 : x ≤ 20
    · go_enter Try.func86, Try.ntmps86
      go_wp2
      go_ret
      exact ⟨ret_bool (by simp [h1, h2]), rfl⟩
    · go_enter Try.func86, Try.ntmps86
      go_wp2
      go_ret
      exact ⟨ret_bool (by simp; omega), rfl⟩
  · have h1' : x < 0 := by omega
    go_enter Try.func86, Try.ntmps86
    go_wp2
    go_ret
    exact ⟨ret_bool (by simp; omega), rfl⟩
theorem RskFn_any (x : Int) (w : World) : Calls Try.prog 85 #[.int .i64 x] w fun r w' => r = .returned (.bool (decide (¬ (0 ≤ x ∧ x ≤ 20)))) ∧ w = w' := by
  by_cases h : 0 ≤ x ∧ x ≤ 20
  · have HC : Hid (∀ w, Calls Try.prog 86 #[.int .i64 x] w fun e w' => e = .returned (.bool true) ∧ w = w') := Lib.hid (fun w => by have := isEntryR_any x w; rwa [decide_eq_true h] at this)
    have HE : Hid (false = decide (¬ (0 ≤ x ∧ x ≤ 20))) := Lib.hid (decide_eq_false (fun h' => h' h)).symm
    clear h
    go_enter Try.func85, Try.ntmps85
    go_wp2_with (go_at_call 86; (with_reducible refine (HC.out _).mono ?_); rintro e w1 ⟨rfl, rfl⟩)
    go_ret
    exact ⟨ret_bool HE.out, rfl⟩
  · have HC : Hid (∀ w, Calls Try.prog 86 #[.int .i64 x] w fun e w' => e = .returned (.bool false) ∧ w = w') := Lib.hid (fun w => by have := isEntryR_any x w; rwa [decide_eq_false h] at this)
    have HE : Hid (true = decide (¬ (0 ≤ x ∧ x ≤ 20))) := Lib.hid (decide_eq_true h).symm
    clear h
    go_enter Try.func85, Try.ntmps85
    go_wp2_with (go_at_call 86; (with_reducible refine (HC.out _).mono ?_); rintro e w1 ⟨rfl, rfl⟩)
    go_ret
    exact ⟨ret_bool HE.out, rfl⟩
set_option maxHeartbeats 800000 in
theorem indexRsk_any (A : Option Addr) (n c : Nat) (xs : List Int) (w : World) (hs : SI w A n xs) (hn : n ≤ 1099511627776) :
    Calls Try.prog 138 #[.slice A n c, .func (.func 85) #[] #[]] w fun r w' =>
      ∃ i : Int, r = .returned (.int .i64 i) ∧ (i < 0 ∧ (∀ k, k < n → (0 ≤ nth xs k ∧ nth xs k ≤ 20)) ∨ 0 ≤ i ∧ ∃ k, k < n ∧ ¬ (0 ≤ nth xs k ∧ nth xs k ≤ 20)) ∧ Drawn w w' := by
  go_enter Try.func138, Try.ntmps138
  go_wp2
  go_loopw [8] (fun i wr => ∃ k : Nat, k ≤ n ∧ i = .int .i64 k ∧ Drawn w wr ∧ ∀ j, j < k → (0 ≤ nth xs j ∧ nth xs j ≤ 20))
    (fun i _ => n - (intOf i).toNat)
  case atStart => exact ⟨0, Nat.zero_le _, rfl, Drawn.refl _, fun j hj => absurd hj (by omega)⟩
  case round =>
    obtain ⟨k, hk, rfl, hD, hall⟩ := hrel
    have HA := Lib.hid hall
    have HDR := Lib.hid hD
    have hs := hD.si hs
    clear hall hD
    by_cases hlt : k < n
    · have hlI : (k : Int) < (n : Int) := by omega
      obtain ⟨b, o, rfl, hb, hc⟩ := hs.at_ (by omega)
      have hc1 := hc k hlt
      obtain ⟨x, hx⟩ : ∃ x, x = nth xs k := ⟨_, rfl⟩
      rw [← hx] at hc1
      have HX := Lib.hid hx
      clear hc hx hs
      by_cases hg : (0 ≤ x ∧ x ≤ 20)
      · have HF : Hid (∀ w, Calls Try.prog 85 #[.int .i64 x] w fun r w' => r = .returned (.bool false) ∧ w = w') := Lib.hid (fun w => by
          have := RskFn_any x w
          rwa [decide_eq_false (fun h => h hg)] at this)
        have HG := Lib.hid hg
        clear hg
        go_wp2_with (go_at_call 85; refine (HF.out _).mono ?_; rintro r w2 ⟨rfl, rfl⟩)
        go_roundw
        case rel => exact ⟨k + 1, by omega, by go_num, HDR.out, fun j hj => by
          rcases Nat.lt_or_ge j k with h | h
          · exact HA.out j h
          · obtain rfl : j = k := by omega
            rw [← HX.out]; exact HG.out⟩
        case measure => simp [intOf]; omega
      · have HF : Hid (∀ w, Calls Try.prog 85 #[.int .i64 x] w fun r w' => r = .returned (.bool true) ∧ w = w') := Lib.hid (fun w => by
          have := RskFn_any x w
          rwa [decide_eq_true hg] at this)
        have HG := Lib.hid hg
        clear hg
        go_wp2_with (go_at_call 85; refine (HF.out _).mono ?_; rintro r w2 ⟨rfl, rfl⟩)
        go_ret
        exact ⟨(k : Int), rfl, .inr ⟨by omega, k, hlt, by rw [← HX.out]; exact HG.out⟩, HDR.out⟩
    · have hkn : k = n := by omega
      subst hkn
      go_wp2
      go_ret
      exact ⟨-1, rfl, .inl ⟨by omega, HA.out⟩, HDR.out⟩
set_option maxHeartbeats 400000 in
theorem containsRsk_any (A : Option Addr) (n c : Nat) (xs : List Int) (w : World) (hs : SI w A n xs) (hn : n ≤ 1099511627776) :
    Calls Try.prog 87 #[.slice A n c, .func (.func 85) #[] #[]] w fun r w' =>
      ∃ b : Bool, r = .returned (.bool b) ∧ (b = false ↔ ∀ k, k < n → (0 ≤ nth xs k ∧ nth xs k ≤ 20)) ∧ Drawn w w' := by
  have HC := Lib.hid (indexRsk_any A n c xs w hs hn)
  clear hs
  go_enter Try.func87, Try.ntmps87
  go_wp2_with (go_at_call 138; refine HC.out.mono ?_; rintro r w2 ⟨i, rfl, hi, hd⟩; have HI := Lib.hid hi; have HD := Lib.hid hd; clear hi hd)
  go_ret
  refine ⟨_, rfl, ?_, HD.out⟩
  rcases HI.out with ⟨h1, h2⟩ | ⟨h1, k, hk, h2⟩
  · simp only [decide_eq_false_iff_not]
    exact ⟨fun _ => h2, fun _ => by omega⟩
  · simp only [decide_eq_false_iff_not]
    exact ⟨fun h => absurd h1 (by omega), fun h => absurd (h k hk) h2⟩
/-- The same, when what it answers is known. -/
theorem containsRsk_no (A : Option Addr) (n c : Nat) (xs : List Int) (w : World) (hs : SI w A n xs) (hn : n ≤ 1099511627776) (h : ∀ k, k < n → (0 ≤ nth xs k ∧ nth xs k ≤ 20)) :
    Calls Try.prog 87 #[.slice A n c, .func (.func 85) #[] #[]] w fun r w' => r = .returned (.bool false) ∧ Drawn w w' :=
  (containsRsk_any A n c xs w hs hn).mono fun r w' ⟨b, hr, hb, hd⟩ => by
    have e : b = false := hb.2 h
    subst e; exact ⟨hr, hd⟩
theorem containsRsk_yes (A : Option Addr) (n c : Nat) (xs : List Int) (w : World) (hs : SI w A n xs) (hn : n ≤ 1099511627776) (h : ¬ ∀ k, k < n → (0 ≤ nth xs k ∧ nth xs k ≤ 20)) :
    Calls Try.prog 87 #[.slice A n c, .func (.func 85) #[] #[]] w fun r w' => r = .returned (.bool true) ∧ Drawn w w' :=
  (containsRsk_any A n c xs w hs hn).mono fun r w' ⟨b, hr, hb, hd⟩ => by
    have e : b = true := by cases b with | true => rfl | false => exact absurd (hb.1 rfl) h
    subst e; exact ⟨hr, hd⟩
end Go.Proofs.Ytfaegfhbbkicgaa
