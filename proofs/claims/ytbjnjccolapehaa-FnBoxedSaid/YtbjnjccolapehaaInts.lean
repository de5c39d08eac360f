/-
  The laws' own comparison of lists, and their test for great inputs: contracts. Conditions: lengths below 2^40.
-/
import Derived.Test.YtbjnjccolapehaaOwn
namespace Go.Proofs.Ytbjnjccolapehaa
open Go.RowKit

set_option maxHeartbeats 400000 in
/-- ints: are the two lists one. -/
theorem ints_any (A A' : Option Addr) (n c n' c' : Nat) (xs ys : List Int) (w : World) (hs : SI w A n xs) (hs' : SI w A' n' ys) (hn : n ≤ 1099511627776) (hn' : n' ≤ 1099511627776) :
    Calls Try.prog 19 #[.slice A n c, .slice A' n' c'] w fun e w' => e = .returned (.bool (eqL xs ys)) ∧ Drawn w w' := by
  have hl := hs.1
  have hl' := hs'.1
  by_cases hne : n = n'
  · subst hne
    go_enter Try.func19, Try.ntmps19
    go_wp2
    go_loopw [5] (fun i wr => ∃ k : Nat, k ≤ n ∧ i = .int .i64 k ∧ Drawn w wr ∧ ∀ j, j < k → nth xs j = nth ys j)
      (fun i _ => n - (intOf i).toNat)
    case atStart => exact ⟨0, Nat.zero_le _, rfl, Drawn.refl _, fun j hj => absurd hj (by omega)⟩
    case round =>
      obtain ⟨k, hk, rfl, hD, hall⟩ := hrel
      have HA := Lib.hid hall
      have hs := hD.si hs
      have hs' := hD.si hs'
      have HD := Lib.hid hD
      clear hall hD
      by_cases hlt : k < n
      · obtain ⟨b, o, rfl, hb, hc⟩ := hs.at_ (by omega)
        obtain ⟨b', o', rfl, hb', hc'⟩ := hs'.at_ (by omega)
        have hc1 := hc k hlt
        have hc1' := hc' k hlt
        clear hc hc' hs hs' hl hl'
        by_cases heq : nth xs k = nth ys k
        · have HE := Lib.hid heq
          rw [← heq] at hc1'
          clear heq
          obtain ⟨x, hx⟩ : ∃ x, x = nth xs k := ⟨_, rfl⟩
          rw [← hx] at hc1 hc1'
          clear hx
          have hlI : (k : Int) < (n : Int) := by omega
          go_wp2_with fail
          go_quiet (fail)
          go_wp2
          go_roundw
          case rel => exact ⟨k + 1, by omega, by go_num, HD.out.drewN _, fun j hj => by
            rcases Nat.lt_or_ge j k with h | h
            · exact HA.out j h
            · obtain rfl : j = k := by omega
              exact HE.out⟩
          case measure => simp [intOf]; omega
        · have HE := Lib.hid heq
          obtain ⟨x, hx⟩ : ∃ x, x = nth xs k := ⟨_, rfl⟩
          obtain ⟨y, hy⟩ : ∃ y, y = nth ys k := ⟨_, rfl⟩
          rw [← hx] at hc1 heq
          rw [← hy] at hc1' heq
          clear hx hy
          have hlI : (k : Int) < (n : Int) := by omega
          have hb : (x != y) = true := by simpa using heq
          clear heq
          go_wp2_with fail
          go_quiet (fail)
          go_wp2
          go_ret
          exact ⟨ret_bool (eqL_ne HE.out).symm, HD.out.drewN _⟩
      · have hkn : k = n := by omega
        subst hkn
        go_wp2
        go_ret
        exact ⟨ret_bool (eqL_all (by omega) (by rw [hl]; exact HA.out)).symm, HD.out⟩
  · have hne' : ¬ (n : Int) = (n' : Int) := by omega
    go_enter Try.func19, Try.ntmps19
    go_wp2
    go_ret
    exact ⟨ret_bool (eqL_len (by omega)).symm, Drawn.refl _⟩


theorem big_any (A : Option Addr) (n c : Nat) (w : World) :
    Calls Try.prog 11 #[.slice A n c] w fun e w' => e = .returned (.bool (decide (1048576 < (n : Int)))) ∧ w = w' := by
  by_cases h : 1048576 < n
  · go_enter Try.func11, Try.ntmps11
    go_wp2
    go_ret
    exact ⟨ret_bool (by simp <;> omega), rfl⟩
  · go_enter Try.func11, Try.ntmps11
    go_wp2
    go_ret
    exact ⟨ret_bool (by simp <;> omega), rfl⟩
end Go.Proofs.Ytbjnjccolapehaa
