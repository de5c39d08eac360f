/-
  The sum of a list, as the laws reckon it. Conditions: lengths below 2^40, sums too.
-/
import Derived.Test.YtbjnjccolapehaaSpecC
namespace Go.Proofs.Ytbjnjccolapehaa
open Go.RowKit

set_option maxHeartbeats 400000 in
theorem lsumB_any (A : Option Addr) (n c : Nat) (xs : List Int) (w : World) (hs : SI w A n xs) (hn : n ≤ 1099511627776) (hb : ∀ k, k ≤ n → -1099511627776 ≤ sumN xs k ∧ sumN xs k ≤ 1099511627776) :
    Calls Try.prog 18 #[.slice A n c] w fun e w' => e = .returned (.int .i64 (sumN xs n)) ∧ Drawn w w' := by
  have HBd := Lib.hid hb
  clear hb
  go_enter Try.func18, Try.ntmps18
  go_wp2
  go_loopw [3, 4] (fun v i wr => ∃ k : Nat, k ≤ n ∧ i = .int .i64 k ∧ v = .int .i64 (sumN xs k) ∧ Drawn w wr)
    (fun _ i _ => n - (intOf i).toNat)
  case atStart => exact ⟨0, Nat.zero_le _, rfl, rfl, Drawn.refl _⟩
  case round =>
    obtain ⟨k, hk, rfl, rfl, hD⟩ := hrel
    have hs := hD.si hs
    have HD := Lib.hid hD
    clear hD
    by_cases hlt : k < n
    · obtain ⟨b, o, rfl, hb, hc⟩ := hs.at_ (by omega)
      have hc1 := hc k hlt
      obtain ⟨x, hx⟩ : ∃ x, x = nth xs k := ⟨_, rfl⟩
      obtain ⟨y, hy⟩ : ∃ y, y = sumN xs k := ⟨_, rfl⟩
      have h1 := HBd.out k (by omega)
      have h2 := HBd.out (k + 1) (by omega)
      have e : sumN xs (k + 1) = sumN xs k + nth xs k := rfl
      rw [← hx, ← hy] at e
      rw [e] at h2
      rw [← hy] at h1 ⊢
      rw [← hx] at hc1
      obtain ⟨h21, h22⟩ := h2
      have HE := Lib.hid e
      clear hc hs hx hy e
      go_wp2
      go_roundw
      case rel => exact ⟨k + 1, by omega, by go_num, by rw [HE.out], HD.out⟩
      case measure => simp [intOf]; omega
    · have hkn : k = n := by omega
      subst hkn
      go_wp2
      go_ret
      exact ⟨rfl, HD.out⟩

end Go.Proofs.Ytbjnjccolapehaa
