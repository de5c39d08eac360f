/-
  Strings of zeros and ones and their shapes, the document's side. Conditions: lengths below 2^40.
-/
import Derived.Test.YtdkcngilmdpbgaaStrM
namespace Go.Proofs.Ytdkcngilmdpbgaa
open Go.RowKit

set_option maxHeartbeats 800000 in
theorem specIsString_any (A : Option Addr) (n c : Nat) (xs : List Int) (w : World) (hs : SI w A n xs) (_hn : n ≤ 1099511627776) :
    Calls Try.prog 76 #[.slice A n c] w fun e w' => e = .returned (.bool (strB xs)) ∧ Drawn w w' := by
  have HL := Lib.hid hs.1
  by_cases h17 : 1 ≤ n ∧ n ≤ 7
  · have H1 := Lib.hid (fun w => l1In_yes' (a := (n : Int)) (lo := 1) (hi := 7) (by omega) (by omega) w)
    go_enter Try.func76, Try.ntmps76
    go_wp2_with (go_at_call 70; refine (H1.out _).mono ?_; rintro e w1 ⟨rfl, rfl⟩)
    go_loopw [3] (fun i wr => ∃ k : Nat, k ≤ n ∧ i = .int .i64 k ∧ Drawn w wr ∧ ∀ j, j < k → 0 ≤ nth xs j ∧ nth xs j ≤ 1)
      (fun i _ => n - (intOf i).toNat)
    case atStart => exact ⟨0, Nat.zero_le _, rfl, Drawn.refl _, fun j hj => absurd hj (by omega)⟩
    case round =>
      obtain ⟨k, hk, rfl, hD, hall⟩ := hrel
      have HA := Lib.hid hall
      have HDR := Lib.hid hD
      have hs := hD.si hs
      clear hall hD
      by_cases hlt : k < n
      · have hlI : (k : Int) < (n : Int) := by omega
        obtain ⟨b, o, rfl, hb, hc⟩ := hs.at_ (by omega)
        have hc1 := hc k hlt
        obtain ⟨x, hx⟩ : ∃ x, x = nth xs k := ⟨_, rfl⟩
        rw [← hx] at hc1
        have HX := Lib.hid hx
        clear hc hx hs
        by_cases hg : 0 ≤ x ∧ x ≤ 1
        · have HG := Lib.hid hg
          have H2 := Lib.hid (fun w => l1In_yes' hg.1 hg.2 w)
          clear hg
          go_wp2_with (go_at_call 70; refine (H2.out _).mono ?_; rintro e w2 ⟨rfl, rfl⟩)
          go_roundw
          case rel => exact ⟨k + 1, by omega, by go_num, HDR.out, fun j hj => by
            rcases Nat.lt_or_ge j k with h | h
            · exact HA.out j h
            · obtain rfl : j = k := by omega
              rw [← HX.out]; exact HG.out⟩
          case measure => simp [intOf]; omega
        · have H2 := Lib.hid (fun w => l1In_no' (a := x) (lo := 0) (hi := 1) (by omega) w)
          have HF := Lib.hid (strB_false (xs := xs) (fun h => hg (by rw [HX.out]; exact h.2.2 k (by have := HL.out; omega))))
          clear hg
          go_wp2_with (go_at_call 70; refine (H2.out _).mono ?_; rintro e w2 ⟨rfl, rfl⟩)
          go_ret
          exact ⟨ret_bool HF.out.symm, HDR.out⟩
      · have hkn : k = n := by omega
        subst hkn
        go_wp2
        go_ret
        exact ⟨ret_bool (strB_true ⟨by have := HL.out; omega, by have := HL.out; omega, by rw [HL.out]; exact HA.out⟩).symm, HDR.out⟩
  · have H1 := Lib.hid (fun w => l1In_no' (a := (n : Int)) (lo := 1) (hi := 7) (by omega) w)
    have HF := Lib.hid (strB_false (xs := xs) (fun h => h17 (by have := h.1; have := h.2.1; have := HL.out; omega)))
    clear h17
    go_enter Try.func76, Try.ntmps76
    go_wp2_with (go_at_call 70; refine (H1.out _).mono ?_; rintro e w1 ⟨rfl, rfl⟩)
    go_ret
    exact ⟨ret_bool HF.out.symm, Drawn.refl _⟩
theorem Own.lit1 {w : World} {x : Int} {lo : Nat} (h : lo ≤ w.heap.size) : Own (w.alloc (.cells #[.int .i64 x] 3)) lo (w.alloc (.cells #[.int .i64 x] 3)).heap.size (some ⟨w.heap.size, 0, none⟩) 1 1 [x] :=
  ⟨World.ownsRow_lit w #[.int .i64 x] 1 h (by unfold maxLen; omega) rfl, fun k hk => by simp [Value.ownBlock] at hk; simp; omega⟩
end Go.Proofs.Ytdkcngilmdpbgaa
