/-
  The order of lists: number by number, what stands first is less. Conditions: lengths below 2^40.
-/
import Derived.Test.YthinbmjcdcmioaaTermKey
namespace Go.Proofs.Ythinbmjcdcmioaa
open Go.RowKit

/-- What comparing two lists answers. -/
def cmpL : List Int → List Int → Int
  | [], [] => 0
  | [], _ :: _ => -1
  | _ :: _, [] => 1
  | x :: xs, y :: ys => if x < y then -1 else if y < x then 1 else cmpL xs ys
theorem drop_nth {xs : List Int} {k : Nat} (h : k < xs.length) : xs.drop k = nth xs k :: xs.drop (k + 1) := by
  rw [List.drop_eq_getElem_cons h, nth_get h]
theorem cmpL_at {xs ys : List Int} {k : Nat} (hx : k < xs.length) (hy : k < ys.length) : cmpL (xs.drop k) (ys.drop k) = if nth xs k < nth ys k then -1 else if nth ys k < nth xs k then 1 else cmpL (xs.drop (k + 1)) (ys.drop (k + 1)) := by
  rw [drop_nth hx, drop_nth hy]; rfl
theorem cmpL_short {xs ys : List Int} {k : Nat} (hx : k = xs.length) (hy : k < ys.length) : cmpL (xs.drop k) (ys.drop k) = -1 := by
  rw [drop_nth hy, List.drop_of_length_le (by omega)]; rfl
theorem cmpL_long {xs ys : List Int} {k : Nat} (hx : k < xs.length) (hy : k = ys.length) : cmpL (xs.drop k) (ys.drop k) = 1 := by
  rw [drop_nth hx, List.drop_of_length_le (by omega : ys.length ≤ k)]; rfl
theorem cmpL_end {xs ys : List Int} {k : Nat} (hx : k = xs.length) (hy : k = ys.length) : cmpL (xs.drop k) (ys.drop k) = 0 := by
  rw [List.drop_of_length_le (by omega), List.drop_of_length_le (by omega)]; rfl
def lessL (xs ys : List Int) : Bool := decide (cmpL xs ys < 0)
theorem lessL_yes {xs ys : List Int} (h : cmpL xs ys = -1) : lessL xs ys = true := by simp [lessL, h]
theorem lessL_no {xs ys : List Int} (h : 0 ≤ cmpL xs ys) : lessL xs ys = false := by simp [lessL]; exact h

set_option maxHeartbeats 1600000 in
theorem l1Less_any (A A2 : Option Addr) (n c n2 c2 : Nat) (xs ys : List Int) (w : World) (hs : SI w A n xs) (hs2 : SI w A2 n2 ys) (hn : n ≤ 1099511627776) (hn2 : n2 ≤ 1099511627776) :
    Calls Try.prog 63 #[.slice A n c, .slice A2 n2 c2] w fun e w' => e = .returned (.bool (lessL xs ys)) ∧ Drawn w w' := by
  have HL := Lib.hid (And.intro hs.1 hs2.1)
  go_enter Try.func63, Try.ntmps63
  go_wp2
  go_loopw [5] (fun iv wr => ∃ k : Nat, k ≤ n ∧ k ≤ n2 ∧ iv = .int .i64 k ∧ Drawn w wr ∧ cmpL xs ys = cmpL (xs.drop k) (ys.drop k))
    (fun iv _ => n - (intOf iv).toNat)
  case atStart => exact ⟨0, Nat.zero_le _, Nat.zero_le _, rfl, Drawn.refl _, by simp⟩
  case round =>
    obtain ⟨k, hk, hk2, rfl, hD, hq⟩ := hrel
    have HD := Lib.hid hD
    have HQ := Lib.hid hq
    have h1 := hD.si hs
    have h2 := hD.si hs2
    clear hD hq hs hs2
    by_cases hlt : k < n
    · have hlI : (k : Int) < (n : Int) := by omega
      by_cases hlt2 : k < n2
      · have hlI2 : (k : Int) < (n2 : Int) := by omega
        obtain ⟨b, o, rfl, _, hc⟩ := h1.at_ (by omega)
        obtain ⟨b2, o2, rfl, _, hc2⟩ := h2.at_ (by omega)
        have hx := hc k hlt
        have hy := hc2 k hlt2
        have HS := cmpL_at (xs := xs) (ys := ys) (k := k) (by have := HL.out; omega) (by have := HL.out; omega)
        obtain ⟨x, hx0⟩ : ∃ x, x = nth xs k := ⟨_, rfl⟩
        obtain ⟨y, hy0⟩ : ∃ y, y = nth ys k := ⟨_, rfl⟩
        rw [← hx0] at hx HS
        rw [← hy0] at hy HS
        rw [← HQ.out] at HS
        have HS := Lib.hid HS
        clear h1 h2 hc hc2 hx0 hy0
        by_cases hxy : x = y
        · subst hxy
          have HS2 := Lib.hid (HS.out.trans ((if_neg (by omega)).trans (if_neg (by omega))))
          go_wp2_with fail
          go_quiet (fail)
          go_wp2
          go_roundw
          case rel => exact ⟨k + 1, by omega, by omega, by go_num, HD.out.drewN _, HS2.out⟩
          case measure => simp [intOf]; omega
        · have hne : (x != y) = true := by simpa using hxy
          by_cases hlt3 : x < y
          · have HF := Lib.hid (lessL_yes (HS.out.trans (if_pos hlt3)))
            go_wp2_with fail
            go_quiet (fail)
            go_wp2_with fail
            go_quiet (fail)
            go_wp2
            go_ret
            exact ⟨ret_bool HF.out.symm, by first | exact (HD.out.drewN _).drewN _ | exact HD.out.drewN _⟩
          · have HF := Lib.hid (lessL_no (Int.le_of_eq (HS.out.trans ((if_neg hlt3).trans (if_pos (by omega)))).symm |> Int.le_trans (by decide)))
            go_wp2_with fail
            go_quiet (fail)
            go_wp2_with fail
            have hlt4 : ¬ x < y := by omega
            go_quiet (fail)
            go_wp2
            go_ret
            exact ⟨ret_bool HF.out.symm, by first | exact (HD.out.drewN _).drewN _ | exact HD.out.drewN _⟩
      · have hk2n : k = n2 := by omega
        have hlI2 : ¬ (k : Int) < (n2 : Int) := by omega
        have hn2n : ¬ (n : Int) < (n2 : Int) := by omega
        have HF := Lib.hid (lessL_no (by rw [HQ.out, cmpL_long (by have := HL.out; omega) (by have := HL.out; omega)]; decide))
        clear h1 h2
        go_wp2
        go_ret
        exact ⟨ret_bool HF.out.symm, HD.out⟩
    · have hkn : k = n := by omega
      have hlI : ¬ (k : Int) < (n : Int) := by omega
      clear h1 h2
      by_cases hlt2 : n < n2
      · have hn2n : (n : Int) < (n2 : Int) := by omega
        have HF := Lib.hid (lessL_yes (by rw [HQ.out, cmpL_short (by have := HL.out; omega) (by have := HL.out; omega)]))
        go_wp2
        go_ret
        exact ⟨ret_bool HF.out.symm, HD.out⟩
      · have hn2n : ¬ (n : Int) < (n2 : Int) := by omega
        have HF := Lib.hid (lessL_no (by rw [HQ.out, cmpL_end (by have := HL.out; omega) (by have := HL.out; omega)]; decide))
        go_wp2
        go_ret
        exact ⟨ret_bool HF.out.symm, HD.out⟩

set_option maxHeartbeats 1600000 in
theorem sliceCompare_any (A A2 : Option Addr) (n c n2 c2 : Nat) (xs ys : List Int) (w : World) (hs : SI w A n xs) (hs2 : SI w A2 n2 ys) (hn : n ≤ 1099511627776) (hn2 : n2 ≤ 1099511627776) :
    Calls Try.prog 94 #[.slice A n c, .slice A2 n2 c2] w fun e w' => e = .returned (.int .i64 (cmpL xs ys)) ∧ Drawn w w' := by
  have HL := Lib.hid (And.intro hs.1 hs2.1)
  go_enter Try.func94, Try.ntmps94
  go_wp2
  go_loopw [11] (fun iv wr => ∃ k : Nat, k ≤ n ∧ k ≤ n2 ∧ iv = .int .i64 k ∧ Drawn w wr ∧ cmpL xs ys = cmpL (xs.drop k) (ys.drop k))
    (fun iv _ => n - (intOf iv).toNat)
  case atStart => exact ⟨0, Nat.zero_le _, Nat.zero_le _, rfl, Drawn.refl _, by simp⟩
  case round =>
    obtain ⟨k, hk, hk2, rfl, hD, hq⟩ := hrel
    have HD := Lib.hid hD
    have HQ := Lib.hid hq
    have h1 := hD.si hs
    have h2 := hD.si hs2
    clear hD hq hs hs2
    by_cases hlt : k < n
    · have hlI : (k : Int) < (n : Int) := by omega
      obtain ⟨b, o, rfl, _, hc⟩ := h1.at_ (by omega)
      have hx := hc k hlt
      obtain ⟨x, hx0⟩ : ∃ x, x = nth xs k := ⟨_, rfl⟩
      rw [← hx0] at hx
      by_cases hlt2 : k < n2
      · have hlI2 : (k : Int) < (n2 : Int) := by omega
        obtain ⟨b2, o2, rfl, _, hc2⟩ := h2.at_ (by omega)
        have hy := hc2 k hlt2
        have HS := cmpL_at (xs := xs) (ys := ys) (k := k) (by have := HL.out; omega) (by have := HL.out; omega)
        obtain ⟨y, hy0⟩ : ∃ y, y = nth ys k := ⟨_, rfl⟩
        rw [← hx0] at HS
        rw [← hy0] at hy HS
        rw [← HQ.out] at HS
        have HS := Lib.hid HS
        have HC := Lib.hid (fun w => compare_any x y w)
        clear h1 h2 hc hc2 hx0 hy0
        by_cases hlt3 : x < y
        · have HF := Lib.hid (HS.out.trans (if_pos hlt3))
          have HC2 := HC.out
          rw [show cmpI x y = -1 from if_pos hlt3] at HC2
          have HC3 := Lib.hid HC2
          clear HC2 HC
          go_wp2_with (go_at_call 106; refine (HC3.out _).mono ?_; rintro e w1 ⟨rfl, rfl⟩)
          go_ret
          exact ⟨by rw [HF.out]; try rfl, HD.out⟩
        · by_cases hlt4 : y < x
          · have HF := Lib.hid (HS.out.trans ((if_neg hlt3).trans (if_pos hlt4)))
            have HC2 := HC.out
            rw [show cmpI x y = 1 from (if_neg hlt3).trans (if_pos hlt4)] at HC2
            have HC3 := Lib.hid HC2
            clear HC2 HC
            go_wp2_with (go_at_call 106; refine (HC3.out _).mono ?_; rintro e w1 ⟨rfl, rfl⟩)
            go_ret
            exact ⟨by rw [HF.out]; try rfl, HD.out⟩
          · have HF := Lib.hid (HS.out.trans ((if_neg hlt3).trans (if_neg hlt4)))
            have HC2 := HC.out
            rw [show cmpI x y = 0 from (if_neg hlt3).trans (if_neg hlt4)] at HC2
            have HC3 := Lib.hid HC2
            clear HC2 HC
            go_wp2_with (go_at_call 106; refine (HC3.out _).mono ?_; rintro e w1 ⟨rfl, rfl⟩)
            go_roundw
            case rel => exact ⟨k + 1, by omega, by omega, by go_num, HD.out, HF.out⟩
            case measure => simp [intOf]; omega
      · have hk2n : k = n2 := by omega
        subst hk2n
        have HF : Hid (cmpL xs ys = 1) := Lib.hid (by rw [HQ.out, cmpL_long (by have := HL.out; omega) (by have := HL.out; omega)])
        clear h1 h2 hc hx0
        go_wp2
        go_ret
        exact ⟨by rw [HF.out]; try rfl, HD.out⟩
    · have hkn : k = n := by omega
      have hlI : ¬ (k : Int) < (n : Int) := by omega
      clear h1 h2
      by_cases hlt2 : n < n2
      · have hn2n : (n : Int) < (n2 : Int) := by omega
        have HF : Hid (cmpL xs ys = -1) := Lib.hid (by rw [HQ.out, cmpL_short (by have := HL.out; omega) (by have := HL.out; omega)])
        go_wp2
        go_ret
        exact ⟨by rw [HF.out]; try rfl, HD.out⟩
      · have hn2n : ¬ (n : Int) < (n2 : Int) := by omega
        have HF : Hid (cmpL xs ys = 0) := Lib.hid (by rw [HQ.out, cmpL_end (by have := HL.out; omega) (by have := HL.out; omega)])
        go_wp2
        go_ret
        exact ⟨by rw [HF.out]; try rfl, HD.out⟩
end Go.Proofs.Ythinbmjcdcmioaa
