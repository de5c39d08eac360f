/-
  What a shape is: the tests of both sides. Conditions: the length is at most 2^40.
-/
import Derived.Test.YtfaegfhbbkicgaaPermSpec
namespace Go.Proofs.Ytfaegfhbbkicgaa
open Go.RowKit

/-- What a place of a shape may be at most: what stands before it, 16 at the first one. -/
def prevS (xs : List Int) : Nat → Int
  | 0 => 16
  | k + 1 => nth xs k
/-- Is place k of a list one that a shape may have. -/
def shapeAt (xs : List Int) (k : Nat) : Prop := 1 ≤ nth xs k ∧ nth xs k ≤ prevS xs k
instance (xs : List Int) (k : Nat) : Decidable (shapeAt xs k) := by unfold shapeAt; infer_instance
def isShapeP (xs : List Int) : Prop := xs.length ≤ 16 ∧ ∀ k, k < xs.length → shapeAt xs k
def isShapeB (xs : List Int) : Bool := decide (xs.length ≤ 16) && (List.range xs.length).all fun k => decide (shapeAt xs k)
theorem isShapeB_iff (xs : List Int) : isShapeB xs = true ↔ isShapeP xs := by simp [isShapeB, isShapeP]
theorem isShapeB_P {xs : List Int} (h : isShapeB xs = true) : isShapeP xs := (isShapeB_iff xs).1 h
theorem isShapeB_true {xs : List Int} (h : isShapeP xs) : isShapeB xs = true := (isShapeB_iff xs).2 h
theorem isShapeB_false {xs : List Int} (h : ¬ isShapeP xs) : isShapeB xs = false := by
  cases hb : isShapeB xs with
  | false => rfl
  | true => exact absurd (isShapeB_P hb) h
theorem prevS_le {xs : List Int} : ∀ {k : Nat}, (∀ j, j < k → shapeAt xs j) → prevS xs k ≤ 16
  | 0, _ => Int.le_refl _
  | k + 1, h => Int.le_trans (h k (by omega)).2 (prevS_le fun j hj => h j (by omega))

set_option maxHeartbeats 800000 in
theorem specIsShape_any (A : Option Addr) (n c : Nat) (xs : List Int) (w : World) (hs : SI w A n xs) (hn : n ≤ 1099511627776) :
    Calls Try.prog 96 #[.slice A n c] w fun e w' => e = .returned (.bool (isShapeB xs)) ∧ Drawn w w' := by
  have HL := Lib.hid hs.1
  by_cases h16 : n ≤ 16
  · go_enter Try.func96, Try.ntmps96
    go_wp2
    go_loopw [3] (fun i wr => ∃ k : Nat, k ≤ n ∧ i = .int .i64 k ∧ Drawn w wr ∧ ∀ j, j < k → shapeAt xs j)
      (fun i _ => n - (intOf i).toNat)
    case atStart => exact ⟨0, Nat.zero_le _, rfl, Drawn.refl _, fun j hj => absurd hj (by omega)⟩
    case round =>
      obtain ⟨k, hk, rfl, hD, hall⟩ := hrel
      have HA := Lib.hid hall
      have HD := Lib.hid hD
      have hs := hD.si hs
      clear hall hD
      by_cases hlt : k < n
      · obtain ⟨b, o, e1, hb, hc⟩ := hs.at_ (by omega)
        subst e1
        have hc1 := hc k hlt
        obtain ⟨x, hx⟩ : ∃ x, x = nth xs k := ⟨_, rfl⟩
        rw [← hx] at hc1
        have HX := Lib.hid hx
        have hlI : (k : Int) < (n : Int) := by omega
        by_cases hr : 1 ≤ x ∧ x ≤ 16
        · obtain ⟨hx0, hx1⟩ := hr
          cases k with
          | zero =>
            have HG : Hid (shapeAt xs 0) := Lib.hid (show 1 ≤ nth xs 0 ∧ nth xs 0 ≤ 16 by omega)
            rw [Nat.add_zero] at hc1
            clear hc hs hx
            go_wp2_with fail
            go_quiet ((go_at_call 82; exact Calls.quiet_of (l1In_yes hx0 hx1 _)))
            go_wp2
            go_roundw
            case rel => exact ⟨1, by omega, by go_num, HD.out.drewN _, fun j hj => by rw [show j = 0 from Nat.lt_one_iff.1 hj]; exact HG.out⟩
            case measure => simp [intOf]; omega
          | succ k =>
            have hc0 := hc k (by omega)
            obtain ⟨y, hy⟩ : ∃ y, y = nth xs k := ⟨_, rfl⟩
            rw [← hy] at hc0
            have HY := Lib.hid hy
            have hwk : IntKind.i64.wrap (((k + 1 : Nat) : Int) - 1) = (k : Int) := by rw [show ((k + 1 : Nat) : Int) - 1 = (k : Int) by omega]; exact IntWalk.i64_in _ (by omega)
            have hkI : (k : Int) < (n : Int) := by omega
            have hk0 : (0 : Int) < ((k + 1 : Nat) : Int) := by omega
            clear hc hs hx hy
            by_cases hyx : y < x
            · have HF := Lib.hid (isShapeB_false (xs := xs) (fun h => by
                have := (h.2 (k + 1) (by have := HL.out; omega)).2
                have e1 : prevS xs (k + 1) = nth xs k := rfl
                have := HX.out; have := HY.out
                omega))
              go_wp2_with fail
              go_quiet ((go_at_call 82; exact Calls.quiet_of (l1In_yes hx0 hx1 _)))
              go_wp2
              go_ret
              exact ⟨ret_bool HF.out.symm, HD.out.drewN _⟩
            · have HG : Hid (shapeAt xs (k + 1)) := Lib.hid (by
                have e1 : prevS xs (k + 1) = nth xs k := rfl
                have := HX.out; have := HY.out
                unfold shapeAt
                omega)
              go_wp2_with fail
              go_quiet ((go_at_call 82; exact Calls.quiet_of (l1In_yes hx0 hx1 _)))
              go_wp2
              go_roundw
              case rel => exact ⟨k + 1 + 1, by omega, by go_num, HD.out.drewN _, fun j hj => by
                rcases Nat.lt_or_ge j (k + 1) with h | h
                · exact HA.out j h
                · obtain rfl : j = k + 1 := by omega
                  exact HG.out⟩
              case measure => simp [intOf]; omega
        · have HF := Lib.hid (isShapeB_false (xs := xs) (fun h => by
            have h1 := h.2 k (by have := HL.out; omega)
            have h2 := prevS_le HA.out
            unfold shapeAt at h1
            have := HX.out
            omega))
          clear hc hs hx
          go_wp2_with fail
          go_quiet ((go_at_call 82; exact Calls.quiet_of (l1In_no (by omega) _)))
          go_wp2
          go_ret
          exact ⟨ret_bool HF.out.symm, HD.out.drewN _⟩
      · have hkn : k = n := by omega
        subst hkn
        go_wp2
        go_ret
        exact ⟨ret_bool (isShapeB_true ⟨by have := HL.out; omega, by rw [HL.out]; exact HA.out⟩).symm, HD.out⟩
  · have HF := Lib.hid (isShapeB_false (xs := xs) (fun h => by have := h.1; have := HL.out; omega))
    have h16' : (16 : Int) < (n : Int) := by omega
    go_enter Try.func96, Try.ntmps96
    go_wp2
    go_ret
    exact ⟨ret_bool HF.out.symm, Drawn.refl _⟩
set_option maxHeartbeats 800000 in
theorem implIsShape_any (A : Option Addr) (n c : Nat) (xs : List Int) (w : World) (hs : SI w A n xs) (hn : n ≤ 1099511627776) :
    Calls Try.prog 98 #[.slice A n c] w fun e w' => e = .returned (.bool (isShapeB xs)) ∧ Drawn w w' := by
  have HL := Lib.hid hs.1
  by_cases h16 : n ≤ 16
  · go_enter Try.func98, Try.ntmps98
    go_wp2
    go_loopw [3, 11] (fun m i wr => ∃ k : Nat, k ≤ n ∧ i = .int .i64 k ∧ m = .int .i64 (prevS xs k) ∧ Drawn w wr ∧ ∀ j, j < k → shapeAt xs j)
      (fun _ i _ => n - (intOf i).toNat)
    case atStart => exact ⟨0, Nat.zero_le _, rfl, rfl, Drawn.refl _, fun j hj => absurd hj (by omega)⟩
    case round =>
      obtain ⟨k, hk, rfl, rfl, hD, hall⟩ := hrel
      have HA := Lib.hid hall
      have HD := Lib.hid hD
      have hs := hD.si hs
      clear hall hD
      by_cases hlt : k < n
      · obtain ⟨b, o, e1, hb, hc⟩ := hs.at_ (by omega)
        subst e1
        have hc1 := hc k hlt
        obtain ⟨x, hx⟩ : ∃ x, x = nth xs k := ⟨_, rfl⟩
        rw [← hx] at hc1
        have HX := Lib.hid hx
        obtain ⟨y, hy⟩ : ∃ y, y = prevS xs k := ⟨_, rfl⟩
        rw [← hy]
        have HY := Lib.hid hy
        have hlI : (k : Int) < (n : Int) := by omega
        clear hc hs hx hy
        by_cases hg : 1 ≤ x ∧ x ≤ y
        · obtain ⟨hg1, hg2⟩ := hg
          have HG : Hid (shapeAt xs k) := Lib.hid (by have := HX.out; have := HY.out; unfold shapeAt; omega)
          go_wp2
          go_roundw
          case rel => exact ⟨k + 1, by omega, by go_num, by rw [HX.out]; rfl, HD.out, fun j hj => by
            rcases Nat.lt_or_ge j k with h | h
            · exact HA.out j h
            · obtain rfl : j = k := by omega
              exact HG.out⟩
          case measure => simp [intOf]; omega
        · have HF := Lib.hid (isShapeB_false (xs := xs) (fun h => by
            have h1 := h.2 k (by have := HL.out; omega)
            unfold shapeAt at h1
            have := HX.out; have := HY.out
            omega))
          by_cases hx1 : x < 1
          · go_wp2
            go_ret
            exact ⟨ret_bool HF.out.symm, HD.out⟩
          · have hyx : y < x := by omega
            clear hg
            go_wp2
            go_ret
            exact ⟨ret_bool HF.out.symm, HD.out⟩
      · have hkn : k = n := by omega
        subst hkn
        go_wp2
        go_ret
        exact ⟨ret_bool (isShapeB_true ⟨by have := HL.out; omega, by rw [HL.out]; exact HA.out⟩).symm, HD.out⟩
  · have HF := Lib.hid (isShapeB_false (xs := xs) (fun h => by have := h.1; have := HL.out; omega))
    have h16' : (16 : Int) < (n : Int) := by omega
    go_enter Try.func98, Try.ntmps98
    go_wp2
    go_ret
    exact ⟨ret_bool HF.out.symm, Drawn.refl _⟩
end Go.Proofs.Ytfaegfhbbkicgaa
