/-
  Shapes in a box and their permutations, on both sides. Conditions: lengths below 2^40.
-/
import Derived.Test.YtfaegfhbbkicgaaConjI
namespace Go.Proofs.Ytfaegfhbbkicgaa
open Go.RowKit

/-- Is the list a shape in the box of k and m. -/
def boxP (xs : List Int) (k m : Int) : Prop := 1 ≤ m ∧ m ≤ 7 ∧ 0 ≤ k ∧ k ≤ m ∧ isShapeP xs ∧ (xs.length : Int) ≤ k ∧ nth xs 0 ≤ m - k
def boxB (xs : List Int) (k m : Int) : Bool := decide (1 ≤ m) && decide (m ≤ 7) && decide (0 ≤ k) && decide (k ≤ m) && isShapeB xs && decide ((xs.length : Int) ≤ k) && decide (nth xs 0 ≤ m - k)
theorem boxB_iff (xs : List Int) (k m : Int) : boxB xs k m = true ↔ boxP xs k m := by simp [boxB, boxP, and_assoc, isShapeB_iff]
theorem boxB_P {xs : List Int} {k m : Int} (h : boxB xs k m = true) : boxP xs k m := (boxB_iff _ _ _).1 h
theorem boxB_true {xs : List Int} {k m : Int} (h : boxP xs k m) : boxB xs k m = true := (boxB_iff _ _ _).2 h
theorem boxB_false {xs : List Int} {k m : Int} (h : ¬ boxP xs k m) : boxB xs k m = false := by
  cases hb : boxB xs k m with
  | false => rfl
  | true => exact absurd (boxB_P hb) h
set_option maxHeartbeats 1600000 in
theorem l4Box_any (A : Option Addr) (n c : Nat) (xs : List Int) (k m : Int) (w : World) (hs : SI w A n xs) (hn : n ≤ 1099511627776) :
    Calls Try.prog 64 #[.slice A n c, .int .i64 k, .int .i64 m] w fun e w' => e = .returned (.bool (boxB xs k m)) ∧ Drawn w w' := by
  have HL := Lib.hid hs.1
  by_cases h1 : 1 ≤ m ∧ m ≤ 7
  · have H1 := Lib.hid (fun w => l1In_yes' h1.1 h1.2 w)
    by_cases h2 : 0 ≤ k ∧ k ≤ m
    · have H2 := Lib.hid (fun w => l1In_yes' h2.1 h2.2 w)
      have HI := Lib.hid (specIsShape_any A n c xs w hs hn)
      have HAT := Lib.hid (fun w' (hd : Drawn w w') => l4At_any A n c xs 0 w' (hd.si hs) hn (by omega))
      have hwr : IntKind.i64.wrap (m - k) = m - k := IntWalk.i64_in _ (by omega)
      cases hu : isShapeB xs with
      | false =>
        rw [hu] at HI
        have HF := Lib.hid (boxB_false (xs := xs) (k := k) (m := m) (fun h => by have := isShapeB_true h.2.2.2.2.1; rw [hu] at this; cases this))
        clear hu hs h1 h2
        go_enter Try.func64, Try.ntmps64
        go_wp2_with (first
          | (go_at_call 82; first | ((with_reducible refine (H1.out _).mono ?_); rintro e w1 ⟨rfl, rfl⟩) | ((with_reducible refine (H2.out _).mono ?_); rintro e w1 ⟨rfl, rfl⟩))
          | (go_at_call 96; refine HI.out.mono ?_; rintro e w2 ⟨rfl, hd2⟩; have HD2 := Lib.hid hd2; clear hd2))
        go_ret
        exact ⟨ret_bool HF.out.symm, HD2.out⟩
      | true =>
        rw [hu] at HI
        have hp := isShapeB_P hu
        by_cases h3 : k < (n : Int)
        · have HF := Lib.hid (boxB_false (xs := xs) (k := k) (m := m) (fun h => by have := h.2.2.2.2.2.1; have := HL.out; omega))
          clear hu hs h1 h2 hp
          go_enter Try.func64, Try.ntmps64
          go_wp2_with (first
            | (go_at_call 82; first | ((with_reducible refine (H1.out _).mono ?_); rintro e w1 ⟨rfl, rfl⟩) | ((with_reducible refine (H2.out _).mono ?_); rintro e w1 ⟨rfl, rfl⟩))
            | (go_at_call 96; refine HI.out.mono ?_; rintro e w2 ⟨rfl, hd2⟩; have HD2 := Lib.hid hd2; clear hd2))
          go_ret
          exact ⟨ret_bool HF.out.symm, HD2.out⟩
        · have HV : Hid (boxB xs k m = decide (nth xs 0 ≤ m - k)) := Lib.hid (by
            unfold boxB
            rw [hu, HL.out, decide_eq_true h1.1, decide_eq_true h1.2, decide_eq_true h2.1, decide_eq_true h2.2, decide_eq_true (by omega : (n : Int) ≤ k)]
            simp)
          have h3' : (n : Int) ≤ k := by omega
          obtain ⟨x, hx⟩ : ∃ x, x = nth xs 0 := ⟨_, rfl⟩
          rw [← hx] at HAT HV
          clear hu hs h1 h2 hp hx h3
          go_enter Try.func64, Try.ntmps64
          go_wp2_with (first
            | (go_at_call 82; first | ((with_reducible refine (H1.out _).mono ?_); rintro e w1 ⟨rfl, rfl⟩) | ((with_reducible refine (H2.out _).mono ?_); rintro e w1 ⟨rfl, rfl⟩))
            | (go_at_call 96; refine HI.out.mono ?_; rintro e w2 ⟨rfl, hd2⟩; have HD2 := Lib.hid hd2; clear hd2)
            | (go_at_call 65; refine (HAT.out _ HD2.out).mono ?_; rintro e w3 ⟨rfl, rfl⟩))
          go_ret
          exact ⟨ret_bool HV.out.symm, HD2.out⟩
    · have H2 := Lib.hid (fun w => l1In_no' (a := k) (lo := 0) (hi := m) (by omega) w)
      have HF := Lib.hid (boxB_false (xs := xs) (k := k) (m := m) (fun h => h2 ⟨h.2.2.1, h.2.2.2.1⟩))
      clear hs h1 h2
      go_enter Try.func64, Try.ntmps64
      go_wp2_with (go_at_call 82; first | ((with_reducible refine (H1.out _).mono ?_); rintro e w1 ⟨rfl, rfl⟩) | ((with_reducible refine (H2.out _).mono ?_); rintro e w1 ⟨rfl, rfl⟩))
      go_ret
      exact ⟨ret_bool HF.out.symm, Drawn.refl _⟩
  · have H1 := Lib.hid (fun w => l1In_no' (a := m) (lo := 1) (hi := 7) (by omega) w)
    have HF := Lib.hid (boxB_false (xs := xs) (k := k) (m := m) (fun h => h1 ⟨h.1, h.2.1⟩))
    clear hs h1
    go_enter Try.func64, Try.ntmps64
    go_wp2_with (go_at_call 82; refine (H1.out _).mono ?_; rintro e w1 ⟨rfl, rfl⟩)
    go_ret
    exact ⟨ret_bool HF.out.symm, Drawn.refl _⟩
theorem isBox_any (k m : Int) (w : World) :
    Calls Try.prog 99 #[.int .i64 k, .int .i64 m] w fun e w' => e = .returned (.bool (decide (1 ≤ m ∧ m ≤ 7 ∧ 0 ≤ k ∧ k ≤ m))) ∧ w = w' := by
  by_cases h1 : 1 ≤ m ∧ m ≤ 7
  · have H1 := Lib.hid (fun w => isPermSize_yes h1.1 h1.2 w)
    by_cases h2 : 0 ≤ k
    · rw [show decide (1 ≤ m ∧ m ≤ 7 ∧ 0 ≤ k ∧ k ≤ m) = decide (k ≤ m) by simp [h1.1, h1.2, h2]]
      clear h1
      go_enter Try.func99, Try.ntmps99
      go_wp2_with (go_at_call 157; refine (H1.out _).mono ?_; rintro e w1 ⟨rfl, rfl⟩)
      go_ret
      exact ⟨rfl, rfl⟩
    · rw [decide_eq_false (fun h => h2 h.2.2.1)]
      have h2' : k < 0 := by omega
      clear h1
      go_enter Try.func99, Try.ntmps99
      go_wp2_with (go_at_call 157; refine (H1.out _).mono ?_; rintro e w1 ⟨rfl, rfl⟩)
      go_ret
      exact ⟨rfl, rfl⟩
  · rw [decide_eq_false (fun h => h1 ⟨h.1, h.2.1⟩)]
    have H1 := Lib.hid (fun w => isPermSize_no (a := m) (by omega) w)
    clear h1
    go_enter Try.func99, Try.ntmps99
    go_wp2_with (go_at_call 157; refine (H1.out _).mono ?_; rintro e w1 ⟨rfl, rfl⟩)
    go_ret
    exact ⟨rfl, rfl⟩
set_option maxHeartbeats 1600000 in
theorem fitsInto_any (A : Option Addr) (n c : Nat) (xs : List Int) (k m : Int) (w : World) (hs : SI w A n xs) (hn : n ≤ 1099511627776) :
    Calls Try.prog 67 #[.slice A n c, .int .i64 k, .int .i64 m] w fun e w' => e = .returned (.bool (boxB xs k m)) ∧ Drawn w w' := by
  have HL := Lib.hid hs.1
  have HI := Lib.hid (implIsShape_any A n c xs w hs hn)
  have HB := Lib.hid (fun w => isBox_any k m w)
  cases hu : isShapeB xs with
  | false =>
    rw [hu] at HI
    have HF := Lib.hid (boxB_false (xs := xs) (k := k) (m := m) (fun h => by have := isShapeB_true h.2.2.2.2.1; rw [hu] at this; cases this))
    clear hu hs
    go_enter Try.func67, Try.ntmps67
    go_wp2_with (go_at_call 98; refine HI.out.mono ?_; rintro e w2 ⟨rfl, hd2⟩; have HD2 := Lib.hid hd2; clear hd2)
    go_ret
    exact ⟨ret_bool HF.out.symm, HD2.out⟩
  | true =>
    rw [hu] at HI
    by_cases h1 : 1 ≤ m ∧ m ≤ 7 ∧ 0 ≤ k ∧ k ≤ m
    · rw [decide_eq_true h1] at HB
      by_cases h3 : k < (n : Int)
      · have HF := Lib.hid (boxB_false (xs := xs) (k := k) (m := m) (fun h => by have := h.2.2.2.2.2.1; have := HL.out; omega))
        clear hu hs h1
        go_enter Try.func67, Try.ntmps67
        go_wp2_with (first
          | (go_at_call 98; refine HI.out.mono ?_; rintro e w2 ⟨rfl, hd2⟩; have HD2 := Lib.hid hd2; clear hd2)
          | (go_at_call 99; refine (HB.out _).mono ?_; rintro e w3 ⟨rfl, rfl⟩))
        go_ret
        exact ⟨ret_bool HF.out.symm, HD2.out⟩
      · have h3' : ¬ k < (n : Int) := h3
        have HV : Hid (boxB xs k m = decide (nth xs 0 ≤ m - k)) := Lib.hid (by
            unfold boxB
            rw [hu, HL.out, decide_eq_true h1.1, decide_eq_true h1.2.1, decide_eq_true h1.2.2.1, decide_eq_true h1.2.2.2, decide_eq_true (by omega : (n : Int) ≤ k)]
            simp)
        have hwr : IntKind.i64.wrap (m - k) = m - k := IntWalk.i64_in _ (by omega)
        by_cases h0 : n = 0
        · have HV0 : Hid (boxB xs k m = true) := Lib.hid (by rw [HV.out, nth_out (by rw [HL.out]; omega)]; simp; omega)
          subst h0
          clear hu hs h1 h3
          go_enter Try.func67, Try.ntmps67
          go_wp2_with (first
            | (go_at_call 98; refine HI.out.mono ?_; rintro e w2 ⟨rfl, hd2⟩; have HD2 := Lib.hid hd2; clear hd2)
            | (go_at_call 99; refine (HB.out _).mono ?_; rintro e w3 ⟨rfl, rfl⟩))
          go_ret
          exact ⟨ret_bool HV0.out.symm, HD2.out⟩
        · have h0I : ((n : Int) == 0) = false := by simpa using h0
          obtain ⟨b, o, rfl, hb, hc⟩ := hs.at_ (by omega)
          have hc0 := hc 0 (by omega)
          rw [Nat.add_zero] at hc0
          obtain ⟨x, hx⟩ : ∃ x, x = nth xs 0 := ⟨_, rfl⟩
          rw [← hx] at hc0 HV
          have hnI : (0 : Int) < (n : Int) := by omega
          have HC := Lib.hid hc0
          clear hu hs h1 h3 hc hx h0
          go_enter Try.func67, Try.ntmps67
          go_wp2_with (first
            | (go_at_call 98; refine HI.out.mono ?_; rintro e w2 ⟨rfl, hd2⟩; have HD2 := Lib.hid hd2; have hc2 : w2.cell? ⟨b, o, none⟩ = some (.int .i64 x) := ((hd2.below w.heap.size).cell (p := ⟨b, o, none⟩) hb).trans HC.out; clear hd2)
            | (go_at_call 99; refine (HB.out _).mono ?_; rintro e w3 ⟨rfl, rfl⟩))
          go_ret
          exact ⟨ret_bool HV.out.symm, HD2.out⟩
    · rw [decide_eq_false h1] at HB
      have HF := Lib.hid (boxB_false (xs := xs) (k := k) (m := m) (fun h => h1 ⟨h.1, h.2.1, h.2.2.1, h.2.2.2.1⟩))
      clear hu hs h1
      go_enter Try.func67, Try.ntmps67
      go_wp2_with (first
        | (go_at_call 98; refine HI.out.mono ?_; rintro e w2 ⟨rfl, hd2⟩; have HD2 := Lib.hid hd2; clear hd2)
        | (go_at_call 99; refine (HB.out _).mono ?_; rintro e w3 ⟨rfl, rfl⟩))
      go_ret
      exact ⟨ret_bool HF.out.symm, HD2.out⟩
end Go.Proofs.Ytfaegfhbbkicgaa
