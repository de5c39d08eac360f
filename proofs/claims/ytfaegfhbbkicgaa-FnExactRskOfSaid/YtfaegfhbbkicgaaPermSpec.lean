/-
  What a permutation is: the specification's test by its contract. Conditions: the length is at most 2^40.
-/
import Derived.Test.YtfaegfhbbkicgaaHelp
namespace Go.Proofs.Ytfaegfhbbkicgaa
open Go.RowKit

/-- Is a number among the first of a list (not unfolded by the walk). -/
def hasB (xs : List Int) (x : Int) : Bool := decide (x ∈ xs)
/-- Is place k of the list one that a permutation may have. -/
def goodAt (xs : List Int) (k : Nat) : Prop := 0 ≤ nth xs k ∧ nth xs k ≤ (xs.length : Int) - 1 ∧ hasB (xs.take k) (nth xs k) = false
instance (xs : List Int) (k : Nat) : Decidable (goodAt xs k) := by unfold goodAt; infer_instance
def isPermP (xs : List Int) : Prop := 1 ≤ xs.length ∧ xs.length ≤ 7 ∧ ∀ k, k < xs.length → goodAt xs k
/-- Is the list a permutation (not unfolded by the walk). -/
def isPermB (xs : List Int) : Bool := decide (1 ≤ xs.length) && decide (xs.length ≤ 7) && (List.range xs.length).all fun k => decide (goodAt xs k)
theorem isPermB_iff (xs : List Int) : isPermB xs = true ↔ isPermP xs := by
  simp [isPermB, isPermP, and_assoc]
theorem isPermB_true {xs : List Int} (h : isPermP xs) : isPermB xs = true := (isPermB_iff xs).2 h
theorem isPermB_false {xs : List Int} (h : ¬ isPermP xs) : isPermB xs = false := by
  cases hb : isPermB xs with
  | false => rfl
  | true => exact absurd ((isPermB_iff xs).1 hb) h
theorem hasB_nil (x : Int) : hasB [] x = false := by simp [hasB]
theorem hasB_hit {xs : List Int} {k : Nat} (hk : k < xs.length) : hasB xs (nth xs k) = true := by
  rw [nth_get hk]; simp [hasB]
theorem hasB_all {xs : List Int} {x : Int} (h : ∀ j, j < xs.length → nth xs j ≠ x) : hasB xs x = false := by
  simp only [hasB, decide_eq_false_iff_not]
  intro hm
  obtain ⟨j, hj, e⟩ := List.mem_iff_getElem.1 hm
  exact h j hj (by rw [nth_get hj]; exact e)

theorem l1In_any (a lo hi : Int) (w : World) :
    Calls Try.prog 82 #[.int .i64 a, .int .i64 lo, .int .i64 hi] w fun e w' => e = .returned (.bool (decide (lo ≤ a) && decide (a ≤ hi))) ∧ w = w' := by
  by_cases h1 : lo ≤ a
  · by_cases h2 : a ≤ hi
    · go_enter Try.func82, Try.ntmps82
      go_wp2
      go_ret
      exact ⟨ret_bool (by simp [h1, h2]), rfl⟩
    · go_enter Try.func82, Try.ntmps82
      go_wp2
      go_ret
      exact ⟨ret_bool (by simp [h2]), rfl⟩
  · have h1' : a < lo := by omega
    go_enter Try.func82, Try.ntmps82
    go_wp2
    go_ret
    exact ⟨ret_bool (by simp; intro; omega), rfl⟩
theorem l1In_yes' {a lo hi : Int} (h : lo ≤ a) (h' : a ≤ hi) (w : World) :
    Calls Try.prog 82 #[.int .i64 a, .int .i64 lo, .int .i64 hi] w fun e w' => e = .returned (.bool true) ∧ w = w' := by
  have := l1In_any a lo hi w
  simpa [h, h'] using this
theorem l1In_no' {a lo hi : Int} (h : a < lo ∨ hi < a) (w : World) :
    Calls Try.prog 82 #[.int .i64 a, .int .i64 lo, .int .i64 hi] w fun e w' => e = .returned (.bool false) ∧ w = w' := by
  have e : (decide (lo ≤ a) && decide (a ≤ hi)) = false := by simp; omega
  have := l1In_any a lo hi w
  rwa [e] at this
theorem l1In_yes {a lo hi : Int} (h : lo ≤ a) (h' : a ≤ hi) (w : World) :
    Calls Try.prog 82 #[.int .i64 a, .int .i64 lo, .int .i64 hi] w fun e w' => e = .returned (.bool true) ∧ Drawn w w' :=
  (l1In_yes' h h' w).mono fun _ _ ⟨he, hw⟩ => ⟨he, hw ▸ Drawn.refl _⟩
theorem l1In_no {a lo hi : Int} (h : a < lo ∨ hi < a) (w : World) :
    Calls Try.prog 82 #[.int .i64 a, .int .i64 lo, .int .i64 hi] w fun e w' => e = .returned (.bool false) ∧ Drawn w w' :=
  (l1In_no' h w).mono fun _ _ ⟨he, hw⟩ => ⟨he, hw ▸ Drawn.refl _⟩

set_option maxHeartbeats 400000 in
theorem l1Has_any (A : Option Addr) (n c : Nat) (xs : List Int) (x : Int) (w : World) (hs : SI w A n xs) (hn : n ≤ 1099511627776) :
    Calls Try.prog 152 #[.slice A n c, .int .i64 x] w fun e w' => e = .returned (.bool (hasB xs x)) ∧ Drawn w w' := by
  have hl := hs.1
  go_enter Try.func152, Try.ntmps152
  go_wp2
  go_loopw [5] (fun i wr => ∃ k : Nat, k ≤ n ∧ i = .int .i64 k ∧ Drawn w wr ∧ ∀ j, j < k → nth xs j ≠ x)
    (fun i _ => n - (intOf i).toNat)
  case atStart => exact ⟨0, Nat.zero_le _, rfl, Drawn.refl _, fun j hj => absurd hj (by omega)⟩
  case round =>
    obtain ⟨k, hk, rfl, hD, hall⟩ := hrel
    have HA := Lib.hid hall
    have hs := hD.si hs
    have HD := Lib.hid hD
    clear hall hD
    by_cases hlt : k < n
    · obtain ⟨b, o, rfl, hb, hc⟩ := hs.at_ (by omega)
      have hc1 := hc k hlt
      have HL := Lib.hid hl
      clear hc hs hl
      by_cases heq : nth xs k = x
      · have HE := Lib.hid heq
        rw [heq] at hc1
        clear heq
        go_wp2
        go_ret
        refine ⟨ret_bool ?_, HD.out⟩
        rw [← HE.out]
        exact (hasB_hit (by have := HL.out; omega)).symm
      · have HE := Lib.hid heq
        obtain ⟨y, hy⟩ : ∃ y, y = nth xs k := ⟨_, rfl⟩
        rw [← hy] at hc1 heq
        clear hy
        have hb : (y == x) = false := by simpa using heq
        clear heq
        go_wp2
        go_roundw
        case rel => exact ⟨k + 1, by omega, by go_num, HD.out, fun j hj => by
          rcases Nat.lt_or_ge j k with h | h
          · exact HA.out j h
          · obtain rfl : j = k := by omega
            exact HE.out⟩
        case measure => simp [intOf]; omega
    · have hkn : k = n := by omega
      subst hkn
      go_wp2
      go_ret
      refine ⟨ret_bool ?_, HD.out⟩
      exact (hasB_all (by rw [hl]; exact HA.out)).symm

set_option maxHeartbeats 800000 in
theorem specIsPerm_any (A : Option Addr) (n c : Nat) (xs : List Int) (w : World) (hs : SI w A n xs) (hnc : n ≤ c) (hn : n ≤ 1099511627776) :
    Calls Try.prog 107 #[.slice A n c] w fun e w' => e = .returned (.bool (isPermB xs)) ∧ Drawn w w' := by
  have hl := hs.1
  by_cases hsz : 1 ≤ n ∧ n ≤ 7
  · obtain ⟨hs1, hs7⟩ := hsz
    go_enter Try.func107, Try.ntmps107
    go_wp2_with (go_at_call 82; refine (l1In_yes (by omega) (by omega) _).mono ?_; rintro e w1 ⟨rfl, hD1⟩)
    go_loopw [3] (fun i wr => ∃ k : Nat, k ≤ n ∧ i = .int .i64 k ∧ Drawn w wr ∧ ∀ j, j < k → goodAt xs j)
      (fun i _ => n - (intOf i).toNat)
    case atStart => exact ⟨0, Nat.zero_le _, rfl, hD1, fun j hj => absurd hj (by omega)⟩
    case round =>
      obtain ⟨k, hk, rfl, hD, hall⟩ := hrel
      have HA := Lib.hid hall
      have HL := Lib.hid hl
      have HD := Lib.hid hD
      have hs := hD.si hs
      clear hall hl hD hD1
      by_cases hlt : k < n
      · obtain ⟨b, o, e1, hb, hc⟩ := hs.at_ (by omega)
        have hst := hs.take (k := k) (by omega)
        subst e1
        have hc1 := hc k hlt
        have HST := Lib.hid hst
        clear hc hs hst
        obtain ⟨x, hx⟩ : ∃ x, x = nth xs k := ⟨_, rfl⟩
        obtain ⟨ys, hy⟩ : ∃ ys, ys = xs.take k := ⟨_, rfl⟩
        rw [← hx] at hc1
        rw [← hy] at HST
        have HX := Lib.hid hx
        have HY := Lib.hid hy
        clear hx hy
        have hlI : (k : Int) < (n : Int) := by omega
        have hwr : IntKind.i64.wrap ((n : Int) - 1) = (n : Int) - 1 := IntWalk.i64_in _ (by omega)
        by_cases hr : 0 ≤ x ∧ x ≤ (n : Int) - 1
        · obtain ⟨hx0, hx1⟩ := hr
          go_wp2_with fail
          go_quiet ((first | (go_at_call 82; go_must (refine Calls.quiet_of (l1In_yes hx0 hx1 _))) | (go_at_call 152; exact Calls.quiet_of (l1Has_any _ _ _ ys _ _ HST.out (by omega)))))
          go_wp2
          · have hh : hasB ys x = true := by assumption
            go_ret
            refine ⟨ret_bool ?_, HD.out.drewN _⟩
            refine (isPermB_false ?_).symm
            intro hp
            obtain ⟨_, _, g3⟩ := (hp.2.2 k (by have := HL.out; omega))
            rw [← HX.out, ← HY.out, hh] at g3
            cases g3
          · have hh' : hasB ys x = false := by assumption
            have HG : goodAt xs k := by
              have e1 := HX.out
              have e2 := HY.out
              have e3 := HL.out
              refine ⟨by omega, by omega, by rw [← e1, ← e2]; exact hh'⟩
            go_roundw
            case rel => exact ⟨k + 1, by omega, by go_num, HD.out.drewN _, fun j hj => by
              rcases Nat.lt_or_ge j k with h | h
              · exact HA.out j h
              · obtain rfl : j = k := by omega
                exact HG⟩
            case measure => simp [intOf]; omega
        · go_wp2_with fail
          go_quiet ((first | (go_at_call 82; exact Calls.quiet_of (l1In_no (by omega) _))))
          go_wp2
          go_ret
          refine ⟨ret_bool ?_, HD.out.drewN _⟩
          refine (isPermB_false ?_).symm
          intro hp
          have := (hp.2.2 k (by have := HL.out; omega))
          obtain ⟨g1, g2, _⟩ := this
          rw [← HX.out] at g1 g2
          rw [HL.out] at g2
          exact hr ⟨g1, g2⟩
      · have hkn : k = n := by omega
        subst hkn
        go_wp2
        go_ret
        refine ⟨ret_bool ?_, HD.out⟩
        exact (isPermB_true ⟨by have := HL.out; omega, by have := HL.out; omega, by rw [HL.out]; exact HA.out⟩).symm
  · go_enter Try.func107, Try.ntmps107
    go_wp2_with (go_at_call 82; refine (l1In_no (by omega) _).mono ?_; rintro e w1 ⟨rfl, hD1⟩)
    go_ret
    refine ⟨ret_bool ?_, hD1⟩
    exact (isPermB_false (fun hp => hsz ⟨by have := hp.1; omega, by have := hp.2.1; omega⟩)).symm
theorem specIsPerm_is {A : Option Addr} {n : Nat} (c : Nat) {xs : List Int} {w : World} {b : Bool} (hb : isPermB xs = b) (hs : SI w A n xs) (hnc : n ≤ c) (hn : n ≤ 1099511627776) :
    Calls Try.prog 107 #[.slice A n c] w fun e w' => e = .returned (.bool b) ∧ Drawn w w' := by
  subst hb; exact specIsPerm_any A n c xs w hs hnc hn
theorem isPermB_P {xs : List Int} (h : isPermB xs = true) : isPermP xs := (isPermB_iff xs).1 h
theorem isPermP.range {xs : List Int} (h : isPermP xs) (k : Nat) (hk : k < xs.length) : 0 ≤ nth xs k ∧ nth xs k < (xs.length : Int) := by
  obtain ⟨h1, h2, _⟩ := h.2.2 k hk
  omega
end Go.Proofs.Ytfaegfhbbkicgaa
