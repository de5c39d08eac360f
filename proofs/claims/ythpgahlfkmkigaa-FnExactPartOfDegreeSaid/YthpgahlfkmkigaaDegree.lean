/-
  The degree of a polynomial, on both sides. Conditions: lengths below 2^40.
-/
import Derived.Test.YthpgahlfkmkigaaPolyOkI
namespace Go.Proofs.Ythpgahlfkmkigaa
open Go.RowKit

theorem sumN_small {e : List Int} (h7 : e.length = 7) (hs : smallE e = true) : ∀ k, k ≤ 7 → 0 ≤ sumN e k ∧ sumN e k ≤ 24 * (k : Int) := by
  intro k
  induction k with
  | zero => intro _; exact ⟨Int.le_refl _, by simp [sumN]⟩
  | succ k ih =>
    intro hk
    obtain ⟨h1, h2⟩ := ih (by omega)
    have := smallE_nth hs (k := k) (by omega)
    have e : sumN e (k + 1) = sumN e k + nth e k := rfl
    rw [e]
    omega
/-- The greatest degree among the first k terms; -1 if there is none. -/
def degN (ts : List Tm) : Nat → Int
  | 0 => -1
  | k + 1 => if degN ts k < sumN (tm ts k).1 7 then sumN (tm ts k).1 7 else degN ts k
def degPoly (ts : List Tm) : Int := if polyB ts = true then degN ts ts.length else -1
theorem degPoly_no {ts : List Tm} (h : polyB ts = false) : degPoly ts = -1 := by unfold degPoly; rw [if_neg (by rw [h]; decide)]
theorem degPoly_yes {ts : List Tm} (h : polyB ts = true) : degPoly ts = degN ts ts.length := by unfold degPoly; rw [if_pos h]

set_option maxHeartbeats 400000 in
theorem degree_any (A : Option Addr) (n c : Nat) (xs : List Int) (x : Int) (w : World) (hs : SI w A n xs) (hn : n ≤ 1099511627776) (hb : ∀ k, k ≤ n → -1099511627776 ≤ sumN xs k ∧ sumN xs k ≤ 1099511627776) :
    Calls Try.prog 60 #[.agg #[.slice A n c, .int .i64 x]] w fun r w' => r = .returned (.int .i64 (sumN xs n)) ∧ Below w.heap.size w w' := by
  have HBd := Lib.hid hb
  clear hb
  go_enter Try.func60, Try.ntmps60
  go_wp2
  have hb0 : Below w.heap.size w (w.alloc (.cells #[.slice A n c, .int .i64 x] 51)) := by go_grown
  have hs0 := hs.below hb0 (Nat.le_refl _)
  generalize (w.alloc (.cells #[.slice A n c, .int .i64 x] 51)) = w0 at *
  have HB := Lib.hid hb0
  clear hb0 hs
  go_loopw [3, 9] (fun v i wr => ∃ k : Nat, k ≤ n ∧ i = .int .i64 k ∧ v = .int .i64 (sumN xs k) ∧ Drawn w0 wr)
    (fun _ i _ => n - (intOf i).toNat)
  case atStart => exact ⟨0, Nat.zero_le _, rfl, rfl, Drawn.refl _⟩
  case round =>
    obtain ⟨k, hk, rfl, rfl, hD⟩ := hrel
    have hs := hD.si hs0
    have HD := Lib.hid hD
    clear hD
    by_cases hlt : k < n
    · obtain ⟨b, o, rfl, hb, hc⟩ := hs.at_ (by omega)
      have hc1 := hc k hlt
      obtain ⟨p, hp⟩ : ∃ p, p = nth xs k := ⟨_, rfl⟩
      obtain ⟨y, hy⟩ : ∃ y, y = sumN xs k := ⟨_, rfl⟩
      have h1 := HBd.out k (by omega)
      have h2 := HBd.out (k + 1) (by omega)
      have e : sumN xs (k + 1) = sumN xs k + nth xs k := rfl
      rw [← hp, ← hy] at e
      rw [e] at h2
      rw [← hy] at h1 ⊢
      rw [← hp] at hc1
      obtain ⟨h21, h22⟩ := h2
      have HE := Lib.hid e
      have hlI : (k : Int) < (n : Int) := by omega
      clear hc hs hs0 hp hy e
      go_wp2
      go_roundw
      case rel => exact ⟨k + 1, by omega, by go_num, by rw [HE.out], HD.out⟩
      case measure => simp [intOf]; omega
    · have hkn : k = n := by omega
      subst hkn
      go_wp2
      go_ret
      exact ⟨rfl, HB.out.trans (HD.out.below _)⟩

set_option maxHeartbeats 800000 in
theorem specDegree_any (A : Option Addr) (n c : Nat) (ts : List Tm) (w : World) (hs : TS w A n ts) (hn : n ≤ 1099511627776) (hne : ∀ k, k < n → (tm ts k).1.length ≤ 1099511627776) :
    Calls Try.prog 29 #[.slice A n c] w fun r w' => r = .returned (.int .i64 (degPoly ts)) ∧ Drawn w w' := by
  have HL := Lib.hid hs.1
  have hP := specPolyOk_any A n c ts w hs hn hne
  cases hu : polyB ts with
  | false =>
    rw [hu] at hP
    have HP := Lib.hid hP
    have HE := Lib.hid (degPoly_no hu)
    clear hP hu
    go_enter Try.func29, Try.ntmps29
    go_wp2_with fail
    refine HP.out.mono ?_
    rintro r w1 ⟨rfl, hd1⟩
    go_wp2
    go_ret
    exact ⟨ret_int HE.out.symm, hd1⟩
  | true =>
    rw [hu] at hP
    have HP := Lib.hid hP
    have HE := Lib.hid (degPoly_yes hu)
    have HU := Lib.hid hu
    clear hP hu
    go_enter Try.func29, Try.ntmps29
    go_wp2_with fail
    refine HP.out.mono ?_
    rintro r w1 ⟨rfl, hd1⟩
    have HD1 := Lib.hid hd1
    go_wp2
    go_loopw [3, 4] (fun v i wr => ∃ k : Nat, k ≤ n ∧ i = .int .i64 k ∧ v = .int .i64 (degN ts k) ∧ Drawn w wr)
      (fun _ i _ => n - (intOf i).toNat)
    case atStart => exact ⟨0, Nat.zero_le _, rfl, rfl, hd1⟩
    case round =>
      obtain ⟨k, hk, rfl, rfl, hD⟩ := hrel
      have HD := Lib.hid hD
      have hts := hs.drawn hD
      clear hD hs hd1
      by_cases hlt : k < n
      · have hlI : (k : Int) < (n : Int) := by omega
        obtain ⟨b, o, A2, n2, c2, rfl, hb, hc0, hc1, hsi, hnc, hnil⟩ := hts.at_ hlt
        have hg := (goodT_iff _).1 (polyB_good HU.out (k := k) (by rw [HL.out]; exact hlt))
        obtain rfl : n2 = 7 := by rw [← hsi.1]; exact hg.1
        have hS := l1Sum_any A2 7 c2 (tm ts k).1 wr hsi (by omega) (fun j hj => by have := sumN_small hg.1 hg.2.1 j hj; omega)
        have e : degN ts (k + 1) = if degN ts k < sumN (tm ts k).1 7 then sumN (tm ts k).1 7 else degN ts k := rfl
        obtain ⟨x, hx⟩ : ∃ x, x = sumN (tm ts k).1 7 := ⟨_, rfl⟩
        obtain ⟨y, hy⟩ : ∃ y, y = degN ts k := ⟨_, rfl⟩
        rw [← hx, ← hy] at e
        rw [← hx] at hS
        rw [← hy]
        have HS := Lib.hid hS
        have HEE := Lib.hid e
        clear hts hc1 hsi hnil hg hS e hx hy
        go_wp2_with fail
        refine HS.out.mono ?_
        rintro r w2 ⟨rfl, hD2⟩
        have HD2 := Lib.hid (HD.out.trans hD2)
        clear hD2
        go_wp2
        go_roundw
        case rel => exact ⟨k + 1, by omega, by go_num, by rw [HEE.out], HD2.out⟩
        case measure => simp [intOf]; omega
      · have hkn : k = n := by omega
        subst hkn
        go_wp2
        go_ret
        exact ⟨ret_int (by rw [HE.out, HL.out]), HD.out⟩
set_option maxHeartbeats 800000 in
theorem implDegree_any (A : Option Addr) (n c : Nat) (ts : List Tm) (w : World) (hs : TS w A n ts) (hn : n ≤ 1099511627776) (hne : ∀ k, k < n → (tm ts k).1.length ≤ 1099511627776) :
    Calls Try.prog 30 #[.slice A n c] w fun r w' => r = .returned (.int .i64 (degPoly ts)) ∧ Below w.heap.size w w' := by
  have HL := Lib.hid hs.1
  have hP := implPolyOk_any A n c ts w hs hn hne
  cases hu : polyB ts with
  | false =>
    rw [hu] at hP
    have HP := Lib.hid hP
    have HE := Lib.hid (degPoly_no hu)
    clear hP hu
    go_enter Try.func30, Try.ntmps30
    go_wp2_with fail
    refine HP.out.mono ?_
    rintro r w1 ⟨rfl, hd1⟩
    go_wp2
    go_ret
    exact ⟨ret_int HE.out.symm, hd1⟩
  | true =>
    rw [hu] at hP
    have HP := Lib.hid hP
    have HE := Lib.hid (degPoly_yes hu)
    have HU := Lib.hid hu
    clear hP hu
    go_enter Try.func30, Try.ntmps30
    go_wp2_with fail
    refine HP.out.mono ?_
    rintro r w1 ⟨rfl, hd1⟩
    have HD1 := Lib.hid hd1
    go_wp2
    go_loopw [3, 12] (fun v i wr => ∃ k : Nat, k ≤ n ∧ i = .int .i64 k ∧ v = .int .i64 (degN ts k) ∧ Below w.heap.size w wr)
      (fun _ i _ => n - (intOf i).toNat)
    case atStart => exact ⟨0, Nat.zero_le _, rfl, rfl, hd1⟩
    case round =>
      obtain ⟨k, hk, rfl, rfl, hD⟩ := hrel
      have HD := Lib.hid hD
      have hts := hs.below hD (Nat.le_refl _)
      clear hD hs hd1
      by_cases hlt : k < n
      · have hlI : (k : Int) < (n : Int) := by omega
        obtain ⟨b, o, A2, n2, c2, rfl, hb, hc0, hc1, hsi, hnc, hnil⟩ := hts.at_ hlt
        have hg := (goodT_iff _).1 (polyB_good HU.out (k := k) (by rw [HL.out]; exact hlt))
        obtain rfl : n2 = 7 := by rw [← hsi.1]; exact hg.1
        obtain ⟨z, hz⟩ : ∃ z, z = (tm ts k).2 := ⟨_, rfl⟩
        rw [← hz] at hc1
        have hS := degree_any A2 7 c2 (tm ts k).1 z (wr.alloc (.cells #[.slice A2 7 c2, .int .i64 z] 51)) (hsi.alloc _) (by omega) (fun j hj => by have := sumN_small hg.1 hg.2.1 j hj; omega)
        have e : degN ts (k + 1) = if degN ts k < sumN (tm ts k).1 7 then sumN (tm ts k).1 7 else degN ts k := rfl
        obtain ⟨x, hx⟩ : ∃ x, x = sumN (tm ts k).1 7 := ⟨_, rfl⟩
        obtain ⟨y, hy⟩ : ∃ y, y = degN ts k := ⟨_, rfl⟩
        rw [← hx, ← hy] at e
        rw [← hx] at hS
        rw [← hy]
        have HS := Lib.hid hS
        have HEE := Lib.hid e
        clear hts hsi hnil hg hS e hx hy hz
        go_wp2_with fail
        refine HS.out.mono ?_
        rintro r w2 ⟨rfl, hD2⟩
        have HD2 := Lib.hid ((HD.out.alloc HD.out.size (.cells #[.slice A2 7 c2, .int .i64 z] 51)).trans (hD2.mono (by have := HD.out.size; simp; omega)))
        clear hD2
        go_wp2
        go_roundw
        case rel => exact ⟨k + 1, by omega, by go_num, by rw [HEE.out], HD2.out⟩
        case measure => simp [intOf]; omega
      · have hkn : k = n := by omega
        subst hkn
        go_wp2
        go_ret
        exact ⟨ret_int (by rw [HE.out, HL.out]), HD.out⟩
end Go.Proofs.Ythpgahlfkmkigaa
