/-
  Texts Mok to TermHelp, merged. Conditions: as each says.
-/
import Derived.Deep.Cut
import Derived.Deep.DeepAppendRoom
import Derived.Lib.AppendZeros
import Derived.Laws.CopyOwn
import Derived.StillTailTactics
import Derived.Deep.AppendLies
import Derived.BigRegion
import Derived.Test.YtbkhibojbakckaaPkB1
/-
  Whether a matrix is one: both sides. Conditions: lengths below 2^40.
-/



namespace Go.Proofs.Ytbkhibojbakckaa
open Go.RowKit

instance P7.dec (p : Int) : Decidable (P7 p) := by unfold P7; exact inferInstance
def matP (p r c : Int) (xs : List Int) : Prop := P7 p ∧ (0 ≤ r ∧ r ≤ 7) ∧ (1 ≤ c ∧ c ≤ 7) ∧ (xs.length : Int) = r * c ∧ ∀ k, k < xs.length → 0 ≤ nth xs k ∧ nth xs k < p
instance matP.dec (p r c : Int) (xs : List Int) : Decidable (matP p r c xs) := by unfold matP; exact inferInstance
def matB (p r c : Int) (xs : List Int) : Bool := decide (matP p r c xs)
theorem matB_false {p r c : Int} {xs : List Int} (h : ¬ matP p r c xs) : matB p r c xs = false := decide_eq_false h
theorem matB_true {p r c : Int} {xs : List Int} (h : matP p r c xs) : matB p r c xs = true := decide_eq_true h
theorem matB_P {p r c : Int} {xs : List Int} (h : matB p r c xs = true) : matP p r c xs := of_decide_eq_true h
theorem mul_small {r c : Int} (hr : 0 ≤ r ∧ r ≤ 7) (hc : 0 ≤ c ∧ c ≤ 7) : 0 ≤ r * c ∧ r * c ≤ 49 := by
  have h1 : 0 ≤ r * c := Int.mul_nonneg hr.1 hc.1
  have h2 : r * c ≤ 7 * 7 := Int.mul_le_mul hr.2 hc.2 hc.1 (by decide)
  omega
theorem l7Prime_yes {p : Int} (h : P7 p) (w : World) : Calls Try.prog 95 #[.int .i64 p] w fun e w' => e = .returned (.bool true) ∧ w = w' := by
  rcases h with rfl | rfl | rfl | rfl <;>
  · go_enter Try.func95, Try.ntmps95
    go_wp2
    go_ret
    exact ⟨rfl, rfl⟩
theorem l7Prime_no {p : Int} (h : ¬ P7 p) (w : World) : Calls Try.prog 95 #[.int .i64 p] w fun e w' => e = .returned (.bool false) ∧ w = w' := by
  unfold P7 at h
  have h2 : (p == 2) = false := by simp; omega
  have h3 : (p == 3) = false := by simp; omega
  have h5 : (p == 5) = false := by simp; omega
  have h7 : (p == 7) = false := by simp; omega
  clear h
  go_enter Try.func95, Try.ntmps95
  go_wp2
  go_ret
  exact ⟨rfl, rfl⟩
theorem isModulus_yes {p : Int} (h : P7 p) (w : World) : Calls Try.prog 100 #[.int .i64 p] w fun e w' => e = .returned (.bool true) ∧ w = w' := by
  rcases h with rfl | rfl | rfl | rfl <;>
  · go_enter Try.func100, Try.ntmps100
    go_wp2
    go_ret
    exact ⟨rfl, rfl⟩
theorem isModulus_no {p : Int} (h : ¬ P7 p) (w : World) : Calls Try.prog 100 #[.int .i64 p] w fun e w' => e = .returned (.bool false) ∧ w = w' := by
  unfold P7 at h
  have h2 : (p == 2) = false := by simp; omega
  have h3 : (p == 3) = false := by simp; omega
  have h5 : (p == 5) = false := by simp; omega
  have h7 : (p == 7) = false := by simp; omega
  clear h
  go_enter Try.func100, Try.ntmps100
  go_wp2
  go_ret
  exact ⟨rfl, rfl⟩
theorem isNone_any (p x : Int) (g : Nat) (w : World) (hk : w.cell? ⟨g, 0, none⟩ = some (.int .i64 p)) :
    Calls Try.prog 181 #[.int .i64 x, .pointer (some ⟨g, 0, none⟩)] w fun e w' => e = .returned (.bool (decide (¬ (0 ≤ x ∧ x < p)))) ∧ w = w' := by
  by_cases h0 : x < 0
  · have HE : Hid (true = decide (¬ (0 ≤ x ∧ x < p))) := Lib.hid (decide_eq_true (by omega)).symm
    go_enter Try.func181, Try.ntmps181
    go_wp2
    go_ret
    first | exact ⟨ret_bool HE.out, rfl⟩ | exact ⟨rfl, rfl⟩
  · by_cases h1 : x ≥ p
    · have HE : Hid (true = decide (¬ (0 ≤ x ∧ x < p))) := Lib.hid (decide_eq_true (by omega)).symm
      go_enter Try.func181, Try.ntmps181
      go_wp2
      go_ret
      first | exact ⟨ret_bool HE.out, rfl⟩ | exact ⟨rfl, rfl⟩
    · have HE : Hid (false = decide (¬ (0 ≤ x ∧ x < p))) := Lib.hid (decide_eq_false (by omega)).symm
      go_enter Try.func181, Try.ntmps181
      go_wp2
      go_ret
      first | exact ⟨ret_bool HE.out, rfl⟩ | exact ⟨rfl, rfl⟩
set_option maxHeartbeats 800000 in
theorem indexNone_any (A : Option Addr) (n c : Nat) (xs : List Int) (p : Int) (g : Nat) (w : World) (hs : SI w A n xs) (hn : n ≤ 1099511627776) (hk : w.cell? ⟨g, 0, none⟩ = some (.int .i64 p)) :
    Calls Try.prog 155 #[.slice A n c, .func (.func 181) #[] #[.pointer (some ⟨g, 0, none⟩)]] w fun r w' =>
      ∃ i : Int, r = .returned (.int .i64 i) ∧ (i < 0 ∧ (∀ k, k < n → 0 ≤ nth xs k ∧ nth xs k < p) ∨ 0 ≤ i ∧ ∃ k, k < n ∧ ¬ (0 ≤ nth xs k ∧ nth xs k < p)) ∧ Drawn w w' := by
  have HF : Hid (∀ w', Drawn w w' → ∀ y, Calls Try.prog 181 #[.int .i64 y, .pointer (some ⟨g, 0, none⟩)] w' fun e w2 => e = .returned (.bool (decide (¬ (0 ≤ y ∧ y < p)))) ∧ w' = w2) := Lib.hid (fun w' hd y => isNone_any p y g w' (by obtain ⟨m, rfl⟩ := hd; exact hk))
  clear hk
  go_enter Try.func155, Try.ntmps155
  go_wp2
  go_loopw [8] (fun i wr => ∃ k : Nat, k ≤ n ∧ i = .int .i64 k ∧ Drawn w wr ∧ ∀ j, j < k → 0 ≤ nth xs j ∧ nth xs j < p)
    (fun i _ => n - (intOf i).toNat)
  case atStart => exact ⟨0, Nat.zero_le _, rfl, Drawn.refl _, fun j hj => absurd hj (by omega)⟩
  case round =>
    obtain ⟨k, hk, rfl, hD, hall⟩ := hrel
    have HA := Lib.hid hall
    have HDR := Lib.hid hD
    have hs := hD.si hs
    clear hall hD
    by_cases hlt : k < n
    · have hlI : (k : Int) < (n : Int) := by omega
      obtain ⟨b, o, rfl, hb, hc⟩ := hs.at_ (by omega)
      have hc1 := hc k hlt
      obtain ⟨y, hy⟩ : ∃ y, y = nth xs k := ⟨_, rfl⟩
      rw [← hy] at hc1
      have HY := Lib.hid hy
      clear hc hy hs
      by_cases hg : 0 ≤ y ∧ y < p
      · have HG := Lib.hid hg
        have HF2 := Lib.hid (HF.out wr HDR.out y)
        rw [decide_eq_false (fun h => h hg)] at HF2
        clear hg
        go_wp2_with (go_at_call 181; refine HF2.out.mono ?_; rintro r w2 ⟨rfl, rfl⟩)
        go_roundw
        case rel => exact ⟨k + 1, by omega, by go_num, HDR.out, fun j hj => by
          rcases Nat.lt_or_ge j k with h | h
          · exact HA.out j h
          · obtain rfl : j = k := by omega
            rw [← HY.out]; exact HG.out⟩
        case measure => simp [intOf]; omega
      · have HG := Lib.hid hg
        have HF2 := Lib.hid (HF.out wr HDR.out y)
        rw [decide_eq_true hg] at HF2
        clear hg
        go_wp2_with (go_at_call 181; refine HF2.out.mono ?_; rintro r w2 ⟨rfl, rfl⟩)
        go_ret
        exact ⟨(k : Int), rfl, .inr ⟨by omega, k, hlt, by rw [← HY.out]; exact HG.out⟩, HDR.out⟩
    · have hkn : k = n := by omega
      subst hkn
      go_wp2
      go_ret
      exact ⟨-1, rfl, .inl ⟨by omega, HA.out⟩, HDR.out⟩
set_option maxHeartbeats 400000 in
theorem containsNone_is (b : Bool) (A : Option Addr) (n c : Nat) (xs : List Int) (p : Int) (g : Nat) (w : World) (hs : SI w A n xs) (hn : n ≤ 1099511627776) (hk : w.cell? ⟨g, 0, none⟩ = some (.int .i64 p)) (hb : b = false ↔ ∀ k, k < n → 0 ≤ nth xs k ∧ nth xs k < p) :
    Calls Try.prog 115 #[.slice A n c, .func (.func 181) #[] #[.pointer (some ⟨g, 0, none⟩)]] w fun r w' => r = .returned (.bool b) ∧ Drawn w w' := by
  have HC := Lib.hid (indexNone_any A n c xs p g w hs hn hk)
  have HBB := Lib.hid hb
  clear hs hk hb
  go_enter Try.func115, Try.ntmps115
  go_wp2_with (go_at_call 155; refine HC.out.mono ?_; rintro r w2 ⟨i, rfl, hi, hd⟩; have HI := Lib.hid hi; have HD := Lib.hid hd; clear hi hd)
  go_ret
  refine ⟨ret_bool ?_, HD.out⟩
  rcases HI.out with ⟨h1, h2⟩ | ⟨h1, k, hk, h2⟩
  · rw [HBB.out.2 h2]
    simp only [decide_eq_false_iff_not]; omega
  · have hbt : b = true := by
      cases b with
      | true => rfl
      | false => exact absurd (HBB.out.1 rfl k hk) h2
    rw [hbt]
    simp only [decide_eq_true_eq]; omega
end Go.Proofs.Ytbkhibojbakckaa

/-
  Whether a matrix is one: the document's function and the program's. Conditions: lengths below 2^40.
-/

namespace Go.Proofs.Ytbkhibojbakckaa
open Go.RowKit

set_option maxRecDepth 100000 in
set_option maxHeartbeats 4000000 in
theorem specMatrixOk_any (p r c : Int) (A : Option Addr) (n k : Nat) (xs : List Int) (w : World) (hs : SI w A n xs) (hn : n ≤ 1099511627776) :
    Calls Try.prog 136 #[.agg #[.int .i64 p, .int .i64 r, .int .i64 c, .slice A n k]] w fun e w' => e = .returned (.bool (matB p r c xs)) ∧ Below w.heap.size w w' := by
  obtain ⟨w1, hw1⟩ : ∃ w1, w1 = w.alloc (.cells #[.int .i64 p, .int .i64 r, .int .i64 c, .slice A n k] 27) := ⟨_, rfl⟩
  obtain ⟨g, hg⟩ : ∃ g, g = w.heap.size := ⟨_, rfl⟩
  have hk : Blk w1 g 27 #[.int .i64 p, .int .i64 r, .int .i64 c, .slice A n k] := by rw [hw1, hg]; exact Blk.new _ _ _
  have hb : Below w.heap.size w w1 := by rw [hw1]; exact Below.alloc_self _ _
  have HB := Lib.hid hb
  have HW := Lib.hid hw1
  have HG := Lib.hid hg
  have HK := Lib.hid hk
  have HL := Lib.hid hs.1
  have HS := Lib.hid (hs.below hb (Nat.le_refl _))
  obtain ⟨q0, q1, q2, q3⟩ := cells4 hk
  clear hb hw1 hg hk hs
  by_cases hneg : P7 p
  case neg =>
    have HP := Lib.hid (fun w => l7Prime_no hneg w)
    have HF := Lib.hid (matB_false (p := p) (r := r) (c := c) (xs := xs) (fun h => hneg h.1))
    clear hneg
    go_enter Try.func136, Try.ntmps136
    go_upto_region 1 with fail
    rw [← HW.out, ← HG.out]
    go_wp2_with (first | (go_at_call 95; with_reducible refine (HP.out _).mono ?_; rintro e w2 ⟨rfl, rfl⟩))
    go_ret
    exact ⟨ret_bool HF.out.symm, HB.out⟩
  case pos =>
    have HP := Lib.hid (fun w => l7Prime_yes hneg w)
    have HP7 := Lib.hid hneg
    clear hneg
    by_cases hneg : 0 ≤ r ∧ r ≤ 7
    case neg =>
      have HR := Lib.hid (fun w => l1In_no' (a := r) (lo := 0) (hi := 7) (by omega) w)
      have HF := Lib.hid (matB_false (p := p) (r := r) (c := c) (xs := xs) (fun h => hneg h.2.1))
      clear hneg
      go_enter Try.func136, Try.ntmps136
      go_upto_region 1 with fail
      rw [← HW.out, ← HG.out]
      go_wp2_with (first | (go_at_call 95; with_reducible refine (HP.out _).mono ?_; rintro e w2 ⟨rfl, rfl⟩) | (go_at_call 110; with_reducible refine (HR.out _).mono ?_; rintro e w2 ⟨rfl, rfl⟩))
      go_ret
      exact ⟨ret_bool HF.out.symm, HB.out⟩
    case pos =>
      have HR := Lib.hid (fun w => l1In_yes' (a := r) (lo := 0) (hi := 7) hneg.1 hneg.2 w)
      have HRB := Lib.hid hneg
      clear hneg
      by_cases hneg : 1 ≤ c ∧ c ≤ 7
      case neg =>
        have HC := Lib.hid (fun w => l1In_no' (a := c) (lo := 1) (hi := 7) (by omega) w)
        have HF := Lib.hid (matB_false (p := p) (r := r) (c := c) (xs := xs) (fun h => hneg h.2.2.1))
        clear hneg
        go_enter Try.func136, Try.ntmps136
        go_upto_region 1 with fail
        rw [← HW.out, ← HG.out]
        go_wp2_with (first | (go_at_call 95; with_reducible refine (HP.out _).mono ?_; rintro e w2 ⟨rfl, rfl⟩) | (go_at_call 110; with_reducible refine (HR.out _).mono ?_; rintro e w2 ⟨rfl, rfl⟩) | (go_at_call 110; with_reducible refine (HC.out _).mono ?_; rintro e w2 ⟨rfl, rfl⟩))
        go_ret
        exact ⟨ret_bool HF.out.symm, HB.out⟩
      case pos =>
        have HC := Lib.hid (fun w => l1In_yes' (a := c) (lo := 1) (hi := 7) hneg.1 hneg.2 w)
        have HCB := Lib.hid hneg
        clear hneg
        obtain ⟨rc, hrc⟩ : ∃ rc, rc = r * c := ⟨_, rfl⟩
        have hrcb := mul_small HRB.out ⟨by have := HCB.out; omega, HCB.out.2⟩
        rw [← hrc] at hrcb
        have hwr : IntKind.i64.wrap (r * c) = rc := by rw [← hrc]; exact IntWalk.i64_in _ (by omega)
        have HRC := Lib.hid hrc
        clear hrc
        by_cases hneg : (n : Int) = rc
        case neg =>
          have hb1 : ((n : Int) != rc) = true := by simpa using hneg
          have HF := Lib.hid (matB_false (p := p) (r := r) (c := c) (xs := xs) (fun h => hneg (by have := h.2.2.2.1; rw [HL.out, ← HRC.out] at this; exact this)))
          clear hneg
          go_enter Try.func136, Try.ntmps136
          go_upto_region 1 with fail
          rw [← HW.out, ← HG.out]
          go_wp2_with (first | (go_at_call 95; with_reducible refine (HP.out _).mono ?_; rintro e w2 ⟨rfl, rfl⟩) | (go_at_call 110; with_reducible refine (HR.out _).mono ?_; rintro e w2 ⟨rfl, rfl⟩) | (go_at_call 110; with_reducible refine (HC.out _).mono ?_; rintro e w2 ⟨rfl, rfl⟩))
          go_ret
          exact ⟨ret_bool HF.out.symm, HB.out⟩
        case pos =>
          have hb1 : ((n : Int) != rc) = false := by simpa using hneg
          have HN := Lib.hid hneg
          clear hneg
          have hn49 : n ≤ 49 := by have := HN.out; omega
          have HPB : Hid (2 ≤ p ∧ p ≤ 7) := Lib.hid ⟨HP7.out.two, HP7.out.le⟩
          go_enter Try.func136, Try.ntmps136
          go_upto_region 1 with fail
          rw [← HW.out, ← HG.out]
          go_wp2_with (first | (go_at_call 95; with_reducible refine (HP.out _).mono ?_; rintro e w2 ⟨rfl, rfl⟩) | (go_at_call 110; with_reducible refine (HR.out _).mono ?_; rintro e w2 ⟨rfl, rfl⟩) | (go_at_call 110; with_reducible refine (HC.out _).mono ?_; rintro e w2 ⟨rfl, rfl⟩))
          clear hwr hb1 q0 q1 q2 q3
          go_loopw [3] (fun iv wr => ∃ i : Nat, i ≤ n ∧ iv = .int .i64 i ∧ Drawn w1 wr ∧ ∀ j, j < i → 0 ≤ nth xs j ∧ nth xs j < p)
            (fun iv _ => n - (intOf iv).toNat)
          case atStart => exact ⟨0, Nat.zero_le _, rfl, Drawn.refl _, fun j hj => absurd hj (by omega)⟩
          case round =>
            obtain ⟨i, hi, rfl, hD, hall⟩ := hrel
            have HD := Lib.hid hD
            have HA := Lib.hid hall
            have hsi := hD.si HS.out
            obtain ⟨q0, q1, q2, q3⟩ := cells4 (HK.out.drawn hD)
            clear hD hall
            by_cases hlt : i < n
            case neg =>
              have hin : i = n := by omega
              subst hin
              have HT := Lib.hid (matB_true (p := p) (r := r) (c := c) (xs := xs) ⟨HP7.out, HRB.out, HCB.out, by rw [HL.out, ← HRC.out]; exact HN.out, by rw [HL.out]; exact HA.out⟩)
              clear hsi
              go_wp2
              go_ret
              exact ⟨ret_bool HT.out.symm, HB.out.trans (HD.out.below _)⟩
            case pos =>
              have hlI : (i : Int) < (n : Int) := by omega
              obtain ⟨b, o, rfl, hbb, hc⟩ := hsi.at_ (by omega)
              have hc1 := hc i hlt
              obtain ⟨y, hy⟩ : ∃ y, y = nth xs i := ⟨_, rfl⟩
              rw [← hy] at hc1
              have HY := Lib.hid hy
              clear hc hy hsi
              have hp1 : IntKind.i64.wrap (p - 1) = p - 1 := IntWalk.i64_in _ (by have := HPB.out; omega)
              by_cases hg : 0 ≤ y ∧ y < p
              · have HG := Lib.hid hg
                have HI := Lib.hid (fun (w : World) (m : Nat) => Calls.quiet_of (l1In_yes (a := y) (lo := 0) (hi := p - 1) hg.1 (by omega) (w.drewN m)))
                clear hg
                go_wp2_with fail
                go_quiet ((go_at_call 110; with_reducible exact HI.out _ _))
                go_wp2
                go_roundw
                case rel => exact ⟨i + 1, by omega, by go_num, HD.out.drewN _, fun j hj => by
                  rcases Nat.lt_or_ge j i with h | h
                  · exact HA.out j h
                  · obtain rfl : j = i := by omega
                    rw [← HY.out]; exact HG.out⟩
                case measure => simp [intOf]; omega
              · have HF := Lib.hid (matB_false (p := p) (r := r) (c := c) (xs := xs) (fun h => hg (by have := h.2.2.2.2 i (by rw [HL.out]; exact hlt); rw [← HY.out] at this; exact this)))
                have HI := Lib.hid (fun (w : World) (m : Nat) => Calls.quiet_of (l1In_no (a := y) (lo := 0) (hi := p - 1) (by omega) (w.drewN m)))
                clear hg
                go_wp2_with fail
                go_quiet ((go_at_call 110; with_reducible exact HI.out _ _))
                go_wp2
                go_ret
                exact ⟨ret_bool HF.out.symm, HB.out.trans ((HD.out.drewN _).below _)⟩
set_option maxRecDepth 100000 in
set_option maxHeartbeats 4000000 in
theorem implMatrixOk_any (p r c : Int) (A : Option Addr) (n k : Nat) (xs : List Int) (w : World) (hs : SI w A n xs) (hn : n ≤ 1099511627776) :
    Calls Try.prog 133 #[.agg #[.int .i64 p, .int .i64 r, .int .i64 c, .slice A n k]] w fun e w' => e = .returned (.bool (matB p r c xs)) ∧ Below w.heap.size w w' := by
  obtain ⟨w1, hw1⟩ : ∃ w1, w1 = w.alloc (.cells #[.int .i64 p, .int .i64 r, .int .i64 c, .slice A n k] 27) := ⟨_, rfl⟩
  obtain ⟨g, hg⟩ : ∃ g, g = w.heap.size := ⟨_, rfl⟩
  have hk : Blk w1 g 27 #[.int .i64 p, .int .i64 r, .int .i64 c, .slice A n k] := by rw [hw1, hg]; exact Blk.new _ _ _
  have hb : Below w.heap.size w w1 := by rw [hw1]; exact Below.alloc_self _ _
  have HB := Lib.hid hb
  have HW := Lib.hid hw1
  have HG := Lib.hid hg
  have HK := Lib.hid hk
  have HL := Lib.hid hs.1
  have HS := Lib.hid (hs.below hb (Nat.le_refl _))
  obtain ⟨q0, q1, q2, q3⟩ := cells4 hk
  clear hb hw1 hg hk hs
  by_cases hneg : P7 p
  case neg =>
    have HP := Lib.hid (fun w => isModulus_no hneg w)
    have HF := Lib.hid (matB_false (p := p) (r := r) (c := c) (xs := xs) (fun h => hneg h.1))
    clear hneg
    go_enter Try.func133, Try.ntmps133
    go_upto_region 1 with fail
    rw [← HW.out, ← HG.out]
    go_wp2_with (first | (go_at_call 100; with_reducible refine (HP.out _).mono ?_; rintro e w2 ⟨rfl, rfl⟩))
    go_ret
    exact ⟨ret_bool HF.out.symm, HB.out⟩
  case pos =>
    have HP := Lib.hid (fun w => isModulus_yes hneg w)
    have HP7 := Lib.hid hneg
    clear hneg
    by_cases hneg : r < 0
    case pos =>
      have hr0 := hneg
      have HF := Lib.hid (matB_false (p := p) (r := r) (c := c) (xs := xs) (fun h => by have := h.2.1; omega))
      clear hneg
      go_enter Try.func133, Try.ntmps133
      go_upto_region 1 with fail
      rw [← HW.out, ← HG.out]
      go_wp2_with (first | (go_at_call 100; with_reducible refine (HP.out _).mono ?_; rintro e w2 ⟨rfl, rfl⟩))
      go_ret
      exact ⟨ret_bool HF.out.symm, HB.out⟩
    case neg =>
    by_cases hneg2 : r ≤ 7
    case neg =>
      have hr0 := hneg
      clear hneg
      have hneg := hneg2
      clear hneg2
      have hr7 : r > 7 := by omega
      have HF := Lib.hid (matB_false (p := p) (r := r) (c := c) (xs := xs) (fun h => by have := h.2.1; omega))
      clear hneg
      go_enter Try.func133, Try.ntmps133
      go_upto_region 1 with fail
      rw [← HW.out, ← HG.out]
      go_wp2_with (first | (go_at_call 100; with_reducible refine (HP.out _).mono ?_; rintro e w2 ⟨rfl, rfl⟩))
      go_ret
      exact ⟨ret_bool HF.out.symm, HB.out⟩
    case pos =>
      have HRB : Hid (0 ≤ r ∧ r ≤ 7) := Lib.hid (by omega)
      have hr0 := hneg
      clear hneg
      have hr7 : ¬ r > 7 := by omega
      clear hneg2
      by_cases hneg : 1 ≤ c ∧ c ≤ 7
      case neg =>
        have HC := Lib.hid (fun w => isPermSize_no (a := c) (by omega) w)
        have HF := Lib.hid (matB_false (p := p) (r := r) (c := c) (xs := xs) (fun h => hneg h.2.2.1))
        clear hneg
        go_enter Try.func133, Try.ntmps133
        go_upto_region 1 with fail
        rw [← HW.out, ← HG.out]
        go_wp2_with (first | (go_at_call 100; with_reducible refine (HP.out _).mono ?_; rintro e w2 ⟨rfl, rfl⟩) | (go_at_call 163; with_reducible refine (HC.out _).mono ?_; rintro e w2 ⟨rfl, rfl⟩))
        go_ret
        exact ⟨ret_bool HF.out.symm, HB.out⟩
      case pos =>
        have HC := Lib.hid (fun w => isPermSize_yes (a := c) hneg.1 hneg.2 w)
        have HCB := Lib.hid hneg
        clear hneg
        obtain ⟨rc, hrc⟩ : ∃ rc, rc = r * c := ⟨_, rfl⟩
        have hrcb := mul_small HRB.out ⟨by have := HCB.out; omega, HCB.out.2⟩
        rw [← hrc] at hrcb
        have hwr : IntKind.i64.wrap (r * c) = rc := by rw [← hrc]; exact IntWalk.i64_in _ (by omega)
        have HRC := Lib.hid hrc
        clear hrc
        by_cases hneg : (n : Int) = rc
        case neg =>
          have hb1 : ((n : Int) != rc) = true := by simpa using hneg
          have HF := Lib.hid (matB_false (p := p) (r := r) (c := c) (xs := xs) (fun h => hneg (by have := h.2.2.2.1; rw [HL.out, ← HRC.out] at this; exact this)))
          clear hneg
          go_enter Try.func133, Try.ntmps133
          go_upto_region 1 with fail
          rw [← HW.out, ← HG.out]
          go_wp2_with (first | (go_at_call 100; with_reducible refine (HP.out _).mono ?_; rintro e w2 ⟨rfl, rfl⟩) | (go_at_call 163; with_reducible refine (HC.out _).mono ?_; rintro e w2 ⟨rfl, rfl⟩))
          go_ret
          exact ⟨ret_bool HF.out.symm, HB.out⟩
        case pos =>
          have hb1 : ((n : Int) != rc) = false := by simpa using hneg
          have HN := Lib.hid hneg
          clear hneg
          have hn49 : n ≤ 49 := by have := HN.out; omega
          obtain ⟨bb, hbb⟩ : ∃ bb, bb = matB p r c xs := ⟨_, rfl⟩
          have HBB : Hid ((!bb) = false ↔ ∀ k, k < n → 0 ≤ nth xs k ∧ nth xs k < p) := Lib.hid (by
            rw [hbb]
            constructor
            · intro h
              have h2 : matB p r c xs = true := by simpa using h
              have h3 := (matB_P h2).2.2.2.2
              rw [HL.out] at h3; exact h3
            · intro h
              rw [matB_true ⟨HP7.out, HRB.out, HCB.out, by rw [HL.out, ← HRC.out]; exact HN.out, by rw [HL.out]; exact h⟩]; rfl)
          rw [← hbb]
          have HCN := Lib.hid (containsNone_is (!bb) A n k xs p g w1 HS.out hn q0 HBB.out)
          have hmf : ∀ (fn : Fn) (first cap : Array Value) (w : World), (Instr.makeFunc fn first cap).run Try.prog w = .ok (.func fn first cap) w := fun _ _ _ _ => rfl
          clear hbb HBB
          go_enter Try.func133, Try.ntmps133
          go_upto_region 1 with fail
          rw [← HW.out, ← HG.out]
          go_wp2_with (first | (go_at_call 100; with_reducible refine (HP.out _).mono ?_; rintro e w2 ⟨rfl, rfl⟩) | (go_at_call 163; with_reducible refine (HC.out _).mono ?_; rintro e w2 ⟨rfl, rfl⟩) | (go_at_call 115; with_reducible refine HCN.out.mono ?_; rintro e w2 ⟨rfl, hd⟩; have HD := Lib.hid hd; clear hd))
          go_ret
          exact ⟨ret_bool (by simp), HB.out.trans (HD.out.below _)⟩
end Go.Proofs.Ytbkhibojbakckaa

/-
  Reduction of a matrix column by column, modulo a small prime: the document's way, on functions of row and column, and what it keeps. Conditions: p is 2, 3, 5 or 7.
-/

namespace Go.Proofs.Ytbkhibojbakckaa

def rowsM (R : Nat) (M : Nat → Nat → Int) : List (Nat → Int) := (List.range R).map M
theorem rowsM_mem {R : Nat} {M : Nat → Nat → Int} {e : Nat → Int} : e ∈ rowsM R M ↔ ∃ i, i < R ∧ e = M i := by
  unfold rowsM
  rw [List.mem_map]
  constructor
  · rintro ⟨i, hi, rfl⟩; exact ⟨i, List.mem_range.1 hi, rfl⟩
  · rintro ⟨i, hi, rfl⟩; exact ⟨i, List.mem_range.2 hi, rfl⟩
theorem rowsM_sp {p : Int} {n R : Nat} {M : Nat → Nat → Int} {i : Nat} (h : i < R) : Sp p n (rowsM R M) (M i) := Sp.mem (rowsM_mem.2 ⟨i, h, rfl⟩)
/-- The same sums of multiples. -/
def SameSp (p : Int) (n R : Nat) (M N : Nat → Nat → Int) : Prop := ∀ v, Sp p n (rowsM R M) v ↔ Sp p n (rowsM R N) v
theorem SameSp.of {p : Int} {n R : Nat} {M N : Nat → Nat → Int} (h1 : ∀ i, i < R → Sp p n (rowsM R N) (M i)) (h2 : ∀ i, i < R → Sp p n (rowsM R M) (N i)) : SameSp p n R M N :=
  Sp.same (fun e he => by obtain ⟨i, hi, rfl⟩ := rowsM_mem.1 he; exact h1 i hi) (fun e he => by obtain ⟨i, hi, rfl⟩ := rowsM_mem.1 he; exact h2 i hi)
theorem SameSp.trans {p : Int} {n R : Nat} {M N K : Nat → Nat → Int} (h : SameSp p n R M N) (h' : SameSp p n R N K) : SameSp p n R M K := fun v => (h v).trans (h' v)
theorem SameSp.refl {p : Int} {n R : Nat} {M : Nat → Nat → Int} : SameSp p n R M M := fun _ => Iff.rfl
theorem SameSp.symm {p : Int} {n R : Nat} {M N : Nat → Nat → Int} (h : SameSp p n R M N) : SameSp p n R N M := fun v => (h v).symm

def swM (M : Nat → Nat → Int) (a b : Nat) : Nat → Nat → Int := fun i c => if i = a then M b c else if i = b then M a c else M i c
def scM (p : Int) (M : Nat → Nat → Int) (r : Nat) (f : Int) : Nat → Nat → Int := fun i c => if i = r then M r c * f % p else M i c
def clM (p : Int) (M : Nat → Nat → Int) (r j : Nat) : Nat → Nat → Int := fun i c => if i = r then M r c else (M i c + (p - M i j) * M r c) % p
theorem swM_sp {p : Int} {n R : Nat} {M : Nat → Nat → Int} {a b : Nat} (ha : a < R) (hb : b < R) : SameSp p n R M (swM M a b) := by
  have ea : swM M a b a = M b := by funext c; simp [swM]
  have eb : swM M a b b = M a := by
    funext c
    by_cases e : b = a
    · subst e; simp [swM]
    · simp [swM, e]
  have eo : ∀ i, i ≠ a → i ≠ b → swM M a b i = M i := fun i h1 h2 => by funext c; simp [swM, h1, h2]
  refine SameSp.of (fun i hi => ?_) (fun i hi => ?_)
  · by_cases h1 : i = a
    · subst h1; rw [← eb]; exact rowsM_sp hb
    · by_cases h2 : i = b
      · subst h2; rw [← ea]; exact rowsM_sp ha
      · rw [← eo i h1 h2]; exact rowsM_sp hi
  · by_cases h1 : i = a
    · subst h1; rw [ea]; exact rowsM_sp hb
    · by_cases h2 : i = b
      · subst h2; rw [eb]; exact rowsM_sp ha
      · rw [eo i h1 h2]; exact rowsM_sp hi
theorem scM_sp {p : Int} {n R : Nat} {M : Nat → Nat → Int} {r : Nat} {f g : Int} (hr : r < R) (hfg : p ∣ g * f - 1) : SameSp p n R M (scM p M r f) := by
  have er : ∀ c, scM p M r f r c = M r c * f % p := fun c => by simp [scM]
  have eo : ∀ i, i ≠ r → scM p M r f i = M i := fun i h => by funext c; simp [scM, h]
  refine SameSp.of (fun i hi => ?_) (fun i hi => ?_)
  · by_cases h : i = r
    · subst h
      refine ((rowsM_sp (M := scM p M i f) hr).mul g).congr fun k _ => ?_
      rw [er k]
      have a := Int.dvd_mul_of_dvd_right (b := g) (emod_dvd p (M i k * f))
      have b := Int.dvd_mul_of_dvd_left (c := M i k) hfg
      rw [Int.mul_sub] at a
      rw [Int.sub_mul, Int.one_mul] at b
      have c := Int.dvd_add a b
      have e : g * (M i k * f) = g * f * M i k := by rw [Int.mul_comm (M i k), Int.mul_assoc]
      rw [e] at c
      generalize g * (M i k * f % p) = s at *
      generalize g * f * M i k = t at *
      have e2 : s - t + (t - M i k) = s - M i k := by omega
      rwa [e2] at c
    · rw [← eo i h]; exact rowsM_sp hi
  · by_cases h : i = r
    · subst h
      refine ((rowsM_sp (M := M) hr).mul f).congr fun k _ => ?_
      rw [er k]
      have a := emod_dvd p (M i k * f)
      rw [Int.mul_comm f]
      generalize M i k * f % p = s at *
      have e2 : M i k * f - s = -(s - M i k * f) := by omega
      rw [e2]; exact Int.dvd_neg.2 a
    · rw [eo i h]; exact rowsM_sp hi
theorem clM_sp {p : Int} {n R : Nat} {M : Nat → Nat → Int} {r j : Nat} (hr : r < R) : SameSp p n R M (clM p M r j) := by
  have er : clM p M r j r = M r := by funext c; simp [clM]
  have eo : ∀ i c, i ≠ r → clM p M r j i c = (M i c + (p - M i j) * M r c) % p := fun i c h => by simp [clM, h]
  have hrr : Sp p n (rowsM R (clM p M r j)) (M r) := by rw [← er]; exact rowsM_sp hr
  refine SameSp.of (fun i hi => ?_) (fun i hi => ?_)
  · by_cases h : i = r
    · subst h; exact hrr
    · refine ((rowsM_sp (M := clM p M r j) hi).sub (hrr.mul (p - M i j))).congr fun k _ => ?_
      rw [eo i k h]
      have a := emod_dvd p (M i k + (p - M i j) * M r k)
      generalize (p - M i j) * M r k = s at *
      generalize (M i k + s) % p = t at *
      have e2 : t - s - M i k = t - (M i k + s) := by omega
      rwa [e2]
  · by_cases h : i = r
    · subst h; rw [er]; exact rowsM_sp hr
    · refine ((rowsM_sp (M := M) hi).add ((rowsM_sp (M := M) hr).mul (p - M i j))).congr fun k _ => ?_
      rw [eo i k h]
      have a := emod_dvd p (M i k + (p - M i j) * M r k)
      generalize (p - M i j) * M r k = s at *
      generalize (M i k + s) % p = t at *
      have e2 : M i k + s - t = -(t - (M i k + s)) := by omega
      rw [e2]; exact Int.dvd_neg.2 a

/-- What holds before column j, with k rows done. -/
structure RedI (p : Int) (n R : Nat) (M0 M : Nat → Nat → Int) (ps : List Int) (j : Nat) : Prop where
  le : ps.length ≤ R
  rg : ∀ i c, i < R → c < n → 0 ≤ M i c ∧ M i c < p
  col : ∀ i, i < ps.length → 0 ≤ nth ps i ∧ nth ps i < j
  asc : ∀ i i', i < i' → i' < ps.length → nth ps i < nth ps i'
  one : ∀ i, i < ps.length → M i (nth ps i).toNat = 1
  bef : ∀ (i c : Nat), i < ps.length → (c : Int) < nth ps i → M i c = 0
  oth : ∀ i i', i < ps.length → i' < R → i' ≠ i → M i' (nth ps i).toNat = 0
  rest : ∀ i c, ps.length ≤ i → i < R → c < j → M i c = 0
  sp : SameSp p n R M0 M
theorem RedI.start {p : Int} {n R : Nat} {M : Nat → Nat → Int} (h : ∀ i c, i < R → c < n → 0 ≤ M i c ∧ M i c < p) : RedI p n R M M [] 0 :=
  ⟨Nat.zero_le _, h, fun _ hi => absurd hi (Nat.not_lt_zero _), fun _ _ _ hi => absurd hi (Nat.not_lt_zero _), fun _ hi => absurd hi (Nat.not_lt_zero _), fun _ _ hi => absurd hi (Nat.not_lt_zero _), fun _ _ hi => absurd hi (Nat.not_lt_zero _), fun _ _ _ _ hc => absurd hc (Nat.not_lt_zero _), SameSp.refl⟩
theorem RedI.skip {p : Int} {n R : Nat} {M0 M : Nat → Nat → Int} {ps : List Int} {j : Nat} (h : RedI p n R M0 M ps j) (hz : ∀ i, ps.length ≤ i → i < R → M i j = 0) : RedI p n R M0 M ps (j + 1) :=
  ⟨h.le, h.rg, fun i hi => by have := h.col i hi; omega, h.asc, h.one, h.bef, h.oth, fun i c h1 h2 h3 => by
    by_cases e : c = j
    · subst e; exact hz i h1 h2
    · exact h.rest i c h1 h2 (by omega), h.sp⟩
theorem nth_snocX {ps : List Int} {i : Nat} (h : i < ps.length) (v : Int) : nth (ps ++ [v]) i = nth ps i := by
  rw [nth, nth, List.getD_eq_getElem?_getD, List.getD_eq_getElem?_getD, List.getElem?_append_left h]
theorem nth_snoc_at (ps : List Int) (v : Int) : nth (ps ++ [v]) ps.length = v := by simp [nth, List.getD]
theorem RedI.step {p : Int} {n R : Nat} {M0 M : Nat → Nat → Int} {ps : List Int} {j : Nat} (hp : P7 p) (h : RedI p n R M0 M ps j) (hj : j < n) {a : Nat} (ha1 : ps.length ≤ a) (ha2 : a < R) (hne : M a j ≠ 0) :
    RedI p n R M0 (clM p (scM p (swM M a ps.length) ps.length (inv7 p (M a j))) ps.length j) (ps ++ [(j : Int)]) (j + 1) := by
  have hp2 := hp.two
  have hkR : ps.length < R := by omega
  obtain ⟨k, hk⟩ : ∃ k, k = ps.length := ⟨_, rfl⟩
  have hrga := h.rg a j ha2 hj
  have hinv := inv7_ok hp (x := M a j) ⟨by omega, hrga.2⟩
  obtain ⟨f, hf⟩ : ∃ f, f = inv7 p (M a j) := ⟨_, rfl⟩
  rw [← hf] at hinv ⊢
  rw [← hk] at ha1 hkR ⊢
  -- after the exchange
  obtain ⟨N, hN⟩ : ∃ N, N = swM M a k := ⟨_, rfl⟩
  have hNsp : SameSp p n R M N := by rw [hN]; exact swM_sp ha2 hkR
  have hNk : ∀ c, N k c = M a c := fun c => by
    rw [hN]
    by_cases e : k = a
    · subst e; simp [swM]
    · simp [swM, e]
  have hNlt : ∀ i c, i < k → N i c = M i c := fun i c hi => by
    rw [hN]
    have h1 : i ≠ a := by omega
    have h2 : i ≠ k := by omega
    simp [swM, h1, h2]
  have hNany : ∀ i, i < R → ∃ i', i' < R ∧ (k ≤ i → k ≤ i') ∧ (i < k → i' = i) ∧ (∀ c, N i c = M i' c) := fun i hi => by
    rw [hN]
    by_cases h1 : i = a
    · exact ⟨k, hkR, fun _ => Nat.le_refl _, fun hh => by omega, fun c => by simp [swM, h1]⟩
    · by_cases h2 : i = k
      · exact ⟨a, ha2, fun _ => ha1, fun hh => by omega, fun c => by
          have h3 : k ≠ a := fun e => h1 (h2.trans e)
          simp [swM, h2, h3]⟩
      · exact ⟨i, hi, fun hh => hh, fun _ => rfl, fun c => by simp [swM, h1, h2]⟩
  rw [← hN]
  -- after the scaling
  obtain ⟨P, hP⟩ : ∃ P, P = scM p N k f := ⟨_, rfl⟩
  have hPsp : SameSp p n R N P := by
    rw [hP]
    refine scM_sp (g := M a j) hkR ?_
    have := emod_dvd p (M a j * f)
    rw [hinv.2.2] at this
    have e : M a j * f - 1 = -(1 - M a j * f) := by omega
    rw [e]; exact Int.dvd_neg.2 this
  have hPk : ∀ c, P k c = M a c * f % p := fun c => by rw [hP]; simp [scM, hNk]
  have hPo : ∀ i c, i ≠ k → P i c = N i c := fun i c hi => by rw [hP]; simp [scM, hi]
  rw [← hP]
  have hPkj : P k j = 1 := by rw [hPk]; exact hinv.2.2
  have hPk0 : ∀ c, c < j → P k c = 0 := fun c hc => by
    rw [hPk, h.rest a c (by omega) ha2 hc]; simp
  have hPrg : ∀ i c, i < R → c < n → 0 ≤ P i c ∧ P i c < p := fun i c hi hc => by
    by_cases e : i = k
    · subst e; rw [hPk]; exact ⟨Int.emod_nonneg _ (by omega), Int.emod_lt_of_pos _ (by omega)⟩
    · rw [hPo i c e]
      obtain ⟨i', hi', _, _, he⟩ := hNany i hi
      rw [he c]; exact h.rg i' c hi' hc
  -- after the clearing
  obtain ⟨Q, hQ⟩ : ∃ Q, Q = clM p P k j := ⟨_, rfl⟩
  have hQsp : SameSp p n R P Q := by rw [hQ]; exact clM_sp hkR
  have hQk : ∀ c, Q k c = P k c := fun c => by rw [hQ]; simp [clM]
  have hQo : ∀ i c, i ≠ k → Q i c = (P i c + (p - P i j) * P k c) % p := fun i c hi => by rw [hQ]; simp [clM, hi]
  rw [← hQ]
  have hQrg : ∀ i c, i < R → c < n → 0 ≤ Q i c ∧ Q i c < p := fun i c hi hc => by
    by_cases e : i = k
    · subst e; rw [hQk]; exact hPrg i c hi hc
    · rw [hQo i c e]; exact ⟨Int.emod_nonneg _ (by omega), Int.emod_lt_of_pos _ (by omega)⟩
  have hQbef : ∀ i c, i < R → c < j → i ≠ k → Q i c = P i c := fun i c hi hc e => by
    rw [hQo i c e, hPk0 c hc, Int.mul_zero, Int.add_zero]
    have := hPrg i c hi (by omega)
    exact Int.emod_eq_of_lt this.1 this.2
  have hQj : ∀ i, i < R → i ≠ k → Q i j = 0 := fun i hi e => by
    rw [hQo i j e, hPkj, Int.mul_one]
    have e2 : P i j + (p - P i j) = p := by omega
    rw [e2, Int.emod_self]
  have hlen : (ps ++ [(j : Int)]).length = k + 1 := by simp [hk]
  have hat : nth (ps ++ [(j : Int)]) k = j := by rw [hk]; exact nth_snoc_at ps _
  have hlt : ∀ i, i < k → nth (ps ++ [(j : Int)]) i = nth ps i := fun i hi => nth_snocX (by omega) _
  refine ⟨by omega, hQrg, fun i hi => ?_, fun i i' hi hi' => ?_, fun i hi => ?_, fun i c hi hc => ?_, fun i i' hi hi' hne' => ?_, fun i c hi hiR hc => ?_, ((h.sp.trans hNsp).trans hPsp).trans hQsp⟩
  · rw [hlen] at hi
    by_cases e : i = k
    · subst e; rw [hat]; omega
    · rw [hlt i (by omega)]
      have := h.col i (by omega)
      omega
  · rw [hlen] at hi'
    by_cases e : i' = k
    · subst e
      rw [hat, hlt i hi]
      exact (h.col i (by omega)).2
    · rw [hlt i (by omega), hlt i' (by omega)]
      exact h.asc i i' hi (by omega)
  · rw [hlen] at hi
    by_cases e : i = k
    · subst e
      rw [hat, hQk]
      exact hPkj
    · rw [hlt i (by omega)]
      have hc := h.col i (by omega)
      rw [hQbef i _ (by omega) (by omega) e, hPo i _ e, hNlt i _ (by omega)]
      exact h.one i (by omega)
  · rw [hlen] at hi
    by_cases e : i = k
    · subst e
      rw [hat] at hc
      rw [hQk]
      exact hPk0 c (by omega)
    · rw [hlt i (by omega)] at hc
      have hcj := h.col i (by omega)
      rw [hQbef i _ (by omega) (by omega) e, hPo i _ e, hNlt i _ (by omega)]
      exact h.bef i c (by omega) hc
  · rw [hlen] at hi
    by_cases e : i = k
    · subst e
      rw [hat]
      exact hQj i' hi' hne'
    · rw [hlt i (by omega)]
      have hcj := h.col i (by omega)
      by_cases e' : i' = k
      · subst e'
        rw [hQk]
        exact hPk0 _ (by omega)
      · rw [hQbef i' _ hi' (by omega) e', hPo i' _ e']
        obtain ⟨i2, hi2, h2a, h2b, he2⟩ := hNany i' hi'
        rw [he2]
        refine h.oth i i2 (by omega) hi2 fun ee => ?_
        rcases Nat.lt_or_ge i' k with hh | hh
        · have := h2b hh; omega
        · have := h2a hh; omega
  · rw [hlen] at hi
    by_cases ec : c = j
    · subst ec; exact hQj i hiR (by omega)
    · rw [hQbef i c hiR (by omega) (by omega), hPo i c (by omega)]
      obtain ⟨i2, hi2, h2a, h2b, he2⟩ := hNany i hiR
      rw [he2]
      exact h.rest i2 c (by have := h2a (by omega); omega) hi2 (by omega)
/-- The rows that are done, with their columns. -/
def prM (M : Nat → Nat → Int) (ps : List Int) : List ((Nat → Int) × Nat) := (List.range ps.length).map fun i => (M i, (nth ps i).toNat)
theorem prM_fst (M : Nat → Nat → Int) (ps : List Int) : (prM M ps).map (·.1) = rowsM ps.length M := by simp [prM, rowsM, List.map_map, Function.comp_def]
theorem prM_mem {M : Nat → Nat → Int} {ps : List Int} {x : (Nat → Int) × Nat} : x ∈ prM M ps ↔ ∃ i, i < ps.length ∧ x = (M i, (nth ps i).toNat) := by
  unfold prM
  rw [List.mem_map]
  constructor
  · rintro ⟨i, hi, rfl⟩; exact ⟨i, List.mem_range.1 hi, rfl⟩
  · rintro ⟨i, hi, rfl⟩; exact ⟨i, List.mem_range.2 hi, rfl⟩
theorem RedI.ech {p : Int} {n R : Nat} {M0 M : Nat → Nat → Int} {ps : List Int} {j : Nat} (h : RedI p n R M0 M ps j) (hj : j ≤ n) : Ech p n (prM M ps) := by
  have key : ∀ k, k ≤ ps.length → Ech p n ((List.range k).map fun i => (M i, (nth ps i).toNat)) := by
    intro k
    induction k with
    | zero => intro _; exact trivial
    | succ k ih =>
      intro hk
      rw [List.range_succ, List.map_append]
      have hc := h.col k (by omega)
      refine (ih (by omega)).snoc (by omega) (by rw [h.one k (by omega), Int.sub_self]; exact Int.dvd_zero _) (fun i hi => by rw [h.bef k i (by omega) (by omega)]; exact Int.dvd_zero _) fun x hx => ?_
      obtain ⟨i, hi, rfl⟩ := List.mem_map.1 hx
      have hi := List.mem_range.1 hi
      show p ∣ M k (nth ps i).toNat
      rw [h.oth i k (by omega) (by have := h.le; omega) (by omega)]; exact Int.dvd_zero _
  exact key _ (Nat.le_refl _)
theorem RedI.done {p : Int} {n R : Nat} {M0 M : Nat → Nat → Int} {ps : List Int} {j : Nat} (h : RedI p n R M0 M ps j) (hend : j = n ∨ ps.length = R) (v : Nat → Int) :
    Sp p n ((prM M ps).map (·.1)) v ↔ Sp p n (rowsM R M0) v := by
  rw [prM_fst, h.sp v]
  refine Sp.same (fun e he => ?_) (fun e he => ?_) v
  · obtain ⟨i, hi, rfl⟩ := rowsM_mem.1 he
    exact rowsM_sp (by have := h.le; omega)
  · obtain ⟨i, hi, rfl⟩ := rowsM_mem.1 he
    by_cases hlt : i < ps.length
    · exact rowsM_sp hlt
    · rcases hend with rfl | hR
      · exact Sp.zero fun c hc => by rw [h.rest i c (by omega) hi hc]; exact Int.dvd_zero _
      · omega
end Go.Proofs.Ytbkhibojbakckaa

/-
  Both ways to reduce rows lead to as many rows, at the same columns. Conditions: p is 2, 3, 5 or 7, numbers are rests.
-/


namespace Go.Proofs.Ytbkhibojbakckaa

/-- A row of a matrix written row by row. -/
def rowX (d : List Int) (n i : Nat) : List Int := (List.range n).map fun c => nth d (i * n + c)
def rowsL (d : List Int) (n R : Nat) : List (List Int) := (List.range R).map (rowX d n)
theorem rowX_len (d : List Int) (n i : Nat) : (rowX d n i).length = n := by simp [rowX]
theorem rowX_nth {d : List Int} {n i c : Nat} (h : c < n) : nth (rowX d n i) c = nth d (i * n + c) := nth_rangeMap _ h
theorem rowX_rg {p : Int} (hp : 0 < p) {d : List Int} (h : Rg p d) (n i : Nat) : Rg p (rowX d n i) := fun j => by
  by_cases hj : j < n
  · rw [rowX_nth hj]; exact h _
  · rw [nth_past (by rw [rowX_len]; omega)]; exact ⟨Int.le_refl _, hp⟩
theorem rowsL_len (d : List Int) (n R : Nat) : (rowsL d n R).length = R := by simp [rowsL]
theorem rowsL_li {d : List Int} {n R i : Nat} (h : i < R) : li (rowsL d n R) i = rowX d n i := by simp [li, rowsL, List.getD, h]
theorem rowsL_ok {p : Int} (hp : 0 < p) {d : List Int} (h : Rg p d) (n R : Nat) : ∀ x, x ∈ rowsL d n R → x.length = n ∧ Rg p x := fun x hx => by
  obtain ⟨i, _, rfl⟩ := List.mem_map.1 hx
  exact ⟨rowX_len .., rowX_rg hp h n i⟩
/-- The same rows as lists and as functions have the same sums of multiples. -/
theorem sp_lists {p : Int} {n : Nat} {rows : List (List Int)} {R : Nat} {M : Nat → Nat → Int} (hl : rows.length = R) (h : ∀ i c, i < R → c < n → nth (li rows i) c = M i c) (v : Nat → Int) :
    Sp p n (rows.map nth) v ↔ Sp p n (rowsM R M) v := by
  refine Sp.same (fun e he => ?_) (fun e he => ?_) v
  · obtain ⟨x, hx, rfl⟩ := List.mem_map.1 he
    obtain ⟨i, hi, rfl⟩ := List.mem_iff_getElem.1 hx
    rw [← li_get hi]
    exact (rowsM_sp (M := M) (i := i) (by omega)).of_eq fun c hc => (h i c (by omega) hc).symm
  · obtain ⟨i, hi, rfl⟩ := rowsM_mem.1 he
    have hm : Sp p n (rows.map nth) (nth (li rows i)) := Sp.mem (List.mem_map.2 ⟨li rows i, by rw [li_get (by omega)]; exact List.getElem_mem _, rfl⟩)
    exact hm.of_eq fun c hc => h i c hi hc
def rnkL (p : Int) (rows : List (List Int)) : Nat := (echel p rows).length
section
variable {p : Int} {n R : Nat} {rows : List (List Int)} {M0 M : Nat → Nat → Int} {ps : List Int} {j : Nat}
theorem red_same (hp : P7 p) (hr : ∀ x, x ∈ rows → x.length = n ∧ Rg p x) (hl : rows.length = R) (h0 : ∀ i c, i < R → c < n → nth (li rows i) c = M0 i c) (h : RedI p n R M0 M ps j) (hend : j = n ∨ ps.length = R) (v : Nat → Int) :
    Sp p n ((prs (echel p rows)).map (·.1)) v ↔ Sp p n ((prM M ps).map (·.1)) v := by
  rw [prs_vec, (echel_ok hp hr).2 v, sp_lists hl h0 v, h.done hend v]
theorem rank_same (hp : P7 p) (hr : ∀ x, x ∈ rows → x.length = n ∧ Rg p x) (hl : rows.length = R) (h0 : ∀ i c, i < R → c < n → nth (li rows i) c = M0 i c) (h : RedI p n R M0 M ps j) (hj : j ≤ n) (hend : j = n ∨ ps.length = R) :
    ps.length = rnkL p rows := by
  have h1 := Ech.same_len hp.two (echel_ok hp hr).1.2 (h.ech hj) (red_same hp hr hl h0 h hend)
  have h2 : (prs (echel p rows)).length = rnkL p rows := by simp [prs, rnkL]
  have h3 : (prM M ps).length = ps.length := by simp [prM]
  omega
end
theorem foldl_addR_len (p : Int) : ∀ (rows : List (List Int)) (E : List (List Int × Int)), (rows.foldl (addR p) E).length ≤ E.length + rows.length
  | [], _ => Nat.le_refl _
  | x :: rows, E => by
    have h1 := foldl_addR_len p rows (addR p E x)
    have h2 : (addR p E x).length ≤ E.length + 1 := by
      unfold addR
      split
      · omega
      · simp
    simp only [List.foldl_cons, List.length_cons]
    omega
theorem rnkL_le (p : Int) (rows : List (List Int)) : rnkL p rows ≤ rows.length := by
  have := foldl_addR_len p rows []
  simpa [rnkL, echel] using this
end Go.Proofs.Ytbkhibojbakckaa

/-
  New matrices and rows of matrices, on the program's side. Conditions: sizes at most 14.
-/


namespace Go.Proofs.Ytbkhibojbakckaa
open Go.RowKit

theorem nat_mul_small {r c : Nat} (hr : r ≤ 14) (hc : c ≤ 14) : r * c ≤ 196 := by
  have h : r * c ≤ 14 * 14 := Nat.mul_le_mul hr hc
  omega
theorem wrap_mul_nat {r c N : Nat} (hN : N = r * c) (h : N ≤ 1099511627776) : IntKind.i64.wrap ((r : Int) * (c : Int)) = (N : Int) := by
  rw [show (r : Int) * (c : Int) = (N : Int) by rw [hN]; simp]
  exact IntWalk.i64_in _ (by omega)
set_option maxHeartbeats 1000000 in
theorem zeroMatrix_any (p : Int) (r c : Nat) (w : World) (hr : r ≤ 14) (hc : c ≤ 14) :
    Calls Try.prog 179 #[.int .i64 p, .int .i64 r, .int .i64 c] w fun e w' => FreshMx w w' e p r c (List.replicate (r * c) 0) := by
  obtain ⟨w1, hw1⟩ : ∃ w1, w1 = w.alloc (.cells #[.int .i64 0, .int .i64 0, .int .i64 0, .slice none 0 0] 27) := ⟨_, rfl⟩
  obtain ⟨g, hg⟩ : ∃ g, g = w.heap.size := ⟨_, rfl⟩
  have hk : Blk w1 g 27 #[.int .i64 0, .int .i64 0, .int .i64 0, .slice none 0 0] := by rw [hw1, hg]; exact Blk.new _ _ _
  have HB : Hid (Below w.heap.size w w1) := Lib.hid (by rw [hw1]; exact Below.alloc_self _ _)
  have HW := Lib.hid hw1
  have HG := Lib.hid hg
  have HK := Lib.hid hk
  obtain ⟨N, hN⟩ : ∃ N, N = r * c := ⟨_, rfl⟩
  have hN1 : N ≤ 1099511627776 := by have := nat_mul_small hr hc; omega
  have hwr := wrap_mul_nat hN hN1
  rw [← hN]
  clear hw1 hg hk hN
  go_enter Try.func179, Try.ntmps179
  go_upto_region 1 with fail
  rw [← HW.out, ← HG.out]
  go_wp2_with (first
    | (at_make; refine wpList_make_zero rfl (.tmp 12) (.tmp 12) rfl N rfl rfl hN1 ?_; intro w2 ho2 hb2; have HO2 := Lib.hid ho2; have HB2 := Lib.hid hb2; obtain ⟨g2, hg2⟩ : ∃ g2, g2 = w1.heap.size := ⟨_, rfl⟩; have HG2 := Lib.hid hg2; rw [← hg2]; clear ho2 hb2 hg2)
    | (refine wpList_store_rowP rfl 27 (.tmp 6) (.tmp 14) rfl g #[.int .i64 p, .int .i64 r, .int .i64 c, .slice (some ⟨g2, 0, none⟩) N N] rfl rfl 27 #[.int .i64 0, .int .i64 0, .int .i64 0, .slice none 0 0] (HK.out.below HB2.out HK.out.lt) Try.infoMx rfl (by simp [Value.oneCell']) ?_; intro w5 hb5 hg5)
    | fail)
  refine bodyPost_ret (results_rowP Try.results179 _ _ _ 27 #[.int .i64 p, .int .i64 r, .int .i64 c, .slice (some ⟨g2, 0, none⟩) N N] _ rfl hb5 Try.underlying27 rfl Try.infoMx) rfl ?_
  have l1 := HG.out
  have l2 := HG2.out
  have l3 := HK.out.lt
  have l4 := HB.out.size
  have l5 := hg5.size
  have l6 := HB2.out.size
  have ho := HO2.out
  rw [← l2] at ho
  refine ⟨some ⟨g2, 0, none⟩, N, N, rfl, ?_, ?_⟩
  · exact (ho.grown hg5 (fun k hk => by injection hk with hk; omega)).wide (by omega) (by omega)
  · exact (HB.out.trans (HB2.out.mono (by omega))).grown hg5 (by omega) (by rintro k ⟨⟩; omega)
set_option maxHeartbeats 1000000 in
/-- A row of a matrix: a part of its Data. -/
theorem matRow_any (p r : Int) (b o n k c i : Nat) (w : World) (hc : c ≤ 14) (hi : i ≤ 14) (h : (i + 1) * c ≤ n) (hnk : n ≤ k) (hn : n ≤ 1099511627776) (hc0 : 0 < c) :
    Calls Try.prog 158 #[.agg #[.int .i64 p, .int .i64 r, .int .i64 c, .slice (some ⟨b, o, none⟩) n k], .int .i64 i] w fun e w' => e = .returned (.slice (some ⟨b, o + i * c, none⟩) c (k - i * c)) ∧ Below w.heap.size w w' := by
  obtain ⟨w1, hw1⟩ : ∃ w1, w1 = w.alloc (.cells #[.int .i64 p, .int .i64 r, .int .i64 c, .slice (some ⟨b, o, none⟩) n k] 27) := ⟨_, rfl⟩
  obtain ⟨g, hg⟩ : ∃ g, g = w.heap.size := ⟨_, rfl⟩
  have hk : Blk w1 g 27 #[.int .i64 p, .int .i64 r, .int .i64 c, .slice (some ⟨b, o, none⟩) n k] := by rw [hw1, hg]; exact Blk.new _ _ _
  have HB : Hid (Below w.heap.size w w1) := Lib.hid (by rw [hw1]; exact Below.alloc_self _ _)
  have HW := Lib.hid hw1
  have HG := Lib.hid hg
  obtain ⟨q0, q1, q2, q3⟩ := cells4 hk
  obtain ⟨N, hN⟩ : ∃ N, N = i * c := ⟨_, rfl⟩
  obtain ⟨M, hM⟩ : ∃ M, M = (i + 1) * c := ⟨_, rfl⟩
  have hMN : M = N + c := by rw [hM, hN, Nat.add_mul, Nat.one_mul]
  have hM1 : M ≤ 1099511627776 := by omega
  have hwr := wrap_mul_nat hN (by omega)
  have hwr2 : IntKind.i64.wrap (((i : Int) + 1) * (c : Int)) = (M : Int) := by
    have := wrap_mul_nat hM hM1
    rwa [Int.natCast_add] at this
  rw [← hM] at h
  rw [← hN]
  have hkN : ¬ k = N := by omega
  have HMN := Lib.hid hMN
  have hd : (M : Int) - (N : Int) = (c : Int) := by omega
  clear hw1 hg hk hN hM
  go_enter Try.func158, Try.ntmps158
  go_upto_region 1 with fail
  rw [← HW.out, ← HG.out]
  go_wp2
  go_ret
  refine ⟨?_, HB.out⟩
  simp
end Go.Proofs.Ytbkhibojbakckaa

/-
  Pieces of the reduction on the document's side: a number of a matrix, a copy, the inverse; matrices written row by row as functions. Conditions: sizes at most 14.
-/


namespace Go.Proofs.Ytbkhibojbakckaa
open Go.RowKit

theorem frozenM {w : World} {g : Nat} {t : TypeId} {cs : Array Value} (h : Blk w g t cs) : w.frozen? ⟨g, 0, none⟩ = false ∧ w.frozen? ⟨g, 1, none⟩ = false ∧ w.frozen? ⟨g, 2, none⟩ = false ∧ w.frozen? ⟨g, 3, none⟩ = false := ⟨h.frozen 0, h.frozen 1, h.frozen 2, h.frozen 3⟩
theorem grown_putM (w : World) (g : Nat) (a b c d : Value) : w.grownBy ((((w.setCell ⟨g, 0, none⟩ a).setCell ⟨g, 1, none⟩ b).setCell ⟨g, 2, none⟩ c).setCell ⟨g, 3, none⟩ d) (some g) :=
  (((grown_setP w ⟨g, 0, none⟩ a).trans (grown_setP _ ⟨g, 1, none⟩ b)).trans (grown_setP _ ⟨g, 2, none⟩ c)).trans (grown_setP _ ⟨g, 3, none⟩ d)
theorem idx_lt {R C i c : Nat} (hi : i < R) (hc : c < C) : i * C + c < R * C := by
  have h : (i + 1) * C ≤ R * C := Nat.mul_le_mul (by omega) (Nat.le_refl _)
  rw [Nat.add_mul, Nat.one_mul] at h
  omega
theorem idx_inj {C i c i' c' : Nat} (hc : c < C) (hc' : c' < C) (h : i * C + c = i' * C + c') : i = i' ∧ c = c' := by
  have h1 : (i * C + c) / C = i := by rw [Nat.mul_comm, Nat.mul_add_div (by omega), Nat.div_eq_of_lt hc, Nat.add_zero]
  have h2 : (i' * C + c') / C = i' := by rw [Nat.mul_comm, Nat.mul_add_div (by omega), Nat.div_eq_of_lt hc', Nat.add_zero]
  have e : i = i' := by rw [← h1, ← h2, h]
  subst e
  exact ⟨rfl, by omega⟩
/-- The list d holds the matrix M. -/
def DM (d : List Int) (R C : Nat) (M : Nat → Nat → Int) : Prop := d.length = R * C ∧ ∀ i c, i < R → c < C → nth d (i * C + c) = M i c
def updM (M : Nat → Nat → Int) (i c : Nat) (v : Int) : Nat → Nat → Int := fun i' c' => if i' = i ∧ c' = c then v else M i' c'
theorem DM.set {d : List Int} {R C : Nat} {M : Nat → Nat → Int} (h : DM d R C M) {i c : Nat} (hi : i < R) (hc : c < C) (v : Int) : DM (d.set (i * C + c) v) R C (updM M i c v) := by
  refine ⟨by rw [List.length_set]; exact h.1, fun i' c' hi' hc' => ?_⟩
  rw [nth_set_at (by rw [h.1]; exact idx_lt hi hc)]
  unfold updM
  by_cases e : i' * C + c' = i * C + c
  · obtain ⟨e1, e2⟩ := idx_inj hc' hc e
    rw [if_pos e, if_pos ⟨e1, e2⟩]
  · rw [if_neg e, if_neg (fun hh => e (by rw [hh.1, hh.2]))]
    exact h.2 i' c' hi' hc'
theorem DM.congr {d : List Int} {R C : Nat} {M N : Nat → Nat → Int} (h : DM d R C M) (e : ∀ i c, i < R → c < C → M i c = N i c) : DM d R C N :=
  ⟨h.1, fun i c hi hc => by rw [h.2 i c hi hc]; exact e i c hi hc⟩
set_option maxHeartbeats 1000000 in
theorem l7At_any (p r : Int) (A : Option Addr) (n k C i j : Nat) (d : List Int) (v : Int) (w : World) (hs : SI w A n d) (hC : C ≤ 14) (hi : i ≤ 14) (hj : j ≤ 14) (h : i * C + j < n) (hv : nth d (i * C + j) = v) :
    Calls Try.prog 145 #[.agg #[.int .i64 p, .int .i64 r, .int .i64 C, .slice A n k], .int .i64 i, .int .i64 j] w fun e w' => e = .returned (.int .i64 v) ∧ Below w.heap.size w w' := by
  obtain ⟨w1, hw1⟩ : ∃ w1, w1 = w.alloc (.cells #[.int .i64 p, .int .i64 r, .int .i64 C, .slice A n k] 27) := ⟨_, rfl⟩
  obtain ⟨g, hg⟩ : ∃ g, g = w.heap.size := ⟨_, rfl⟩
  have hk : Blk w1 g 27 #[.int .i64 p, .int .i64 r, .int .i64 C, .slice A n k] := by rw [hw1, hg]; exact Blk.new _ _ _
  have hb : Below w.heap.size w w1 := by rw [hw1]; exact Below.alloc_self _ _
  have HB := Lib.hid hb
  have HW := Lib.hid hw1
  have HG := Lib.hid hg
  obtain ⟨q0, q1, q2, q3⟩ := cells4 hk
  obtain ⟨b, o, rfl, _, hc⟩ := (hs.below hb (Nat.le_refl _)).2 (by omega)
  obtain ⟨N, hN⟩ : ∃ N, N = i * C := ⟨_, rfl⟩
  have hN1 : N ≤ 196 := by have := nat_mul_small hi hC; omega
  have hwr := wrap_mul_nat hN (by omega)
  have hwr2 : IntKind.i64.wrap ((N : Int) + (j : Int)) = ((N + j : Nat) : Int) := by rw [Int.natCast_add]; exact IntWalk.i64_in _ (by omega)
  have hcell : w1.cell? ⟨b, o + (N + j), none⟩ = some (.int .i64 v) := by rw [hN, ← hv]; exact hc _ h
  obtain ⟨m, hm⟩ : ∃ m, m = N + j := ⟨_, rfl⟩
  rw [← hm] at hwr2 hcell
  have hmn : m < n := by rw [hm, hN]; exact h
  have hmI : (m : Int) < (n : Int) := by omega
  clear hw1 hg hk hb hs hc hN hm hv h
  go_enter Try.func145, Try.ntmps145
  go_upto_region 1 with fail
  rw [← HW.out, ← HG.out]
  go_wp2
  go_ret
  exact ⟨rfl, HB.out⟩
set_option maxHeartbeats 1000000 in
theorem l7Inverse_any (p x : Int) (w : World) (hp : P7 p) (hx : 0 < x ∧ x < p) :
    Calls Try.prog 146 #[.int .i64 x, .int .i64 p] w fun e w' => e = .returned (.int .i64 (inv7 p x)) ∧ Drawn w w' := by
  have hinv := inv7_ok hp hx
  have hp2 := hp.two
  have hp7 := hp.le
  obtain ⟨F, hF⟩ : ∃ F : Nat, (F : Int) = inv7 p x := ⟨(inv7 p x).toNat, by omega⟩
  rw [← hF] at hinv ⊢
  have HUQ : Hid (∀ f : Nat, 0 < f → f < F → x * (f : Int) % p ≠ 1) := Lib.hid (fun f h1 h2 h3 => by
    have := inv7_is hp hx (y := (f : Int)) ⟨by omega, by omega⟩ h3
    omega)
  have HINV := Lib.hid hinv
  have HX := Lib.hid hx
  have hpnz : p ≠ 0 := by omega
  clear hinv hx hF hp
  go_enter Try.func146, Try.ntmps146
  go_wp2
  go_loopw [5] (fun fv wr => ∃ f : Nat, 0 < f ∧ f ≤ F ∧ fv = .int .i64 f ∧ Drawn w wr)
    (fun fv _ => F - (intOf fv).toNat)
  case atStart => exact ⟨1, by omega, by have := HINV.out.1; omega, rfl, Drawn.refl _⟩
  case round =>
    obtain ⟨f, hf0, hf1, rfl, hdx⟩ := hrel
    have HDX := Lib.hid hdx
    have hvf0 : 0 ≤ x * (f : Int) := Int.mul_nonneg (by have := HX.out; omega) (by omega)
    have hvf1 : x * (f : Int) ≤ 7 * 7 := Int.mul_le_mul (by have := HX.out; omega) (by have := HINV.out; omega) (by omega) (by decide)
    obtain ⟨S, hS⟩ : ∃ S, S = x * (f : Int) := ⟨_, rfl⟩
    have hw1 : IntKind.i64.wrap (x * (f : Int)) = S := by rw [← hS]; exact IntWalk.i64_in _ (by omega)
    obtain ⟨R, hR⟩ : ∃ R, R = S % p := ⟨_, rfl⟩
    have hw2 : S.tmod p = R := by rw [hR]; exact Int.tmod_eq_emod_of_nonneg (by omega)
    have hRb : 0 ≤ R ∧ R < p := by rw [hR]; exact ⟨Int.emod_nonneg _ hpnz, Int.emod_lt_of_pos _ (by omega)⟩
    have hw3 : IntKind.i64.wrap R = R := IntWalk.i64_in _ (by omega)
    have hfp : (f : Int) < p := by have := HINV.out; omega
    have hf7 : f ≤ 7 := by omega
    clear hdx hvf0 hvf1
    by_cases hfF : f = F
    case neg =>
      have hb : (R == 1) = false := by
        have := HUQ.out f hf0 (by omega)
        rw [hR, hS]; simpa using this
      clear hS hR hRb
      go_wp2
      go_roundw
      case rel => exact ⟨f + 1, by omega, by omega, by go_num, HDX.out⟩
      case measure => simp [intOf]; omega
    case pos =>
      subst hfF
      have hb : (R == 1) = true := by
        have := HINV.out.2.2
        rw [hR, hS, this]; rfl
      clear hS hR hRb
      go_wp2
      go_ret
      exact ⟨rfl, HDX.out⟩
set_option maxRecDepth 100000 in
set_option maxHeartbeats 2000000 in
theorem l7Copy_any (p r c : Int) (A : Option Addr) (n k : Nat) (xs : List Int) (w : World) (hs : SI w A n xs) (hn : n ≤ 1099511627776) :
    Calls Try.prog 144 #[.agg #[.int .i64 p, .int .i64 r, .int .i64 c, .slice A n k]] w fun e w' => FreshMx w w' e p r c xs := by
  obtain ⟨w1, hw1⟩ : ∃ w1, w1 = (w.alloc (.cells #[.int .i64 p, .int .i64 r, .int .i64 c, .slice A n k] 27)).alloc (.cells #[.int .i64 0, .int .i64 0, .int .i64 0, .slice none 0 0] 27) := ⟨_, rfl⟩
  obtain ⟨g, hg⟩ : ∃ g, g = w.heap.size := ⟨_, rfl⟩
  have hk : Blk w1 g 27 #[.int .i64 p, .int .i64 r, .int .i64 c, .slice A n k] := by rw [hw1, hg]; exact (Blk.new _ _ _).alloc _
  have hk2 : Blk w1 (g + 1) 27 #[.int .i64 0, .int .i64 0, .int .i64 0, .slice none 0 0] := by
    rw [hw1, hg]
    have := Blk.new (w.alloc (.cells #[.int .i64 p, .int .i64 r, .int .i64 c, .slice A n k] 27)) 27 #[.int .i64 0, .int .i64 0, .int .i64 0, .slice none 0 0]
    simpa using this
  have hb : Below w.heap.size w w1 := by rw [hw1]; go_grown
  have HS := Lib.hid (hs.below hb (Nat.le_refl _))
  have HB1 := Lib.hid hb
  have HW := Lib.hid hw1
  have HG := Lib.hid hg
  have HK := Lib.hid hk
  have HK2 := Lib.hid hk2
  have HSZ : Hid (w1.heap.size = g + 1 + 1) := Lib.hid (by rw [hw1, hg]; simp)
  have hqd : w1.drew.cell? ⟨g, 0, none⟩ = some (.int .i64 p) ∧ w1.drew.cell? ⟨g, 1, none⟩ = some (.int .i64 r) ∧ w1.drew.cell? ⟨g, 2, none⟩ = some (.int .i64 c) ∧ w1.drew.cell? ⟨g, 3, none⟩ = some (.slice A n k) := cells4 hk
  have HQD := Lib.hid hqd
  have HQ := Lib.hid (cells4 hk)
  have HC1 := Lib.hid (fun w' (hb' : Below w1.heap.size w1 w') => l1Ints_any A n k xs w' (HS.out.below hb' (Nat.le_refl _)) hn)
  clear hw1 hg hk hk2 hb hs hqd
  go_enter Try.func144, Try.ntmps144
  go_upto_region 1 with fail
  rw [← HW.out, ← HG.out]
  go_region_held3 (fun w' => w'.cell? ⟨g, 0, none⟩ = some (.int .i64 p) ∧ w'.cell? ⟨g, 1, none⟩ = some (.int .i64 r) ∧ w'.cell? ⟨g, 2, none⟩ = some (.int .i64 c) ∧ w'.cell? ⟨g, 3, none⟩ = some (.slice A n k))
    (first | exact HQD.out | exact HQ.out | exact K4 | exact KZ)
    (first
      | (go_at_call 150
         with_reducible refine (HC1.out _ ((Below.refl _ _).drew)).mono ?_
         rintro e w4 ⟨B1, m1, d1, rfl, ho4, hb4⟩
         have HB4 : Hid (Below w1.heap.size w1 w4) := Lib.hid (((Below.refl _ _).drew).trans hb4)
         have HK4 := Lib.hid (HK.out.below HB4.out HK.out.lt)
         have K4 := cells4 HK4.out
         have HR4 := Lib.hid (HK2.out.below HB4.out HK2.out.lt)
         obtain ⟨rr0, rr1, rr2, rr3⟩ := cells4 HR4.out
         obtain ⟨ff0, ff1, ff2, ff3⟩ := frozenM HR4.out
         have KZ := cells4 ((((HK4.out.far (p := ⟨g + 1, 0, none⟩) (by show g ≠ g + 1; omega) (.int .i64 p)).far (p := ⟨g + 1, 1, none⟩) (by show g ≠ g + 1; omega) (.int .i64 r)).far (p := ⟨g + 1, 2, none⟩) (by show g ≠ g + 1; omega) (.int .i64 c)).far (p := ⟨g + 1, 3, none⟩) (by show g ≠ g + 1; omega) (.slice B1 m1 d1))
         have HO4 : Hid (Own w4 w1.heap.size w4.heap.size B1 m1 d1 xs) := Lib.hid ho4
         have HRP : Hid (Blk ((((w4.setCell ⟨g + 1, 0, none⟩ (.int .i64 p)).setCell ⟨g + 1, 1, none⟩ (.int .i64 r)).setCell ⟨g + 1, 2, none⟩ (.int .i64 c)).setCell ⟨g + 1, 3, none⟩ (.slice B1 m1 d1)) (g + 1) 27 #[.int .i64 p, .int .i64 r, .int .i64 c, .slice B1 m1 d1]) := Lib.hid ((((HR4.out.set_ 0 _).set_ 1 _).set_ 2 _).set_ 3 _)
         have HGP := Lib.hid (grown_putM w4 (g + 1) (.int .i64 p) (.int .i64 r) (.int .i64 c) (.slice B1 m1 d1))
         clear ho4 hb4))
  go_wp2
  refine bodyPost_ret (results_rowP Try.results144 _ _ _ 27 #[.int .i64 p, .int .i64 r, .int .i64 c, .slice B1 m1 d1] _ rfl HRP.out Try.underlying27 rfl Try.infoMx) rfl ?_
  have l1 := HSZ.out
  have l2 := HG.out
  have l3 := HGP.out.size
  have l4 := HB4.out.size
  have l5 := HB1.out.size
  refine ⟨B1, m1, d1, rfl, ?_, ?_⟩
  · exact (HO4.out.grown HGP.out (fun q hq => by injection hq with hq; omega)).wide (by omega) l3
  · exact (HB1.out.trans (HB4.out.mono l5)).grown HGP.out (by omega) (by rintro q ⟨⟩; omega)
end Go.Proofs.Ytbkhibojbakckaa

/-
  The reduction on the document's side, in memory. Conditions: the modulus is 2, 3, 5 or 7; sizes at most 14.
-/


namespace Go.Proofs.Ytbkhibojbakckaa
open Go.RowKit

/-- Where a reduction stands, in memory. -/
structure RS (w0 wr : World) (g s1 s2 : Nat) (p : Int) (R C : Nat) (A A4 : Option Addr) (n k kd : Nat) (d : List Int) (Ap : Option Addr) (np cp : Nat) (ps : List Int) : Prop where
  b1 : Blk wr g 27 #[.int .i64 p, .int .i64 R, .int .i64 C, .slice A n k]
  b2 : Blk wr (g + 1) 27 #[.int .i64 0, .int .i64 0, .int .i64 0, .slice none 0 0]
  b4 : Blk wr s2 27 #[.int .i64 p, .int .i64 R, .int .i64 C, .slice A4 n kd]
  od : Own wr s1 s2 A4 n kd d
  op : Own wr (s2 + 1) wr.heap.size Ap np cp ps
  ord : g + 1 < s1 ∧ s1 ≤ s2 ∧ s2 < wr.heap.size
  be : Below g w0 wr
section
variable {w0 wr w' : World} {g s1 s2 : Nat} {p : Int} {R C : Nat} {A A4 : Option Addr} {n k kd : Nat} {d : List Int} {Ap : Option Addr} {np cp : Nat} {ps : List Int}
theorem RS.below (h : RS w0 wr g s1 s2 p R C A A4 n k kd d Ap np cp ps) (hb : Below wr.heap.size wr w') : RS w0 w' g s1 s2 p R C A A4 n k kd d Ap np cp ps := by
  obtain ⟨b1, b2, b4, od, op, ord, be⟩ := h
  have hz := hb.size
  exact ⟨b1.below hb b1.lt, b2.below hb b2.lt, b4.below hb b4.lt, od.below hb (by omega), (op.below hb (Nat.le_refl _)).wide (Nat.le_refl _) hz, by omega, be.trans (hb.mono (by omega))⟩
theorem RS.put {gd : Nat} (h : RS w0 wr g s1 s2 p R C A (some ⟨gd, 0, none⟩) n k kd d Ap np cp ps) (q : Nat) (v : Int) : RS w0 (wr.setCell ⟨gd, q, none⟩ (.int .i64 v)) g s1 s2 p R C A (some ⟨gd, 0, none⟩) n k kd (d.set q v) Ap np cp ps := by
  obtain ⟨b1, b2, b4, od, op, ord, be⟩ := h
  have hl := od.lt gd rfl
  obtain ⟨h1, hg⟩ := od.set_ (k := q) v
  have hz := hg.size
  exact ⟨b1.grown hg (fun e => by injection e with e; omega), b2.grown hg (fun e => by injection e with e; omega), b4.grown hg (fun e => by injection e with e; omega), h1, (op.grown hg (fun z hz => by injection hz with hz; omega)).wide (Nat.le_refl _) hz, by omega, be.grown hg (by omega) (by rintro z ⟨⟩; omega)⟩
theorem RS.s7 (h : RS w0 wr g s1 s2 p R C A A4 n k kd d Ap np cp ps) : wr.cell? ⟨g, 0, none⟩ = some (.int .i64 p) ∧ wr.cell? ⟨g, 1, none⟩ = some (.int .i64 R) ∧ wr.cell? ⟨g, 2, none⟩ = some (.int .i64 C) ∧ wr.cell? ⟨s2, 0, none⟩ = some (.int .i64 p) ∧ wr.cell? ⟨s2, 1, none⟩ = some (.int .i64 R) ∧ wr.cell? ⟨s2, 2, none⟩ = some (.int .i64 C) ∧ wr.cell? ⟨s2, 3, none⟩ = some (.slice A4 n kd) :=
  ⟨h.b1.cell 0, h.b1.cell 1, h.b1.cell 2, h.b4.cell 0, h.b4.cell 1, h.b4.cell 2, h.b4.cell 3⟩
/-- A number of the matrix, read in a world that came of this one. -/
theorem RS.at_ (h : RS w0 wr g s1 s2 p R C A A4 n k kd d Ap np cp ps) {M : Nat → Nat → Int} (hd : DM d R C M) (hR : R ≤ 14) (hC : C ≤ 14) {i c : Nat} (hi : i < R) (hc : c < C) (v : Int) (hv : M i c = v) (w' : World) (hb : Below wr.heap.size wr w') :
    Calls Try.prog 145 #[.agg #[.int .i64 p, .int .i64 R, .int .i64 C, .slice A4 n kd], .int .i64 i, .int .i64 c] w' fun e w2 => e = .returned (.int .i64 v) ∧ Below w'.heap.size w' w2 :=
  l7At_any p R A4 n kd C i c d v w' ((h.od.below hb (by have := h.ord; omega)).si) hC (by omega) (by omega) (by have := h.od.len; have h1 := hd.1; have h2 := idx_lt hi hc; omega) (by rw [hd.2 i c hi hc]; exact hv)
theorem RS.app (h : RS w0 wr g s1 s2 p R C A A4 n k kd d Ap np cp ps) {row : Option Nat} (hg : wr.grownBy w' row) (hr : row = (Value.slice Ap np cp).ownBlock) {A' : Option Addr} {c' : Nat} {qs : List Int} {m : Nat} (ho : Own w' (s2 + 1) w'.heap.size A' m c' qs) :
    RS w0 w' g s1 s2 p R C A A4 n k kd d A' m c' qs := by
  obtain ⟨b1, b2, b4, od, op, ord, be⟩ := h
  have hz := hg.size
  have hlt : ∀ q, row = some q → s2 + 1 ≤ q := fun q hq => (op.lt q (by rw [← hr]; exact hq)).1
  exact ⟨b1.grown hg (fun e => by have := hlt g e.symm; omega), b2.grown hg (fun e => by have := hlt _ e.symm; omega), b4.grown hg (fun e => by have := hlt _ e.symm; omega), od.grown hg (fun q hq => by have := hlt q hq; omega), ho, by omega, be.grown hg (by omega) (fun q hq => by have := hlt q hq; omega)⟩
theorem RS.mcell {gd : Nat} (h : RS w0 wr g s1 s2 p R C A (some ⟨gd, 0, none⟩) n k kd d Ap np cp ps) {q : Nat} (hq : q < n) : wr.cell? ⟨gd, q, none⟩ = some (.int .i64 (nth d q)) ∧ wr.frozen? ⟨gd, q, none⟩ = false := ⟨h.od.cellAt hq, h.od.frozenAt q⟩
end
theorem idx_wraps {i C q : Nat} (hi : i ≤ 14) (hC : C ≤ 14) (hq : q ≤ 14) : ∃ N m : Nat, IntKind.i64.wrap ((i : Int) * (C : Int)) = (N : Int) ∧ IntKind.i64.wrap ((N : Int) + (q : Int)) = (m : Int) ∧ m = i * C + q := by
  have h := nat_mul_small hi hC
  exact ⟨i * C, i * C + q, wrap_mul_nat rfl (by omega), by rw [Int.natCast_add]; exact IntWalk.i64_in _ (by omega), rfl⟩
/-- What a reduction leaves. -/
def RedRes (p : Int) (R C : Nat) (M0 : Nat → Nat → Int) (w w' : World) (A' : Option Addr) (n k' : Nat) (Ap : Option Addr) (np cp : Nat) : Prop :=
  ∃ d M ps j, Own w' w.heap.size w'.heap.size A' n k' d ∧ Own w' w.heap.size w'.heap.size Ap np cp ps ∧ DM d R C M ∧ RedI p C R M0 M ps j ∧ j ≤ C ∧ (j = C ∨ ps.length = R) ∧ Below w.heap.size w w'
theorem results_mx_tmp {P : Program} {fn : Func} {p q : Tmp} {ty : TypeId} (h : fn.results = #[.cell p ty, .tmp q]) (tmps : Array Value) (w : World) (g : Nat) (t : TypeId) (cs : Array Value) (d : TypeDesc)
    (hp : tmps.getD p undef = .pointer (some ⟨g, 0, none⟩)) (hg : Blk w g t cs) (hu : P.underlying ty = some d) (hd : (match d with | .struct _ | .array _ _ => true | _ => false) = true) (hi : (P.info? ty).map (·.size) = some cs.size) :
    (results fn tmps).run P w = .ok (.tuple #[.agg cs, tmps.getD q undef]) w := by
  have hp' : tmps[p]?.getD undef = .pointer (some ⟨g, 0, none⟩) := by simpa using hp
  simp [results, h, hp', asAddr, run_loadVar_row w g t ty cs (0, 0) d hg hu hd hi]
/-- Exchanged as far as a column; scaled as far as a column; cleared as far as a row and a column. -/
def swK (M : Nat → Nat → Int) (a b k : Nat) : Nat → Nat → Int := fun i c => if c < k then swM M a b i c else M i c
def scK (p : Int) (M : Nat → Nat → Int) (r : Nat) (f : Int) (k : Nat) : Nat → Nat → Int := fun i c => if c < k then scM p M r f i c else M i c
def clK (p : Int) (M : Nat → Nat → Int) (r j i0 k : Nat) : Nat → Nat → Int := fun i c => if i < i0 ∨ i = i0 ∧ c < k then clM p M r j i c else M i c
theorem swK_step {M : Nat → Nat → Int} {a b k : Nat} (i c : Nat) : updM (updM (swK M a b k) a k (M b k)) b k (M a k) i c = swK M a b (k + 1) i c := by
  unfold updM swK swM
  by_cases hc : c = k
  · subst hc
    by_cases h1 : i = b
    · subst h1
      by_cases h2 : i = a
      · subst h2; simp
      · simp [h2]
    · by_cases h2 : i = a
      · subst h2; simp [h1]
      · simp [h1, h2]
  · have e1 : (c < k + 1) ↔ c < k := by omega
    simp [hc, e1]
theorem scK_step {p : Int} {M : Nat → Nat → Int} {r k : Nat} {f : Int} (i c : Nat) : updM (scK p M r f k) r k (M r k * f % p) i c = scK p M r f (k + 1) i c := by
  unfold updM scK scM
  by_cases hc : c = k
  · subst hc
    by_cases h1 : i = r
    · simp [h1]
    · simp [h1]
  · have e1 : (c < k + 1) ↔ c < k := by omega
    simp [hc, e1]
theorem clK_step {p : Int} {M : Nat → Nat → Int} {r j i0 k : Nat} (h : i0 ≠ r) (i c : Nat) : updM (clK p M r j i0 k) i0 k ((M i0 k + (p - M i0 j) * M r k) % p) i c = clK p M r j i0 (k + 1) i c := by
  unfold updM clK
  by_cases hc : i = i0 ∧ c = k
  · obtain ⟨rfl, rfl⟩ := hc
    rw [if_pos ⟨rfl, rfl⟩, if_pos (Or.inr ⟨rfl, by omega⟩)]
    simp [clM, h]
  · rw [if_neg hc]
    by_cases h1 : i < i0 ∨ i = i0 ∧ c < k
    · rw [if_pos h1, if_pos (by omega)]
    · rw [if_neg h1, if_neg (by omega)]
theorem clK_row {p : Int} {M : Nat → Nat → Int} {r j i0 C : Nat} (i c : Nat) (hc : c < C) : clK p M r j i0 C i c = clK p M r j (i0 + 1) 0 i c := by
  unfold clK
  by_cases h1 : i < i0 ∨ i = i0 ∧ c < C
  · rw [if_pos h1, if_pos (by omega)]
  · rw [if_neg h1, if_neg (by omega)]
theorem clK_skip {p : Int} {M : Nat → Nat → Int} {r j : Nat} (i c : Nat) : clK p M r j r 0 i c = clK p M r j (r + 1) 0 i c := by
  unfold clK
  by_cases h1 : i < r
  · rw [if_pos (by omega), if_pos (by omega)]
  · by_cases h2 : i = r
    · subst h2
      rw [if_neg (by omega), if_pos (by omega)]
      simp [clM]
    · rw [if_neg (by omega), if_neg (by omega)]
set_option maxRecDepth 100000 in
set_option maxHeartbeats 16000000 in
theorem l7Reduce_any (p : Int) (R C : Nat) (A : Option Addr) (n k : Nat) (xs : List Int) (M0 : Nat → Nat → Int) (w : World) (hp : P7 p) (hs : SI w A n xs) (hR : R ≤ 14) (hC : C ≤ 14) (hx : Rg p xs) (hd0 : DM xs R C M0) :
    Calls Try.prog 70 #[.agg #[.int .i64 p, .int .i64 R, .int .i64 C, .slice A n k]] w fun e w' => ∃ A' k' Ap np cp, e = .returned (.tuple #[.agg #[.int .i64 p, .int .i64 R, .int .i64 C, .slice A' n k'], .slice Ap np cp]) ∧ RedRes p R C M0 w w' A' n k' Ap np cp := by
  obtain ⟨w1, hw1⟩ : ∃ w1, w1 = (w.alloc (.cells #[.int .i64 p, .int .i64 R, .int .i64 C, .slice A n k] 27)).alloc (.cells #[.int .i64 0, .int .i64 0, .int .i64 0, .slice none 0 0] 27) := ⟨_, rfl⟩
  obtain ⟨g, hg⟩ : ∃ g, g = w.heap.size := ⟨_, rfl⟩
  have hk : Blk w1 g 27 #[.int .i64 p, .int .i64 R, .int .i64 C, .slice A n k] := by rw [hw1, hg]; exact (Blk.new _ _ _).alloc _
  have hk2 : Blk w1 (g + 1) 27 #[.int .i64 0, .int .i64 0, .int .i64 0, .slice none 0 0] := by
    rw [hw1, hg]
    have := Blk.new (w.alloc (.cells #[.int .i64 p, .int .i64 R, .int .i64 C, .slice A n k] 27)) 27 #[.int .i64 0, .int .i64 0, .int .i64 0, .slice none 0 0]
    simpa using this
  have hb : Below w.heap.size w w1 := by rw [hw1]; go_grown
  have hn196 : n ≤ 196 := by have h1 := hs.1; have h2 := hd0.1; have h3 := nat_mul_small hR hC; omega
  have HCP := Lib.hid (l7Copy_any p (R : Int) (C : Int) A n k xs w1 (hs.below hb (Nat.le_refl _)) (by omega))
  have HNL : Hid (n = R * C) := Lib.hid (by have h1 := hs.1; have h2 := hd0.1; omega)
  have HB1 := Lib.hid hb
  have HW := Lib.hid hw1
  have HG := Lib.hid hg
  have HK := Lib.hid hk
  have HK2 := Lib.hid hk2
  have HSZ : Hid (w1.heap.size = g + 1 + 1) := Lib.hid (by rw [hw1, hg]; simp)
  have HP := Lib.hid hp
  have HD0 := Lib.hid hd0
  have hp2 := hp.two
  have hp7 := hp.le
  have hpnz : p ≠ 0 := by omega
  have HRG : Hid (∀ i c, i < R → c < C → 0 ≤ M0 i c ∧ M0 i c < p) := Lib.hid (fun i c hi hc => by rw [← hd0.2 i c hi hc]; exact hx _)
  clear hw1 hg hk hk2 hb hs hp hx hd0
  go_enter Try.func70, Try.ntmps70
  go_upto_region 1 with fail
  rw [← HW.out, ← HG.out]
  go_upto_region 2 with (first
    | (refine wpList_load_rowP rfl 27 (.tmp 1) rfl g rfl 27 #[.int .i64 p, .int .i64 R, .int .i64 C, .slice A n k] _ HK.out Try.underlying27 rfl Try.infoMx ?_)
    | (go_at_call 144
       with_reducible refine HCP.out.mono ?_
       rintro e w2 ⟨A4, n4, kd, rfl, ho2, hb2⟩
       obtain rfl : n4 = n := by have := ho2.len; have := HD0.out.1; have := HNL.out; omega
       have HO2 := Lib.hid ho2
       have HB2 := Lib.hid hb2
       clear ho2 hb2)
    | (refine wpList_store_rowP rfl 27 (.tmp 4) (.tmp 17) rfl w2.heap.size #[.int .i64 p, .int .i64 R, .int .i64 C, .slice A4 n4 kd] rfl rfl 27 #[.int .i64 0, .int .i64 0, .int .i64 0, .slice none 0 0] (Blk.new _ _ _) Try.infoMx rfl (by simp [Value.oneCell']) ?_
       intro w3 hb3 hg3
       have HK3 := Lib.hid hb3
       have HG3 := Lib.hid hg3
       clear hb3 hg3)
    | fail)
  obtain ⟨s1, hs1⟩ : ∃ s1, s1 = w1.heap.size := ⟨_, rfl⟩
  obtain ⟨s2, hs2⟩ : ∃ s2, s2 = w2.heap.size := ⟨_, rfl⟩
  rw [← hs1] at HB2
  rw [← hs1, ← hs2] at HO2
  rw [← hs2] at HK3 HG3 ⊢
  obtain ⟨n, rfl⟩ : ∃ m, m = n4 := ⟨_, rfl⟩
  have HRS : Hid (RS w w3 g s1 s2 p R C A A4 n k kd xs none 0 0 []) := Lib.hid (by
    have h0 := HSZ.out
    have h1 := HB2.out.size
    have hba : Below s2 w2 (w2.alloc (.cells #[.int .i64 0, .int .i64 0, .int .i64 0, .slice none 0 0] 27)) := (Below.refl s2 w2).alloc (Nat.le_of_eq hs2) _
    have hb3 : Below s2 w2 w3 := hba.grown HG3.out (by simp; omega) (by rintro q ⟨⟩; exact Nat.le_refl _)
    have h3 : s2 < w3.heap.size := HK3.out.lt
    exact ⟨(HK.out.below HB2.out (by rw [hs1]; exact HK.out.lt)).below hb3 (by omega), (HK2.out.below HB2.out (by rw [hs1]; exact HK2.out.lt)).below hb3 (by omega), HK3.out, HO2.out.below hb3 (Nat.le_refl _), Own.nil _ _ _, by omega, by
      have := HB1.out
      rw [← HG.out] at this
      exact (this.trans (HB2.out.mono (by omega))).trans (hb3.mono (by omega))⟩)
  clear hs1 hs2 HK HK2 HK3 HG3 HO2 HB2
  have hne3 : Below w3.heap.size w3 (w3.alloc (.cells #[] 3)) := Below.alloc_self _ _
  have HRS4 : Hid (RS w (w3.alloc (.cells #[] 3)) g s1 s2 p R C A A4 n k kd xs (some ⟨w3.heap.size, 0, none⟩) 0 0 []) := Lib.hid (by
    have h5 := HRS.out.below hne3
    exact ⟨h5.b1, h5.b2, h5.b4, h5.od, (Own.empty w3).wide (by have := HRS.out.ord; omega) (by simp), h5.ord, h5.be⟩)
  clear hne3
  go_wp2_with fail
  go_loopw [5, 6] (fun pv jv wr => ∃ (j : Nat) (d : List Int) (M : Nat → Nat → Int) (Ap : Option Addr) (np cp : Nat) (ps : List Int), j ≤ C ∧ jv = .int .i64 j ∧ pv = .slice Ap np cp ∧ RS w wr g s1 s2 p R C A A4 n k kd d Ap np cp ps ∧ DM d R C M ∧ RedI p C R M0 M ps j)
    (fun _ jv _ => C - (intOf jv).toNat)
  case atStart => exact ⟨0, xs, M0, _, 0, 0, [], Nat.zero_le _, rfl, rfl, HRS4.out, HD0.out, RedI.start HRG.out⟩
  case round =>
    obtain ⟨j, d, M, Ap, np, cp, ps, hj, rfl, rfl, hrs, hdm, hri⟩ := hrel
    clear HRS4 HRS
    have HRS := Lib.hid hrs
    have HDM := Lib.hid hdm
    have HRI := Lib.hid hri
    have HNP := Lib.hid hrs.op.len
    have hnpR : np ≤ R := by have := hri.le; have := HNP.out; omega
    have hjI : (j : Int) ≤ (C : Int) := by omega
    clear hrs hdm hri
    by_cases hlt : j < C ∧ np < R
    case neg =>
      have HFIN : Hid (j = C ∨ ps.length = R) := Lib.hid (by have := HNP.out; omega)
      obtain ⟨q0, q1, q2, q3, q4, q5, q6⟩ := HRS.out.s7
      have tailArm : True := trivial
      by_cases hjC : j < C
      case pos =>
        have hjCI : (j : Int) < (C : Int) := by omega
        have hnpI : ¬ (np : Int) < (R : Int) := by omega
        go_wp2_with (first
          | (refine wpList_load_rowP rfl 27 (.tmp 4) rfl s2 rfl 27 #[.int .i64 p, .int .i64 R, .int .i64 C, .slice A4 n kd] _ HRS.out.b4 Try.underlying27 rfl Try.infoMx ?_)
          | (refine wpList_store_rowP rfl 27 (.tmp 2) (.tmp 168) rfl (g + 1) #[.int .i64 p, .int .i64 R, .int .i64 C, .slice A4 n kd] rfl rfl 27 #[.int .i64 0, .int .i64 0, .int .i64 0, .slice none 0 0] HRS.out.b2 Try.infoMx rfl (by simp [Value.oneCell']) ?_; intro w5 hb5 hg5)
          | fail)
        refine bodyPost_ret (results_mx_tmp Try.results70 _ _ _ 27 #[.int .i64 p, .int .i64 R, .int .i64 C, .slice A4 n kd] _ rfl hb5 Try.underlying27 rfl Try.infoMx) rfl ?_
        have l1 := HRS.out.ord
        have l2 := HG.out
        have l3 := hg5.size
        refine ⟨A4, kd, Ap, np, cp, rfl, d, M, ps, j, ?_, ?_, HDM.out, HRI.out, hj, HFIN.out, ?_⟩
        · exact (HRS.out.od.grown hg5 (fun q hq => by injection hq with hq; omega)).wide (by omega) (by omega)
        · exact (HRS.out.op.grown hg5 (fun q hq => by injection hq with hq; omega)).wide (by omega) (by omega)
        · have := HRS.out.be.grown hg5 (by omega) (by rintro q ⟨⟩; omega)
          rw [l2] at this; exact this
      case neg =>
        have hjCI : ¬ (j : Int) < (C : Int) := by omega
        go_wp2_with (first
          | (refine wpList_load_rowP rfl 27 (.tmp 4) rfl s2 rfl 27 #[.int .i64 p, .int .i64 R, .int .i64 C, .slice A4 n kd] _ HRS.out.b4 Try.underlying27 rfl Try.infoMx ?_)
          | (refine wpList_store_rowP rfl 27 (.tmp 2) (.tmp 168) rfl (g + 1) #[.int .i64 p, .int .i64 R, .int .i64 C, .slice A4 n kd] rfl rfl 27 #[.int .i64 0, .int .i64 0, .int .i64 0, .slice none 0 0] HRS.out.b2 Try.infoMx rfl (by simp [Value.oneCell']) ?_; intro w5 hb5 hg5)
          | fail)
        refine bodyPost_ret (results_mx_tmp Try.results70 _ _ _ 27 #[.int .i64 p, .int .i64 R, .int .i64 C, .slice A4 n kd] _ rfl hb5 Try.underlying27 rfl Try.infoMx) rfl ?_
        have l1 := HRS.out.ord
        have l2 := HG.out
        have l3 := hg5.size
        refine ⟨A4, kd, Ap, np, cp, rfl, d, M, ps, j, ?_, ?_, HDM.out, HRI.out, hj, HFIN.out, ?_⟩
        · exact (HRS.out.od.grown hg5 (fun q hq => by injection hq with hq; omega)).wide (by omega) (by omega)
        · exact (HRS.out.op.grown hg5 (fun q hq => by injection hq with hq; omega)).wide (by omega) (by omega)
        · have := HRS.out.be.grown hg5 (by omega) (by rintro q ⟨⟩; omega)
          rw [l2] at this; exact this
    case pos =>
      obtain ⟨hjC, hnp⟩ := hlt
      have hjCI : (j : Int) < (C : Int) := by omega
      have hnpI : (np : Int) < (R : Int) := by omega
      obtain ⟨q0, q1, q2, q3, q4, q5, q6⟩ := HRS.out.s7
      go_wp2_with fail
      clear q0 q1 q2 q3 q4 q5 q6
      obtain ⟨wo, rfl⟩ : ∃ wo, wo = wr := ⟨wr, rfl⟩
      go_loopw [7] (fun av wr => ∃ a : Nat, np ≤ a ∧ a ≤ R ∧ av = .int .i64 a ∧ RS w wr g s1 s2 p R C A A4 n k kd d Ap np cp ps ∧ ∀ i, np ≤ i → i < a → M i j = 0)
        (fun av _ => R - (intOf av).toNat)
      case atStart => exact ⟨np, Nat.le_refl _, by omega, rfl, HRS.out, fun i h1 h2 => absurd h2 (by omega)⟩
      case round =>
        obtain ⟨a, hna, haR, rfl, hrs, hall⟩ := hrel
        clear HRS
        have HRS := Lib.hid hrs
        have HALL := Lib.hid hall
        obtain ⟨q0, q1, q2, q3, q4, q5, q6⟩ := hrs.s7
        clear hrs hall
        by_cases haE : a < R
        case neg =>
          obtain rfl : a = R := by omega
          have haI : ¬ (a : Int) < (a : Int) := by omega
          go_wp2
          go_roundw
          case rel => exact ⟨j + 1, d, M, Ap, np, cp, ps, by omega, by go_num, rfl, HRS.out, HDM.out, HRI.out.skip (fun i h1 h2 => HALL.out i (by have := HNP.out; omega) h2)⟩
          case measure => simp [intOf]; omega
        case pos =>
          have haI : (a : Int) < (R : Int) := by omega
          obtain ⟨v, hv⟩ : ∃ v, v = M a j := ⟨_, rfl⟩
          have HAT := Lib.hid (HRS.out.at_ HDM.out hR hC haE hjC v hv.symm wr (Below.refl _ _))
          have HV := Lib.hid hv
          clear hv
          by_cases hv0 : v = 0
          case pos =>
            subst hv0
            go_wp2_with (first
              | (go_at_call 145
                 with_reducible refine HAT.out.mono ?_
                 rintro e w4 ⟨rfl, hb4⟩
                 have HRS4 := Lib.hid (HRS.out.below hb4)
                 clear hb4)
              | fail)
            go_roundw
            case rel => exact ⟨a + 1, by omega, by omega, by go_num, HRS4.out, fun i h1 h2 => by
              by_cases e : i = a
              · rw [e]; exact HV.out.symm
              · exact HALL.out i h1 (by omega)⟩
            case measure => simp [intOf]; omega
          case neg =>
            have hvb : (v == 0) = false := by simpa using hv0
            have haRb : ((a : Int) == (R : Int)) = false := by simp; omega
            go_wp2_with (first
              | (go_at_call 145
                 with_reducible refine HAT.out.mono ?_
                 rintro e w4 ⟨rfl, hb4⟩
                 have HRS4 := Lib.hid (HRS.out.below hb4)
                 obtain ⟨t0, t1, t2, t3, t4, t5, t6⟩ := HRS4.out.s7
                 clear hb4)
              | fail)
            clear q0 q1 q2 q3 q4 q5 q6 t0 t1 t2 t3 t4 t5 t6 hvb haRb
            clear HAT
            go_loopw [9] (fun kv wr => ∃ (q : Nat) (d1 : List Int), q ≤ C ∧ kv = .int .i64 q ∧ RS w wr g s1 s2 p R C A A4 n k kd d1 Ap np cp ps ∧ DM d1 R C (swK M a np q))
              (fun kv _ => C - (intOf kv).toNat)
            case atStart => exact ⟨0, d, Nat.zero_le _, rfl, HRS4.out, HDM.out.congr fun i c _ _ => by simp [swK]⟩
            case round =>
              obtain ⟨q, d1, hq, rfl, hrs, hdm⟩ := hrel
              clear HRS4
              by_cases hqC : q < C
              case pos =>
                have hqI : (q : Int) < (C : Int) := by omega
                obtain ⟨gd, rfl, _, _⟩ := hrs.od.place (by rw [HNL.out]; have := idx_lt haE hqC; omega)
                obtain ⟨Na, m1, ha1, ha2, hm1⟩ := idx_wraps (i := a) (C := C) (q := q) (by omega) hC (by omega)
                obtain ⟨Nb, m2, hb1, hb2, hm2⟩ := idx_wraps (i := np) (C := C) (q := q) (by omega) hC (by omega)
                have hm1n : m1 < n := by rw [hm1, HNL.out]; exact idx_lt haE hqC
                have hm2n : m2 < n := by rw [hm2, HNL.out]; exact idx_lt hnp hqC
                have hm1I : (m1 : Int) < (n : Int) := by omega
                have hm2I : (m2 : Int) < (n : Int) := by omega
                obtain ⟨x1, hx1⟩ : ∃ x1, x1 = M a q := ⟨_, rfl⟩
                obtain ⟨y1, hy1⟩ : ∃ y1, y1 = M np q := ⟨_, rfl⟩
                have HAT1 := Lib.hid (hrs.at_ hdm hR hC haE hqC x1 (by rw [hx1]; simp [swK]) wr (Below.refl _ _))
                have HAT2 := Lib.hid (fun w5 (hb5 : Below wr.heap.size wr w5) => (hrs.below hb5).at_ hdm hR hC hnp hqC y1 (by rw [hy1]; simp [swK]) w5.drew ((Below.refl _ _).drew))
                have HFIN : Hid (DM ((d1.set m1 y1).set m2 x1) R C (swK M a np (q + 1))) := Lib.hid (by
                  rw [hm1, hm2]
                  exact ((hdm.set haE hqC y1).set hnp hqC x1).congr fun i c _ _ => by rw [hx1, hy1]; exact swK_step i c)
                have HRS := Lib.hid hrs
                obtain ⟨q0, q1, q2, q3, q4, q5, q6⟩ := hrs.s7
                clear hrs hdm hm1 hm2 hx1 hy1
                go_upto_region 15 with (first
                  | (go_at_call 145
                     with_reducible refine HAT1.out.mono ?_
                     rintro e w5 ⟨rfl, hb5⟩
                     have HRS5 := Lib.hid (HRS.out.below hb5)
                     have HAT3 := Lib.hid (HAT2.out w5 hb5)
                     clear hb5)
                  | fail)
                clear q0 q1 q2 q3 q4 q5 q6 HAT1 HAT2
                have HQ := Lib.hid HRS5.out.s7
                have hqd : w5.drew.cell? ⟨g, 0, none⟩ = some (.int .i64 p) ∧ w5.drew.cell? ⟨g, 1, none⟩ = some (.int .i64 R) ∧ w5.drew.cell? ⟨g, 2, none⟩ = some (.int .i64 C) ∧ w5.drew.cell? ⟨s2, 0, none⟩ = some (.int .i64 p) ∧ w5.drew.cell? ⟨s2, 1, none⟩ = some (.int .i64 R) ∧ w5.drew.cell? ⟨s2, 2, none⟩ = some (.int .i64 C) ∧ w5.drew.cell? ⟨s2, 3, none⟩ = some (.slice (some ⟨gd, 0, none⟩) n kd) := HRS5.out.s7
                have HQD := Lib.hid hqd
                clear hqd
                go_region_held3 (fun w' => w'.cell? ⟨g, 0, none⟩ = some (.int .i64 p) ∧ w'.cell? ⟨g, 1, none⟩ = some (.int .i64 R) ∧ w'.cell? ⟨g, 2, none⟩ = some (.int .i64 C) ∧ w'.cell? ⟨s2, 0, none⟩ = some (.int .i64 p) ∧ w'.cell? ⟨s2, 1, none⟩ = some (.int .i64 R) ∧ w'.cell? ⟨s2, 2, none⟩ = some (.int .i64 C) ∧ w'.cell? ⟨s2, 3, none⟩ = some (.slice (some ⟨gd, 0, none⟩) n kd))
                  (first | exact HQD.out | exact HQ.out | exact K4 | exact K5 | exact KZ)
                  (first
                    | (go_at_call 145
                       with_reducible refine HAT3.out.mono ?_
                       rintro e w6 ⟨rfl, hb6⟩
                       have HB6 : Hid (Below w5.heap.size w5 w6) := Lib.hid (((Below.refl _ _).drew).trans hb6)
                       have HRS6 := Lib.hid (HRS5.out.below HB6.out)
                       have K4 : w6.cell? ⟨g, 0, none⟩ = some (.int .i64 p) ∧ w6.cell? ⟨g, 1, none⟩ = some (.int .i64 R) ∧ w6.cell? ⟨g, 2, none⟩ = some (.int .i64 C) ∧ w6.cell? ⟨s2, 0, none⟩ = some (.int .i64 p) ∧ w6.cell? ⟨s2, 1, none⟩ = some (.int .i64 R) ∧ w6.cell? ⟨s2, 2, none⟩ = some (.int .i64 C) ∧ w6.cell? ⟨s2, 3, none⟩ = some (.slice (some ⟨gd, 0, none⟩) n kd) := HRS6.out.s7
                       have KZ : (w6.setCell ⟨gd, m1, none⟩ (.int .i64 y1)).cell? ⟨g, 0, none⟩ = some (.int .i64 p) ∧ (w6.setCell ⟨gd, m1, none⟩ (.int .i64 y1)).cell? ⟨g, 1, none⟩ = some (.int .i64 R) ∧ (w6.setCell ⟨gd, m1, none⟩ (.int .i64 y1)).cell? ⟨g, 2, none⟩ = some (.int .i64 C) ∧ (w6.setCell ⟨gd, m1, none⟩ (.int .i64 y1)).cell? ⟨s2, 0, none⟩ = some (.int .i64 p) ∧ (w6.setCell ⟨gd, m1, none⟩ (.int .i64 y1)).cell? ⟨s2, 1, none⟩ = some (.int .i64 R) ∧ (w6.setCell ⟨gd, m1, none⟩ (.int .i64 y1)).cell? ⟨s2, 2, none⟩ = some (.int .i64 C) ∧ (w6.setCell ⟨gd, m1, none⟩ (.int .i64 y1)).cell? ⟨s2, 3, none⟩ = some (.slice (some ⟨gd, 0, none⟩) n kd) := (HRS6.out.put m1 y1).s7
                       obtain ⟨cc, ff⟩ := HRS6.out.mcell hm1n
                       clear hb6))
                have HRS7 : Hid (RS w (w6.setCell ⟨gd, m1, none⟩ (.int .i64 y1)) g s1 s2 p R C A (some ⟨gd, 0, none⟩) n k kd (d1.set m1 y1) Ap np cp ps) := Lib.hid (HRS6.out.put m1 y1)
                obtain ⟨w7, hw7⟩ : ∃ w7, w7 = w6.setCell ⟨gd, m1, none⟩ (.int .i64 y1) := ⟨_, rfl⟩
                rw [← hw7] at HRS7 ⊢
                clear hw7 HQ HQD K4 KZ cc ff
                obtain ⟨q0, q1, q2, q3, q4, q5, q6⟩ := HRS7.out.s7
                obtain ⟨cc, ff⟩ := HRS7.out.mcell hm2n
                go_wp2_with fail
                go_roundw
                case rel => exact ⟨q + 1, (d1.set m1 y1).set m2 x1, by omega, by go_num, HRS7.out.put m2 x1, HFIN.out⟩
                case measure => simp [intOf]; omega
              case neg =>
                obtain rfl : C = q := by omega
                have HDM1 : Hid (DM d1 R C (swM M a np)) := Lib.hid (hdm.congr fun i c _ hc => by simp [swK, hc])
                have HRS := Lib.hid hrs
                clear hrs hdm
                obtain ⟨M1, hM1⟩ : ∃ M1, M1 = swM M a np := ⟨_, rfl⟩
                rw [← hM1] at HDM1
                have HM1 := Lib.hid hM1
                have hM1j : M1 np j = v := by
                  rw [hM1, HV.out]
                  by_cases e : np = a
                  · subst e; simp [swM]
                  · simp [swM, e]
                have HRG1 : Hid (∀ i c, i < R → c < C → 0 ≤ M1 i c ∧ M1 i c < p) := Lib.hid (fun i c hi hc => by
                  rw [hM1]
                  unfold swM
                  split
                  · exact HRI.out.rg np c hnp hc
                  · split
                    · exact HRI.out.rg a c haE hc
                    · exact HRI.out.rg i c hi hc)
                have hvr : 0 < v ∧ v < p := by
                  have := HRI.out.rg a j haE hjC
                  rw [← HV.out] at this; omega
                have HAT := Lib.hid (HRS.out.at_ HDM1.out hR hC hnp hjC v hM1j wr.drew ((Below.refl _ _).drew))
                have HIV := Lib.hid (fun w' => l7Inverse_any p v w' HP.out hvr)
                have hivr := inv7_ok HP.out hvr
                obtain ⟨f, hf⟩ : ∃ f, f = inv7 p v := ⟨_, rfl⟩
                rw [← hf] at hivr HIV
                have HF := Lib.hid hf
                have HFR : Hid (0 < f ∧ f < p) := Lib.hid ⟨hivr.1, hivr.2.1⟩
                obtain ⟨q0, q1, q2, q3, q4, q5, q6⟩ := HRS.out.s7
                clear hM1 hM1j hvr hivr hf
                go_wp2_with fail
                clear q0 q1 q2 q3 q4 q5 q6
                have HQ := Lib.hid HRS.out.s7
                have hqd : wr.drew.cell? ⟨g, 0, none⟩ = some (.int .i64 p) ∧ wr.drew.cell? ⟨g, 1, none⟩ = some (.int .i64 R) ∧ wr.drew.cell? ⟨g, 2, none⟩ = some (.int .i64 C) ∧ wr.drew.cell? ⟨s2, 0, none⟩ = some (.int .i64 p) ∧ wr.drew.cell? ⟨s2, 1, none⟩ = some (.int .i64 R) ∧ wr.drew.cell? ⟨s2, 2, none⟩ = some (.int .i64 C) ∧ wr.drew.cell? ⟨s2, 3, none⟩ = some (.slice A4 n kd) := HRS.out.s7
                have HQD := Lib.hid hqd
                clear hqd
                go_region_held3 (fun w' => w'.cell? ⟨g, 0, none⟩ = some (.int .i64 p) ∧ w'.cell? ⟨g, 1, none⟩ = some (.int .i64 R) ∧ w'.cell? ⟨g, 2, none⟩ = some (.int .i64 C) ∧ w'.cell? ⟨s2, 0, none⟩ = some (.int .i64 p) ∧ w'.cell? ⟨s2, 1, none⟩ = some (.int .i64 R) ∧ w'.cell? ⟨s2, 2, none⟩ = some (.int .i64 C) ∧ w'.cell? ⟨s2, 3, none⟩ = some (.slice A4 n kd))
                  (first | exact HQD.out | exact HQ.out | exact K4 | exact K5 | exact KZ)
                  (first
                    | (go_at_call 145
                       with_reducible refine HAT.out.mono ?_
                       rintro e w5 ⟨rfl, hb5⟩
                       have HRS5 := Lib.hid (HRS.out.below (((Below.refl _ _).drew).trans hb5))
                       have K4 : w5.cell? ⟨g, 0, none⟩ = some (.int .i64 p) ∧ w5.cell? ⟨g, 1, none⟩ = some (.int .i64 R) ∧ w5.cell? ⟨g, 2, none⟩ = some (.int .i64 C) ∧ w5.cell? ⟨s2, 0, none⟩ = some (.int .i64 p) ∧ w5.cell? ⟨s2, 1, none⟩ = some (.int .i64 R) ∧ w5.cell? ⟨s2, 2, none⟩ = some (.int .i64 C) ∧ w5.cell? ⟨s2, 3, none⟩ = some (.slice A4 n kd) := HRS5.out.s7
                       clear hb5)
                    | (go_at_call 146
                       with_reducible refine (HIV.out _).mono ?_
                       rintro e w6 ⟨rfl, hd6⟩
                       have HRS6 := Lib.hid (HRS5.out.below (hd6.below _))
                       have K5 : w6.cell? ⟨g, 0, none⟩ = some (.int .i64 p) ∧ w6.cell? ⟨g, 1, none⟩ = some (.int .i64 R) ∧ w6.cell? ⟨g, 2, none⟩ = some (.int .i64 C) ∧ w6.cell? ⟨s2, 0, none⟩ = some (.int .i64 p) ∧ w6.cell? ⟨s2, 1, none⟩ = some (.int .i64 R) ∧ w6.cell? ⟨s2, 2, none⟩ = some (.int .i64 C) ∧ w6.cell? ⟨s2, 3, none⟩ = some (.slice A4 n kd) := HRS6.out.s7
                       clear hd6))
                clear HQ HQD K4 K5
                go_wp2_with fail
                go_loopw [12] (fun kv wr => ∃ (q : Nat) (d2 : List Int), q ≤ C ∧ kv = .int .i64 q ∧ RS w wr g s1 s2 p R C A A4 n k kd d2 Ap np cp ps ∧ DM d2 R C (scK p M1 np f q))
                  (fun kv _ => C - (intOf kv).toNat)
                case atStart => exact ⟨0, d1, Nat.zero_le _, rfl, HRS6.out, HDM1.out.congr fun i c _ _ => by simp [scK]⟩
                case round =>
                  obtain ⟨q, d2, hq2, rfl, hrs, hdm⟩ := hrel
                  clear HRS6 HRS5
                  clear HRS
                  by_cases hqC : q < C
                  case pos =>
                    have hqI : (q : Int) < (C : Int) := by omega
                    obtain ⟨gd, rfl, _, _⟩ := hrs.od.place (by rw [HNL.out]; have := idx_lt haE hqC; omega)
                    obtain ⟨Nb, m2, hb1, hb2, hm2⟩ := idx_wraps (i := np) (C := C) (q := q) (by omega) hC (by omega)
                    have hm2n : m2 < n := by rw [hm2, HNL.out]; exact idx_lt hnp hqC
                    have hm2I : (m2 : Int) < (n : Int) := by omega
                    obtain ⟨x1, hx1⟩ : ∃ x1, x1 = M1 np q := ⟨_, rfl⟩
                    have HAT2 := Lib.hid (hrs.at_ hdm hR hC hnp hqC x1 (by rw [hx1]; simp [scK]) wr.drew ((Below.refl _ _).drew))
                    have hx1r := HRG1.out np q hnp hqC
                    rw [← hx1] at hx1r
                    have hfr := HFR.out
                    have hX0 : 0 ≤ x1 * f := Int.mul_nonneg hx1r.1 (by omega)
                    have hX1 : x1 * f ≤ 7 * 7 := Int.mul_le_mul (by omega) (by omega) (by omega) (by decide)
                    obtain ⟨X, hX⟩ : ∃ X, X = x1 * f := ⟨_, rfl⟩
                    rw [← hX] at hX0 hX1
                    have hwX : IntKind.i64.wrap (x1 * f) = X := by rw [← hX]; exact IntWalk.i64_in _ (by omega)
                    obtain ⟨Y, hY⟩ : ∃ Y, Y = X % p := ⟨_, rfl⟩
                    have hwY : X.tmod p = Y := by rw [hY]; exact Int.tmod_eq_emod_of_nonneg hX0
                    have hYr : 0 ≤ Y ∧ Y < p := by rw [hY]; exact ⟨Int.emod_nonneg _ hpnz, Int.emod_lt_of_pos _ (by omega)⟩
                    have hwZ : IntKind.i64.wrap Y = Y := IntWalk.i64_in _ (by omega)
                    have HFIN : Hid (DM (d2.set m2 Y) R C (scK p M1 np f (q + 1))) := Lib.hid (by
                      rw [hm2]
                      exact (hdm.set hnp hqC Y).congr fun i c _ _ => by rw [hY, hX, hx1]; exact scK_step i c)
                    have HRS := Lib.hid hrs
                    obtain ⟨q0, q1, q2, q3, q4, q5, q6⟩ := hrs.s7
                    clear hrs hdm hm2 hx1 hx1r hfr hX0 hX1 hX hY hYr
                    go_wp2_with fail
                    clear q0 q1 q2 q3 q4 q5 q6
                    have HQ := Lib.hid HRS.out.s7
                    have hqd : wr.drew.cell? ⟨g, 0, none⟩ = some (.int .i64 p) ∧ wr.drew.cell? ⟨g, 1, none⟩ = some (.int .i64 R) ∧ wr.drew.cell? ⟨g, 2, none⟩ = some (.int .i64 C) ∧ wr.drew.cell? ⟨s2, 0, none⟩ = some (.int .i64 p) ∧ wr.drew.cell? ⟨s2, 1, none⟩ = some (.int .i64 R) ∧ wr.drew.cell? ⟨s2, 2, none⟩ = some (.int .i64 C) ∧ wr.drew.cell? ⟨s2, 3, none⟩ = some (.slice (some ⟨gd, 0, none⟩) n kd) := HRS.out.s7
                    have HQD := Lib.hid hqd
                    clear hqd
                    go_region_held3 (fun w' => w'.cell? ⟨g, 0, none⟩ = some (.int .i64 p) ∧ w'.cell? ⟨g, 1, none⟩ = some (.int .i64 R) ∧ w'.cell? ⟨g, 2, none⟩ = some (.int .i64 C) ∧ w'.cell? ⟨s2, 0, none⟩ = some (.int .i64 p) ∧ w'.cell? ⟨s2, 1, none⟩ = some (.int .i64 R) ∧ w'.cell? ⟨s2, 2, none⟩ = some (.int .i64 C) ∧ w'.cell? ⟨s2, 3, none⟩ = some (.slice (some ⟨gd, 0, none⟩) n kd))
                      (first | exact HQD.out | exact HQ.out | exact K4 | exact K5 | exact KZ)
                      (first
                        | (go_at_call 145
                           with_reducible refine HAT2.out.mono ?_
                           rintro e w6 ⟨rfl, hb6⟩
                           have HRS6 := Lib.hid (HRS.out.below (((Below.refl _ _).drew).trans hb6))
                           have K4 : w6.cell? ⟨g, 0, none⟩ = some (.int .i64 p) ∧ w6.cell? ⟨g, 1, none⟩ = some (.int .i64 R) ∧ w6.cell? ⟨g, 2, none⟩ = some (.int .i64 C) ∧ w6.cell? ⟨s2, 0, none⟩ = some (.int .i64 p) ∧ w6.cell? ⟨s2, 1, none⟩ = some (.int .i64 R) ∧ w6.cell? ⟨s2, 2, none⟩ = some (.int .i64 C) ∧ w6.cell? ⟨s2, 3, none⟩ = some (.slice (some ⟨gd, 0, none⟩) n kd) := HRS6.out.s7
                           have KZ : (w6.setCell ⟨gd, m2, none⟩ (.int .i64 Y)).cell? ⟨g, 0, none⟩ = some (.int .i64 p) ∧ (w6.setCell ⟨gd, m2, none⟩ (.int .i64 Y)).cell? ⟨g, 1, none⟩ = some (.int .i64 R) ∧ (w6.setCell ⟨gd, m2, none⟩ (.int .i64 Y)).cell? ⟨g, 2, none⟩ = some (.int .i64 C) ∧ (w6.setCell ⟨gd, m2, none⟩ (.int .i64 Y)).cell? ⟨s2, 0, none⟩ = some (.int .i64 p) ∧ (w6.setCell ⟨gd, m2, none⟩ (.int .i64 Y)).cell? ⟨s2, 1, none⟩ = some (.int .i64 R) ∧ (w6.setCell ⟨gd, m2, none⟩ (.int .i64 Y)).cell? ⟨s2, 2, none⟩ = some (.int .i64 C) ∧ (w6.setCell ⟨gd, m2, none⟩ (.int .i64 Y)).cell? ⟨s2, 3, none⟩ = some (.slice (some ⟨gd, 0, none⟩) n kd) := (HRS6.out.put m2 Y).s7
                           obtain ⟨cc, ff⟩ := HRS6.out.mcell hm2n
                           clear hb6))
                    clear HQ HQD K4 KZ cc ff
                    go_wp2_with fail
                    go_roundw
                    case rel => exact ⟨q + 1, d2.set m2 Y, by omega, by go_num, HRS6.out.put m2 Y, HFIN.out⟩
                    case measure => simp [intOf]; omega
                  case neg =>
                    obtain rfl : C = q := by omega
                    have HDM2 : Hid (DM d2 R C (scM p M1 np f)) := Lib.hid (hdm.congr fun i c _ hc => by simp [scK, hc])
                    have HRS := Lib.hid hrs
                    obtain ⟨M2, hM2⟩ : ∃ M2, M2 = scM p M1 np f := ⟨_, rfl⟩
                    rw [← hM2] at HDM2
                    have HM2 := Lib.hid hM2
                    have HRG2 : Hid (∀ i c, i < R → c < C → 0 ≤ M2 i c ∧ M2 i c < p) := Lib.hid (fun i c hi hc => by
                      rw [hM2]
                      unfold scM
                      split
                      · exact ⟨Int.emod_nonneg _ hpnz, Int.emod_lt_of_pos _ (by omega)⟩
                      · exact HRG1.out i c hi hc)
                    have hCI : ¬ (C : Int) < (C : Int) := by omega
                    obtain ⟨q0, q1, q2, q3, q4, q5, q6⟩ := hrs.s7
                    clear hrs hdm hM2
                    go_wp2_with fail
                    clear q0 q1 q2 q3 q4 q5 q6 hCI
                    go_loopw [13] (fun iv wr => ∃ (i : Nat) (d3 : List Int), i ≤ R ∧ iv = .int .i64 i ∧ RS w wr g s1 s2 p R C A A4 n k kd d3 Ap np cp ps ∧ DM d3 R C (clK p M2 np j i 0))
                      (fun iv _ => R - (intOf iv).toNat)
                    case atStart => exact ⟨0, d2, Nat.zero_le _, rfl, HRS.out, HDM2.out.congr fun i c _ _ => by simp [clK]⟩
                    case round =>
                      obtain ⟨i, d3, hi, rfl, hrs, hdm⟩ := hrel
                      clear HRS
                      have HRS := Lib.hid hrs
                      have HDM3 := Lib.hid hdm
                      clear hrs hdm
                      by_cases hiR : i < R
                      case pos =>
                        have hiI : (i : Int) < (R : Int) := by omega
                        obtain ⟨cv, hcv⟩ : ∃ cv, cv = M2 i j := ⟨_, rfl⟩
                        have HAT3 := Lib.hid (HRS.out.at_ HDM3.out hR hC hiR hjC cv (by rw [hcv]; simp [clK]) wr (Below.refl _ _))
                        have HCV := Lib.hid hcv
                        have hcvr := HRG2.out i j hiR hjC
                        rw [← hcv] at hcvr
                        clear hcv
                        obtain ⟨q0, q1, q2, q3, q4, q5, q6⟩ := HRS.out.s7
                        go_wp2_with (first
                          | (go_at_call 145
                             with_reducible refine HAT3.out.mono ?_
                             rintro e w4 ⟨rfl, hb4⟩
                             have HRS4 := Lib.hid (HRS.out.below hb4)
                             obtain ⟨t0, t1, t2, t3, t4, t5, t6⟩ := HRS4.out.s7
                             clear hb4)
                          | fail)
                        clear q0 q1 q2 q3 q4 q5 q6 t0 t1 t2 t3 t4 t5 t6 HAT3
                        go_loopw [15] (fun kv wr => ∃ (q : Nat) (d4 : List Int), q ≤ C ∧ kv = .int .i64 q ∧ RS w wr g s1 s2 p R C A A4 n k kd d4 Ap np cp ps ∧ DM d4 R C (clK p M2 np j i q) ∧ (i = np → q = 0))
                          (fun kv _ => C - (intOf kv).toNat)
                        case atStart => exact ⟨0, d3, Nat.zero_le _, rfl, HRS4.out, HDM3.out, fun _ => rfl⟩
                        case round =>
                          obtain ⟨q, d4, hq4, rfl, hrs, hdm, hz⟩ := hrel
                          clear HRS4 HRS
                          have HRS := Lib.hid hrs
                          have HDM4 := Lib.hid hdm
                          have HZ := Lib.hid hz
                          clear hrs hdm hz
                          obtain ⟨q0, q1, q2, q3, q4, q5, q6⟩ := HRS.out.s7
                          by_cases hqC : q < C
                          case neg =>
                            have hqI : ¬ (q : Int) < (C : Int) := by omega
                            go_wp2
                            go_roundw
                            case rel => exact ⟨i + 1, d4, by omega, by go_num, HRS.out, HDM4.out.congr fun x c _ hc => by
                              have hqe : q = C := by omega
                              rw [hqe]; exact clK_row x c hc⟩
                            case measure => simp [intOf]; omega
                          case pos =>
                            have hqI : (q : Int) < (C : Int) := by omega
                            by_cases hin : i = np
                            case pos =>
                              have hinb : ((i : Int) != (np : Int)) = false := by simp; omega
                              go_wp2
                              go_roundw
                              case rel => exact ⟨i + 1, d4, by omega, by go_num, HRS.out, HDM4.out.congr fun x c _ hc => by
                                have h0 := HZ.out hin
                                rw [h0, hin]; exact clK_skip x c⟩
                              case measure => simp [intOf]; omega
                            case neg =>
                              have hinb : ((i : Int) != (np : Int)) = true := by simp; omega
                              obtain ⟨gd, rfl, _, _⟩ := HRS.out.od.place (by rw [HNL.out]; have := idx_lt haE hqC; omega)
                              obtain ⟨Nb, m2, hb1, hb2, hm2⟩ := idx_wraps (i := i) (C := C) (q := q) (by omega) hC (by omega)
                              have hm2n : m2 < n := by rw [hm2, HNL.out]; exact idx_lt hiR hqC
                              have hm2I : (m2 : Int) < (n : Int) := by omega
                              obtain ⟨a1, ha1⟩ : ∃ a1, a1 = M2 i q := ⟨_, rfl⟩
                              obtain ⟨b1, hb1'⟩ : ∃ b1, b1 = M2 np q := ⟨_, rfl⟩
                              have hclb : clK p M2 np j i q np q = b1 := by
                                rw [hb1']
                                unfold clK
                                split
                                · simp [clM]
                                · rfl
                              have HATA := Lib.hid (fun w' hb' => HRS.out.at_ HDM4.out hR hC hiR hqC a1 (by rw [ha1]; simp [clK]) w' hb')
                              have HATB := Lib.hid (fun w' hb' => HRS.out.at_ HDM4.out hR hC hnp hqC b1 hclb w' hb')
                              have hbr := HRG2.out np q hnp hqC
                              have har := HRG2.out i q hiR hqC
                              rw [← hb1'] at hbr
                              rw [← ha1] at har
                              obtain ⟨Dv, hDv⟩ : ∃ Dv, Dv = p - cv := ⟨_, rfl⟩
                              have hw1 : IntKind.i64.wrap (p - cv) = Dv := by rw [← hDv]; exact IntWalk.i64_in _ (by omega)
                              have hP0 : 0 ≤ Dv * b1 := Int.mul_nonneg (by omega) hbr.1
                              have hP1 : Dv * b1 ≤ 7 * 7 := Int.mul_le_mul (by omega) (by omega) hbr.1 (by decide)
                              obtain ⟨PB, hPB⟩ : ∃ PB, PB = Dv * b1 := ⟨_, rfl⟩
                              rw [← hPB] at hP0 hP1
                              have hw2 : IntKind.i64.wrap (Dv * b1) = PB := by rw [← hPB]; exact IntWalk.i64_in _ (by omega)
                              obtain ⟨X, hX⟩ : ∃ X, X = a1 + PB := ⟨_, rfl⟩
                              have hw3 : IntKind.i64.wrap (a1 + PB) = X := by rw [← hX]; exact IntWalk.i64_in _ (by omega)
                              obtain ⟨Y, hY⟩ : ∃ Y, Y = X % p := ⟨_, rfl⟩
                              have hw4 : X.tmod p = Y := by rw [hY]; exact Int.tmod_eq_emod_of_nonneg (by omega)
                              have hYr : 0 ≤ Y ∧ Y < p := by rw [hY]; exact ⟨Int.emod_nonneg _ hpnz, Int.emod_lt_of_pos _ (by omega)⟩
                              have hw5 : IntKind.i64.wrap Y = Y := IntWalk.i64_in _ (by omega)
                              have HFIN : Hid (DM (d4.set m2 Y) R C (clK p M2 np j i (q + 1))) := Lib.hid (by
                                rw [hm2]
                                exact (HDM4.out.set hiR hqC Y).congr fun x c _ _ => by rw [hY, hX, hPB, hDv, ha1, hb1', HCV.out]; exact clK_step hin x c)
                              clear hm2 ha1 hb1' hclb hbr har hP0 hP1 hX hY hYr hDv hPB
                              go_wp2_with fail
                              clear q0 q1 q2 q3 q4 q5 q6
                              have HQ := Lib.hid HRS.out.s7
                              have hqd : wr.drew.cell? ⟨g, 0, none⟩ = some (.int .i64 p) ∧ wr.drew.cell? ⟨g, 1, none⟩ = some (.int .i64 R) ∧ wr.drew.cell? ⟨g, 2, none⟩ = some (.int .i64 C) ∧ wr.drew.cell? ⟨s2, 0, none⟩ = some (.int .i64 p) ∧ wr.drew.cell? ⟨s2, 1, none⟩ = some (.int .i64 R) ∧ wr.drew.cell? ⟨s2, 2, none⟩ = some (.int .i64 C) ∧ wr.drew.cell? ⟨s2, 3, none⟩ = some (.slice (some ⟨gd, 0, none⟩) n kd) := HRS.out.s7
                              have HQD := Lib.hid hqd
                              clear hqd
                              go_region_held3 (fun w' => w'.cell? ⟨g, 0, none⟩ = some (.int .i64 p) ∧ w'.cell? ⟨g, 1, none⟩ = some (.int .i64 R) ∧ w'.cell? ⟨g, 2, none⟩ = some (.int .i64 C) ∧ w'.cell? ⟨s2, 0, none⟩ = some (.int .i64 p) ∧ w'.cell? ⟨s2, 1, none⟩ = some (.int .i64 R) ∧ w'.cell? ⟨s2, 2, none⟩ = some (.int .i64 C) ∧ w'.cell? ⟨s2, 3, none⟩ = some (.slice (some ⟨gd, 0, none⟩) n kd))
                                (first | exact HQD.out | exact HQ.out | exact K4 | exact K5 | exact KZ)
                                (first
                                  | (go_at_call 145
                                     with_reducible refine (HATB.out _ HBA.out).mono ?_
                                     rintro e w6 ⟨rfl, hb6⟩
                                     have HRS6 := Lib.hid (HRS.out.below (HBA.out.trans (hb6.mono HBA.out.size)))
                                     have K4 : w6.cell? ⟨g, 0, none⟩ = some (.int .i64 p) ∧ w6.cell? ⟨g, 1, none⟩ = some (.int .i64 R) ∧ w6.cell? ⟨g, 2, none⟩ = some (.int .i64 C) ∧ w6.cell? ⟨s2, 0, none⟩ = some (.int .i64 p) ∧ w6.cell? ⟨s2, 1, none⟩ = some (.int .i64 R) ∧ w6.cell? ⟨s2, 2, none⟩ = some (.int .i64 C) ∧ w6.cell? ⟨s2, 3, none⟩ = some (.slice (some ⟨gd, 0, none⟩) n kd) := HRS6.out.s7
                                     have KZ : (w6.setCell ⟨gd, m2, none⟩ (.int .i64 Y)).cell? ⟨g, 0, none⟩ = some (.int .i64 p) ∧ (w6.setCell ⟨gd, m2, none⟩ (.int .i64 Y)).cell? ⟨g, 1, none⟩ = some (.int .i64 R) ∧ (w6.setCell ⟨gd, m2, none⟩ (.int .i64 Y)).cell? ⟨g, 2, none⟩ = some (.int .i64 C) ∧ (w6.setCell ⟨gd, m2, none⟩ (.int .i64 Y)).cell? ⟨s2, 0, none⟩ = some (.int .i64 p) ∧ (w6.setCell ⟨gd, m2, none⟩ (.int .i64 Y)).cell? ⟨s2, 1, none⟩ = some (.int .i64 R) ∧ (w6.setCell ⟨gd, m2, none⟩ (.int .i64 Y)).cell? ⟨s2, 2, none⟩ = some (.int .i64 C) ∧ (w6.setCell ⟨gd, m2, none⟩ (.int .i64 Y)).cell? ⟨s2, 3, none⟩ = some (.slice (some ⟨gd, 0, none⟩) n kd) := (HRS6.out.put m2 Y).s7
                                     obtain ⟨cc, ff⟩ := HRS6.out.mcell hm2n
                                     clear hb6)
                                  | (go_at_call 145
                                     with_reducible refine (HATA.out _ HBC.out).mono ?_
                                     rintro e w6 ⟨rfl, hb6⟩
                                     have HRS6 := Lib.hid (HRS.out.below (HBC.out.trans (hb6.mono HBC.out.size)))
                                     have K4 : w6.cell? ⟨g, 0, none⟩ = some (.int .i64 p) ∧ w6.cell? ⟨g, 1, none⟩ = some (.int .i64 R) ∧ w6.cell? ⟨g, 2, none⟩ = some (.int .i64 C) ∧ w6.cell? ⟨s2, 0, none⟩ = some (.int .i64 p) ∧ w6.cell? ⟨s2, 1, none⟩ = some (.int .i64 R) ∧ w6.cell? ⟨s2, 2, none⟩ = some (.int .i64 C) ∧ w6.cell? ⟨s2, 3, none⟩ = some (.slice (some ⟨gd, 0, none⟩) n kd) := HRS6.out.s7
                                     have KZ : (w6.setCell ⟨gd, m2, none⟩ (.int .i64 Y)).cell? ⟨g, 0, none⟩ = some (.int .i64 p) ∧ (w6.setCell ⟨gd, m2, none⟩ (.int .i64 Y)).cell? ⟨g, 1, none⟩ = some (.int .i64 R) ∧ (w6.setCell ⟨gd, m2, none⟩ (.int .i64 Y)).cell? ⟨g, 2, none⟩ = some (.int .i64 C) ∧ (w6.setCell ⟨gd, m2, none⟩ (.int .i64 Y)).cell? ⟨s2, 0, none⟩ = some (.int .i64 p) ∧ (w6.setCell ⟨gd, m2, none⟩ (.int .i64 Y)).cell? ⟨s2, 1, none⟩ = some (.int .i64 R) ∧ (w6.setCell ⟨gd, m2, none⟩ (.int .i64 Y)).cell? ⟨s2, 2, none⟩ = some (.int .i64 C) ∧ (w6.setCell ⟨gd, m2, none⟩ (.int .i64 Y)).cell? ⟨s2, 3, none⟩ = some (.slice (some ⟨gd, 0, none⟩) n kd) := (HRS6.out.put m2 Y).s7
                                     obtain ⟨cc, ff⟩ := HRS6.out.mcell hm2n
                                     clear hb6)
                                  | (go_at_call 145
                                     with_reducible refine (HATA.out _ ((Below.refl _ _).drew)).mono ?_
                                     rintro e wa ⟨rfl, hb5⟩
                                     have HBA : Hid (Below wr.heap.size wr wa) := Lib.hid (((Below.refl _ _).drew).trans hb5)
                                     have K5 : wa.cell? ⟨g, 0, none⟩ = some (.int .i64 p) ∧ wa.cell? ⟨g, 1, none⟩ = some (.int .i64 R) ∧ wa.cell? ⟨g, 2, none⟩ = some (.int .i64 C) ∧ wa.cell? ⟨s2, 0, none⟩ = some (.int .i64 p) ∧ wa.cell? ⟨s2, 1, none⟩ = some (.int .i64 R) ∧ wa.cell? ⟨s2, 2, none⟩ = some (.int .i64 C) ∧ wa.cell? ⟨s2, 3, none⟩ = some (.slice (some ⟨gd, 0, none⟩) n kd) := (HRS.out.below HBA.out).s7
                                     clear hb5)
                                  | (go_at_call 145
                                     with_reducible refine (HATB.out _ ((Below.refl _ _).drew)).mono ?_
                                     rintro e wc ⟨rfl, hb5⟩
                                     have HBC : Hid (Below wr.heap.size wr wc) := Lib.hid (((Below.refl _ _).drew).trans hb5)
                                     have K5 : wc.cell? ⟨g, 0, none⟩ = some (.int .i64 p) ∧ wc.cell? ⟨g, 1, none⟩ = some (.int .i64 R) ∧ wc.cell? ⟨g, 2, none⟩ = some (.int .i64 C) ∧ wc.cell? ⟨s2, 0, none⟩ = some (.int .i64 p) ∧ wc.cell? ⟨s2, 1, none⟩ = some (.int .i64 R) ∧ wc.cell? ⟨s2, 2, none⟩ = some (.int .i64 C) ∧ wc.cell? ⟨s2, 3, none⟩ = some (.slice (some ⟨gd, 0, none⟩) n kd) := (HRS.out.below HBC.out).s7
                                     clear hb5))
                              all_goals
                                (clear HQ HQD cc ff
                                 go_wp2_with fail
                                 go_roundw
                                 case rel => exact ⟨q + 1, d4.set m2 Y, by omega, by go_num, HRS6.out.put m2 Y, HFIN.out, fun h => absurd h hin⟩
                                 case measure => simp [intOf]; omega)
                      case neg =>
                        obtain rfl : R = i := by omega
                        have HSTEP : Hid (RedI p C R M0 (clM p M2 np j) (ps ++ [(j : Int)]) (j + 1)) := Lib.hid (by
                          have h5 := HRI.out.step HP.out hjC (a := a) (by rw [HNP.out]; exact hna) haE (by rw [← HV.out]; exact hv0)
                          rw [HNP.out, ← HV.out, ← HF.out, ← HM1.out, ← HM2.out] at h5
                          exact h5)
                        have HDML : Hid (DM d3 R C (clM p M2 np j)) := Lib.hid (HDM3.out.congr fun x c hx _ => by
                          unfold clK
                          rw [if_pos (Or.inl hx)])
                        have hRI : ¬ (R : Int) < (R : Int) := by omega
                        obtain ⟨q0, q1, q2, q3, q4, q5, q6⟩ := HRS.out.s7
                        go_wp2_with (first
                          | (at_builtin
                             refine wpList_append1 rfl (.tmp 164) (.tmp 166) rfl (s2 + 1) Ap np cp ps (j : Int) rfl (by show Act.eval _ _ = _; simp [Act.eval]) HRS.out.op (by have := HRS.out.ord; omega) (by omega) ?_
                             intro A' c' w9 ho9 hg9 hb9
                             have HRS9 := Lib.hid (HRS.out.app hg9 rfl ho9)
                             clear ho9 hg9 hb9)
                          | fail)
                        go_roundw
                        case rel => exact ⟨j + 1, d3, clM p M2 np j, A', np + 1, c', ps ++ [(j : Int)], by omega, by go_num, rfl, HRS9.out, HDML.out, HSTEP.out⟩
                        case measure => simp [intOf]; omega

end Go.Proofs.Ytbkhibojbakckaa

/-
  Slices of slices of numbers that a call owns: a list put in, a list more behind them, made of nothing. Conditions: lengths below 2^40.
-/

namespace Go.Proofs.Ytbkhibojbakckaa
open Go.RowKit

theorem row1_eq {w : World} {lo : Nat} {t : TypeId} {v : Value} {n : Nat} {xs ys : List Value} (h : w.ownsRow lo t 1 v n xs) (e : xs = ys) : w.ownsRow lo t 1 v n ys := e ▸ h
theorem OwnL.put {w : World} {lo hi g n c : Nat} {ls : List (List Int)} (h : OwnL w lo hi (some ⟨g, 0, none⟩) n c ls) {k : Nat} (hk : k < n) {lo' hi' n' c' : Nat} {A' : Option Addr} {xs : List Int} (hx : Own w lo' hi' A' n' c' xs)
    (h1 : hi ≤ lo') (h2 : lo ≤ lo') (h3 : hi ≤ hi') :
    OwnL (w.setCell ⟨g, k, none⟩ (.slice A' n' c')) lo hi' (some ⟨g, 0, none⟩) n c (ls.set k xs) ∧ w.grownBy (w.setCell ⟨g, k, none⟩ (.slice A' n' c')) (some g) := by
  obtain ⟨E, hl, ho, hh, he, hne, hdd⟩ := h
  have hgl := hh g rfl
  obtain ⟨o1, gg⟩ := ho.stored k (.slice A' n' c')
  refine ⟨⟨fun j => if j = k then (A', n', c') else E j, by simpa using hl, ?_, fun b hb => by have := hh b hb; omega, fun j hj => ?_, fun j b hj hb => ?_, fun i j b hij hj hb => ?_⟩, gg⟩
  · exact row1_eq o1 (heads_set E hk (A', n', c'))
  · dsimp only
    rw [li_set (by omega)]
    by_cases e : j = k
    · rw [if_pos e, if_pos e]
      exact (hx.grown gg (fun b hb => .inl (by injection hb with hb; omega))).wide h2 (Nat.le_refl _)
    · rw [if_neg e, if_neg e]
      exact ((he j hj).kept gg (fun b hb => hne j b hj hb)).wide (Nat.le_refl _) h3
  · dsimp only at hb
    by_cases e : j = k
    · rw [if_pos e] at hb
      have := hx.lt b hb
      intro e2; injection e2 with e2; dsimp only at e2; omega
    · rw [if_neg e] at hb
      exact hne j b hj hb
  · dsimp only at hb ⊢
    by_cases e : i = k
    · rw [if_pos e] at hb
      rw [if_neg (by omega)]
      intro e2
      have := hx.lt b hb
      have := (he j hj).2 b e2
      omega
    · rw [if_neg e] at hb
      by_cases e' : j = k
      · rw [if_pos e']
        intro e2
        have := hx.lt b e2
        have := (he i (by omega)).2 b hb
        omega
      · rw [if_neg e']
        exact hdd i j b hij hj hb
theorem OwnL.zeros {w : World} {lo hi g n c : Nat} (h : w.ownsRow lo 22 1 (.slice (some ⟨g, 0, none⟩) n c) n (List.replicate n (.slice none 0 0))) (hlt : g < hi) : OwnL w lo hi (some ⟨g, 0, none⟩) n c (List.replicate n []) := by
  refine ⟨fun _ => (none, 0, 0), by simp, row1_eq h ?_, fun b hb => by simp [Value.ownBlock] at hb; omega, fun j hj => ?_, fun j b hj hb => by simp [sv, Value.ownBlock] at hb, fun i j b _ _ hb => by simp [sv, Value.ownBlock] at hb⟩
  · apply List.ext_getElem (by simp [heads])
    intro j h1 h2
    simp [heads, sv]
  · have e : li (List.replicate n ([] : List Int)) j = [] := by rw [li_get (by simpa using hj)]; simp
    rw [e]
    exact Own.nil _ _ _
theorem Try.infoLs : (Try.prog.info? 22).map (fun i => (i.zero, i.size, i.bytes)) = some (some (.slice none 0 0), 1, 24) := by kernel_rfl
/-- 'make([][]int, n)'. -/
theorem wpList_make_lists {ops : Array Oper} {rest : List Oper} {o : Oper} {a : Act} {w : World} {Q : Exit → Act → World → Prop} (hgd : o.guard = none) (l c : Operand) (ho : o.op = .makeSlice 49 l c)
    (n : Nat) (hl : a.eval l = .int .i64 n) (hc : a.eval c = .int .i64 n) (hn : n ≤ 1099511627776)
    (hK : ∀ w', OwnL w' w.heap.size w'.heap.size (some ⟨w.heap.size, 0, none⟩) n n (List.replicate n []) → Below w.heap.size w w' → wpList Try.prog ops Q rest (a.put o.dst (.slice (some ⟨w.heap.size, 0, none⟩) n n)) w') :
    wpList Try.prog ops Q (o :: rest) a w := by
  obtain ⟨i0, hi, hz0, hz1, hz2⟩ := info_parts Try.infoLs
  refine wpList_make_full w hgd l c 49 ho w.heap.size 22 i0 (.slice none 0 0) 1 Try.underlying49 hi hz0 hz1 .i64 .i64 n n n hl hc rfl rfl (by rw [hz2]; omega) (by unfold maxLen; omega) (Nat.le_refl _) ?_
  intro w1 ho1 hg1
  have e : (madeCells (Value.slice none 0 0).cells (n * 1)).toList = List.replicate n (.slice none 0 0) := by
    rw [show (Value.slice none 0 0).cells = #[Value.slice none 0 0] from rfl, Nat.mul_one, toList_madeCells_one]
  rw [e] at ho1
  exact hK w1 (OwnL.zeros ho1 (ho1.lt w.heap.size rfl).2) (grow_below hg1 (Nat.le_refl _) (by intro k hk; cases hk))
/-- 'out = append(out, x)' where x is a list of the call's own that lies behind them. -/
theorem wpList_appendL {ops : Array Oper} {rest : List Oper} {o : Oper} {a : Act} {w : World} {Q : Exit → Act → World → Prop} (hgd : o.guard = none) (s x : Operand)
    (ho : o.op = .call { callee := .builtin .append, args := #[s, x], argTypes := #[49, 49] })
    (lo hi : Nat) (A : Option Addr) (n c : Nat) (ls : List (List Int)) (lo2 hi2 : Nat) (A3 : Option Addr) (n3 c3 : Nat) (xs : List Int) (hs : a.eval s = .slice A n c) (hx : a.eval x = .slice (some ⟨w.heap.size, 0, none⟩) 1 1)
    (hown : OwnL w lo hi A n c ls) (hxs : Own w lo2 hi2 A3 n3 c3 xs) (hlo : lo ≤ lo2) (hd : hi ≤ lo2) (h1 : hi2 ≤ w.heap.size) (h2 : hi ≤ w.heap.size) (h3 : lo ≤ w.heap.size) (hn : n ≤ 1099511627776)
    (hK : ∀ A' c' w', OwnL w' lo w'.heap.size A' (n + 1) c' (ls ++ [xs]) → Below lo w w' → wpList Try.prog ops Q rest (a.put o.dst (.slice A' (n + 1) c')) w') :
    wpList Try.prog ops Q (o :: rest) a (w.alloc (.cells #[.slice A3 n3 c3] 22)) := by
  obtain ⟨i0, hi0, hz0, hz1, hz2⟩ := info_parts Try.infoLs
  obtain ⟨E, hE⟩ := hown
  have hE' : OwnLE E (w.alloc (.cells #[.slice A3 n3 c3] 22)) lo hi A n c ls := hE.below ((Below.refl w.heap.size w).alloc (Nat.le_refl _) _) h2
  have hx' : Own (w.alloc (.cells #[.slice A3 n3 c3] 22)) lo2 hi2 A3 n3 c3 xs := hxs.below ((Below.refl w.heap.size w).alloc (Nat.le_refl _) _) h1
  refine Go.wpList_append_own_at _ hgd s x 49 ho lo 22 i0 (.slice none 0 0) 1 24 Try.underlying49 hi0 hz0 hz1 hz2 rfl (by decide) _ _ _ hs hE'.2.1 ⟨w.heap.size, 0, none⟩ 1 1 [.slice A3 n3 c3] hx rfl ?_ ?_ (by unfold maxLen; omega) (by omega) (by simp; omega) ?_
  · intro j u hj
    match j, hj with
    | 0, hj =>
      simp at hj
      subst hj
      rw [add_pt]
      exact (Blk.new w 22 #[.slice A3 n3 c3]).cell 0
  · intro u hu
    simp at hu
    subst hu
    rfl
  · intro v' w1 ho1 hg1 _ hat
    obtain ⟨g, cap, rfl, _, hlt⟩ := ho1.form (by omega)
    have hh : OwnL w1 lo w1.heap.size (some ⟨g, 0, none⟩) (n + 1) cap (ls ++ [xs]) := hE'.app hx' hlo hd (H := w.heap.size) h1 h2 (by simp) ho1 hg1 (by
      rcases hat with h | h
      · exact .inl (by rw [← h]; rfl)
      · right
        simp [Value.ownBlock] at h
        omega) hlt
    have hg2 : w.grownBy w1 (Value.slice A n c).ownBlock := (World.grownBy_alloc w _ _).trans hg1
    exact hK _ _ w1 hh (grow_below hg2 h3 (fun k hk => (hE.2.1.lt k hk).1))
end Go.Proofs.Ytbkhibojbakckaa

/-
  Lists of lists, their blocks named and apart from another slice's; an append that keeps what it was given. Conditions: lengths below 2^40.
-/



namespace Go.Proofs.Ytbkhibojbakckaa
open Go.RowKit

/-- The block of a slice. -/
def rowB (A : Option Addr) : Option Nat := (Value.slice A 0 0).ownBlock
theorem ownB (A : Option Addr) (n c : Nat) : (Value.slice A n c).ownBlock = rowB A := by cases A <;> rfl
theorem rowB_some (g o : Nat) : rowB (some ⟨g, o, none⟩) = some g := rfl
/-- One more name. -/
def snE (E : Nat → Sv) (n : Nat) (a : Sv) : Nat → Sv := fun j => if j = n then a else E j
theorem snE_lt (E : Nat → Sv) {n j : Nat} (a : Sv) (h : j < n) : snE E n a j = E j := if_neg (by omega)
theorem snE_at (E : Nat → Sv) (n : Nat) (a : Sv) : snE E n a n = a := if_pos rfl
theorem OwnLE.appE {w w' : World} {lo hi n c : Nat} {A : Option Addr} {ls : List (List Int)} {E : Nat → Sv} (h : OwnLE E w lo hi A n c ls) {lo2 hi2 n2 c2 : Nat} {A2 : Option Addr} {xs : List Int} (hx : Own w lo2 hi2 A2 n2 c2 xs)
    (hlo : lo ≤ lo2) (hap : ∀ b, (Value.slice A2 n2 c2).ownBlock = some b → (Value.slice A n c).ownBlock ≠ some b ∧ ∀ j, j < n → (sv (E j)).ownBlock ≠ some b) {H g cap : Nat} (hH : hi2 ≤ H) (hHh : hi ≤ H) (hHw : H ≤ w.heap.size)
    (ho : w'.ownsRow lo 22 1 (.slice (some ⟨g, 0, none⟩) (n + 1) cap) (n + 1) (heads n E ++ [.slice A2 n2 c2]))
    (hg : w.grownBy w' (Value.slice A n c).ownBlock) (hat : (Value.slice A n c).ownBlock = some g ∨ H ≤ g) (hlt : g < w'.heap.size) : OwnLE (snE E n (A2, n2, c2)) w' lo w'.heap.size (some ⟨g, 0, none⟩) (n + 1) cap (ls ++ [xs]) := by
  obtain ⟨h1, h2, h3, h4, h5, h6⟩ := h
  have hsz := hg.size
  have eh : heads n E ++ [Value.slice A2 n2 c2] = heads (n + 1) (fun j => if j = n then (A2, n2, c2) else E j) := heads_app n E (A2, n2, c2)
  rw [eh] at ho
  have eE : ∀ j, j < n → (if j = n then ((A2, n2, c2) : Sv) else E j) = E j := fun j hj => by rw [if_neg (by omega)]
  have eN : (if n = n then ((A2, n2, c2) : Sv) else E n) = (A2, n2, c2) := if_pos rfl
  refine ⟨by simp [h1], ho, ?_, ?_, ?_, ?_⟩
  · intro k hk
    simp [Value.ownBlock] at hk
    omega
  · intro j hj
    by_cases e : j = n
    · subst e
      have := @li_app_at ls xs
      rw [h1] at this
      rw [this]
      show Own w' lo w'.heap.size (if j = j then ((A2, n2, c2) : Sv) else E j).1 (if j = j then ((A2, n2, c2) : Sv) else E j).2.1 (if j = j then ((A2, n2, c2) : Sv) else E j).2.2 xs
      rw [eN]
      exact (hx.kept hg (fun b hb e => (hap b hb).1 e)).wide hlo (by omega)
    · rw [li_app_lt (by rw [h1]; omega)]
      show Own w' lo w'.heap.size (if j = n then ((A2, n2, c2) : Sv) else E j).1 (if j = n then ((A2, n2, c2) : Sv) else E j).2.1 (if j = n then ((A2, n2, c2) : Sv) else E j).2.2 _
      rw [eE j (by omega)]
      exact ((h4 j (by omega)).kept hg (fun b hb e => h5 j b (by omega) hb e)).wide (Nat.le_refl _) (by omega)
  · intro j b hj hb e2
    have hbg : b = g := by simp [Value.ownBlock] at e2; omega
    subst hbg
    have hb' : (sv (if j = n then ((A2, n2, c2) : Sv) else E j)).ownBlock = some b := hb
    by_cases e : j = n
    · subst e
      rw [eN] at hb'
      have h7 := hx.lt b hb'
      rcases hat with ha | ha
      · exact (hap b hb').1 ha
      · omega
    · rw [eE j (by omega)] at hb'
      rcases hat with ha | ha
      · exact h5 j b (by omega) hb' ha
      · have := (h4 j (by omega)).lt b hb'; omega
  · intro i j b hij hj hb hb2
    have hb' : (sv (if i = n then ((A2, n2, c2) : Sv) else E i)).ownBlock = some b := hb
    have hb2' : (sv (if j = n then ((A2, n2, c2) : Sv) else E j)).ownBlock = some b := hb2
    rw [eE i (by omega)] at hb'
    by_cases e : j = n
    · subst e
      rw [eN] at hb2'
      exact (hap b hb2').2 i (by omega) hb'
    · rw [eE j (by omega)] at hb2'
      exact h6 i j b hij (by omega) hb' hb2'
/-- 'out = append(out, x)' where x is a list of the call's own that lies behind them. -/
theorem wpList_appendLE {ops : Array Oper} {rest : List Oper} {o : Oper} {a : Act} {w : World} {Q : Exit → Act → World → Prop} (hgd : o.guard = none) (s x : Operand)
    (ho : o.op = .call { callee := .builtin .append, args := #[s, x], argTypes := #[49, 49] })
    (lo hi : Nat) (A : Option Addr) (n c : Nat) (ls : List (List Int)) (lo2 hi2 : Nat) (A3 : Option Addr) (n3 c3 : Nat) (xs : List Int) (hs : a.eval s = .slice A n c) (hx : a.eval x = .slice (some ⟨w.heap.size, 0, none⟩) 1 1)
    {E : Nat → Sv} (hown : OwnLE E w lo hi A n c ls) (hxs : Own w lo2 hi2 A3 n3 c3 xs) (hlo : lo ≤ lo2) (hap : ∀ b, (Value.slice A3 n3 c3).ownBlock = some b → (Value.slice A n c).ownBlock ≠ some b ∧ ∀ j, j < n → (sv (E j)).ownBlock ≠ some b) (h1 : hi2 ≤ w.heap.size) (h2 : hi ≤ w.heap.size) (h3 : lo ≤ w.heap.size) (hn : n ≤ 1099511627776)
    (hK : ∀ A' c' w', OwnLE (snE E n (A3, n3, c3)) w' lo w'.heap.size A' (n + 1) c' (ls ++ [xs]) → (rowB A' = rowB A ∨ ∃ g, rowB A' = some g ∧ w.heap.size ≤ g) → w.grownBy w' (rowB A) → Below lo w w' → wpList Try.prog ops Q rest (a.put o.dst (.slice A' (n + 1) c')) w') :
    wpList Try.prog ops Q (o :: rest) a (w.alloc (.cells #[.slice A3 n3 c3] 22)) := by
  obtain ⟨i0, hi0, hz0, hz1, hz2⟩ := info_parts Try.infoLs
  have hE := hown
  have hE' : OwnLE E (w.alloc (.cells #[.slice A3 n3 c3] 22)) lo hi A n c ls := hE.below ((Below.refl w.heap.size w).alloc (Nat.le_refl _) _) h2
  have hx' : Own (w.alloc (.cells #[.slice A3 n3 c3] 22)) lo2 hi2 A3 n3 c3 xs := hxs.below ((Below.refl w.heap.size w).alloc (Nat.le_refl _) _) h1
  refine Go.wpList_append_own_at _ hgd s x 49 ho lo 22 i0 (.slice none 0 0) 1 24 Try.underlying49 hi0 hz0 hz1 hz2 rfl (by decide) _ _ _ hs hE'.2.1 ⟨w.heap.size, 0, none⟩ 1 1 [.slice A3 n3 c3] hx rfl ?_ ?_ (by unfold maxLen; omega) (by omega) (by simp; omega) ?_
  · intro j u hj
    match j, hj with
    | 0, hj =>
      simp at hj
      subst hj
      rw [add_pt]
      exact (Blk.new w 22 #[.slice A3 n3 c3]).cell 0
  · intro u hu
    simp at hu
    subst hu
    rfl
  · intro v' w1 ho1 hg1 _ hat
    obtain ⟨g, cap, rfl, _, hlt⟩ := ho1.form (by omega)
    have hh : OwnLE (snE E n (A3, n3, c3)) w1 lo w1.heap.size (some ⟨g, 0, none⟩) (n + 1) cap (ls ++ [xs]) := hE'.appE hx' hlo hap (H := w.heap.size) h1 h2 (by simp) ho1 hg1 (by
      rcases hat with h | h
      · exact .inl (by rw [← h]; rfl)
      · right
        simp [Value.ownBlock] at h
        omega) hlt
    have hg2 : w.grownBy w1 (Value.slice A n c).ownBlock := (World.grownBy_alloc w _ _).trans hg1
    rw [ownB] at hg2
    refine hK _ _ w1 hh ?_ hg2 (grow_below hg2 h3 (fun k hk => (hE.2.1.lt k (by rw [ownB]; exact hk)).1))
    rcases hat with h | h
    · left; rw [ownB, ownB] at h; exact h
    · right; rw [ownB] at h; exact ⟨_, h, by simp⟩
/-- The block g is none of the lists'. -/
def Apart (E : Nat → Sv) (A : Option Addr) (n g : Nat) : Prop := rowB A ≠ some g ∧ ∀ j, j < n → (sv (E j)).ownBlock ≠ some g
theorem OwnLE.apart_hi {E : Nat → Sv} {w : World} {lo hi n c : Nat} {A : Option Addr} {ls : List (List Int)} (h : OwnLE E w lo hi A n c ls) {w2 : World} {lo2 hi2 n2 c2 : Nat} {A2 : Option Addr} {xs : List Int} (hx : Own w2 lo2 hi2 A2 n2 c2 xs) (hd : hi ≤ lo2) :
    ∀ b, (Value.slice A2 n2 c2).ownBlock = some b → (Value.slice A n c).ownBlock ≠ some b ∧ ∀ j, j < n → (sv (E j)).ownBlock ≠ some b := fun b hb => by
  have h1 := (hx.lt b hb).1
  exact ⟨fun e => by have := h.2.2.1 b e; omega, fun j hj e => by have := (h.2.2.2.1 j hj).lt b e; omega⟩
theorem OwnLE.apart {E : Nat → Sv} {w w' : World} {lo hi n c : Nat} {A : Option Addr} {ls : List (List Int)} (h : OwnLE E w lo hi A n c ls) {row : Option Nat} (hg : w.grownBy w' row) (hr : ∀ g, row = some g → Apart E A n g) : OwnLE E w' lo hi A n c ls := by
  obtain ⟨h1, h2, h3, h4, h5, h6⟩ := h
  refine ⟨h1, h2.kept hg ?_, h3, fun j hj => (h4 j hj).kept hg fun b hb e => (hr b e).2 j hj hb, h5, h6⟩
  cases hb : (Value.slice A n c).ownBlock with
  | none => exact .inl rfl
  | some k => exact .inr fun e => (hr k e.symm).1 (by rw [← ownB A n c]; exact hb)
theorem OwnLE.wide {E : Nat → Sv} {w : World} {lo hi n c : Nat} {A : Option Addr} {ls : List (List Int)} (h : OwnLE E w lo hi A n c ls) {hi' : Nat} (h2 : hi ≤ hi') : OwnLE E w lo hi' A n c ls := by
  obtain ⟨e1, e2, e3, e4, e5, e6⟩ := h
  exact ⟨e1, e2, fun k hk => Nat.lt_of_lt_of_le (e3 k hk) h2, fun j hj => (e4 j hj).wide (Nat.le_refl _) h2, e5, e6⟩
/-- Without its last number. -/
theorem Own.front {w : World} {lo hi n c : Nat} {A : Option Addr} {xs : List Int} {x : Int} (h : Own w lo hi A (n + 1) c (xs ++ [x])) : Own w lo hi A n c xs := by
  have hl : xs.length = n := by have := h.len; simpa using this
  refine ⟨⟨by simpa using hl, ?_⟩, fun k hk => h.2 k (by rw [ownB] at hk ⊢; exact hk)⟩
  rcases h.1.2 with ⟨_, h0⟩ | ⟨g, cap, cur, e, hb, hg, hnc, hcm, hcs, ht⟩
  · omega
  · injection e with e1 e2 e3
    refine .inr ⟨g, cap, cur, by rw [e1, e3], hb, hg, by omega, hcm, hcs, ?_⟩
    have h2 := congrArg (List.take n) ht
    have e2 : List.take n (List.map (Value.int .i64) xs ++ List.map (Value.int .i64) [x]) = List.map (Value.int .i64) xs := by
      rw [List.take_append_of_le_length (by simp; omega), List.take_of_length_le (by simp; omega)]
    rw [List.take_take, List.map_append, e2, show min n ((n + 1) * 1) = n by omega] at h2
    rw [Nat.mul_one]; exact h2
/-- The same block. -/
theorem Own.same {w w' : World} {lo hi n c : Nat} {A : Option Addr} {xs : List Int} (h : Own w lo hi A n c xs) (hg : ∀ g, rowB A = some g → w'.heap[g]? = w.heap[g]?) : Own w' lo hi A n c xs := by
  refine ⟨⟨h.1.1, ?_⟩, h.2⟩
  rcases h.1.2 with hn | ⟨g, cap, cur, e, hb, hq, rest⟩
  · exact .inl hn
  · exact .inr ⟨g, cap, cur, e, hb, (hg g (by injection e with e1; rw [e1]; rfl)).trans hq, rest⟩
theorem Own.tight {w : World} {lo hi hi' n c : Nat} {A : Option Addr} {xs : List Int} (h : Own w lo hi A n c xs) (hg : ∀ g, rowB A = some g → g < hi') : Own w lo hi' A n c xs :=
  ⟨h.1, fun k hk => hg k (by rw [← ownB A n c]; exact hk)⟩
theorem grow_row (w : World) (lo n G : Nat) (xs : List Value) (Z : Array Value) (hl : xs.length = n) (hz : Z.size = 1) (hlo : lo ≤ w.heap.size) (hn : n ≤ G) (hG : G ≤ maxLen) :
    (w.drew.alloc (.cells (xs.toArray ++ Builtin.zeroCells Z (G - n)) 3)).ownsRow lo 3 1 (.slice (some ⟨w.heap.size, 0, none⟩) n G) n xs := by
  refine ⟨by omega, .inr ⟨w.heap.size, G, _, rfl, hlo, heap_alloc_new w.drew _, hn, hG, ?_, ?_⟩⟩
  · rw [Array.size_append, size_zeroCells, hz, List.size_toArray]; omega
  · rw [Array.toList_append, Nat.mul_one, List.take_append_of_le_length (by simp; omega), List.take_of_length_le (by simp; omega)]
set_option maxRecDepth 100000 in
/-- 'append(b, x)' on a slice of the call's own that is wanted again. -/
theorem wpList_append_keep {ops : Array Oper} {rest : List Oper} {o : Oper} {a : Act} {w : World} {Q : Exit → Act → World → Prop} (hgd : o.guard = none) (s x : Operand)
    (ho : o.op = .call { callee := .builtin .append, args := #[s, x], argTypes := #[22, 22] })
    (lo hi : Nat) (A : Option Addr) (n c : Nat) (xs : List Int) (v : Int) (hs : a.eval s = .slice A n c) (hx : a.eval x = .slice (some ⟨w.heap.size, 0, none⟩) 1 1)
    (hown : Own w lo hi A n c xs) (hlo : lo ≤ w.heap.size) (hn : n ≤ 1099511627776)
    (hK : ∀ A' c' w', Own w' lo w'.heap.size A' (n + 1) c' (xs ++ [v]) → w.grownBy w' (rowB A) → ((A' = A ∧ c' = c) ∨ ∃ g, A' = some ⟨g, 0, none⟩ ∧ w.heap.size ≤ g ∧ w.grownBy w' none) → wpList Try.prog ops Q rest (a.put o.dst (.slice A' (n + 1) c')) w') :
    wpList Try.prog ops Q (o :: rest) a (w.alloc (.cells #[.int .i64 v] 3)) := by
  obtain ⟨i0, hi0, hz0, hz1, hz2⟩ := info_parts Try.infoInt
  have hnews : ∀ j u, [Value.int .i64 v][j]? = some u → (w.alloc (.cells #[.int .i64 v] 3)).cell? ((⟨w.heap.size, 0, none⟩ : Addr).add j) = some u := by
    intro j u hj
    match j, hj with
    | 0, hj =>
      simp at hj
      subst hj
      rw [add_pt]
      exact (Blk.new w 3 #[.int .i64 v]).cell 0
  have hone : ∀ u ∈ [Value.int .i64 v], u.oneCell' = true := by
    intro u hu
    simp at hu
    subst hu
    rfl
  have hg1 : ∀ row, w.grownBy (w.alloc (.cells #[.int .i64 v] 3)) row := fun row => World.grownBy_alloc w _ row
  have hlo1 : lo ≤ (w.alloc (.cells #[.int .i64 v] 3)).heap.size := by simp; omega
  have hsz1 : w.heap.size ≤ (w.alloc (.cells #[.int .i64 v] 3)).heap.size := by simp
  have ho1 := hown.1.alloc (.cells #[.int .i64 v] 3)
  have hxl := hown.len
  have hz : (Value.int IntKind.i64 0).cells.size = 1 := rfl
  generalize (w.alloc (.cells #[.int .i64 v] 3)) = W at hnews hg1 hlo1 hsz1 ho1 ⊢
  have hgw : ∀ (row : Option Nat) (ob : Obj), w.grownBy (W.drew.alloc ob) row := fun row ob =>
    (hg1 row).trans ⟨rfl, rfl, rfl, by simp, fun k hk _ => heap_alloc_old W.drew _ hk⟩
  rcases ho1.2 with ⟨e, h0⟩ | ⟨g, cap, cur, e, hb, hq, hnc, hcm, hcs, ht⟩
  · injection e with e1 e2 e3
    subst e1; subst e3; subst h0
    have hx0 : xs = [] := List.eq_nil_of_length_eq_zero hxl
    subst hx0
    have hGn := grownCap_ge W 1 0 3
    have hGm := grownCap_le_maxLen W 1 0 3 (by unfold maxLen; omega)
    have hr := run_append_nil (P := Try.prog) W 22 o.type 3 i0 (.int .i64 0) Try.underlying22 hi0 hz0 ⟨w.heap.size, 0, none⟩ 1 1 [.int .i64 v] (by rw [hz1]; rfl) hnews (by omega) (by omega) (by rw [hz2]; omega)
    refine Lib.wpList_append_run _ hgd s x _ _ ho _ _ hs hx _ _ hr ?_
    refine hK _ _ _ (Own.of (grow_row W lo 1 _ [.int .i64 v] _ rfl hz hlo1 hGn hGm)) (hgw _ _) (.inr ⟨W.heap.size, rfl, hsz1, hgw _ _⟩)
  · injection e with e1 e2 e3
    subst e1; subst e3
    by_cases hroom : n + 1 ≤ c
    · refine wpList_append_own_spare _ hgd s x 22 ho lo 3 i0 1 Try.underlying22 hi0 hz1 g n c _ hs ho1 ⟨w.heap.size, 0, none⟩ 1 1 [.int .i64 v] hx rfl hnews hone hroom ?_
      intro w1 hr1 hg2
      have e1 : List.map (Value.int .i64) xs ++ [Value.int .i64 v] = (xs ++ [v]).map (Value.int .i64) := by simp
      rw [e1] at hr1
      exact hK _ _ w1 (Own.of hr1) ((hg1 _).trans hg2) (.inl ⟨rfl, rfl⟩)
    · have hGn := grownCap_ge W (n + 1) c 3
      have hGm := grownCap_le_maxLen W (n + 1) c 3 (by unfold maxLen; omega)
      have hr := run_append_grow (P := Try.prog) W 22 o.type 3 i0 (.int .i64 0) Try.underlying22 hi0 hz0 ⟨g, 0, none⟩ n c (xs.map (Value.int .i64)) (by rw [hz1]; simp; omega) (ho1.cells (g := g) rfl) ⟨w.heap.size, 0, none⟩ 1 1 [.int .i64 v] (by rw [hz1]; rfl) hnews (by omega) (by omega) (growslice_fits (by omega) (by rw [hz2]; omega))
      refine Lib.wpList_append_run _ hgd s x _ _ ho _ _ hs hx _ _ hr ?_
      have e1 : (xs.map (Value.int .i64)).toArray ++ [Value.int .i64 v].toArray = ((xs ++ [v]).map (Value.int .i64)).toArray := by simp
      rw [e1]
      refine hK _ _ _ (Own.of (grow_row W lo (n + 1) _ ((xs ++ [v]).map (Value.int .i64)) _ (by simp; omega) hz hlo1 hGn hGm)) (hgw _ _) (.inr ⟨W.heap.size, rfl, hsz1, hgw _ _⟩)
end Go.Proofs.Ytbkhibojbakckaa

/-
  The first rows of a matrix as slices of its Data, on the program's side. Conditions: sizes at most 14.
-/



namespace Go.Proofs.Ytbkhibojbakckaa
open Go.RowKit

/-- A block of its own with these heads of slices. -/
def OwnH (w : World) (lo g n : Nat) (E : Nat → Sv) : Prop := w.ownsRow lo 22 1 (.slice (some ⟨g, 0, none⟩) n n) n (heads n E)
section
variable {w w' : World} {lo g n : Nat} {E : Nat → Sv}
theorem OwnH.at_ (h : OwnH w lo g n E) : lo ≤ g ∧ g < w.heap.size := h.lt g rfl
theorem OwnH.below {B : Nat} (h : OwnH w lo g n E) (hb : Below B w w') (hB : g < B) : OwnH w' lo g n E := by
  refine ⟨h.1, ?_⟩
  rcases h.2 with hn | ⟨g', cap, cur, e, hl, hg, rest⟩
  · exact .inl hn
  · have hlt : g' = g := by injection e with e1; injection e1 with e1; injection e1 with e1; exact e1.symm
    subst hlt
    exact .inr ⟨g', cap, cur, e, hl, (hb.block g' (by omega)).trans hg, rest⟩
theorem OwnH.cellAt (h : OwnH w lo g n E) {k : Nat} (hk : k < n) : w.cell? ⟨g, k, none⟩ = some (sv (E k)) := by
  rw [World.ownsRow.cellAt h k (by omega), heads_get _ hk]
theorem OwnH.set_ (h : OwnH w lo g n E) {k : Nat} (hk : k < n) (a : Sv) : OwnH (w.setCell ⟨g, k, none⟩ (sv a)) lo g n (fun j => if j = k then a else E j) ∧ w.grownBy (w.setCell ⟨g, k, none⟩ (sv a)) (some g) := by
  have hst := World.ownsRow.stored h k (sv a)
  rw [heads_set E hk a] at hst
  exact hst
theorem OwnH.ls {ls : List (List Int)} (h : OwnH w lo g n E) (hl : ls.length = n) (hs : ∀ k, k < n → SI w (E k).1 (E k).2.1 (li ls k) ∧ (E k).2.1 ≤ (E k).2.2 ∧ ((E k).1 = none → (E k).2.1 = 0 ∧ (E k).2.2 = 0)) : LS w (some ⟨g, 0, none⟩) n ls :=
  ⟨hl, fun _ => ⟨g, 0, rfl, h.at_.2, fun k hk => ⟨(E k).1, (E k).2.1, (E k).2.2, by rw [Nat.zero_add]; exact h.cellAt hk, (hs k hk).1, (hs k hk).2.1, (hs k hk).2.2⟩⟩⟩
theorem OwnH.congr {F : Nat → Sv} (h : OwnH w lo g n E) (e : ∀ k, k < n → E k = F k) : OwnH w lo g n F := by
  unfold OwnH at h ⊢
  rwa [heads_congr e] at h
end
/-- 'make([][]int, n)'. -/
theorem wpList_make_heads {ops : Array Oper} {rest : List Oper} {o : Oper} {a : Act} {w : World} {Q : Exit → Act → World → Prop} (hgd : o.guard = none) (l c : Operand) (ho : o.op = .makeSlice 49 l c)
    (n : Nat) (hl : a.eval l = .int .i64 n) (hc : a.eval c = .int .i64 n) (hn : n ≤ 1099511627776)
    (hK : ∀ w', OwnH w' w.heap.size w.heap.size n (fun _ => (none, 0, 0)) → Below w.heap.size w w' → wpList Try.prog ops Q rest (a.put o.dst (.slice (some ⟨w.heap.size, 0, none⟩) n n)) w') :
    wpList Try.prog ops Q (o :: rest) a w := by
  obtain ⟨i0, hi, hz0, hz1, hz2⟩ := info_parts Try.infoLs
  refine wpList_make_full w hgd l c 49 ho w.heap.size 22 i0 (.slice none 0 0) 1 Try.underlying49 hi hz0 hz1 .i64 .i64 n n n hl hc rfl rfl (by rw [hz2]; omega) (by unfold maxLen; omega) (Nat.le_refl _) ?_
  intro w1 ho1 hg1
  have e : (madeCells (Value.slice none 0 0).cells (n * 1)).toList = heads n (fun _ => (none, 0, 0)) := by
    rw [show (Value.slice none 0 0).cells = #[Value.slice none 0 0] from rfl, Nat.mul_one, toList_madeCells_one]
    apply List.ext_getElem (by simp [heads])
    intro j h1 h2
    simp [heads, sv]
  rw [e] at ho1
  exact hK w1 ho1 (grow_below hg1 (Nat.le_refl _) (by intro k hk; cases hk))
set_option maxRecDepth 100000 in
set_option maxHeartbeats 1000000 in
theorem firstRows_any (p r : Int) (A : Option Addr) (b o n k c R : Nat) (w : World) (hA : 0 < R → A = some ⟨b, o, none⟩) (hc : 0 < c ∧ c ≤ 14) (hR : R ≤ 14) (h : R * c ≤ n) (hnk : n ≤ k) (hn : n ≤ 1099511627776) :
    Calls Try.prog 88 #[.agg #[.int .i64 p, .int .i64 r, .int .i64 c, .slice A n k], .int .i64 R] w fun e w' => ∃ g, e = .returned (.slice (some ⟨g, 0, none⟩) R R) ∧ OwnH w' w.heap.size g R (fun i => (some ⟨b, o + i * c, none⟩, c, k - i * c)) ∧ Below w.heap.size w w' := by
  obtain ⟨w1, hw1⟩ : ∃ w1, w1 = w.alloc (.cells #[.int .i64 p, .int .i64 r, .int .i64 c, .slice A n k] 27) := ⟨_, rfl⟩
  obtain ⟨g, hg⟩ : ∃ g, g = w.heap.size := ⟨_, rfl⟩
  have hk : Blk w1 g 27 #[.int .i64 p, .int .i64 r, .int .i64 c, .slice A n k] := by rw [hw1, hg]; exact Blk.new _ _ _
  have HB : Hid (Below w.heap.size w w1) := Lib.hid (by rw [hw1]; exact Below.alloc_self _ _)
  have HSZ : Hid (w1.heap.size = g + 1) := Lib.hid (by rw [hw1, hg]; simp)
  have HW := Lib.hid hw1
  have HG := Lib.hid hg
  have HK := Lib.hid hk
  have HC := Lib.hid hc
  have HRn := Lib.hid h
  have HA := Lib.hid hA
  clear hA
  obtain ⟨q0, q1, q2, q3⟩ := cells4 hk
  clear hw1 hg hk hc h
  go_enter Try.func88, Try.ntmps88
  go_upto_region 1 with fail
  rw [← HW.out, ← HG.out]
  go_wp2_with (at_make; refine wpList_make_heads rfl (.tmp 7) (.tmp 7) rfl R rfl rfl (by omega) ?_; intro w2 ho2 hb2; have HO2 := Lib.hid ho2; have HB2 := Lib.hid hb2; obtain ⟨g2, hg2⟩ : ∃ g2, g2 = w1.heap.size := ⟨_, rfl⟩; have HG2 := Lib.hid hg2; rw [← hg2]; clear ho2 hb2 hg2)
  clear q0 q1 q2 q3
  go_loopw [11] (fun iv wr => ∃ i : Nat, i ≤ R ∧ iv = .int .i64 i ∧ OwnH wr w1.heap.size g2 R (fun j => if j < i then (some ⟨b, o + j * c, none⟩, c, k - j * c) else (none, 0, 0)) ∧ Below w1.heap.size w1 wr)
    (fun iv _ => R - (intOf iv).toNat)
  case atStart => exact ⟨0, Nat.zero_le _, rfl, by have := HO2.out; rw [← HG2.out] at this ⊢; exact this.congr fun k _ => by simp, HB2.out⟩
  case round =>
    obtain ⟨i, hi, rfl, ho, hb⟩ := hrel
    clear HO2 HB2
    have HO := Lib.hid ho
    have HBR := Lib.hid hb
    clear ho hb
    by_cases hlt : i < R
    case neg =>
      have hin : i = R := by omega
      subst hin
      go_wp2
      go_ret
      exact ⟨g2, rfl, by
        have := HO.out
        have h2 : OwnH wr w1.heap.size g2 i (fun i => (some ⟨b, o + i * c, none⟩, c, k - i * c)) := this.congr fun j hj => by simp [hj]
        refine ⟨h2.1, ?_⟩
        rcases h2.2 with hn | ⟨g', cap, cur, e, hl, rest⟩
        · exact .inl hn
        · exact .inr ⟨g', cap, cur, e, by have := HSZ.out; have := HG.out; omega, rest⟩, HB.out.trans (HBR.out.mono (by have := HSZ.out; have := HG.out; omega))⟩
    case pos =>
      have hlI : (i : Int) < (R : Int) := by omega
      obtain rfl := HA.out (by omega)
      have HKr := Lib.hid (HK.out.below HBR.out HK.out.lt)
      have HCR := Lib.hid (matRow_any p r b o n k c i wr HC.out.2 (by omega) (by have h1 := HRn.out; have h2 : (i + 1) * c ≤ R * c := Nat.mul_le_mul (by omega) (Nat.le_refl _); omega) hnk hn HC.out.1)
      go_wp2_with (first
        | (refine wpList_load_rowP rfl 27 (.tmp 2) rfl g rfl 27 #[.int .i64 p, .int .i64 r, .int .i64 c, .slice (some ⟨b, o, none⟩) n k] _ HKr.out Try.underlying27 rfl Try.infoMx ?_)
        | (go_at_call 158
           with_reducible refine HCR.out.mono ?_
           rintro e w3 ⟨rfl, hb3⟩
           have ho3 := HO.out.below hb3 HO.out.at_.2
           have hc3 := ho3.cellAt hlt
           have hf3 : w3.frozen? ⟨g2, i, none⟩ = false := World.ownsRow.frozenAt ho3 i
           have hst := ho3.set_ hlt (some ⟨b, o + i * c, none⟩, c, k - i * c)
           have HST := Lib.hid hst
           have HB3 : Hid (Below w1.heap.size w1 w3) := Lib.hid (HBR.out.trans (hb3.mono HBR.out.size))
           have HL3 : Hid (w1.heap.size ≤ g2 ∧ g2 < w3.heap.size) := Lib.hid ho3.at_
           simp only [Nat.lt_irrefl, if_false, sv] at hc3
           clear hst ho3 hb3)
        | fail)
      go_roundw
      case rel => exact ⟨i + 1, by omega, by go_num, HST.out.1.congr fun j hj => by
          by_cases e : j = i
          · subst e; simp
          · by_cases e2 : j < i
            · simp [e, e2, Nat.lt_succ_of_lt e2]
            · have e3 : ¬ j < i + 1 := by omega
              simp [e, e2, e3], HB3.out.grown HST.out.2 HB3.out.size (by rintro q ⟨⟩; exact HL3.out.1)⟩
      case measure => simp [intOf]; omega
end Go.Proofs.Ytbkhibojbakckaa

/-
  A row plus a multiple of another one, in memory, on the program's side. Conditions: the modulus at most 7, numbers are rests, lengths at most 1000.
-/

namespace Go.Proofs.Ytbkhibojbakckaa
open Go.RowKit

/-- The numbers of d from o on, as many as k, plus multiples of those of y. -/
def addO (p : Int) (d : List Int) (o : Nat) (f : Int) (y : List Int) (k : Nat) : List Int := (List.range d.length).map fun q => if o ≤ q ∧ q < o + k then (nth d q + f * nth y (q - o)) % p else nth d q
theorem addO_len (p : Int) (d : List Int) (o : Nat) (f : Int) (y : List Int) (k : Nat) : (addO p d o f y k).length = d.length := by simp [addO]
theorem addO_nth {p : Int} {d : List Int} {o : Nat} {f : Int} {y : List Int} {k q : Nat} (h : q < d.length) : nth (addO p d o f y k) q = if o ≤ q ∧ q < o + k then (nth d q + f * nth y (q - o)) % p else nth d q := nth_rangeMap _ h
theorem addO_zero (p : Int) (d : List Int) (o : Nat) (f : Int) (y : List Int) : addO p d o f y 0 = d :=
  nth_ext (addO_len ..) fun j hj => by rw [addO_nth (by rwa [addO_len] at hj), if_neg (by omega)]
theorem addO_succ {p : Int} {d : List Int} {o : Nat} {f : Int} {y : List Int} {k : Nat} (h : o + k < d.length) : (addO p d o f y k).set (o + k) ((nth d (o + k) + f * nth y k) % p) = addO p d o f y (k + 1) :=
  nth_ext (by rw [List.length_set, addO_len, addO_len]) fun j hj => by
    rw [List.length_set, addO_len] at hj
    rw [nth_set_at (by rw [addO_len]; exact h), addO_nth hj, addO_nth hj]
    by_cases e : j = o + k
    · subst e; rw [if_pos rfl, if_pos (by omega), show o + k - o = k by omega]
    · rw [if_neg e]
      by_cases hlt : o ≤ j ∧ j < o + k
      · rw [if_pos hlt, if_pos (by omega)]
      · rw [if_neg hlt, if_neg (by omega)]
theorem addO_rg {p : Int} (hp : 0 < p) {d : List Int} (hx : Rg p d) (o : Nat) (f : Int) (y : List Int) (k : Nat) : Rg p (addO p d o f y k) := fun j => by
  by_cases h : j < d.length
  · rw [addO_nth h]
    split
    · exact ⟨Int.emod_nonneg _ (by omega), Int.emod_lt_of_pos _ hp⟩
    · exact hx j
  · rw [nth_past (by rw [addO_len]; omega)]; exact ⟨Int.le_refl _, hp⟩
theorem addO_whole (p : Int) (d : List Int) (f : Int) (y : List Int) : addO p d 0 f y d.length = addT p d f y :=
  nth_ext (by rw [addO_len, addT_len]) fun j hj => by
    rw [addO_len] at hj
    rw [addO_nth hj, if_pos (by omega), addT_nth hj, Nat.sub_zero]
set_option maxRecDepth 100000 in
set_option maxHeartbeats 1000000 in
theorem rowTimes_any (p f : Int) (g N K lo hi o n cr : Nat) (d y : List Int) (A2 : Option Addr) (c2 : Nat) (w : World) (hp : 2 ≤ p ∧ p ≤ 7) (hf : 0 ≤ f ∧ f ≤ 7) (hd : Rg p d) (hy : Rg p y)
    (ho : Own w lo hi (some ⟨g, 0, none⟩) N K d) (hon : o + n ≤ N) (hN : N ≤ 1000)
    (hs2 : SI w A2 n y) (hfar : (∀ b o', A2 = some ⟨b, o', none⟩ → b ≠ g) ∨ A2 = some ⟨g, o, none⟩) :
    Calls Try.prog 154 #[.int .i64 p, .slice (some ⟨g, o, none⟩) n cr, .int .i64 f, .slice A2 n c2] w fun e w' => e = .returned (.tuple #[]) ∧ Own w' lo hi (some ⟨g, 0, none⟩) N K (addO p d o f y n) ∧ ∃ wm, Drawn w wm ∧ wm.grownBy w' (some g) := by
  have HL := Lib.hid ho.len
  have HP := Lib.hid hp
  have HF := Lib.hid hf
  have HD := Lib.hid hd
  have HY := Lib.hid hy
  have HS2 := Lib.hid hs2
  have HFAR := Lib.hid hfar
  have hself : (A2 = some ⟨g, o, none⟩) → ∀ j, j < n → nth d (o + j) = nth y j := fun e j hj => by
    have h1 := hs2.2 (by omega)
    obtain ⟨b, o', e', _, hc⟩ := h1
    rw [e] at e'
    injection e' with e'
    injection e' with e1 e2
    subst e1 e2
    have h2 := hc j hj
    rw [ho.cellAt (by omega)] at h2
    injection h2 with h2
    injection h2
  have HSELF := Lib.hid hself
  have hpnz : p ≠ 0 := by omega
  clear hself hs2 hfar hd hy hp hf
  go_enter Try.func154, Try.ntmps154
  go_wp2
  go_loopw [12] (fun iv wr => ∃ j : Nat, j ≤ n ∧ iv = .int .i64 j ∧ Own wr lo hi (some ⟨g, 0, none⟩) N K (addO p d o f y j) ∧ w.grownBy wr (some g))
    (fun iv _ => n - (intOf iv).toNat)
  case atStart => exact ⟨0, Nat.zero_le _, rfl, by rw [addO_zero]; exact ho, World.grownBy.refl _ _⟩
  case round =>
    obtain ⟨j, hj, rfl, hown, hgr⟩ := hrel
    have HO := Lib.hid hown
    have HG := Lib.hid hgr
    clear hown hgr ho
    by_cases hlt : j < n
    case neg =>
      have hjn : j = n := by omega
      subst hjn
      go_wp2
      go_returns
      exact ⟨rfl, HO.out, w, Drawn.refl _, HG.out⟩
    case pos =>
      have hlI : (j : Int) < (n : Int) := by omega
      obtain ⟨b2, o2, he2, hb2, hc2⟩ := HS2.out.at_ (by omega)
      subst he2
      have hcy : wr.cell? ⟨b2, o2 + j, none⟩ = some (.int .i64 (nth y j)) := by
        rcases HFAR.out with h | h
        · exact HG.out.cell (hc2 j hlt) (fun e => by injection e with e; exact h b2 o2 rfl e)
        · injection h with h
          injection h with h1 h2
          subst h1 h2
          rw [HO.out.cellAt (by omega), addO_nth (by rw [HL.out]; omega), if_neg (by omega), HSELF.out rfl j hlt]
      have hcx : wr.cell? ⟨g, o + j, none⟩ = some (.int .i64 (nth d (o + j))) := by
        rw [HO.out.cellAt (by omega), addO_nth (by rw [HL.out]; omega), if_neg (by omega)]
      have hfx : wr.frozen? ⟨g, o + j, none⟩ = false := HO.out.frozenAt (o + j)
      obtain ⟨X, hX⟩ : ∃ X, X = nth d (o + j) := ⟨_, rfl⟩
      obtain ⟨Y, hY⟩ : ∃ Y, Y = nth y j := ⟨_, rfl⟩
      have hXb := HD.out (o + j)
      have hYb := HY.out j
      rw [← hX] at hcx hXb
      rw [← hY] at hcy hYb
      obtain ⟨FY, hFY⟩ : ∃ FY, FY = f * Y := ⟨_, rfl⟩
      have hFY0 : 0 ≤ FY := by rw [hFY]; exact Int.mul_nonneg HF.out.1 hYb.1
      have hFY1 : FY ≤ 49 := by rw [hFY]; exact Int.le_trans (Int.mul_le_mul HF.out.2 (show Y ≤ 7 by have := HP.out; omega) hYb.1 (by decide)) (by decide)
      have hw1 : IntKind.i64.wrap (f * Y) = FY := by rw [← hFY]; exact IntWalk.i64_in _ (by omega)
      have hw2 : IntKind.i64.wrap (X + FY) = X + FY := IntWalk.i64_in _ (by have := HP.out; omega)
      obtain ⟨V, hV⟩ : ∃ V, V = (X + FY) % p := ⟨_, rfl⟩
      have hw3 : (X + FY).tmod p = V := by rw [hV]; exact Int.tmod_eq_emod_of_nonneg (by omega)
      have hVb : 0 ≤ V ∧ V < p := by rw [hV]; exact ⟨Int.emod_nonneg _ hpnz, Int.emod_lt_of_pos _ (by have := HP.out; omega)⟩
      have hw4 : IntKind.i64.wrap V = V := IntWalk.i64_in _ (by have := HP.out; omega)
      have hst := HO.out.set_ (k := o + j) V
      have HST : Hid (Own (wr.setCell ⟨g, o + j, none⟩ (.int .i64 V)) lo hi (some ⟨g, 0, none⟩) N K (addO p d o f y (j + 1)) ∧ w.grownBy (wr.setCell ⟨g, o + j, none⟩ (.int .i64 V)) (some g)) := Lib.hid ⟨by
        rw [← addO_succ (by rw [HL.out]; omega), ← hX, ← hY, ← hFY, ← hV]; exact hst.1, HG.out.trans hst.2⟩
      clear hst hc2 hX hY hFY hV hXb hYb hVb hFY0 hFY1
      go_wp2
      go_roundw
      case rel => exact ⟨j + 1, by omega, by go_num, HST.out.1, HST.out.2⟩
      case measure => simp [intOf]; omega
end Go.Proofs.Ytbkhibojbakckaa

/-
  A slice copied into a slice of the call's own; the first number other than 0. Conditions: lengths below 2^40.
-/


namespace Go.Proofs.Ytbkhibojbakckaa
open Go.RowKit

theorem Try.infoIntR : (Try.prog.info? 3).map (·.size) = some 1 := by kernel_rfl
/-- 'copy(d, s)' into a slice of the call's own that is at least as long. -/
theorem wpList_copyR {ops : Array Oper} {rest : List Oper} {o : Oper} {a : Act} {w : World} {Q : Exit → Act → World → Prop} (hgd : o.guard = none) (d s : Operand)
    (ho : o.op = .call { callee := .builtin .copy, args := #[d, s], argTypes := #[22, 22] }) (g n' : Nat) (A : Option Addr) (n c : Nat) (hd : a.eval d = .slice (some ⟨g, 0, none⟩) n' n') (hs : a.eval s = .slice A n c)
    (lo hi : Nat) (ys e : List Int) (hown : Own w lo hi (some ⟨g, 0, none⟩) n' n' ys) (hsi : SI w A n e) (hle : n ≤ n')
    (hK : ∀ w', Own w' lo hi (some ⟨g, 0, none⟩) n' n' (e ++ ys.drop n) → w.grownBy w' (some g) → wpList Try.prog ops Q rest (a.put o.dst (goInt n)) w') : wpList Try.prog ops Q (o :: rest) a w := by
  have hl := hsi.1
  by_cases h0 : n = 0
  · subst h0
    obtain rfl : e = [] := List.eq_nil_of_length_eq_zero hl
    exact Go.wpList_copy_nothing hgd d s 22 22 ho 3 Try.underlying22 Try.infoIntR (some ⟨g, 0, none⟩) A n' n' 0 c hd hs (by simp) (hK w (by simpa using hown) (World.grownBy.refl _ _))
  · obtain ⟨b, off, rfl, hb, hc⟩ := hsi.2 (by omega)
    rcases hown.1.2 with ⟨hx, _⟩ | ⟨g', cap, cur, hv, hlo, hg, hnc, hcm, hcs, htake⟩
    · cases hx
    · have hv' := hv
      simp only [Value.slice.injEq, Option.some.injEq, Addr.mk.injEq, and_true, true_and] at hv'
      obtain ⟨rfl, rfl⟩ := hv'
      have hyl := hown.len
      have hcur : cur.toList = ys.map (Value.int .i64) := by rw [← htake, List.take_of_length_le (by simp; omega)]
      have hE : (cur.toList.take 0 ++ (e.map (Value.int .i64) ++ cur.toList.drop (0 + (e.map (Value.int .i64)).length))).toArray = ((e ++ ys.drop n).map (Value.int .i64)).toArray := by
        rw [hcur]; simp [hl, List.map_drop]
      refine Go.wpList_copy_own hgd d s 22 22 ho 3 Try.underlying22 Try.infoIntR g 0 n' n' ⟨b, off, none⟩ n c hd hs cur 3 hg (e.map (Value.int .i64)) (by simp [hl]; exact (Nat.min_eq_left hle).symm) ?_ (by simp [hl]; omega) (ints_oneCell _ _) ?_
      · intro j v hj
        have hjl : j < e.length := by
          rcases Nat.lt_or_ge j e.length with h | h
          · exact h
          · rw [List.getElem?_eq_none (by simpa using h)] at hj; cases hj
        rw [List.getElem?_map, nth_get? hjl] at hj
        rw [add_pt, hc j (by omega)]
        exact hj
      · rw [hE]
        have hk := hK (w.setRow g ((e ++ ys.drop n).map (Value.int .i64)).toArray) ⟨⟨by simp; omega, .inr ⟨g, n', _, rfl, hlo, setRow_heap w g cur _ _ (0, 0) hg, Nat.le_refl _, hcm, by simp; omega, List.take_of_length_le (by simp; omega)⟩⟩, hown.2⟩ (grownBy_setRow w g _)
        simpa [hl] using hk

theorem nonzFn_any (x : Int) (w : World) : Calls Try.prog 156 #[.int .i64 x] w fun r w' => r = .returned (.bool (decide (x ≠ 0))) ∧ w = w' := by
  by_cases h0 : x = 0
  · subst h0
    go_enter Try.func156, Try.ntmps156
    go_wp2
    go_ret
    exact ⟨ret_bool (by decide), rfl⟩
  · have HE : Hid (true = decide (x ≠ 0)) := Lib.hid (decide_eq_true h0).symm
    have hb0 : (x != 0) = true := by simpa using h0
    clear h0
    go_enter Try.func156, Try.ntmps156
    go_wp2
    go_ret
    exact ⟨ret_bool HE.out, rfl⟩
set_option maxHeartbeats 800000 in
theorem indexNonz_any (A : Option Addr) (n c : Nat) (xs : List Int) (w : World) (hs : SI w A n xs) (hn : n ≤ 1099511627776) :
    Calls Try.prog 155 #[.slice A n c, .func (.func 156) #[] #[]] w fun r w' =>
      ∃ i : Int, r = .returned (.int .i64 i) ∧ (ldN xs = n ∧ i = -1 ∨ ldN xs < n ∧ i = (ldN xs : Int)) ∧ Drawn w w' := by
  have HL := Lib.hid hs.1
  go_enter Try.func155, Try.ntmps155
  go_wp2
  go_loopw [8] (fun i wr => ∃ k : Nat, k ≤ n ∧ i = .int .i64 k ∧ Drawn w wr ∧ ∀ j, j < k → nth xs j = 0)
    (fun i _ => n - (intOf i).toNat)
  case atStart => exact ⟨0, Nat.zero_le _, rfl, Drawn.refl _, fun j hj => absurd hj (by omega)⟩
  case round =>
    obtain ⟨k, hk, rfl, hD, hall⟩ := hrel
    have HA := Lib.hid hall
    have HDR := Lib.hid hD
    have hs := hD.si hs
    clear hall hD
    by_cases hlt : k < n
    · have hlI : (k : Int) < (n : Int) := by omega
      obtain ⟨b, o, rfl, hb, hc⟩ := hs.at_ (by omega)
      have hc1 := hc k hlt
      obtain ⟨y, hy⟩ : ∃ y, y = nth xs k := ⟨_, rfl⟩
      rw [← hy] at hc1
      have HY := Lib.hid hy
      clear hc hy hs
      by_cases hg : y ≠ 0
      · have HG := Lib.hid hg
        have HF2 := Lib.hid (nonzFn_any y wr)
        rw [decide_eq_true hg] at HF2
        clear hg
        go_wp2_with (go_at_call 156; refine HF2.out.mono ?_; rintro r w2 ⟨rfl, rfl⟩)
        go_ret
        have hgt : ldN xs = k := ldN_is xs k (by rw [HL.out]; omega) HA.out (.inr (by rw [← HY.out]; exact HG.out))
        exact ⟨(k : Int), rfl, .inr ⟨by omega, by rw [hgt]⟩, HDR.out⟩
      · have HG := Lib.hid hg
        have HF2 := Lib.hid (nonzFn_any y wr)
        rw [decide_eq_false hg] at HF2
        clear hg
        go_wp2_with (go_at_call 156; refine HF2.out.mono ?_; rintro r w2 ⟨rfl, rfl⟩)
        go_roundw
        case rel => exact ⟨k + 1, by omega, by go_num, HDR.out, fun j hj => by
          rcases Nat.lt_or_ge j k with h | h
          · exact HA.out j h
          · obtain rfl : j = k := by omega
            rw [← HY.out]; have := HG.out; omega⟩
        case measure => simp [intOf]; omega
    · have hkn : k = n := by omega
      subst hkn
      go_wp2
      go_ret
      exact ⟨-1, rfl, .inl ⟨ldN_is xs k (by rw [HL.out]; exact Nat.le_refl _) HA.out (.inl HL.out.symm), rfl⟩, HDR.out⟩
end Go.Proofs.Ytbkhibojbakckaa

/-
  The helpers of the exact laws at slices of slices of numbers: copying, measuring, comparing, marking, holding. Conditions: lengths below 2^40.
-/


namespace Go.Proofs.Ytbkhibojbakckaa
open Go.RowKit

theorem take_li {ls : List (List Int)} {k : Nat} (h : k < ls.length) : ls.take (k + 1) = ls.take k ++ [li ls k] := by
  rw [List.take_succ_eq_append_getElem h, li_get h]
def copLs (ls : List (List Int)) (k : Nat) : List (List Int) := ls.take k ++ List.replicate (ls.length - k) []
theorem copLs_zero (ls : List (List Int)) : copLs ls 0 = List.replicate ls.length [] := by simp [copLs]
theorem copLs_all (ls : List (List Int)) : copLs ls ls.length = ls := by simp [copLs]
theorem copLs_succ {ls : List (List Int)} {k : Nat} (h : k < ls.length) : (copLs ls k).set k (li ls k) = copLs ls (k + 1) := by
  unfold copLs
  have hl : (ls.take k).length = k := by simp; omega
  rw [List.set_append_right _ _ (by omega), hl]
  have e : ls.length - k = (ls.length - (k + 1)) + 1 := by omega
  rw [e, List.replicate_succ, Nat.sub_self, List.set_cons_zero, take_li h, List.append_assoc]
  rfl
/-- Equality of two lists of lists as a Bool. -/
def eqLs (ls us : List (List Int)) : Bool := decide (ls = us)
theorem eqLs_self (ls : List (List Int)) : eqLs ls ls = true := by simp [eqLs]
theorem eqLs_len {ls us : List (List Int)} (h : ls.length ≠ us.length) : eqLs ls us = false := by
  simp only [eqLs, decide_eq_false_iff_not]; intro e; exact h (by rw [e])
theorem eqLs_ne {ls us : List (List Int)} {k : Nat} (h : li ls k ≠ li us k) : eqLs ls us = false := by
  simp only [eqLs, decide_eq_false_iff_not]; intro e; exact h (by rw [e])
theorem eqL_true {xs ys : List Int} (h : eqL xs ys = true) : xs = ys := by simpa [eqL] using h
theorem eqL_false' {xs ys : List Int} (h : eqL xs ys = false) : xs ≠ ys := by simpa [eqL] using h
set_option maxHeartbeats 800000 in
theorem eqIntSS_any (A A2 : Option Addr) (n c n2 c2 : Nat) (ls us : List (List Int)) (w : World) (hs : LS w A n ls) (hs2 : LS w A2 n2 us) (hn : n ≤ 1099511627776) (hn2 : n2 ≤ 1099511627776)
    (hne : ∀ k, k < n → (li ls k).length ≤ 1099511627776) (hne2 : ∀ k, k < n2 → (li us k).length ≤ 1099511627776) :
    Calls Try.prog 47 #[.slice A n c, .slice A2 n2 c2] w fun e w' => e = .returned (.bool (eqLs ls us)) ∧ Drawn w w' := by
  have HL := Lib.hid hs.1
  have HL2 := Lib.hid hs2.1
  have HNE := Lib.hid hne
  have HNE2 := Lib.hid hne2
  clear hne hne2
  by_cases hlen : n = n2
  · subst hlen
    go_enter Try.func47, Try.ntmps47
    go_wp2
    go_loopw [5] (fun i wr => ∃ k : Nat, k ≤ n ∧ i = .int .i64 k ∧ Drawn w wr ∧ ∀ j, j < k → li ls j = li us j)
      (fun i _ => n - (intOf i).toNat)
    case atStart => exact ⟨0, Nat.zero_le _, rfl, Drawn.refl _, fun j hj => absurd hj (by omega)⟩
    case round =>
      obtain ⟨k, hk, rfl, hD, hall⟩ := hrel
      have HA := Lib.hid hall
      have HD := Lib.hid hD
      have h1 := hs.drawn hD
      have h2 := hs2.drawn hD
      clear hall hD
      by_cases hlt : k < n
      · have hlI : (k : Int) < (n : Int) := by omega
        obtain ⟨b, o, A', n', c', rfl, hb, hc0, hsi, _, _⟩ := h1.at_ hlt
        obtain ⟨b2, o2, A3, n3, c3, rfl, hb2, hc2, hsi2, _, _⟩ := h2.at_ hlt
        have hE := eqIntS_any A' A3 n' c' n3 c3 (li ls k) (li us k)
        have hq1 : n' ≤ 1099511627776 := by have := HNE.out k hlt; have := hsi.1; omega
        have hq2 : n3 ≤ 1099511627776 := by have := HNE2.out k hlt; have := hsi2.1; omega
        have HE := Lib.hid (fun wx (hd : Drawn wr wx) => hE wx (hd.si hsi) (hd.si hsi2) hq1 hq2)
        clear hE h1 h2 hsi hsi2
        cases hu : eqL (li ls k) (li us k) with
        | true =>
          rw [hu] at HE
          have HU := Lib.hid (eqL_true hu)
          clear hu
          go_wp2_with fail
          go_quiet ((go_at_call 21; exact Calls.quiet_of (HE.out _ (by first | exact ⟨_, rfl⟩ | assumption))))
          go_wp2
          go_roundw
          case rel => exact ⟨k + 1, by omega, by go_num, HD.out.drewN _, fun j hj => by
            rcases Nat.lt_or_ge j k with h | h
            · exact HA.out j h
            · obtain rfl : j = k := by omega
              exact HU.out⟩
          case measure => simp [intOf]; omega
        | false =>
          rw [hu] at HE
          have HU := Lib.hid (eqLs_ne (eqL_false' hu))
          clear hu
          go_wp2_with fail
          go_quiet ((go_at_call 21; exact Calls.quiet_of (HE.out _ (by first | exact ⟨_, rfl⟩ | assumption))))
          go_wp2
          go_ret
          exact ⟨ret_bool HU.out.symm, HD.out.drewN _⟩
      · have hkn : k = n := by omega
        subst hkn
        go_wp2
        go_ret
        refine ⟨ret_bool ?_, HD.out⟩
        have e : ls = us := li_ext (by rw [HL.out, HL2.out]) (by rw [HL.out]; exact HA.out)
        rw [e, eqLs_self]
  · have hb : ((n : Int) == (n2 : Int)) = false := by simp; omega
    have HF := Lib.hid (eqLs_len (ls := ls) (us := us) (by rw [HL.out, HL2.out]; exact hlen))
    clear hs hs2 hlen
    go_enter Try.func47, Try.ntmps47
    go_wp2
    go_ret
    exact ⟨ret_bool HF.out.symm, Drawn.refl _⟩
/-- What marking writes, from q on. -/
def marksS : List (List Int) → Int → List (List Int)
  | [], _ => []
  | t :: r, q => marks t.length q :: marksS r (q + (t.length : Int))
/-- The number behind the last mark. -/
def endS : List (List Int) → Int → Int
  | [], q => q
  | t :: r, q => endS r (q + (t.length : Int))
theorem marksS_len : ∀ (ts : List (List Int)) (q : Int), (marksS ts q).length = ts.length
  | [], _ => rfl
  | _ :: r, q => by simp [marksS, marksS_len r]
theorem endS_app : ∀ (ts us : List (List Int)) (q : Int), endS (ts ++ us) q = endS us (endS ts q)
  | [], _, _ => rfl
  | _ :: r, us, _ => endS_app r us _
theorem endS_from : ∀ (ts : List (List Int)) (q : Int), endS ts q = q + endS ts 0
  | [], q => by simp [endS]
  | t :: r, q => by show endS r _ = q + endS r (0 + _); rw [endS_from r (q + _), endS_from r (0 + _)]; omega
theorem marksS_app : ∀ (ts us : List (List Int)) (q : Int), marksS (ts ++ us) q = marksS ts q ++ marksS us (endS ts q)
  | [], _, _ => rfl
  | t :: r, us, q => by show _ :: marksS (r ++ us) _ = _ :: (_ ++ _); rw [marksS_app r us]; rfl
def mixS (ts : List (List Int)) (q : Int) (k : Nat) : List (List Int) := marksS (ts.take k) q ++ ts.drop k
theorem mixS_zero (ts : List (List Int)) (q : Int) : mixS ts q 0 = ts := by simp [mixS, marksS]
theorem mixS_all (ts : List (List Int)) (q : Int) : mixS ts q ts.length = marksS ts q := by simp [mixS]
theorem mixS_li {ts : List (List Int)} {q : Int} {k : Nat} (h : k < ts.length) : li (mixS ts q k) k = li ts k := by
  unfold mixS li
  rw [List.getD_eq_getElem?_getD, List.getD_eq_getElem?_getD, List.getElem?_append_right (by rw [marksS_len]; simp; omega), marksS_len]
  simp [Nat.min_eq_left (Nat.le_of_lt h)]
theorem endS_succ {ts : List (List Int)} {q : Int} {k : Nat} (h : k < ts.length) : endS (ts.take (k + 1)) q = endS (ts.take k) q + ((li ts k).length : Int) := by
  rw [take_li h, endS_app]; rfl
theorem mixS_succ {ts : List (List Int)} {q : Int} {k : Nat} (h : k < ts.length) : (mixS ts q k).set k (marks (li ts k).length (endS (ts.take k) q)) = mixS ts q (k + 1) := by
  unfold mixS
  have hl : (marksS (ts.take k) q).length = k := by rw [marksS_len]; simp; omega
  rw [List.set_append_right _ _ (by omega), hl, Nat.sub_self, List.drop_eq_getElem_cons h, List.set_cons_zero, take_li h, marksS_app, List.append_assoc]
  rfl
theorem marksS_li {ts : List (List Int)} {q : Int} {k : Nat} (h : k < ts.length) : li (marksS ts q) k = marks (li ts k).length (endS (ts.take k) q) := by
  have e : marksS ts q = marksS (ts.take k) q ++ marksS (ts.drop k) (endS (ts.take k) q) := by rw [← marksS_app, List.take_append_drop]
  rw [e]
  unfold li
  rw [List.getD_eq_getElem?_getD, List.getElem?_append_right (by rw [marksS_len]; simp; omega), marksS_len]
  rw [List.drop_eq_getElem_cons h]
  simp [marksS, Nat.min_eq_left (Nat.le_of_lt h), List.getD, h]
set_option maxHeartbeats 800000 in
theorem markIntSS_own (g n c lo hi : Nat) (ts : List (List Int)) (q : Int) (w : World) (hs : OwnL w lo hi (some ⟨g, 0, none⟩) n c ts) (hn : n ≤ 1099511627776) (hne : ∀ k, k < n → (li ts k).length ≤ 1099511627776)
    (hq : ∀ k, k ≤ n → 0 ≤ endS (ts.take k) q ∧ endS (ts.take k) q ≤ 1099511627776) :
    Calls Try.prog 48 #[.slice (some ⟨g, 0, none⟩) n c, .int .i64 q] w fun e w' => e = .returned (.int .i64 (endS ts q)) ∧ OwnL w' lo hi (some ⟨g, 0, none⟩) n c (marksS ts q) ∧ Within lo hi w w' := by
  have HL := Lib.hid hs.len
  have HNE := Lib.hid hne
  have HQ := Lib.hid hq
  clear hne hq
  go_enter Try.func48, Try.ntmps48
  go_wp2
  go_loopw [1, 5] (fun p i wr => ∃ k : Nat, k ≤ n ∧ i = .int .i64 k ∧ p = .int .i64 (endS (ts.take k) q) ∧ OwnL wr lo hi (some ⟨g, 0, none⟩) n c (mixS ts q k) ∧ Within lo hi w wr)
    (fun _ i _ => n - (intOf i).toNat)
  case atStart => exact ⟨0, Nat.zero_le _, rfl, rfl, by rw [mixS_zero]; exact hs, Within.refl _ _ _⟩
  case round =>
    obtain ⟨k, hk, rfl, rfl, hown, hwi⟩ := hrel
    clear hs
    by_cases hlt : k < n
    · have hlI : (k : Int) < (n : Int) := by omega
      obtain ⟨A', n', c', hc0, hfz, hx, hback⟩ := hown.item hlt
      rw [mixS_li (by rw [HL.out]; exact hlt)] at hx
      have hq0 := HQ.out k hk
      have es := endS_succ (ts := ts) (q := q) (k := k) (by rw [HL.out]; exact hlt)
      have em := mixS_succ (ts := ts) (q := q) (k := k) (by rw [HL.out]; exact hlt)
      have hl' := hx.len
      rw [hl'] at es em
      have hn' : n' ≤ 1099511627776 := by have := HNE.out k hlt; omega
      obtain ⟨z, hz⟩ : ∃ z, z = endS (ts.take k) q := ⟨_, rfl⟩
      rw [← hz] at hq0 es em ⊢
      have hM := markIntS_any A' n' c' lo hi (li ts k) z wr hx hn' hq0.1 hq0.2
      have HM := Lib.hid hM
      have HBK := Lib.hid hback
      have HX := Lib.hid hx
      have HW := Lib.hid hwi
      have HES := Lib.hid es
      have HEM := Lib.hid em
      clear hown hfz hx hback hM hwi es em hz hl'
      go_wp2_with fail
      refine HM.out.mono ?_
      rintro e w2 ⟨rfl, ho2, hg2⟩
      have hO2 := HBK.out w2 _ ho2 hg2
      rw [HEM.out] at hO2
      have HO3 := Lib.hid hO2
      have HW3 := Lib.hid (HW.out.trans (Within.of_grown hg2 (fun b hb => HX.out.lt b hb)))
      clear hO2 ho2 hg2 HBK HX HM HW hc0
      go_wp2
      go_roundw
      case rel => exact ⟨k + 1, by omega, by go_num, by rw [HES.out], HO3.out, HW3.out⟩
      case measure => simp [intOf]; omega
    · have hkn : k = n := by omega
      subst hkn
      have e1 : ts.take k = ts := List.take_of_length_le (by rw [HL.out]; omega)
      rw [e1]
      have e2 := mixS_all ts q
      rw [HL.out] at e2
      rw [e2] at hown
      go_wp2
      go_ret
      exact ⟨rfl, hown, hwi⟩
set_option maxHeartbeats 400000 in
theorem markIntSS_any (A : Option Addr) (n c lo hi : Nat) (ts : List (List Int)) (q : Int) (w : World) (hs : OwnL w lo hi A n c ts) (hn : n ≤ 1099511627776) (hne : ∀ k, k < n → (li ts k).length ≤ 1099511627776)
    (hq : ∀ k, k ≤ n → 0 ≤ endS (ts.take k) q ∧ endS (ts.take k) q ≤ 1099511627776) :
    Calls Try.prog 48 #[.slice A n c, .int .i64 q] w fun e w' => e = .returned (.int .i64 (endS ts q)) ∧ OwnL w' lo hi A n c (marksS ts q) ∧ Within lo hi w w' := by
  by_cases h0 : 0 < n
  · obtain ⟨g, rfl, h1, h2⟩ := hs.place h0
    exact markIntSS_own g n c lo hi ts q w hs hn hne hq
  · have hz : n = 0 := by omega
    subst hz
    have hx : ts = [] := List.eq_nil_of_length_eq_zero hs.len
    subst hx
    have HS := Lib.hid hs
    clear hs hq hne
    go_enter Try.func48, Try.ntmps48
    go_wp2
    refine wp_loop_rounds 1 ?_
    rw [rounds_succ]
    go_wp2
    go_ret
    exact ⟨rfl, HS.out, Within.refl _ _ _⟩
set_option maxHeartbeats 800000 in
theorem heldIntSS_yes (A : Option Addr) (n c : Nat) (ts : List (List Int)) (q : Int) (w : World) (hs : LS w A n (marksS ts q)) (hn : n ≤ 1099511627776) (hne : ∀ k, k < n → (li ts k).length ≤ 1099511627776)
    (hq : ∀ k, k ≤ n → 0 ≤ endS (ts.take k) q ∧ endS (ts.take k) q ≤ 1099511627776) :
    Calls Try.prog 49 #[.slice A n c, .int .i64 q] w fun e w' => e = .returned (.int .i64 (endS ts q)) ∧ Drawn w w' := by
  have HL : Hid (ts.length = n) := Lib.hid (by rw [← marksS_len ts q]; exact hs.1)
  have HNE := Lib.hid hne
  have HQ := Lib.hid hq
  clear hne hq
  go_enter Try.func49, Try.ntmps49
  go_wp2
  go_loopw [1, 5] (fun p i wr => ∃ k : Nat, k ≤ n ∧ i = .int .i64 k ∧ p = .int .i64 (endS (ts.take k) q) ∧ Drawn w wr)
    (fun _ i _ => n - (intOf i).toNat)
  case atStart => exact ⟨0, Nat.zero_le _, rfl, rfl, Drawn.refl _⟩
  case round =>
    obtain ⟨k, hk, rfl, rfl, hD⟩ := hrel
    have HD := Lib.hid hD
    have hts := hs.drawn hD
    clear hs hD
    by_cases hlt : k < n
    · have hlI : (k : Int) < (n : Int) := by omega
      obtain ⟨b, o, A', n', c', rfl, hb, hc0, hsi, hnc, hnil⟩ := hts.at_ hlt
      rw [marksS_li (by rw [HL.out]; exact hlt)] at hsi
      have hq0 := HQ.out k hk
      have hq1 := HQ.out (k + 1) (by omega)
      have es := endS_succ (ts := ts) (q := q) (k := k) (by rw [HL.out]; exact hlt)
      have hl' : n' = (li ts k).length := by rw [← hsi.1]; simp [marks_len]
      have hn' : n' ≤ 1099511627776 := by have := HNE.out k hlt; omega
      rw [← hl'] at es hsi
      obtain ⟨z, hz⟩ : ∃ z, z = endS (ts.take k) q := ⟨_, rfl⟩
      rw [← hz] at hq0 es hsi ⊢
      rw [es] at hq1
      have hM := heldIntS_yes A' n' c' z wr hsi hn' hq0.1 hq0.2
      have HM := Lib.hid hM
      have HES := Lib.hid es
      clear hts hsi hM es hz hl' hnil
      have hzn : ¬ z + (n' : Int) < 0 := by omega
      go_wp2_with fail
      refine HM.out.mono ?_
      rintro e w2 ⟨rfl, hD2⟩
      have HD2 := Lib.hid (HD.out.trans hD2)
      clear hD2 hc0 HM
      go_wp2
      go_roundw
      case rel => exact ⟨k + 1, by omega, by go_num, by rw [HES.out], HD2.out⟩
      case measure => simp [intOf]; omega
    · have hkn : k = n := by omega
      subst hkn
      have e1 : ts.take k = ts := List.take_of_length_le (by rw [HL.out]; omega)
      rw [e1]
      go_wp2
      go_ret
      exact ⟨rfl, HD.out⟩
end Go.Proofs.Ytbkhibojbakckaa

/-
  A number inserted into rows: what comes of it (plain lists); one list of a list replaced in memory. Conditions: as each lemma says.
-/


namespace Go.Proofs.Ytbkhibojbakckaa
open Go.RowKit

/-- The first place with a number above x. -/
def gtN (xs : List Int) (x : Int) : Nat := (xs.takeWhile fun y => decide (y ≤ x)).length
theorem gtN_le (xs : List Int) (x : Int) : gtN xs x ≤ xs.length := (List.takeWhile_sublist _).length_le
theorem gtN_is {x : Int} : ∀ (xs : List Int) (k : Nat), k ≤ xs.length → (∀ j, j < k → nth xs j ≤ x) → (k = xs.length ∨ ¬ nth xs k ≤ x) → gtN xs x = k
  | [], k, hk, _, _ => by
    have : k = 0 := by simpa using hk
    subst this; rfl
  | y :: r, 0, _, _, h2 => by
    rcases h2 with h | h
    · simp at h
    · have h' : ¬ y ≤ x := h
      simp [gtN, h']
  | y :: r, k + 1, hk, h1, h2 => by
    have h0 : y ≤ x := h1 0 (by omega)
    have hS : ∀ j, nth (y :: r) (j + 1) = nth r j := fun j => by simp [nth, List.getD]
    have ih := gtN_is r k (by simpa using hk) (fun j hj => by have := h1 (j + 1) (by omega); rwa [hS] at this) (by
      rcases h2 with h | h
      · exact .inl (by simpa using h)
      · exact .inr (by rwa [hS] at h))
    have e : gtN (y :: r) x = gtN r x + 1 := by simp [gtN, h0]
    rw [e, ih]
/-- The number that is inserted into row i. -/
def xI (ls : List (List Int)) (x : Int) : Nat → Int
  | 0 => x
  | i + 1 => nth (li ls i) (gtN (li ls i) (xI ls x i))
/-- The rows when i of them have been gone through. -/
def rI (ls : List (List Int)) (x : Int) : Nat → List (List Int)
  | 0 => ls
  | i + 1 => (rI ls x i).set i ((li ls i).set (gtN (li ls i) (xI ls x i)) (xI ls x i))
theorem rI_len (ls : List (List Int)) (x : Int) : ∀ i, (rI ls x i).length = ls.length
  | 0 => rfl
  | i + 1 => by simp [rI, rI_len ls x i]
theorem rI_li {ls : List (List Int)} {x : Int} : ∀ {i j : Nat}, i ≤ j → i ≤ ls.length → li (rI ls x i) j = li ls j
  | 0, j, _, _ => rfl
  | i + 1, j, h, hl => by
    show li ((rI ls x i).set i _) j = _
    rw [li_set (by rw [rI_len]; omega), if_neg (by omega)]
    exact rI_li (by omega) (by omega)
def goesI (ls : List (List Int)) (x : Int) (j : Nat) : Prop := gtN (li ls j) (xI ls x j) < (li ls j).length
/-- What inserting leaves, and the row that has grown. -/
def InsIs (ls : List (List Int)) (x : Int) (out : List (List Int)) (row : Nat) : Prop :=
  (row < ls.length ∧ (∀ j, j < row → goesI ls x j) ∧ ¬ goesI ls x row ∧ out = (rI ls x row).set row (li ls row ++ [xI ls x row])) ∨ (row = ls.length ∧ (∀ j, j < row → goesI ls x j) ∧ out = rI ls x row ++ [[xI ls x row]])
def insK (ls : List (List Int)) (x : Int) : Nat → Nat → Nat
  | 0, i => i
  | f + 1, i => if i < ls.length ∧ gtN (li ls i) (xI ls x i) < (li ls i).length then insK ls x f (i + 1) else i
def insRow (ls : List (List Int)) (x : Int) : Nat := insK ls x ls.length 0
def insOut (ls : List (List Int)) (x : Int) : List (List Int) :=
  if insRow ls x < ls.length then (rI ls x (insRow ls x)).set (insRow ls x) (li ls (insRow ls x) ++ [xI ls x (insRow ls x)]) else rI ls x (insRow ls x) ++ [[xI ls x (insRow ls x)]]
theorem insK_is {ls : List (List Int)} {x : Int} {row : Nat} (hr : row ≤ ls.length) (h1 : ∀ j, j < row → goesI ls x j) (h2 : row = ls.length ∨ ¬ goesI ls x row) : ∀ f i, i ≤ row → row ≤ i + f → insK ls x f i = row
  | 0, i, hi, hf => by show i = row; omega
  | f + 1, i, hi, hf => by
    unfold insK
    by_cases e : i = row
    · subst e
      rw [if_neg]
      rintro ⟨a, b⟩
      rcases h2 with h | h
      · omega
      · exact h b
    · rw [if_pos ⟨by omega, h1 i (by omega)⟩]
      exact insK_is hr h1 h2 f (i + 1) (by omega) (by omega)
theorem ins_is {ls : List (List Int)} {x : Int} {out : List (List Int)} {row : Nat} (h : InsIs ls x out row) : insRow ls x = row ∧ insOut ls x = out := by
  have e : insRow ls x = row := by
    rcases h with ⟨a, b, c, _⟩ | ⟨a, b, _⟩
    · exact insK_is (by omega) b (.inr c) ls.length 0 (by omega) (by omega)
    · exact insK_is (by omega) b (.inl a) ls.length 0 (by omega) (by omega)
  refine ⟨e, ?_⟩
  unfold insOut
  rw [e]
  rcases h with ⟨a, b, c, d⟩ | ⟨a, b, d⟩
  · rw [if_pos a, d]
  · rw [if_neg (by omega), d]
theorem OwnLE.cellAt {E : Nat → Sv} {w : World} {lo hi g n c : Nat} {ls : List (List Int)} (h : OwnLE E w lo hi (some ⟨g, 0, none⟩) n c ls) {k : Nat} (hk : k < n) : w.cell? ⟨g, k, none⟩ = some (sv (E k)) := by
  rw [h.2.1.cellAt k (by omega), heads_get _ hk]
theorem OwnLE.place {E : Nat → Sv} {w : World} {lo hi n c : Nat} {A : Option Addr} {ls : List (List Int)} (h : OwnLE E w lo hi A n c ls) (hn : 0 < n) : ∃ g, A = some ⟨g, 0, none⟩ ∧ lo ≤ g ∧ g < hi :=
  OwnL.place ⟨E, h⟩ hn
theorem Own.row_lt' {w : World} {lo hi n c : Nat} {A : Option Addr} {xs : List Int} (h : Own w lo hi A n c xs) {g : Nat} (hg : rowB A = some g) : lo ≤ g ∧ g < hi := h.lt g (by rw [ownB]; exact hg)
theorem OwnLE.row_lt' {E : Nat → Sv} {w : World} {lo hi n c : Nat} {A : Option Addr} {ls : List (List Int)} (h : OwnLE E w lo hi A n c ls) {g : Nat} (hg : rowB A = some g) : lo ≤ g ∧ g < hi :=
  ⟨(h.2.1.lt g (by rw [ownB]; exact hg)).1, h.2.2.1 g (by rw [ownB]; exact hg)⟩
/-- One of the lists replaced: by one in the same block, or in a new one. -/
theorem OwnLE.repl {E : Nat → Sv} {w w2 : World} {lo hi g n c : Nat} {ls : List (List Int)} (h : OwnLE E w lo hi (some ⟨g, 0, none⟩) n c ls) {k : Nat} (hk : k < n) (hhi : hi ≤ w.heap.size) (hg : w.grownBy w2 (rowB (E k).1)) {A2 : Option Addr} {n2 c2 : Nat} {ys : List Int}
    (hx : Own w2 lo w2.heap.size A2 n2 c2 ys) (hat : rowB A2 = rowB (E k).1 ∨ ∃ q, rowB A2 = some q ∧ w.heap.size ≤ q) :
    OwnL (w2.setCell ⟨g, k, none⟩ (.slice A2 n2 c2)) lo w2.heap.size (some ⟨g, 0, none⟩) n c (ls.set k ys) ∧ w2.grownBy (w2.setCell ⟨g, k, none⟩ (.slice A2 n2 c2)) (some g) := by
  obtain ⟨hl, ho, hh, he, hne, hdd⟩ := h
  have hgl := hh g rfl
  have hs := hg.size
  have hrk : ∀ b, rowB (E k).1 = some b → (sv (E k)).ownBlock = some b := fun b hb => by unfold sv; rw [ownB]; exact hb
  have ho2 : w2.ownsRow lo 22 1 (.slice (some ⟨g, 0, none⟩) n c) n (heads n E) := ho.kept hg (.inr fun e => hne k g hk (hrk g e.symm) rfl)
  have he2 : ∀ j, j < n → j ≠ k → Own w2 lo hi (E j).1 (E j).2.1 (E j).2.2 (li ls j) := fun j hj hjk => (he j hj).kept hg (fun b hb e => by
    rcases Nat.lt_or_gt_of_ne hjk with h | h
    · exact hdd j k b h hk hb (hrk b e)
    · exact hdd k j b h hj (hrk b e) hb)
  have hA2g : ∀ b, (sv ((A2, n2, c2) : Sv)).ownBlock = some b → b ≠ g := fun b hb => by
    have hb' : rowB A2 = some b := by rw [← ownB A2 n2 c2]; exact hb
    rcases hat with e | ⟨q, e, hq⟩
    · intro h; subst h; exact hne k b hk (hrk b (e ▸ hb')) rfl
    · rw [e] at hb'; injection hb' with hb'; omega
  have hA2E : ∀ j b, j < n → j ≠ k → (sv ((A2, n2, c2) : Sv)).ownBlock = some b → (sv (E j)).ownBlock ≠ some b := fun j b hj hjk hb e2 => by
    have hb' : rowB A2 = some b := by rw [← ownB A2 n2 c2]; exact hb
    rcases hat with e | ⟨q, e, hq⟩
    · have h3 := hrk b (e ▸ hb')
      rcases Nat.lt_or_gt_of_ne hjk with h | h
      · exact hdd j k b h hk e2 h3
      · exact hdd k j b h hj h3 e2
    · rw [e] at hb'; injection hb' with hb'
      have := (he j hj).lt b e2
      omega
  obtain ⟨o1, gg⟩ := ho2.stored k (.slice A2 n2 c2)
  refine ⟨⟨fun j => if j = k then (A2, n2, c2) else E j, by simpa using hl, ?_, fun b hb => by have := hh b hb; omega, fun j hj => ?_, fun j b hj hb => ?_, fun i j b hij hj hb => ?_⟩, gg⟩
  · exact row1_eq o1 (heads_set E hk (A2, n2, c2))
  · dsimp only
    rw [li_set (by omega)]
    by_cases e : j = k
    · rw [if_pos e, if_pos e]
      exact hx.kept gg (fun b hb e2 => by injection e2 with e2; exact hA2g b hb e2.symm)
    · rw [if_neg e, if_neg e]
      exact ((he2 j hj e).kept gg (fun b hb e2 => hne j b hj hb e2)).wide (Nat.le_refl _) (by omega)
  · dsimp only at hb
    by_cases e : j = k
    · rw [if_pos e] at hb
      have := hA2g b hb
      intro e2; simp [Value.ownBlock] at e2; omega
    · rw [if_neg e] at hb
      exact hne j b hj hb
  · dsimp only at hb ⊢
    by_cases e : i = k
    · rw [if_pos e] at hb
      rw [if_neg (by omega)]
      exact hA2E j b hj (by omega) hb
    · rw [if_neg e] at hb
      by_cases e' : j = k
      · rw [if_pos e']
        intro e2
        exact hA2E i b (by omega) e e2 hb
      · rw [if_neg e']
        exact hdd i j b hij hj hb
end Go.Proofs.Ytbkhibojbakckaa

/-
  Rows taken in one by one, in memory, on the program's side. Conditions: the modulus is 2, 3, 5 or 7; lengths at most 1000.
-/




namespace Go.Proofs.Ytbkhibojbakckaa
open Go.RowKit

/-- The rows that are kept, in memory. -/
structure EchD (w : World) (lo ge : Nat) (p : Int) (E : List (List Int × Int)) (AR : Option Addr) (nR cR : Nat) (AC : Option Addr) (nC cC : Nat) (Ev : Nat → Sv) : Prop where
  blk : Blk w ge 75 #[.int .i64 p, .slice AR nR cR, .slice AC nC cC]
  glo : lo ≤ ge
  rows : OwnLE Ev w lo w.heap.size AR nR cR (E.map (·.1))
  cols : Own w lo w.heap.size AC nC cC (E.map (·.2))
  ap1 : Apart Ev AR nR ge
  ap2 : rowB AC ≠ some ge
  ap3 : ∀ q, rowB AC = some q → Apart Ev AR nR q
def EchS (w : World) (lo ge : Nat) (p : Int) (E : List (List Int × Int)) : Prop := ∃ AR nR cR AC nC cC Ev, EchD w lo ge p E AR nR cR AC nC cC Ev
theorem OwnLE.belowE {E : Nat → Sv} {w w' : World} {lo hi n c B : Nat} {A : Option Addr} {ls : List (List Int)} (h : OwnLE E w lo hi A n c ls) (hb : Below B w w') (hB : hi ≤ B) : OwnLE E w' lo hi A n c ls := h.below hb hB
section
variable {w w' : World} {lo ge : Nat} {p : Int} {E : List (List Int × Int)} {AR : Option Addr} {nR cR : Nat} {AC : Option Addr} {nC cC : Nat} {Ev : Nat → Sv}
theorem EchD.below {B : Nat} (h : EchD w lo ge p E AR nR cR AC nC cC Ev) (hb : Below B w w') (hB : w.heap.size ≤ B) : EchD w' lo ge p E AR nR cR AC nC cC Ev :=
  ⟨h.blk.below hb (Nat.lt_of_lt_of_le h.blk.lt hB), h.glo, (h.rows.belowE hb hB).wide hb.size, (h.cols.below hb hB).wide (Nat.le_refl _) hb.size, h.ap1, h.ap2, h.ap3⟩
theorem EchD.lenR (h : EchD w lo ge p E AR nR cR AC nC cC Ev) : E.length = nR := by have := h.rows.1; simpa using this
theorem EchD.lenC (h : EchD w lo ge p E AR nR cR AC nC cC Ev) : E.length = nC := by have := h.cols.len; simpa using this
theorem EchD.cells (h : EchD w lo ge p E AR nR cR AC nC cC Ev) : w.cell? ⟨ge, 0, none⟩ = some (.int .i64 p) ∧ w.cell? ⟨ge, 1, none⟩ = some (.slice AR nR cR) ∧ w.cell? ⟨ge, 2, none⟩ = some (.slice AC nC cC) := ⟨h.blk.cell 0, h.blk.cell 1, h.blk.cell 2⟩
end
theorem redE_take {p : Int} {E : List (List Int × Int)} {x : List Int} {i : Nat} (h : i < E.length) :
    redE p (E.take (i + 1)) x = addT p (redE p (E.take i) x) (p - nth (redE p (E.take i) x) (nth (E.map (·.2)) i).toNat) (li (E.map (·.1)) i) := by
  rw [List.take_succ_eq_append_getElem h, redE_snoc]
  have e1 : nth (E.map (·.2)) i = E[i].2 := by rw [nth_get (by simpa using h)]; simp
  have e2 : li (E.map (·.1)) i = E[i].1 := by rw [li_get (by simpa using h)]; simp
  rw [e1, e2]
set_option maxRecDepth 100000 in
set_option maxHeartbeats 8000000 in
theorem echAdd_any (p : Int) (lo ge n c : Nat) (A : Option Addr) (E : List (List Int × Int)) (x : List Int) (w : World) (hp : P7 p) (hE : EchS w lo ge p E) (hok : EOk p n E) (hEl : E.length ≤ 1000) (hs : SI w A n x) (hx : Rg p x) (hn : n ≤ 1000) :
    Calls Try.prog 81 #[.pointer (some ⟨ge, 0, none⟩), .slice A n c] w fun e w' => e = .returned (.tuple #[]) ∧ EchS w' lo ge p (addR p E x) ∧ Below lo w w' := by
  obtain ⟨AR, nR, cR, AC, nC, cC, Ev, hD⟩ := hE
  have hp2 := hp.two
  have hp7 := hp.le
  have HP := Lib.hid hp
  have HOK := Lib.hid hok
  have HX := Lib.hid hx
  have HXL := Lib.hid hs.1
  have HLR := Lib.hid hD.lenR
  have HLC := Lib.hid hD.lenC
  have hnC : nC ≤ 1000 := by have := hD.lenC; omega
  have hnR : nR ≤ 1000 := by have := hD.lenR; omega
  obtain ⟨B, hB⟩ : ∃ B, B = w.heap.size := ⟨_, rfl⟩
  have HB0 : Hid (B = w.heap.size) := hB
  have HGE : Hid (lo ≤ ge ∧ ge < B) := Lib.hid ⟨hD.glo, by rw [hB]; exact hD.blk.lt⟩
  have HD0 := Lib.hid hD
  have HS0 := Lib.hid hs
  clear hp hok hx hD hs hEl
  go_enter Try.func81, Try.ntmps81
  go_upto_region 1 with (at_make; refine wpList_make_zero rfl (.tmp 10) (.tmp 10) rfl n rfl rfl (by omega) ?_; intro w1 ho1 hb1; have HO1 := Lib.hid ho1; have HB1 := Lib.hid hb1; clear ho1 hb1)
  rw [← hB] at HO1 HB1 ⊢
  clear hB
  go_upto_region 2 with (first
    | (refine wpList_copyR rfl (.tmp 12) (.tmp 13) rfl B n A n c rfl rfl B w1.heap.size (List.replicate n 0) x HO1.out (HS0.out.below HB1.out (Nat.le_of_eq HB0.out.symm)) (Nat.le_refl _) ?_
       intro w2 ho2 hg2
       have HO2 : Hid (Own w2 B w2.heap.size (some ⟨B, 0, none⟩) n n x) := Lib.hid (by
         have e : x ++ (List.replicate n (0 : Int)).drop n = x := by simp
         rw [e] at ho2; exact ho2.wide (Nat.le_refl _) hg2.size)
       have HB2 : Hid (Below B w w2) := Lib.hid (HB1.out.grown hg2 (by have := HB1.out.size; have := HB0.out; omega) (by rintro q ⟨⟩; exact Nat.le_refl _))
       clear ho2 hg2))
  have HD2 := Lib.hid (HD0.out.below HB2.out (Nat.le_of_eq HB0.out.symm))
  obtain ⟨q0, q1, q2⟩ := HD2.out.cells
  go_upto_region 3 with fail
  clear q0 q1 q2
  go_loopw [20] (fun iv wr => ∃ i : Nat, i ≤ nC ∧ iv = .int .i64 i ∧ Own wr B wr.heap.size (some ⟨B, 0, none⟩) n n (redE p (E.take i) x) ∧ Below B w wr)
    (fun iv _ => nC - (intOf iv).toNat)
  case atStart => exact ⟨0, Nat.zero_le _, rfl, by simpa [redE] using HO2.out, HB2.out⟩
  case round =>
    obtain ⟨i, hi, rfl, ho, hb⟩ := hrel
    clear HO2 HB2 HD2 HO1 HB1
    have HO := Lib.hid ho
    have HB := Lib.hid hb
    have HDr := Lib.hid (HD0.out.below hb (Nat.le_of_eq HB0.out.symm))
    clear ho hb
    by_cases hlt : i < nC
    case pos =>
      have hlI : (i : Int) < (nC : Int) := by omega
      obtain ⟨gc, rfl, hgc1, hgc2⟩ := HDr.out.cols.place (by omega)
      have hiE : i < E.length := by rw [HLC.out]; exact hlt
      have hiR : i < nR := by have := HLC.out; have := HLR.out; omega
      obtain ⟨gr, rfl, hgr1, hgr2⟩ := HDr.out.rows.place (by omega)
      have hcc := HDr.out.cols.cellAt hlt
      have hcr := HDr.out.rows.cellAt hiR
      have hei := HOK.out.1 E[i] (List.getElem_mem hiE)
      have hcol : nth (E.map (·.2)) i = E[i].2 := by rw [nth_get (by simpa using hiE)]; simp
      have hrow : li (E.map (·.1)) i = E[i].1 := by rw [li_get (by simpa using hiE)]; simp
      obtain ⟨y, hy⟩ : ∃ y, y = E[i].1 := ⟨_, rfl⟩
      rw [← hy] at hei hrow
      obtain ⟨j, hj⟩ : ∃ j : Nat, (j : Int) = nth (E.map (·.2)) i := ⟨(nth (E.map (·.2)) i).toNat, by rw [hcol]; omega⟩
      have hjn : j < n := by rw [hcol] at hj; omega
      rw [← hj] at hcc
      obtain ⟨⟨A', n', c'⟩, hEv⟩ : ∃ a, a = Ev i := ⟨_, rfl⟩
      have hown := HDr.out.rows.2.2.2.1 i hiR
      rw [← hEv] at hcr hown
      have hcr' : wr.cell? ⟨gr, i, none⟩ = some (.slice A' n' c') := hcr
      have hown' : Own wr lo wr.heap.size A' n' c' (li (E.map (·.1)) i) := hown
      rw [hrow] at hown'
      obtain rfl : n' = n := by have := hown'.len; have := hei.1; omega
      have hcx := HO.out.cellAt hjn
      obtain ⟨d, hd⟩ : ∃ d, d = redE p (E.take i) x := ⟨_, rfl⟩
      rw [← hd] at hcx HO
      have hdr : Rg p d := by rw [hd]; exact redE_rg (by omega) _ HX.out
      have hdl : d.length = n' := by rw [hd, redE_len, HXL.out]
      obtain ⟨v, hv⟩ : ∃ v, v = nth d j := ⟨_, rfl⟩
      have hvb := hdr j
      rw [← hv] at hcx hvb
      have hw1 : IntKind.i64.wrap (p - v) = p - v := IntWalk.i64_in _ (by omega)
      have HSTEP : Hid (redE p (E.take (i + 1)) x = addO p d 0 (p - v) y n') := Lib.hid (by
        rw [redE_take hiE, ← hd, ← hj, Int.toNat_natCast, ← hv, hrow, ← hdl, addO_whole])
      have HCALL := Lib.hid (rowTimes_any p (p - v) B n' n' B wr.heap.size 0 n' n' d y A' c' wr.drew ⟨hp2, hp7⟩ ⟨by omega, by omega⟩ hdr hei.2.1 (HO.out.drawn ⟨1, rfl⟩) (by omega) hn ((hown'.drawn ⟨1, rfl⟩).si)
        (.inl fun b o' e => by
          have h1 := (HD0.out.rows.2.2.2.1 i hiR).lt
          rw [← hEv] at h1
          have h2 : rowB A' = some b := by rw [e]; rfl
          have h3 := h1 b (by rw [ownB]; exact h2)
          have := HB0.out
          omega))
      have hS0 : wr.cell? ⟨ge, 0, none⟩ = some (.int .i64 p) ∧ wr.cell? ⟨ge, 1, none⟩ = some (.slice (some ⟨gr, 0, none⟩) nR cR) ∧ wr.cell? ⟨B, j, none⟩ = some (.int .i64 v) ∧ wr.cell? ⟨gr, i, none⟩ = some (.slice A' n' c') := ⟨HDr.out.cells.1, HDr.out.cells.2.1, hcx, hcr'⟩
      have hSD : wr.drew.cell? ⟨ge, 0, none⟩ = some (.int .i64 p) ∧ wr.drew.cell? ⟨ge, 1, none⟩ = some (.slice (some ⟨gr, 0, none⟩) nR cR) ∧ wr.drew.cell? ⟨B, j, none⟩ = some (.int .i64 v) ∧ wr.drew.cell? ⟨gr, i, none⟩ = some (.slice A' n' c') := hS0
      have HS1 := Lib.hid hS0
      have HS2 := Lib.hid hSD
      have hjI : (j : Int) < (n' : Int) := by omega
      have hiI : (i : Int) < (nR : Int) := by omega
      clear hS0 hSD hcx hcr hcr' hown hown' hEv hei hcol hrow hj hd hdr hdl hv hvb hgc1 hgc2 hgr1 hgr2 hy hiE
      have hcc' : wr.cell? ⟨gc, i, none⟩ = some (.int .i64 (j : Int)) := hcc
      clear hcc
      go_wp2_with fail
      obtain ⟨s0, s1, s2, s3⟩ := HS1.out
      refine wp_region_still_tail 21 (by kernel_rfl) (by kernel_rfl) ?_
      simp only [List.take_succ_cons, List.take_zero, List.drop_succ_cons, List.drop_zero]
      repeat still_step
      refine wpStill_nil ?_
      change wpList _ _ _ _ _ wr.drew
      go_wp2_with (go_at_call 154
                   with_reducible refine HCALL.out.mono ?_
                   rintro e w3 ⟨rfl, ho3, wm, hdm, hgm⟩
                   have hsz3 : wr.heap.size ≤ w3.heap.size := by
                     have h1 := (hdm.below wr.heap.size).size
                     have h2 := hgm.size
                     exact Nat.le_trans h1 h2
                   have HO3 := Lib.hid (ho3.wide (Nat.le_refl _) hsz3)
                   have HB3 : Hid (Below B w w3) := Lib.hid ((HB.out.drew.trans (hdm.below B)).grown hgm (by have h1 := HB.out.size; have h2 := HB0.out; have h3 : wr.heap.size ≤ wm.heap.size := (hdm.below wr.heap.size).size; omega) (by rintro q ⟨⟩; exact Nat.le_refl _))
                   clear ho3 hdm hgm hsz3)
      go_wp2
      go_roundw
      case rel => exact ⟨i + 1, by omega, by go_num, by rw [HSTEP.out]; exact HO3.out, HB3.out⟩
      case measure => simp [intOf]; omega
    case neg =>
      obtain rfl : i = nC := by omega
      obtain ⟨d, hd⟩ : ∃ d, d = redE p E x := ⟨_, rfl⟩
      have hOd : Own wr B wr.heap.size (some ⟨B, 0, none⟩) n n d := by
        have := HO.out
        rw [List.take_of_length_le (by have := HLC.out; omega), ← hd] at this; exact this
      clear HO
      have HO := Lib.hid hOd
      have hdr : Rg p d := by rw [hd]; exact redE_rg (by omega) _ HX.out
      have hdl : d.length = n := hOd.len
      have HIX := Lib.hid (indexNonz_any (some ⟨B, 0, none⟩) n n d wr hOd.si (by omega))
      have HDR := Lib.hid hdr
      have HDL := Lib.hid hdl
      have HDE := Lib.hid hd
      clear hOd hdr hdl hd
      by_cases hend : ldN d = n
      case pos =>
        have HRES : Hid (addR p E x = E) := Lib.hid (by unfold addR; rw [← HDE.out, if_pos (by rw [HXL.out]; exact hend)])
        go_upto_region 8 with (go_at_call 155; with_reducible refine HIX.out.mono ?_; rintro e w2 ⟨iv, rfl, hiv, hdr2⟩; obtain rfl : iv = -1 := (by omega); have HD2 := Lib.hid hdr2; clear hiv hdr2)
        go_wp2
        go_returns
        exact ⟨rfl, by rw [HRES.out]; exact ⟨AR, nR, cR, AC, i, cC, Ev, HDr.out.below (HD2.out.below wr.heap.size) (Nat.le_refl _)⟩, (HB.out.mono (by have := HGE.out; omega)).trans (HD2.out.below lo)⟩
      case neg =>
        have hcl := ldN_le d
        obtain ⟨j, hj⟩ : ∃ j, j = ldN d := ⟨_, rfl⟩
        have hjn : j < n := by have := HDL.out; omega
        have HJ := Lib.hid hj
        have hvr := HDR.out j
        have hvne : nth d j ≠ 0 := by rw [hj]; exact ldN_at d (by have := HDL.out; omega)
        obtain ⟨v, hv⟩ : ∃ v, v = nth d j := ⟨_, rfl⟩
        rw [← hv] at hvr hvne
        have hinv := inv7_ok HP.out (x := v) ⟨by omega, hvr.2⟩
        obtain ⟨F, hF⟩ : ∃ F : Nat, (F : Int) = inv7 p v := ⟨(inv7 p v).toNat, by omega⟩
        rw [← hF] at hinv
        have HUQ : Hid (∀ f : Nat, 0 < f → f < F → v * (f : Int) % p ≠ 1) := Lib.hid (fun f h1 h2 h3 => by
          have := inv7_is HP.out (x := v) (y := (f : Int)) ⟨by omega, hvr.2⟩ ⟨by omega, by omega⟩ h3
          omega)
        have HINV := Lib.hid hinv
        have HVR : Hid (0 < v ∧ v < p) := Lib.hid ⟨by omega, hvr.2⟩
        have HNRM : Hid (addO p d 0 ((F : Int) - 1) d n = nrm p d) := Lib.hid (by rw [← HDL.out, addO_whole]; unfold nrm; rw [← HJ.out, ← hv, hF])
        have HRES : Hid (addR p E x = E ++ [(nrm p d, (j : Int))]) := Lib.hid (by unfold addR; rw [← HDE.out, if_neg (by rw [HXL.out]; exact hend), ← HJ.out])
        have HV := Lib.hid hv
        have hpnz : p ≠ 0 := by omega
        clear hcl hj hvr hvne hv hinv hF
        have hjI : (j : Int) < (n : Int) := by omega
        have hj0 : ¬ (j : Int) < 0 := by omega
        go_upto_region 8 with (go_at_call 155; with_reducible refine HIX.out.mono ?_; rintro e w2 ⟨iv, rfl, hiv, hdr2⟩; obtain rfl : iv = (j : Int) := (by have := HJ.out; omega); have HD2 := Lib.hid hdr2; clear hiv hdr2)
        go_wp2_with fail
        obtain ⟨wo, rfl⟩ : ∃ wo, wo = wr := ⟨wr, rfl⟩
        go_loopw [8] (fun fv wr => ∃ f : Nat, 0 < f ∧ f ≤ F ∧ fv = .int .i64 f ∧ Drawn wo wr)
          (fun fv _ => F - (intOf fv).toNat)
        case atStart => exact ⟨1, by omega, by have := HINV.out.1; omega, rfl, HD2.out⟩
        case round =>
          obtain ⟨f, hf0, hf1, rfl, hdx⟩ := hrel
          clear HD2
          have HDX := Lib.hid hdx
          have hOx := HO.out.drawn hdx
          have hcx := hOx.cellAt hjn
          rw [← HV.out] at hcx
          have hq0 : wr.cell? ⟨ge, 0, none⟩ = some (.int .i64 p) := (HDr.out.below (hdx.below wo.heap.size) (Nat.le_refl _)).cells.1
          have hvf0 : 0 ≤ v * (f : Int) := Int.mul_nonneg (by have := HVR.out; omega) (by omega)
          have hvf1 : v * (f : Int) ≤ 7 * 7 := Int.mul_le_mul (by have := HVR.out; omega) (by have := HINV.out; omega) (by omega) (by decide)
          obtain ⟨S, hS⟩ : ∃ S, S = v * (f : Int) := ⟨_, rfl⟩
          have hw1 : IntKind.i64.wrap (v * (f : Int)) = S := by rw [← hS]; exact IntWalk.i64_in _ (by omega)
          obtain ⟨R, hR⟩ : ∃ R, R = S % p := ⟨_, rfl⟩
          have hw2 : S.tmod p = R := by rw [hR]; exact Int.tmod_eq_emod_of_nonneg (by omega)
          have hRb : 0 ≤ R ∧ R < p := by rw [hR]; exact ⟨Int.emod_nonneg _ hpnz, Int.emod_lt_of_pos _ (by omega)⟩
          have hw3 : IntKind.i64.wrap R = R := IntWalk.i64_in _ (by omega)
          clear hdx hOx hvf0 hvf1
          by_cases hfF : f = F
          case neg =>
            have hb : (R != 1) = true := by
              have := HUQ.out f hf0 (by omega)
              rw [hR, hS]; simpa using this
            have hf7 : f ≤ 7 := by have := HINV.out; omega
            clear hS hR hRb
            go_wp2_with fail
            go_quiet (fail)
            go_wp2
            go_roundw
            case rel => exact ⟨f + 1, by omega, by omega, by go_num, HDX.out.drewN _⟩
            case measure => simp [intOf]; omega
          case pos =>
            subst hfF
            have hb : (R != 1) = false := by
              have := HINV.out.2.2
              rw [hR, hS, this]; rfl
            have hf7 : (f : Int) ≤ 7 := by have := HINV.out; omega
            clear hS hR hRb
            have hw4 : IntKind.i64.wrap ((f : Int) - 1) = (f : Int) - 1 := IntWalk.i64_in _ (by omega)
            have HCALL := Lib.hid (fun m : Nat => rowTimes_any p ((f : Int) - 1) B n n B wo.heap.size 0 n n d d (some ⟨B, 0, none⟩) n (wr.drewN m) ⟨hp2, hp7⟩ ⟨by omega, by omega⟩ HDR.out HDR.out (HO.out.drawn (HDX.out.drewN m)) (by omega) hn (HO.out.drawn (HDX.out.drewN m)).si (.inr rfl))
            go_wp2_with fail
            go_quiet (fail)
            go_upto_region 13 with (first
               | (go_at_call 154
                  with_reducible refine (HCALL.out _).mono ?_
                  rintro e w3 ⟨rfl, ho3, wm, hdm, hgm⟩
                  have hwm : Drawn wo wm := (HDX.out.drewN _).trans hdm
                  have hsz3 : wo.heap.size ≤ w3.heap.size := Nat.le_trans (hwm.below wo.heap.size).size hgm.size
                  have HO3 : Hid (Own w3 B wo.heap.size (some ⟨B, 0, none⟩) n n (nrm p d)) := Lib.hid (by rw [HNRM.out] at ho3; exact ho3)
                  have HB3 : Hid (Below B w w3) := Lib.hid ((HB.out.trans (hwm.below B)).grown hgm (by have h1 := HB.out.size; have h2 := HB0.out; have h3 := (hwm.below wo.heap.size).size; omega) (by rintro q ⟨⟩; exact Nat.le_refl _))
                  have HZ3 := Lib.hid hsz3
                  clear ho3 hdm hgm hsz3 hwm))
            have HD3 := Lib.hid (HD0.out.below HB3.out (Nat.le_of_eq HB0.out.symm))
            have HBZ : Hid (B ≤ w3.heap.size) := Lib.hid (by have := HB3.out.size; have := HB0.out; omega)
            have HLE := Lib.hid HD0.out.rows
            have HAPB : Hid (Apart Ev AR nR B ∧ ∀ q, rowB AC = some q → q < B) := Lib.hid ⟨⟨fun e => by have := HD0.out.rows.2.2.1 B (by rw [ownB]; exact e); have := HB0.out; omega, fun j hj e => by have := (HD0.out.rows.2.2.2.1 j hj).lt B e; have := HB0.out; omega⟩, fun q hq => by have := (HD0.out.cols.row_lt' hq).2; have := HB0.out; omega⟩
            obtain ⟨c0, c1, c2⟩ := HD3.out.cells
            clear hb hw1 hw2 hw3 hw4 hcx hq0
            go_upto_region 14 with (first
               | (at_builtin
                  refine wpList_appendLE rfl (.tmp 79) (.tmp 81) rfl lo w3.heap.size AR nR cR (E.map (·.1)) B wo.heap.size (some ⟨B, 0, none⟩) n n (nrm p d) rfl (by show Act.eval _ _ = _; simp [Act.eval]) HD3.out.rows HO3.out (by have := HGE.out; omega) (fun b hb => by rw [ownB] at hb; injection hb with hb; subst hb; exact ⟨by rw [ownB]; exact HAPB.out.1.1, HAPB.out.1.2⟩) HZ3.out (Nat.le_refl _) (by have := HBZ.out; have := HGE.out; omega) (by omega) ?_
                  intro AR' cR' w4 hE4 hat4 hgr4 hb4
                  have HE4 := Lib.hid hE4
                  have HAT4 := Lib.hid hat4
                  have HGR4 := Lib.hid hgr4
                  have HB4 := Lib.hid hb4
                  have HK4 := Lib.hid (HD3.out.blk.grown hgr4 (fun e => HD3.out.ap1.1 e.symm))
                  have c1' : w4.cell? ⟨ge, 1, none⟩ = some (.slice AR nR cR) := HK4.out.cell 1
                  have f1' := HK4.out.frozen 1
                  clear hE4 hat4 hgr4 hb4))
            have hg4 : w4.grownBy (w4.setCell ⟨ge, 1, none⟩ (.slice AR' (nR + 1) cR')) (some ge) := grown_setP _ _ _
            have HKv : Hid (Blk (w4.setCell ⟨ge, 1, none⟩ (.slice AR' (nR + 1) cR')) ge 75 #[.int .i64 p, .slice AR' (nR + 1) cR', .slice AC i cC]) := Lib.hid (HK4.out.set_ 1 _)
            obtain ⟨v4, hv4⟩ : ∃ v4, v4 = w4.setCell ⟨ge, 1, none⟩ (.slice AR' (nR + 1) cR') := ⟨_, rfl⟩
            rw [← hv4] at hg4 HKv ⊢
            have HAPN : Hid (∀ q, (rowB AC = some q ∨ q = ge) → Apart (snE Ev nR (some ⟨B, 0, none⟩, n, n)) AR' (nR + 1) q) := Lib.hid (fun q hq => by
              have hqB : q < B := by
                rcases hq with h | h
                · exact HAPB.out.2 q h
                · have := HGE.out; omega
              have hap : Apart Ev AR nR q := by
                rcases hq with h | h
                · exact HD0.out.ap3 q h
                · rw [h]; exact HD0.out.ap1
              refine ⟨fun e => ?_, fun j hj e => ?_⟩
              · rcases HAT4.out with h | ⟨z, h, hz⟩
                · exact hap.1 (by rw [← h]; exact e)
                · rw [h] at e; injection e with e; have := HBZ.out; omega
              · by_cases hjn : j < nR
                · rw [snE_lt _ _ hjn] at e; exact hap.2 j hjn e
                · rw [show j = nR by omega, snE_at] at e
                  have e' : some B = some q := e
                  injection e' with e'; omega)
            have HEv : Hid (OwnLE (snE Ev nR (some ⟨B, 0, none⟩, n, n)) v4 lo v4.heap.size AR' (nR + 1) cR' (E.map (·.1) ++ [nrm p d])) := Lib.hid ((HE4.out.apart hg4 (fun q hq => by injection hq with hq; exact HAPN.out q (.inr hq.symm))).wide hg4.size)
            have HCv : Hid (Own v4 lo v4.heap.size AC i cC (E.map (·.2))) := Lib.hid ((((HD3.out.cols.kept HGR4.out (fun q hq e => (HD3.out.ap3 q (by rw [← ownB AC i cC]; exact hq)).1 e)).kept hg4 (fun q hq e => HD3.out.ap2 (by rw [← ownB AC i cC, hq, e]))).wide (Nat.le_refl _) (Nat.le_trans HGR4.out.size hg4.size)))
            have HBv : Hid (Below lo w v4) := Lib.hid (((HB3.out.mono (by have := HGE.out; omega)).trans HB4.out).grown hg4 (by have := HB4.out.size; have := HBZ.out; have := HGE.out; omega) (by rintro q ⟨⟩; exact HGE.out.1))
            have HLOv : Hid (lo ≤ v4.heap.size) := Lib.hid (by have := HB4.out.size; have := HBZ.out; have := HGE.out; have := hg4.size; omega)
            have d2 : v4.cell? ⟨ge, 2, none⟩ = some (.slice AC i cC) := HKv.out.cell 2
            clear hv4 hg4 c0 c1 c2 c1' f1'
            go_wp2_with (first
               | (at_builtin
                  refine wpList_append_keep rfl (.tmp 89) (.tmp 91) rfl lo v4.heap.size AC i cC (E.map (·.2)) (j : Int) rfl (by show Act.eval _ _ = _; simp [Act.eval]) HCv.out HLOv.out (by omega) ?_
                  intro AC' cC' w5 ho5 hgr5 hat5
                  have HO5 := Lib.hid ho5
                  have HGR5 := Lib.hid hgr5
                  have HAT5 := Lib.hid hat5
                  have HK5 := Lib.hid (HKv.out.grown hgr5 (fun e => HD0.out.ap2 e.symm))
                  have d2' : w5.cell? ⟨ge, 2, none⟩ = some (.slice AC i cC) := HK5.out.cell 2
                  have g2' := HK5.out.frozen 2
                  clear ho5 hgr5 hat5))
            go_returns
            have hg5 : w5.grownBy (w5.setCell ⟨ge, 2, none⟩ (.slice AC' (i + 1) cC')) (some ge) := grown_setP _ _ _
            have hne5 : rowB AC' ≠ some ge := fun e => by
              rcases HAT5.out with ⟨h, _⟩ | ⟨z, h, hz, _⟩
              · rw [h] at e; exact HD0.out.ap2 e
              · rw [h, rowB_some] at e
                injection e with e
                have := HKv.out.lt; omega
            refine ⟨rfl, ?_, ?_⟩
            · rw [HRES.out]
              refine ⟨AR', nR + 1, cR', AC', i + 1, cC', snE Ev nR (some ⟨B, 0, none⟩, n, n), HK5.out.set_ 2 _, HGE.out.1, ?_, ?_, HAPN.out ge (.inr rfl), hne5, fun q hq => ?_⟩
              · rw [List.map_append]
                exact ((HEv.out.apart HGR5.out (fun q hq => HAPN.out q (.inl hq))).apart hg5 (fun q hq => by injection hq with hq; exact HAPN.out q (.inr hq.symm))).wide (Nat.le_trans HGR5.out.size hg5.size)
              · rw [List.map_append]
                exact ((HO5.out.kept hg5 (fun q hq e => hne5 (by rw [← ownB AC' (i + 1) cC', hq, e]))).wide (Nat.le_refl _) hg5.size)
              · rcases HAT5.out with ⟨h, _⟩ | ⟨z, h, hz, _⟩
                · rw [h] at hq; exact HAPN.out q (.inl hq)
                · rw [h, rowB_some] at hq
                  injection hq with hq
                  subst hq
                  exact ⟨fun e => by have := HEv.out.row_lt' e; omega, fun j hj e => by have := (HEv.out.2.2.2.1 j hj).lt _ e; omega⟩
            · exact (HBv.out.grown HGR5.out HLOv.out (fun q hq => (HCv.out.row_lt' hq).1)).grown hg5 (by have := HGR5.out.size; have := HLOv.out; omega) (by rintro q ⟨⟩; exact HGE.out.1)
end Go.Proofs.Ytbkhibojbakckaa

/-
  All rows of a list taken in, on the program's side. Conditions: the modulus is 2, 3, 5 or 7; lengths at most 1000.
-/

namespace Go.Proofs.Ytbkhibojbakckaa
open Go.RowKit

theorem Try.infoEc : (Try.prog.info? 75).map (·.size) = some 3 := by kernel_rfl
/-- What a call that makes an echelon hands back. -/
def FreshEc (w w' : World) (e : Ending) (p : Int) (E : List (List Int × Int)) : Prop :=
  ∃ AR nR cR AC nC cC, e = .returned (.agg #[.int .i64 p, .slice AR nR cR, .slice AC nC cC]) ∧ OwnL w' w.heap.size w'.heap.size AR nR cR (E.map (·.1)) ∧ Own w' w.heap.size w'.heap.size AC nC cC (E.map (·.2)) ∧ Below w.heap.size w w'
theorem take_li' {ls : List (List Int)} {k : Nat} (h : k < ls.length) : ls.take (k + 1) = ls.take k ++ [li ls k] := by
  rw [List.take_succ_eq_append_getElem h, li_get h]
set_option maxRecDepth 100000 in
set_option maxHeartbeats 2000000 in
theorem echelonOf_any (p : Int) (n : Nat) (A : Option Addr) (R c : Nat) (ls : List (List Int)) (w : World) (hp : P7 p) (hs : LS w A R ls) (hR : R ≤ 1000) (hl : ∀ x, x ∈ ls → x.length = n ∧ Rg p x) (hn : n ≤ 1000) :
    Calls Try.prog 72 #[.int .i64 p, .slice A R c] w fun e w' => FreshEc w w' e p (echel p ls) := by
  obtain ⟨w1, hw1⟩ : ∃ w1, w1 = w.alloc (.cells #[.int .i64 0, .slice none 0 0, .slice none 0 0] 75) := ⟨_, rfl⟩
  obtain ⟨g, hg⟩ : ∃ g, g = w.heap.size := ⟨_, rfl⟩
  have hk : Blk w1 g 75 #[.int .i64 0, .slice none 0 0, .slice none 0 0] := by rw [hw1, hg]; exact Blk.new _ _ _
  have hb : Below w.heap.size w w1 := by rw [hw1]; exact Below.alloc_self _ _
  have HB := Lib.hid hb
  have HSZ : Hid (w1.heap.size = g + 1) := Lib.hid (by rw [hw1, hg]; simp)
  have HW := Lib.hid hw1
  have HG := Lib.hid hg
  have HK := Lib.hid hk
  have HP := Lib.hid hp
  have HL := Lib.hid hl
  have HLS := Lib.hid (hs.below hb (Nat.le_refl _))
  have HLN := Lib.hid hs.1
  clear hw1 hg hk hb hp hl hs
  go_enter Try.func72, Try.ntmps72
  go_upto_region 1 with fail
  rw [← HW.out, ← HG.out]
  go_upto_region 2 with (first
    | (refine wpList_store_rowP rfl 75 (.tmp 5) (.tmp 9) rfl w1.heap.size #[.int .i64 p, .slice none 0 0, .slice none 0 0] rfl rfl 75 #[.int .i64 0, .slice none 0 0, .slice none 0 0] (Blk.new _ _ _) Try.infoEc rfl (by simp [Value.oneCell']) ?_
       intro w2 hb2 hg2
       have HK2 := Lib.hid hb2
       have HG2 := Lib.hid hg2
       clear hb2 hg2))
  obtain ⟨ge, hge⟩ : ∃ ge, ge = w1.heap.size := ⟨_, rfl⟩
  rw [← hge] at HK2 HG2 ⊢
  have HGE : Hid (ge = w1.heap.size) := Lib.hid hge
  have HB2 : Hid (Below ge w1 w2) := Lib.hid (((Below.refl ge w1).alloc (Nat.le_of_eq hge) _).grown HG2.out (by simp; omega) (by rintro q ⟨⟩; exact Nat.le_refl _))
  have HE0 : Hid (EchS w2 ge ge p []) := Lib.hid ⟨none, 0, 0, none, 0, 0, fun _ => (none, 0, 0), HK2.out, Nat.le_refl _, ⟨rfl, by simpa [heads] using World.ownsRow_nil _ _ _ _, fun k hk => by simp [Value.ownBlock] at hk, fun j hj => absurd hj (by omega), fun j g hj => absurd hj (by omega), fun i j g _ hj => absurd hj (by omega)⟩, Own.nil _ _ _, ⟨fun e => by simp [rowB, Value.ownBlock] at e, fun j hj => absurd hj (by omega)⟩, fun e => by simp [rowB, Value.ownBlock] at e, fun q hq => by simp [rowB, Value.ownBlock] at hq⟩
  clear hge
  go_wp2_with fail
  go_loopw [12] (fun iv wr => ∃ i : Nat, i ≤ R ∧ iv = .int .i64 i ∧ EchS wr ge ge p (echel p (ls.take i)) ∧ Below ge w1 wr)
    (fun iv _ => R - (intOf iv).toNat)
  case atStart => exact ⟨0, Nat.zero_le _, rfl, by simpa [echel] using HE0.out, HB2.out⟩
  case round =>
    obtain ⟨i, hi, rfl, hE, hbr⟩ := hrel
    clear HE0 HB2 HK2 HG2
    have HE := Lib.hid hE
    have HBR := Lib.hid hbr
    have HOK := Lib.hid (echel_ok (p := p) (n := n) HP.out (rows := ls.take i) (fun x hx => HL.out x (List.mem_of_mem_take hx))).1
    have HLE : Hid ((echel p (ls.take i)).length ≤ 1000) := Lib.hid (by
      have h1 := rnkL_le p (ls.take i)
      unfold rnkL at h1
      have h2 : (ls.take i).length ≤ i := by simp; omega
      omega)
    clear hE hbr
    by_cases hlt : i < R
    case pos =>
      have hlI : (i : Int) < (R : Int) := by omega
      have hil : i < ls.length := by rw [HLN.out]; exact hlt
      obtain ⟨b, o, A', n', c', rfl, hbb, hc0, hsi, _, _⟩ := (HLS.out.below HBR.out (Nat.le_of_eq HGE.out.symm)).at_ hlt
      obtain ⟨x, hx⟩ : ∃ x, x = li ls i := ⟨_, rfl⟩
      rw [← hx] at hsi
      have hxm : x ∈ ls := by rw [hx, li_get hil]; exact List.getElem_mem hil
      have hxo := HL.out x hxm
      have HSTEP : Hid (echel p (ls.take (i + 1)) = addR p (echel p (ls.take i)) x) := Lib.hid (by
        rw [take_li' hil, ← hx]; simp [echel, List.foldl_append])
      obtain rfl : n' = n := by have := hsi.1; have := hxo.1; omega
      have HADD := Lib.hid (echAdd_any p ge ge n' c' A' (echel p (ls.take i)) x wr HP.out HE.out HOK.out HLE.out hsi hxo.2 hn)
      clear hx hxm hxo hsi hil
      go_wp2_with (go_at_call 81; with_reducible refine HADD.out.mono ?_; rintro e w3 ⟨rfl, hE3, hb3⟩; have HE3 := Lib.hid hE3; have HB3 : Hid (Below ge w1 w3) := Lib.hid (HBR.out.trans hb3); clear hE3 hb3)
      go_roundw
      case rel => exact ⟨i + 1, by omega, by go_num, by rw [HSTEP.out]; exact HE3.out, HB3.out⟩
      case measure => simp [intOf]; omega
    case neg =>
      obtain rfl : i = R := by omega
      obtain ⟨AR, nR, cR, AC, nC, cC, Ev, hD⟩ := HE.out
      have HD := Lib.hid hD
      have HKr := Lib.hid (HK.out.below HBR.out (by have := HSZ.out; have := HGE.out; omega))
      clear hD
      go_wp2_with (first
        | (refine wpList_load_rowP rfl 75 (.tmp 5) rfl ge rfl 75 #[.int .i64 p, .slice AR nR cR, .slice AC nC cC] _ HD.out.blk Try.underlying75 rfl Try.infoEc ?_)
        | (refine wpList_store_rowP rfl 75 (.tmp 4) (.tmp 19) rfl g #[.int .i64 p, .slice AR nR cR, .slice AC nC cC] rfl rfl 75 #[.int .i64 0, .slice none 0 0, .slice none 0 0] HKr.out Try.infoEc rfl (by simp [Value.oneCell']) ?_; intro w5 hb5 hg5)
        | fail)
      refine bodyPost_ret (results_rowP Try.results72 _ _ _ 75 #[.int .i64 p, .slice AR nR cR, .slice AC nC cC] _ rfl hb5 Try.underlying75 rfl Try.infoEc) rfl ?_
      have l1 := HSZ.out
      have l2 := HGE.out
      have l3 := HG.out
      have l4 := hg5.size
      have l5 := HBR.out.size
      have hE : echel p (ls.take i) = echel p ls := by rw [List.take_of_length_le (by rw [HLN.out]; exact Nat.le_refl _)]
      have hO := HD.out.rows
      have hC := HD.out.cols
      rw [hE] at hO hC
      refine ⟨AR, nR, cR, AC, nC, cC, rfl, ⟨Ev, ?_⟩, ?_, ?_⟩
      · have h5 := (hO.apart hg5 (fun q hq => by injection hq with hq; subst hq; exact ⟨fun e => by have := (hO.row_lt' e).1; omega, fun j hj e => by have := ((hO.2.2.2.1 j hj).lt _ e).1; omega⟩)).wide l4
        obtain ⟨a1, a2, a3, a4, a5, a6⟩ := h5
        refine ⟨a1, ⟨a2.1, ?_⟩, a3, fun j hj => (a4 j hj).wide (by omega) (Nat.le_refl _), a5, a6⟩
        rcases a2.2 with hn | ⟨g', cap, cur, e, hl, rest⟩
        · exact .inl hn
        · exact .inr ⟨g', cap, cur, e, by omega, rest⟩
      · exact (hC.kept hg5 (fun q hq e => by injection e with e; have := (hC.lt q hq).1; omega)).wide (by omega) l4
      · exact (HB.out.trans (HBR.out.mono (by omega))).grown hg5 (by omega) (by rintro q ⟨⟩; omega)
theorem ecRank_any (p : Int) (AR AC : Option Addr) (nR cR nC cC : Nat) (w : World) :
    Calls Try.prog 134 #[.agg #[.int .i64 p, .slice AR nR cR, .slice AC nC cC]] w fun e w' => e = .returned (.int .i64 nR) ∧ Below w.heap.size w w' := by
  obtain ⟨w1, hw1⟩ : ∃ w1, w1 = w.alloc (.cells #[.int .i64 p, .slice AR nR cR, .slice AC nC cC] 75) := ⟨_, rfl⟩
  obtain ⟨g, hg⟩ : ∃ g, g = w.heap.size := ⟨_, rfl⟩
  have hk : Blk w1 g 75 #[.int .i64 p, .slice AR nR cR, .slice AC nC cC] := by rw [hw1, hg]; exact Blk.new _ _ _
  have HB : Hid (Below w.heap.size w w1) := Lib.hid (by rw [hw1]; exact Below.alloc_self _ _)
  have HW := Lib.hid hw1
  have HG := Lib.hid hg
  have q1 : w1.cell? ⟨g, 1, none⟩ = some (.slice AR nR cR) := hk.cell 1
  clear hw1 hg hk
  go_enter Try.func134, Try.ntmps134
  go_upto_region 1 with fail
  rw [← HW.out, ← HG.out]
  go_wp2
  go_ret
  exact ⟨rfl, HB.out⟩
end Go.Proofs.Ytbkhibojbakckaa

/-
  The rank of a corner, on the program's side. Conditions: lengths below 2^40.
-/

namespace Go.Proofs.Ytbkhibojbakckaa
open Go.RowKit

/-- The first rows of a corner. -/
def rowC (d : List Int) (C c i : Nat) : List Int := (List.range c).map fun j => nth d (i * C + j)
def rowsC (d : List Int) (C r c : Nat) : List (List Int) := (List.range r).map (rowC d C c)
theorem rowC_len (d : List Int) (C c i : Nat) : (rowC d C c i).length = c := by simp [rowC]
theorem rowC_nth {d : List Int} {C c i j : Nat} (h : j < c) : nth (rowC d C c i) j = nth d (i * C + j) := nth_rangeMap _ h
theorem rowC_rg {p : Int} (hp : 0 < p) {d : List Int} (h : Rg p d) (C c i : Nat) : Rg p (rowC d C c i) := fun j => by
  by_cases hj : j < c
  · rw [rowC_nth hj]; exact h _
  · rw [nth_past (by rw [rowC_len]; omega)]; exact ⟨Int.le_refl _, hp⟩
theorem rowsC_len (d : List Int) (C r c : Nat) : (rowsC d C r c).length = r := by simp [rowsC]
theorem rowsC_li {d : List Int} {C r c i : Nat} (h : i < r) : li (rowsC d C r c) i = rowC d C c i := by simp [li, rowsC, List.getD, h]
theorem rowsC_ok {p : Int} (hp : 0 < p) {d : List Int} (h : Rg p d) (C r c : Nat) : ∀ x, x ∈ rowsC d C r c → x.length = c ∧ Rg p x := fun x hx => by
  obtain ⟨i, _, rfl⟩ := List.mem_map.1 hx
  exact ⟨rowC_len .., rowC_rg hp h C c i⟩
theorem SI.mid {w : World} {b o n : Nat} {xs : List Int} (h : SI w (some ⟨b, o, none⟩) n xs) {C c i : Nat} (hc : i * C + c ≤ n) : SI w (some ⟨b, o + i * C, none⟩) c (rowC xs C c i) := by
  refine ⟨rowC_len .., fun h0 => ?_⟩
  obtain ⟨b', o', e, hb, hcell⟩ := h.2 (by omega)
  injection e with e
  injection e with e1 e2
  subst e1 e2
  refine ⟨b, o + i * C, rfl, hb, fun k hk => ?_⟩
  rw [rowC_nth hk, Nat.add_assoc]
  exact hcell (i * C + k) (by omega)
theorem matP.rg {p r c : Int} {xs : List Int} (h : matP p r c xs) : Rg p xs := fun j => by
  by_cases hj : j < xs.length
  · exact h.2.2.2.2 j hj
  · rw [nth_past (by omega)]; exact ⟨Int.le_refl _, by have := h.1.two; omega⟩
theorem matP.nats {p r c : Int} {xs : List Int} (h : matP p r c xs) : ∃ R C : Nat, r = (R : Int) ∧ c = (C : Int) ∧ R ≤ 7 ∧ 1 ≤ C ∧ C ≤ 7 ∧ xs.length = R * C := by
  obtain ⟨h1, h2, h3, h4, h5⟩ := h
  refine ⟨r.toNat, c.toNat, by omega, by omega, by omega, by omega, by omega, ?_⟩
  have e1 : r = (r.toNat : Int) := by omega
  have e2 : c = (c.toNat : Int) := by omega
  rw [e1, e2, ← Int.natCast_mul] at h4
  omega
def crnP (p R C : Int) (xs : List Int) (r c : Int) : Prop := matP p R C xs ∧ (0 ≤ r ∧ r ≤ R) ∧ (0 ≤ c ∧ c ≤ C)
instance crnP.dec (p R C : Int) (xs : List Int) (r c : Int) : Decidable (crnP p R C xs r c) := by unfold crnP; exact inferInstance
def crnK (p R C : Int) (xs : List Int) (r c : Int) : Int := if crnP p R C xs r c then (rnkL p (rowsC xs C.toNat r.toNat c.toNat) : Int) else -1
theorem crnK_no {p R C : Int} {xs : List Int} {r c : Int} (h : ¬ crnP p R C xs r c) : crnK p R C xs r c = -1 := if_neg h
theorem crnK_yes {p R C : Int} {xs : List Int} {r c : Int} (h : crnP p R C xs r c) : crnK p R C xs r c = (rnkL p (rowsC xs C.toNat r.toNat c.toNat) : Int) := if_pos h
end Go.Proofs.Ytbkhibojbakckaa

/-
  An append of any slice, also an empty one, at a step of a region that draws its order. Conditions: lengths below 2^40.
-/


namespace Go.Proofs.Ytbkhibojbakckaa
open Go.RowKit

set_option maxRecDepth 100000 in
theorem wp_append_any (w : World) {o : Oper} {a : Act} {K : Act → World → Prop} {Q : Exit → Act → World → Prop} (s x : Operand)
    (ho : o.op = .call { callee := .builtin .append, args := #[s, x], argTypes := #[22, 22] })
    (lo : Nat) (A : Option Addr) (n c : Nat) (xs : List Int) (A2 : Option Addr) (m c2 : Nat) (ys : List Int) (hs : a.eval s = .slice A n c) (hx : a.eval x = .slice A2 m c2)
    (hown : Own w lo w.heap.size A n c xs) (hsi : SI w A2 m ys) (hlo : lo ≤ w.heap.size) (hn : n ≤ 1099511627776) (hm : m ≤ 1099511627776)
    (h : ∀ A' c' w', Own w' lo w'.heap.size A' (n + m) c' (xs ++ ys) → w.grownBy w' (Value.slice A n c).ownBlock → Below lo w w' → K (a.put o.dst (.slice A' (n + m) c')) w') :
    o.wp Try.prog a w K Q := by
  obtain ⟨i0, hi, hz0, hz1, hz2⟩ := info_parts Try.infoInt
  by_cases h0 : 0 < m
  · obtain ⟨b, off, rfl, hb, hc⟩ := hsi.2 h0
    refine wp_append_lies w s x 22 ho lo 3 i0 (.int .i64 0) 1 8 Try.underlying22 hi hz0 hz1 hz2 rfl (by decide) (.slice A n c) n _ hs hown.1 ⟨b, off, none⟩ m c2 (ys.map (Value.int .i64)) hx (by simp [hsi.1]) ?_ (ints_oneCell _ _) h0 (by unfold maxLen; omega) (by omega) hlo w.heap.size rfl ?_
    · intro j u hj
      have hjl : j < ys.length := by
        rcases Nat.lt_or_ge j ys.length with h | h
        · exact h
        · rw [List.getElem?_eq_none (by simpa using h)] at hj; cases hj
      rw [List.getElem?_map, nth_get? hjl] at hj
      rw [add_pt, hc j (by have := hsi.1; omega)]
      exact hj
    · intro g cap w1 ho1 hg1 _ _
      rw [← List.map_append] at ho1
      exact h _ _ w1 (Own.of ho1) hg1 (grow_below hg1 hlo (fun k hk => (hown.1.lt k hk).1))
  · have hm0 : m = 0 := by omega
    subst hm0
    have hy : ys = [] := List.eq_nil_of_length_eq_zero hsi.1
    subst hy
    have hk0 := h A c w (by simpa using hown) (World.grownBy.refl _ _) (Below.refl _ _)
    have hrun : (Builtin.append_ #[22, 22] o.type #[.slice A n c, .slice A2 0 c2]).run Try.prog w = .ok (.slice A n c) w := by
      have hg := hown.1
      have hl0 : ∀ v, (loadCells v 0).run Try.prog w = .ok #[] w := fun v => by simp [loadCells, loadCellsFrom]
      rcases hg.2 with ⟨e, h0⟩ | ⟨g, cap, cur, e, _, hgg, hnc, _⟩
      · injection e with e1 e2 e3
        subst e1; subst e3; subst h0
        cases A2 <;> simp [Builtin.append_, run_underlying Try.underlying22, sizeOf, typeInfo, hi, Builtin.lenOf, Builtin.firstCells, hl0]
      · injection e with e1 e2 e3
        subst e1; subst e3
        cases A2 <;> simp [Builtin.append_, run_underlying Try.underlying22, sizeOf, typeInfo, hi, Builtin.lenOf, Builtin.firstCells, hnc, storeCells, hl0]
    unfold Oper.wp execOp
    simp only [ho, resolve, invoke, builtin, Sem.run_bind, Sem.run_pure, Result.andThen_ok, List.map_toArray, List.map_cons, List.map_nil, hs, hx, hrun]
    exact hk0
theorem step_append_any (w : World) {ops : Array Oper} {o : Oper} {a : Act} {K : Act → World → Prop} {Q : Exit → Act → World → Prop} {E0 : Prop} (hw : Region.wanted o (yielded ops a.tmps) = true) (s x : Operand)
    (ho : o.op = .call { callee := .builtin .append, args := #[s, x], argTypes := #[22, 22] })
    (lo : Nat) (A : Option Addr) (n c : Nat) (xs : List Int) (A2 : Option Addr) (m c2 : Nat) (ys : List Int) (hs : a.eval s = .slice A n c) (hx : a.eval x = .slice A2 m c2)
    (hown : Own w lo w.heap.size A n c xs) (hsi : SI w A2 m ys) (hlo : lo ≤ w.heap.size) (hn : n ≤ 1099511627776) (hm : m ≤ 1099511627776)
    (h : ∀ A' c' w', Own w' lo w'.heap.size A' (n + m) c' (xs ++ ys) → w.grownBy w' (Value.slice A n c).ownBlock → Below lo w w' → K (a.put o.dst (.slice A' (n + m) c')) w') :
    if Region.wanted o (yielded ops a.tmps) = true then Oper.wp Try.prog o a w K Q else E0 := by
  rw [if_pos hw]
  exact wp_append_any w s x ho lo A n c xs A2 m c2 ys hs hx hown hsi hlo hn hm h
end Go.Proofs.Ytbkhibojbakckaa

/-
  Ranks on the document's side. Conditions: lengths below 2^40.
-/




namespace Go.Proofs.Ytbkhibojbakckaa
open Go.RowKit

theorem rowsC_whole (d : List Int) (C R : Nat) : rowsC d C R C = rowsL d C R := rfl
set_option maxRecDepth 100000 in
set_option maxHeartbeats 2000000 in
theorem l7Rank_any (p : Int) (R C : Nat) (A : Option Addr) (n k : Nat) (xs : List Int) (rows : List (List Int)) (w : World) (hp : P7 p) (hs : SI w A n xs) (hR : R ≤ 14) (hC : C ≤ 14) (hx : Rg p xs) (hl : xs.length = R * C)
    (hr : rows.length = R) (hro : ∀ x, x ∈ rows → x.length = C ∧ Rg p x) (h0 : ∀ i c, i < R → c < C → nth (li rows i) c = nth xs (i * C + c)) :
    Calls Try.prog 139 #[.agg #[.int .i64 p, .int .i64 R, .int .i64 C, .slice A n k]] w fun e w' => e = .returned (.int .i64 (rnkL p rows)) ∧ Below w.heap.size w w' := by
  obtain ⟨w1, hw1⟩ : ∃ w1, w1 = w.alloc (.cells #[.int .i64 p, .int .i64 R, .int .i64 C, .slice A n k] 27) := ⟨_, rfl⟩
  obtain ⟨g, hg⟩ : ∃ g, g = w.heap.size := ⟨_, rfl⟩
  have hk : Blk w1 g 27 #[.int .i64 p, .int .i64 R, .int .i64 C, .slice A n k] := by rw [hw1, hg]; exact Blk.new _ _ _
  have hb : Below w.heap.size w w1 := by rw [hw1]; exact Below.alloc_self _ _
  have HB := Lib.hid hb
  have HW := Lib.hid hw1
  have HG := Lib.hid hg
  have HK := Lib.hid hk
  have HRED := Lib.hid (l7Reduce_any p R C A n k xs (fun i c => nth xs (i * C + c)) w1 hp (hs.below hb (Nat.le_refl _)) hR hC hx ⟨hl, fun i c _ _ => rfl⟩)
  have HRK := Lib.hid (fun (M : Nat → Nat → Int) (ps : List Int) (j : Nat) (h : RedI p C R (fun i c => nth xs (i * C + c)) M ps j) (hj : j ≤ C) (he : j = C ∨ ps.length = R) => rank_same hp hro hr h0 h hj he)
  clear hw1 hg hk hb hs hp hx hl hr hro h0
  go_enter Try.func139, Try.ntmps139
  go_upto_region 1 with fail
  rw [← HW.out, ← HG.out]
  go_wp2_with (first
    | (refine wpList_load_rowP rfl 27 (.tmp 1) rfl g rfl 27 #[.int .i64 p, .int .i64 R, .int .i64 C, .slice A n k] _ HK.out Try.underlying27 rfl Try.infoMx ?_)
    | (go_at_call 70
       with_reducible refine HRED.out.mono ?_
       rintro e w2 ⟨A2, k2, Ap, np, cp, rfl, hres⟩
       have HRES := Lib.hid hres
       clear hres)
    | (refine wpList_store_rowP rfl 27 (.tmp 3) (.tmp 8) rfl w2.heap.size #[.int .i64 p, .int .i64 R, .int .i64 C, .slice A2 n k2] rfl rfl 27 #[.int .i64 0, .int .i64 0, .int .i64 0, .slice none 0 0] (Blk.new _ _ _) Try.infoMx rfl (by simp [Value.oneCell']) ?_; intro w5 hb5 hg5; have HG5 := Lib.hid hg5; clear hb5 hg5)
    | fail)
  go_ret
  obtain ⟨d, M, ps, j, _, hop, _, hri, hj, he, hbel⟩ := HRES.out
  have h1 := HRK.out M ps j hri hj he
  have h2 := hop.len
  refine ⟨ret_int (by show ((np : Nat) : Int) = _; omega), ?_⟩
  have h3 := HB.out.trans (hbel.mono HB.out.size)
  have h4 := (h3.alloc (h3.size) (.cells #[.int .i64 0, .int .i64 0, .int .i64 0, .slice none 0 0] 27))
  exact h4.grown HG5.out (by have := h4.size; simpa using this) (by rintro q ⟨⟩; exact h3.size)
theorem Own.ne_blk {w : World} {lo hi n c g : Nat} {A : Option Addr} {xs : List Int} {t : TypeId} {cs : Array Value} (h : Own w lo hi A n c xs) (hb : Blk w g t cs) (ht : t ≠ 3) : (Value.slice A n c).ownBlock ≠ some g := fun e => by
  rcases h.1.2 with ⟨e1, _⟩ | ⟨g', cap, cur, e1, _, hg, _⟩
  · rw [e1] at e; simp [Value.ownBlock] at e
  · rw [e1] at e
    have e2 : g' = g := by simpa [Value.ownBlock] using e
    subst e2
    unfold Blk at hb
    rw [hb] at hg
    injection hg with hg
    injection hg with h1 h2 h3
    exact ht h2
/-- The numbers of the first rows of a corner, one row behind another. -/
def catC (xs : List Int) (C c : Nat) : Nat → List Int
  | 0 => []
  | i + 1 => catC xs C c i ++ rowC xs C c i
theorem catC_len (xs : List Int) (C c : Nat) : ∀ i, (catC xs C c i).length = i * c
  | 0 => by simp [catC]
  | i + 1 => by rw [catC, List.length_append, catC_len xs C c i, rowC_len, Nat.add_mul, Nat.one_mul]
theorem catC_nth (xs : List Int) (C c : Nat) : ∀ i j q, j < i → q < c → nth (catC xs C c i) (j * c + q) = nth xs (j * C + q)
  | i + 1, j, q, hj, hq => by
    unfold catC
    by_cases h : j < i
    · rw [← catC_nth xs C c i j q h hq, nth, nth, List.getD_eq_getElem?_getD, List.getD_eq_getElem?_getD, List.getElem?_append_left (by rw [catC_len]; exact idx_lt h hq)]
    · have e : j = i := by omega
      subst e
      rw [← rowC_nth (d := xs) (C := C) (i := j) hq, nth, nth, List.getD_eq_getElem?_getD, List.getD_eq_getElem?_getD, List.getElem?_append_right (by rw [catC_len]; omega), catC_len, show j * c + q - j * c = q by omega]
theorem catC_rg {p : Int} (hp : 0 < p) {xs : List Int} (h : Rg p xs) (C c i : Nat) : Rg p (catC xs C c i) := by
  induction i with
  | zero => intro j; rw [nth_past (by simp [catC])]; exact ⟨Int.le_refl _, hp⟩
  | succ i ih =>
    intro j
    unfold catC
    by_cases hj : j < (catC xs C c i).length
    · rw [nth, List.getD_eq_getElem?_getD, List.getElem?_append_left hj, ← List.getD_eq_getElem?_getD]; exact ih j
    · rw [nth, List.getD_eq_getElem?_getD, List.getElem?_append_right (by omega), ← List.getD_eq_getElem?_getD]; exact rowC_rg hp h C c i _
set_option maxRecDepth 100000 in
set_option maxHeartbeats 4000000 in
theorem l7Corner_any (p : Int) (R C r c : Nat) (A : Option Addr) (n k : Nat) (xs : List Int) (w : World) (hp : P7 p) (hs : SI w A n xs) (hR : R ≤ 14) (hC : 1 ≤ C ∧ C ≤ 14) (hr : r ≤ R) (hc : c ≤ C) (hx : Rg p xs) (hl : xs.length = R * C) (hnk : n ≤ k) :
    Calls Try.prog 64 #[.agg #[.int .i64 p, .int .i64 R, .int .i64 C, .slice A n k], .int .i64 r, .int .i64 c] w fun e w' => e = .returned (.int .i64 (rnkL p (rowsC xs C r c))) ∧ Below w.heap.size w w' := by
  obtain ⟨w1, hw1⟩ : ∃ w1, w1 = w.alloc (.cells #[.int .i64 p, .int .i64 R, .int .i64 C, .slice A n k] 27) := ⟨_, rfl⟩
  obtain ⟨g, hg⟩ : ∃ g, g = w.heap.size := ⟨_, rfl⟩
  have hk : Blk w1 g 27 #[.int .i64 p, .int .i64 R, .int .i64 C, .slice A n k] := by rw [hw1, hg]; exact Blk.new _ _ _
  have hb : Below w.heap.size w w1 := by rw [hw1]; exact Below.alloc_self _ _
  have HB := Lib.hid hb
  have HW := Lib.hid hw1
  have HG := Lib.hid hg
  have HK := Lib.hid hk
  have HP := Lib.hid hp
  have HX := Lib.hid hx
  have HS := Lib.hid (hs.below hb (Nat.le_refl _))
  have HSZ : Hid (w1.heap.size = g + 1) := Lib.hid (by rw [hw1, hg]; simp)
  have HNL : Hid (n = R * C) := Lib.hid (by have := hs.1; omega)
  have hn196 : n ≤ 196 := by have := hs.1; have := nat_mul_small hR hC.2; omega
  obtain ⟨q0, q1, q2, q3⟩ := cells4 hk
  clear hw1 hg hk hb hs hp hx hl
  go_enter Try.func64, Try.ntmps64
  go_upto_region 1 with fail
  rw [← HW.out, ← HG.out]
  go_upto_region 2 with (first
    | (refine wpList_store_rowP rfl 27 (.tmp 7) (.tmp 14) rfl (w1.heap.size + 1) #[.int .i64 p, .int .i64 r, .int .i64 c, .slice (some ⟨w1.heap.size, 0, none⟩) 0 0] rfl rfl 27 #[.int .i64 0, .int .i64 0, .int .i64 0, .slice none 0 0] (by have := Blk.new (w1.alloc (.cells #[] 3)) 27 #[.int .i64 0, .int .i64 0, .int .i64 0, .slice none 0 0]; simpa using this) Try.infoMx rfl (by simp [Value.oneCell']) ?_; intro w5 hb5 hg5; have HK5 := Lib.hid hb5; have HG5 := Lib.hid hg5; clear hb5 hg5)
    | fail)
  obtain ⟨s0, hs0⟩ : ∃ s0, s0 = w1.heap.size := ⟨_, rfl⟩
  have HO5 : Hid (Own w5 s0 w5.heap.size (some ⟨s0, 0, none⟩) 0 0 [] ∧ Below s0 w1 w5) := Lib.hid (by
    have h1 := Own.empty w1
    rw [← hs0] at h1 HG5
    have h2 : Own ((w1.alloc (.cells #[] 3)).alloc (.cells #[.int .i64 0, .int .i64 0, .int .i64 0, .slice none 0 0] 27)) s0 (s0 + 1) (some ⟨s0, 0, none⟩) 0 0 [] := h1.below ((Below.refl (s0 + 1) _).alloc (by simp; omega) _) (Nat.le_refl _)
    have h3 := HG5.out.size
    have h4 : Below s0 w1 ((w1.alloc (.cells #[] 3)).alloc (.cells #[.int .i64 0, .int .i64 0, .int .i64 0, .slice none 0 0] 27)) := ((Below.refl s0 w1).alloc (Nat.le_of_eq hs0) _).alloc (by simp; omega) _
    simp only [World.size_alloc] at h3
    exact ⟨(h2.grown HG5.out (fun q hq => by injection hq with hq; omega)).wide (Nat.le_refl _) (by omega), h4.grown HG5.out (by simp; omega) (by rintro q ⟨⟩; omega)⟩)
  rw [← hs0] at HK5 ⊢
  have HS0 := Lib.hid hs0
  have HK6 : Hid (Blk w5 (s0 + 1) 27 #[.int .i64 p, .int .i64 r, .int .i64 c, .slice (some ⟨s0, 0, none⟩) 0 0]) := HK5
  clear hs0 q0 q1 q2 q3 HG5 HK5
  go_wp2_with fail
  go_loopw [8] (fun iv wr => ∃ (i : Nat) (Ad : Option Addr) (nd cd : Nat), i ≤ r ∧ iv = .int .i64 i ∧ Blk wr (s0 + 1) 27 #[.int .i64 p, .int .i64 r, .int .i64 c, .slice Ad nd cd] ∧ Own wr s0 wr.heap.size Ad nd cd (catC xs C c i) ∧ Below s0 w1 wr)
    (fun iv _ => r - (intOf iv).toNat)
  case atStart => exact ⟨0, _, 0, 0, Nat.zero_le _, rfl, HK6.out, HO5.out.1, HO5.out.2⟩
  case round =>
    obtain ⟨i, Ad, nd, cd, hi, rfl, hkc, hod, hbr⟩ := hrel
    clear HK6 HO5
    have HKC := Lib.hid hkc
    have HOD := Lib.hid hod
    have HBR := Lib.hid hbr
    have HKG := Lib.hid (HK.out.below hbr (by have := HSZ.out; have := HS0.out; omega))
    have hndl : nd = i * c := by have := hod.len; rw [catC_len] at this; exact this.symm
    have HND := Lib.hid hndl
    have HSR := Lib.hid (HS.out.below hbr (Nat.le_of_eq HS0.out.symm))
    obtain ⟨q0, q1, q2, q3⟩ := cells4 HKG.out
    obtain ⟨k0, k1, k2, k3⟩ := cells4 hkc
    clear hkc hod hbr hndl
    by_cases hlt : i < r
    case neg =>
      obtain rfl : i = r := by omega
      have HRK := Lib.hid (l7Rank_any p i c Ad nd cd (catC xs C c i) (rowsC xs C i c) wr HP.out HOD.out.si (by omega) (by omega) (catC_rg (by have := HP.out.two; omega) HX.out C c i) (catC_len ..) (rowsC_len ..) (rowsC_ok (by have := HP.out.two; omega) HX.out C i c) (fun x y hx hy => by rw [rowsC_li hx, rowC_nth hy, catC_nth xs C c i x y hx hy]))
      go_wp2_with (first
        | (refine wpList_load_rowP rfl 27 (.tmp 7) rfl (s0 + 1) rfl 27 #[.int .i64 p, .int .i64 i, .int .i64 c, .slice Ad nd cd] _ HKC.out Try.underlying27 rfl Try.infoMx ?_)
        | (go_at_call 139
           with_reducible refine HRK.out.mono ?_
           rintro e w6 ⟨rfl, hb6⟩
           have HB6 := Lib.hid hb6
           clear hb6)
        | fail)
      go_ret
      have h1 := HB.out.size
      have h2 := HBR.out.size
      have h3 := HS0.out
      exact ⟨rfl, (HB.out.trans (HBR.out.mono (by omega))).trans (HB6.out.mono (by omega))⟩
    case pos =>
      have hlI : (i : Int) < (r : Int) := by omega
      obtain ⟨b, o, rfl, _, _⟩ := HSR.out.2 (by rw [HNL.out]; have := idx_lt (R := R) (i := i) (C := C) (c := 0) (by omega) (by omega); omega)
      obtain ⟨N, M, ha1, ha2, hm⟩ := idx_wraps (i := i) (C := C) (q := c) (by omega) hC.2 (by omega)
      have hN : N = i * C := by
        have h5 := nat_mul_small (r := i) (c := C) (by omega) hC.2
        have h6 := wrap_mul_nat (r := i) (c := C) rfl (by omega)
        rw [ha1] at h6; omega
      have hMN : M - N = c := by omega
      have hMn : i * C + c ≤ n := by
        rw [HNL.out]
        have h5 : (i + 1) * C ≤ R * C := Nat.mul_le_mul (by omega) (Nat.le_refl _)
        rw [Nat.add_mul, Nat.one_mul] at h5
        omega
      have hMk : M ≤ k := by omega
      have hNltk : N < k := by
        have h5 : (i + 1) * C ≤ R * C := Nat.mul_le_mul (by omega) (Nat.le_refl _)
        rw [Nat.add_mul, Nat.one_mul, ← HNL.out] at h5
        omega
      have hsm := HSR.out.mid (C := C) (c := c) (i := i) hMn
      rw [← hN] at hsm
      have HSM : Hid (SI wr (some ⟨b, o + N, none⟩) (M - N) (rowC xs C c i)) := Lib.hid (by rw [hMN]; exact hsm)
      have HMN := Lib.hid hMN
      have hkN : ¬ k = N := by omega
      have hNM : (N : Int) ≤ (M : Int) := by omega
      have hMkI : (M : Int) ≤ (k : Int) := by omega
      have hnd : nd ≤ 196 := by rw [HND.out]; exact nat_mul_small (by omega) (by omega)
      have HCAT : Hid (catC xs C c (i + 1) = catC xs C c i ++ rowC xs C c i) := Lib.hid rfl
      have HNE := Lib.hid (HOD.out.ne_blk HKC.out (by decide))
      have HODD : Hid (Own wr.drew s0 wr.drew.heap.size Ad nd cd (catC xs C c i)) := HOD
      have HSMD : Hid (SI wr.drew (some ⟨b, o + N, none⟩) (M - N) (rowC xs C c i)) := HSM
      have HLO : Hid (s0 ≤ wr.drew.heap.size) := Lib.hid (by have := HBR.out.size; have := HS0.out; exact Nat.le_trans (Nat.le_of_eq this) HBR.out.size)
      have hM196 : M ≤ 392 := by have := nat_mul_small (r := i) (c := C) (by omega) hC.2; omega
      clear hm hN hMN hMn hsm k0 k1 k2 hMk hNltk HSM
      go_wp2_with fail
      go_region_law (refine step_append_any _ (by first | rfl | kernel_rfl | simp [Region.wanted, yielded]) (.tmp 21) (.tmp 34) (by rfl) s0 Ad nd cd (catC xs C c i) (some ⟨b, o + N, none⟩) (M - N) (k - N) (rowC xs C c i) (by first | rfl | simp [Act.eval, Act.put]) (by first | rfl | simp [Act.eval, Act.put]) HODD.out HSMD.out HLO.out (by omega) (by omega) ?_
                     intro A' c' w6 ho6 hg6 hb6
                     have HO6 := Lib.hid ho6
                     have HG6 := Lib.hid hg6
                     have HB6 := Lib.hid hb6
                     have HK6 : Hid (Blk w6 (s0 + 1) 27 #[.int .i64 p, .int .i64 r, .int .i64 c, .slice Ad nd cd]) := Lib.hid (Blk.grown (w := wr.drew) HKC.out hg6 (fun e => HNE.out e.symm))
                     have c6 : w6.cell? ⟨s0 + 1, 3, none⟩ = some (.slice Ad nd cd) := HK6.out.cell 3
                     have f6 := HK6.out.frozen 3
                     clear ho6 hg6 hb6)
      all_goals
        (go_wp2
         go_roundw
         case rel => exact ⟨i + 1, A', nd + (M - N), c', by omega, by go_num, HK6.out.set_ 3 _, by
             have hgs := grown_setP w6 ⟨s0 + 1, 3, none⟩ (.slice A' (nd + (M - N)) c')
             have h5 := (HO6.out.kept hgs (fun q hq e => HO6.out.ne_blk HK6.out (by decide) (by rw [hq, e]))).wide (Nat.le_refl _) hgs.size
             rw [HCAT.out]; exact h5, by
             have hgs := grown_setP w6 ⟨s0 + 1, 3, none⟩ (.slice A' (nd + (M - N)) c')
             have h6 : Below s0 w1 wr.drew := HBR.out.drew
             have h7 := h6.trans HB6.out
             exact h7.grown hgs (by have := h7.size; have := HS0.out; omega) (by rintro q ⟨⟩; show s0 ≤ s0 + 1; omega)⟩
         case measure => simp [intOf]; omega)
end Go.Proofs.Ytbkhibojbakckaa

/-
  The rank of a corner, on the document's side: the function. Conditions: lengths below 2^40.
-/

namespace Go.Proofs.Ytbkhibojbakckaa
open Go.RowKit

end Go.Proofs.Ytbkhibojbakckaa

/-
  The rank of a corner, on the program's side: the function. Conditions: lengths below 2^40.
-/

namespace Go.Proofs.Ytbkhibojbakckaa
open Go.RowKit

set_option maxRecDepth 100000 in
set_option maxHeartbeats 4000000 in
theorem implCorner_any (p R C : Int) (A : Option Addr) (n k : Nat) (xs : List Int) (r c : Int) (w : World) (hs : SI w A n xs) (hn : n ≤ 1099511627776) (hnk : n ≤ k) :
    Calls Try.prog 58 #[.agg #[.int .i64 p, .int .i64 R, .int .i64 C, .slice A n k], .int .i64 r, .int .i64 c] w fun e w' => e = .returned (.int .i64 (crnK p R C xs r c)) ∧ Below w.heap.size w w' := by
  obtain ⟨w1, hw1⟩ : ∃ w1, w1 = w.alloc (.cells #[.int .i64 p, .int .i64 R, .int .i64 C, .slice A n k] 27) := ⟨_, rfl⟩
  obtain ⟨g, hg⟩ : ∃ g, g = w.heap.size := ⟨_, rfl⟩
  have hk : Blk w1 g 27 #[.int .i64 p, .int .i64 R, .int .i64 C, .slice A n k] := by rw [hw1, hg]; exact Blk.new _ _ _
  have hb : Below w.heap.size w w1 := by rw [hw1]; exact Below.alloc_self _ _
  have HB := Lib.hid hb
  have HW := Lib.hid hw1
  have HG := Lib.hid hg
  have HK := Lib.hid hk
  have HGL : Hid (g < w1.heap.size ∧ w.heap.size ≤ w1.heap.size) := Lib.hid ⟨hk.lt, hb.size⟩
  have HL := Lib.hid hs.1
  have HS := Lib.hid (hs.below hb (Nat.le_refl _))
  have HMO := Lib.hid (implMatrixOk_any p R C A n k xs w1 (hs.below hb (Nat.le_refl _)) hn)
  clear hw1 hg hk hb hs
  cases hm : matB p R C xs with
  | false =>
    rw [hm] at HMO
    have HM := Lib.hid hm
    clear hm
    have HF := Lib.hid (crnK_no (p := p) (R := R) (C := C) (xs := xs) (r := r) (c := c) (fun h => by have := matB_true h.1; rw [HM.out] at this; cases this))
    rw [HF.out]
    go_enter Try.func58, Try.ntmps58
    go_upto_region 1 with fail
    rw [← HW.out, ← HG.out]
    go_wp2_with (first
      | (refine wpList_load_rowP rfl 27 (.tmp 3) rfl g rfl 27 #[.int .i64 p, .int .i64 R, .int .i64 C, .slice A n k] _ HK.out Try.underlying27 rfl Try.infoMx ?_)
      | (go_at_call 133
         with_reducible refine HMO.out.mono ?_
         rintro e w2 ⟨rfl, hb2⟩
         have HB2 := Lib.hid hb2
         have HK2 := Lib.hid (HK.out.below hb2 HGL.out.1)
         obtain ⟨q0, q1, q2, q3⟩ := cells4 HK2.out
         clear hb2)
      | fail)
    go_ret
    exact ⟨rfl, HB.out.trans (HB2.out.mono HGL.out.2)⟩
  | true =>
    rw [hm] at HMO
    have HM := Lib.hid (matB_P hm)
    clear hm
    obtain ⟨R, C, rfl, rfl, hR7, hC1, hC7, hxl⟩ := HM.out.nats
    have HXL := Lib.hid hxl
    clear hxl
    by_cases h0 : r < 0
    case pos =>
      have HF := Lib.hid (crnK_no (p := p) (R := (R : Int)) (C := (C : Int)) (xs := xs) (r := r) (c := c) (fun h => by have := h.2.1; omega))
      rw [HF.out]
      go_enter Try.func58, Try.ntmps58
      go_upto_region 1 with fail
      rw [← HW.out, ← HG.out]
      go_wp2_with (first
        | (refine wpList_load_rowP rfl 27 (.tmp 3) rfl g rfl 27 #[.int .i64 p, .int .i64 R, .int .i64 C, .slice A n k] _ HK.out Try.underlying27 rfl Try.infoMx ?_)
        | (go_at_call 133
           with_reducible refine HMO.out.mono ?_
           rintro e w2 ⟨rfl, hb2⟩
           have HB2 := Lib.hid hb2
           have HK2 := Lib.hid (HK.out.below hb2 HGL.out.1)
           obtain ⟨q0, q1, q2, q3⟩ := cells4 HK2.out
           clear hb2)
        | fail)
      go_ret
      exact ⟨rfl, HB.out.trans (HB2.out.mono HGL.out.2)⟩
    case neg =>
      by_cases h1 : r > (R : Int)
      case pos =>
        have HF := Lib.hid (crnK_no (p := p) (R := (R : Int)) (C := (C : Int)) (xs := xs) (r := r) (c := c) (fun h => by have := h.2.1; omega))
        rw [HF.out]
        go_enter Try.func58, Try.ntmps58
        go_upto_region 1 with fail
        rw [← HW.out, ← HG.out]
        go_wp2_with (first
          | (refine wpList_load_rowP rfl 27 (.tmp 3) rfl g rfl 27 #[.int .i64 p, .int .i64 R, .int .i64 C, .slice A n k] _ HK.out Try.underlying27 rfl Try.infoMx ?_)
          | (go_at_call 133
             with_reducible refine HMO.out.mono ?_
             rintro e w2 ⟨rfl, hb2⟩
             have HB2 := Lib.hid hb2
             have HK2 := Lib.hid (HK.out.below hb2 HGL.out.1)
             obtain ⟨q0, q1, q2, q3⟩ := cells4 HK2.out
             clear hb2)
          | fail)
        go_ret
        exact ⟨rfl, HB.out.trans (HB2.out.mono HGL.out.2)⟩
      case neg =>
        by_cases h2 : c < 0
        case pos =>
          have HF := Lib.hid (crnK_no (p := p) (R := (R : Int)) (C := (C : Int)) (xs := xs) (r := r) (c := c) (fun h => by have := h.2.2; omega))
          rw [HF.out]
          go_enter Try.func58, Try.ntmps58
          go_upto_region 1 with fail
          rw [← HW.out, ← HG.out]
          go_wp2_with (first
            | (refine wpList_load_rowP rfl 27 (.tmp 3) rfl g rfl 27 #[.int .i64 p, .int .i64 R, .int .i64 C, .slice A n k] _ HK.out Try.underlying27 rfl Try.infoMx ?_)
            | (go_at_call 133
               with_reducible refine HMO.out.mono ?_
               rintro e w2 ⟨rfl, hb2⟩
               have HB2 := Lib.hid hb2
               have HK2 := Lib.hid (HK.out.below hb2 HGL.out.1)
               obtain ⟨q0, q1, q2, q3⟩ := cells4 HK2.out
               clear hb2)
            | fail)
          go_ret
          exact ⟨rfl, HB.out.trans (HB2.out.mono HGL.out.2)⟩
        case neg =>
          by_cases h3 : c > (C : Int)
          case pos =>
            have HF := Lib.hid (crnK_no (p := p) (R := (R : Int)) (C := (C : Int)) (xs := xs) (r := r) (c := c) (fun h => by have := h.2.2; omega))
            rw [HF.out]
            go_enter Try.func58, Try.ntmps58
            go_upto_region 1 with fail
            rw [← HW.out, ← HG.out]
            go_wp2_with (first
              | (refine wpList_load_rowP rfl 27 (.tmp 3) rfl g rfl 27 #[.int .i64 p, .int .i64 R, .int .i64 C, .slice A n k] _ HK.out Try.underlying27 rfl Try.infoMx ?_)
              | (go_at_call 133
                 with_reducible refine HMO.out.mono ?_
                 rintro e w2 ⟨rfl, hb2⟩
                 have HB2 := Lib.hid hb2
                 have HK2 := Lib.hid (HK.out.below hb2 HGL.out.1)
                 obtain ⟨q0, q1, q2, q3⟩ := cells4 HK2.out
                 clear hb2)
              | fail)
            go_ret
            exact ⟨rfl, HB.out.trans (HB2.out.mono HGL.out.2)⟩
          case neg =>
            obtain ⟨r, rfl⟩ : ∃ q : Nat, r = (q : Int) := ⟨r.toNat, by omega⟩
            obtain ⟨c, rfl⟩ : ∃ q : Nat, c = (q : Int) := ⟨c.toNat, by omega⟩
            have HV := Lib.hid (crnK_yes (p := p) (R := (R : Int)) (C := (C : Int)) (xs := xs) (r := (r : Int)) (c := (c : Int)) ⟨HM.out, by omega, by omega⟩)
            rw [HV.out]
            simp only [Int.toNat_natCast]
            have hrR : r ≤ R := by omega
            have hcC : c ≤ C := by omega
            have hnRC : n = R * C := by rw [← HL.out]; exact HXL.out
            have hrn : r * C ≤ n := by rw [hnRC]; exact Nat.mul_le_mul hrR (Nat.le_refl _)
            obtain ⟨b, o, hA⟩ : ∃ b o, 0 < r → A = some ⟨b, o, none⟩ := by
              by_cases hr0 : 0 < r
              · obtain ⟨b, o, e, _⟩ := HS.out.2 (by
                  have h5 : 1 * 1 ≤ r * C := Nat.mul_le_mul hr0 hC1
                  omega)
                exact ⟨b, o, fun _ => e⟩
              · exact ⟨0, 0, fun h => absurd h hr0⟩
            have HA := Lib.hid hA
            have HRN := Lib.hid hrn
            have HFR := Lib.hid (fun w' => firstRows_any p (R : Int) A b o n k C r w' hA ⟨hC1, by omega⟩ (by omega) hrn hnk hn)
            clear hnRC hrn hA
            have h0 : ¬ (r : Int) < 0 := by omega
            have h2 : ¬ (c : Int) < 0 := by omega
            go_enter Try.func58, Try.ntmps58
            go_upto_region 1 with fail
            rw [← HW.out, ← HG.out]
            go_upto_region 3 with (first
              | (refine wpList_load_rowP rfl 27 (.tmp 3) rfl g rfl 27 #[.int .i64 p, .int .i64 R, .int .i64 C, .slice A n k] _ HK.out Try.underlying27 rfl Try.infoMx ?_)
              | (go_at_call 133
                 with_reducible refine HMO.out.mono ?_
                 rintro e w2 ⟨rfl, hb2⟩
                 have HB2 := Lib.hid hb2
                 have HK2 := Lib.hid (HK.out.below hb2 HGL.out.1)
                 obtain ⟨q0, q1, q2, q3⟩ := cells4 HK2.out
                 clear hb2)
              | fail)
            go_upto_region 4 with (first
              | (refine wpList_load_rowP rfl 27 (.tmp 3) rfl g rfl 27 #[.int .i64 p, .int .i64 R, .int .i64 C, .slice A n k] _ HK2.out Try.underlying27 rfl Try.infoMx ?_)
              | (go_at_call 88
                 with_reducible refine (HFR.out _).mono ?_
                 rintro e w3 ⟨g3, rfl, ho3, hb3⟩
                 have HO3 := Lib.hid ho3
                 have HB3 : Hid (Below w1.heap.size w1 w3) := Lib.hid (HB2.out.trans (hb3.mono HB2.out.size))
                 have HG3 : Hid (w1.heap.size ≤ g3) := Lib.hid (Nat.le_trans HB2.out.size ho3.at_.1)
                 clear ho3 hb3)
              | fail)
            clear q0 q1 q2 q3
            go_wp2_with fail
            obtain ⟨wo, rfl⟩ : ∃ wo, wo = w2 := ⟨w2, rfl⟩
            go_loopw [37] (fun iv wr => ∃ i : Nat, i ≤ r ∧ iv = .int .i64 i ∧ OwnH wr wo.heap.size g3 r (fun j => if j < i then (some ⟨b, o + j * C, none⟩, c, k - j * C) else (some ⟨b, o + j * C, none⟩, C, k - j * C)) ∧ Below w1.heap.size w1 wr)
              (fun iv _ => r - (intOf iv).toNat)
            case atStart => exact ⟨0, Nat.zero_le _, rfl, HO3.out.congr fun j _ => by simp, HB3.out⟩
            case round =>
              obtain ⟨i, hi, rfl, ho, hbr⟩ := hrel
              clear HO3 HB3
              have HO := Lib.hid ho
              have HBR := Lib.hid hbr
              clear ho hbr
              by_cases hlt : i < r
              case pos =>
                have hlI : (i : Int) < (r : Int) := by omega
                have hcell := HO.out.cellAt hlt
                have hfz : wr.frozen? ⟨g3, i, none⟩ = false := World.ownsRow.frozenAt HO.out i
                have hst := HO.out.set_ hlt (some ⟨b, o + i * C, none⟩, c, k - i * C)
                have HST := Lib.hid hst
                have HL3 : Hid (w1.heap.size ≤ g3 ∧ g3 < wr.heap.size) := Lib.hid ⟨HG3.out, HO.out.at_.2⟩
                simp only [Nat.lt_irrefl, if_false, sv] at hcell
                obtain ⟨N, hN⟩ : ∃ N, N = k - i * C := ⟨_, rfl⟩
                have hcN : c ≤ N := by
                  have h5 : (i + 1) * C ≤ r * C := Nat.mul_le_mul (by omega) (Nat.le_refl _)
                  rw [Nat.add_mul, Nat.one_mul] at h5
                  have := HRN.out
                  omega
                rw [← hN] at hcell HST
                have HN := Lib.hid hN
                clear hst hN
                have hcNI : (c : Int) ≤ (N : Int) := by omega
                have hcc : (c : Int) - 0 = (c : Int) := by omega
                go_wp2
                go_roundw
                case rel => exact ⟨i + 1, by omega, by go_num, HST.out.1.congr fun j hj => by
                    by_cases e : j = i
                    · subst e; simp [HN.out]
                    · by_cases e2 : j < i
                      · simp [e, e2, Nat.lt_succ_of_lt e2]
                      · have e3 : ¬ j < i + 1 := by omega
                        simp [e, e2, e3], HBR.out.grown HST.out.2 HBR.out.size (by rintro q ⟨⟩; exact HL3.out.1)⟩
                case measure => simp [intOf]; omega
              case neg =>
                obtain rfl : i = r := by omega
                have hHr : OwnH wr wo.heap.size g3 i (fun j => (some ⟨b, o + j * C, none⟩, c, k - j * C)) := HO.out.congr fun j hj => by simp [hj]
                have hsr := HS.out.below HBR.out (Nat.le_refl _)
                have HLSr : Hid (LS wr (some ⟨g3, 0, none⟩) i (rowsC xs C i c)) := Lib.hid (hHr.ls (rowsC_len ..) fun j hj => by
                  have e := HA.out (by omega)
                  subst e
                  have h5 : (j + 1) * C ≤ i * C := Nat.mul_le_mul (by omega) (Nat.le_refl _)
                  rw [Nat.add_mul, Nat.one_mul] at h5
                  have h6 := HRN.out
                  refine ⟨by rw [rowsC_li hj]; exact hsr.mid (C := C) (c := c) (i := j) (by omega), by show c ≤ k - j * C; omega, fun h => by cases h⟩)
                have HKr := Lib.hid (HK.out.below HBR.out HGL.out.1)
                obtain ⟨q0, q1, q2, q3⟩ := cells4 HKr.out
                have HEC := Lib.hid (echelonOf_any p c (some ⟨g3, 0, none⟩) i i (rowsC xs C i c) wr HM.out.1 HLSr.out (by omega) (rowsC_ok (by have := HM.out.1.two; omega) HM.out.rg C i c) (by omega))
                clear hHr hsr
                go_wp2_with (first
                  | (go_at_call 72
                     with_reducible refine HEC.out.mono ?_
                     rintro e w4 ⟨AR, nR, cR, AC, nC, cC, rfl, hoR, hoC, hb4⟩
                     have HN4 : Hid (nR = rnkL p (rowsC xs C i c)) := Lib.hid (by have := hoR.si.1; simpa [rnkL] using this.symm)
                     have HB4 : Hid (Below w1.heap.size w1 w4) := Lib.hid (HBR.out.trans (hb4.mono HBR.out.size))
                     clear hoR hoC hb4)
                  | (go_at_call 134
                     with_reducible refine (ecRank_any p AR AC nR cR nC cC _).mono ?_
                     rintro e w5 ⟨rfl, hb5⟩
                     have HB5 : Hid (Below w1.heap.size w1 w5) := Lib.hid (HB4.out.trans (hb5.mono HB4.out.size))
                     clear hb5)
                  | fail)
                go_ret
                exact ⟨by rw [← HN4.out]; rfl, HB.out.trans (HB5.out.mono HGL.out.2)⟩
theorem implRankOf_any (p R C : Int) (A : Option Addr) (n k : Nat) (xs : List Int) (w : World) (hs : SI w A n xs) (hn : n ≤ 1099511627776) (hnk : n ≤ k) :
    Calls Try.prog 59 #[.agg #[.int .i64 p, .int .i64 R, .int .i64 C, .slice A n k]] w fun e w' => e = .returned (.int .i64 (crnK p R C xs R C)) ∧ Below w.heap.size w w' := by
  obtain ⟨w1, hw1⟩ : ∃ w1, w1 = w.alloc (.cells #[.int .i64 p, .int .i64 R, .int .i64 C, .slice A n k] 27) := ⟨_, rfl⟩
  obtain ⟨g, hg⟩ : ∃ g, g = w.heap.size := ⟨_, rfl⟩
  have hk : Blk w1 g 27 #[.int .i64 p, .int .i64 R, .int .i64 C, .slice A n k] := by rw [hw1, hg]; exact Blk.new _ _ _
  have hb : Below w.heap.size w w1 := by rw [hw1]; exact Below.alloc_self _ _
  have HB := Lib.hid hb
  have HW := Lib.hid hw1
  have HG := Lib.hid hg
  have HK := Lib.hid hk
  obtain ⟨q0, q1, q2, q3⟩ := cells4 hk
  have HC := Lib.hid (implCorner_any p R C A n k xs R C w1 (hs.below hb (Nat.le_refl _)) hn hnk)
  clear hw1 hg hk hb hs
  go_enter Try.func59, Try.ntmps59
  go_upto_region 1 with fail
  rw [← HW.out, ← HG.out]
  go_wp2_with (first
    | (refine wpList_load_rowP rfl 27 (.tmp 1) rfl g rfl 27 #[.int .i64 p, .int .i64 R, .int .i64 C, .slice A n k] _ HK.out Try.underlying27 rfl Try.infoMx ?_)
    | (go_at_call 58; with_reducible refine HC.out.mono ?_; rintro e w2 ⟨rfl, hb2⟩; have HB2 := Lib.hid hb2; clear hb2)
    | fail)
  go_ret
  exact ⟨rfl, HB.out.trans (HB2.out.mono HB.out.size)⟩
end Go.Proofs.Ytbkhibojbakckaa

/-
  Contracts of the program's EmbedPerm, TrimPerm, RankAt. Conditions: lengths below 2^40.
-/


namespace Go.Proofs.Ytbkhibojbakckaa
open Go.RowKit

theorem trimN_fill {xs : List Int} (h7 : xs.length ≤ 7) : ∀ k, k ≤ xs.length → trimN (fillA xs xs.length) k = trimN xs k := by
  intro k
  induction k with
  | zero => intro _; rfl
  | succ k ih => intro hk; unfold trimN; rw [ih (by omega), fillA_lt (by omega) (by omega)]

set_option maxHeartbeats 1000000 in
theorem rank_any (l : List Int) (r : Nat) (x : Int) (w : World) (hr : r ≤ 7) (_hl : l.length = 7) :
    Calls Try.prog 135 #[arr l, .int .i64 r, .int .i64 x] w fun e w' => e = .returned (.int .i64 (rankN l x r : Int)) ∧ Below w.heap.size w w' := by
  have hb := Blk.new w 104 (arrC l)
  have HBk := Lib.hid hb
  clear hb _hl
  have hsl := fun wx => sliceArr_to ⟨w.heap.size, 0, none⟩ r hr wx
  go_enter Try.func135, Try.ntmps135
  go_wp2
  go_loop [7, 13] (fun v i => ∃ k : Nat, k ≤ r ∧ i = .int .i64 k ∧ v = .int .i64 (rankN l x k : Int))
    (fun _ i => r - (intOf i).toNat)
  case atStart => exact ⟨0, Nat.zero_le _, rfl, rfl⟩
  case round =>
    obtain ⟨k, hk, rfl, rfl⟩ := hrel
    by_cases hlt : k < r
    · have hck : (w.alloc (.cells (arrC l) 104)).cell? ⟨w.heap.size, k, none⟩ = some (.int .i64 (nth l k)) := (HBk.out.cell _).trans (arrC_get l k (by omega))
      obtain ⟨y, hy⟩ : ∃ y, y = nth l k := ⟨_, rfl⟩
      rw [← hy] at hck
      have HY := Lib.hid hy
      have hq := rankN_le l x k
      obtain ⟨q, hqe⟩ : ∃ q, q = rankN l x k := ⟨_, rfl⟩
      rw [← hqe] at hq ⊢
      have HQ := Lib.hid hqe
      clear hy hqe
      by_cases hxy : y < x
      · go_wp2
        go_round
        case rel =>
          have e1 := HY.out
          have e2 := HQ.out
          exact ⟨k + 1, by omega, by go_num, by rw [rankN_hit (by omega), ← e2]; go_num⟩
        case measure => simp [intOf]; omega
      · go_wp2
        go_round
        case rel =>
          have e1 := HY.out
          have e2 := HQ.out
          exact ⟨k + 1, by omega, by go_num, by rw [rankN_miss (by omega), ← e2]⟩
        case measure => simp [intOf]; omega
    · have hkr : k = r := by omega
      subst hkr
      go_wp2
      go_ret
      exact ⟨rfl, Below.alloc_self _ _⟩

set_option maxHeartbeats 2000000 in
theorem implRank_any (A : Option Addr) (n c : Nat) (xs : List Int) (r x : Int) (w : World) (hs : SI w A n xs) (hn : n ≤ 1099511627776) :
    Calls Try.prog 142 #[.slice A n c, .int .i64 r, .int .i64 x] w fun e w' => e = .returned (.int .i64 (rankPerm xs r x)) ∧ Below w.heap.size w w' := by
  have hl := hs.1
  cases hu : isPermB xs with
  | false =>
    have HE := Lib.hid (rankPerm_no (xs := xs) (r := r) (c := x) (by rintro ⟨h, _⟩; rw [hu] at h; cases h))
    have HU := Lib.hid hu
    clear hu
    go_enter Try.func142, Try.ntmps142
    go_wp2_with fail
    refine (arrayOf_x c HU.out hs hn).mono ?_
    rintro e w1 ⟨l, rfl, -, hb1⟩
    go_wp2
    go_ret
    exact ⟨ret_int HE.out.symm, hb1.alloc hb1.size _⟩
  | true =>
    have HU := Lib.hid hu
    have HL := Lib.hid hl
    have h7 : n ≤ 7 := by have := (isPermB_P hu).2.1; omega
    clear hu hl
    by_cases hr0 : r < 0
    · have HE := Lib.hid (rankPerm_no (xs := xs) (r := r) (c := x) (by rintro ⟨_, h1, h2, _⟩; omega))
      go_enter Try.func142, Try.ntmps142
      go_wp2_with fail
      refine (arrayOf_x c HU.out hs hn).mono ?_
      rintro e w1 ⟨l, rfl, -, hb1⟩
      go_wp2
      go_ret
      exact ⟨ret_int HE.out.symm, hb1.alloc hb1.size _⟩
    · by_cases hr1 : (n : Int) < r
      · have HE := Lib.hid (rankPerm_no (xs := xs) (r := r) (c := x) (by have := HL.out; rintro ⟨_, h1, h2, _⟩; omega))
        go_enter Try.func142, Try.ntmps142
        go_wp2_with fail
        refine (arrayOf_x c HU.out hs hn).mono ?_
        rintro e w1 ⟨l, rfl, -, hb1⟩
        go_wp2
        go_ret
        exact ⟨ret_int HE.out.symm, hb1.alloc hb1.size _⟩
      · obtain ⟨m, rfl⟩ : ∃ m : Nat, r = (m : Int) := ⟨r.toNat, by omega⟩
        by_cases hx0 : x < 0
        · have HE := Lib.hid (rankPerm_no (xs := xs) (r := (m : Int)) (c := x) (by rintro ⟨_, _, _, h, _⟩; omega))
          go_enter Try.func142, Try.ntmps142
          go_wp2_with fail
          refine (arrayOf_x c HU.out hs hn).mono ?_
          rintro e w1 ⟨l, rfl, -, hb1⟩
          go_wp2
          go_ret
          exact ⟨ret_int HE.out.symm, hb1.alloc hb1.size _⟩
        · by_cases hx1 : (n : Int) < x
          · have HE := Lib.hid (rankPerm_no (xs := xs) (r := (m : Int)) (c := x) (by have := HL.out; rintro ⟨_, _, _, _, h⟩; omega))
            go_enter Try.func142, Try.ntmps142
            go_wp2_with fail
            refine (arrayOf_x c HU.out hs hn).mono ?_
            rintro e w1 ⟨l, rfl, -, hb1⟩
            go_wp2
            go_ret
            exact ⟨ret_int HE.out.symm, hb1.alloc hb1.size _⟩
          · have HE := Lib.hid (rankPerm_yes (r := m) (c := x) HU.out (by have := HL.out; omega) (by omega) (by have := HL.out; omega))
            go_enter Try.func142, Try.ntmps142
            go_wp2_with fail
            refine (arrayOf_x c HU.out hs hn).mono ?_
            rintro e w1 ⟨l, rfl, hlf, hb1⟩
            have HF := Lib.hid (hlf rfl)
            clear hlf
            have hK := Blk.new w1 104 (arrC l)
            go_wp2_with (refine wpList_load_blk rfl 104 (.tmp 7) rfl w1.heap.size rfl 104 (arrC l) 7 3 hK Try.undArr Try.infoArr ?_)
            have hb2 : Below w.heap.size w (w1.alloc (.cells (arrC l) 104)) := hb1.alloc hb1.size _
            generalize w1.alloc (.cells (arrC l) 104) = w2 at *
            refine (rank_any l m x w2 (by omega) (by rw [HF.out, fillA_len])).mono ?_
            rintro e w4 ⟨rfl, hb4⟩
            have HB4 := Lib.hid (hb2.trans (hb4.mono hb2.size))
            clear hb4 hb2 hK
            have e1 : rankN l x m = rankN xs x m := rankN_congr x m (fun t ht => by
              rw [HF.out]; exact fillA_lt (by omega) (by omega))
            rw [e1]
            clear e1
            go_wp2
            go_ret
            exact ⟨ret_int HE.out.symm, HB4.out⟩
end Go.Proofs.Ytbkhibojbakckaa

/-
  Whether a matrix has the size of a permutation and keeps its ranks, on both sides. Conditions: lengths below 2^40.
-/



namespace Go.Proofs.Ytbkhibojbakckaa
open Go.RowKit

def sqP (p R C : Int) (xs ys : List Int) : Prop := matP p R C xs ∧ isPermB ys = true ∧ R = ys.length ∧ C = ys.length
instance sqP.dec (p R C : Int) (xs ys : List Int) : Decidable (sqP p R C xs ys) := by unfold sqP; exact inferInstance
def sqB (p R C : Int) (xs ys : List Int) : Bool := decide (sqP p R C xs ys)
theorem sqB_no {p R C : Int} {xs ys : List Int} (h : ¬ sqP p R C xs ys) : sqB p R C xs ys = false := decide_eq_false h
theorem sqB_yes {p R C : Int} {xs ys : List Int} (h : sqP p R C xs ys) : sqB p R C xs ys = true := decide_eq_true h
theorem sqB_P {p R C : Int} {xs ys : List Int} (h : sqB p R C xs ys = true) : sqP p R C xs ys := of_decide_eq_true h
set_option maxRecDepth 100000 in
set_option maxHeartbeats 4000000 in
theorem specSquare_any (p R C : Int) (A B : Option Addr) (n k m d : Nat) (xs ys : List Int) (w : World) (hs : SI w A n xs) (hn : n ≤ 1099511627776) (hy : SI w B m ys) (hm : m ≤ 1099511627776) (hmd : m ≤ d) :
    Calls Try.prog 62 #[.agg #[.int .i64 p, .int .i64 R, .int .i64 C, .slice A n k], .slice B m d] w fun e w' => e = .returned (.bool (sqB p R C xs ys)) ∧ Below w.heap.size w w' := by
  obtain ⟨w1, hw1⟩ : ∃ w1, w1 = w.alloc (.cells #[.int .i64 p, .int .i64 R, .int .i64 C, .slice A n k] 27) := ⟨_, rfl⟩
  obtain ⟨g, hg⟩ : ∃ g, g = w.heap.size := ⟨_, rfl⟩
  have hk : Blk w1 g 27 #[.int .i64 p, .int .i64 R, .int .i64 C, .slice A n k] := by rw [hw1, hg]; exact Blk.new _ _ _
  have hb : Below w.heap.size w w1 := by rw [hw1]; exact Below.alloc_self _ _
  have HB := Lib.hid hb
  have HW := Lib.hid hw1
  have HG := Lib.hid hg
  have HK := Lib.hid hk
  have HGL : Hid (g < w1.heap.size ∧ w.heap.size ≤ w1.heap.size) := Lib.hid ⟨hk.lt, hb.size⟩
  have HYL := Lib.hid hy.1
  have HMO := Lib.hid (fun w' (hb' : Below w1.heap.size w1 w') => specMatrixOk_any p R C A n k xs w' ((hs.below hb (Nat.le_refl _)).below hb' (Nat.le_refl _)) hn)
  have HSY := Lib.hid (hy.below hb (Nat.le_refl _))
  obtain ⟨q0, q1, q2, q3⟩ := cells4 hk
  clear hw1 hg hk hb hs hy
  cases hu0 : matB p R C xs with
  | false =>
    rw [hu0] at HMO
    have HU0 := Lib.hid hu0
    have HF := Lib.hid (sqB_no (p := p) (R := R) (C := C) (xs := xs) (ys := ys) (fun h => by have := matB_true h.1; rw [HU0.out] at this; cases this))
    clear hu0
    go_enter Try.func62, Try.ntmps62
    go_upto_region 1 with fail
    rw [← HW.out, ← HG.out]
    go_wp2_with (first
      | (refine wpList_load_rowP rfl 27 (.tmp 2) rfl g rfl 27 #[.int .i64 p, .int .i64 R, .int .i64 C, .slice A n k] _ HK.out Try.underlying27 rfl Try.infoMx ?_)
      | (go_at_call 136
         with_reducible refine (HMO.out _ (Below.refl _ _)).mono ?_
         rintro e w2 ⟨rfl, hb2⟩
         have HB2 := Lib.hid hb2
         have HK2 := Lib.hid (HK.out.below hb2 HGL.out.1)
         obtain ⟨t0, t1, t2, t3⟩ := cells4 HK2.out
         clear hb2)
      | fail)
    go_ret
    exact ⟨ret_bool HF.out.symm, HB.out.trans (HB2.out.mono HGL.out.2)⟩
  | true =>
    rw [hu0] at HMO
    have HM := Lib.hid (matB_P hu0)
    clear hu0
    cases hu : isPermB ys with
    | false =>
      have HU := Lib.hid hu
      have HF := Lib.hid (sqB_no (p := p) (R := R) (C := C) (xs := xs) (ys := ys) (fun h => by have := h.2.1; rw [HU.out] at this; cases this))
      clear hu
      go_enter Try.func62, Try.ntmps62
      go_upto_region 1 with fail
      rw [← HW.out, ← HG.out]
      go_wp2_with (first
        | (refine wpList_load_rowP rfl 27 (.tmp 2) rfl g rfl 27 #[.int .i64 p, .int .i64 R, .int .i64 C, .slice A n k] _ HK.out Try.underlying27 rfl Try.infoMx ?_)
        | (go_at_call 136
           with_reducible refine (HMO.out _ (Below.refl _ _)).mono ?_
           rintro e w2 ⟨rfl, hb2⟩
           have HB2 := Lib.hid hb2
           have HK2 := Lib.hid (HK.out.below hb2 HGL.out.1)
           obtain ⟨t0, t1, t2, t3⟩ := cells4 HK2.out
           clear hb2)
        | (go_at_call 104
           with_reducible refine (specIsPerm_is d HU.out (HSY.out.below HB2.out (Nat.le_refl _)) hmd hm).mono ?_
           rintro e w3 ⟨rfl, hd3⟩
           have HB3 : Hid (Below w1.heap.size w1 w3) := Lib.hid (HB2.out.trans (hd3.below _))
           have HK3 := Lib.hid (HK.out.below HB3.out HGL.out.1)
           obtain ⟨v0, v1, v2, v3⟩ := cells4 HK3.out
           clear hd3)
        | fail)
      go_ret
      exact ⟨ret_bool HF.out.symm, HB.out.trans (HB3.out.mono HGL.out.2)⟩
    | true =>
      have HU := Lib.hid hu
      clear hu
      by_cases hR : R = (m : Int)
      case neg =>
        have hRb : (R == (m : Int)) = false := by simpa using hR
        have HF := Lib.hid (sqB_no (p := p) (R := R) (C := C) (xs := xs) (ys := ys) (fun h => hR (by rw [← HYL.out]; exact h.2.2.1)))
        clear hR
        go_enter Try.func62, Try.ntmps62
        go_upto_region 1 with fail
        rw [← HW.out, ← HG.out]
        go_wp2_with (first
          | (refine wpList_load_rowP rfl 27 (.tmp 2) rfl g rfl 27 #[.int .i64 p, .int .i64 R, .int .i64 C, .slice A n k] _ HK.out Try.underlying27 rfl Try.infoMx ?_)
          | (go_at_call 136
             with_reducible refine (HMO.out _ (Below.refl _ _)).mono ?_
             rintro e w2 ⟨rfl, hb2⟩
             have HB2 := Lib.hid hb2
             have HK2 := Lib.hid (HK.out.below hb2 HGL.out.1)
             obtain ⟨t0, t1, t2, t3⟩ := cells4 HK2.out
             clear hb2)
          | (go_at_call 104
             with_reducible refine (specIsPerm_is d HU.out (HSY.out.below HB2.out (Nat.le_refl _)) hmd hm).mono ?_
             rintro e w3 ⟨rfl, hd3⟩
             have HB3 : Hid (Below w1.heap.size w1 w3) := Lib.hid (HB2.out.trans (hd3.below _))
             have HK3 := Lib.hid (HK.out.below HB3.out HGL.out.1)
             obtain ⟨v0, v1, v2, v3⟩ := cells4 HK3.out
             clear hd3)
          | fail)
        go_ret
        exact ⟨ret_bool HF.out.symm, HB.out.trans (HB3.out.mono HGL.out.2)⟩
      case pos =>
        have hRb : (R == (m : Int)) = true := by simpa using hR
        obtain ⟨bb, hbb⟩ : ∃ bb, bb = (C == (m : Int)) := ⟨_, rfl⟩
        have hCb := hbb.symm
        have HF : Hid (bb = sqB p R C xs ys) := Lib.hid (by
          rw [hbb]
          by_cases hC : C = (m : Int)
          · rw [sqB_yes ⟨HM.out, HU.out, by rw [HYL.out]; exact hR, by rw [HYL.out]; exact hC⟩]; simpa using hC
          · rw [sqB_no (fun h => hC (by rw [← HYL.out]; exact h.2.2.2))]; simpa using hC)
        rw [← HF.out]
        clear hR hbb
        go_enter Try.func62, Try.ntmps62
        go_upto_region 1 with fail
        rw [← HW.out, ← HG.out]
        go_wp2_with (first
          | (refine wpList_load_rowP rfl 27 (.tmp 2) rfl g rfl 27 #[.int .i64 p, .int .i64 R, .int .i64 C, .slice A n k] _ HK.out Try.underlying27 rfl Try.infoMx ?_)
          | (go_at_call 136
             with_reducible refine (HMO.out _ (Below.refl _ _)).mono ?_
             rintro e w2 ⟨rfl, hb2⟩
             have HB2 := Lib.hid hb2
             have HK2 := Lib.hid (HK.out.below hb2 HGL.out.1)
             obtain ⟨t0, t1, t2, t3⟩ := cells4 HK2.out
             clear hb2)
          | (go_at_call 104
             with_reducible refine (specIsPerm_is d HU.out (HSY.out.below HB2.out (Nat.le_refl _)) hmd hm).mono ?_
             rintro e w3 ⟨rfl, hd3⟩
             have HB3 : Hid (Below w1.heap.size w1 w3) := Lib.hid (HB2.out.trans (hd3.below _))
             have HK3 := Lib.hid (HK.out.below HB3.out HGL.out.1)
             obtain ⟨v0, v1, v2, v3⟩ := cells4 HK3.out
             clear hd3)
          | fail)
        go_ret
        exact ⟨ret_bool rfl, HB.out.trans (HB3.out.mono HGL.out.2)⟩
set_option maxRecDepth 100000 in
set_option maxHeartbeats 4000000 in
theorem implSquare_any (p R C : Int) (A B : Option Addr) (n k m d : Nat) (xs ys : List Int) (w : World) (hs : SI w A n xs) (hn : n ≤ 1099511627776) (hy : SI w B m ys) (hm : m ≤ 1099511627776) (_hmd : m ≤ d) :
    Calls Try.prog 66 #[.agg #[.int .i64 p, .int .i64 R, .int .i64 C, .slice A n k], .slice B m d] w fun e w' => e = .returned (.bool (sqB p R C xs ys)) ∧ Below w.heap.size w w' := by
  obtain ⟨w1, hw1⟩ : ∃ w1, w1 = w.alloc (.cells #[.int .i64 p, .int .i64 R, .int .i64 C, .slice A n k] 27) := ⟨_, rfl⟩
  obtain ⟨g, hg⟩ : ∃ g, g = w.heap.size := ⟨_, rfl⟩
  have hk : Blk w1 g 27 #[.int .i64 p, .int .i64 R, .int .i64 C, .slice A n k] := by rw [hw1, hg]; exact Blk.new _ _ _
  have hb : Below w.heap.size w w1 := by rw [hw1]; exact Below.alloc_self _ _
  have HB := Lib.hid hb
  have HW := Lib.hid hw1
  have HG := Lib.hid hg
  have HK := Lib.hid hk
  have HGL : Hid (g < w1.heap.size ∧ w.heap.size ≤ w1.heap.size) := Lib.hid ⟨hk.lt, hb.size⟩
  have HYL := Lib.hid hy.1
  have HMO := Lib.hid (fun w' (hb' : Below w1.heap.size w1 w') => implMatrixOk_any p R C A n k xs w' ((hs.below hb (Nat.le_refl _)).below hb' (Nat.le_refl _)) hn)
  have HSY := Lib.hid (hy.below hb (Nat.le_refl _))
  obtain ⟨q0, q1, q2, q3⟩ := cells4 hk
  clear hw1 hg hk hb hs hy
  have HIP := Lib.hid (implIsPerm_any B m d ys w1 HSY.out hm)
  cases hu : isPermB ys with
  | false =>
    rw [hu] at HIP
    have HU := Lib.hid hu
    have HF := Lib.hid (sqB_no (p := p) (R := R) (C := C) (xs := xs) (ys := ys) (fun h => by have := h.2.1; rw [HU.out] at this; cases this))
    clear hu
    go_enter Try.func66, Try.ntmps66
    go_upto_region 1 with fail
    rw [← HW.out, ← HG.out]
    go_wp2_with (first
      | (go_at_call 130
         with_reducible refine HIP.out.mono ?_
         rintro e w2 ⟨rfl, hb2⟩
         have HB2 := Lib.hid hb2
         have HK2 := Lib.hid (HK.out.below HB2.out HGL.out.1)
         obtain ⟨t0, t1, t2, t3⟩ := cells4 HK2.out
         clear hb2)
      | fail)
    go_ret
    exact ⟨ret_bool HF.out.symm, HB.out.trans (HB2.out.mono HGL.out.2)⟩
  | true =>
    rw [hu] at HIP
    have HU := Lib.hid hu
    clear hu
    cases hu0 : matB p R C xs with
    | false =>
      rw [hu0] at HMO
      have HU0 := Lib.hid hu0
      have HF := Lib.hid (sqB_no (p := p) (R := R) (C := C) (xs := xs) (ys := ys) (fun h => by have := matB_true h.1; rw [HU0.out] at this; cases this))
      clear hu0
      go_enter Try.func66, Try.ntmps66
      go_upto_region 1 with fail
      rw [← HW.out, ← HG.out]
      go_wp2_with (first
        | (go_at_call 130
           with_reducible refine HIP.out.mono ?_
           rintro e w2 ⟨rfl, hb2⟩
           have HB2 := Lib.hid hb2
           have HK2 := Lib.hid (HK.out.below HB2.out HGL.out.1)
           obtain ⟨t0, t1, t2, t3⟩ := cells4 HK2.out
           clear hb2)
        | (go_at_call 133
           with_reducible refine (HMO.out _ HB2.out).mono ?_
           rintro e w3 ⟨rfl, hb3⟩
           have HB3 : Hid (Below w1.heap.size w1 w3) := Lib.hid (HB2.out.trans (hb3.mono HB2.out.size))
           have HK3 := Lib.hid (HK.out.below HB3.out HGL.out.1)
           obtain ⟨v0, v1, v2, v3⟩ := cells4 HK3.out
           clear hb3)
        | fail)
      go_ret
      exact ⟨ret_bool HF.out.symm, HB.out.trans (HB3.out.mono HGL.out.2)⟩
    | true =>
      rw [hu0] at HMO
      have HM := Lib.hid (matB_P hu0)
      clear hu0
      by_cases hR : R = (m : Int)
      case neg =>
        have hRb : (R == (m : Int)) = false := by simpa using hR
        have HF := Lib.hid (sqB_no (p := p) (R := R) (C := C) (xs := xs) (ys := ys) (fun h => hR (by rw [← HYL.out]; exact h.2.2.1)))
        clear hR
        go_enter Try.func66, Try.ntmps66
        go_upto_region 1 with fail
        rw [← HW.out, ← HG.out]
        go_wp2_with (first
          | (go_at_call 130
             with_reducible refine HIP.out.mono ?_
             rintro e w2 ⟨rfl, hb2⟩
             have HB2 := Lib.hid hb2
             have HK2 := Lib.hid (HK.out.below HB2.out HGL.out.1)
             obtain ⟨t0, t1, t2, t3⟩ := cells4 HK2.out
             clear hb2)
          | (go_at_call 133
             with_reducible refine (HMO.out _ HB2.out).mono ?_
             rintro e w3 ⟨rfl, hb3⟩
             have HB3 : Hid (Below w1.heap.size w1 w3) := Lib.hid (HB2.out.trans (hb3.mono HB2.out.size))
             have HK3 := Lib.hid (HK.out.below HB3.out HGL.out.1)
             obtain ⟨v0, v1, v2, v3⟩ := cells4 HK3.out
             clear hb3)
          | fail)
        go_ret
        exact ⟨ret_bool HF.out.symm, HB.out.trans (HB3.out.mono HGL.out.2)⟩
      case pos =>
        have hRb : (R == (m : Int)) = true := by simpa using hR
        obtain ⟨bb, hbb⟩ : ∃ bb, bb = (C == (m : Int)) := ⟨_, rfl⟩
        have hCb := hbb.symm
        have HF : Hid (bb = sqB p R C xs ys) := Lib.hid (by
          rw [hbb]
          by_cases hC : C = (m : Int)
          · rw [sqB_yes ⟨HM.out, HU.out, by rw [HYL.out]; exact hR, by rw [HYL.out]; exact hC⟩]; simpa using hC
          · rw [sqB_no (fun h => hC (by rw [← HYL.out]; exact h.2.2.2))]; simpa using hC)
        rw [← HF.out]
        clear hR hbb
        go_enter Try.func66, Try.ntmps66
        go_upto_region 1 with fail
        rw [← HW.out, ← HG.out]
        go_wp2_with (first
          | (go_at_call 130
             with_reducible refine HIP.out.mono ?_
             rintro e w2 ⟨rfl, hb2⟩
             have HB2 := Lib.hid hb2
             have HK2 := Lib.hid (HK.out.below HB2.out HGL.out.1)
             obtain ⟨t0, t1, t2, t3⟩ := cells4 HK2.out
             clear hb2)
          | (go_at_call 133
             with_reducible refine (HMO.out _ HB2.out).mono ?_
             rintro e w3 ⟨rfl, hb3⟩
             have HB3 : Hid (Below w1.heap.size w1 w3) := Lib.hid (HB2.out.trans (hb3.mono HB2.out.size))
             have HK3 := Lib.hid (HK.out.below HB3.out HGL.out.1)
             obtain ⟨v0, v1, v2, v3⟩ := cells4 HK3.out
             clear hb3)
          | fail)
        go_ret
        exact ⟨ret_bool rfl, HB.out.trans (HB3.out.mono HGL.out.2)⟩
end Go.Proofs.Ytbkhibojbakckaa

/-
  Whether a matrix keeps the ranks of a permutation, on both sides. Conditions: lengths below 2^40.
-/

namespace Go.Proofs.Ytbkhibojbakckaa
open Go.RowKit

def keepsP (p : Int) (m : Nat) (xs ys : List Int) : Prop := ∀ r, r < m + 1 → ∀ c, c < m + 1 → rnkL p (rowsC xs m r c) ≤ rankN ys (c : Int) r
instance keepsP.dec (p : Int) (m : Nat) (xs ys : List Int) : Decidable (keepsP p m xs ys) := by unfold keepsP; exact inferInstance
def krB (p R C : Int) (xs ys : List Int) : Bool := sqB p R C xs ys && decide (keepsP p ys.length xs ys)
theorem krB_no1 {p R C : Int} {xs ys : List Int} (h : sqB p R C xs ys = false) : krB p R C xs ys = false := by unfold krB; rw [h]; rfl
theorem krB_no2 {p R C : Int} {xs ys : List Int} (h : ¬ keepsP p ys.length xs ys) : krB p R C xs ys = false := by unfold krB; rw [decide_eq_false h]; simp
theorem krB_yes {p R C : Int} {xs ys : List Int} (h : sqB p R C xs ys = true) (h2 : keepsP p ys.length xs ys) : krB p R C xs ys = true := by unfold krB; rw [h, decide_eq_true h2]; rfl
theorem sq_nats {p R C : Int} {xs ys : List Int} {m : Nat} (hm : ys.length = m) (h : sqB p R C xs ys = true) : R = (m : Int) ∧ C = (m : Int) ∧ matP p (m : Int) (m : Int) xs ∧ isPermB ys = true ∧ 1 ≤ m ∧ m ≤ 7 ∧ xs.length = m * m := by
  obtain ⟨h1, h2, h3, h4⟩ := sqB_P h
  rw [hm] at h3 h4
  rw [h3, h4] at h1
  obtain ⟨R', C', e1, e2, e3, e4, e5, e6⟩ := h1.nats
  have a1 : m = R' := by omega
  have a2 : m = C' := by omega
  refine ⟨h3, h4, h1, h2, by omega, by omega, by rw [e6, ← a1, ← a2]⟩
theorem bound_false {p : Int} {m : Nat} {xs ys : List Int} {r c : Nat} (hm : ys.length = m) (hr : r < m + 1) (hc : c < m + 1) (h : ¬ rnkL p (rowsC xs m r c) ≤ rankN ys (c : Int) r) : ¬ keepsP p ys.length xs ys := fun hk => h (by have := hk r (by omega) c (by omega); rw [hm] at this; exact this)
theorem implRank_perm (ys : List Int) (B : Option Addr) (m d : Nat) (r c : Int) (w : World) (hy : SI w B m ys) (hm : m ≤ 1099511627776) (Q : Int) (hQ : rankPerm ys r c = Q) :
    Calls Try.prog 142 #[.slice B m d, .int .i64 r, .int .i64 c] w fun e w' => e = .returned (.int .i64 Q) ∧ Below w.heap.size w w' := by
  subst hQ; exact implRank_any B m d ys r c w hy hm
set_option maxRecDepth 100000 in
set_option maxHeartbeats 1000000 in
theorem keepsRank_any (p R C : Int) (A B : Option Addr) (n k m d : Nat) (xs ys : List Int) (r c : Int) (w : World) (hs : SI w A n xs) (hn : n ≤ 1099511627776) (hnk : n ≤ k) (hy : SI w B m ys) (hm : m ≤ 1099511627776) (K Q : Int) (hK : crnK p R C xs r c = K) (hQ : rankPerm ys r c = Q) :
    Calls Try.prog 68 #[.agg #[.int .i64 p, .int .i64 R, .int .i64 C, .slice A n k], .slice B m d, .int .i64 r, .int .i64 c] w fun e w' => e = .returned (.bool (decide (K ≤ Q))) ∧ Below w.heap.size w w' := by
  obtain ⟨w1, hw1⟩ : ∃ w1, w1 = w.alloc (.cells #[.int .i64 p, .int .i64 R, .int .i64 C, .slice A n k] 27) := ⟨_, rfl⟩
  obtain ⟨g, hg⟩ : ∃ g, g = w.heap.size := ⟨_, rfl⟩
  have hk : Blk w1 g 27 #[.int .i64 p, .int .i64 R, .int .i64 C, .slice A n k] := by rw [hw1, hg]; exact Blk.new _ _ _
  have hb : Below w.heap.size w w1 := by rw [hw1]; exact Below.alloc_self _ _
  have HB := Lib.hid hb
  have HW := Lib.hid hw1
  have HG := Lib.hid hg
  have HK := Lib.hid hk
  have HC := implCorner_any p R C A n k xs r c w1 (hs.below hb (Nat.le_refl _)) hn hnk
  rw [hK] at HC
  have HC := Lib.hid HC
  have HR := fun w' (hb' : Below w1.heap.size w1 w') => implRank_perm ys B m d r c w' ((hy.below hb (Nat.le_refl _)).below hb' (Nat.le_refl _)) hm Q hQ
  have HR := Lib.hid HR
  clear hw1 hg hk hb hs hy hK hQ
  go_enter Try.func68, Try.ntmps68
  go_upto_region 1 with fail
  rw [← HW.out, ← HG.out]
  go_wp2_with (first
    | (refine wpList_load_rowP rfl 27 (.tmp 4) rfl g rfl 27 #[.int .i64 p, .int .i64 R, .int .i64 C, .slice A n k] _ HK.out Try.underlying27 rfl Try.infoMx ?_)
    | (go_at_call 58; with_reducible refine HC.out.mono ?_; rintro e w2 ⟨rfl, hb2⟩; have HB2 := Lib.hid hb2; clear hb2)
    | (go_at_call 142; with_reducible refine (HR.out _ HB2.out).mono ?_; rintro e w3 ⟨rfl, hb3⟩; have HB3 : Hid (Below w1.heap.size w1 w3) := Lib.hid (HB2.out.trans (hb3.mono HB2.out.size)); clear hb3)
    | fail)
  go_ret
  exact ⟨rfl, HB.out.trans (HB3.out.mono HB.out.size)⟩
set_option maxRecDepth 100000 in
set_option maxHeartbeats 4000000 in
theorem implKeeps_any (p R C : Int) (A B : Option Addr) (n k m d : Nat) (xs ys : List Int) (w : World) (hs : SI w A n xs) (hn : n ≤ 1099511627776) (hnk : n ≤ k) (hy : SI w B m ys) (hm : m ≤ 1099511627776) (hmd : m ≤ d) :
    Calls Try.prog 54 #[.agg #[.int .i64 p, .int .i64 R, .int .i64 C, .slice A n k], .slice B m d] w fun e w' => e = .returned (.bool (krB p R C xs ys)) ∧ Below w.heap.size w w' := by
  obtain ⟨w1, hw1⟩ : ∃ w1, w1 = w.alloc (.cells #[.int .i64 p, .int .i64 R, .int .i64 C, .slice A n k] 27) := ⟨_, rfl⟩
  obtain ⟨g, hg⟩ : ∃ g, g = w.heap.size := ⟨_, rfl⟩
  have hk : Blk w1 g 27 #[.int .i64 p, .int .i64 R, .int .i64 C, .slice A n k] := by rw [hw1, hg]; exact Blk.new _ _ _
  have hb : Below w.heap.size w w1 := by rw [hw1]; exact Below.alloc_self _ _
  have HB := Lib.hid hb
  have HW := Lib.hid hw1
  have HG := Lib.hid hg
  have HK := Lib.hid hk
  have HGL : Hid (g < w1.heap.size ∧ w.heap.size ≤ w1.heap.size) := Lib.hid ⟨hk.lt, hb.size⟩
  have HS := Lib.hid (hs.below hb (Nat.le_refl _))
  have HY := Lib.hid (hy.below hb (Nat.le_refl _))
  have HYL := Lib.hid hy.1
  have HSQ := Lib.hid (implSquare_any p R C A B n k m d xs ys w1 HS.out hn HY.out hm hmd)
  clear hw1 hg hk hb hs hy
  cases hu : sqB p R C xs ys with
  | false =>
    rw [hu] at HSQ
    have HF := Lib.hid (krB_no1 hu)
    clear hu
    go_enter Try.func54, Try.ntmps54
    go_upto_region 1 with fail
    rw [← HW.out, ← HG.out]
    go_wp2_with (first
      | (refine wpList_load_rowP rfl 27 (.tmp 2) rfl g rfl 27 #[.int .i64 p, .int .i64 R, .int .i64 C, .slice A n k] _ HK.out Try.underlying27 rfl Try.infoMx ?_)
      | (go_at_call 66; with_reducible refine HSQ.out.mono ?_; rintro e w2 ⟨rfl, hb2⟩; have HB2 := Lib.hid hb2; clear hb2)
      | fail)
    go_ret
    exact ⟨ret_bool HF.out.symm, HB.out.trans (HB2.out.mono HGL.out.2)⟩
  | true =>
    rw [hu] at HSQ
    obtain ⟨rfl, rfl, hmat, hperm, hm1, hm7, hxl⟩ := sq_nats HYL.out hu
    have HM := Lib.hid hmat
    have HPB := Lib.hid hperm
    have HXL := Lib.hid hxl
    have HU := Lib.hid hu
    have hwm : IntKind.i64.wrap ((m : Int) + 1) = (m : Int) + 1 := IntWalk.i64_in _ (by omega)
    clear hu hmat hperm hxl
    go_enter Try.func54, Try.ntmps54
    go_upto_region 1 with fail
    rw [← HW.out, ← HG.out]
    go_wp2_with (first
      | (refine wpList_load_rowP rfl 27 (.tmp 2) rfl g rfl 27 #[.int .i64 p, .int .i64 (m : Int), .int .i64 (m : Int), .slice A n k] _ HK.out Try.underlying27 rfl Try.infoMx ?_)
      | (go_at_call 66; with_reducible refine HSQ.out.mono ?_; rintro e w2 ⟨rfl, hb2⟩; have HB2 := Lib.hid hb2; clear hb2)
      | fail)
    go_loopw [14] (fun rv wr => ∃ r : Nat, r ≤ m + 1 ∧ rv = .int .i64 r ∧ Below w1.heap.size w1 wr ∧ ∀ x, x < r → ∀ c, c < m + 1 → rnkL p (rowsC xs m x c) ≤ rankN ys (c : Int) x)
      (fun rv _ => m + 1 - (intOf rv).toNat)
    case atStart => exact ⟨0, Nat.zero_le _, rfl, HB2.out, fun x hx => absurd hx (by omega)⟩
    case round =>
      obtain ⟨r, hr, rfl, hbr, hall⟩ := hrel
      clear HB2
      have HBR := Lib.hid hbr
      have HALL := Lib.hid hall
      clear hbr hall
      by_cases hlt : r < m + 1
      case neg =>
        obtain rfl : r = m + 1 := by omega
        have HT := Lib.hid (krB_yes HU.out (by rw [HYL.out]; exact HALL.out))
        have hrI : ¬ ((m + 1 : Nat) : Int) ≤ (m : Int) := by omega
        have hrI2 : ¬ ((m + 1 : Nat) : Int) < (m : Int) + 1 := by omega
        go_wp2
        go_ret
        exact ⟨ret_bool HT.out.symm, HB.out.trans (HBR.out.mono HGL.out.2)⟩
      case pos =>
        have hrI : (r : Int) ≤ (m : Int) := by omega
        have hrI2 : (r : Int) < (m : Int) + 1 := by omega
        go_wp2_with fail
        obtain ⟨wo, rfl⟩ : ∃ wo, wo = wr := ⟨wr, rfl⟩
        go_loopw [20] (fun cv wr => ∃ c : Nat, c ≤ m + 1 ∧ cv = .int .i64 c ∧ Below w1.heap.size w1 wr ∧ ∀ y, y < c → rnkL p (rowsC xs m r y) ≤ rankN ys (y : Int) r)
          (fun cv _ => m + 1 - (intOf cv).toNat)
        case atStart => exact ⟨0, Nat.zero_le _, rfl, HBR.out, fun y hy => absurd hy (by omega)⟩
        case round =>
          obtain ⟨c, hc, rfl, hbr, hall⟩ := hrel
          clear HBR
          have HBR := Lib.hid hbr
          have HALC := Lib.hid hall
          have HKr := Lib.hid (HK.out.below hbr HGL.out.1)
          clear hbr hall
          by_cases hcm : c < m + 1
          case neg =>
            obtain rfl : c = m + 1 := by omega
            have hcI : ¬ ((m + 1 : Nat) : Int) ≤ (m : Int) := by omega
            have hcI2 : ¬ ((m + 1 : Nat) : Int) < (m : Int) + 1 := by omega
            go_wp2
            go_roundw
            case rel => exact ⟨r + 1, by omega, by go_num, HBR.out, fun x hx y hy => by
              by_cases e : x = r
              · rw [e]; exact HALC.out y hy
              · exact HALL.out x (by omega) y hy⟩
            case measure => simp [intOf]; omega
          case pos =>
            have hcI : (c : Int) ≤ (m : Int) := by omega
            have hcI2 : (c : Int) < (m : Int) + 1 := by omega
            obtain ⟨K, hK⟩ : ∃ K, K = rnkL p (rowsC xs m r c) := ⟨_, rfl⟩
            obtain ⟨Q, hQ⟩ : ∃ Q, Q = rankN ys (c : Int) r := ⟨_, rfl⟩
            have HKP := Lib.hid (keepsRank_any p (m : Int) (m : Int) A B n k m d xs ys (r : Int) (c : Int) wr (HS.out.below HBR.out (Nat.le_refl _)) hn hnk (HY.out.below HBR.out (Nat.le_refl _)) hm (K : Int) (Q : Int)
              (by rw [crnK_yes ⟨HM.out, by omega, by omega⟩, hK]; simp) (by rw [rankPerm_yes HPB.out (by rw [HYL.out]; omega) (by omega) (by rw [HYL.out]; omega), hQ]))
            by_cases hKQ : K ≤ Q
            case pos =>
              have HKQ : Hid (rnkL p (rowsC xs m r c) ≤ rankN ys (c : Int) r) := Lib.hid (by rw [← hK, ← hQ]; exact hKQ)
              rw [decide_eq_true (show (K : Int) ≤ (Q : Int) by omega)] at HKP
              clear hK hQ
              go_wp2_with (first
                | (refine wpList_load_rowP rfl 27 (.tmp 2) rfl g rfl 27 #[.int .i64 p, .int .i64 (m : Int), .int .i64 (m : Int), .slice A n k] _ HKr.out Try.underlying27 rfl Try.infoMx ?_)
                | (go_at_call 68; with_reducible refine HKP.out.mono ?_; rintro e w5 ⟨rfl, hb5⟩; have HB5 : Hid (Below w1.heap.size w1 w5) := Lib.hid (HBR.out.trans (hb5.mono HBR.out.size)); clear hb5)
                | fail)
              go_roundw
              case rel => exact ⟨c + 1, by omega, by go_num, HB5.out, fun y hy => by
                by_cases e : y = c
                · rw [e]; exact HKQ.out
                · exact HALC.out y (by omega)⟩
              case measure => simp [intOf]; omega
            case neg =>
              have HF := Lib.hid (krB_no2 (R := (m : Int)) (C := (m : Int)) (bound_false (p := p) (xs := xs) HYL.out hlt hcm (by rw [← hK, ← hQ]; exact hKQ)))
              rw [decide_eq_false (show ¬ (K : Int) ≤ (Q : Int) by omega)] at HKP
              clear hK hQ
              go_wp2_with (first
                | (refine wpList_load_rowP rfl 27 (.tmp 2) rfl g rfl 27 #[.int .i64 p, .int .i64 (m : Int), .int .i64 (m : Int), .slice A n k] _ HKr.out Try.underlying27 rfl Try.infoMx ?_)
                | (go_at_call 68; with_reducible refine HKP.out.mono ?_; rintro e w5 ⟨rfl, hb5⟩; have HB5 : Hid (Below w1.heap.size w1 w5) := Lib.hid (HBR.out.trans (hb5.mono HBR.out.size)); clear hb5)
                | fail)
              go_ret
              exact ⟨ret_bool HF.out.symm, HB.out.trans (HB5.out.mono HGL.out.2)⟩
end Go.Proofs.Ytbkhibojbakckaa

/-
  The helpers of the exact laws at terms: copying, measuring, comparing. Conditions: lengths below 2^40.
-/

namespace Go.Proofs.Ytbkhibojbakckaa
open Go.RowKit

theorem grown_set (w : World) (a : Addr) (u : Value) : w.grownBy (w.setCell a u) (some a.block) :=
  ⟨rfl, rfl, rfl, by simp [World.setCell], fun k _ hk => Below.heap_setCell w a u k (fun e => hk (by rw [e]))⟩
theorem results_row {P : Program} {fn : Func} {p : Tmp} {ty : TypeId} (h : fn.results = #[.cell p ty]) (tmps : Array Value) (w : World) (g : Nat) (t : TypeId) (cs : Array Value) (d : TypeDesc)
    (hp : tmps.getD p undef = .pointer (some ⟨g, 0, none⟩)) (hg : Blk w g t cs) (hu : P.underlying ty = some d) (hd : (match d with | .struct _ | .array _ _ => true | _ => false) = true) (hi : (P.info? ty).map (·.size) = some cs.size) :
    (results fn tmps).run P w = .ok (.agg cs) w :=
  results_cell_row h tmps w g t cs (0, 0) d hp hg hu hd hi

/-- The terms copied after k rounds. -/
def copT (ts : List Tm) (k : Nat) : List Tm := ts.take k ++ zeroT (ts.length - k)
theorem copT_zero (ts : List Tm) : copT ts 0 = zeroT ts.length := by simp [copT]
theorem copT_all (ts : List Tm) : copT ts ts.length = ts := by simp [copT, zeroT]
theorem copT_succ {ts : List Tm} {k : Nat} (h : k < ts.length) : (copT ts k).set k ((tm ts k).1, (tm ts k).2) = copT ts (k + 1) := by
  unfold copT zeroT
  have hl : (ts.take k).length = k := by simp; omega
  rw [List.set_append_right _ _ (by omega), hl]
  have e : ts.length - k = (ts.length - (k + 1)) + 1 := by omega
  rw [e, List.replicate_succ, Nat.sub_self, List.set_cons_zero, take_tm h, List.append_assoc]
  rfl

end Go.Proofs.Ytbkhibojbakckaa
