/-
  The lists and the sides of a puzzle, the program's side. Conditions: lengths below 2^40.
-/
import Derived.Test.YtdkcngilmdpbgaaTriC
import Derived.Test.YtdkcngilmdpbgaaStrI
namespace Go.Proofs.Ytdkcngilmdpbgaa
open Go.RowKit

theorem lensB_false {s : Int} {x1 x2 x3 : List Int} (h : ¬ lensP s x1 x2 x3) : lensB s x1 x2 x3 = false := by
  cases hb : lensB s x1 x2 x3 with
  | false => rfl
  | true => exact absurd ((lensB_iff _ _ _ _).1 hb) h
set_option maxHeartbeats 1000000 in
theorem hasLists_any (s : Int) (A1 A2 A3 : Option Addr) (n1 c1 n2 c2 n3 c3 : Nat) (x1 x2 x3 : List Int) (w : World) (h1 : SI w A1 n1 x1) (h2 : SI w A2 n2 x2) (h3 : SI w A3 n3 x3) :
    Calls Try.prog 136 #[.agg #[.int .i64 s, .slice A1 n1 c1, .slice A2 n2 c2, .slice A3 n3 c3]] w fun e w' => e = .returned (.bool (lensB s x1 x2 x3)) ∧ Below w.heap.size w w' := by
  obtain ⟨w1, hw1⟩ : ∃ w1, w1 = w.alloc (.cells #[.int .i64 s, .slice A1 n1 c1, .slice A2 n2 c2, .slice A3 n3 c3] 47) := ⟨_, rfl⟩
  obtain ⟨g, hg⟩ : ∃ g, g = w.heap.size := ⟨_, rfl⟩
  have hk : Blk w1 g 47 #[.int .i64 s, .slice A1 n1 c1, .slice A2 n2 c2, .slice A3 n3 c3] := by rw [hw1, hg]; exact Blk.new _ _ _
  have HB : Hid (Below w.heap.size w w1) := Lib.hid (by rw [hw1]; exact Below.alloc_self _ _)
  have HW := Lib.hid hw1
  have HG := Lib.hid hg
  have HL := Lib.hid (And.intro h1.1 (And.intro h2.1 h3.1))
  obtain ⟨q0, q1, q2, q3⟩ := cells4 hk
  clear hw1 hg hk h1 h2 h3
  by_cases hs : 1 ≤ s ∧ s ≤ 7
  case neg =>
    have H1 := Lib.hid (fun w => isPermSize_no (a := s) (by omega) w)
    have HF := Lib.hid (lensB_false (s := s) (x1 := x1) (x2 := x2) (x3 := x3) (fun h => hs ⟨h.1, h.2.1⟩))
    clear hs
    go_enter Try.func136, Try.ntmps136
    go_upto_region 1 with fail
    rw [← HW.out, ← HG.out]
    go_wp2_with (go_at_call 111; refine (H1.out _).mono ?_; rintro e w2 ⟨rfl, rfl⟩)
    go_ret
    exact ⟨ret_bool HF.out.symm, HB.out⟩
  case pos =>
    obtain ⟨m, rfl⟩ : ∃ m : Nat, s = (m : Int) := ⟨s.toNat, by omega⟩
    have H1 := Lib.hid (fun w => isPermSize_yes (a := (m : Int)) hs.1 hs.2 w)
    have HPL := Lib.hid (fun w => smallPlace_at (i := (m : Int)) (j := 0) m 0 (tri m) rfl rfl rfl w (by omega) (by omega))
    have HLP : Hid (lensB (m : Int) x1 x2 x3 = (decide (n1 = tri m) && decide (n2 = tri m) && decide (n3 = tri m))) := Lib.hid (by
      unfold lensB
      rw [HL.out.1, HL.out.2.1, HL.out.2.2, Int.toNat_natCast, decide_eq_true (by omega : (1 : Int) ≤ (m : Int)), decide_eq_true (by omega : (m : Int) ≤ 7)]
      simp)
    obtain ⟨T, hT⟩ : ∃ T, T = tri m := ⟨_, rfl⟩
    rw [← hT] at HPL HLP
    clear hs hT
    by_cases e1 : n1 = T
    case neg =>
      have b1 : ((n1 : Int) == (T : Int)) = false := by simp; omega
      have HF : Hid (false = lensB (m : Int) x1 x2 x3) := Lib.hid (by rw [HLP.out, decide_eq_false e1]; simp)
      clear e1
      go_enter Try.func136, Try.ntmps136
      go_upto_region 1 with fail
      rw [← HW.out, ← HG.out]
      go_wp2_with (first | (go_at_call 111; refine (H1.out _).mono ?_; rintro e w2 ⟨rfl, rfl⟩) | (go_at_call 121; refine (HPL.out _).mono ?_; rintro e w3 ⟨rfl, rfl⟩))
      go_ret
      exact ⟨ret_bool HF.out, HB.out⟩
    case pos =>
      have b1 : ((n1 : Int) == (T : Int)) = true := by simp; omega
      by_cases e2 : n2 = T
      case neg =>
        have b2 : ((n2 : Int) == (T : Int)) = false := by simp; omega
        have HF : Hid (false = lensB (m : Int) x1 x2 x3) := Lib.hid (by rw [HLP.out, decide_eq_false e2]; simp)
        clear e1 e2
        go_enter Try.func136, Try.ntmps136
        go_upto_region 1 with fail
        rw [← HW.out, ← HG.out]
        go_wp2_with (first | (go_at_call 111; refine (H1.out _).mono ?_; rintro e w2 ⟨rfl, rfl⟩) | (go_at_call 121; refine (HPL.out _).mono ?_; rintro e w3 ⟨rfl, rfl⟩))
        go_ret
        exact ⟨ret_bool HF.out, HB.out⟩
      case pos =>
        have b2 : ((n2 : Int) == (T : Int)) = true := by simp; omega
        obtain ⟨bb, hbb⟩ : ∃ bb, bb = ((n3 : Int) == (T : Int)) := ⟨_, rfl⟩
        have HF : Hid (bb = lensB (m : Int) x1 x2 x3) := Lib.hid (by
          rw [HLP.out, hbb, decide_eq_true e1, decide_eq_true e2]
          by_cases e3 : n3 = T
          · rw [decide_eq_true e3]; simp; omega
          · rw [decide_eq_false e3]; simp; omega)
        have b3 := hbb.symm
        clear e1 e2 hbb
        go_enter Try.func136, Try.ntmps136
        go_upto_region 1 with fail
        rw [← HW.out, ← HG.out]
        go_wp2_with (first | (go_at_call 111; refine (H1.out _).mono ?_; rintro e w2 ⟨rfl, rfl⟩) | (go_at_call 121; refine (HPL.out _).mono ?_; rintro e w3 ⟨rfl, rfl⟩))
        go_ret
        exact ⟨ret_bool HF.out, HB.out⟩
end Go.Proofs.Ytdkcngilmdpbgaa
