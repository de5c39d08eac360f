/-
  PuzzleWeight on both sides. Conditions: lengths below 2^40.
-/
import Derived.Test.YtdappakjbclffaaPuzW
namespace Go.Proofs.Ytdappakjbclffaa
open Go.RowKit

/-- What PuzzleWeight answers. -/
def pwB (s : Int) (x1 x2 x3 ys : List Int) : Bool := pzB true s x1 x2 x3 && shB s ys
def pwV (s : Int) (x1 x2 x3 ys : List Int) : Int := if pwB s x1 x2 x3 ys = true then wgR ys x3 s.toNat (s.toNat - 1) else 0
theorem pw_no {s : Int} {x1 x2 x3 ys : List Int} (h : pwB s x1 x2 x3 ys = false) : pwV s x1 x2 x3 ys = 0 := by unfold pwV; rw [if_neg (by rw [h]; decide)]
theorem pw_yes {m : Nat} {x1 x2 x3 ys : List Int} (h : pwB (m : Int) x1 x2 x3 ys = true) : pwV (m : Int) x1 x2 x3 ys = wgR ys x3 m (m - 1) := by unfold pwV; rw [if_pos h, Int.toNat_natCast]
set_option maxRecDepth 100000 in
set_option maxHeartbeats 2000000 in
theorem specPuzzleWeight_any (s : Int) (A1 A2 A3 : Option Addr) (n1 c1 n2 c2 n3 c3 : Nat) (x1 x2 x3 : List Int) (AY : Option Addr) (nY cY : Nat) (ys : List Int) (w : World) (h : PS w A1 A2 A3 n1 n2 n3 x1 x2 x3) (hY : SI w AY nY ys) (hc3 : n3 ≤ c3) (hn : n1 ≤ 1099511627776 ∧ n2 ≤ 1099511627776 ∧ n3 ≤ 1099511627776) (hnY : nY ≤ 1099511627776) :
    Calls Try.prog 40 #[.agg #[.int .i64 s, .slice A1 n1 c1, .slice A2 n2 c2, .slice A3 n3 c3], .slice AY nY cY] w fun e w' => e = .returned (.tuple #[.int .i64 (pwV s x1 x2 x3 ys), .bool (pwB s x1 x2 x3 ys)]) ∧ Below w.heap.size w w' := by
  obtain ⟨w1, hw1⟩ : ∃ w1, w1 = w.alloc (.cells #[.int .i64 s, .slice A1 n1 c1, .slice A2 n2 c2, .slice A3 n3 c3] 35) := ⟨_, rfl⟩
  obtain ⟨g, hg⟩ : ∃ g, g = w.heap.size := ⟨_, rfl⟩
  have hk : Blk w1 g 35 #[.int .i64 s, .slice A1 n1 c1, .slice A2 n2 c2, .slice A3 n3 c3] := by rw [hw1, hg]; exact Blk.new _ _ _
  have hb : Below w.heap.size w w1 := by rw [hw1]; exact Below.alloc_self _ _
  have HB1 := Lib.hid hb
  have HW := Lib.hid hw1
  have HG := Lib.hid hg
  have HK := Lib.hid hk
  have hs := h.below hb (Nat.le_refl _)
  have HY := Lib.hid (hY.below hb (Nat.le_refl _))
  have HS3 := Lib.hid hs.2.2
  have HSZ := Lib.hid hb.size
  have HGL := Lib.hid hk.lt
  have HLN := Lib.hid hs.lens
  have HLY := Lib.hid hY.1
  obtain ⟨q0, q1, q2, q3⟩ := cells4 hk
  have HC := Lib.hid (specWeightedOk_any s A1 A2 A3 n1 c1 n2 c2 n3 c3 x1 x2 x3 w1 hs hc3 hn)
  clear hw1 hg hk hb hs h hY hc3 hn
  cases hu : pzB true s x1 x2 x3 with
  | false =>
    rw [hu] at HC
    have hf : pwB s x1 x2 x3 ys = false := by unfold pwB; rw [hu]; rfl
    have HF := Lib.hid hf
    have HE := Lib.hid (pw_no hf)
    clear hu hf
    go_enter Try.func40, Try.ntmps40
    go_upto_region 1 with fail
    rw [← HW.out, ← HG.out]
    go_wp2_with (first | (go_at_call 30; refine HC.out.mono ?_; rintro e w2 ⟨rfl, hb2⟩; have HB2 := Lib.hid hb2; obtain ⟨q0, q1, q2, q3⟩ := cells4 (HK.out.below hb2 HGL.out); clear hb2))
    go_ret2
    rw [HE.out, HF.out]
    exact ⟨rfl, HB1.out.trans (HB2.out.mono HSZ.out)⟩
  | true =>
    rw [hu] at HC
    have hp := (pzB_iff true s x1 x2 x3).1 hu
    have h17 : 1 ≤ s ∧ s ≤ 7 := ⟨hp.1.1, hp.1.2.1⟩
    obtain ⟨m, rfl⟩ : ∃ m : Nat, s = (m : Int) := ⟨s.toNat, by omega⟩
    have hl3 : n3 = tri m := by have h5 := hp.1.2.2.2.2; rw [Int.toNat_natCast] at h5; have := HLN.out.2.2; omega
    have HLW := Lib.hid (wg_last (ys := ys) hp)
    have HSH := Lib.hid (fun w' (hb' : Below w1.heap.size w1 w') => l5Shifts_any (m : Int) AY nY cY ys w' (HY.out.below hb' (Nat.le_refl _)) hnY h17)
    cases hv : shB (m : Int) ys with
    | false =>
      rw [hv] at HSH
      have hf : pwB (m : Int) x1 x2 x3 ys = false := by unfold pwB; rw [hv]; simp
      have HF := Lib.hid hf
      have HE := Lib.hid (pw_no hf)
      clear hu hv hf hp h17 hl3
      go_enter Try.func40, Try.ntmps40
      go_upto_region 1 with fail
      rw [← HW.out, ← HG.out]
      go_wp2_with (first | (go_at_call 30; refine HC.out.mono ?_; rintro e w2 ⟨rfl, hb2⟩; have HB2 := Lib.hid hb2; obtain ⟨q0, q1, q2, q3⟩ := cells4 (HK.out.below hb2 HGL.out); clear hb2) | (go_at_call 83; refine (HSH.out _ HB2.out).mono ?_; rintro e w3 ⟨rfl, hd3⟩; have HB3 : Hid (Below w1.heap.size w1 w3) := Lib.hid (HB2.out.trans (hd3.below _)); obtain ⟨q0, q1, q2, q3⟩ := cells4 (HK.out.below HB3.out HGL.out); clear hd3))
      go_ret2
      rw [HE.out, HF.out]
      exact ⟨rfl, HB1.out.trans (HB3.out.mono HSZ.out)⟩
    | true =>
      rw [hv] at HSH
      have hsh := (shB_iff _ _).1 hv
      have hf : pwB (m : Int) x1 x2 x3 ys = true := by unfold pwB; rw [hu, hv]; rfl
      have HF := Lib.hid hf
      have HE := Lib.hid (pw_yes hf)
      have hym : nY = m := by have := hsh.2.1; have := HLY.out; omega
      have HWT := Lib.hid (fun w' (hb' : Below w1.heap.size w1 w') => l5Weight_any m A1 A2 A3 n1 c1 n2 c2 n3 c3 x3 AY nY cY ys w' (HS3.out.below hb' (Nat.le_refl _)) (HY.out.below hb' (Nat.le_refl _)) (by have := hsh.1; omega) hl3 hym (fun k hk => hsh.2.2 k (by have := HLY.out; omega)))
      clear hu hv hf hp h17 hl3 hym hsh
      go_enter Try.func40, Try.ntmps40
      go_upto_region 1 with fail
      rw [← HW.out, ← HG.out]
      go_wp2_with (first | (go_at_call 30; refine HC.out.mono ?_; rintro e w2 ⟨rfl, hb2⟩; have HB2 := Lib.hid hb2; obtain ⟨q0, q1, q2, q3⟩ := cells4 (HK.out.below hb2 HGL.out); clear hb2) | (go_at_call 83; refine (HSH.out _ HB2.out).mono ?_; rintro e w3 ⟨rfl, hd3⟩; have HB3 : Hid (Below w1.heap.size w1 w3) := Lib.hid (HB2.out.trans (hd3.below _)); obtain ⟨q0, q1, q2, q3⟩ := cells4 (HK.out.below HB3.out HGL.out); clear hd3) | (go_at_call 84; refine (HWT.out _ HB3.out).mono ?_; rintro e w4 ⟨rfl, hb4⟩; have HB4 : Hid (Below w1.heap.size w1 w4) := Lib.hid (HB3.out.trans (hb4.mono HB3.out.size)); clear hb4))
      go_ret2
      rw [HE.out, HF.out]
      exact ⟨rfl, HB1.out.trans (HB4.out.mono HSZ.out)⟩
set_option maxRecDepth 100000 in
set_option maxHeartbeats 2000000 in
theorem implPuzzleWeight_any (s : Int) (A1 A2 A3 : Option Addr) (n1 c1 n2 c2 n3 c3 : Nat) (x1 x2 x3 : List Int) (AY : Option Addr) (nY cY : Nat) (ys : List Int) (w : World) (h : PS w A1 A2 A3 n1 n2 n3 x1 x2 x3) (hY : SI w AY nY ys) (hc3 : n3 ≤ c3) (hn : n1 ≤ 1099511627776 ∧ n2 ≤ 1099511627776 ∧ n3 ≤ 1099511627776) (hnY : nY ≤ 1099511627776) :
    Calls Try.prog 41 #[.agg #[.int .i64 s, .slice A1 n1 c1, .slice A2 n2 c2, .slice A3 n3 c3], .slice AY nY cY] w fun e w' => e = .returned (.tuple #[.int .i64 (pwV s x1 x2 x3 ys), .bool (pwB s x1 x2 x3 ys)]) ∧ Below w.heap.size w w' := by
  obtain ⟨w1, hw1⟩ : ∃ w1, w1 = w.alloc (.cells #[.int .i64 s, .slice A1 n1 c1, .slice A2 n2 c2, .slice A3 n3 c3] 35) := ⟨_, rfl⟩
  obtain ⟨g, hg⟩ : ∃ g, g = w.heap.size := ⟨_, rfl⟩
  have hk : Blk w1 g 35 #[.int .i64 s, .slice A1 n1 c1, .slice A2 n2 c2, .slice A3 n3 c3] := by rw [hw1, hg]; exact Blk.new _ _ _
  have hb : Below w.heap.size w w1 := by rw [hw1]; exact Below.alloc_self _ _
  have HB1 := Lib.hid hb
  have HW := Lib.hid hw1
  have HG := Lib.hid hg
  have HK := Lib.hid hk
  have hs := h.below hb (Nat.le_refl _)
  have HY := Lib.hid (hY.below hb (Nat.le_refl _))
  have HS3 := Lib.hid hs.2.2
  have HSZ := Lib.hid hb.size
  have HGL := Lib.hid hk.lt
  have HLN := Lib.hid hs.lens
  have HLY := Lib.hid hY.1
  obtain ⟨q0, q1, q2, q3⟩ := cells4 hk
  have HC := Lib.hid (implWeightedOk_any s A1 A2 A3 n1 c1 n2 c2 n3 c3 x1 x2 x3 w1 hs hc3 hn)
  clear hw1 hg hk hb hs h hY hc3 hn
  cases hu : pzB true s x1 x2 x3 with
  | false =>
    rw [hu] at HC
    have hf : pwB s x1 x2 x3 ys = false := by unfold pwB; rw [hu]; rfl
    have HF := Lib.hid hf
    have HE := Lib.hid (pw_no hf)
    clear hu hf
    go_enter Try.func41, Try.ntmps41
    go_upto_region 1 with fail
    rw [← HW.out, ← HG.out]
    go_wp2_with (first | (go_at_call 31; refine HC.out.mono ?_; rintro e w2 ⟨rfl, hb2⟩; have HB2 := Lib.hid hb2; obtain ⟨q0, q1, q2, q3⟩ := cells4 (HK.out.below hb2 HGL.out); clear hb2))
    go_ret2
    rw [HE.out, HF.out]
    exact ⟨rfl, HB1.out.trans (HB2.out.mono HSZ.out)⟩
  | true =>
    rw [hu] at HC
    have hp := (pzB_iff true s x1 x2 x3).1 hu
    have h17 : 1 ≤ s ∧ s ≤ 7 := ⟨hp.1.1, hp.1.2.1⟩
    obtain ⟨m, rfl⟩ : ∃ m : Nat, s = (m : Int) := ⟨s.toNat, by omega⟩
    have hl3 : n3 = tri m := by have h5 := hp.1.2.2.2.2; rw [Int.toNat_natCast] at h5; have := HLN.out.2.2; omega
    have HLW := Lib.hid (wg_last (ys := ys) hp)
    by_cases h5 : 5 < (m : Int)
    case pos =>
      have hf : pwB (m : Int) x1 x2 x3 ys = false := by unfold pwB; rw [shB_false (fun h => by have := h.1; omega)]; simp
      have HF := Lib.hid hf
      have HE := Lib.hid (pw_no hf)
      clear hu hf hp h17 hl3
      go_enter Try.func41, Try.ntmps41
      go_upto_region 1 with fail
      rw [← HW.out, ← HG.out]
      go_wp2_with (first | (go_at_call 31; refine HC.out.mono ?_; rintro e w2 ⟨rfl, hb2⟩; have HB2 := Lib.hid hb2; obtain ⟨q0, q1, q2, q3⟩ := cells4 (HK.out.below hb2 HGL.out); clear hb2))
      go_ret2
      rw [HE.out, HF.out]
      exact ⟨rfl, HB1.out.trans (HB2.out.mono HSZ.out)⟩
    case neg =>
    have HSH := Lib.hid (fun w' (hb' : Below w1.heap.size w1 w') => areShifts_any (m : Int) AY nY cY ys w' (HY.out.below hb' (Nat.le_refl _)) hnY (by omega))
    cases hv : shB (m : Int) ys with
    | false =>
      rw [hv] at HSH
      have hf : pwB (m : Int) x1 x2 x3 ys = false := by unfold pwB; rw [hv]; simp
      have HF := Lib.hid hf
      have HE := Lib.hid (pw_no hf)
      clear hu hv hf hp h17 hl3
      go_enter Try.func41, Try.ntmps41
      go_upto_region 1 with fail
      rw [← HW.out, ← HG.out]
      go_wp2_with (first | (go_at_call 31; refine HC.out.mono ?_; rintro e w2 ⟨rfl, hb2⟩; have HB2 := Lib.hid hb2; obtain ⟨q0, q1, q2, q3⟩ := cells4 (HK.out.below hb2 HGL.out); clear hb2) | (go_at_call 85; refine (HSH.out _ HB2.out).mono ?_; rintro e w3 ⟨rfl, hd3⟩; have HB3 : Hid (Below w1.heap.size w1 w3) := Lib.hid (HB2.out.trans (hd3.below _)); obtain ⟨q0, q1, q2, q3⟩ := cells4 (HK.out.below HB3.out HGL.out); clear hd3))
      go_ret2
      rw [HE.out, HF.out]
      exact ⟨rfl, HB1.out.trans (HB3.out.mono HSZ.out)⟩
    | true =>
      rw [hv] at HSH
      have hsh := (shB_iff _ _).1 hv
      have hf : pwB (m : Int) x1 x2 x3 ys = true := by unfold pwB; rw [hu, hv]; rfl
      have HF := Lib.hid hf
      have HE := Lib.hid (pw_yes hf)
      have hym : nY = m := by have := hsh.2.1; have := HLY.out; omega
      have HWT := Lib.hid (fun w' (hb' : Below w1.heap.size w1 w') => pzWeight_any m A1 A2 A3 n1 c1 n2 c2 n3 c3 x3 AY nY cY ys w' (HS3.out.below hb' (Nat.le_refl _)) (HY.out.below hb' (Nat.le_refl _)) (by have := hsh.1; omega) hl3 hym (fun k hk => hsh.2.2 k (by have := HLY.out; omega)))
      clear hu hv hf hp h17 hl3 hym hsh
      go_enter Try.func41, Try.ntmps41
      go_upto_region 1 with fail
      rw [← HW.out, ← HG.out]
      go_wp2_with (first | (go_at_call 31; refine HC.out.mono ?_; rintro e w2 ⟨rfl, hb2⟩; have HB2 := Lib.hid hb2; obtain ⟨q0, q1, q2, q3⟩ := cells4 (HK.out.below hb2 HGL.out); clear hb2) | (go_at_call 85; refine (HSH.out _ HB2.out).mono ?_; rintro e w3 ⟨rfl, hd3⟩; have HB3 : Hid (Below w1.heap.size w1 w3) := Lib.hid (HB2.out.trans (hd3.below _)); obtain ⟨q0, q1, q2, q3⟩ := cells4 (HK.out.below HB3.out HGL.out); clear hd3) | (go_at_call 86; refine (HWT.out _ HB3.out).mono ?_; rintro e w4 ⟨rfl, hb4⟩; have HB4 : Hid (Below w1.heap.size w1 w4) := Lib.hid (HB3.out.trans (hb4.mono HB3.out.size)); clear hb4))
      go_ret2
      rw [HE.out, HF.out, ← HLW.out]
      exact ⟨rfl, HB1.out.trans (HB4.out.mono HSZ.out)⟩
end Go.Proofs.Ytdappakjbclffaa
