/-
  The document's test for tableaux. Conditions: lengths below 2^40.
-/
import Derived.Test.YtdkcngilmdpbgaaTab
namespace Go.Proofs.Ytdkcngilmdpbgaa
open Go.RowKit

set_option maxRecDepth 100000 in
set_option maxHeartbeats 40000000 in
theorem specTab_any (A : Option Addr) (n c : Nat) (ls : List (List Int)) (w : World) (hs : LS w A n ls) (hn : n ≤ 1099511627776) (hne : ∀ k, k < n → (li ls k).length ≤ 1099511627776) :
    Calls Try.prog 90 #[.slice A n c] w fun e w' => e = .returned (.bool (tabB ls)) ∧ Drawn w w' := by
  have HL := Lib.hid hs.1
  have HNE := Lib.hid hne
  clear hne
  by_cases h16 : 16 < n
  · have h16I : (16 : Int) < (n : Int) := by omega
    have HF := Lib.hid (tabB_false (ls := ls) (fun h => by have := h.1.1; rw [lensL_len] at this; have := HL.out; omega))
    clear hs
    go_enter Try.func90, Try.ntmps90
    go_wp2
    go_ret
    exact ⟨ret_bool HF.out.symm, Drawn.refl _⟩
  · have h16I : ¬ (16 : Int) < (n : Int) := by omega
    go_enter Try.func90, Try.ntmps90
    go_wp2
    go_loopw [3] (fun iv wr => ∃ i : Nat, i ≤ n ∧ iv = .int .i64 i ∧ Drawn w wr ∧ (∀ k, k < i → shapeAt (lensL ls) k) ∧ ∀ k, k < i → ∀ j, j < (li ls k).length → cellOk ls k j)
      (fun iv _ => n - (intOf iv).toNat)
    case atStart => exact ⟨0, Nat.zero_le _, rfl, Drawn.refl _, fun k hk => absurd hk (by omega), fun k hk => absurd hk (by omega)⟩
    case round =>
      obtain ⟨i, hi, rfl, hD, hsh, hce⟩ := hrel
      have HD := Lib.hid hD
      have HSH := Lib.hid hsh
      have HCE := Lib.hid hce
      have hts := hs.drawn hD
      clear hD hsh hce
      by_cases hlt : i < n
      · have hiI : (i : Int) < (n : Int) := by omega
        have hiL : i < ls.length := by rw [HL.out]; exact hlt
        cases i with
        | zero =>
          obtain ⟨b, o, A1, m1, c1, rfl, hb, hr1, hsi1, _, _⟩ := hts.at_ hlt
          rw [Nat.add_zero] at hr1
          have hm1 : (li ls 0).length = m1 := hsi1.1
          by_cases hr : (1 : Int) ≤ (m1 : Int) ∧ (m1 : Int) ≤ 16
          · obtain ⟨hra, hrb⟩ := hr
            have HSHI : Hid (shapeAt (lensL ls) 0) := Lib.hid ((shapeAt_lens hiL).2 (.inl ⟨by omega, by omega, fun h => by omega⟩))
            have HM1 := Lib.hid hm1
            have HSI1 := Lib.hid hsi1
            have HR1 := Lib.hid hr1
            obtain ⟨wo, rfl⟩ : ∃ wo, wo = wr := ⟨wr, rfl⟩
            go_wp2_with fail
            go_quiet ((go_at_call 70; exact Calls.quiet_of (l1In_yes hra hrb _)))
            clear hr1 hsi1 hts hm1
            go_wp2_with fail
            go_loopw [4] (fun jv wx => ∃ j : Nat, j ≤ m1 ∧ jv = .int .i64 j ∧ Drawn wo wx ∧ ∀ k, k < j → cellOk ls 0 k)
              (fun jv _ => m1 - (intOf jv).toNat)
            case atStart => exact ⟨0, Nat.zero_le _, rfl, ⟨_, rfl⟩, fun k hk => absurd hk (by omega)⟩
            case round =>
              obtain ⟨j, hj, rfl, hD, hce⟩ := hrel
              have HDJ := Lib.hid hD
              have HCJ := Lib.hid hce
              have hsi1 := hD.si HSI1.out
              have hr1 : wr.cell? ⟨b, o, none⟩ = some (.slice A1 m1 c1) := by obtain ⟨z, rfl⟩ := hD; exact HR1.out
              clear hD hce
              by_cases hlt2 : j < m1
              · have hjI : (j : Int) < (m1 : Int) := by omega
                obtain ⟨b1, o1, rfl, _, hcc1⟩ := hsi1.at_ (by omega)
                have hx := hcc1 j hlt2
                obtain ⟨x, hx0⟩ : ∃ x, x = cel ls 0 j := ⟨_, rfl⟩
                rw [show nth (li ls 0) j = x from hx0.symm] at hx
                have HX := Lib.hid hx0
                clear hx0
                have hfail : ¬ cellOk ls 0 j → tabB ls = false := fun h => tabB_false (fun h2 => h (h2.2 0 hiL j (by rw [HM1.out]; exact hlt2)))
                have HFAIL := Lib.hid hfail
                clear hfail
                by_cases hrg : 0 ≤ x ∧ x ≤ 20
                · obtain ⟨hx1, hx2⟩ := hrg
                  cases j with
                  | zero =>
                    rw [Nat.add_zero] at hx
                    clear hsi1 hcc1
                    have HG : Hid (cellOk ls 0 0) := Lib.hid ⟨by have := HX.out; omega, by have := HX.out; omega, fun h => absurd h (by omega), fun h => absurd h (by omega)⟩
                    go_wp2_with fail
                    go_quiet ((go_at_call 70; exact Calls.quiet_of (l1In_yes hx1 hx2 _)))
                    go_wp2
                    go_roundw
                    case rel => exact ⟨0 + 1, by omega, by go_num, HDJ.out.drewN _, fun k hk => by
                      rcases Nat.lt_or_ge k 0 with h | h
                      · exact HCJ.out k h
                      · rw [show k = 0 by omega]; exact HG.out⟩
                    case measure => simp [intOf]; omega
                  | succ r =>
                    have hz := hcc1 r (by omega)
                    obtain ⟨z, hz0⟩ : ∃ z, z = cel ls 0 r := ⟨_, rfl⟩
                    rw [show nth (li ls 0) r = z from hz0.symm] at hz
                    have HZ := Lib.hid hz0
                    clear hz0
                    have hrI : (r : Int) < (m1 : Int) := by omega
                    have hrpos : (0 : Int) < ((r + 1 : Nat) : Int) := by omega
                    have hjI2 : (r : Int) + 1 < (m1 : Int) := by omega
                    have hwr2 : IntKind.i64.wrap (((r + 1 : Nat) : Int) - 1) = (r : Int) := by rw [show ((r + 1 : Nat) : Int) - 1 = (r : Int) by omega]; exact IntWalk.i64_in _ (by omega)
                    clear hsi1 hcc1
                    by_cases hzx : x < z
                    · skip
                      have HF := Lib.hid (HFAIL.out (fun h => by have := h.2.2.1 (by omega); rw [show r + 1 - 1 = r by omega] at this; have := HX.out; have := HZ.out; omega))
                      go_wp2_with fail
                      go_quiet ((go_at_call 70; exact Calls.quiet_of (l1In_yes hx1 hx2 _)))
                      go_wp2
                      go_ret
                      exact ⟨ret_bool HF.out.symm, (HD.out.trans HDJ.out).drewN _⟩
                    · skip
                      have HG : Hid (cellOk ls 0 (r + 1)) := Lib.hid ⟨by have := HX.out; omega, by have := HX.out; omega, fun _ => by rw [show r + 1 - 1 = r by omega]; have := HX.out; have := HZ.out; omega, fun h => absurd h (by omega)⟩
                      go_wp2_with fail
                      have hzb7 : ¬ x < z := by omega
                      go_quiet ((go_at_call 70; exact Calls.quiet_of (l1In_yes hx1 hx2 _)))
                      go_wp2
                      go_roundw
                      case rel => exact ⟨r + 1 + 1, by omega, by go_num, HDJ.out.drewN _, fun k hk => by
                        rcases Nat.lt_or_ge k (r + 1) with h | h
                        · exact HCJ.out k h
                        · rw [show k = r + 1 by omega]; exact HG.out⟩
                      case measure => simp [intOf]; omega
                · have hbad : x < 0 ∨ 20 < x := by omega
                  clear hsi1 hcc1
                  have HF := Lib.hid (HFAIL.out (fun h => by have h1 := h.1; have h2 := h.2.1; have := HX.out; omega))
                  go_wp2_with fail
                  go_quiet ((go_at_call 70; exact Calls.quiet_of (l1In_no hbad _)))
                  go_wp2
                  go_ret
                  exact ⟨ret_bool HF.out.symm, (HD.out.trans HDJ.out).drewN _⟩
              · have hjm : j = m1 := by omega
                subst hjm
                clear hsi1
                go_wp2
                go_roundw
                case rel => exact ⟨0 + 1, by omega, by go_num, HD.out.trans HDJ.out, fun k hk => by
                  rcases Nat.lt_or_ge k 0 with h | h
                  · exact HSH.out k h
                  · rw [show k = 0 by omega]; exact HSHI.out, fun k hk => by
                  rcases Nat.lt_or_ge k 0 with h | h
                  · exact HCE.out k h
                  · rw [show k = 0 by omega, HM1.out]; exact HCJ.out⟩
                case measure => simp [intOf]; omega
          · have hbad : (m1 : Int) < 1 ∨ 16 < (m1 : Int) := by omega
            have HF := Lib.hid (tabB_false (ls := ls) (fun h => by have h1 := h.1.2 0 (by rw [lensL_len]; exact hiL); have h2 := prevS_le (xs := lensL ls) (k := 0) (fun j hj => h.1.2 j (by rw [lensL_len]; omega)); unfold shapeAt at h1; rw [lensL_nth hiL, hm1] at h1; omega))
            clear hsi1 hm1 hts
            go_wp2_with fail
            go_quiet ((go_at_call 70; exact Calls.quiet_of (l1In_no hbad _)))
            go_wp2
            go_ret
            exact ⟨ret_bool HF.out.symm, HD.out.drewN _⟩
        | succ q =>
          obtain ⟨b, o, A1, m1, c1, rfl, hb, hr1, hsi1, _, _⟩ := hts.at_ hlt
          obtain ⟨b0, o0, A0, m0, c0, e0, _, hr0, hsi0, _, _⟩ := hts.at_ (k := q) (by omega)
          obtain ⟨rfl, rfl⟩ : b = b0 ∧ o = o0 := by simpa using e0
          have hm1 : (li ls (q + 1)).length = m1 := hsi1.1
          have hm0 : (li ls q).length = m0 := hsi0.1
          have hqI : (q : Int) < (n : Int) := by omega
          have hq0 : (0 : Int) < ((q + 1 : Nat) : Int) := by omega
          have hwq : IntKind.i64.wrap (((q + 1 : Nat) : Int) - 1) = (q : Int) := by rw [show ((q + 1 : Nat) : Int) - 1 = (q : Int) by omega]; exact IntWalk.i64_in _ (by omega)
          have hm0b : m0 ≤ 16 := by have h1 := HSH.out q (by omega); have h2 := (prevS_le (k := q) (fun j hj => HSH.out j (by omega))); unfold shapeAt at h1; rw [lensL_nth (by omega), hm0] at h1; omega
          by_cases hr : (1 : Int) ≤ (m1 : Int) ∧ (m1 : Int) ≤ 16
          · obtain ⟨hra, hrb⟩ := hr
            by_cases hmm : (m0 : Int) < (m1 : Int)
            · have HF := Lib.hid (tabB_false (ls := ls) (fun h => by have h1 := (shapeAt_lens hiL).1 (h.1.2 (q + 1) (by rw [lensL_len]; exact hiL)); rw [hm1, show q + 1 - 1 = q by omega, hm0] at h1; omega))
              clear hsi1 hsi0 hm1 hm0 hts
              go_wp2_with fail
              go_quiet ((go_at_call 70; exact Calls.quiet_of (l1In_yes hra hrb _)))
              go_wp2
              go_ret
              exact ⟨ret_bool HF.out.symm, HD.out.drewN _⟩
            · skip
              have HSHI : Hid (shapeAt (lensL ls) (q + 1)) := Lib.hid ((shapeAt_lens hiL).2 (.inl ⟨by omega, by omega, fun h => by rw [show q + 1 - 1 = q by omega]; omega⟩))
              have HM1 := Lib.hid hm1
              have HM0 := Lib.hid hm0
              have HSI1 := Lib.hid hsi1
              have HSI0 := Lib.hid hsi0
              have HR1 := Lib.hid hr1
              have HR0 := Lib.hid hr0
              obtain ⟨wo, rfl⟩ : ∃ wo, wo = wr := ⟨wr, rfl⟩
              go_wp2_with fail
              go_quiet ((go_at_call 70; exact Calls.quiet_of (l1In_yes hra hrb _)))
              clear hr1 hsi1 hts hm1 hr0 hsi0 hm0
              go_wp2_with fail
              go_loopw [4] (fun jv wx => ∃ j : Nat, j ≤ m1 ∧ jv = .int .i64 j ∧ Drawn wo wx ∧ ∀ k, k < j → cellOk ls (q + 1) k)
                (fun jv _ => m1 - (intOf jv).toNat)
              case atStart => exact ⟨0, Nat.zero_le _, rfl, ⟨_, rfl⟩, fun k hk => absurd hk (by omega)⟩
              case round =>
                obtain ⟨j, hj, rfl, hD, hce⟩ := hrel
                have HDJ := Lib.hid hD
                have HCJ := Lib.hid hce
                have hsi1 := hD.si HSI1.out
                have hsi0 := hD.si HSI0.out
                have hr1 : wr.cell? ⟨b, o + (q + 1), none⟩ = some (.slice A1 m1 c1) := by obtain ⟨z, rfl⟩ := hD; exact HR1.out
                have hr0 : wr.cell? ⟨b, o + q, none⟩ = some (.slice A0 m0 c0) := by obtain ⟨z, rfl⟩ := hD; exact HR0.out
                clear hD hce
                by_cases hlt2 : j < m1
                · have hjI : (j : Int) < (m1 : Int) := by omega
                  have hjm0 : j < m0 := by have h := (shapeAt_lens hiL).1 HSHI.out; rw [HM1.out, show q + 1 - 1 = q by omega, HM0.out] at h; omega
                  have hjI0 : (j : Int) < (m0 : Int) := by omega
                  obtain ⟨b1, o1, rfl, _, hcc1⟩ := hsi1.at_ (by omega)
                  have hx := hcc1 j hlt2
                  obtain ⟨x, hx0⟩ : ∃ x, x = cel ls (q + 1) j := ⟨_, rfl⟩
                  rw [show nth (li ls (q + 1)) j = x from hx0.symm] at hx
                  have HX := Lib.hid hx0
                  clear hx0
                  obtain ⟨b2, o2, rfl, _, hcc2⟩ := hsi0.at_ (by omega)
                  have hy := hcc2 j hjm0
                  obtain ⟨y, hy0⟩ : ∃ y, y = cel ls q j := ⟨_, rfl⟩
                  rw [show nth (li ls q) j = y from hy0.symm] at hy
                  have HY := Lib.hid hy0
                  clear hy0
                  have hfail : ¬ cellOk ls (q + 1) j → tabB ls = false := fun h => tabB_false (fun h2 => h (h2.2 (q + 1) hiL j (by rw [HM1.out]; exact hlt2)))
                  have HFAIL := Lib.hid hfail
                  clear hfail
                  by_cases hrg : 0 ≤ x ∧ x ≤ 20
                  · obtain ⟨hx1, hx2⟩ := hrg
                    cases j with
                    | zero =>
                      rw [Nat.add_zero] at hx hy
                      clear hsi1 hcc1 hsi0 hcc2
                      by_cases hyx : x ≤ y
                      · have hyx' : ¬ y < x := by omega
                        have HF := Lib.hid (HFAIL.out (fun h => by have := h.2.2.2 (by omega); rw [show q + 1 - 1 = q by omega] at this; have := HX.out; have := HY.out; omega))
                        go_wp2_with fail
                        go_quiet ((go_at_call 70; exact Calls.quiet_of (l1In_yes hx1 hx2 _)))
                        go_wp2
                        go_ret
                        exact ⟨ret_bool HF.out.symm, (HD.out.trans HDJ.out).drewN _⟩
                      · have hyx' : y < x := by omega
                        have HG : Hid (cellOk ls (q + 1) 0) := Lib.hid ⟨by have := HX.out; omega, by have := HX.out; omega, fun h => absurd h (by omega), fun _ => by rw [show q + 1 - 1 = q by omega]; have := HX.out; have := HY.out; omega⟩
                        go_wp2_with fail
                        have hzb7 : ¬ x ≤ y := by omega
                        go_quiet ((go_at_call 70; exact Calls.quiet_of (l1In_yes hx1 hx2 _)))
                        go_wp2
                        go_roundw
                        case rel => exact ⟨0 + 1, by omega, by go_num, HDJ.out.drewN _, fun k hk => by
                          rcases Nat.lt_or_ge k 0 with h | h
                          · exact HCJ.out k h
                          · rw [show k = 0 by omega]; exact HG.out⟩
                        case measure => simp [intOf]; omega
                    | succ r =>
                      have hz := hcc1 r (by omega)
                      obtain ⟨z, hz0⟩ : ∃ z, z = cel ls (q + 1) r := ⟨_, rfl⟩
                      rw [show nth (li ls (q + 1)) r = z from hz0.symm] at hz
                      have HZ := Lib.hid hz0
                      clear hz0
                      have hrI : (r : Int) < (m1 : Int) := by omega
                      have hrpos : (0 : Int) < ((r + 1 : Nat) : Int) := by omega
                      have hjI2 : (r : Int) + 1 < (m1 : Int) := by omega
                      have hjI3 : (r : Int) + 1 < (m0 : Int) := by omega
                      have hwr2 : IntKind.i64.wrap (((r + 1 : Nat) : Int) - 1) = (r : Int) := by rw [show ((r + 1 : Nat) : Int) - 1 = (r : Int) by omega]; exact IntWalk.i64_in _ (by omega)
                      clear hsi1 hcc1 hsi0 hcc2
                      by_cases hzx : x < z
                      · skip
                        have HF := Lib.hid (HFAIL.out (fun h => by have := h.2.2.1 (by omega); rw [show r + 1 - 1 = r by omega] at this; have := HX.out; have := HZ.out; omega))
                        go_wp2_with fail
                        go_quiet ((go_at_call 70; exact Calls.quiet_of (l1In_yes hx1 hx2 _)))
                        go_wp2
                        go_ret
                        exact ⟨ret_bool HF.out.symm, (HD.out.trans HDJ.out).drewN _⟩
                      · by_cases hyx : x ≤ y
                        · skip
                          have HF := Lib.hid (HFAIL.out (fun h => by have := h.2.2.2 (by omega); rw [show q + 1 - 1 = q by omega] at this; have := HX.out; have := HY.out; omega))
                          go_wp2_with fail
                          have hzb7 : ¬ x < z := by omega
                          go_quiet ((go_at_call 70; exact Calls.quiet_of (l1In_yes hx1 hx2 _)))
                          go_wp2
                          go_ret
                          exact ⟨ret_bool HF.out.symm, (HD.out.trans HDJ.out).drewN _⟩
                        · have hyx' : y < x := by omega
                          have HG : Hid (cellOk ls (q + 1) (r + 1)) := Lib.hid ⟨by have := HX.out; omega, by have := HX.out; omega, fun _ => by rw [show r + 1 - 1 = r by omega]; have := HX.out; have := HZ.out; omega, fun _ => by rw [show q + 1 - 1 = q by omega]; have := HX.out; have := HY.out; omega⟩
                          go_wp2_with fail
                          have hzb7 : ¬ x < z := by omega
                          have hzb8 : ¬ x ≤ y  := by omega
                          go_quiet ((go_at_call 70; exact Calls.quiet_of (l1In_yes hx1 hx2 _)))
                          go_wp2
                          go_roundw
                          case rel => exact ⟨r + 1 + 1, by omega, by go_num, HDJ.out.drewN _, fun k hk => by
                            rcases Nat.lt_or_ge k (r + 1) with h | h
                            · exact HCJ.out k h
                            · rw [show k = r + 1 by omega]; exact HG.out⟩
                          case measure => simp [intOf]; omega
                  · have hbad : x < 0 ∨ 20 < x := by omega
                    clear hsi1 hcc1 hsi0 hcc2
                    have HF := Lib.hid (HFAIL.out (fun h => by have h1 := h.1; have h2 := h.2.1; have := HX.out; omega))
                    go_wp2_with fail
                    go_quiet ((go_at_call 70; exact Calls.quiet_of (l1In_no hbad _)))
                    go_wp2
                    go_ret
                    exact ⟨ret_bool HF.out.symm, (HD.out.trans HDJ.out).drewN _⟩
                · have hjm : j = m1 := by omega
                  subst hjm
                  clear hsi1 hsi0
                  go_wp2
                  go_roundw
                  case rel => exact ⟨(q + 1) + 1, by omega, by go_num, HD.out.trans HDJ.out, fun k hk => by
                    rcases Nat.lt_or_ge k (q + 1) with h | h
                    · exact HSH.out k h
                    · rw [show k = (q + 1) by omega]; exact HSHI.out, fun k hk => by
                    rcases Nat.lt_or_ge k (q + 1) with h | h
                    · exact HCE.out k h
                    · rw [show k = (q + 1) by omega, HM1.out]; exact HCJ.out⟩
                  case measure => simp [intOf]; omega
          · have hbad : (m1 : Int) < 1 ∨ 16 < (m1 : Int) := by omega
            have HF := Lib.hid (tabB_false (ls := ls) (fun h => by have h1 := h.1.2 (q + 1) (by rw [lensL_len]; exact hiL); have h2 := prevS_le (xs := lensL ls) (k := (q + 1)) (fun j hj => h.1.2 j (by rw [lensL_len]; omega)); unfold shapeAt at h1; rw [lensL_nth hiL, hm1] at h1; omega))
            clear hsi1 hm1 hts hsi0 hm0
            go_wp2_with fail
            go_quiet ((go_at_call 70; exact Calls.quiet_of (l1In_no hbad _)))
            go_wp2
            go_ret
            exact ⟨ret_bool HF.out.symm, HD.out.drewN _⟩
      · have hin : i = n := by omega
        subst hin
        have HT := Lib.hid (tabB_true (ls := ls) ⟨⟨by rw [lensL_len, HL.out]; omega, by rw [lensL_len, HL.out]; exact HSH.out⟩, by rw [HL.out]; exact HCE.out⟩)
        clear hts
        go_wp2
        go_ret
        exact ⟨ret_bool HT.out.symm, HD.out⟩
end Go.Proofs.Ytdkcngilmdpbgaa
