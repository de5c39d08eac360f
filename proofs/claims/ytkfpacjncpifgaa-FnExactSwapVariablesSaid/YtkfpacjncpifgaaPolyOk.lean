/-
  Is a list of terms a polynomial: both sides answer polyB. Conditions: lengths below 2^40.
-/
import Derived.Test.YtkfpacjncpifgaaTermKey
namespace Go.Proofs.Ytkfpacjncpifgaa
open Go.RowKit

theorem isCoef_yes {x : Int} (h : x ≠ 0 ∧ -1000000 ≤ x ∧ x ≤ 1000000) (w : World) : Calls Try.prog 107 #[.int .i64 x] w fun r w' => r = .returned (.bool true) ∧ w' = w := by
  obtain ⟨h0, h1, h2⟩ := h
  have hb : (x != 0) = true := by simpa using h0
  go_enter Try.func107, Try.ntmps107
  go_wp2
  go_ret
  exact ⟨rfl, rfl⟩
theorem isCoef_no {x : Int} (h : ¬ (x ≠ 0 ∧ -1000000 ≤ x ∧ x ≤ 1000000)) (w : World) : Calls Try.prog 107 #[.int .i64 x] w fun r w' => r = .returned (.bool false) ∧ w' = w := by
  by_cases h0 : x = 0
  · subst h0
    clear h
    go_enter Try.func107, Try.ntmps107
    go_wp2
    go_ret
    exact ⟨rfl, rfl⟩
  · have hb : (x != 0) = true := by simpa using h0
    by_cases h1 : -1000000 ≤ x
    · have h2 : ¬ x ≤ 1000000 := fun h2 => h ⟨h0, h1, h2⟩
      clear h h0
      go_enter Try.func107, Try.ntmps107
      go_wp2
      go_ret
      exact ⟨rfl, rfl⟩
    · clear h h0
      go_enter Try.func107, Try.ntmps107
      go_wp2
      go_ret
      exact ⟨rfl, rfl⟩
set_option maxHeartbeats 1600000 in
theorem isValid_any (A : Option Addr) (n c : Nat) (xs : List Int) (x : Int) (w : World) (hs : SI w A n xs) (hn : n ≤ 1099511627776) :
    Calls Try.prog 117 #[.agg #[.slice A n c, .int .i64 x]] w fun r w' => r = .returned (.bool (goodT (xs, x))) ∧ Below w.heap.size w w' := by
  have hl := hs.1
  have no : ∀ (h : ¬ (xs.length = 7 ∧ smallE xs = true ∧ x ≠ 0 ∧ -1000000 ≤ x ∧ x ≤ 1000000)), goodT (xs, x) = false := fun h => goodT_no h
  have NO := Lib.hid no
  have HL := Lib.hid hl
  clear no hl
  by_cases h7 : n = 7
  · subst h7
    by_cases hc3 : x ≠ 0 ∧ -1000000 ≤ x ∧ x ≤ 1000000
    · go_enter Try.func117, Try.ntmps117
      go_wp2_with (go_at_call 107; refine (isCoef_yes hc3 _).mono ?_; rintro e w1 ⟨rfl, rfl⟩)
      have hb0 : Below w.heap.size w (w.alloc (.cells #[.slice A 7 c, .int .i64 x] 68)) := by go_grown
      have hs0 := hs.below hb0 (Nat.le_refl _)
      generalize (w.alloc (.cells #[.slice A 7 c, .int .i64 x] 68)) = w0 at *
      have HB := Lib.hid hb0
      clear hb0 hs
      go_loopw [18] (fun i wr => ∃ k : Nat, k ≤ 7 ∧ i = .int .i64 k ∧ (∀ j, j < k → 0 ≤ nth xs j ∧ nth xs j ≤ 24) ∧ Drawn w0 wr)
        (fun i _ => 7 - (intOf i).toNat)
      case atStart => exact ⟨0, Nat.zero_le _, rfl, fun j hj => absurd hj (by omega), Drawn.refl _⟩
      case round =>
        obtain ⟨k, hk, rfl, hall, hD⟩ := hrel
        have HA := Lib.hid hall
        have hs := hD.si hs0
        have HD := Lib.hid hD
        clear hall hD
        by_cases hlt : k < 7
        · obtain ⟨b, o, rfl, hb, hc⟩ := hs.at_ (by omega)
          have hc1 := hc k hlt
          obtain ⟨p, hp⟩ : ∃ p, p = nth xs k := ⟨_, rfl⟩
          rw [← hp] at hc1
          have HP := Lib.hid hp
          have hkI : (k : Int) < 7 := by omega
          clear hc hs hs0 hp
          by_cases hp0 : p < 0
          · go_wp2
            go_ret
            exact ⟨ret_bool (NO.out (fun h => by have := smallE_nth h.2.1 (k := k) (by rw [HL.out]; exact hlt); rw [← HP.out] at this; omega)).symm, HB.out.trans (HD.out.below _)⟩
          · by_cases hp1 : 24 < p
            · go_wp2
              go_ret
              exact ⟨ret_bool (NO.out (fun h => by have := smallE_nth h.2.1 (k := k) (by rw [HL.out]; exact hlt); rw [← HP.out] at this; omega)).symm, HB.out.trans (HD.out.below _)⟩
            · go_wp2
              go_roundw
              case rel => exact ⟨k + 1, by omega, by go_num, fun j hj => by
                rcases Nat.lt_or_ge j k with h | h
                · exact HA.out j h
                · obtain rfl : j = k := by omega
                  rw [← HP.out]; omega, HD.out⟩
              case measure => simp [intOf]; omega
        · have hk7 : k = 7 := by omega
          subst hk7
          go_wp2
          go_ret
          refine ⟨ret_bool ((goodT_iff _).2 ⟨HL.out, smallE_all (by show ∀ k, k < xs.length → _; rw [HL.out]; exact HA.out), hc3.1, hc3.2.1, hc3.2.2⟩).symm, HB.out.trans (HD.out.below _)⟩
    · go_enter Try.func117, Try.ntmps117
      go_wp2_with (go_at_call 107; refine (isCoef_no hc3 _).mono ?_; rintro e w1 ⟨rfl, rfl⟩)
      go_ret
      exact ⟨ret_bool (NO.out (fun h => hc3 h.2.2)).symm, by go_grown⟩
  · have h7' : ¬ (n : Int) = 7 := by omega
    go_enter Try.func117, Try.ntmps117
    go_wp2
    go_ret
    exact ⟨ret_bool (NO.out (fun h => by have := HL.out; omega)).symm, by go_grown⟩

set_option maxRecDepth 100000 in
set_option maxHeartbeats 1200000 in
theorem specPolyOk_any (A : Option Addr) (n c : Nat) (ts : List Tm) (w : World) (hs : TS w A n ts) (hn : n ≤ 1099511627776) (hne : ∀ k, k < n → (tm ts k).1.length ≤ 1099511627776) :
    Calls Try.prog 58 #[.slice A n c] w fun r w' => r = .returned (.bool (polyB ts)) ∧ Drawn w w' := by
  have HL := Lib.hid hs.1
  have HNE := Lib.hid hne
  clear hne
  by_cases hbig : 600 < n
  · go_enter Try.func58, Try.ntmps58
    go_wp2
    go_ret
    exact ⟨ret_bool (polyB_big (by rw [HL.out]; exact hbig)).symm, Drawn.refl _⟩
  go_enter Try.func58, Try.ntmps58
  go_wp2
  go_loopw [3] (fun i wr => ∃ k : Nat, k ≤ n ∧ i = .int .i64 k ∧ (∀ j, j < k → okAt ts j = true) ∧ Drawn w wr)
    (fun i _ => n - (intOf i).toNat)
  case atStart => exact ⟨0, Nat.zero_le _, rfl, fun j hj => absurd hj (by omega), Drawn.refl _⟩
  case round =>
    obtain ⟨k, hk, rfl, hall, hD⟩ := hrel
    have HA := Lib.hid hall
    have HD := Lib.hid hD
    have hts := hs.drawn hD
    clear hall hD hs
    by_cases hlt : k < n
    · have hlI : (k : Int) < (n : Int) := by omega
      obtain ⟨b, o, A', n', c', rfl, hb, hc0, hc1, hsi, hnc, hnil⟩ := hts.at_ hlt
      have no : goodT (tm ts k) = false → polyB ts = false := fun h => polyB_no (by rw [HL.out]; exact hlt) (okAt_bad h)
      have NO := Lib.hid no
      have HT := Lib.hid hts
      have HSI := Lib.hid hsi
      obtain ⟨x, hx⟩ : ∃ x, x = (tm ts k).2 := ⟨_, rfl⟩
      rw [← hx] at hc1
      have HX := Lib.hid hx
      have hlx : n' = (tm ts k).1.length := hsi.1.symm
      have HLX := Lib.hid hlx
      clear hts hsi hx no hnil hlx
      by_cases h7 : n' = 7
      · subst h7
        by_cases h0 : x = 0
        · subst h0
          go_wp2
          go_ret
          exact ⟨ret_bool (NO.out (goodT_no (fun h => h.2.2.1 HX.out.symm))).symm, HD.out⟩
        · have hx0 : (x == 0) = false := by simpa using h0
          by_cases hr : -1000000 ≤ x ∧ x ≤ 1000000
          · obtain ⟨hr0, hr1⟩ := hr
            go_wp2_with (go_at_call 82; refine (l1In_yes' hr0 hr1 _).mono ?_; rintro e w1 ⟨rfl, rfl⟩)
            go_loopw [4] (fun i w2 => ∃ j : Nat, j ≤ 7 ∧ i = .int .i64 j ∧ (∀ t, t < j → 0 ≤ nth (tm ts k).1 t ∧ nth (tm ts k).1 t ≤ 24) ∧ Drawn wr w2)
              (fun i _ => 7 - (intOf i).toNat)
            case atStart => exact ⟨0, Nat.zero_le _, rfl, fun j hj => absurd hj (by omega), Drawn.refl _⟩
            case round =>
              obtain ⟨j, hj, rfl, hall2, hD2⟩ := hrel
              have HA2 := Lib.hid hall2
              have hsi := hD2.si HSI.out
              have hts := HT.out.drawn hD2
              have HD2 := Lib.hid (HD.out.trans hD2)
              have HDw := Lib.hid hD2
              have hcx : wr.cell? ⟨b, o + k * 2, none⟩ = some (.slice A' 7 c') := by obtain ⟨m, rfl⟩ := hD2; exact hc0
              clear hall2 hD2 hc0 hc1
              by_cases hj7 : j < 7
              · have hjI : (j : Int) < 7 := by omega
                obtain ⟨b2, o2, rfl, hb2, hc2⟩ := hsi.at_ (by omega)
                have hcj := hc2 j hj7
                obtain ⟨p, hp⟩ : ∃ p, p = nth (tm ts k).1 j := ⟨_, rfl⟩
                rw [← hp] at hcj
                have HP := Lib.hid hp
                clear hc2 hsi hts hp
                by_cases hpr : 0 ≤ p ∧ p ≤ 24
                · obtain ⟨hp0, hp1⟩ := hpr
                  go_wp2_with (go_at_call 82; refine (l1In_yes' hp0 hp1 _).mono ?_; rintro e w1 ⟨rfl, rfl⟩)
                  go_roundw
                  case rel => exact ⟨j + 1, by omega, by go_num, fun t ht => by
                    rcases Nat.lt_or_ge t j with h | h
                    · exact HA2.out t h
                    · obtain rfl : t = j := by omega
                      rw [← HP.out]; omega, HDw.out⟩
                  case measure => simp [intOf]; omega
                · go_wp2_with (go_at_call 82; refine (l1In_no' (by omega) _).mono ?_; rintro e w1 ⟨rfl, rfl⟩)
                  go_ret
                  exact ⟨ret_bool (NO.out (goodT_no (fun h => hpr (by rw [HP.out]; exact smallE_nth h.2.1 (by rw [← HLX.out]; exact hj7))))).symm, HD2.out⟩
              · have hj7 : j = 7 := by omega
                subst hj7
                have hgood : goodT (tm ts k) = true := (goodT_iff _).2 ⟨HLX.out.symm, smallE_all (by rw [← HLX.out]; exact HA2.out), by rw [← HX.out]; exact h0, by rw [← HX.out]; exact hr0, by rw [← HX.out]; exact hr1⟩
                have HG := Lib.hid hgood
                have HSI2 := Lib.hid hsi
                clear hgood hsi
                by_cases hk0 : k = 0
                · subst hk0
                  clear hts
                  go_wp2_with fail
                  go_quiet (fail)
                  go_wp2
                  go_roundw
                  case rel => exact ⟨1, by omega, by go_num, fun j hj => by
                    obtain rfl : j = 0 := by omega
                    exact okAt_zero HG.out, HD2.out.drewN _⟩
                  case measure => simp [intOf]; omega
                · obtain ⟨m, rfl⟩ : ∃ m, k = m + 1 := ⟨k - 1, by omega⟩
                  obtain ⟨b3, o3, A3, n3, c3, e3, hb3, hd0, hd1, hsi3, hnc3, hnil3⟩ := hts.at_ (k := m) (by omega)
                  injection e3 with e3
                  injection e3 with e31 e32 e33
                  subst e31; subst e32
                  have hg3 := (goodT_iff _).1 (okAt_good (HA.out m (by omega)))
                  have e7 : n3 = 7 := by rw [← hsi3.1]; exact hg3.1
                  subst e7
                  have HSI3 := Lib.hid hsi3
                  have HG3 := Lib.hid hg3.2.1
                  have HG2 := Lib.hid ((goodT_iff _).1 HG.out).2.1
                  have hmw : IntKind.i64.wrap (((m + 1 : Nat) : Int) - 1) = (m : Int) := by rw [IntWalk.i64_in _ (by omega)]; omega
                  have hm0 : (0 : Int) < ((m + 1 : Nat) : Int) := by omega
                  have hmI : (m : Int) < (n : Int) := by omega
                  obtain ⟨p, hp⟩ : ∃ p, p = key7 (tm ts m).1 := ⟨_, rfl⟩
                  obtain ⟨q, hq⟩ : ∃ q, q = key7 (tm ts (m + 1)).1 := ⟨_, rfl⟩
                  have HPQ := Lib.hid (And.intro hp hq)
                  have K1 := fun nd => Calls.quiet_of (l2Key_any A3 c3 (tm ts m).1 (wr.drewN nd) (HSI3.out.drewN nd) HG3.out)
                  have K2 := fun nd => Calls.quiet_of (l2Key_any A' c' (tm ts (m + 1)).1 (wr.drewN nd) (HSI2.out.drewN nd) HG2.out)
                  rw [← hp] at K1
                  rw [← hq] at K2
                  have HK1 := Lib.hid K1
                  have HK2 := Lib.hid K2
                  clear hts hsi3 hg3 hd1 hp hq K1 K2 hnil3
                  by_cases hpq : p ≤ q
                  · go_wp2_with fail
                    go_quiet ((go_at_call 113; first | with_reducible exact HK1.out _ | with_reducible exact HK2.out _))
                    go_wp2
                    go_ret
                    exact ⟨ret_bool (polyB_no (k := m + 1) (by rw [HL.out]; exact hlt) (okAt_wrong (by omega) (by show ¬ key7 (tm ts (m + 1)).1 < key7 (tm ts m).1; rw [← HPQ.out.1, ← HPQ.out.2]; omega))).symm, HD2.out.drewN _⟩
                  · go_wp2_with fail
                    go_quiet ((go_at_call 113; first | with_reducible exact HK1.out _ | with_reducible exact HK2.out _))
                    go_wp2
                    go_roundw
                    case rel => exact ⟨m + 1 + 1, by omega, by go_num, fun j hj => by
                      rcases Nat.lt_or_ge j (m + 1) with h | h
                      · exact HA.out j h
                      · obtain rfl : j = m + 1 := by omega
                        exact okAt_step HG.out (by show key7 (tm ts (m + 1)).1 < key7 (tm ts m).1; rw [← HPQ.out.1, ← HPQ.out.2]; omega), HD2.out.drewN _⟩
                    case measure => simp [intOf]; omega
          · go_wp2_with (go_at_call 82; refine (l1In_no' (by omega) _).mono ?_; rintro e w1 ⟨rfl, rfl⟩)
            go_ret
            exact ⟨ret_bool (NO.out (goodT_no (fun h => hr (by rw [HX.out]; exact h.2.2.2)))).symm, HD.out⟩
      · have h7' : ¬ (n' : Int) = 7 := by omega
        go_wp2
        go_ret
        exact ⟨ret_bool (NO.out (goodT_no (fun h => h7 (by rw [HLX.out]; exact h.1)))).symm, HD.out⟩
    · have hkn : k = n := by omega
      subst hkn
      go_wp2
      go_ret
      exact ⟨ret_bool (polyB_all (by rw [HL.out]; omega) (by rw [HL.out]; exact HA.out)).symm, HD.out⟩
end Go.Proofs.Ytkfpacjncpifgaa
