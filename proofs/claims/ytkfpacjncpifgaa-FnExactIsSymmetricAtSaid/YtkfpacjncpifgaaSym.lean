/-
  Symmetric at two variables, both sides. Conditions: lengths below 2^40.
-/
import Derived.Test.YtkfpacjncpifgaaCoef
import Derived.Test.YtkfpacjncpifgaaSwapI
namespace Go.Proofs.Ytkfpacjncpifgaa
open Go.RowKit

/-- Descending keys. -/
def kle (a b : Tm) : Bool := decide (key7 b.1 ≤ key7 a.1)
theorem swap_len {ts : List Tm} {i : Nat} (hp : polyB ts = true) (hi : i ≤ 5) : (swapPoly ts i).length = ts.length := by
  have hex := polyB_ex7 hp
  have hexS := swT_ex7 hex (i := i) (by omega)
  have hperm := List.mergeSort_perm (swT ts i) kle
  have hs := List.pairwise_mergeSort (le := kle) (fun a b c h1 h2 => by unfold kle at *; simp only [decide_eq_true_eq] at *; omega) (fun a b => by unfold kle; rcases Int.le_total (key7 b.1) (key7 a.1) with h | h <;> simp [h]) (swT ts i)
  have hs' : ((swT ts i).mergeSort kle).Pairwise (fun a b => 0 ≤ cmpX b.1 a.1 7) := by
    refine hs.imp_of_mem ?_
    intro a b ha hb h
    have ea := hexS a (hperm.mem_iff.1 ha)
    have eb := hexS b (hperm.mem_iff.1 hb)
    rw [cmpX_key eb.1 ea.1 eb.2 ea.2 7 (Nat.le_refl _) (fun j h1 h2 => absurd h1 (by omega))]
    unfold kle at h
    simp only [decide_eq_true_eq] at h
    unfold cmpK
    split
    · omega
    · split <;> omega
  rw [← swap_sorted hp hi hperm hs', hperm.length_eq]
  simp [swT]
/-- The polynomial is as it is with two variables exchanged. -/
def symB (ts : List Tm) (i : Int) : Bool := polyB ts && decide (0 ≤ i ∧ i ≤ 5) && decide (ts = swapPoly ts i)
theorem symB_no {ts : List Tm} {i : Int} (h : ¬ (polyB ts = true ∧ 0 ≤ i ∧ i ≤ 5)) : symB ts i = false := by
  unfold symB
  cases hp : polyB ts
  · rfl
  · rw [decide_eq_false (fun h2 => h ⟨hp, h2⟩)]; rfl
theorem symB_yes {ts : List Tm} {i : Int} (h : polyB ts = true) (hi : 0 ≤ i ∧ i ≤ 5) : symB ts i = decide (ts = swapPoly ts i) := by
  unfold symB; rw [h, decide_eq_true hi]; rfl
theorem tms_all {ts us : List Tm} (hl : ts.length = us.length) (h : ∀ j, j < ts.length → tm ts j = tm us j) : ts = us := by
  apply List.ext_getElem hl
  intro k h1 h2
  have := h k h1
  unfold tm at this
  simpa [List.getD, h1, h2] using this
theorem tms_ne {ts us : List Tm} {k : Nat} (h : ¬ tm ts k = tm us k) : decide (ts = us) = false := decide_eq_false fun e => h (by rw [e])
theorem tms_eq {ts us : List Tm} (hl : ts.length = us.length) (h : ∀ j, j < ts.length → tm ts j = tm us j) : decide (ts = us) = true := decide_eq_true (tms_all hl h)
theorem tm_pair {ts us : List Tm} {k : Nat} (h1 : (tm ts k).1 = (tm us k).1) (h2 : (tm ts k).2 = (tm us k).2) : tm ts k = tm us k := Prod.ext h1 h2

set_option maxHeartbeats 1600000 in
theorem l2SameTerms_any (A A' : Option Addr) (n c n' c' : Nat) (ts us : List Tm) (w : World) (hs : TS w A n ts) (hs' : TS w A' n' us) (hn : n ≤ 1099511627776) (hn' : n' ≤ 1099511627776)
    (hne : ∀ k, k < n → (tm ts k).1.length ≤ 1099511627776) (hne' : ∀ k, k < n' → (tm us k).1.length ≤ 1099511627776) :
    Calls Try.prog 70 #[.slice A n c, .slice A' n' c'] w fun r w' => r = .returned (.bool (decide (ts = us))) ∧ Drawn w w' := by
  have HL := Lib.hid (And.intro hs.1 hs'.1)
  have HNE := Lib.hid hne
  have HNE' := Lib.hid hne'
  clear hne hne'
  by_cases hnn : n = n'
  · subst hnn
    go_enter Try.func70, Try.ntmps70
    go_wp2
    go_loopw [5] (fun i wr => ∃ k : Nat, k ≤ n ∧ i = .int .i64 k ∧ (∀ j, j < k → tm ts j = tm us j) ∧ Drawn w wr)
      (fun i _ => n - (intOf i).toNat)
    case atStart => exact ⟨0, Nat.zero_le _, rfl, fun j hj => absurd hj (by omega), Drawn.refl _⟩
    case round =>
      obtain ⟨k, hk, rfl, hall, hD⟩ := hrel
      have HA := Lib.hid hall
      have HD := Lib.hid hD
      have hts := hs.drawn hD
      have hus := hs'.drawn hD
      clear hall hD hs hs'
      by_cases hlt : k < n
      · have hlI : (k : Int) < (n : Int) := by omega
        obtain ⟨b, o, A2, n2, c2, rfl, hb, hc0, hc1, hsi, hnc, hnil⟩ := hts.at_ hlt
        obtain ⟨b', o', A3, n3, c3, rfl, hb', hc0', hc1', hsi', hnc', hnil'⟩ := hus.at_ hlt
        have hl2 : n2 ≤ 1099511627776 := by have := HNE.out k hlt; have := hsi.1; omega
        have hl3 : n3 ≤ 1099511627776 := by have := HNE'.out k hlt; have := hsi'.1; omega
        obtain ⟨x, hx⟩ : ∃ x, x = (tm ts k).2 := ⟨_, rfl⟩
        obtain ⟨y, hy⟩ : ∃ y, y = (tm us k).2 := ⟨_, rfl⟩
        rw [← hx] at hc1
        rw [← hy] at hc1'
        have HX := Lib.hid (And.intro hx hy)
        have CA := fun nd => Calls.quiet_of (l1Same_any A2 A3 n2 c2 n3 c3 (tm ts k).1 (tm us k).1 (wr.drewN nd) (hsi.drewN nd) (hsi'.drewN nd) hl2 hl3)
        obtain ⟨q, hq⟩ : ∃ q, q = eqL (tm ts k).1 (tm us k).1 := ⟨_, rfl⟩
        rw [← hq] at CA
        have HQ := Lib.hid hq
        have HCA := Lib.hid CA
        clear hts hus hsi hsi' hx hy hq hnil hnil' CA hl2 hl3 hnc hnc'
        by_cases hxy : x = y
        · have HXY := Lib.hid hxy
          rw [← hxy] at hc1'
          clear hxy
          cases q with
          | true =>
            go_wp2_with fail
            go_quiet ((go_at_call 122; with_reducible exact HCA.out _))
            go_wp2
            go_roundw
            case rel => exact ⟨k + 1, by omega, by go_num, fun j hj => by
              rcases Nat.lt_or_ge j k with h | h
              · exact HA.out j h
              · obtain rfl : j = k := by omega
                exact tm_pair (of_decide_eq_true HQ.out.symm) (by rw [← HX.out.1, ← HX.out.2]; exact HXY.out), HD.out.drewN _⟩
            case measure => simp [intOf]; omega
          | false =>
            go_wp2_with fail
            go_quiet ((go_at_call 122; with_reducible exact HCA.out _))
            go_wp2
            go_ret
            exact ⟨ret_bool (tms_ne (k := k) (fun e => (of_decide_eq_false HQ.out.symm) (by rw [e]))).symm, HD.out.drewN _⟩
        · have HXY := Lib.hid hxy
          have hb1 : (x != y) = true := by simpa using hxy
          clear hxy
          go_wp2_with fail
          go_quiet (fail)
          go_wp2
          go_ret
          exact ⟨ret_bool (tms_ne (k := k) (fun e => HXY.out (by rw [HX.out.1, HX.out.2, e]))).symm, HD.out.drewN _⟩
      · have hkn : k = n := by omega
        subst hkn
        go_wp2
        go_ret
        exact ⟨ret_bool (tms_eq (by have := HL.out; omega) (by rw [HL.out.1]; exact HA.out)).symm, HD.out⟩
  · have hne' : ¬ (n : Int) = (n' : Int) := by omega
    go_enter Try.func70, Try.ntmps70
    go_wp2
    go_ret
    exact ⟨ret_bool (decide_eq_false (fun e => by have := HL.out; rw [e] at this; omega)).symm, Drawn.refl _⟩

set_option maxHeartbeats 1600000 in
theorem specSym_any (A : Option Addr) (n c : Nat) (ts : List Tm) (i : Int) (w : World) (hs : TS w A n ts) (hn : n ≤ 1099511627776) (hne : ∀ k, k < n → (tm ts k).1.length ≤ 1099511627776) :
    Calls Try.prog 22 #[.slice A n c, .int .i64 i] w fun r w' => r = .returned (.bool (symB ts i)) ∧ Below w.heap.size w w' := by
  have hP := specPolyOk_any A n c ts w hs hn hne
  have hV := fun w => l2Variable_any i w
  cases hu : polyB ts with
  | false =>
    rw [hu] at hP
    have HE := Lib.hid (symB_no (ts := ts) (i := i) (fun h => by rw [hu] at h; cases h.1))
    have HP := Lib.hid hP
    clear hP hu hV
    go_enter Try.func22, Try.ntmps22
    go_wp2_with (go_at_call 58; refine HP.out.mono ?_; rintro e w7 ⟨rfl, hd7⟩; have HD7 := Lib.hid hd7; clear hd7)
    go_ret
    exact ⟨ret_bool HE.out.symm, HD7.out.below _⟩
  | true =>
    rw [hu] at hP
    by_cases hi : 0 ≤ i ∧ i ≤ 5
    · have HE := Lib.hid (symB_yes hu hi)
      have hsm := swapPoly_small ts i
      have HSM := Lib.hid hsm
      rw [decide_eq_true hi] at hV
      have HP := Lib.hid hP
      have HV := Lib.hid hV
      have HSW := Lib.hid (fun w' (hd : Drawn w w') => specSwap_any A n c ts i w' (hs.drawn hd) hn hne)
      have HNE := Lib.hid hne
      have HS := Lib.hid hs
      clear hP hu hV hi hsm hne hs
      go_enter Try.func22, Try.ntmps22
      go_wp2_with (first
        | (go_at_call 58; refine HP.out.mono ?_; rintro e w7 ⟨rfl, hd7⟩; have HD7 := Lib.hid hd7; clear hd7)
        | (go_at_call 59; refine (HV.out _).mono ?_; rintro e w8 ⟨rfl, rfl⟩)
        | (go_at_call 16; refine (HSW.out _ HD7.out).mono ?_; rintro e w1 ⟨A1, n1, c1, rfl, ho1, hb1⟩
           have HO1 := Lib.hid ho1
           have HB1 := Lib.hid hb1
           clear ho1 hb1)
        | (go_at_call 70
           refine (l2SameTerms_any A A1 n c n1 c1 ts (swapPoly ts i) _ ((HS.out.drawn HD7.out).below HB1.out (Nat.le_refl _)) HO1.out.si hn (by have h1 := HO1.out.len; have h2 := HSM.out.1; omega) HNE.out (fun k hk => by have := HSM.out.2 _ (tm_mem (ts := swapPoly ts i) (k := k) (by rw [HO1.out.len]; exact hk)); omega)).mono ?_
           rintro e w2 ⟨rfl, hd2⟩
           have HD2 := Lib.hid hd2
           clear hd2))
      go_ret
      have e7 := HD7.out.heap
      exact ⟨ret_bool HE.out.symm, (HD7.out.below w.heap.size).trans ((HB1.out.mono (by rw [e7]; exact Nat.le_refl _)).trans (HD2.out.below _))⟩
    · have HE := Lib.hid (symB_no (ts := ts) (i := i) (fun h => hi h.2))
      rw [decide_eq_false hi] at hV
      have HP := Lib.hid hP
      have HV := Lib.hid hV
      clear hP hu hV hi
      go_enter Try.func22, Try.ntmps22
      go_wp2_with (first
        | (go_at_call 58; refine HP.out.mono ?_; rintro e w7 ⟨rfl, hd7⟩; have HD7 := Lib.hid hd7; clear hd7)
        | (go_at_call 59; refine (HV.out _).mono ?_; rintro e w8 ⟨rfl, rfl⟩))
      go_ret
      exact ⟨ret_bool HE.out.symm, HD7.out.below _⟩

set_option maxHeartbeats 2000000 in
theorem implSym_any (A : Option Addr) (n c : Nat) (ts : List Tm) (i : Int) (w : World) (hs : TS w A n ts) (hn : n ≤ 1099511627776) (hne : ∀ k, k < n → (tm ts k).1.length ≤ 1099511627776) :
    Calls Try.prog 23 #[.slice A n c, .int .i64 i] w fun r w' => r = .returned (.bool (symB ts i)) ∧ Below w.heap.size w w' := by
  have hP := implPolyOk_any A n c ts w hs hn hne
  have hV := fun w => hasPairAt_any i w
  cases hu : polyB ts with
  | false =>
    rw [hu] at hP
    have HE := Lib.hid (symB_no (ts := ts) (i := i) (fun h => by rw [hu] at h; cases h.1))
    have HP := Lib.hid hP
    clear hP hu hV
    go_enter Try.func23, Try.ntmps23
    go_wp2_with (go_at_call 64; refine HP.out.mono ?_; rintro e w7 ⟨rfl, hd7⟩; have HD7 := Lib.hid hd7; clear hd7)
    go_ret
    exact ⟨ret_bool HE.out.symm, HD7.out⟩
  | true =>
    rw [hu] at hP
    by_cases hi : 0 ≤ i ∧ i ≤ 5
    · obtain ⟨m, rfl⟩ : ∃ m : Nat, i = m := ⟨i.toNat, by omega⟩
      have HE := Lib.hid (symB_yes hu hi)
      have hsl : (swapPoly ts m).length = n := by rw [swap_len hu (by omega), hs.1]
      have HSM := Lib.hid (swapPoly_small ts m)
      have HL := Lib.hid (And.intro hs.1 hsl)
      rw [decide_eq_true hi] at hV
      have HP := Lib.hid hP
      have HV := Lib.hid hV
      have HSW := Lib.hid (fun w' (hd : Below w.heap.size w w') => implSwap_any A n c ts m w' (hs.below hd (Nat.le_refl _)) hn hne)
      have HNE := Lib.hid hne
      have HS := Lib.hid hs
      clear hP hu hV hi hsl hne hs
      go_enter Try.func23, Try.ntmps23
      go_wp2_with (first
        | (go_at_call 64; refine HP.out.mono ?_; rintro e w7 ⟨rfl, hd7⟩; have HD7 := Lib.hid hd7; clear hd7)
        | (go_at_call 65; refine (HV.out _).mono ?_; rintro e w8 ⟨rfl, rfl⟩)
        | (go_at_call 18; refine (HSW.out _ HD7.out).mono ?_; rintro e w1 ⟨A1, n1, c1, rfl, ho1, hb1⟩
           obtain rfl : n1 = n := by rw [← ho1.len]; exact HL.out.2
           have HO1 := Lib.hid ho1.si
           have HB1 := Lib.hid (HD7.out.trans (hb1.mono HD7.out.size))
           clear ho1 hb1))
      obtain ⟨us, hus⟩ : ∃ us, us = swapPoly ts m := ⟨_, rfl⟩
      rw [← hus] at HO1 HSM HL HE
      clear hus HSW HD7 HP HV
      go_loopw [19] (fun iv wr => ∃ k : Nat, k ≤ n1 ∧ iv = .int .i64 k ∧ (∀ j, j < k → tm ts j = tm us j) ∧ Below w1.heap.size w1 wr)
        (fun iv _ => n1 - (intOf iv).toNat)
      case atStart => exact ⟨0, Nat.zero_le _, rfl, fun j hj => absurd hj (by omega), Below.refl _ _⟩
      case round =>
        obtain ⟨k, hk, rfl, hall, hb⟩ := hrel
        have HA := Lib.hid hall
        have HB := Lib.hid hb
        have hts := (HS.out.below HB1.out (Nat.le_refl _)).below hb (Nat.le_refl _)
        have hus := HO1.out.below hb (Nat.le_refl _)
        clear hall hb
        by_cases hlt : k < n1
        · have hlI : (k : Int) < (n1 : Int) := by omega
          obtain ⟨b, o, A2, n2, c2, rfl, hbw, hc0, hc1, hsi, hnc, hnil⟩ := hts.at_ hlt
          obtain ⟨b', o', A3, n3, c3, rfl, hbw', hc0', hc1', hsi', hnc', hnil'⟩ := hus.at_ hlt
          have hl2 : n2 ≤ 1099511627776 := by have := HNE.out k hlt; have := hsi.1; omega
          have hl3 : n3 ≤ 1099511627776 := by have h1 := HSM.out.2 _ (tm_mem (ts := us) (k := k) (by rw [HL.out.2]; exact hlt)); have h2 := hsi'.1; omega
          obtain ⟨x, hx⟩ : ∃ x, x = (tm ts k).2 := ⟨_, rfl⟩
          obtain ⟨y, hy⟩ : ∃ y, y = (tm us k).2 := ⟨_, rfl⟩
          rw [← hx] at hc1
          rw [← hy] at hc1'
          have HX := Lib.hid (And.intro hx hy)
          obtain ⟨w2, hw2⟩ : ∃ w2, w2 = wr.alloc (.cells #[.slice A3 n3 c3, .int .i64 y] 68) := ⟨_, rfl⟩
          obtain ⟨G, hG⟩ : ∃ G, G = wr.heap.size := ⟨_, rfl⟩
          have hK2 : Blk w2 G 68 #[.slice A3 n3 c3, .int .i64 y] := by rw [hw2, hG]; exact Blk.new _ _ _
          have hbel2 : Below wr.heap.size wr w2 := by rw [hw2]; exact (Below.refl _ _).alloc (Nat.le_refl _) _
          have hd0 : w2.cell? ⟨G, 0, none⟩ = some (.slice A3 n3 c3) := hK2.cell 0
          have hd1 : w2.cell? ⟨G, 1, none⟩ = some (.int .i64 y) := hK2.cell 1
          have he0 : w2.cell? ⟨b, o + k * 2, none⟩ = some (.slice A2 n2 c2) := (hbel2.cell (p := ⟨b, o + k * 2, none⟩) hbw).trans hc0
          have he1 : w2.cell? ⟨b, o + k * 2 + 1, none⟩ = some (.int .i64 x) := (hbel2.cell (p := ⟨b, o + k * 2 + 1, none⟩) hbw).trans hc1
          have CA := fun nd => Calls.quiet_of (slicesEqual_any A3 A2 n3 c3 n2 c2 (tm us k).1 (tm ts k).1 (w2.drewN nd) ((hsi'.below hbel2 (Nat.le_refl _)).drewN nd) ((hsi.below hbel2 (Nat.le_refl _)).drewN nd) hl3 hl2)
          obtain ⟨q, hq⟩ : ∃ q, q = eqL (tm us k).1 (tm ts k).1 := ⟨_, rfl⟩
          rw [← hq] at CA
          have HQ := Lib.hid hq
          have HCA := Lib.hid CA
          have HW2 := Lib.hid hw2
          have HG := Lib.hid hG
          have HB2 := Lib.hid (HB.out.trans (hbel2.mono HB.out.size))
          clear hts hus hsi hsi' hx hy hq hnil hnil' CA hl2 hl3 hnc hnc' hw2 hG hK2 hbel2
          have hb1 : y = x ∨ (y != x) = true := by
            by_cases h : y = x
            · exact .inl h
            · exact .inr (by simpa using h)
          go_wp2_with fail
          rw [← HW2.out, ← HG.out]
          clear hc0 hc1 hc0' hc1' HW2 HG
          rcases hb1 with hyx | hyx
          · have HXY := Lib.hid hyx
            rw [hyx] at hd1
            clear hyx
            cases q with
            | true =>
              go_quiet ((go_at_call 71; with_reducible exact HCA.out _))
              go_wp2
              go_roundw
              case rel => exact ⟨k + 1, by omega, by go_num, fun j hj => by
                rcases Nat.lt_or_ge j k with h | h
                · exact HA.out j h
                · obtain rfl : j = k := by omega
                  exact tm_pair (of_decide_eq_true HQ.out.symm).symm (by rw [← HX.out.1, ← HX.out.2]; exact HXY.out.symm), HB2.out.drawnN _⟩
              case measure => simp [intOf]; omega
            | false =>
              go_quiet ((go_at_call 71; with_reducible exact HCA.out _))
              go_wp2
              go_ret
              exact ⟨ret_bool (by rw [HE.out]; exact (tms_ne (k := k) (fun e => (of_decide_eq_false HQ.out.symm) (by rw [e]))).symm), HB1.out.trans ((HB2.out.drawnN _).mono HB1.out.size)⟩
          · have HXY := Lib.hid hyx
            go_quiet (fail)
            go_wp2
            go_ret
            exact ⟨ret_bool (by rw [HE.out]; exact (tms_ne (k := k) (fun e => by have := HXY.out; rw [HX.out.1, HX.out.2, e] at this; simp at this)).symm), HB1.out.trans ((HB2.out.drawnN _).mono HB1.out.size)⟩
        · have hkn : k = n1 := by omega
          subst hkn
          go_wp2
          go_ret
          exact ⟨ret_bool (by rw [HE.out]; exact (tms_eq (by have := HL.out; omega) (by rw [HL.out.1]; exact HA.out)).symm), HB1.out.trans (HB.out.mono HB1.out.size)⟩
    · have HE := Lib.hid (symB_no (ts := ts) (i := i) (fun h => hi h.2))
      rw [decide_eq_false hi] at hV
      have HP := Lib.hid hP
      have HV := Lib.hid hV
      clear hP hu hV hi
      go_enter Try.func23, Try.ntmps23
      go_wp2_with (first
        | (go_at_call 64; refine HP.out.mono ?_; rintro e w7 ⟨rfl, hd7⟩; have HD7 := Lib.hid hd7; clear hd7)
        | (go_at_call 65; refine (HV.out _).mono ?_; rintro e w8 ⟨rfl, rfl⟩))
      go_ret
      exact ⟨ret_bool HE.out.symm, HD7.out⟩
end Go.Proofs.Ytkfpacjncpifgaa
