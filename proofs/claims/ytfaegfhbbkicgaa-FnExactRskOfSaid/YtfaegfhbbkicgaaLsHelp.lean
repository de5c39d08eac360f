/-
  The helpers of the exact laws at slices of slices of numbers: copying, measuring, comparing, marking, holding. Conditions: lengths below 2^40.
-/
import Derived.Test.YtfaegfhbbkicgaaLsMem
import Derived.Test.YtfaegfhbbkicgaaSzInt
namespace Go.Proofs.Ytfaegfhbbkicgaa
open Go.RowKit

theorem take_li {ls : List (List Int)} {k : Nat} (h : k < ls.length) : ls.take (k + 1) = ls.take k ++ [li ls k] := by
  rw [List.take_succ_eq_append_getElem h, li_get h]
def copLs (ls : List (List Int)) (k : Nat) : List (List Int) := ls.take k ++ List.replicate (ls.length - k) []
theorem copLs_zero (ls : List (List Int)) : copLs ls 0 = List.replicate ls.length [] := by simp [copLs]
theorem copLs_all (ls : List (List Int)) : copLs ls ls.length = ls := by simp [copLs]
theorem copLs_succ {ls : List (List Int)} {k : Nat} (h : k < ls.length) : (copLs ls k).set k (li ls k) = copLs ls (k + 1) := by
  unfold copLs
  have hl : (ls.take k).length = k := by simp; omega
  rw [List.set_append_right _ _ (by omega), hl]
  have e : ls.length - k = (ls.length - (k + 1)) + 1 := by omega
  rw [e, List.replicate_succ, Nat.sub_self, List.set_cons_zero, take_li h, List.append_assoc]
  rfl
/-- Equality of two lists of lists as a Bool. -/
def eqLs (ls us : List (List Int)) : Bool := decide (ls = us)
theorem eqLs_self (ls : List (List Int)) : eqLs ls ls = true := by simp [eqLs]
theorem eqLs_len {ls us : List (List Int)} (h : ls.length ≠ us.length) : eqLs ls us = false := by
  simp only [eqLs, decide_eq_false_iff_not]; intro e; exact h (by rw [e])
theorem eqLs_ne {ls us : List (List Int)} {k : Nat} (h : li ls k ≠ li us k) : eqLs ls us = false := by
  simp only [eqLs, decide_eq_false_iff_not]; intro e; exact h (by rw [e])
theorem eqL_true {xs ys : List Int} (h : eqL xs ys = true) : xs = ys := by simpa [eqL] using h
theorem eqL_false' {xs ys : List Int} (h : eqL xs ys = false) : xs ≠ ys := by simpa [eqL] using h
set_option maxHeartbeats 800000 in
theorem eqIntSS_any (A A2 : Option Addr) (n c n2 c2 : Nat) (ls us : List (List Int)) (w : World) (hs : LS w A n ls) (hs2 : LS w A2 n2 us) (hn : n ≤ 1099511627776) (hn2 : n2 ≤ 1099511627776)
    (hne : ∀ k, k < n → (li ls k).length ≤ 1099511627776) (hne2 : ∀ k, k < n2 → (li us k).length ≤ 1099511627776) :
    Calls Try.prog 33 #[.slice A n c, .slice A2 n2 c2] w fun e w' => e = .returned (.bool (eqLs ls us)) ∧ Drawn w w' := by
  have HL := Lib.hid hs.1
  have HL2 := Lib.hid hs2.1
  have HNE := Lib.hid hne
  have HNE2 := Lib.hid hne2
  clear hne hne2
  by_cases hlen : n = n2
  · subst hlen
    go_enter Try.func33, Try.ntmps33
    go_wp2
    go_loopw [5] (fun i wr => ∃ k : Nat, k ≤ n ∧ i = .int .i64 k ∧ Drawn w wr ∧ ∀ j, j < k → li ls j = li us j)
      (fun i _ => n - (intOf i).toNat)
    case atStart => exact ⟨0, Nat.zero_le _, rfl, Drawn.refl _, fun j hj => absurd hj (by omega)⟩
    case round =>
      obtain ⟨k, hk, rfl, hD, hall⟩ := hrel
      have HA := Lib.hid hall
      have HD := Lib.hid hD
      have h1 := hs.drawn hD
      have h2 := hs2.drawn hD
      clear hall hD
      by_cases hlt : k < n
      · have hlI : (k : Int) < (n : Int) := by omega
        obtain ⟨b, o, A', n', c', rfl, hb, hc0, hsi, _, _⟩ := h1.at_ hlt
        obtain ⟨b2, o2, A3, n3, c3, rfl, hb2, hc2, hsi2, _, _⟩ := h2.at_ hlt
        have hE := eqIntS_any A' A3 n' c' n3 c3 (li ls k) (li us k)
        have hq1 : n' ≤ 1099511627776 := by have := HNE.out k hlt; have := hsi.1; omega
        have hq2 : n3 ≤ 1099511627776 := by have := HNE2.out k hlt; have := hsi2.1; omega
        have HE := Lib.hid (fun wx (hd : Drawn wr wx) => hE wx (hd.si hsi) (hd.si hsi2) hq1 hq2)
        clear hE h1 h2 hsi hsi2
        cases hu : eqL (li ls k) (li us k) with
        | true =>
          rw [hu] at HE
          have HU := Lib.hid (eqL_true hu)
          clear hu
          go_wp2_with fail
          go_quiet ((go_at_call 18; exact Calls.quiet_of (HE.out _ (by first | exact ⟨_, rfl⟩ | assumption))))
          go_wp2
          go_roundw
          case rel => exact ⟨k + 1, by omega, by go_num, HD.out.drewN _, fun j hj => by
            rcases Nat.lt_or_ge j k with h | h
            · exact HA.out j h
            · obtain rfl : j = k := by omega
              exact HU.out⟩
          case measure => simp [intOf]; omega
        | false =>
          rw [hu] at HE
          have HU := Lib.hid (eqLs_ne (eqL_false' hu))
          clear hu
          go_wp2_with fail
          go_quiet ((go_at_call 18; exact Calls.quiet_of (HE.out _ (by first | exact ⟨_, rfl⟩ | assumption))))
          go_wp2
          go_ret
          exact ⟨ret_bool HU.out.symm, HD.out.drewN _⟩
      · have hkn : k = n := by omega
        subst hkn
        go_wp2
        go_ret
        refine ⟨ret_bool ?_, HD.out⟩
        have e : ls = us := li_ext (by rw [HL.out, HL2.out]) (by rw [HL.out]; exact HA.out)
        rw [e, eqLs_self]
  · have hb : ((n : Int) == (n2 : Int)) = false := by simp; omega
    have HF := Lib.hid (eqLs_len (ls := ls) (us := us) (by rw [HL.out, HL2.out]; exact hlen))
    clear hs hs2 hlen
    go_enter Try.func33, Try.ntmps33
    go_wp2
    go_ret
    exact ⟨ret_bool HF.out.symm, Drawn.refl _⟩
/-- What marking writes, from q on. -/
def marksS : List (List Int) → Int → List (List Int)
  | [], _ => []
  | t :: r, q => marks t.length q :: marksS r (q + (t.length : Int))
/-- The number behind the last mark. -/
def endS : List (List Int) → Int → Int
  | [], q => q
  | t :: r, q => endS r (q + (t.length : Int))
theorem marksS_len : ∀ (ts : List (List Int)) (q : Int), (marksS ts q).length = ts.length
  | [], _ => rfl
  | _ :: r, q => by simp [marksS, marksS_len r]
theorem endS_app : ∀ (ts us : List (List Int)) (q : Int), endS (ts ++ us) q = endS us (endS ts q)
  | [], _, _ => rfl
  | _ :: r, us, _ => endS_app r us _
theorem endS_from : ∀ (ts : List (List Int)) (q : Int), endS ts q = q + endS ts 0
  | [], q => by simp [endS]
  | t :: r, q => by show endS r _ = q + endS r (0 + _); rw [endS_from r (q + _), endS_from r (0 + _)]; omega
theorem marksS_app : ∀ (ts us : List (List Int)) (q : Int), marksS (ts ++ us) q = marksS ts q ++ marksS us (endS ts q)
  | [], _, _ => rfl
  | t :: r, us, q => by show _ :: marksS (r ++ us) _ = _ :: (_ ++ _); rw [marksS_app r us]; rfl
def mixS (ts : List (List Int)) (q : Int) (k : Nat) : List (List Int) := marksS (ts.take k) q ++ ts.drop k
theorem mixS_zero (ts : List (List Int)) (q : Int) : mixS ts q 0 = ts := by simp [mixS, marksS]
theorem mixS_all (ts : List (List Int)) (q : Int) : mixS ts q ts.length = marksS ts q := by simp [mixS]
theorem mixS_li {ts : List (List Int)} {q : Int} {k : Nat} (h : k < ts.length) : li (mixS ts q k) k = li ts k := by
  unfold mixS li
  rw [List.getD_eq_getElem?_getD, List.getD_eq_getElem?_getD, List.getElem?_append_right (by rw [marksS_len]; simp; omega), marksS_len]
  simp [Nat.min_eq_left (Nat.le_of_lt h)]
theorem endS_succ {ts : List (List Int)} {q : Int} {k : Nat} (h : k < ts.length) : endS (ts.take (k + 1)) q = endS (ts.take k) q + ((li ts k).length : Int) := by
  rw [take_li h, endS_app]; rfl
theorem mixS_succ {ts : List (List Int)} {q : Int} {k : Nat} (h : k < ts.length) : (mixS ts q k).set k (marks (li ts k).length (endS (ts.take k) q)) = mixS ts q (k + 1) := by
  unfold mixS
  have hl : (marksS (ts.take k) q).length = k := by rw [marksS_len]; simp; omega
  rw [List.set_append_right _ _ (by omega), hl, Nat.sub_self, List.drop_eq_getElem_cons h, List.set_cons_zero, take_li h, marksS_app, List.append_assoc]
  rfl
theorem marksS_li {ts : List (List Int)} {q : Int} {k : Nat} (h : k < ts.length) : li (marksS ts q) k = marks (li ts k).length (endS (ts.take k) q) := by
  have e : marksS ts q = marksS (ts.take k) q ++ marksS (ts.drop k) (endS (ts.take k) q) := by rw [← marksS_app, List.take_append_drop]
  rw [e]
  unfold li
  rw [List.getD_eq_getElem?_getD, List.getElem?_append_right (by rw [marksS_len]; simp; omega), marksS_len]
  rw [List.drop_eq_getElem_cons h]
  simp [marksS, Nat.min_eq_left (Nat.le_of_lt h), List.getD, h]
set_option maxHeartbeats 800000 in
theorem markIntSS_own (g n c lo hi : Nat) (ts : List (List Int)) (q : Int) (w : World) (hs : OwnL w lo hi (some ⟨g, 0, none⟩) n c ts) (hn : n ≤ 1099511627776) (hne : ∀ k, k < n → (li ts k).length ≤ 1099511627776)
    (hq : ∀ k, k ≤ n → 0 ≤ endS (ts.take k) q ∧ endS (ts.take k) q ≤ 1099511627776) :
    Calls Try.prog 34 #[.slice (some ⟨g, 0, none⟩) n c, .int .i64 q] w fun e w' => e = .returned (.int .i64 (endS ts q)) ∧ OwnL w' lo hi (some ⟨g, 0, none⟩) n c (marksS ts q) ∧ Within lo hi w w' := by
  have HL := Lib.hid hs.len
  have HNE := Lib.hid hne
  have HQ := Lib.hid hq
  clear hne hq
  go_enter Try.func34, Try.ntmps34
  go_wp2
  go_loopw [1, 5] (fun p i wr => ∃ k : Nat, k ≤ n ∧ i = .int .i64 k ∧ p = .int .i64 (endS (ts.take k) q) ∧ OwnL wr lo hi (some ⟨g, 0, none⟩) n c (mixS ts q k) ∧ Within lo hi w wr)
    (fun _ i _ => n - (intOf i).toNat)
  case atStart => exact ⟨0, Nat.zero_le _, rfl, rfl, by rw [mixS_zero]; exact hs, Within.refl _ _ _⟩
  case round =>
    obtain ⟨k, hk, rfl, rfl, hown, hwi⟩ := hrel
    clear hs
    by_cases hlt : k < n
    · have hlI : (k : Int) < (n : Int) := by omega
      obtain ⟨A', n', c', hc0, hfz, hx, hback⟩ := hown.item hlt
      rw [mixS_li (by rw [HL.out]; exact hlt)] at hx
      have hq0 := HQ.out k hk
      have es := endS_succ (ts := ts) (q := q) (k := k) (by rw [HL.out]; exact hlt)
      have em := mixS_succ (ts := ts) (q := q) (k := k) (by rw [HL.out]; exact hlt)
      have hl' := hx.len
      rw [hl'] at es em
      have hn' : n' ≤ 1099511627776 := by have := HNE.out k hlt; omega
      obtain ⟨z, hz⟩ : ∃ z, z = endS (ts.take k) q := ⟨_, rfl⟩
      rw [← hz] at hq0 es em ⊢
      have hM := markIntS_any A' n' c' lo hi (li ts k) z wr hx hn' hq0.1 hq0.2
      have HM := Lib.hid hM
      have HBK := Lib.hid hback
      have HX := Lib.hid hx
      have HW := Lib.hid hwi
      have HES := Lib.hid es
      have HEM := Lib.hid em
      clear hown hfz hx hback hM hwi es em hz hl'
      go_wp2_with fail
      refine HM.out.mono ?_
      rintro e w2 ⟨rfl, ho2, hg2⟩
      have hO2 := HBK.out w2 _ ho2 hg2
      rw [HEM.out] at hO2
      have HO3 := Lib.hid hO2
      have HW3 := Lib.hid (HW.out.trans (Within.of_grown hg2 (fun b hb => HX.out.lt b hb)))
      clear hO2 ho2 hg2 HBK HX HM HW hc0
      go_wp2
      go_roundw
      case rel => exact ⟨k + 1, by omega, by go_num, by rw [HES.out], HO3.out, HW3.out⟩
      case measure => simp [intOf]; omega
    · have hkn : k = n := by omega
      subst hkn
      have e1 : ts.take k = ts := List.take_of_length_le (by rw [HL.out]; omega)
      rw [e1]
      have e2 := mixS_all ts q
      rw [HL.out] at e2
      rw [e2] at hown
      go_wp2
      go_ret
      exact ⟨rfl, hown, hwi⟩
set_option maxHeartbeats 400000 in
theorem markIntSS_any (A : Option Addr) (n c lo hi : Nat) (ts : List (List Int)) (q : Int) (w : World) (hs : OwnL w lo hi A n c ts) (hn : n ≤ 1099511627776) (hne : ∀ k, k < n → (li ts k).length ≤ 1099511627776)
    (hq : ∀ k, k ≤ n → 0 ≤ endS (ts.take k) q ∧ endS (ts.take k) q ≤ 1099511627776) :
    Calls Try.prog 34 #[.slice A n c, .int .i64 q] w fun e w' => e = .returned (.int .i64 (endS ts q)) ∧ OwnL w' lo hi A n c (marksS ts q) ∧ Within lo hi w w' := by
  by_cases h0 : 0 < n
  · obtain ⟨g, rfl, h1, h2⟩ := hs.place h0
    exact markIntSS_own g n c lo hi ts q w hs hn hne hq
  · have hz : n = 0 := by omega
    subst hz
    have hx : ts = [] := List.eq_nil_of_length_eq_zero hs.len
    subst hx
    have HS := Lib.hid hs
    clear hs hq hne
    go_enter Try.func34, Try.ntmps34
    go_wp2
    refine wp_loop_rounds 1 ?_
    rw [rounds_succ]
    go_wp2
    go_ret
    exact ⟨rfl, HS.out, Within.refl _ _ _⟩
set_option maxHeartbeats 800000 in
theorem heldIntSS_yes (A : Option Addr) (n c : Nat) (ts : List (List Int)) (q : Int) (w : World) (hs : LS w A n (marksS ts q)) (hn : n ≤ 1099511627776) (hne : ∀ k, k < n → (li ts k).length ≤ 1099511627776)
    (hq : ∀ k, k ≤ n → 0 ≤ endS (ts.take k) q ∧ endS (ts.take k) q ≤ 1099511627776) :
    Calls Try.prog 35 #[.slice A n c, .int .i64 q] w fun e w' => e = .returned (.int .i64 (endS ts q)) ∧ Drawn w w' := by
  have HL : Hid (ts.length = n) := Lib.hid (by rw [← marksS_len ts q]; exact hs.1)
  have HNE := Lib.hid hne
  have HQ := Lib.hid hq
  clear hne hq
  go_enter Try.func35, Try.ntmps35
  go_wp2
  go_loopw [1, 5] (fun p i wr => ∃ k : Nat, k ≤ n ∧ i = .int .i64 k ∧ p = .int .i64 (endS (ts.take k) q) ∧ Drawn w wr)
    (fun _ i _ => n - (intOf i).toNat)
  case atStart => exact ⟨0, Nat.zero_le _, rfl, rfl, Drawn.refl _⟩
  case round =>
    obtain ⟨k, hk, rfl, rfl, hD⟩ := hrel
    have HD := Lib.hid hD
    have hts := hs.drawn hD
    clear hs hD
    by_cases hlt : k < n
    · have hlI : (k : Int) < (n : Int) := by omega
      obtain ⟨b, o, A', n', c', rfl, hb, hc0, hsi, hnc, hnil⟩ := hts.at_ hlt
      rw [marksS_li (by rw [HL.out]; exact hlt)] at hsi
      have hq0 := HQ.out k hk
      have hq1 := HQ.out (k + 1) (by omega)
      have es := endS_succ (ts := ts) (q := q) (k := k) (by rw [HL.out]; exact hlt)
      have hl' : n' = (li ts k).length := by rw [← hsi.1]; simp [marks_len]
      have hn' : n' ≤ 1099511627776 := by have := HNE.out k hlt; omega
      rw [← hl'] at es hsi
      obtain ⟨z, hz⟩ : ∃ z, z = endS (ts.take k) q := ⟨_, rfl⟩
      rw [← hz] at hq0 es hsi ⊢
      rw [es] at hq1
      have hM := heldIntS_yes A' n' c' z wr hsi hn' hq0.1 hq0.2
      have HM := Lib.hid hM
      have HES := Lib.hid es
      clear hts hsi hM es hz hl' hnil
      have hzn : ¬ z + (n' : Int) < 0 := by omega
      go_wp2_with fail
      refine HM.out.mono ?_
      rintro e w2 ⟨rfl, hD2⟩
      have HD2 := Lib.hid (HD.out.trans hD2)
      clear hD2 hc0 HM
      go_wp2
      go_roundw
      case rel => exact ⟨k + 1, by omega, by go_num, by rw [HES.out], HD2.out⟩
      case measure => simp [intOf]; omega
    · have hkn : k = n := by omega
      subst hkn
      have e1 : ts.take k = ts := List.take_of_length_le (by rw [HL.out]; omega)
      rw [e1]
      go_wp2
      go_ret
      exact ⟨rfl, HD.out⟩
end Go.Proofs.Ytfaegfhbbkicgaa
