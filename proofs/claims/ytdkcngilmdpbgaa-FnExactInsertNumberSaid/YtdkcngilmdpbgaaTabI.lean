/-
  The program's test for tableaux. Conditions: lengths below 2^40.
-/
import Derived.Test.YtdkcngilmdpbgaaTab
namespace Go.Proofs.Ytdkcngilmdpbgaa
open Go.RowKit

/-- The least number that may stand in row i at the place j. -/
def leastM (ls : List (List Int)) : Nat → Nat → Int
  | 0, 0 => 0
  | 0, j + 1 => cel ls 0 j
  | i + 1, 0 => if cel ls i 0 + 1 ≤ 0 then 0 else cel ls i 0 + 1
  | i + 1, j + 1 => if cel ls i (j + 1) + 1 ≤ cel ls (i + 1) j then cel ls (i + 1) j else cel ls i (j + 1) + 1
theorem cellOk_least {ls : List (List Int)} {i j : Nat} (h : ∀ k, k < j → 0 ≤ cel ls i k) : cellOk ls i j ↔ leastM ls i j ≤ cel ls i j ∧ cel ls i j ≤ 20 := by
  unfold cellOk
  cases i with
  | zero =>
    cases j with
    | zero => rw [show leastM ls 0 0 = 0 from rfl]; omega
    | succ j =>
      have h1 := h j (by omega)
      rw [show leastM ls 0 (j + 1) = cel ls 0 j from rfl, show j + 1 - 1 = j by omega]
      omega
  | succ i =>
    rw [show i + 1 - 1 = i by omega]
    cases j with
    | zero =>
      rw [show leastM ls (i + 1) 0 = if cel ls i 0 + 1 ≤ 0 then 0 else cel ls i 0 + 1 from rfl]
      split <;> omega
    | succ j =>
      have h1 := h j (by omega)
      rw [show leastM ls (i + 1) (j + 1) = if cel ls i (j + 1) + 1 ≤ cel ls (i + 1) j then cel ls (i + 1) j else cel ls i (j + 1) + 1 from rfl, show j + 1 - 1 = j by omega]
      split <;> omega
set_option maxHeartbeats 1600000 in
theorem leastAt_any (A : Option Addr) (n c : Nat) (ls : List (List Int)) (w : World) (hs : LS w A n ls) (hn : n ≤ 1099511627776) (i j : Nat) (hi : i < n) (hj : j ≤ (li ls i).length) (hj2 : j ≤ 1099511627776)
    (hu : ∀ q, i = q + 1 → j < (li ls q).length ∧ 0 ≤ cel ls q j ∧ cel ls q j ≤ 20) :
    Calls Try.prog 124 #[.slice A n c, .int .i64 i, .int .i64 j] w fun e w' => e = .returned (.int .i64 (leastM ls i j)) ∧ Drawn w w' := by
  obtain ⟨b, o, A1, m1, c1, rfl, hb, hr1, hsi1, _, _⟩ := hs.at_ hi
  have hiI : (i : Int) < (n : Int) := by omega
  have hm1 : (li ls i).length = m1 := hsi1.1
  cases i with
  | zero =>
    rw [Nat.add_zero] at hr1
    cases j with
    | zero =>
      clear hs hr1 hsi1 hu hm1
      go_enter Try.func124, Try.ntmps124
      go_wp2
      go_ret
      exact ⟨rfl, (by first | exact Drawn.refl _ | exact ⟨_, rfl⟩)⟩
    | succ r =>
      have hrpos : (0 : Int) < ((r + 1 : Nat) : Int) := by omega
      have hwr2 : IntKind.i64.wrap (((r + 1 : Nat) : Int) - 1) = (r : Int) := by rw [show ((r + 1 : Nat) : Int) - 1 = (r : Int) by omega]; exact IntWalk.i64_in _ (by omega)
      have hrI : (r : Int) < (m1 : Int) := by omega
      obtain ⟨b1, o1, rfl, _, hcc1⟩ := hsi1.at_ (by omega)
      have hz := hcc1 r (by omega)
      obtain ⟨z, hz0⟩ : ∃ z, z = cel ls 0 r := ⟨_, rfl⟩
      rw [show nth (li ls 0) r = z from hz0.symm] at hz
      have HZ := Lib.hid hz0
      clear hs hsi1 hcc1 hu hm1 hz0
      go_enter Try.func124, Try.ntmps124
      go_wp2
      go_ret
      exact ⟨by rw [HZ.out]; rfl, (by first | exact Drawn.refl _ | exact ⟨_, rfl⟩)⟩
  | succ q =>
    obtain ⟨b0, o0, A0, m0, c0, e0, _, hr0, hsi0, _, _⟩ := hs.at_ (k := q) (by omega)
    obtain ⟨rfl, rfl⟩ : b = b0 ∧ o = o0 := by simpa using e0
    have hm0 : (li ls q).length = m0 := hsi0.1
    obtain ⟨hu1, hu2, hu3⟩ := hu q rfl
    have hqI : (q : Int) < (n : Int) := by omega
    have hqpos : (0 : Int) < ((q + 1 : Nat) : Int) := by omega
    have hwq : IntKind.i64.wrap (((q + 1 : Nat) : Int) - 1) = (q : Int) := by rw [show ((q + 1 : Nat) : Int) - 1 = (q : Int) by omega]; exact IntWalk.i64_in _ (by omega)
    obtain ⟨b2, o2, rfl, _, hcc2⟩ := hsi0.at_ (by omega)
    have hy := hcc2 j (by omega)
    have hjI0 : (j : Int) < (m0 : Int) := by omega
    obtain ⟨y, hy0⟩ : ∃ y, y = cel ls q j := ⟨_, rfl⟩
    rw [show nth (li ls q) j = y from hy0.symm] at hy
    rw [← hy0] at hu2 hu3
    have hwy : IntKind.i64.wrap (y + 1) = y + 1 := IntWalk.i64_in _ (by omega)
    have HY := Lib.hid hy0
    cases j with
    | zero =>
      rw [Nat.add_zero] at hy
      have hy01 : (0 : Int) < y + 1 := by omega
      have HM : Hid (leastM ls (q + 1) 0 = y + 1) := Lib.hid (by rw [hy0]; show (if cel ls q 0 + 1 ≤ 0 then 0 else cel ls q 0 + 1) = _; rw [if_neg (by omega)])
      clear hs hsi1 hsi0 hcc2 hu hm1 hm0 hu1 e0 hr1 hy0
      go_enter Try.func124, Try.ntmps124
      go_wp2
      go_ret
      exact ⟨by rw [HM.out]; try rfl, (by first | exact Drawn.refl _ | exact ⟨_, rfl⟩)⟩
    | succ r =>
      have hrpos : (0 : Int) < ((r + 1 : Nat) : Int) := by omega
      have hwr2 : IntKind.i64.wrap (((r + 1 : Nat) : Int) - 1) = (r : Int) := by rw [show ((r + 1 : Nat) : Int) - 1 = (r : Int) by omega]; exact IntWalk.i64_in _ (by omega)
      have hrI : (r : Int) < (m1 : Int) := by omega
      obtain ⟨b1, o1, rfl, _, hcc1⟩ := hsi1.at_ (by omega)
      have hz := hcc1 r (by omega)
      obtain ⟨z, hz0⟩ : ∃ z, z = cel ls (q + 1) r := ⟨_, rfl⟩
      rw [show nth (li ls (q + 1)) r = z from hz0.symm] at hz
      have HM : Hid (leastM ls (q + 1) (r + 1) = if y + 1 ≤ z then z else y + 1) := Lib.hid (by rw [hy0, hz0]; rfl)
      clear hs hsi1 hsi0 hcc1 hcc2 hu hm1 hm0 hu1 e0 hy0 hz0
      by_cases hyz : y + 1 ≤ z
      · have hyz2 : ¬ z < y + 1 := by omega
        have HM2 := Lib.hid (HM.out.trans (if_pos hyz))
        go_enter Try.func124, Try.ntmps124
        go_wp2
        go_ret
        exact ⟨by rw [HM2.out]; try rfl, (by first | exact Drawn.refl _ | exact ⟨_, rfl⟩)⟩
      · have hyz2 : z < y + 1 := by omega
        have HM2 := Lib.hid (HM.out.trans (if_neg hyz))
        go_enter Try.func124, Try.ntmps124
        go_wp2
        go_ret
        exact ⟨by rw [HM2.out]; try rfl, (by first | exact Drawn.refl _ | exact ⟨_, rfl⟩)⟩
set_option maxHeartbeats 1600000 in
theorem lengthsOf_any (A : Option Addr) (n c : Nat) (ls : List (List Int)) (w : World) (hs : LS w A n ls) (hn : n ≤ 1099511627776) (_ : ∀ k, k < n → (li ls k).length ≤ 1099511627776) :
    Calls Try.prog 123 #[.slice A n c] w fun e w' => ∃ B c', e = .returned (.slice (some ⟨B, 0, none⟩) n c') ∧ Own w' w.heap.size w'.heap.size (some ⟨B, 0, none⟩) n c' (lensL ls) ∧ Below w.heap.size w w' := by
  have HS := Lib.hid hs
  have HL := Lib.hid hs.1
  clear hs
  go_enter Try.func123, Try.ntmps123
  go_wp2_with (at_make; refine wpList_make_zero rfl (.tmp 7) (.tmp 7) rfl n rfl rfl (by omega) ?_; intro w2 ho2 hb2; have HO2 := Lib.hid ho2; have HB2 := Lib.hid hb2; clear ho2 hb2)
  obtain ⟨B, hB⟩ : ∃ B, B = w.heap.size := ⟨_, rfl⟩
  have HBE : Hid (B = w.heap.size) := Lib.hid hB
  rw [← hB] at HO2 HB2 ⊢
  have HO3 : Hid (Own w2 B (B + 1) (some ⟨B, 0, none⟩) n n ((lensL ls).take 0 ++ List.replicate (n - 0) 0)) := Lib.hid (by simpa using (show Own w2 B (B + 1) (some ⟨B, 0, none⟩) n n (List.replicate n 0) from ⟨HO2.out.1, fun k hk => by simp [Value.ownBlock] at hk; omega⟩))
  have HZ2 : Hid (B + 1 ≤ w2.heap.size) := Lib.hid (by have := HO2.out.lt B rfl; omega)
  clear HO2 hB
  go_loopw [11] (fun iv wr => ∃ i : Nat, i ≤ n ∧ iv = .int .i64 i ∧ Own wr B (B + 1) (some ⟨B, 0, none⟩) n n ((lensL ls).take i ++ List.replicate (n - i) 0) ∧ Below w.heap.size w wr ∧ B + 1 ≤ wr.heap.size)
    (fun iv _ => n - (intOf iv).toNat)
  case atStart => exact ⟨0, Nat.zero_le _, rfl, HO3.out, by have := HB2.out; rwa [HBE.out] at this, HZ2.out⟩
  case round =>
    obtain ⟨i, hi, rfl, hown, hbw, hz⟩ := hrel
    clear HO3 HB2 HZ2
    have HO := Lib.hid hown
    have HB := Lib.hid hbw
    have HZ := Lib.hid hz
    clear hbw hz
    by_cases hlt : i < n
    · have hiI : (i : Int) < (n : Int) := by omega
      have hs' := HS.out.below HB.out (Nat.le_refl _)
      obtain ⟨b', o', A1, m1, c1, rfl, hb', hr', hsi', _, _⟩ := hs'.at_ hlt
      have HM : Hid ((li ls i).length = m1) := Lib.hid hsi'.1
      have hff := hown.frozenAt i
      have hcc := hown.cellAt (k := i) hlt
      obtain ⟨v0, hv0⟩ : ∃ v0, v0 = nth ((lensL ls).take i ++ List.replicate (n - i) 0) i := ⟨_, rfl⟩
      rw [← hv0] at hcc
      have hset := (hown.set_ (k := i) (m1 : Int)).1
      have hq : ((lensL ls).take i ++ List.replicate (n - i) 0).set i (m1 : Int) = (lensL ls).take (i + 1) ++ List.replicate (n - (i + 1)) 0 := by
        have hlen : ((lensL ls).take i).length = i := by simp [lensL_len, HL.out]; omega
        rw [List.set_append_right _ _ (by omega), hlen, Nat.sub_self, show n - i = (n - (i + 1)) + 1 by omega, List.replicate_succ, List.set_cons_zero]
        rw [show (lensL ls).take (i + 1) = (lensL ls).take i ++ [(m1 : Int)] by
          rw [List.take_add_one, ← HM.out, ← lensL_nth (by rw [HL.out]; exact hlt), nth_get? (by rw [lensL_len, HL.out]; exact hlt)]; rfl]
        simp
      rw [hq] at hset
      have HST := Lib.hid hset
      clear hset hown hs' hsi' hq hv0
      go_wp2
      go_roundw
      case rel => exact ⟨i + 1, by omega, by go_num, HST.out, HB.out.setCell (by rw [← HBE.out]; exact Nat.le_refl _) _, by simpa using HZ.out⟩
      case measure => simp [intOf]; omega
    · have hin : i = n := by omega
      subst hin
      have HO4 : Hid (Own wr B (B + 1) (some ⟨B, 0, none⟩) i i (lensL ls)) := Lib.hid (by have := HO.out; simpa [List.take_of_length_le (Nat.le_of_eq ((lensL_len ls).trans HL.out))] using this)
      clear hown
      go_wp2
      go_ret
      exact ⟨_, _, rfl, HO4.out.wide (by rw [HBE.out]; exact Nat.le_refl _) HZ.out, HB.out⟩
set_option maxRecDepth 100000 in
set_option maxHeartbeats 6400000 in
theorem implTab_any (A : Option Addr) (n c : Nat) (ls : List (List Int)) (w : World) (hs : LS w A n ls) (hn : n ≤ 1099511627776) (hne : ∀ k, k < n → (li ls k).length ≤ 1099511627776) :
    Calls Try.prog 92 #[.slice A n c] w fun e w' => e = .returned (.bool (tabB ls)) ∧ Below w.heap.size w w' := by
  have HLN := Lib.hid (lengthsOf_any A n c ls w hs hn hne)
  have HSH := Lib.hid (fun (w1 : World) (lo hi : Nat) (B c' : Nat) (ho : Own w1 lo hi (some ⟨B, 0, none⟩) n c' (lensL ls)) => implIsShape_any (some ⟨B, 0, none⟩) n c' (lensL ls) w1 ho.si hn)
  cases hu : isShapeB (lensL ls) with
  | false =>
    rw [hu] at HSH
    have HF := Lib.hid (tabB_false (ls := ls) (fun h => by rw [isShapeB_true h.1] at hu; simp at hu))
    clear hu hs hne
    go_enter Try.func92, Try.ntmps92
    go_wp2_with (first
      | (go_at_call 123; refine HLN.out.mono ?_; rintro e w1 ⟨B, c', rfl, ho1, hb1⟩; have HO1 := Lib.hid ho1; have HB1 := Lib.hid hb1; clear ho1 hb1)
      | (go_at_call 72; refine (HSH.out _ _ _ _ _ HO1.out).mono ?_; rintro e w2 ⟨rfl, hd2⟩; have HB2 := Lib.hid (HB1.out.trans ((hd2.below _).mono (Nat.le_refl _))); clear hd2))
    go_ret
    exact ⟨ret_bool HF.out.symm, HB2.out⟩
  | true =>
    rw [hu] at HSH
    have HP := Lib.hid (isShapeB_P hu)
    have HS := Lib.hid hs
    have HNE := Lib.hid hne
    have HL := Lib.hid hs.1
    clear hu hs hne
    go_enter Try.func92, Try.ntmps92
    go_wp2_with (first
      | (go_at_call 123; refine HLN.out.mono ?_; rintro e w1 ⟨B, c', rfl, ho1, hb1⟩; have HO1 := Lib.hid ho1; have HB1 := Lib.hid hb1; clear ho1 hb1)
      | (go_at_call 72; refine (HSH.out _ _ _ _ _ HO1.out).mono ?_; rintro e w2 ⟨rfl, hd2⟩; have HB2 := Lib.hid (HB1.out.trans ((hd2.below _).mono (Nat.le_refl _))); clear hd2))
    clear HO1 HB1
    go_loopw [13] (fun iv wr => ∃ i : Nat, i ≤ n ∧ iv = .int .i64 i ∧ Below w.heap.size w wr ∧ ∀ k, k < i → ∀ j, j < (li ls k).length → cellOk ls k j)
      (fun iv _ => n - (intOf iv).toNat)
    case atStart => exact ⟨0, Nat.zero_le _, rfl, HB2.out, fun k hk => absurd hk (by omega)⟩
    case round =>
      obtain ⟨i, hi, rfl, hbw, hce⟩ := hrel
      clear HB2
      have HB := Lib.hid hbw
      have HCE := Lib.hid hce
      clear hbw hce
      by_cases hlt : i < n
      · have hiI : (i : Int) < (n : Int) := by omega
        obtain ⟨b, o, A1, m1, c1, rfl, hb, hr0, hsi0, _, _⟩ := HS.out.at_ hlt
        have HM := Lib.hid hsi0.1
        have HSI0 := Lib.hid hsi0
        have hm2 : m1 ≤ 1099511627776 := by have := HNE.out i hlt; rw [HM.out] at this; exact this
        have hr1 : wr.cell? ⟨b, o + i, none⟩ = some (.slice A1 m1 c1) := (HB.out.cell (p := ⟨b, o + i, none⟩) hb).trans hr0
        clear hsi0 hr0 hb
        go_wp2_with fail
        clear hr1
        go_loopw [20] (fun jv wx => ∃ j : Nat, j ≤ m1 ∧ jv = .int .i64 j ∧ Below w.heap.size w wx ∧ ∀ k, k < j → cellOk ls i k)
          (fun jv _ => m1 - (intOf jv).toNat)
        case atStart => exact ⟨0, Nat.zero_le _, rfl, HB.out, fun k hk => absurd hk (by omega)⟩
        case round =>
          obtain ⟨j, hj, rfl, hbw, hcj⟩ := hrel
          clear HB
          have HB := Lib.hid hbw
          have HCJ := Lib.hid hcj
          clear hbw hcj
          by_cases hlt2 : j < m1
          · have hjI : (j : Int) < (m1 : Int) := by omega
            have hs2 := HS.out.below HB.out (Nat.le_refl _)
            have HIM : Hid (∀ q, i = q + 1 → j < (li ls q).length ∧ 0 ≤ cel ls q j ∧ cel ls q j ≤ 20) := Lib.hid (fun q hq => by
              subst hq
              have h1 := HP.out.2 (q + 1) (by rw [lensL_len, HL.out]; exact hlt)
              have h2 : nth (lensL ls) (q + 1) ≤ nth (lensL ls) q := h1.2
              rw [lensL_nth (by rw [HL.out]; exact hlt), lensL_nth (by rw [HL.out]; omega), HM.out] at h2
              have h3 : j < (li ls q).length := by omega
              have h4 := HCE.out q (by omega) j h3
              exact ⟨h3, h4.1, h4.2.1⟩)
            have HLA := Lib.hid (leastAt_any (some ⟨b, o, none⟩) n c ls wr hs2 hn i j hlt (by rw [HM.out]; omega) (by omega) HIM.out)
            have HIFF := Lib.hid (cellOk_least (ls := ls) (i := i) (j := j) (fun k hk => (HCJ.out k hk).1))
            obtain ⟨y, hy⟩ : ∃ y, y = leastM ls i j := ⟨_, rfl⟩
            rw [← hy] at HLA HIFF
            have hsi1 := HSI0.out.below HB.out (Nat.le_refl _)
            obtain ⟨b1, o1, rfl, _, hcc1⟩ := hsi1.at_ (by omega)
            have hx := hcc1 j hlt2
            obtain ⟨x, hx0⟩ : ∃ x, x = cel ls i j := ⟨_, rfl⟩
            rw [show nth (li ls i) j = x from hx0.symm] at hx
            rw [← hx0] at HIFF
            have HX := Lib.hid hx0
            have HFAIL : Hid (¬ cellOk ls i j → tabB ls = false) := Lib.hid (fun h => tabB_false (fun h2 => h (h2.2 i (by rw [HL.out]; exact hlt) j (by rw [HM.out]; exact hlt2))))
            clear HIM hs2 hy hsi1 hcc1 hx0
            by_cases hxy : x < y
            · have HF := Lib.hid (HFAIL.out (fun h => by have := HIFF.out.1 h; omega))
              clear HFAIL
              go_wp2_with (go_at_call 124; refine HLA.out.mono ?_; rintro e wz ⟨rfl, hd⟩; have HDZ := Lib.hid hd; clear hd)
              go_ret
              exact ⟨ret_bool HF.out.symm, HB.out.trans (HDZ.out.below _)⟩
            · by_cases hx20 : 20 < x
              · have HF := Lib.hid (HFAIL.out (fun h => by have := HIFF.out.1 h; omega))
                clear HFAIL
                have hxy2 : ¬ x < y := by omega
                go_wp2_with (go_at_call 124; refine HLA.out.mono ?_; rintro e wz ⟨rfl, hd⟩; have HDZ := Lib.hid hd; clear hd)
                go_ret
                exact ⟨ret_bool HF.out.symm, HB.out.trans (HDZ.out.below _)⟩
              · have HG := Lib.hid (HIFF.out.2 ⟨by omega, by omega⟩)
                clear HFAIL
                have hxy2 : ¬ x < y := by omega
                have hx202 : ¬ 20 < x := by omega
                go_wp2_with (go_at_call 124; refine HLA.out.mono ?_; rintro e wz ⟨rfl, hd⟩; have HDZ := Lib.hid hd; clear hd)
                go_roundw
                case rel => exact ⟨j + 1, by omega, by go_num, HB.out.trans (HDZ.out.below _), fun k hk => by
                  rcases Nat.lt_or_ge k j with h | h
                  · exact HCJ.out k h
                  · rw [show k = j by omega]; exact HG.out⟩
                case measure => simp [intOf]; omega
          · have hjm : j = m1 := by omega
            subst hjm
            go_wp2
            go_roundw
            case rel => exact ⟨i + 1, by omega, by go_num, HB.out, fun k hk => by
              rcases Nat.lt_or_ge k i with h | h
              · exact HCE.out k h
              · rw [show k = i by omega, HM.out]; exact HCJ.out⟩
            case measure => simp [intOf]; omega
      · have hin : i = n := by omega
        subst hin
        have HT := Lib.hid (tabB_true (ls := ls) ⟨HP.out, by rw [HL.out]; exact HCE.out⟩)
        go_wp2
        go_ret
        exact ⟨ret_bool HT.out.symm, HB.out⟩
end Go.Proofs.Ytdkcngilmdpbgaa
