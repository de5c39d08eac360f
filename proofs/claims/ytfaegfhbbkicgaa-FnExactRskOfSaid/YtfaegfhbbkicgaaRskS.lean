/-
  The document's tableaux of a word: l4Grown, RskOf. Conditions: lengths below 2^40.
-/
import Derived.Test.YtfaegfhbbkicgaaRskM
import Derived.Test.YtfaegfhbbkicgaaInsS
import Derived.Test.YtfaegfhbbkicgaaSpecF
namespace Go.Proofs.Ytfaegfhbbkicgaa
open Go.RowKit

set_option maxHeartbeats 1000000 in
theorem l4Grown_any (A : Option Addr) (n c : Nat) (ts : List (List Int)) (row : Nat) (k : Int) (w : World) (hs : LS w A n ts) (hn : n ≤ 1099511627775) (hne : ∀ j, j < n → (li ts j).length ≤ 1099511627775) (hr : row ≤ n) :
    Calls Try.prog 84 #[.slice A n c, .int .i64 row, .int .i64 k] w fun e w' => FreshL w w' e (grownL ts row k) := by
  have HNE := Lib.hid hne
  have HL := Lib.hid hs.1
  have HCP := Lib.hid (l4Copy_any A n c ts w hs (by omega) (fun j hj => by have := hne j hj; omega))
  clear hne hs
  by_cases he : row = n
  · subst he
    have HG : Hid (grownL ts row k = ts ++ [[k]]) := Lib.hid (by unfold grownL; rw [if_pos HL.out.symm])
    go_enter Try.func84, Try.ntmps84
    go_upto_region 2 with (go_at_call 147; (with_reducible refine HCP.out.mono ?_); rintro e w1 ⟨g, c1, rfl, ho1, hb1⟩; have HO1 := Lib.hid ho1; have HB1 := Lib.hid hb1; clear ho1 hb1)
    have HLT : Hid (Own (w1.alloc (.cells #[.int .i64 k] 3)) w1.heap.size (w1.alloc (.cells #[.int .i64 k] 3)).heap.size (some ⟨w1.heap.size, 0, none⟩) 1 1 [k]) := Lib.hid ⟨World.ownsRow_lit w1 #[.int .i64 k] 1 (Nat.le_refl _) (by unfold maxLen; omega) rfl, fun k hk => by simp [Value.ownBlock] at hk; simp; omega⟩
    have HBA : Hid (Below w1.heap.size w1 (w1.alloc (.cells #[.int .i64 k] 3))) := Lib.hid (Below.alloc_self _ _)
    go_wp2_with (at_builtin; refine wpList_appendL rfl (.tmp 14) (.tmp 17) rfl w.heap.size w1.heap.size _ row c1 ts w1.heap.size (w1.alloc (.cells #[.int .i64 k] 3)).heap.size (some ⟨w1.heap.size, 0, none⟩) 1 1 [k] rfl (by show Act.eval _ _ = _; simp [Act.eval]) (HO1.out.below HBA.out (Nat.le_refl _)) HLT.out HB1.out.size (Nat.le_refl _) (Nat.le_refl _) HBA.out.size (Nat.le_trans HB1.out.size HBA.out.size) (by omega) ?_
                 intro A4 c4 w4 ho4 hb4
                 have HO4 := Lib.hid ho4
                 have HB4 : Hid (Below w.heap.size w w4) := Lib.hid ((HB1.out.trans (HBA.out.mono HB1.out.size)).trans hb4)
                 clear ho4 hb4)
    go_ret
    rw [HG.out]
    exact ⟨A4, row + 1, c4, rfl, HO4.out, HB4.out⟩
  · have hlt : row < n := by omega
    have hlI : (row : Int) < (n : Int) := by omega
    have heI : ¬ (row : Int) = (n : Int) := by omega
    have hki : ((row : Int) == (n : Int)) = false := by simp; omega
    have HG : Hid (grownL ts row k = ts.set row (li ts row ++ [k])) := Lib.hid (by unfold grownL; rw [if_neg (by rw [HL.out]; exact he)])
    clear he
    go_enter Try.func84, Try.ntmps84
    go_upto_region 2 with (go_at_call 147; (with_reducible refine HCP.out.mono ?_); rintro e wr ⟨g, c1, rfl, ho1, hb1⟩; have HO1 := Lib.hid ho1; have HB := Lib.hid hb1; clear ho1 hb1)
    obtain ⟨E, hE⟩ := HO1.out
    have HEr := Lib.hid hE
    clear hE HO1
    have hcE := HEr.out.cellAt hlt
    have hOE := HEr.out.2.2.2.1 row hlt
    obtain ⟨⟨A', n', c'⟩, hEi⟩ : ∃ a, a = E row := ⟨_, rfl⟩
    rw [← hEi] at hcE hOE
    have hcell : wr.cell? ⟨g, row, none⟩ = some (.slice A' n' c') := hcE
    have HCE := Lib.hid hcell
    have HOr : Hid (Own wr w.heap.size wr.heap.size A' n' c' (li ts row)) := Lib.hid hOE
    have HEI := Lib.hid hEi
    have hn' : n' ≤ 1099511627775 := by have := HNE.out row hlt; have := HOr.out.len; omega
    have HGR : Hid (g < wr.heap.size) := Lib.hid (HEr.out.2.2.1 g rfl)
    have HLO : Hid (w.heap.size ≤ wr.heap.size) := Lib.hid HB.out.size
    clear hcE hOE hEi
    go_wp2_with (first
      | (at_builtin; refine wpList_append_keep rfl (.tmp 24) (.tmp 26) rfl w.heap.size wr.heap.size A' n' c' (li ts row) k rfl rfl HOr.out HLO.out (by omega) ?_
         intro B' d' w2 ho2 hg2 hat2
         have HO2 := Lib.hid ho2
         have HG2 := Lib.hid hg2
         have hRP := HEr.out.repl (k := row) hlt (Nat.le_refl _) (A2 := B') (n2 := n' + 1) (c2 := d') (ys := li ts row ++ [k]) (w2 := w2) (by rw [← HEI.out]; exact hg2) ho2 (by
           rw [← HEI.out]
           rcases hat2 with ⟨h, _⟩ | ⟨q, h, hq, _⟩
           · left; rw [h]
           · right; exact ⟨q, by rw [h]; rfl, hq⟩)
         have HRP := Lib.hid hRP
         have hc2 : w2.cell? ⟨g, row, none⟩ = some (.slice A' n' c') := by
           have h1 : w2.heap[g]? = wr.heap[g]? := hg2.block g HGR.out (fun e => HEr.out.2.2.2.2.1 row g hlt (by rw [← HEI.out]; unfold sv; rw [ownB]; exact e.symm) rfl)
           rw [World.cell?_of_block (a := ⟨g, row, none⟩) h1]; exact HCE.out
         have hf2 : w2.frozen? ⟨g, row, none⟩ = false := by
           have h1 : w2.heap[g]? = wr.heap[g]? := hg2.block g HGR.out (fun e => HEr.out.2.2.2.2.1 row g hlt (by rw [← HEI.out]; unfold sv; rw [ownB]; exact e.symm) rfl)
           rw [World.frozen?_of_block (a := ⟨g, row, none⟩) h1]
           exact HEr.out.2.1.frozenAt row
         clear ho2 hg2 hat2 hRP))
    go_ret
    rw [HG.out]
    have hfin := HRP.out
    refine ⟨_, n, c1, rfl, hfin.1.wide (Nat.le_refl _) hfin.2.size, ?_⟩
    have hb2 : Below w.heap.size w w2 := HB.out.grown HG2.out HLO.out (fun q hq => (HOr.out.row_lt' hq).1)
    exact hb2.grown hfin.2 (by have := HG2.out.size; have := HLO.out; omega) (by rintro q ⟨⟩; exact (HEr.out.row_lt' rfl).1)
set_option maxHeartbeats 2000000 in
theorem specRskOf_any (A : Option Addr) (n c : Nat) (xs : List Int) (w : World) (hs : SI w A n xs) (hn : n ≤ 1099511627776) :
    Calls Try.prog 31 #[.slice A n c] w fun e w' => FreshLL w w' e (rskA xs) (rskC xs) (rskB xs) := by
  have HL := Lib.hid hs.1
  by_cases hbig : (n : Int) > 16
  · have HNO : Hid (rskB xs = false) := Lib.hid (by
      cases h : rskB xs with
      | false => rfl
      | true => have := ((rskB_iff xs).1 h).1; have := HL.out; omega)
    clear hs
    go_enter Try.func31, Try.ntmps31
    go_wp2
    go_ret3
    rw [(rsk_no HNO.out).1, (rsk_no HNO.out).2, HNO.out]
    exact FreshLL.nil_ret (Below.refl _ _)
  · have HN16 : Hid (n ≤ 16) := Lib.hid (by omega)
    go_enter Try.func31, Try.ntmps31
    go_upto_region 5 with fail
    obtain ⟨w1, hw1⟩ : ∃ w1, w1 = (w.alloc (.cells #[] 22)).alloc (.cells #[] 22) := ⟨_, rfl⟩
    have hO1 : OwnL w1 w.heap.size w1.heap.size (some ⟨w.heap.size, 0, none⟩) 0 0 [] := by
      rw [hw1]
      exact ((OwnL.empty w).below (Below.alloc_self _ _) (by simp)).wide (Nat.le_refl _) (by simp)
    have hO2 : OwnL w1 w.heap.size w1.heap.size (some ⟨w.heap.size + 1, 0, none⟩) 0 0 [] := by
      rw [hw1]
      have h := OwnL.empty (w.alloc (.cells #[] 22))
      simp at h
      exact h.wide (by omega) (by simp)
    have hB1 : Below w.heap.size w w1 := by rw [hw1]; go_grown
    rw [← hw1]
    have HO1 := Lib.hid hO1
    have HO2 := Lib.hid hO2
    have HB1 := Lib.hid hB1
    have HS := Lib.hid hs
    clear hw1 hO1 hO2 hB1 hs
    go_wp2_with fail
    go_loopw [5, 6, 7] (fun pv qv iv wr => ∃ (k : Nat) (A1 : Option Addr) (n1 c1 : Nat) (A2 : Option Addr) (c2 : Nat), k ≤ n ∧ iv = .int .i64 k ∧ pv = .slice A1 n1 c1 ∧ qv = .slice A2 n1 c2 ∧ n1 ≤ k ∧ OwnL wr w.heap.size wr.heap.size A1 n1 c1 (rskP xs k) ∧ OwnL wr w.heap.size wr.heap.size A2 n1 c2 (rskQ xs k) ∧ RskK xs k ∧ (∀ j, j < k → 0 ≤ nth xs j ∧ nth xs j ≤ 20) ∧ Below w.heap.size w wr)
      (fun _ _ iv _ => n - (intOf iv).toNat)
    case atStart => exact ⟨0, _, 0, 0, _, 0, Nat.zero_le _, rfl, rfl, rfl, Nat.le_refl _, HO1.out, HO2.out, RskK.zero xs, fun j hj => absurd hj (by omega), HB1.out⟩
    case round =>
      obtain ⟨k, A1, n1, c1, A2, c2, hk, rfl, rfl, rfl, hn1, ho1, ho2, hkk, hall, hb⟩ := hrel
      clear HO1 HO2 HB1
      have HP := Lib.hid ho1
      have HQ := Lib.hid ho2
      have HK := Lib.hid hkk
      have HALL := Lib.hid hall
      have HB := Lib.hid hb
      clear ho1 ho2 hkk hall hb
      by_cases hlt : k < n
      · have hlI : (k : Int) < (n : Int) := by omega
        obtain ⟨b, o, rfl, hb0, hc0⟩ := (HS.out.below HB.out (Nat.le_refl _)).at_ (by omega)
        have hc1 := hc0 k hlt
        obtain ⟨x, hx⟩ : ∃ x, x = nth xs k := ⟨_, rfl⟩
        rw [← hx] at hc1
        have HX := Lib.hid hx
        clear hb0 hc0 hx
        by_cases hin : 0 ≤ x ∧ x ≤ 20
        · have HIN := Lib.hid (fun w => l1In_yes' hin.1 hin.2 w)
          have HBX : Hid (b < w.heap.size) := Lib.hid (by obtain ⟨b', o', e', hb', _⟩ := HS.out.at_ (show 0 < n by omega); injection e' with e'; injection e' with e1 e2; rw [e1]; exact hb')
          have HCX := Lib.hid hc1
          have HII := Lib.hid (l4Insert_any A1 n1 c1 (rskP xs k) x wr HP.out.si (by have := HN16.out; omega) (fun j _ => Nat.le_trans (HK.out.row j) (by have := HN16.out; omega)))
          have HINX := Lib.hid hin
          clear hin
          go_wp2_with (first
            | (go_at_call 82; (with_reducible refine (HIN.out _).mono ?_); rintro e w1 ⟨rfl, rfl⟩)
            | (go_at_call 83; (with_reducible refine HII.out.mono ?_); rintro e w3 ⟨A3, n3, c3, row, out, rfl, hi3, ho3, hb3⟩
               have HI3 : Hid (InsIs (rskP xs k) (nth xs k) out row) := Lib.hid (by rw [← HX.out]; exact hi3)
               have HO3 := Lib.hid ho3
               have HB3 := Lib.hid hb3
               have HGR := Lib.hid (l4Grown_any A2 n1 c2 (rskQ xs k) row (k : Int) w3 (HQ.out.below hb3 (Nat.le_refl _)).si (by have := HN16.out; omega) (fun j _ => Nat.le_trans (HK.out.row2 j) (by have := HN16.out; omega)) (by have := (insIs_len hi3).1; have := HP.out.len; omega))
               clear hi3 ho3 hb3)
            | (go_at_call 84; (with_reducible refine HGR.out.mono ?_); rintro e w4 ⟨A4, n4, c4, rfl, ho4, hb4⟩
               have HO4 := Lib.hid ho4
               have HB4 := Lib.hid hb4
               clear ho4 hb4))
          have HNX := Lib.hid (HK.out.next HI3.out)
          have HST := Lib.hid (rsk_step HI3.out)
          have e4 : n4 = n3 := by have h1 := HO4.out.len; have h2 := HO3.out.len; have h3 := HNX.out.len; rw [HST.out.1, HST.out.2] at h3; omega
          subst e4
          go_roundw
          case rel => exact ⟨k + 1, A3, n4, c3, A4, c4, by omega, by go_num, rfl, rfl, by have h2 := HO3.out.len; have h3 := HNX.out.few; rw [HST.out.1] at h3; omega,
            by rw [HST.out.1]; exact (HO3.out.below HB4.out (Nat.le_refl _)).wide (by have := HB.out.size; omega) HB4.out.size, by rw [HST.out.2]; exact HO4.out.wide (by have := HB.out.size; have := HB3.out.size; omega) (Nat.le_refl _), HNX.out,
            fun j hj => by
              rcases Nat.lt_or_ge j k with h | h
              · exact HALL.out j h
              · obtain rfl : j = k := by omega
                rw [← HX.out]; exact HINX.out, (HB.out.trans (HB3.out.mono HB.out.size)).trans (HB4.out.mono (Nat.le_trans HB.out.size HB3.out.size))⟩
          case measure => simp [intOf]; omega
        · have HIN := Lib.hid (fun w => l1In_no' (a := x) (lo := 0) (hi := 20) (by omega) w)
          have HNO : Hid (rskB xs = false) := Lib.hid (by
            cases h : rskB xs with
            | false => rfl
            | true => exact absurd (((rskB_iff xs).1 h).2 k (by rw [HL.out]; exact hlt)) (by rw [← HX.out]; exact hin))
          clear hin
          go_wp2_with (go_at_call 82; (with_reducible refine (HIN.out _).mono ?_); rintro e w1 ⟨rfl, rfl⟩)
          go_ret3
          rw [(rsk_no HNO.out).1, (rsk_no HNO.out).2, HNO.out]
          exact FreshLL.nil_ret HB.out
      · have hlI : ¬ (k : Int) < (n : Int) := by omega
        obtain rfl : k = n := by omega
        have HYES : Hid (rskB xs = true) := Lib.hid ((rskB_iff xs).2 ⟨by rw [HL.out]; exact HN16.out, by rw [HL.out]; exact HALL.out⟩)
        go_wp2
        go_ret3
        rw [(rsk_yes HYES.out).1, (rsk_yes HYES.out).2, HYES.out, HL.out]
        exact ⟨A1, n1, c1, A2, n1, c2, rfl, HP.out, HQ.out, HB.out⟩
end Go.Proofs.Ytfaegfhbbkicgaa
