/-
  New puzzles of the program. Conditions: Size at most 7.
-/
import Derived.Test.YtdappakjbclffaaRotC
namespace Go.Proofs.Ytdappakjbclffaa
open Go.RowKit

set_option maxRecDepth 100000 in
set_option maxHeartbeats 4000000 in
theorem newPuzzle_any (m : Nat) (w : World) (hm : m ≤ 7) :
    Calls Try.prog 111 #[.int .i64 m] w fun e w' => ∃ g1 g2 g3, e = .returned (.agg #[.int .i64 m, .slice (some ⟨g1, 0, none⟩) (tri m) (tri m), .slice (some ⟨g2, 0, none⟩) (tri m) (tri m), .slice (some ⟨g3, 0, none⟩) (tri m) (tri m)]) ∧
      (g1 ≠ g2 ∧ g1 ≠ g3 ∧ g2 ≠ g3) ∧ (w.heap.size ≤ g1 ∧ w.heap.size ≤ g2 ∧ w.heap.size ≤ g3) ∧
      Own w' g1 (g1 + 1) (some ⟨g1, 0, none⟩) (tri m) (tri m) (zeroN m) ∧ Own w' g2 (g2 + 1) (some ⟨g2, 0, none⟩) (tri m) (tri m) (zeroN m) ∧ Own w' g3 (g3 + 1) (some ⟨g3, 0, none⟩) (tri m) (tri m) (zeroN m) ∧ Below w.heap.size w w' := by
  obtain ⟨w1, hw1⟩ : ∃ w1, w1 = w.alloc (.cells #[.int .i64 0, .slice none 0 0, .slice none 0 0, .slice none 0 0] 35) := ⟨_, rfl⟩
  obtain ⟨g, hg⟩ : ∃ g, g = w.heap.size := ⟨_, rfl⟩
  have hk2 : Blk w1 g 35 #[.int .i64 0, .slice none 0 0, .slice none 0 0, .slice none 0 0] := by rw [hw1, hg]; exact Blk.new _ _ _
  have HB1 : Hid (Below w.heap.size w w1) := Lib.hid (by rw [hw1]; exact Below.alloc_self _ _)
  have HW := Lib.hid hw1
  have HG := Lib.hid hg
  have HK2 := Lib.hid hk2
  have HSZ : Hid (w1.heap.size = g + 1) := Lib.hid (by rw [hw1, hg]; simp)
  have HPL := Lib.hid (fun w => smallPlace_at (i := (m : Int)) (j := 0) m 0 (tri m) rfl rfl rfl w (by omega) (by omega))
  obtain ⟨T, hT⟩ : ∃ T, T = tri m := ⟨_, rfl⟩
  have hT40 : T ≤ 1099511627776 := by have := tri_small (r := m) (by omega); omega
  have HZ : Hid (zeroN m = List.replicate T 0) := Lib.hid (by rw [hT]; rfl)
  rw [← hT] at HPL ⊢
  rw [HZ.out]
  clear hw1 hg hk2 hT
  go_enter Try.func111, Try.ntmps111
  go_upto_region 1 with fail
  rw [← HW.out, ← HG.out]
  go_upto_region 2 with (go_at_call 79; refine (HPL.out _).mono ?_; rintro e w3 ⟨rfl, rfl⟩)
  go_region_held3 (fun w' => w1.heap.size ≤ w'.heap.size)
    (first | (exact Nat.le_refl _) | (show w1.heap.size ≤ w1.drew.heap.size; exact Nat.le_refl _) | exact KKa | exact KKb | exact KKc | exact KZ)
    (first
      | (show Oper.upon _ { dst := some 8, op := _, type := _, pos := _, after := _, guard := _ } _ _ _ _
         obtain ⟨g1, wc, hgn, hrun, ho, hb, hlt⟩ := run_mk T wb hT40
         rw [hrun]
         simp only [Result.andThen, Oper.upon_value]
         have HF : Hid ((Own wc g1 (g1 + 1) (some ⟨g1, 0, none⟩) T T (List.replicate T 0) ∧ Own wc g2 (g2 + 1) (some ⟨g2, 0, none⟩) T T (List.replicate T 0) ∧ Own wc g3 (g3 + 1) (some ⟨g3, 0, none⟩) T T (List.replicate T 0)) ∧ (g1 ≠ g2 ∧ g1 ≠ g3 ∧ g2 ≠ g3) ∧ (g + 1 ≤ g1 ∧ g + 1 ≤ g2 ∧ g + 1 ≤ g3) ∧ Below w1.heap.size w1 wc) := Lib.hid ⟨⟨ho, HB_2.out.1.grown hb (fun _ e => by cases e), HB_3.out.1.grown hb (fun _ e => by cases e)⟩, by have h1 := HB_2.out.2; have h2 := HB_3.out.2; have h3 := HBO.out; omega, by have h1 := HB_2.out.2; have h2 := HB_3.out.2; have h3 := HSZ.out; have h4 := HBB.out.size; omega, HBB.out.grown hb HBB.out.size (fun _ e => by cases e)⟩
         have KKc : w1.heap.size ≤ wc.heap.size := HF.out.2.2.2.size
         have HRR := Lib.hid (HK2.out.below HF.out.2.2.2 HK2.out.lt)
         obtain ⟨rr0, rr1, rr2, rr3⟩ := cells4 HRR.out
         obtain ⟨ff0, ff1, ff2, ff3⟩ := frozen4 HRR.out
         have KZ : w1.heap.size ≤ ((((wc.setCell ⟨g, 0, none⟩ (.int .i64 m)).setCell ⟨g, 1, none⟩ (.slice (some ⟨g1, 0, none⟩) T T)).setCell ⟨g, 2, none⟩ (.slice (some ⟨g2, 0, none⟩) T T)).setCell ⟨g, 3, none⟩ (.slice (some ⟨g3, 0, none⟩) T T)).heap.size := Nat.le_trans KKc (grown_put4 wc g _ _ _ _).size
         clear hgn ho hb hlt hrun)
      | (show Oper.upon _ { dst := some 10, op := _, type := _, pos := _, after := _, guard := _ } _ _ _ _
         obtain ⟨g2, wc, hgn, hrun, ho, hb, hlt⟩ := run_mk T wb hT40
         rw [hrun]
         simp only [Result.andThen, Oper.upon_value]
         have HF : Hid ((Own wc g1 (g1 + 1) (some ⟨g1, 0, none⟩) T T (List.replicate T 0) ∧ Own wc g2 (g2 + 1) (some ⟨g2, 0, none⟩) T T (List.replicate T 0) ∧ Own wc g3 (g3 + 1) (some ⟨g3, 0, none⟩) T T (List.replicate T 0)) ∧ (g1 ≠ g2 ∧ g1 ≠ g3 ∧ g2 ≠ g3) ∧ (g + 1 ≤ g1 ∧ g + 1 ≤ g2 ∧ g + 1 ≤ g3) ∧ Below w1.heap.size w1 wc) := Lib.hid ⟨⟨HB_1.out.1.grown hb (fun _ e => by cases e), ho, HB_3.out.1.grown hb (fun _ e => by cases e)⟩, by have h1 := HB_1.out.2; have h2 := HB_3.out.2; have h3 := HBO.out; omega, by have h1 := HB_1.out.2; have h2 := HB_3.out.2; have h3 := HSZ.out; have h4 := HBB.out.size; omega, HBB.out.grown hb HBB.out.size (fun _ e => by cases e)⟩
         have KKc : w1.heap.size ≤ wc.heap.size := HF.out.2.2.2.size
         have HRR := Lib.hid (HK2.out.below HF.out.2.2.2 HK2.out.lt)
         obtain ⟨rr0, rr1, rr2, rr3⟩ := cells4 HRR.out
         obtain ⟨ff0, ff1, ff2, ff3⟩ := frozen4 HRR.out
         have KZ : w1.heap.size ≤ ((((wc.setCell ⟨g, 0, none⟩ (.int .i64 m)).setCell ⟨g, 1, none⟩ (.slice (some ⟨g1, 0, none⟩) T T)).setCell ⟨g, 2, none⟩ (.slice (some ⟨g2, 0, none⟩) T T)).setCell ⟨g, 3, none⟩ (.slice (some ⟨g3, 0, none⟩) T T)).heap.size := Nat.le_trans KKc (grown_put4 wc g _ _ _ _).size
         clear hgn ho hb hlt hrun)
      | (show Oper.upon _ { dst := some 12, op := _, type := _, pos := _, after := _, guard := _ } _ _ _ _
         obtain ⟨g3, wc, hgn, hrun, ho, hb, hlt⟩ := run_mk T wb hT40
         rw [hrun]
         simp only [Result.andThen, Oper.upon_value]
         have HF : Hid ((Own wc g1 (g1 + 1) (some ⟨g1, 0, none⟩) T T (List.replicate T 0) ∧ Own wc g2 (g2 + 1) (some ⟨g2, 0, none⟩) T T (List.replicate T 0) ∧ Own wc g3 (g3 + 1) (some ⟨g3, 0, none⟩) T T (List.replicate T 0)) ∧ (g1 ≠ g2 ∧ g1 ≠ g3 ∧ g2 ≠ g3) ∧ (g + 1 ≤ g1 ∧ g + 1 ≤ g2 ∧ g + 1 ≤ g3) ∧ Below w1.heap.size w1 wc) := Lib.hid ⟨⟨HB_1.out.1.grown hb (fun _ e => by cases e), HB_2.out.1.grown hb (fun _ e => by cases e), ho⟩, by have h1 := HB_1.out.2; have h2 := HB_2.out.2; have h3 := HBO.out; omega, by have h1 := HB_1.out.2; have h2 := HB_2.out.2; have h3 := HSZ.out; have h4 := HBB.out.size; omega, HBB.out.grown hb HBB.out.size (fun _ e => by cases e)⟩
         have KKc : w1.heap.size ≤ wc.heap.size := HF.out.2.2.2.size
         have HRR := Lib.hid (HK2.out.below HF.out.2.2.2 HK2.out.lt)
         obtain ⟨rr0, rr1, rr2, rr3⟩ := cells4 HRR.out
         obtain ⟨ff0, ff1, ff2, ff3⟩ := frozen4 HRR.out
         have KZ : w1.heap.size ≤ ((((wc.setCell ⟨g, 0, none⟩ (.int .i64 m)).setCell ⟨g, 1, none⟩ (.slice (some ⟨g1, 0, none⟩) T T)).setCell ⟨g, 2, none⟩ (.slice (some ⟨g2, 0, none⟩) T T)).setCell ⟨g, 3, none⟩ (.slice (some ⟨g3, 0, none⟩) T T)).heap.size := Nat.le_trans KKc (grown_put4 wc g _ _ _ _).size
         clear hgn ho hb hlt hrun)
      | (show Oper.upon _ { dst := some 8, op := _, type := _, pos := _, after := _, guard := _ } _ _ _ _
         obtain ⟨g1, wb, hgn, hrun, ho, hb, hlt⟩ := run_mk T wa hT40
         rw [hrun]
         simp only [Result.andThen, Oper.upon_value]
         have HB_2 : Hid (Own wb g2 (g2 + 1) (some ⟨g2, 0, none⟩) T T (List.replicate T 0) ∧ w1.heap.size ≤ g2 ∧ g2 < wb.heap.size) := Lib.hid ⟨HA_2.out.1.grown hb (fun _ e => by cases e), HA_2.out.2.1, Nat.lt_of_lt_of_le HA_2.out.2.2.1 hb.size⟩
         have HB_1 : Hid (Own wb g1 (g1 + 1) (some ⟨g1, 0, none⟩) T T (List.replicate T 0) ∧ w1.heap.size ≤ g1 ∧ g1 < wb.heap.size) := Lib.hid ⟨ho, by rw [hgn]; exact HA_2.out.2.2.2.size, hlt⟩
         have HBO : Hid (g1 ≠ g2) := Lib.hid (by have := HA_2.out.2.2.1; omega)
         have HBB : Hid (Below w1.heap.size w1 wb) := Lib.hid (HA_2.out.2.2.2.grown hb HA_2.out.2.2.2.size (fun _ e => by cases e))
         have KKb : w1.heap.size ≤ wb.heap.size := HBB.out.size
         clear hgn ho hb hlt hrun)
      | (show Oper.upon _ { dst := some 8, op := _, type := _, pos := _, after := _, guard := _ } _ _ _ _
         obtain ⟨g1, wb, hgn, hrun, ho, hb, hlt⟩ := run_mk T wa hT40
         rw [hrun]
         simp only [Result.andThen, Oper.upon_value]
         have HB_3 : Hid (Own wb g3 (g3 + 1) (some ⟨g3, 0, none⟩) T T (List.replicate T 0) ∧ w1.heap.size ≤ g3 ∧ g3 < wb.heap.size) := Lib.hid ⟨HA_3.out.1.grown hb (fun _ e => by cases e), HA_3.out.2.1, Nat.lt_of_lt_of_le HA_3.out.2.2.1 hb.size⟩
         have HB_1 : Hid (Own wb g1 (g1 + 1) (some ⟨g1, 0, none⟩) T T (List.replicate T 0) ∧ w1.heap.size ≤ g1 ∧ g1 < wb.heap.size) := Lib.hid ⟨ho, by rw [hgn]; exact HA_3.out.2.2.2.size, hlt⟩
         have HBO : Hid (g1 ≠ g3) := Lib.hid (by have := HA_3.out.2.2.1; omega)
         have HBB : Hid (Below w1.heap.size w1 wb) := Lib.hid (HA_3.out.2.2.2.grown hb HA_3.out.2.2.2.size (fun _ e => by cases e))
         have KKb : w1.heap.size ≤ wb.heap.size := HBB.out.size
         clear hgn ho hb hlt hrun)
      | (show Oper.upon _ { dst := some 10, op := _, type := _, pos := _, after := _, guard := _ } _ _ _ _
         obtain ⟨g2, wb, hgn, hrun, ho, hb, hlt⟩ := run_mk T wa hT40
         rw [hrun]
         simp only [Result.andThen, Oper.upon_value]
         have HB_1 : Hid (Own wb g1 (g1 + 1) (some ⟨g1, 0, none⟩) T T (List.replicate T 0) ∧ w1.heap.size ≤ g1 ∧ g1 < wb.heap.size) := Lib.hid ⟨HA_1.out.1.grown hb (fun _ e => by cases e), HA_1.out.2.1, Nat.lt_of_lt_of_le HA_1.out.2.2.1 hb.size⟩
         have HB_2 : Hid (Own wb g2 (g2 + 1) (some ⟨g2, 0, none⟩) T T (List.replicate T 0) ∧ w1.heap.size ≤ g2 ∧ g2 < wb.heap.size) := Lib.hid ⟨ho, by rw [hgn]; exact HA_1.out.2.2.2.size, hlt⟩
         have HBO : Hid (g1 ≠ g2) := Lib.hid (by have := HA_1.out.2.2.1; omega)
         have HBB : Hid (Below w1.heap.size w1 wb) := Lib.hid (HA_1.out.2.2.2.grown hb HA_1.out.2.2.2.size (fun _ e => by cases e))
         have KKb : w1.heap.size ≤ wb.heap.size := HBB.out.size
         clear hgn ho hb hlt hrun)
      | (show Oper.upon _ { dst := some 10, op := _, type := _, pos := _, after := _, guard := _ } _ _ _ _
         obtain ⟨g2, wb, hgn, hrun, ho, hb, hlt⟩ := run_mk T wa hT40
         rw [hrun]
         simp only [Result.andThen, Oper.upon_value]
         have HB_3 : Hid (Own wb g3 (g3 + 1) (some ⟨g3, 0, none⟩) T T (List.replicate T 0) ∧ w1.heap.size ≤ g3 ∧ g3 < wb.heap.size) := Lib.hid ⟨HA_3.out.1.grown hb (fun _ e => by cases e), HA_3.out.2.1, Nat.lt_of_lt_of_le HA_3.out.2.2.1 hb.size⟩
         have HB_2 : Hid (Own wb g2 (g2 + 1) (some ⟨g2, 0, none⟩) T T (List.replicate T 0) ∧ w1.heap.size ≤ g2 ∧ g2 < wb.heap.size) := Lib.hid ⟨ho, by rw [hgn]; exact HA_3.out.2.2.2.size, hlt⟩
         have HBO : Hid (g2 ≠ g3) := Lib.hid (by have := HA_3.out.2.2.1; omega)
         have HBB : Hid (Below w1.heap.size w1 wb) := Lib.hid (HA_3.out.2.2.2.grown hb HA_3.out.2.2.2.size (fun _ e => by cases e))
         have KKb : w1.heap.size ≤ wb.heap.size := HBB.out.size
         clear hgn ho hb hlt hrun)
      | (show Oper.upon _ { dst := some 12, op := _, type := _, pos := _, after := _, guard := _ } _ _ _ _
         obtain ⟨g3, wb, hgn, hrun, ho, hb, hlt⟩ := run_mk T wa hT40
         rw [hrun]
         simp only [Result.andThen, Oper.upon_value]
         have HB_1 : Hid (Own wb g1 (g1 + 1) (some ⟨g1, 0, none⟩) T T (List.replicate T 0) ∧ w1.heap.size ≤ g1 ∧ g1 < wb.heap.size) := Lib.hid ⟨HA_1.out.1.grown hb (fun _ e => by cases e), HA_1.out.2.1, Nat.lt_of_lt_of_le HA_1.out.2.2.1 hb.size⟩
         have HB_3 : Hid (Own wb g3 (g3 + 1) (some ⟨g3, 0, none⟩) T T (List.replicate T 0) ∧ w1.heap.size ≤ g3 ∧ g3 < wb.heap.size) := Lib.hid ⟨ho, by rw [hgn]; exact HA_1.out.2.2.2.size, hlt⟩
         have HBO : Hid (g1 ≠ g3) := Lib.hid (by have := HA_1.out.2.2.1; omega)
         have HBB : Hid (Below w1.heap.size w1 wb) := Lib.hid (HA_1.out.2.2.2.grown hb HA_1.out.2.2.2.size (fun _ e => by cases e))
         have KKb : w1.heap.size ≤ wb.heap.size := HBB.out.size
         clear hgn ho hb hlt hrun)
      | (show Oper.upon _ { dst := some 12, op := _, type := _, pos := _, after := _, guard := _ } _ _ _ _
         obtain ⟨g3, wb, hgn, hrun, ho, hb, hlt⟩ := run_mk T wa hT40
         rw [hrun]
         simp only [Result.andThen, Oper.upon_value]
         have HB_2 : Hid (Own wb g2 (g2 + 1) (some ⟨g2, 0, none⟩) T T (List.replicate T 0) ∧ w1.heap.size ≤ g2 ∧ g2 < wb.heap.size) := Lib.hid ⟨HA_2.out.1.grown hb (fun _ e => by cases e), HA_2.out.2.1, Nat.lt_of_lt_of_le HA_2.out.2.2.1 hb.size⟩
         have HB_3 : Hid (Own wb g3 (g3 + 1) (some ⟨g3, 0, none⟩) T T (List.replicate T 0) ∧ w1.heap.size ≤ g3 ∧ g3 < wb.heap.size) := Lib.hid ⟨ho, by rw [hgn]; exact HA_2.out.2.2.2.size, hlt⟩
         have HBO : Hid (g2 ≠ g3) := Lib.hid (by have := HA_2.out.2.2.1; omega)
         have HBB : Hid (Below w1.heap.size w1 wb) := Lib.hid (HA_2.out.2.2.2.grown hb HA_2.out.2.2.2.size (fun _ e => by cases e))
         have KKb : w1.heap.size ≤ wb.heap.size := HBB.out.size
         clear hgn ho hb hlt hrun)
      | (show Oper.upon _ { dst := some 8, op := _, type := _, pos := _, after := _, guard := _ } _ _ _ _
         obtain ⟨g1, wa, hgn, hrun, ho, hb, hlt⟩ := run_mk T w1.drew hT40
         rw [hrun]
         simp only [Result.andThen, Oper.upon_value]
         have HA_1 : Hid (Own wa g1 (g1 + 1) (some ⟨g1, 0, none⟩) T T (List.replicate T 0) ∧ w1.heap.size ≤ g1 ∧ g1 < wa.heap.size ∧ Below w1.heap.size w1 wa) := Lib.hid ⟨ho, by rw [hgn]; exact Nat.le_refl _, hlt, ((Below.refl _ _).drew).grown hb (Nat.le_refl _) (fun _ e => by cases e)⟩
         have KKa : w1.heap.size ≤ wa.heap.size := HA_1.out.2.2.2.size
         clear hgn ho hb hlt hrun)
      | (show Oper.upon _ { dst := some 10, op := _, type := _, pos := _, after := _, guard := _ } _ _ _ _
         obtain ⟨g2, wa, hgn, hrun, ho, hb, hlt⟩ := run_mk T w1.drew hT40
         rw [hrun]
         simp only [Result.andThen, Oper.upon_value]
         have HA_2 : Hid (Own wa g2 (g2 + 1) (some ⟨g2, 0, none⟩) T T (List.replicate T 0) ∧ w1.heap.size ≤ g2 ∧ g2 < wa.heap.size ∧ Below w1.heap.size w1 wa) := Lib.hid ⟨ho, by rw [hgn]; exact Nat.le_refl _, hlt, ((Below.refl _ _).drew).grown hb (Nat.le_refl _) (fun _ e => by cases e)⟩
         have KKa : w1.heap.size ≤ wa.heap.size := HA_2.out.2.2.2.size
         clear hgn ho hb hlt hrun)
      | (show Oper.upon _ { dst := some 12, op := _, type := _, pos := _, after := _, guard := _ } _ _ _ _
         obtain ⟨g3, wa, hgn, hrun, ho, hb, hlt⟩ := run_mk T w1.drew hT40
         rw [hrun]
         simp only [Result.andThen, Oper.upon_value]
         have HA_3 : Hid (Own wa g3 (g3 + 1) (some ⟨g3, 0, none⟩) T T (List.replicate T 0) ∧ w1.heap.size ≤ g3 ∧ g3 < wa.heap.size ∧ Below w1.heap.size w1 wa) := Lib.hid ⟨ho, by rw [hgn]; exact Nat.le_refl _, hlt, ((Below.refl _ _).drew).grown hb (Nat.le_refl _) (fun _ e => by cases e)⟩
         have KKa : w1.heap.size ≤ wa.heap.size := HA_3.out.2.2.2.size
         clear hgn ho hb hlt hrun)
      | fail)
  all_goals
    (go_wp2
     refine bodyPost_ret (results_rowP Try.results111 _ _ g 35 #[.int .i64 m, .slice (some ⟨g1, 0, none⟩) T T, .slice (some ⟨g2, 0, none⟩) T T, .slice (some ⟨g3, 0, none⟩) T T] _ rfl (HRR.out.put4 _ _ _ _) Try.underlying35 rfl Try.infoPz) rfl ?_
     have hgz := grown_put4 wc g (.int .i64 m) (.slice (some ⟨g1, 0, none⟩) T T) (.slice (some ⟨g2, 0, none⟩) T T) (.slice (some ⟨g3, 0, none⟩) T T)
     have l1 := HSZ.out
     have l2 := HG.out
     have l3 := HF.out.2.2.1
     have l4 := HF.out.2.2.2.size
     exact ⟨g1, g2, g3, rfl, HF.out.2.1, ⟨by omega, by omega, by omega⟩, HF.out.1.1.grown hgz (by rintro k ⟨⟩; omega), HF.out.1.2.1.grown hgz (by rintro k ⟨⟩; omega), HF.out.1.2.2.grown hgz (by rintro k ⟨⟩; omega), (HB1.out.trans (HF.out.2.2.2.mono (by omega))).grown hgz (by omega) (by rintro k ⟨⟩; omega)⟩)
end Go.Proofs.Ytdappakjbclffaa
