/-
  A number inserted into rows, on the program's side: copies of rows, and the walk down the rows. Conditions: lengths below 2^40.
-/
import Derived.Test.YtdkcngilmdpbgaaInsI
import Derived.Test.YtdkcngilmdpbgaaLsHelp
namespace Go.Proofs.Ytdkcngilmdpbgaa
open Go.RowKit

set_option maxHeartbeats 800000 in
theorem cloneRows_any (A : Option Addr) (n c : Nat) (ls : List (List Int)) (w : World) (hs : LS w A n ls) (hn : n ≤ 1099511627776) (hne : ∀ k, k < n → (li ls k).length ≤ 1099511627776) :
    Calls Try.prog 95 #[.slice A n c] w fun e w' => e = .returned (.slice (some ⟨w.heap.size, 0, none⟩) n n) ∧ OwnL w' w.heap.size w'.heap.size (some ⟨w.heap.size, 0, none⟩) n n ls ∧ Below w.heap.size w w' := by
  have hl := hs.1
  have HNE := Lib.hid hne
  have HL := Lib.hid hl
  obtain ⟨B, hB⟩ : ∃ B, B = w.heap.size := ⟨_, rfl⟩
  have HB0 : Hid (B = w.heap.size) := hB
  clear hne
  go_enter Try.func95, Try.ntmps95
  go_wp2_with (at_make; refine wpList_make_lists rfl (.tmp 7) (.tmp 7) rfl n rfl rfl hn ?_; intro w1 hown hbel1)
  rw [← hB] at hown hbel1 ⊢
  go_loopw [11] (fun i wr => ∃ k : Nat, k ≤ n ∧ i = .int .i64 k ∧ OwnL wr B wr.heap.size (some ⟨B, 0, none⟩) n n (copLs ls k) ∧ Below B w wr)
    (fun i _ => n - (intOf i).toNat)
  case atStart =>
    refine ⟨0, Nat.zero_le _, rfl, ?_, hbel1⟩
    rw [copLs_zero, hl]; exact hown
  case round =>
    obtain ⟨k, hk, rfl, hown2, hbel⟩ := hrel
    clear hown hbel1 w1
    have HO := Lib.hid hown2
    have HB := Lib.hid hbel
    by_cases hlt : k < n
    · obtain ⟨b, o, A', n', c', rfl, hb, hc0, hsi, hnc, hnil⟩ := (hs.below hbel (by omega)).at_ hlt
      obtain ⟨xs, hxs⟩ : ∃ xs, xs = li ls k := ⟨_, rfl⟩
      rw [← hxs] at hsi
      have hn' : n' ≤ 1099511627776 := by have := HNE.out k hlt; rw [← hxs] at this; have := hsi.1; omega
      have HXS := Lib.hid hxs
      have HSI := Lib.hid hsi
      have HNL := Lib.hid hnil
      clear hxs hown2 hbel hs hl hsi hB hnil
      have hlI : (k : Int) < (n : Int) := by omega
      go_wp2_with fail
      refine (clone_any _ _ _ xs _ HSI.out HNL.out hn').mono ?_
      rintro e w2 ⟨A2, n2, c2, rfl, ho2, hb2⟩
      have hO2 := HO.out.below hb2 (Nat.le_refl _)
      obtain ⟨A3, n3, c3, hd0, hfz, _⟩ := hO2.item hlt
      have hf0 := hfz k
      have hput := hO2.put hlt ho2 (Nat.le_refl _) (by have := HB0.out; have := HB.out.size; omega) hb2.size
      have HP := Lib.hid hput
      have HB2 := Lib.hid (HB.out.trans (hb2.mono (by have := HB.out.size; have := HB0.out; omega)))
      clear hfz hput hO2 ho2 hb2 HSI hc0
      go_wp2
      go_roundw
      case rel =>
        refine ⟨k + 1, by omega, by go_num, ?_, ?_⟩
        · have h1 := HP.out.1
          rw [HXS.out, copLs_succ (by rw [HL.out]; exact hlt)] at h1
          simpa using h1
        · exact HB2.out.grown HP.out.2 (by have := HB2.out.size; have := HB0.out; omega) (by rintro q ⟨⟩; exact Nat.le_refl _)
      case measure => simp [intOf]; omega
    · have hkn : k = n := by omega
      subst hkn
      go_wp2
      go_ret
      have e := HB0.out
      subst e
      refine ⟨rfl, ?_, HB.out⟩
      have := HO.out
      rw [← HL.out, copLs_all] at this
      rw [← HL.out]
      exact this
set_option maxRecDepth 100000 in
set_option maxHeartbeats 4000000 in
theorem insRule_any (g n c : Nat) (ls : List (List Int)) (x : Int) (lo : Nat) (w : World) (ho : OwnL w lo w.heap.size (some ⟨g, 0, none⟩) n c ls) (hlo : lo ≤ w.heap.size) (hn : n ≤ 1099511627776) (hne : ∀ k, k < n → (li ls k).length ≤ 1099511627776) :
    Calls Try.prog 94 #[.slice (some ⟨g, 0, none⟩) n c, .int .i64 x, .func (.func 96) #[] #[]] w fun e w' => ∃ A' n' c' row out, e = .returned (.tuple #[.slice A' n' c', .int .i64 ((row : Nat) : Int)]) ∧ InsIs ls x out row ∧ OwnL w' lo w'.heap.size A' n' c' out ∧ Below lo w w' := by
  have HNE := Lib.hid hne
  have HL := Lib.hid ho.si.1
  have HO := Lib.hid ho
  have HLO := Lib.hid hlo
  clear hne ho hlo
  go_enter Try.func94, Try.ntmps94
  go_wp2_with fail
  go_loopw [1, 15] (fun xv iv wr => ∃ i : Nat, i ≤ n ∧ iv = .int .i64 i ∧ xv = .int .i64 (xI ls x i) ∧ (∀ j, j < i → goesI ls x j) ∧ OwnL wr lo wr.heap.size (some ⟨g, 0, none⟩) n c (rI ls x i) ∧ Below lo w wr)
    (fun _ iv _ => n - (intOf iv).toNat)
  case atStart => exact ⟨0, Nat.zero_le _, rfl, rfl, fun j hj => absurd hj (by omega), HO.out, Below.refl _ _⟩
  case round =>
    obtain ⟨i, hi, rfl, rfl, hgo, ho, hb⟩ := hrel
    clear HO
    obtain ⟨wo, rfl⟩ : ∃ wo, wo = wr := ⟨wr, rfl⟩
    have HGO := Lib.hid hgo
    have HB := Lib.hid hb
    obtain ⟨E, hE⟩ := ho
    have HE := Lib.hid hE
    have HLW : Hid (lo ≤ wo.heap.size) := Lib.hid (Nat.le_trans HLO.out hb.size)
    clear hgo hb hE
    obtain ⟨X, hX⟩ : ∃ X, X = xI ls x i := ⟨_, rfl⟩
    rw [← hX]
    have HX := Lib.hid hX
    clear hX
    by_cases hlt : i < n
    · have hlI : (i : Int) < (n : Int) := by omega
      have hcE := HE.out.cellAt hlt
      have hOE := HE.out.2.2.2.1 i hlt
      rw [rI_li (Nat.le_refl _) (by rw [HL.out]; omega)] at hOE
      obtain ⟨⟨A', n', c'⟩, hEi⟩ : ∃ a, a = E i := ⟨_, rfl⟩
      rw [← hEi] at hcE hOE
      have hcell : wo.cell? ⟨g, i, none⟩ = some (.slice A' n' c') := hcE
      have hown : Own wo lo wo.heap.size A' n' c' (li ls i) := hOE
      have HEI := Lib.hid hEi
      obtain ⟨xs, hxs⟩ : ∃ xs, xs = li ls i := ⟨_, rfl⟩
      rw [← hxs] at hown
      have HXS := Lib.hid hxs
      have hlen := hown.len
      have hn' : n' ≤ 1099511627776 := by have := HNE.out i hlt; rw [← hxs] at this; omega
      have HGW : Hid (g < wo.heap.size) := Lib.hid (HE.out.2.2.1 g rfl)
      have hgle : gtN xs X ≤ n' := by have := gtN_le xs X; omega
      by_cases hgt : gtN xs X < n'
      · have HC := Lib.hid (insRow_mid A' n' c' xs X lo wo hown HLW.out hn' hgt)
        have HGT : Hid (goesI ls x i) := Lib.hid (by unfold goesI; rw [← HXS.out, ← HX.out]; omega)
        have HF : Hid (∀ wm w2, Below wo.heap.size wo wm → wm.grownBy w2 (rowB A') → Own w2 lo w2.heap.size A' n' c' (xs.set (gtN xs X) X) → w2.cell? ⟨g, i, none⟩ = some (.slice A' n' c') ∧ w2.frozen? ⟨g, i, none⟩ = false ∧ OwnL (w2.setCell ⟨g, i, none⟩ (.slice A' n' c')) lo (w2.setCell ⟨g, i, none⟩ (.slice A' n' c')).heap.size (some ⟨g, 0, none⟩) n c (rI ls x (i + 1)) ∧ Below lo w (w2.setCell ⟨g, i, none⟩ (.slice A' n' c'))) := Lib.hid (by
          intro wm w2 hb1 hg1 ho2
          have hEm : OwnLE E wm lo wo.heap.size (some ⟨g, 0, none⟩) n c (rI ls x i) := HE.out.below hb1 (Nat.le_refl _)
          have hbk : w2.heap[g]? = wm.heap[g]? := hg1.block g (Nat.lt_of_lt_of_le HGW.out hb1.size) (fun e => hEm.2.2.2.2.1 i g hlt (by rw [← HEI.out]; unfold sv; rw [ownB]; exact e.symm) rfl)
          have hRP := hEm.repl (k := i) hlt hb1.size (A2 := A') (n2 := n') (c2 := c') (ys := xs.set (gtN xs X) X) (w2 := w2) (by rw [← HEI.out]; exact hg1) ho2 (by rw [← HEI.out]; exact .inl rfl)
          refine ⟨?_, ?_, ?_, ?_⟩
          · rw [World.cell?_of_block (a := ⟨g, i, none⟩) hbk]
            have := hEm.cellAt hlt
            rw [← HEI.out] at this; exact this
          · rw [World.frozen?_of_block (a := ⟨g, i, none⟩) hbk]
            exact hEm.2.1.frozenAt i
          · have e : rI ls x (i + 1) = (rI ls x i).set i (xs.set (gtN xs X) X) := by
              show (rI ls x i).set i ((li ls i).set (gtN (li ls i) (xI ls x i)) (xI ls x i)) = _
              rw [← HXS.out, ← HX.out]
            rw [e]
            exact hRP.1.wide (Nat.le_refl _) hRP.2.size
          · have hb2 : Below lo w w2 := (HB.out.trans (hb1.mono HLW.out)).grown hg1 (Nat.le_trans HLW.out hb1.size) (fun q hq => (hown.row_lt' hq).1)
            exact hb2.grown hRP.2 (by have := hg1.size; have := hb1.size; have := HLW.out; omega) (by rintro q ⟨⟩; exact (HE.out.row_lt' rfl).1))
        have HXN : Hid (xI ls x (i + 1) = nth xs (gtN xs X)) := Lib.hid (by
          show nth (li ls i) (gtN (li ls i) (xI ls x i)) = _
          rw [← HXS.out, ← HX.out])
        clear hcE hOE hEi hxs hown hgle hlen
        go_upto_region 5 with (go_at_call 96; refine HC.out.mono ?_; rintro e w2 ⟨rfl, ho2, wm, hb2, hg2⟩; have HF2 := Lib.hid (HF.out wm w2 hb2 hg2 ho2); clear ho2 hb2 hg2)
        obtain ⟨hc2, hf2, _, _⟩ := HF2.out
        clear hcell
        go_wp2
        go_roundw
        case rel => exact ⟨i + 1, by omega, by go_num, by rw [HXN.out], fun j hj => by
          rcases Nat.lt_or_ge j i with h | h
          · exact HGO.out j h
          · obtain rfl : j = i := by omega
            exact HGT.out, HF2.out.2.2.1, HF2.out.2.2.2⟩
        case measure => simp [intOf]; omega
      · have hge : gtN xs X = n' := by omega
        have HC := Lib.hid (insRow_end A' n' c' xs X lo wo hown HLW.out hn' hge)
        have HGT : Hid (InsIs ls x ((rI ls x i).set i (xs ++ [X])) i) := Lib.hid (.inl ⟨by rw [HL.out]; exact hlt, HGO.out, by unfold goesI; rw [← HXS.out, ← HX.out]; omega, by rw [← HXS.out, ← HX.out]⟩)
        have HF : Hid (∀ wm w2 A2 c2, Below wo.heap.size wo wm → wm.grownBy w2 (rowB A') → Own w2 lo w2.heap.size A2 (n' + 1) c2 (xs ++ [X]) → (rowB A2 = rowB A' ∨ ∃ q, rowB A2 = some q ∧ wm.heap.size ≤ q) → w2.cell? ⟨g, i, none⟩ = some (.slice A' n' c') ∧ w2.frozen? ⟨g, i, none⟩ = false ∧ OwnL (w2.setCell ⟨g, i, none⟩ (.slice A2 (n' + 1) c2)) lo (w2.setCell ⟨g, i, none⟩ (.slice A2 (n' + 1) c2)).heap.size (some ⟨g, 0, none⟩) n c ((rI ls x i).set i (xs ++ [X])) ∧ Below lo w (w2.setCell ⟨g, i, none⟩ (.slice A2 (n' + 1) c2))) := Lib.hid (by
          intro wm w2 A2 c2 hb1 hg1 ho2 hat
          have hEm : OwnLE E wm lo wo.heap.size (some ⟨g, 0, none⟩) n c (rI ls x i) := HE.out.below hb1 (Nat.le_refl _)
          have hbk : w2.heap[g]? = wm.heap[g]? := hg1.block g (Nat.lt_of_lt_of_le HGW.out hb1.size) (fun e => hEm.2.2.2.2.1 i g hlt (by rw [← HEI.out]; unfold sv; rw [ownB]; exact e.symm) rfl)
          have hRP := hEm.repl (k := i) hlt hb1.size (A2 := A2) (n2 := n' + 1) (c2 := c2) (ys := xs ++ [X]) (w2 := w2) (by rw [← HEI.out]; exact hg1) ho2 (by rw [← HEI.out]; exact hat)
          refine ⟨?_, ?_, ?_, ?_⟩
          · rw [World.cell?_of_block (a := ⟨g, i, none⟩) hbk]
            have := hEm.cellAt hlt
            rw [← HEI.out] at this; exact this
          · rw [World.frozen?_of_block (a := ⟨g, i, none⟩) hbk]
            exact hEm.2.1.frozenAt i
          · exact hRP.1.wide (Nat.le_refl _) hRP.2.size
          · have hb2 : Below lo w w2 := (HB.out.trans (hb1.mono HLW.out)).grown hg1 (Nat.le_trans HLW.out hb1.size) (fun q hq => (hown.row_lt' hq).1)
            exact hb2.grown hRP.2 (by have := hg1.size; have := hb1.size; have := HLW.out; omega) (by rintro q ⟨⟩; exact (HE.out.row_lt' rfl).1))
        clear hcE hOE hEi hxs hown hgle hgt hge hlen
        go_upto_region 5 with (go_at_call 96; refine HC.out.mono ?_; rintro e w2 ⟨A2, c2, wm, rfl, ho2, hb2, hg2, hat2⟩; have HF2 := Lib.hid (HF.out wm w2 A2 c2 hb2 hg2 ho2 hat2); clear ho2 hb2 hg2 hat2)
        obtain ⟨hc2, hf2, _, _⟩ := HF2.out
        clear hcell
        go_wp2
        go_ret2
        first
          | exact ⟨_, n, c, i, rfl, (rI ls x i).set i (xs ++ [X]), HGT.out, HF2.out.2.2.1, HF2.out.2.2.2⟩
          | exact ⟨_, n, c, i, (rI ls x i).set i (xs ++ [X]), rfl, HGT.out, HF2.out.2.2.1, HF2.out.2.2.2⟩
    · obtain rfl : i = n := by omega
      have HOL : Hid (OwnL wo lo wo.heap.size (some ⟨g, 0, none⟩) i c (rI ls x i)) := Lib.hid ⟨E, HE.out⟩
      have HLT : Hid (Own (wo.alloc (.cells #[.int .i64 X] 3)) wo.heap.size (wo.alloc (.cells #[.int .i64 X] 3)).heap.size (some ⟨wo.heap.size, 0, none⟩) 1 1 [X]) := Lib.hid ⟨World.ownsRow_lit wo #[.int .i64 X] 1 (Nat.le_refl _) (by unfold maxLen; omega) rfl, fun k hk => by simp [Value.ownBlock] at hk; simp; omega⟩
      have hba : Below wo.heap.size wo (wo.alloc (.cells #[.int .i64 X] 3)) := Below.alloc_self _ _
      have HBA := Lib.hid hba
      clear hba
      go_wp2_with (at_builtin; refine wpList_appendL rfl (.tmp 38) (.tmp 41) rfl lo wo.heap.size _ i c (rI ls x i) wo.heap.size (wo.alloc (.cells #[.int .i64 X] 3)).heap.size (some ⟨wo.heap.size, 0, none⟩) 1 1 [X] rfl (by show Act.eval _ _ = _; simp [Act.eval]) (HOL.out.below HBA.out (Nat.le_refl _)) HLT.out HLW.out (Nat.le_refl _) (Nat.le_refl _) HBA.out.size (Nat.le_trans HLW.out HBA.out.size) (by omega) ?_
                   intro A4 c4 w4 ho4 hb4
                   have HO4 := Lib.hid ho4
                   have HB4 : Hid (Below lo w w4) := Lib.hid ((HB.out.trans (HBA.out.mono HLW.out)).trans hb4)
                   clear ho4 hb4)
      go_ret2
      refine ⟨A4, i + 1, c4, i, rI ls x i ++ [[X]], rfl, .inr ⟨HL.out.symm, HGO.out, ?_⟩, HO4.out, HB4.out⟩
      rw [← HX.out]
end Go.Proofs.Ytdkcngilmdpbgaa
