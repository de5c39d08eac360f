/-
  A number inserted into a tableau, on the document's side. Conditions: lengths below 2^40.
-/
import Derived.Test.YtfaegfhbbkicgaaInsM
import Derived.Test.YtfaegfhbbkicgaaTabS
import Derived.Test.YtfaegfhbbkicgaaSpecF
namespace Go.Proofs.Ytfaegfhbbkicgaa
open Go.RowKit

set_option maxHeartbeats 800000 in
theorem l4Copy_any (A : Option Addr) (n c : Nat) (ls : List (List Int)) (w : World) (hs : LS w A n ls) (hn : n ≤ 1099511627776) (hne : ∀ k, k < n → (li ls k).length ≤ 1099511627776) :
    Calls Try.prog 147 #[.slice A n c] w fun e w' => ∃ g' c', e = .returned (.slice (some ⟨g', 0, none⟩) n c') ∧ OwnL w' w.heap.size w'.heap.size (some ⟨g', 0, none⟩) n c' ls ∧ Below w.heap.size w w' := by
  have hl := hs.1
  have HNE := Lib.hid hne
  have HL := Lib.hid hl
  have HS := Lib.hid hs
  clear hne hs hl
  go_enter Try.func147, Try.ntmps147
  go_wp2
  go_loopw [3, 4] (fun ov iv wr => ∃ (k : Nat) (g' c' : Nat), k ≤ n ∧ iv = .int .i64 k ∧ ov = .slice (some ⟨g', 0, none⟩) k c' ∧ OwnL wr w.heap.size wr.heap.size (some ⟨g', 0, none⟩) k c' (ls.take k) ∧ Below w.heap.size w wr)
    (fun _ iv _ => n - (intOf iv).toNat)
  case atStart => exact ⟨0, _, _, Nat.zero_le _, rfl, rfl, by rw [List.take_zero]; exact (OwnL.empty w).wide (Nat.le_refl _) (by simp), Below.alloc_self _ _⟩
  case round =>
    obtain ⟨k, g', c', hk, rfl, rfl, ho, hb⟩ := hrel
    have HO := Lib.hid ho
    have HB := Lib.hid hb
    clear ho hb
    by_cases hlt : k < n
    · have hlI : (k : Int) < (n : Int) := by omega
      obtain ⟨b, o, A3, n3, c3, rfl, hbb, hc0, hsi, hnc, hnil⟩ := (HS.out.below HB.out (Nat.le_refl _)).at_ hlt
      have HSI := Lib.hid hsi
      have HLN := Lib.hid (HNE.out k hlt)
      have HTK : Hid (ls.take (k + 1) = ls.take k ++ [li ls k]) := Lib.hid (take_li (by rw [HL.out]; exact hlt))
      have hn3 : n3 ≤ 1099511627776 := by have := hsi.1; have := HLN.out; omega
      generalize li ls k = xs at HSI HTK HLN
      clear hsi hnc hnil
      go_wp2_with (first
        | (go_at_call 170
           refine (l1Ints_any _ _ _ xs _ HSI.out hn3).mono ?_
           rintro e w2 ⟨A2, n2, c2, rfl, ho2, hb2⟩
           have HO2 := Lib.hid ho2
           have HB2 := Lib.hid hb2
           clear ho2 hb2)
        | (at_builtin; refine wpList_appendL rfl (.tmp 12) (.tmp 18) rfl w.heap.size wr.heap.size _ k c' (ls.take k) wr.heap.size w2.heap.size A2 n2 c2 xs rfl rfl (HO.out.below HB2.out (Nat.le_refl _)) HO2.out HB.out.size (Nat.le_refl _) (Nat.le_refl _) HB2.out.size (Nat.le_trans HB.out.size HB2.out.size) (by omega) ?_
           intro A4 c4 w4 ho4 hb4
           have HO4 := Lib.hid ho4
           have HB4 : Hid (Below w.heap.size w w4) := Lib.hid ((HB.out.trans (HB2.out.mono HB.out.size)).trans hb4)
           clear ho4 hb4))
      obtain ⟨g4, hA4, _, _⟩ := HO4.out.place (by omega)
      go_roundw
      case rel => exact ⟨k + 1, g4, c4, by omega, by go_num, by rw [hA4], by rw [HTK.out, ← hA4]; exact HO4.out, HB4.out⟩
      case measure => simp [intOf]; omega
    · obtain rfl : k = n := by omega
      have hT : ls.take k = ls := List.take_of_length_le (by rw [HL.out]; exact Nat.le_refl _)
      rw [hT] at HO
      clear hT
      go_wp2
      go_ret
      exact ⟨g', c', rfl, HO.out, HB.out⟩
set_option maxRecDepth 100000 in
set_option maxHeartbeats 4000000 in
theorem l4Insert_any (A : Option Addr) (n c : Nat) (ls : List (List Int)) (x : Int) (w : World) (hs : LS w A n ls) (hn : n ≤ 1099511627776) (hne : ∀ k, k < n → (li ls k).length ≤ 1099511627776) :
    Calls Try.prog 83 #[.slice A n c, .int .i64 x] w fun e w' => ∃ A' n' c' row out, e = .returned (.tuple #[.slice A' n' c', .int .i64 ((row : Nat) : Int)]) ∧ InsIs ls x out row ∧ OwnL w' w.heap.size w'.heap.size A' n' c' out ∧ Below w.heap.size w w' := by
  have HNE := Lib.hid hne
  have HL := Lib.hid hs.1
  have HCP := Lib.hid (l4Copy_any A n c ls w hs hn hne)
  clear hne hs
  go_enter Try.func83, Try.ntmps83
  go_wp2_with (go_at_call 147; refine HCP.out.mono ?_; rintro e w1 ⟨g, c1, rfl, ho1, hb1⟩; have HO1 := Lib.hid ho1; have HB1 := Lib.hid hb1; clear ho1 hb1)
  go_loopw [1, 7] (fun xv iv wr => ∃ i : Nat, i ≤ n ∧ iv = .int .i64 i ∧ xv = .int .i64 (xI ls x i) ∧ (∀ j, j < i → goesI ls x j) ∧ OwnL wr w.heap.size wr.heap.size (some ⟨g, 0, none⟩) n c1 (rI ls x i) ∧ Below w.heap.size w wr)
    (fun _ iv _ => n - (intOf iv).toNat)
  case atStart => exact ⟨0, Nat.zero_le _, rfl, rfl, fun j hj => absurd hj (by omega), HO1.out, HB1.out⟩
  case round =>
    obtain ⟨i, hi, rfl, rfl, hgo, ho, hb⟩ := hrel
    clear HO1 HB1
    obtain ⟨wo, rfl⟩ : ∃ wo, wo = wr := ⟨wr, rfl⟩
    have HGO := Lib.hid hgo
    have HB := Lib.hid hb
    obtain ⟨E, hE⟩ := ho
    have HE := Lib.hid hE
    clear hgo hb hE
    obtain ⟨X, hX⟩ : ∃ X, X = xI ls x i := ⟨_, rfl⟩
    rw [← hX]
    have HX := Lib.hid hX
    clear hX
    by_cases hlt : i < n
    · have hlI : (i : Int) < (n : Int) := by omega
      have hcE := HE.out.cellAt hlt
      have hOE := HE.out.2.2.2.1 i hlt
      rw [rI_li (Nat.le_refl _) (by rw [HL.out]; omega)] at hOE
      obtain ⟨⟨A', n', c'⟩, hEi⟩ : ∃ a, a = E i := ⟨_, rfl⟩
      rw [← hEi] at hcE hOE
      have hcell : wo.cell? ⟨g, i, none⟩ = some (.slice A' n' c') := hcE
      have hown : Own wo w.heap.size wo.heap.size A' n' c' (li ls i) := hOE
      have HEI := Lib.hid hEi
      obtain ⟨xs, hxs⟩ : ∃ xs, xs = li ls i := ⟨_, rfl⟩
      rw [← hxs] at hown
      have HXS := Lib.hid hxs
      have hlen := hown.len
      have hn' : n' ≤ 1099511627776 := by have := HNE.out i hlt; rw [← hxs] at this; omega
      have HOW := Lib.hid hown
      have HCL := Lib.hid hcell
      have HGW : Hid (g < wo.heap.size) := Lib.hid (HE.out.2.2.1 g rfl)
      clear hcE hOE hEi hxs hown hcell
      go_wp2_with fail
      go_loopw [8] (fun av wr => ∃ k : Nat, k ≤ n' ∧ av = .int .i64 k ∧ (∀ j, j < k → nth xs j ≤ X) ∧ Drawn wo wr)
        (fun av _ => n' - (intOf av).toNat)
      case atStart => exact ⟨0, Nat.zero_le _, rfl, fun j hj => absurd hj (by omega), Drawn.refl _⟩
      case round =>
        obtain ⟨k, hk, rfl, hall, hD⟩ := hrel
        have HALL := Lib.hid hall
        have HD := Lib.hid hD
        have hcell : wr.cell? ⟨g, i, none⟩ = some (.slice A' n' c') := (Below.cell (hD.below wo.heap.size) (p := ⟨g, i, none⟩) HGW.out).trans HCL.out
        clear hall hD
        by_cases hkn : k < n'
        · have hkI : (k : Int) < (n' : Int) := by omega
          have hki : ((k : Int) == (n' : Int)) = false := by simp; omega
          obtain ⟨gr, rfl, hg1, hg2⟩ := HOW.out.place (by omega)
          have hck := (HOW.out.drawn HD.out).cellAt hkn
          obtain ⟨y, hy⟩ : ∃ y, y = nth xs k := ⟨_, rfl⟩
          rw [← hy] at hck
          have HY := Lib.hid hy
          clear hy
          by_cases hle : y ≤ X
          · go_wp2
            go_roundw
            case rel => exact ⟨k + 1, by omega, by go_num, fun j hj => by
              rcases Nat.lt_or_ge j k with h | h
              · exact HALL.out j h
              · obtain rfl : j = k := by omega
                rw [← HY.out]; exact hle, HD.out⟩
            case measure => simp [intOf]; omega
          · have hgt : gtN xs X = k := gtN_is xs k (by omega) HALL.out (.inr (by rw [← HY.out]; exact hle))
            have hOr := HOW.out.drawn HD.out
            have hfz := hOr.frozenAt k
            obtain ⟨hset, hgrw⟩ := hOr.set_ (k := k) X
            have HEr : Hid (OwnLE E wr w.heap.size wo.heap.size (some ⟨g, 0, none⟩) n c1 (rI ls x i)) := Lib.hid (HE.out.below (HD.out.below wo.heap.size) (Nat.le_refl _))
            have HFIN : Hid (OwnL (wr.setCell ⟨gr, k, none⟩ (.int .i64 X)) w.heap.size (wr.setCell ⟨gr, k, none⟩ (.int .i64 X)).heap.size (some ⟨g, 0, none⟩) n c1 (rI ls x (i + 1))) := Lib.hid (by
              have hh := (HD.out.below wo.heap.size).size
              have h1 := OwnL.item ⟨E, HEr.out⟩ hlt
              obtain ⟨A9, n9, c9, e9, _, _, hput⟩ := h1
              rw [hcell] at e9
              injection e9 with e9; injection e9 with a1 a2 a3
              subst a1; subst a2; subst a3
              have h2 := hput _ _ hset hgrw
              have e : rI ls x (i + 1) = (rI ls x i).set i (xs.set k X) := by
                show (rI ls x i).set i ((li ls i).set (gtN (li ls i) (xI ls x i)) (xI ls x i)) = _
                rw [← HXS.out, ← HX.out, hgt]
              rw [e]
              exact h2.wide (Nat.le_refl _) (by simpa using hh))
            have HGT := Lib.hid hgt
            have HBN : Hid (Below w.heap.size w (wr.setCell ⟨gr, k, none⟩ (.int .i64 X))) := Lib.hid ((HB.out.trans (HD.out.below _)).setCell hg1 _)
            have HGOES : Hid (goesI ls x i) := Lib.hid (by unfold goesI; rw [← HXS.out, ← HX.out, hgt]; omega)
            have HXN : Hid (xI ls x (i + 1) = y) := Lib.hid (by
              show nth (li ls i) (gtN (li ls i) (xI ls x i)) = y
              rw [← HXS.out, ← HX.out, hgt]; exact HY.out.symm)
            clear hgt hOr hset hgrw
            go_wp2
            go_roundw
            case rel => exact ⟨i + 1, by omega, by go_num, by rw [HXN.out], fun j hj => by
              rcases Nat.lt_or_ge j i with h | h
              · exact HGO.out j h
              · obtain rfl : j = i := by omega
                exact HGOES.out, HFIN.out, HBN.out⟩
            case measure => simp [intOf]; omega
        · obtain rfl : k = n' := by omega
          have hgt : gtN xs X = k := gtN_is xs k (by omega) HALL.out (.inl hlen.symm)
          have hkI : ¬ (k : Int) < (k : Int) := by omega
          have hOr := HOW.out.drawn HD.out
          have HOr := Lib.hid hOr
          have HEr : Hid (OwnLE E wr w.heap.size wr.heap.size (some ⟨g, 0, none⟩) n c1 (rI ls x i)) := Lib.hid ((HE.out.below (HD.out.below wo.heap.size) (Nat.le_refl _)).wide (HD.out.below wo.heap.size).size)
          have HLO : Hid (w.heap.size ≤ wr.heap.size) := Lib.hid (Nat.le_trans HB.out.size (HD.out.below wo.heap.size).size)
          have HGT := Lib.hid hgt
          have HGR : Hid (g < wr.heap.size) := Lib.hid (Nat.lt_of_lt_of_le HGW.out (HD.out.below wo.heap.size).size)
          clear hgt hOr
          go_wp2_with (first
            | (at_builtin; refine wpList_append_keep rfl (.tmp 50) (.tmp 52) rfl w.heap.size wo.heap.size A' k c' xs X rfl rfl HOr.out HLO.out (by omega) ?_
               intro B' d' w2 ho2 hg2 hat2
               have HO2 := Lib.hid ho2
               have HG2 := Lib.hid hg2
               have hRP := HEr.out.repl (k := i) hlt (Nat.le_refl _) (A2 := B') (n2 := k + 1) (c2 := d') (ys := xs ++ [X]) (w2 := w2) (by rw [← HEI.out]; exact hg2) ho2 (by
                 rw [← HEI.out]
                 rcases hat2 with ⟨h, _⟩ | ⟨q, h, hq, _⟩
                 · left; rw [h]
                 · right; exact ⟨q, by rw [h]; rfl, hq⟩)
               have HRP := Lib.hid hRP
               have hc2 : w2.cell? ⟨g, i, none⟩ = some (.slice A' k c') := by
                 have h1 : w2.heap[g]? = wr.heap[g]? := hg2.block g HGR.out (fun e => HEr.out.2.2.2.2.1 i g hlt (by rw [← HEI.out]; unfold sv; rw [ownB]; exact e.symm) rfl)
                 rw [World.cell?_of_block (a := ⟨g, i, none⟩) h1]; exact hcell
               have hf2 : w2.frozen? ⟨g, i, none⟩ = false := by
                 have h1 : w2.heap[g]? = wr.heap[g]? := hg2.block g HGR.out (fun e => HEr.out.2.2.2.2.1 i g hlt (by rw [← HEI.out]; unfold sv; rw [ownB]; exact e.symm) rfl)
                 rw [World.frozen?_of_block (a := ⟨g, i, none⟩) h1]
                 exact HEr.out.2.1.frozenAt i
               clear ho2 hg2 hat2 hRP))
          go_ret2
          have hfin := HRP.out
          refine ⟨_, n, c1, i, rfl, (rI ls x i).set i (xs ++ [X]), .inl ⟨by rw [HL.out]; exact hlt, HGO.out, ?_, ?_⟩, hfin.1.wide (Nat.le_refl _) hfin.2.size, ?_⟩
          · unfold goesI; rw [← HXS.out, ← HX.out, HGT.out]; omega
          · rw [← HXS.out, ← HX.out]
          · have hb2 : Below w.heap.size w w2 := (HB.out.trans (HD.out.below _)).grown HG2.out HLO.out (fun q hq => (HOr.out.row_lt' hq).1)
            exact hb2.grown hfin.2 (by have := HG2.out.size; have := HLO.out; omega) (by rintro q ⟨⟩; exact (HE.out.row_lt' rfl).1)
    · obtain rfl : i = n := by omega
      have HOL : Hid (OwnL wo w.heap.size wo.heap.size (some ⟨g, 0, none⟩) i c1 (rI ls x i)) := Lib.hid ⟨E, HE.out⟩
      have HLT : Hid (Own (wo.alloc (.cells #[.int .i64 X] 3)) wo.heap.size (wo.alloc (.cells #[.int .i64 X] 3)).heap.size (some ⟨wo.heap.size, 0, none⟩) 1 1 [X]) := Lib.hid ⟨World.ownsRow_lit wo #[.int .i64 X] 1 (Nat.le_refl _) (by unfold maxLen; omega) rfl, fun k hk => by simp [Value.ownBlock] at hk; simp; omega⟩
      have hba : Below wo.heap.size wo (wo.alloc (.cells #[.int .i64 X] 3)) := Below.alloc_self _ _
      have HBA := Lib.hid hba
      clear hba
      go_wp2_with (at_builtin; refine wpList_appendL rfl (.tmp 72) (.tmp 75) rfl w.heap.size wo.heap.size _ i c1 (rI ls x i) wo.heap.size (wo.alloc (.cells #[.int .i64 X] 3)).heap.size (some ⟨wo.heap.size, 0, none⟩) 1 1 [X] rfl (by show Act.eval _ _ = _; simp [Act.eval]) (HOL.out.below HBA.out (Nat.le_refl _)) HLT.out HB.out.size (Nat.le_refl _) (Nat.le_refl _) HBA.out.size (Nat.le_trans HB.out.size HBA.out.size) (by omega) ?_
                   intro A4 c4 w4 ho4 hb4
                   have HO4 := Lib.hid ho4
                   have HB4 : Hid (Below w.heap.size w w4) := Lib.hid ((HB.out.trans (HBA.out.mono HB.out.size)).trans hb4)
                   clear ho4 hb4)
      go_ret2
      refine ⟨A4, i + 1, c4, i, rI ls x i ++ [[X]], rfl, .inr ⟨HL.out.symm, HGO.out, ?_⟩, HO4.out, HB4.out⟩
      rw [← HX.out]
end Go.Proofs.Ytfaegfhbbkicgaa
