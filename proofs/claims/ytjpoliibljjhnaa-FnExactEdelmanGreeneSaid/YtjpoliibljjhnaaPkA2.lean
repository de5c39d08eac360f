/-
  Texts EgS to Rnk, merged. Conditions: as each says.
-/
import Derived.Deep.Cut
import Derived.ProofKit
import Derived.OpenShut
import Derived.ChangeOld
import Derived.RegionTactic
import Derived.BigRegion
import Derived.Sort.Grow
import Derived.Deep.MidRow
import Derived.Test.YtjpoliibljjhnaaPkA1
/-
  Numbers of reduced words inserted, on the document's side. Conditions: lengths below 2^40, numbers from 0 to 100.
-/



namespace Go.Proofs.Ytjpoliibljjhnaa
open Go.RowKit

theorem li_set_self (ls : List (List Int)) (i : Nat) : ls.set i (li ls i) = ls := by
  apply List.ext_getElem (by simp)
  intro k h1 h2
  rw [List.getElem_set]
  split
  · rename_i h; subst h; exact li_get h2
  · rfl
theorem OwnLE.drawnE {E : Nat → Sv} {w w' : World} {lo hi n c : Nat} {A : Option Addr} {ls : List (List Int)} (h : OwnLE E w lo hi A n c ls) (hd : Drawn w w') : OwnLE E w' lo hi A n c ls := h.below (hd.below hi) (Nat.le_refl _)
set_option maxRecDepth 100000 in
set_option maxHeartbeats 4000000 in
theorem l4Edelman_any (A : Option Addr) (n c : Nat) (ls : List (List Int)) (x : Int) (w : World) (hs : LS w A n ls) (hn : n ≤ 1099511627776) (hne : ∀ k, k < n → (li ls k).length ≤ 1099511627776) (hin : ∀ i, inE (xE ls x i)) :
    Calls Try.prog 74 #[.slice A n c, .int .i64 x] w fun e w' => ∃ A' n' c' row out, e = .returned (.tuple #[.slice A' n' c', .int .i64 ((row : Nat) : Int)]) ∧ InsEs ls x out row ∧ OwnL w' w.heap.size w'.heap.size A' n' c' out ∧ Below w.heap.size w w' := by
  have HNE := Lib.hid hne
  have HIN := Lib.hid hin
  have HL := Lib.hid hs.1
  have HCP := Lib.hid (l4Copy_any A n c ls w hs hn hne)
  clear hne hs hin
  go_enter Try.func74, Try.ntmps74
  go_wp2_with (go_at_call 165; refine HCP.out.mono ?_; rintro e w1 ⟨g, c1, rfl, ho1, hb1⟩; have HO1 := Lib.hid ho1; have HB1 := Lib.hid hb1; clear ho1 hb1)
  go_loopw [1, 7] (fun xv iv wr => ∃ i : Nat, i ≤ n ∧ iv = .int .i64 i ∧ xv = .int .i64 (xE ls x i) ∧ (∀ j, j < i → goesE ls x j) ∧ OwnL wr w.heap.size wr.heap.size (some ⟨g, 0, none⟩) n c1 (rE ls x i) ∧ Below w.heap.size w wr)
    (fun _ iv _ => n - (intOf iv).toNat)
  case atStart => exact ⟨0, Nat.zero_le _, rfl, rfl, fun j hj => absurd hj (by omega), HO1.out, HB1.out⟩
  case round =>
    obtain ⟨i, hi, rfl, rfl, hgo, ho, hb⟩ := hrel
    clear HO1 HB1
    obtain ⟨wo, rfl⟩ : ∃ wo, wo = wr := ⟨wr, rfl⟩
    have HGO := Lib.hid hgo
    have HB := Lib.hid hb
    obtain ⟨E, hE⟩ := ho
    have HE := Lib.hid hE
    clear hgo hb hE
    obtain ⟨X, hX⟩ : ∃ X, X = xE ls x i := ⟨_, rfl⟩
    rw [← hX]
    have HX := Lib.hid hX
    clear hX
    by_cases hlt : i < n
    · have hlI : (i : Int) < (n : Int) := by omega
      have hcE := HE.out.cellAt hlt
      have hOE := HE.out.2.2.2.1 i hlt
      rw [rE_li (Nat.le_refl _) (by rw [HL.out]; omega)] at hOE
      obtain ⟨⟨A', n', c'⟩, hEi⟩ : ∃ a, a = E i := ⟨_, rfl⟩
      rw [← hEi] at hcE hOE
      have hcell : wo.cell? ⟨g, i, none⟩ = some (.slice A' n' c') := hcE
      have hown : Own wo w.heap.size wo.heap.size A' n' c' (li ls i) := hOE
      have HEI := Lib.hid hEi
      obtain ⟨xs, hxs⟩ : ∃ xs, xs = li ls i := ⟨_, rfl⟩
      rw [← hxs] at hown
      have HXS := Lib.hid hxs
      have hlen := hown.len
      have hn' : n' ≤ 1099511627776 := by have := HNE.out i hlt; rw [← hxs] at this; omega
      have HOW := Lib.hid hown
      have HCL := Lib.hid hcell
      have HGW : Hid (g < wo.heap.size) := Lib.hid (HE.out.2.2.1 g rfl)
      clear hcE hOE hEi hxs hown hcell
      have hXin : inE X := by rw [HX.out]; exact HIN.out i
      have HWX : Hid (wrap64 (X + 1) = X + 1) := Lib.hid (by have := hXin.1; have := hXin.2; unfold wrap64; omega)
      have HC1 := Lib.hid (fun u (hd : Drawn wo u) => l1Has_any A' n' c' xs X u (hd.si HOW.out.si) hn')
      have HC2 := Lib.hid (fun u (hd : Drawn wo u) => l1Has_any A' n' c' xs (X + 1) u (hd.si HOW.out.si) hn')
      have hcell0 : wo.cell? ⟨g, i, none⟩ = some (.slice A' n' c') := HCL.out
      clear hXin
      by_cases h1 : hasB xs X = true
      · by_cases h2 : hasB xs (X + 1) = true
        · have HBF : Hid (bothN xs X = true) := Lib.hid (by simp [bothN, h1, h2])
          rw [h1] at HC1
          rw [h2] at HC2
          have HGOES : Hid (goesE ls x i) := Lib.hid (by unfold goesE; rw [← HXS.out, ← HX.out]; exact .inl HBF.out)
          have HXN : Hid (xE ls x (i + 1) = X + 1) := Lib.hid (by
            show nxE (li ls i) (xE ls x i) = X + 1
            rw [← HXS.out, ← HX.out]
            unfold nxE
            rw [if_pos HBF.out])
          have HRN : Hid (rE ls x (i + 1) = rE ls x i) := Lib.hid (by
            show (rE ls x i).set i (rowE (li ls i) (xE ls x i)) = _
            rw [← HXS.out, ← HX.out]
            unfold rowE
            rw [if_pos HBF.out, HXS.out, ← rE_li (x := x) (Nat.le_refl i) (by rw [HL.out]; omega), li_set_self])
          clear h1 h2
          go_wp2_with fail
          refine (HC1.out _ (Drawn.refl _)).mono ?_
          rintro e w1 ⟨rfl, hd1⟩
          have HD1 := Lib.hid (hd1)
          have hcell1 : w1.cell? ⟨g, i, none⟩ = some (.slice A' n' c') := (Below.cell (HD1.out.below wo.heap.size) (p := ⟨g, i, none⟩) HGW.out).trans HCL.out
          clear hd1
          go_wp2_with fail
          rw [HWX.out]
          refine (HC2.out _ HD1.out).mono ?_
          rintro e w2 ⟨rfl, hd2⟩
          have HD2 := Lib.hid (HD1.out.trans hd2)
          have hcell2 : w2.cell? ⟨g, i, none⟩ = some (.slice A' n' c') := (Below.cell (HD2.out.below wo.heap.size) (p := ⟨g, i, none⟩) HGW.out).trans HCL.out
          clear hd2
          clear hcell0 hcell1
          go_wp2
          go_roundw
          case rel => exact ⟨i + 1, by omega, by go_num, by first | (rw [HXN.out]; exact congrArg (Value.int .i64) HWX.out) | rw [HXN.out], fun j hj => by
            rcases Nat.lt_or_ge j i with h | h
            · exact HGO.out j h
            · obtain rfl : j = i := by omega
              exact HGOES.out, by rw [HRN.out]; exact OwnL.wide ⟨E, HE.out.drawnE HD2.out⟩ (Nat.le_refl _) (HD2.out.below wo.heap.size).size, HB.out.trans (HD2.out.below _)⟩
          case measure => simp [intOf]; omega
        · have h2' : hasB xs (X + 1) = false := by simpa using h2
          have HBF : Hid (bothN xs X = false) := Lib.hid (by simp [bothN, h2'])
          rw [h1] at HC1
          rw [h2'] at HC2
          clear h1 h2 h2'
          go_wp2_with fail
          refine (HC1.out _ (Drawn.refl _)).mono ?_
          rintro e w1 ⟨rfl, hd1⟩
          have HD1 := Lib.hid (hd1)
          have hcell1 : w1.cell? ⟨g, i, none⟩ = some (.slice A' n' c') := (Below.cell (HD1.out.below wo.heap.size) (p := ⟨g, i, none⟩) HGW.out).trans HCL.out
          clear hd1
          go_wp2_with fail
          rw [HWX.out]
          refine (HC2.out _ HD1.out).mono ?_
          rintro e w2 ⟨rfl, hd2⟩
          have HD2 := Lib.hid (HD1.out.trans hd2)
          have hcell2 : w2.cell? ⟨g, i, none⟩ = some (.slice A' n' c') := (Below.cell (HD2.out.below wo.heap.size) (p := ⟨g, i, none⟩) HGW.out).trans HCL.out
          clear hd2
          have HDW := HD2
          clear hcell0 hcell1 hcell2
          go_wp2_with fail
          go_loopw [8] (fun av wr => ∃ k : Nat, k ≤ n' ∧ av = .int .i64 k ∧ (∀ j, j < k → nth xs j ≤ X) ∧ Drawn wo wr)
            (fun av _ => n' - (intOf av).toNat)
          case atStart => exact ⟨0, Nat.zero_le _, rfl, fun j hj => absurd hj (by omega), HDW.out⟩
          case round =>
            obtain ⟨k, hk, rfl, hall, hD⟩ := hrel
            have HALL := Lib.hid hall
            have HD := Lib.hid hD
            have hcell : wr.cell? ⟨g, i, none⟩ = some (.slice A' n' c') := (Below.cell (hD.below wo.heap.size) (p := ⟨g, i, none⟩) HGW.out).trans HCL.out
            clear hall hD
            by_cases hkn : k < n'
            · have hkI : (k : Int) < (n' : Int) := by omega
              have hki : ((k : Int) == (n' : Int)) = false := by simp; omega
              obtain ⟨gr, rfl, hg1, hg2⟩ := HOW.out.place (by omega)
              have hck := (HOW.out.drawn HD.out).cellAt hkn
              obtain ⟨y, hy⟩ : ∃ y, y = nth xs k := ⟨_, rfl⟩
              rw [← hy] at hck
              have HY := Lib.hid hy
              clear hy
              by_cases hle : y ≤ X
              · go_wp2
                go_roundw
                case rel => exact ⟨k + 1, by omega, by go_num, fun j hj => by
                  rcases Nat.lt_or_ge j k with h | h
                  · exact HALL.out j h
                  · obtain rfl : j = k := by omega
                    rw [← HY.out]; exact hle, HD.out⟩
                case measure => simp [intOf]; omega
              · have hgt : gtN xs X = k := gtN_is xs k (by omega) HALL.out (.inr (by rw [← HY.out]; exact hle))
                have hOr := HOW.out.drawn HD.out
                have hfz := hOr.frozenAt k
                obtain ⟨hset, hgrw⟩ := hOr.set_ (k := k) X
                have HEr : Hid (OwnLE E wr w.heap.size wo.heap.size (some ⟨g, 0, none⟩) n c1 (rE ls x i)) := Lib.hid (HE.out.below (HD.out.below wo.heap.size) (Nat.le_refl _))
                have HFIN : Hid (OwnL (wr.setCell ⟨gr, k, none⟩ (.int .i64 X)) w.heap.size (wr.setCell ⟨gr, k, none⟩ (.int .i64 X)).heap.size (some ⟨g, 0, none⟩) n c1 (rE ls x (i + 1))) := Lib.hid (by
                  have hh := (HD.out.below wo.heap.size).size
                  have h1 := OwnL.item ⟨E, HEr.out⟩ hlt
                  obtain ⟨A9, n9, c9, e9, _, _, hput⟩ := h1
                  rw [hcell] at e9
                  injection e9 with e9; injection e9 with a1 a2 a3
                  subst a1; subst a2; subst a3
                  have h2 := hput _ _ hset hgrw
                  have e : rE ls x (i + 1) = (rE ls x i).set i (xs.set k X) := by
                    show (rE ls x i).set i (rowE (li ls i) (xE ls x i)) = _
                    rw [← HXS.out, ← HX.out]
                    unfold rowE
                    rw [if_neg (by rw [HBF.out]; decide), hgt]
                  rw [e]
                  exact h2.wide (Nat.le_refl _) (by simpa using hh))
                have HGT := Lib.hid hgt
                have HBN : Hid (Below w.heap.size w (wr.setCell ⟨gr, k, none⟩ (.int .i64 X))) := Lib.hid ((HB.out.trans (HD.out.below _)).setCell hg1 _)
                have HGOES : Hid (goesE ls x i) := Lib.hid (by unfold goesE; rw [← HXS.out, ← HX.out]; right; rw [hgt]; omega)
                have HXN : Hid (xE ls x (i + 1) = y) := Lib.hid (by
                  show nxE (li ls i) (xE ls x i) = y
                  rw [← HXS.out, ← HX.out]
                  unfold nxE
                  rw [if_neg (by rw [HBF.out]; decide), hgt]; exact HY.out.symm)
                clear hgt hOr hset hgrw
                go_wp2
                go_roundw
                case rel => exact ⟨i + 1, by omega, by go_num, by rw [HXN.out], fun j hj => by
                  rcases Nat.lt_or_ge j i with h | h
                  · exact HGO.out j h
                  · obtain rfl : j = i := by omega
                    exact HGOES.out, HFIN.out, HBN.out⟩
                case measure => simp [intOf]; omega
            · obtain rfl : k = n' := by omega
              have hgt : gtN xs X = k := gtN_is xs k (by omega) HALL.out (.inl hlen.symm)
              have hkI : ¬ (k : Int) < (k : Int) := by omega
              have hOr := HOW.out.drawn HD.out
              have HOr := Lib.hid hOr
              have HEr : Hid (OwnLE E wr w.heap.size wr.heap.size (some ⟨g, 0, none⟩) n c1 (rE ls x i)) := Lib.hid ((HE.out.below (HD.out.below wo.heap.size) (Nat.le_refl _)).wide (HD.out.below wo.heap.size).size)
              have HLO : Hid (w.heap.size ≤ wr.heap.size) := Lib.hid (Nat.le_trans HB.out.size (HD.out.below wo.heap.size).size)
              have HGT := Lib.hid hgt
              have HGR : Hid (g < wr.heap.size) := Lib.hid (Nat.lt_of_lt_of_le HGW.out (HD.out.below wo.heap.size).size)
              clear hgt hOr
              go_wp2_with (first
                | (at_builtin; refine wpList_append_keep rfl (.tmp 67) (.tmp 69) rfl w.heap.size wo.heap.size A' k c' xs X rfl rfl HOr.out HLO.out (by omega) ?_
                   intro B' d' w2 ho2 hg2 hat2
                   have HO2 := Lib.hid ho2
                   have HG2 := Lib.hid hg2
                   have hRP := HEr.out.repl (k := i) hlt (Nat.le_refl _) (A2 := B') (n2 := k + 1) (c2 := d') (ys := xs ++ [X]) (w2 := w2) (by rw [← HEI.out]; exact hg2) ho2 (by
                     rw [← HEI.out]
                     rcases hat2 with ⟨h, _⟩ | ⟨q, h, hq, _⟩
                     · left; rw [h]
                     · right; exact ⟨q, by rw [h]; rfl, hq⟩)
                   have HRP := Lib.hid hRP
                   have hc2 : w2.cell? ⟨g, i, none⟩ = some (.slice A' k c') := by
                     have h1 : w2.heap[g]? = wr.heap[g]? := hg2.block g HGR.out (fun e => HEr.out.2.2.2.2.1 i g hlt (by rw [← HEI.out]; unfold sv; rw [ownB]; exact e.symm) rfl)
                     rw [World.cell?_of_block (a := ⟨g, i, none⟩) h1]; exact hcell
                   have hf2 : w2.frozen? ⟨g, i, none⟩ = false := by
                     have h1 : w2.heap[g]? = wr.heap[g]? := hg2.block g HGR.out (fun e => HEr.out.2.2.2.2.1 i g hlt (by rw [← HEI.out]; unfold sv; rw [ownB]; exact e.symm) rfl)
                     rw [World.frozen?_of_block (a := ⟨g, i, none⟩) h1]
                     exact HEr.out.2.1.frozenAt i
                   clear ho2 hg2 hat2 hRP))
              go_ret2
              have hfin := HRP.out
              refine ⟨_, n, c1, i, rfl, (rE ls x i).set i (xs ++ [X]), .inl ⟨by rw [HL.out]; exact hlt, HGO.out, ?_, ?_⟩, hfin.1.wide (Nat.le_refl _) hfin.2.size, ?_⟩
              · unfold goesE; rw [← HXS.out, ← HX.out]; rintro (h | h)
                · rw [HBF.out] at h; cases h
                · rw [HGT.out] at h; omega
              · rw [← HXS.out, ← HX.out]
              · have hb2 : Below w.heap.size w w2 := (HB.out.trans (HD.out.below _)).grown HG2.out HLO.out (fun q hq => (HOr.out.row_lt' hq).1)
                exact hb2.grown hfin.2 (by have := HG2.out.size; have := HLO.out; omega) (by rintro q ⟨⟩; exact (HE.out.row_lt' rfl).1)
      · have h1' : hasB xs X = false := by simpa using h1
        have HBF : Hid (bothN xs X = false) := Lib.hid (by simp [bothN, h1'])
        rw [h1'] at HC1
        clear h1 h1' HC2
        go_wp2_with fail
        refine (HC1.out _ (Drawn.refl _)).mono ?_
        rintro e w1 ⟨rfl, hd1⟩
        have HD1 := Lib.hid (hd1)
        have hcell1 : w1.cell? ⟨g, i, none⟩ = some (.slice A' n' c') := (Below.cell (HD1.out.below wo.heap.size) (p := ⟨g, i, none⟩) HGW.out).trans HCL.out
        clear hd1
        have HDW := HD1
        clear hcell0 hcell1
        go_wp2_with fail
        go_loopw [8] (fun av wr => ∃ k : Nat, k ≤ n' ∧ av = .int .i64 k ∧ (∀ j, j < k → nth xs j ≤ X) ∧ Drawn wo wr)
          (fun av _ => n' - (intOf av).toNat)
        case atStart => exact ⟨0, Nat.zero_le _, rfl, fun j hj => absurd hj (by omega), HDW.out⟩
        case round =>
          obtain ⟨k, hk, rfl, hall, hD⟩ := hrel
          have HALL := Lib.hid hall
          have HD := Lib.hid hD
          have hcell : wr.cell? ⟨g, i, none⟩ = some (.slice A' n' c') := (Below.cell (hD.below wo.heap.size) (p := ⟨g, i, none⟩) HGW.out).trans HCL.out
          clear hall hD
          by_cases hkn : k < n'
          · have hkI : (k : Int) < (n' : Int) := by omega
            have hki : ((k : Int) == (n' : Int)) = false := by simp; omega
            obtain ⟨gr, rfl, hg1, hg2⟩ := HOW.out.place (by omega)
            have hck := (HOW.out.drawn HD.out).cellAt hkn
            obtain ⟨y, hy⟩ : ∃ y, y = nth xs k := ⟨_, rfl⟩
            rw [← hy] at hck
            have HY := Lib.hid hy
            clear hy
            by_cases hle : y ≤ X
            · go_wp2
              go_roundw
              case rel => exact ⟨k + 1, by omega, by go_num, fun j hj => by
                rcases Nat.lt_or_ge j k with h | h
                · exact HALL.out j h
                · obtain rfl : j = k := by omega
                  rw [← HY.out]; exact hle, HD.out⟩
              case measure => simp [intOf]; omega
            · have hgt : gtN xs X = k := gtN_is xs k (by omega) HALL.out (.inr (by rw [← HY.out]; exact hle))
              have hOr := HOW.out.drawn HD.out
              have hfz := hOr.frozenAt k
              obtain ⟨hset, hgrw⟩ := hOr.set_ (k := k) X
              have HEr : Hid (OwnLE E wr w.heap.size wo.heap.size (some ⟨g, 0, none⟩) n c1 (rE ls x i)) := Lib.hid (HE.out.below (HD.out.below wo.heap.size) (Nat.le_refl _))
              have HFIN : Hid (OwnL (wr.setCell ⟨gr, k, none⟩ (.int .i64 X)) w.heap.size (wr.setCell ⟨gr, k, none⟩ (.int .i64 X)).heap.size (some ⟨g, 0, none⟩) n c1 (rE ls x (i + 1))) := Lib.hid (by
                have hh := (HD.out.below wo.heap.size).size
                have h1 := OwnL.item ⟨E, HEr.out⟩ hlt
                obtain ⟨A9, n9, c9, e9, _, _, hput⟩ := h1
                rw [hcell] at e9
                injection e9 with e9; injection e9 with a1 a2 a3
                subst a1; subst a2; subst a3
                have h2 := hput _ _ hset hgrw
                have e : rE ls x (i + 1) = (rE ls x i).set i (xs.set k X) := by
                  show (rE ls x i).set i (rowE (li ls i) (xE ls x i)) = _
                  rw [← HXS.out, ← HX.out]
                  unfold rowE
                  rw [if_neg (by rw [HBF.out]; decide), hgt]
                rw [e]
                exact h2.wide (Nat.le_refl _) (by simpa using hh))
              have HGT := Lib.hid hgt
              have HBN : Hid (Below w.heap.size w (wr.setCell ⟨gr, k, none⟩ (.int .i64 X))) := Lib.hid ((HB.out.trans (HD.out.below _)).setCell hg1 _)
              have HGOES : Hid (goesE ls x i) := Lib.hid (by unfold goesE; rw [← HXS.out, ← HX.out]; right; rw [hgt]; omega)
              have HXN : Hid (xE ls x (i + 1) = y) := Lib.hid (by
                show nxE (li ls i) (xE ls x i) = y
                rw [← HXS.out, ← HX.out]
                unfold nxE
                rw [if_neg (by rw [HBF.out]; decide), hgt]; exact HY.out.symm)
              clear hgt hOr hset hgrw
              go_wp2
              go_roundw
              case rel => exact ⟨i + 1, by omega, by go_num, by rw [HXN.out], fun j hj => by
                rcases Nat.lt_or_ge j i with h | h
                · exact HGO.out j h
                · obtain rfl : j = i := by omega
                  exact HGOES.out, HFIN.out, HBN.out⟩
              case measure => simp [intOf]; omega
          · obtain rfl : k = n' := by omega
            have hgt : gtN xs X = k := gtN_is xs k (by omega) HALL.out (.inl hlen.symm)
            have hkI : ¬ (k : Int) < (k : Int) := by omega
            have hOr := HOW.out.drawn HD.out
            have HOr := Lib.hid hOr
            have HEr : Hid (OwnLE E wr w.heap.size wr.heap.size (some ⟨g, 0, none⟩) n c1 (rE ls x i)) := Lib.hid ((HE.out.below (HD.out.below wo.heap.size) (Nat.le_refl _)).wide (HD.out.below wo.heap.size).size)
            have HLO : Hid (w.heap.size ≤ wr.heap.size) := Lib.hid (Nat.le_trans HB.out.size (HD.out.below wo.heap.size).size)
            have HGT := Lib.hid hgt
            have HGR : Hid (g < wr.heap.size) := Lib.hid (Nat.lt_of_lt_of_le HGW.out (HD.out.below wo.heap.size).size)
            clear hgt hOr
            go_wp2_with (first
              | (at_builtin; refine wpList_append_keep rfl (.tmp 67) (.tmp 69) rfl w.heap.size wo.heap.size A' k c' xs X rfl rfl HOr.out HLO.out (by omega) ?_
                 intro B' d' w2 ho2 hg2 hat2
                 have HO2 := Lib.hid ho2
                 have HG2 := Lib.hid hg2
                 have hRP := HEr.out.repl (k := i) hlt (Nat.le_refl _) (A2 := B') (n2 := k + 1) (c2 := d') (ys := xs ++ [X]) (w2 := w2) (by rw [← HEI.out]; exact hg2) ho2 (by
                   rw [← HEI.out]
                   rcases hat2 with ⟨h, _⟩ | ⟨q, h, hq, _⟩
                   · left; rw [h]
                   · right; exact ⟨q, by rw [h]; rfl, hq⟩)
                 have HRP := Lib.hid hRP
                 have hc2 : w2.cell? ⟨g, i, none⟩ = some (.slice A' k c') := by
                   have h1 : w2.heap[g]? = wr.heap[g]? := hg2.block g HGR.out (fun e => HEr.out.2.2.2.2.1 i g hlt (by rw [← HEI.out]; unfold sv; rw [ownB]; exact e.symm) rfl)
                   rw [World.cell?_of_block (a := ⟨g, i, none⟩) h1]; exact hcell
                 have hf2 : w2.frozen? ⟨g, i, none⟩ = false := by
                   have h1 : w2.heap[g]? = wr.heap[g]? := hg2.block g HGR.out (fun e => HEr.out.2.2.2.2.1 i g hlt (by rw [← HEI.out]; unfold sv; rw [ownB]; exact e.symm) rfl)
                   rw [World.frozen?_of_block (a := ⟨g, i, none⟩) h1]
                   exact HEr.out.2.1.frozenAt i
                 clear ho2 hg2 hat2 hRP))
            go_ret2
            have hfin := HRP.out
            refine ⟨_, n, c1, i, rfl, (rE ls x i).set i (xs ++ [X]), .inl ⟨by rw [HL.out]; exact hlt, HGO.out, ?_, ?_⟩, hfin.1.wide (Nat.le_refl _) hfin.2.size, ?_⟩
            · unfold goesE; rw [← HXS.out, ← HX.out]; rintro (h | h)
              · rw [HBF.out] at h; cases h
              · rw [HGT.out] at h; omega
            · rw [← HXS.out, ← HX.out]
            · have hb2 : Below w.heap.size w w2 := (HB.out.trans (HD.out.below _)).grown HG2.out HLO.out (fun q hq => (HOr.out.row_lt' hq).1)
              exact hb2.grown hfin.2 (by have := HG2.out.size; have := HLO.out; omega) (by rintro q ⟨⟩; exact (HE.out.row_lt' rfl).1)
    · obtain rfl : i = n := by omega
      have HOL : Hid (OwnL wo w.heap.size wo.heap.size (some ⟨g, 0, none⟩) i c1 (rE ls x i)) := Lib.hid ⟨E, HE.out⟩
      have HLT : Hid (Own (wo.alloc (.cells #[.int .i64 X] 3)) wo.heap.size (wo.alloc (.cells #[.int .i64 X] 3)).heap.size (some ⟨wo.heap.size, 0, none⟩) 1 1 [X]) := Lib.hid ⟨World.ownsRow_lit wo #[.int .i64 X] 1 (Nat.le_refl _) (by unfold maxLen; omega) rfl, fun k hk => by simp [Value.ownBlock] at hk; simp; omega⟩
      have hba : Below wo.heap.size wo (wo.alloc (.cells #[.int .i64 X] 3)) := Below.alloc_self _ _
      have HBA := Lib.hid hba
      clear hba
      go_wp2_with (at_builtin; refine wpList_appendL rfl (.tmp 89) (.tmp 92) rfl w.heap.size wo.heap.size _ i c1 (rE ls x i) wo.heap.size (wo.alloc (.cells #[.int .i64 X] 3)).heap.size (some ⟨wo.heap.size, 0, none⟩) 1 1 [X] rfl (by show Act.eval _ _ = _; simp [Act.eval]) (HOL.out.below HBA.out (Nat.le_refl _)) HLT.out HB.out.size (Nat.le_refl _) (Nat.le_refl _) HBA.out.size (Nat.le_trans HB.out.size HBA.out.size) (by omega) ?_
                   intro A4 c4 w4 ho4 hb4
                   have HO4 := Lib.hid ho4
                   have HB4 : Hid (Below w.heap.size w w4) := Lib.hid ((HB.out.trans (HBA.out.mono HB.out.size)).trans hb4)
                   clear ho4 hb4)
      go_ret2
      refine ⟨A4, i + 1, c4, i, rE ls x i ++ [[X]], rfl, .inr ⟨HL.out.symm, HGO.out, ?_⟩, HO4.out, HB4.out⟩
      rw [← HX.out]
end Go.Proofs.Ytjpoliibljjhnaa

/-
  A number inserted into a tableau, on the program's side: the pieces. Conditions: lengths below 2^40.
-/



namespace Go.Proofs.Ytjpoliibljjhnaa
open Go.RowKit

theorem insFn_any (x y : Int) (g : Nat) (w : World) (hk : w.cell? ⟨g, 0, none⟩ = some (.int .i64 x)) :
    Calls Try.prog 222 #[.int .i64 y, .pointer (some ⟨g, 0, none⟩)] w fun e w' => e = .returned (.bool (decide (x < y))) ∧ w = w' := by
  by_cases h : x < y
  · go_enter Try.func222, Try.ntmps222
    go_wp2
    go_ret
    exact ⟨ret_bool (by simp [h]), rfl⟩
  · go_enter Try.func222, Try.ntmps222
    go_wp2
    go_ret
    exact ⟨ret_bool (by simp [h]), rfl⟩
set_option maxHeartbeats 800000 in
theorem indexIns_any (A : Option Addr) (n c : Nat) (xs : List Int) (x : Int) (g : Nat) (w : World) (hs : SI w A n xs) (hn : n ≤ 1099511627776) (hk : w.cell? ⟨g, 0, none⟩ = some (.int .i64 x)) :
    Calls Try.prog 212 #[.slice A n c, .func (.func 222) #[] #[.pointer (some ⟨g, 0, none⟩)]] w fun r w' =>
      ∃ i : Int, r = .returned (.int .i64 i) ∧ (gtN xs x = n ∧ i = -1 ∨ gtN xs x < n ∧ i = (gtN xs x : Int)) ∧ Drawn w w' := by
  have HF : Hid (∀ w', Drawn w w' → ∀ y, Calls Try.prog 222 #[.int .i64 y, .pointer (some ⟨g, 0, none⟩)] w' fun e w2 => e = .returned (.bool (decide (x < y))) ∧ w' = w2) := Lib.hid (fun w' hd y => insFn_any x y g w' (by obtain ⟨m, rfl⟩ := hd; exact hk))
  clear hk
  go_enter Try.func212, Try.ntmps212
  go_wp2
  go_loopw [8] (fun i wr => ∃ k : Nat, k ≤ n ∧ i = .int .i64 k ∧ Drawn w wr ∧ ∀ j, j < k → nth xs j ≤ x)
    (fun i _ => n - (intOf i).toNat)
  case atStart => exact ⟨0, Nat.zero_le _, rfl, Drawn.refl _, fun j hj => absurd hj (by omega)⟩
  case round =>
    obtain ⟨k, hk, rfl, hD, hall⟩ := hrel
    have HA := Lib.hid hall
    have HDR := Lib.hid hD
    have HL := Lib.hid hs.1
    have hs := hD.si hs
    clear hall hD
    by_cases hlt : k < n
    · have hlI : (k : Int) < (n : Int) := by omega
      obtain ⟨b, o, rfl, hb, hc⟩ := hs.at_ (by omega)
      have hc1 := hc k hlt
      obtain ⟨y, hy⟩ : ∃ y, y = nth xs k := ⟨_, rfl⟩
      rw [← hy] at hc1
      have HY := Lib.hid hy
      clear hc hy hs
      by_cases hg : x < y
      · have HG := Lib.hid hg
        have HF2 := Lib.hid (HF.out wr HDR.out y)
        rw [decide_eq_true hg] at HF2
        clear hg
        go_wp2_with (go_at_call 222; refine HF2.out.mono ?_; rintro r w2 ⟨rfl, rfl⟩)
        go_ret
        have hgt : gtN xs x = k := gtN_is xs k (by rw [HL.out]; omega) HA.out (.inr (by rw [← HY.out]; have := HG.out; omega))
        exact ⟨(k : Int), rfl, .inr ⟨by omega, by rw [hgt]⟩, HDR.out⟩
      · have HG := Lib.hid hg
        have HF2 := Lib.hid (HF.out wr HDR.out y)
        rw [decide_eq_false hg] at HF2
        clear hg
        go_wp2_with (go_at_call 222; refine HF2.out.mono ?_; rintro r w2 ⟨rfl, rfl⟩)
        go_roundw
        case rel => exact ⟨k + 1, by omega, by go_num, HDR.out, fun j hj => by
          rcases Nat.lt_or_ge j k with h | h
          · exact HA.out j h
          · obtain rfl : j = k := by omega
            rw [← HY.out]; have := HG.out; omega⟩
        case measure => simp [intOf]; omega
    · have hkn : k = n := by omega
      subst hkn
      go_wp2
      go_ret
      exact ⟨-1, rfl, .inl ⟨gtN_is xs k (by rw [HL.out]; exact Nat.le_refl _) HA.out (.inl HL.out.symm), rfl⟩, HDR.out⟩
set_option maxHeartbeats 1600000 in
theorem insRow_end (A : Option Addr) (n c : Nat) (xs : List Int) (x : Int) (lo : Nat) (w : World) (ho : Own w lo w.heap.size A n c xs) (hlo : lo ≤ w.heap.size) (hn : n ≤ 1099511627776) (hgt : gtN xs x = n) :
    Calls Try.prog 169 #[.slice A n c, .int .i64 x] w fun e w' => ∃ A2 c2 wm, e = .returned (.tuple #[.slice A2 (n + 1) c2, .int .i64 0, .bool false]) ∧ Own w' lo w'.heap.size A2 (n + 1) c2 (xs ++ [x]) ∧ Below w.heap.size w wm ∧ wm.grownBy w' (rowB A) ∧ (rowB A2 = rowB A ∨ ∃ q, rowB A2 = some q ∧ wm.heap.size ≤ q) := by
  obtain ⟨w1, hw1⟩ : ∃ w1, w1 = w.alloc (.cells #[.int .i64 x] 3) := ⟨_, rfl⟩
  obtain ⟨g, hg⟩ : ∃ g, g = w.heap.size := ⟨_, rfl⟩
  have hk : Blk w1 g 3 #[.int .i64 x] := by rw [hw1, hg]; exact Blk.new _ _ _
  have ho1 : Own w1 lo w.heap.size A n c xs := by rw [hw1]; exact ho.below ((Below.refl w.heap.size w).alloc (Nat.le_refl _) _) (Nat.le_refl _)
  have hgr : Below w.heap.size w w1 := by rw [hw1]; exact (Below.refl w.heap.size w).alloc (Nat.le_refl _) _
  have HIX := Lib.hid (indexIns_any A n c xs x g w1 ho1.si hn (hk.cell 0))
  have HK := Lib.hid hk
  have HO1 := Lib.hid ho1
  have HGR := Lib.hid hgr
  have HSZ := Lib.hid hgr.size
  have HGT := Lib.hid hgt
  have HW := Lib.hid hw1
  have HG := Lib.hid hg
  clear hk ho1 hgr hgt ho hw1 hg
  have hmf : ∀ (fn : Fn) (first cap : Array Value) (w : World), (Instr.makeFunc fn first cap).run Try.prog w = .ok (.func fn first cap) w := fun _ _ _ _ => rfl
  go_enter Try.func169, Try.ntmps169
  go_upto_region 1 with fail
  rw [← HW.out, ← HG.out]
  go_upto_region 2 with (go_at_call 212; refine HIX.out.mono ?_; rintro e w2 ⟨i, rfl, hi, hd⟩; obtain rfl : i = -1 := (by have := HGT.out; omega); have HD := Lib.hid hd; clear hi hd)
  have hc2 : w2.cell? ⟨g, 0, none⟩ = some (.int .i64 x) := (HK.out.drawn HD.out).cell 0
  have HO2 := Lib.hid (HO1.out.drawn HD.out)
  have HLO : Hid (lo ≤ w2.heap.size) := Lib.hid (by have := HSZ.out; have := (HD.out.below w1.heap.size).size; omega)
  have HZ2 : Hid (w.heap.size ≤ w2.heap.size) := Lib.hid (by have := HSZ.out; have := (HD.out.below w1.heap.size).size; omega)
  have HG2 : Hid (Below w.heap.size w w2) := Lib.hid (HGR.out.trans (HD.out.below _))
  go_wp2_with (at_builtin; refine wpList_append_keep rfl (.tmp 14) (.tmp 16) rfl lo w.heap.size A n c xs x rfl rfl HO2.out HLO.out hn ?_
               intro B' d' w3 ho3 hg3 hat3
               have HO3 := Lib.hid ho3
               have HG3 := Lib.hid hg3
               have HAT := Lib.hid hat3
               clear ho3 hg3 hat3)
  go_returns
  refine ⟨B', d', w2, rfl, HO3.out, HG2.out, HG3.out, ?_⟩
  rcases HAT.out with ⟨h, _⟩ | ⟨q, h, hq, _⟩
  · left; rw [h]
  · right; exact ⟨q, by rw [h]; rfl, hq⟩
set_option maxHeartbeats 1600000 in
theorem insRow_mid (A : Option Addr) (n c : Nat) (xs : List Int) (x : Int) (lo : Nat) (w : World) (ho : Own w lo w.heap.size A n c xs) (_hlo : lo ≤ w.heap.size) (hn : n ≤ 1099511627776) (hgt : gtN xs x < n) :
    Calls Try.prog 169 #[.slice A n c, .int .i64 x] w fun e w' => e = .returned (.tuple #[.slice A n c, .int .i64 (nth xs (gtN xs x)), .bool true]) ∧ Own w' lo w'.heap.size A n c (xs.set (gtN xs x) x) ∧ ∃ wm, Below w.heap.size w wm ∧ wm.grownBy w' (rowB A) := by
  obtain ⟨w1, hw1⟩ : ∃ w1, w1 = w.alloc (.cells #[.int .i64 x] 3) := ⟨_, rfl⟩
  obtain ⟨g, hg⟩ : ∃ g, g = w.heap.size := ⟨_, rfl⟩
  have hk : Blk w1 g 3 #[.int .i64 x] := by rw [hw1, hg]; exact Blk.new _ _ _
  have ho1 : Own w1 lo w.heap.size A n c xs := by rw [hw1]; exact ho.below ((Below.refl w.heap.size w).alloc (Nat.le_refl _) _) (Nat.le_refl _)
  have hgr : Below w.heap.size w w1 := by rw [hw1]; exact (Below.refl w.heap.size w).alloc (Nat.le_refl _) _
  obtain ⟨k, hkk⟩ : ∃ k, k = gtN xs x := ⟨_, rfl⟩
  have HIX := Lib.hid (indexIns_any A n c xs x g w1 ho1.si hn (hk.cell 0))
  rw [← hkk] at hgt HIX ⊢
  obtain ⟨gr, rfl, hg1, hg2⟩ := ho1.place (by omega)
  have HK := Lib.hid hk
  have HO1 := Lib.hid ho1
  have HGR := Lib.hid hgr
  have HSZ := Lib.hid hgr.size
  have HW := Lib.hid hw1
  have HG := Lib.hid hg
  have HR1 := Lib.hid hg1
  have HR2 := Lib.hid hg2
  clear hk ho1 hgr ho hw1 hg hkk hg1 hg2
  have hkI : (k : Int) < (n : Int) := by omega
  have hk0 : ¬ (k : Int) < 0 := by omega
  have hmf : ∀ (fn : Fn) (first cap : Array Value) (w : World), (Instr.makeFunc fn first cap).run Try.prog w = .ok (.func fn first cap) w := fun _ _ _ _ => rfl
  go_enter Try.func169, Try.ntmps169
  go_upto_region 1 with fail
  rw [← HW.out, ← HG.out]
  go_upto_region 2 with (go_at_call 212; refine HIX.out.mono ?_; rintro e w2 ⟨i, rfl, hi, hd⟩; obtain rfl : i = (k : Int) := (by omega); have HD := Lib.hid hd; clear hi hd)
  have hc2 : w2.cell? ⟨g, 0, none⟩ = some (.int .i64 x) := (HK.out.drawn HD.out).cell 0
  have hOr := HO1.out.drawn HD.out
  have hck := hOr.cellAt hgt
  have hfz := hOr.frozenAt k
  obtain ⟨hset, hgrw⟩ := hOr.set_ (k := k) x
  obtain ⟨y, hy⟩ : ∃ y, y = nth xs k := ⟨_, rfl⟩
  rw [← hy] at hck
  have HY := Lib.hid hy
  have HST := Lib.hid hset
  have HGW := Lib.hid hgrw
  have HZ2 : Hid (w.heap.size ≤ w2.heap.size) := Lib.hid (by have := HSZ.out; have := (HD.out.below w1.heap.size).size; omega)
  have HG2 : Hid (Below w.heap.size w w2) := Lib.hid (HGR.out.trans (HD.out.below _))
  clear hy hset hgrw hOr
  go_wp2
  go_returns
  refine ⟨by rw [HY.out]; rfl, HST.out.wide (Nat.le_refl _) (by have := HZ2.out; simpa using this), w2, HG2.out, HGW.out⟩
end Go.Proofs.Ytjpoliibljjhnaa

/-
  A number inserted into a tableau by the program's rule, the blocks named: what is apart from the tableau stays as it was. Conditions: lengths below 2^40.
-/




namespace Go.Proofs.Ytjpoliibljjhnaa
open Go.RowKit

theorem OwnLE.replE {E : Nat → Sv} {w w2 : World} {lo hi g n c : Nat} {ls : List (List Int)} (h : OwnLE E w lo hi (some ⟨g, 0, none⟩) n c ls) {k : Nat} (hk : k < n) (hhi : hi ≤ w.heap.size) (hg : w.grownBy w2 (rowB (E k).1)) {A2 : Option Addr} {n2 c2 : Nat} {ys : List Int}
    (hx : Own w2 lo w2.heap.size A2 n2 c2 ys) (hat : rowB A2 = rowB (E k).1 ∨ ∃ q, rowB A2 = some q ∧ w.heap.size ≤ q) :
    OwnLE (snE E k (A2, n2, c2)) (w2.setCell ⟨g, k, none⟩ (.slice A2 n2 c2)) lo w2.heap.size (some ⟨g, 0, none⟩) n c (ls.set k ys) ∧ w2.grownBy (w2.setCell ⟨g, k, none⟩ (.slice A2 n2 c2)) (some g) := by
  obtain ⟨hl, ho, hh, he, hne, hdd⟩ := h
  have hgl := hh g rfl
  have hs := hg.size
  have hrk : ∀ b, rowB (E k).1 = some b → (sv (E k)).ownBlock = some b := fun b hb => by unfold sv; rw [ownB]; exact hb
  have ho2 : w2.ownsRow lo 22 1 (.slice (some ⟨g, 0, none⟩) n c) n (heads n E) := ho.kept hg (.inr fun e => hne k g hk (hrk g e.symm) rfl)
  have he2 : ∀ j, j < n → j ≠ k → Own w2 lo hi (E j).1 (E j).2.1 (E j).2.2 (li ls j) := fun j hj hjk => (he j hj).kept hg (fun b hb e => by
    rcases Nat.lt_or_gt_of_ne hjk with h | h
    · exact hdd j k b h hk hb (hrk b e)
    · exact hdd k j b h hj (hrk b e) hb)
  have hA2g : ∀ b, (sv ((A2, n2, c2) : Sv)).ownBlock = some b → b ≠ g := fun b hb => by
    have hb' : rowB A2 = some b := by rw [← ownB A2 n2 c2]; exact hb
    rcases hat with e | ⟨q, e, hq⟩
    · intro h; subst h; exact hne k b hk (hrk b (e ▸ hb')) rfl
    · rw [e] at hb'; injection hb' with hb'; omega
  have hA2E : ∀ j b, j < n → j ≠ k → (sv ((A2, n2, c2) : Sv)).ownBlock = some b → (sv (E j)).ownBlock ≠ some b := fun j b hj hjk hb e2 => by
    have hb' : rowB A2 = some b := by rw [← ownB A2 n2 c2]; exact hb
    rcases hat with e | ⟨q, e, hq⟩
    · have h3 := hrk b (e ▸ hb')
      rcases Nat.lt_or_gt_of_ne hjk with h | h
      · exact hdd j k b h hk e2 h3
      · exact hdd k j b h hj h3 e2
    · rw [e] at hb'; injection hb' with hb'
      have := (he j hj).lt b e2
      omega
  obtain ⟨o1, gg⟩ := ho2.stored k (.slice A2 n2 c2)
  refine ⟨⟨by simpa using hl, ?_, fun b hb => by have := hh b hb; omega, fun j hj => ?_, fun j b hj hb => ?_, fun i j b hij hj hb => ?_⟩, gg⟩
  · exact row1_eq o1 (heads_set E hk (A2, n2, c2))
  · dsimp only [snE]
    rw [li_set (by omega)]
    by_cases e : j = k
    · rw [if_pos e, if_pos e]
      exact hx.kept gg (fun b hb e2 => by injection e2 with e2; exact hA2g b hb e2.symm)
    · rw [if_neg e, if_neg e]
      exact ((he2 j hj e).kept gg (fun b hb e2 => hne j b hj hb e2)).wide (Nat.le_refl _) (by omega)
  · dsimp only [snE] at hb
    by_cases e : j = k
    · rw [if_pos e] at hb
      have := hA2g b hb
      intro e2; simp [Value.ownBlock] at e2; omega
    · rw [if_neg e] at hb
      exact hne j b hj hb
  · dsimp only [snE] at hb ⊢
    by_cases e : i = k
    · rw [if_pos e] at hb
      rw [if_neg (by omega)]
      exact hA2E j b hj (by omega) hb
    · rw [if_neg e] at hb
      by_cases e' : j = k
      · rw [if_pos e']
        intro e2
        exact hA2E i b (by omega) e e2 hb
      · rw [if_neg e']
        exact hdd i j b hij hj hb
/-- What is apart from a list of lists stays so, and as it was. -/
structure KpL (E : Nat → Sv) (A : Option Addr) (n : Nat) (w : World) (E' : Nat → Sv) (A' : Option Addr) (n' : Nat) (w' : World) : Prop where
  size : w.heap.size ≤ w'.heap.size
  apart : ∀ k, k < w.heap.size → Apart E A n k → Apart E' A' n' k
  same : ∀ k, k < w.heap.size → Apart E A n k → w'.heap[k]? = w.heap[k]?
theorem KpL.refl (E : Nat → Sv) (A : Option Addr) (n : Nat) (w : World) : KpL E A n w E A n w := ⟨Nat.le_refl _, fun _ _ h => h, fun _ _ _ => rfl⟩
theorem KpL.trans {E E1 E2 : Nat → Sv} {A A1 A2 : Option Addr} {n n1 n2 : Nat} {w w1 w2 : World} (h : KpL E A n w E1 A1 n1 w1) (h' : KpL E1 A1 n1 w1 E2 A2 n2 w2) : KpL E A n w E2 A2 n2 w2 :=
  ⟨Nat.le_trans h.size h'.size, fun k hk ha => h'.apart k (Nat.lt_of_lt_of_le hk h.size) (h.apart k hk ha), fun k hk ha => (h'.same k (Nat.lt_of_lt_of_le hk h.size) (h.apart k hk ha)).trans (h.same k hk ha)⟩
theorem svB (A : Option Addr) (n c : Nat) : (sv ((A, n, c) : Sv)).ownBlock = rowB A := by unfold sv; rw [ownB]
/-- One row replaced: in its block or in a new one. -/
theorem KpL.repl {E : Nat → Sv} {g n i : Nat} {wo wm w2 w3 : World} {A' A2 : Option Addr} {n' c' n2 c2 : Nat} (hi : i < n) (hE : (A', n', c') = E i) (h1 : Below wo.heap.size wo wm) (h2 : wm.grownBy w2 (rowB A')) (h3 : w2.grownBy w3 (some g))
    (hat : rowB A2 = rowB A' ∨ ∃ q, rowB A2 = some q ∧ wm.heap.size ≤ q) : KpL E (some ⟨g, 0, none⟩) n wo (snE E i (A2, n2, c2)) (some ⟨g, 0, none⟩) n w3 := by
  have s1 := h1.size
  have s2 := h2.size
  have s3 := h3.size
  refine ⟨by omega, fun k hk ha => ⟨ha.1, fun j hj => ?_⟩, fun k hk ha => ?_⟩
  · by_cases e : j = i
    · subst e
      rw [snE_at, svB]
      have hb := ha.2 j hj
      rw [← hE, svB] at hb
      rcases hat with h | ⟨q, h, hq⟩
      · rw [h]; exact hb
      · rw [h]; intro h; injection h with h; omega
    · rw [show snE E i (A2, n2, c2) j = E j from if_neg e]
      exact ha.2 j hj
  · have hb := ha.2 i hi
    rw [← hE, svB] at hb
    have hg : (some k : Option Nat) ≠ some g := fun e => ha.1 (by rw [rowB_some]; exact e.symm)
    exact ((h3.block k (by omega) hg).trans (h2.block k (by omega) (fun e => hb e.symm))).trans (h1.block k hk)
/-- A list more behind them. -/
theorem KpL.snoc {E : Nat → Sv} {A A' : Option Addr} {n : Nat} {w w1 w2 : World} {B : Option Addr} {nb cb : Nat} (h1 : Below w.heap.size w w1) (h2 : w1.grownBy w2 (rowB A)) (hB : ∀ q, rowB B = some q → w.heap.size ≤ q)
    (hat : rowB A' = rowB A ∨ ∃ q, rowB A' = some q ∧ w1.heap.size ≤ q) : KpL E A n w (snE E n (B, nb, cb)) A' (n + 1) w2 := by
  have s1 := h1.size
  have s2 := h2.size
  refine ⟨by omega, fun k hk ha => ⟨?_, fun j hj => ?_⟩, fun k hk ha => ?_⟩
  · rcases hat with h | ⟨q, h, hq⟩
    · rw [h]; exact ha.1
    · rw [h]; intro h; injection h with h; omega
  · by_cases e : j = n
    · subst e
      rw [snE_at, svB]
      intro h
      have := hB k h
      omega
    · rw [snE_lt E _ (by omega)]; exact ha.2 j (by omega)
  · exact (h2.block k (by omega) (fun e => ha.1 e.symm)).trans (h1.block k hk)
set_option maxHeartbeats 4000000 in
theorem insRuleK_any (E0 : Nat → Sv) (g n c : Nat) (ls : List (List Int)) (x : Int) (lo : Nat) (w : World) (ho : OwnLE E0 w lo w.heap.size (some ⟨g, 0, none⟩) n c ls) (hlo : lo ≤ w.heap.size) (hn : n ≤ 1099511627776) (hne : ∀ k, k < n → (li ls k).length ≤ 1099511627776) :
    Calls Try.prog 167 #[.slice (some ⟨g, 0, none⟩) n c, .int .i64 x, .func (.func 169) #[] #[]] w fun e w' => ∃ A' n' c' row out E', e = .returned (.tuple #[.slice A' n' c', .int .i64 ((row : Nat) : Int)]) ∧ InsIs ls x out row ∧ OwnLE E' w' lo w'.heap.size A' n' c' out ∧ Below lo w w' ∧ KpL E0 (some ⟨g, 0, none⟩) n w E' A' n' w' := by
  have HNE := Lib.hid hne
  have HL := Lib.hid ho.1
  have HO := Lib.hid ho
  have HLO := Lib.hid hlo
  clear hne ho hlo
  go_enter Try.func167, Try.ntmps167
  go_wp2_with fail
  go_loopw [1, 15] (fun xv iv wr => ∃ i : Nat, i ≤ n ∧ iv = .int .i64 i ∧ xv = .int .i64 (xI ls x i) ∧ (∀ j, j < i → goesI ls x j) ∧ (∃ E, OwnLE E wr lo wr.heap.size (some ⟨g, 0, none⟩) n c (rI ls x i) ∧ KpL E0 (some ⟨g, 0, none⟩) n w E (some ⟨g, 0, none⟩) n wr) ∧ Below lo w wr)
    (fun _ iv _ => n - (intOf iv).toNat)
  case atStart => exact ⟨0, Nat.zero_le _, rfl, rfl, fun j hj => absurd hj (by omega), ⟨E0, HO.out, KpL.refl _ _ _ _⟩, Below.refl _ _⟩
  case round =>
    obtain ⟨i, hi, rfl, rfl, hgo, ho, hb⟩ := hrel
    clear HO
    obtain ⟨wo, rfl⟩ : ∃ wo, wo = wr := ⟨wr, rfl⟩
    have HGO := Lib.hid hgo
    have HB := Lib.hid hb
    obtain ⟨E, hE, hkp⟩ := ho
    have HE := Lib.hid hE
    have HKP := Lib.hid hkp
    have HLW : Hid (lo ≤ wo.heap.size) := Lib.hid (Nat.le_trans HLO.out hb.size)
    clear hgo hb hE hkp
    obtain ⟨X, hX⟩ : ∃ X, X = xI ls x i := ⟨_, rfl⟩
    rw [← hX]
    have HX := Lib.hid hX
    clear hX
    by_cases hlt : i < n
    · have hlI : (i : Int) < (n : Int) := by omega
      have hcE := HE.out.cellAt hlt
      have hOE := HE.out.2.2.2.1 i hlt
      rw [rI_li (Nat.le_refl _) (by rw [HL.out]; omega)] at hOE
      obtain ⟨⟨A', n', c'⟩, hEi⟩ : ∃ a, a = E i := ⟨_, rfl⟩
      rw [← hEi] at hcE hOE
      have hcell : wo.cell? ⟨g, i, none⟩ = some (.slice A' n' c') := hcE
      have hown : Own wo lo wo.heap.size A' n' c' (li ls i) := hOE
      have HEI := Lib.hid hEi
      obtain ⟨xs, hxs⟩ : ∃ xs, xs = li ls i := ⟨_, rfl⟩
      rw [← hxs] at hown
      have HXS := Lib.hid hxs
      have hlen := hown.len
      have hn' : n' ≤ 1099511627776 := by have := HNE.out i hlt; rw [← hxs] at this; omega
      have HGW : Hid (g < wo.heap.size) := Lib.hid (HE.out.2.2.1 g rfl)
      have hgle : gtN xs X ≤ n' := by have := gtN_le xs X; omega
      by_cases hgt : gtN xs X < n'
      · have HC := Lib.hid (insRow_mid A' n' c' xs X lo wo hown HLW.out hn' hgt)
        have HGT : Hid (goesI ls x i) := Lib.hid (by unfold goesI; rw [← HXS.out, ← HX.out]; omega)
        have HF : Hid (∀ wm w2, Below wo.heap.size wo wm → wm.grownBy w2 (rowB A') → Own w2 lo w2.heap.size A' n' c' (xs.set (gtN xs X) X) → w2.cell? ⟨g, i, none⟩ = some (.slice A' n' c') ∧ w2.frozen? ⟨g, i, none⟩ = false ∧ (∃ E', OwnLE E' (w2.setCell ⟨g, i, none⟩ (.slice A' n' c')) lo (w2.setCell ⟨g, i, none⟩ (.slice A' n' c')).heap.size (some ⟨g, 0, none⟩) n c (rI ls x (i + 1)) ∧ KpL E0 (some ⟨g, 0, none⟩) n w E' (some ⟨g, 0, none⟩) n (w2.setCell ⟨g, i, none⟩ (.slice A' n' c'))) ∧ Below lo w (w2.setCell ⟨g, i, none⟩ (.slice A' n' c'))) := Lib.hid (by
          intro wm w2 hb1 hg1 ho2
          have hEm : OwnLE E wm lo wo.heap.size (some ⟨g, 0, none⟩) n c (rI ls x i) := HE.out.below hb1 (Nat.le_refl _)
          have hbk : w2.heap[g]? = wm.heap[g]? := hg1.block g (Nat.lt_of_lt_of_le HGW.out hb1.size) (fun e => hEm.2.2.2.2.1 i g hlt (by rw [← HEI.out]; unfold sv; rw [ownB]; exact e.symm) rfl)
          have hRP := hEm.replE (k := i) hlt hb1.size (A2 := A') (n2 := n') (c2 := c') (ys := xs.set (gtN xs X) X) (w2 := w2) (by rw [← HEI.out]; exact hg1) ho2 (by rw [← HEI.out]; exact .inl rfl)
          refine ⟨?_, ?_, ?_, ?_⟩
          · rw [World.cell?_of_block (a := ⟨g, i, none⟩) hbk]
            have := hEm.cellAt hlt
            rw [← HEI.out] at this; exact this
          · rw [World.frozen?_of_block (a := ⟨g, i, none⟩) hbk]
            exact hEm.2.1.frozenAt i
          · have e : rI ls x (i + 1) = (rI ls x i).set i (xs.set (gtN xs X) X) := by
              show (rI ls x i).set i ((li ls i).set (gtN (li ls i) (xI ls x i)) (xI ls x i)) = _
              rw [← HXS.out, ← HX.out]
            rw [e]
            exact ⟨_, hRP.1.wide hRP.2.size, HKP.out.trans (KpL.repl hlt HEI.out hb1 hg1 hRP.2 (.inl rfl))⟩
          · have hb2 : Below lo w w2 := (HB.out.trans (hb1.mono HLW.out)).grown hg1 (Nat.le_trans HLW.out hb1.size) (fun q hq => (hown.row_lt' hq).1)
            exact hb2.grown hRP.2 (by have := hg1.size; have := hb1.size; have := HLW.out; omega) (by rintro q ⟨⟩; exact (HE.out.row_lt' rfl).1))
        have HXN : Hid (xI ls x (i + 1) = nth xs (gtN xs X)) := Lib.hid (by
          show nth (li ls i) (gtN (li ls i) (xI ls x i)) = _
          rw [← HXS.out, ← HX.out])
        clear hcE hOE hEi hxs hown hgle hlen
        go_upto_region 5 with (go_at_call 169; refine HC.out.mono ?_; rintro e w2 ⟨rfl, ho2, wm, hb2, hg2⟩; have HF2 := Lib.hid (HF.out wm w2 hb2 hg2 ho2); clear ho2 hb2 hg2)
        obtain ⟨hc2, hf2, _, _⟩ := HF2.out
        clear hcell
        go_wp2
        go_roundw
        case rel => exact ⟨i + 1, by omega, by go_num, by rw [HXN.out], fun j hj => by
          rcases Nat.lt_or_ge j i with h | h
          · exact HGO.out j h
          · obtain rfl : j = i := by omega
            exact HGT.out, HF2.out.2.2.1, HF2.out.2.2.2⟩
        case measure => simp [intOf]; omega
      · have hge : gtN xs X = n' := by omega
        have HC := Lib.hid (insRow_end A' n' c' xs X lo wo hown HLW.out hn' hge)
        have HGT : Hid (InsIs ls x ((rI ls x i).set i (xs ++ [X])) i) := Lib.hid (.inl ⟨by rw [HL.out]; exact hlt, HGO.out, by unfold goesI; rw [← HXS.out, ← HX.out]; omega, by rw [← HXS.out, ← HX.out]⟩)
        have HF : Hid (∀ wm w2 A2 c2, Below wo.heap.size wo wm → wm.grownBy w2 (rowB A') → Own w2 lo w2.heap.size A2 (n' + 1) c2 (xs ++ [X]) → (rowB A2 = rowB A' ∨ ∃ q, rowB A2 = some q ∧ wm.heap.size ≤ q) → w2.cell? ⟨g, i, none⟩ = some (.slice A' n' c') ∧ w2.frozen? ⟨g, i, none⟩ = false ∧ (∃ E', OwnLE E' (w2.setCell ⟨g, i, none⟩ (.slice A2 (n' + 1) c2)) lo (w2.setCell ⟨g, i, none⟩ (.slice A2 (n' + 1) c2)).heap.size (some ⟨g, 0, none⟩) n c ((rI ls x i).set i (xs ++ [X])) ∧ KpL E0 (some ⟨g, 0, none⟩) n w E' (some ⟨g, 0, none⟩) n (w2.setCell ⟨g, i, none⟩ (.slice A2 (n' + 1) c2))) ∧ Below lo w (w2.setCell ⟨g, i, none⟩ (.slice A2 (n' + 1) c2))) := Lib.hid (by
          intro wm w2 A2 c2 hb1 hg1 ho2 hat
          have hEm : OwnLE E wm lo wo.heap.size (some ⟨g, 0, none⟩) n c (rI ls x i) := HE.out.below hb1 (Nat.le_refl _)
          have hbk : w2.heap[g]? = wm.heap[g]? := hg1.block g (Nat.lt_of_lt_of_le HGW.out hb1.size) (fun e => hEm.2.2.2.2.1 i g hlt (by rw [← HEI.out]; unfold sv; rw [ownB]; exact e.symm) rfl)
          have hRP := hEm.replE (k := i) hlt hb1.size (A2 := A2) (n2 := n' + 1) (c2 := c2) (ys := xs ++ [X]) (w2 := w2) (by rw [← HEI.out]; exact hg1) ho2 (by rw [← HEI.out]; exact hat)
          refine ⟨?_, ?_, ?_, ?_⟩
          · rw [World.cell?_of_block (a := ⟨g, i, none⟩) hbk]
            have := hEm.cellAt hlt
            rw [← HEI.out] at this; exact this
          · rw [World.frozen?_of_block (a := ⟨g, i, none⟩) hbk]
            exact hEm.2.1.frozenAt i
          · exact ⟨_, hRP.1.wide hRP.2.size, HKP.out.trans (KpL.repl hlt HEI.out hb1 hg1 hRP.2 hat)⟩
          · have hb2 : Below lo w w2 := (HB.out.trans (hb1.mono HLW.out)).grown hg1 (Nat.le_trans HLW.out hb1.size) (fun q hq => (hown.row_lt' hq).1)
            exact hb2.grown hRP.2 (by have := hg1.size; have := hb1.size; have := HLW.out; omega) (by rintro q ⟨⟩; exact (HE.out.row_lt' rfl).1))
        clear hcE hOE hEi hxs hown hgle hgt hge hlen
        go_upto_region 5 with (go_at_call 169; refine HC.out.mono ?_; rintro e w2 ⟨A2, c2, wm, rfl, ho2, hb2, hg2, hat2⟩; have HF2 := Lib.hid (HF.out wm w2 A2 c2 hb2 hg2 ho2 hat2); clear ho2 hb2 hg2 hat2)
        obtain ⟨hc2, hf2, _, _⟩ := HF2.out
        clear hcell
        go_wp2
        go_ret2
        obtain ⟨_, _, ⟨E', hE', hK'⟩, hBB⟩ := HF2.out
        exact ⟨_, n, c, i, (rI ls x i).set i (xs ++ [X]), E', rfl, HGT.out, hE', hBB, hK'⟩
    · obtain rfl : i = n := by omega
      have HLT : Hid (Own (wo.alloc (.cells #[.int .i64 X] 3)) wo.heap.size (wo.alloc (.cells #[.int .i64 X] 3)).heap.size (some ⟨wo.heap.size, 0, none⟩) 1 1 [X]) := Lib.hid ⟨World.ownsRow_lit wo #[.int .i64 X] 1 (Nat.le_refl _) (by unfold maxLen; omega) rfl, fun k hk => by simp [Value.ownBlock] at hk; simp; omega⟩
      have hba : Below wo.heap.size wo (wo.alloc (.cells #[.int .i64 X] 3)) := Below.alloc_self _ _
      have HBA := Lib.hid hba
      clear hba
      go_wp2_with (at_builtin; refine wpList_appendLE rfl (.tmp 38) (.tmp 41) rfl lo wo.heap.size _ i c (rI ls x i) wo.heap.size (wo.alloc (.cells #[.int .i64 X] 3)).heap.size (some ⟨wo.heap.size, 0, none⟩) 1 1 [X] rfl (by show Act.eval _ _ = _; simp [Act.eval]) (HE.out.below HBA.out (Nat.le_refl _)) HLT.out HLW.out (HE.out.apart_hi HLT.out (Nat.le_refl _)) (Nat.le_refl _) HBA.out.size (Nat.le_trans HLW.out HBA.out.size) (by omega) ?_
                   intro A4 c4 w4 ho4 hat4 hg4 hb4
                   have HO4 := Lib.hid ho4
                   have HB4 : Hid (Below lo w w4) := Lib.hid ((HB.out.trans (HBA.out.mono HLW.out)).trans hb4)
                   have HK4 := Lib.hid (HKP.out.trans (KpL.snoc (E := E) (n := i) (nb := 1) (cb := 1) HBA.out hg4 (B := some ⟨wo.heap.size, 0, none⟩) (by intro q e; rw [rowB_some] at e; injection e with e; omega) hat4))
                   clear ho4 hat4 hg4 hb4)
      go_ret2
      refine ⟨A4, i + 1, c4, i, rI ls x i ++ [[X]], _, rfl, .inr ⟨HL.out.symm, HGO.out, ?_⟩, HO4.out, HB4.out, HK4.out⟩
      rw [← HX.out]
set_option maxHeartbeats 1000000 in
/-- Into no rows at all. -/
theorem insRuleNil_any (x : Int) (w : World) :
    Calls Try.prog 167 #[.slice none 0 0, .int .i64 x, .func (.func 169) #[] #[]] w fun e w' => ∃ A' c' E', e = .returned (.tuple #[.slice A' 1 c', .int .i64 0]) ∧ InsIs [] x [[x]] 0 ∧ OwnLE E' w' w.heap.size w'.heap.size A' 1 c' [[x]] ∧ Below w.heap.size w w' ∧ KpL (fun _ => (none, 0, 0)) none 0 w E' A' 1 w' := by
  have HLT : Hid (Own (w.alloc (.cells #[.int .i64 x] 3)) w.heap.size (w.alloc (.cells #[.int .i64 x] 3)).heap.size (some ⟨w.heap.size, 0, none⟩) 1 1 [x]) := Lib.hid ⟨World.ownsRow_lit w #[.int .i64 x] 1 (Nat.le_refl _) (by unfold maxLen; omega) rfl, fun k hk => by simp [Value.ownBlock] at hk; simp; omega⟩
  have HBA : Hid (Below w.heap.size w (w.alloc (.cells #[.int .i64 x] 3))) := Lib.hid (Below.alloc_self _ _)
  have HE0 : Hid (OwnLE (fun _ => (none, 0, 0)) w w.heap.size w.heap.size none 0 0 []) := Lib.hid (OwnLE.nil _ _ _ _)
  go_enter Try.func167, Try.ntmps167
  go_wp2_with fail
  refine wp_loop_rounds 1 ?_
  rw [rounds_succ]
  go_wp2_with (at_builtin; refine wpList_appendLE rfl (.tmp 38) (.tmp 41) rfl w.heap.size w.heap.size none 0 0 [] w.heap.size (w.alloc (.cells #[.int .i64 x] 3)).heap.size (some ⟨w.heap.size, 0, none⟩) 1 1 [x] rfl (by show Act.eval _ _ = _; simp [Act.eval]) (HE0.out.below HBA.out (Nat.le_refl _)) HLT.out (Nat.le_refl _) (HE0.out.apart_hi HLT.out (Nat.le_refl _)) (Nat.le_refl _) HBA.out.size HBA.out.size (by omega) ?_
               intro A4 c4 w4 ho4 hat4 hg4 hb4
               have HO4 := Lib.hid ho4
               have HB4 : Hid (Below w.heap.size w w4) := Lib.hid (HBA.out.trans hb4)
               have HK4 := Lib.hid (KpL.snoc (E := fun _ => (none, 0, 0)) (n := 0) (nb := 1) (cb := 1) HBA.out hg4 (B := some ⟨w.heap.size, 0, none⟩) (by intro q e; rw [rowB_some] at e; injection e with e; omega) hat4)
               clear ho4 hat4 hg4 hb4)
  go_ret2
  exact ⟨A4, c4, _, rfl, .inr ⟨rfl, fun j hj => absurd hj (by omega), rfl⟩, HO4.out, HB4.out, HK4.out⟩
end Go.Proofs.Ytjpoliibljjhnaa

/-
  Two lists of lists of one call, no block of both: what a change of one leaves of the other. No conditions.
-/


namespace Go.Proofs.Ytjpoliibljjhnaa
open Go.RowKit

theorem OwnLE.wide2 {E : Nat → Sv} {w : World} {lo hi lo' hi' n c : Nat} {A : Option Addr} {ls : List (List Int)} (h : OwnLE E w lo hi A n c ls) (h1 : lo' ≤ lo) (h2 : hi ≤ hi') : OwnLE E w lo' hi' A n c ls := by
  obtain ⟨e1, e2, e3, e4, e5, e6⟩ := h
  refine ⟨e1, ⟨e2.1, ?_⟩, fun k hk => Nat.lt_of_lt_of_le (e3 k hk) h2, fun j hj => (e4 j hj).wide h1 h2, e5, e6⟩
  rcases e2.2 with hn | ⟨g, cap, cur, e, hl, rest⟩
  · exact .inl hn
  · exact .inr ⟨g, cap, cur, e, Nat.le_trans h1 hl, rest⟩
/-- Each block is apart from one of the two. -/
def Disj (E1 : Nat → Sv) (A1 : Option Addr) (n1 : Nat) (E2 : Nat → Sv) (A2 : Option Addr) (n2 : Nat) : Prop := ∀ k, Apart E1 A1 n1 k ∨ Apart E2 A2 n2 k
theorem Disj.symm {E1 E2 : Nat → Sv} {A1 A2 : Option Addr} {n1 n2 : Nat} (h : Disj E1 A1 n1 E2 A2 n2) : Disj E2 A2 n2 E1 A1 n1 := fun k => (h k).symm
theorem OwnLE.same {E : Nat → Sv} {w w' : World} {lo hi n c : Nat} {A : Option Addr} {ls : List (List Int)} (h : OwnLE E w lo hi A n c ls) (hg : ∀ k, k < hi → ¬ Apart E A n k → w'.heap[k]? = w.heap[k]?) : OwnLE E w' lo hi A n c ls := by
  obtain ⟨e1, e2, e3, e4, e5, e6⟩ := h
  refine ⟨e1, ⟨e2.1, ?_⟩, e3, fun j hj => (e4 j hj).same fun g e => hg g ((e4 j hj).lt g (by rw [ownB]; exact e)).2 (fun ha => ha.2 j hj (by unfold sv; rw [ownB]; exact e)), e5, e6⟩
  rcases e2.2 with hn | ⟨g, cap, cur, e, hb, hq, rest⟩
  · exact .inl hn
  · refine .inr ⟨g, cap, cur, e, hb, (hg g (e3 g ?_) ?_).trans hq, rest⟩
    · injection e with e1; rw [e1]; rfl
    · injection e with e1; rw [e1]; exact fun ha => ha.1 rfl
/-- The one changes: the other stays. -/
theorem OwnLE.keepL {E1 E1' E2 : Nat → Sv} {A1 A1' A2 : Option Addr} {n1 n1' n2 lo hi c2 : Nat} {w w' : World} {us : List (List Int)} (h : OwnLE E2 w lo hi A2 n2 c2 us) (hhi : hi ≤ w.heap.size) (hd : Disj E1 A1 n1 E2 A2 n2) (hk : KpL E1 A1 n1 w E1' A1' n1' w') : OwnLE E2 w' lo hi A2 n2 c2 us :=
  h.same fun k hlt hna => hk.same k (by omega) ((hd k).resolve_right hna)
theorem Disj.next {E1 E1' E2 : Nat → Sv} {A1 A1' A2 : Option Addr} {n1 n1' n2 lo hi c2 : Nat} {w w' : World} {us : List (List Int)} (hd : Disj E1 A1 n1 E2 A2 n2) (h : OwnLE E2 w lo hi A2 n2 c2 us) (hhi : hi ≤ w.heap.size) (hk : KpL E1 A1 n1 w E1' A1' n1' w') : Disj E1' A1' n1' E2 A2 n2 := fun k => by
  by_cases hlt : k < w.heap.size
  · rcases hd k with h1 | h1
    · exact .inl (hk.apart k hlt h1)
    · exact .inr h1
  · exact .inr (h.apart_new (by omega))
theorem KpL.any0 {E F E' : Nat → Sv} {A' : Option Addr} {n' : Nat} {w w' : World} (h : KpL E none 0 w E' A' n' w') : KpL F none 0 w E' A' n' w' :=
  ⟨h.size, fun k hk ha => h.apart k hk ⟨ha.1, fun j hj => absurd hj (by omega)⟩, fun k hk ha => h.same k hk ⟨ha.1, fun j hj => absurd hj (by omega)⟩⟩
/-- insertByRule at any tableau, none too. -/
theorem insRuleX_any (E : Nat → Sv) (A : Option Addr) (n c : Nat) (ls : List (List Int)) (x : Int) (lo : Nat) (w : World) (ho : OwnLE E w lo w.heap.size A n c ls) (h0 : n = 0 → A = none ∧ c = 0) (hlo : lo ≤ w.heap.size) (hn : n ≤ 1099511627776) (hne : ∀ k, k < n → (li ls k).length ≤ 1099511627776) :
    Calls Try.prog 167 #[.slice A n c, .int .i64 x, .func (.func 169) #[] #[]] w fun e w' => ∃ A' n' c' row out E', e = .returned (.tuple #[.slice A' n' c', .int .i64 ((row : Nat) : Int)]) ∧ InsIs ls x out row ∧ OwnLE E' w' lo w'.heap.size A' n' c' out ∧ Below lo w w' ∧ KpL E A n w E' A' n' w' := by
  by_cases hz : n = 0
  · obtain ⟨rfl, rfl⟩ := h0 hz
    subst hz
    obtain rfl : ls = [] := List.eq_nil_of_length_eq_zero ho.1
    refine (insRuleNil_any x w).mono ?_
    rintro e w' ⟨A', c', E', rfl, hi, hE, hb, hk⟩
    exact ⟨A', 1, c', 0, [[x]], E', rfl, hi, hE.wide2 hlo (Nat.le_refl _), hb.mono hlo, hk.any0⟩
  · obtain ⟨g, rfl, _⟩ := ho.place (by omega)
    exact insRuleK_any E g n c ls x lo w ho hlo hn hne
end Go.Proofs.Ytjpoliibljjhnaa

/-
  Shapes in a box and their permutations, on both sides. Conditions: lengths below 2^40.
-/

namespace Go.Proofs.Ytjpoliibljjhnaa
open Go.RowKit

/-- Is the list a shape in the box of k and m. -/
def boxP (xs : List Int) (k m : Int) : Prop := 1 ≤ m ∧ m ≤ 7 ∧ 0 ≤ k ∧ k ≤ m ∧ isShapeP xs ∧ (xs.length : Int) ≤ k ∧ nth xs 0 ≤ m - k
def boxB (xs : List Int) (k m : Int) : Bool := decide (1 ≤ m) && decide (m ≤ 7) && decide (0 ≤ k) && decide (k ≤ m) && isShapeB xs && decide ((xs.length : Int) ≤ k) && decide (nth xs 0 ≤ m - k)
theorem boxB_iff (xs : List Int) (k m : Int) : boxB xs k m = true ↔ boxP xs k m := by simp [boxB, boxP, and_assoc, isShapeB_iff]
theorem boxB_P {xs : List Int} {k m : Int} (h : boxB xs k m = true) : boxP xs k m := (boxB_iff _ _ _).1 h
theorem boxB_true {xs : List Int} {k m : Int} (h : boxP xs k m) : boxB xs k m = true := (boxB_iff _ _ _).2 h
theorem boxB_false {xs : List Int} {k m : Int} (h : ¬ boxP xs k m) : boxB xs k m = false := by
  cases hb : boxB xs k m with
  | false => rfl
  | true => exact absurd (boxB_P hb) h
theorem isBox_any (k m : Int) (w : World) :
    Calls Try.prog 91 #[.int .i64 k, .int .i64 m] w fun e w' => e = .returned (.bool (decide (1 ≤ m ∧ m ≤ 7 ∧ 0 ≤ k ∧ k ≤ m))) ∧ w = w' := by
  by_cases h1 : 1 ≤ m ∧ m ≤ 7
  · have H1 := Lib.hid (fun w => isPermSize_yes h1.1 h1.2 w)
    by_cases h2 : 0 ≤ k
    · rw [show decide (1 ≤ m ∧ m ≤ 7 ∧ 0 ≤ k ∧ k ≤ m) = decide (k ≤ m) by simp [h1.1, h1.2, h2]]
      clear h1
      go_enter Try.func91, Try.ntmps91
      go_wp2_with (go_at_call 182; refine (H1.out _).mono ?_; rintro e w1 ⟨rfl, rfl⟩)
      go_ret
      exact ⟨rfl, rfl⟩
    · rw [decide_eq_false (fun h => h2 h.2.2.1)]
      have h2' : k < 0 := by omega
      clear h1
      go_enter Try.func91, Try.ntmps91
      go_wp2_with (go_at_call 182; refine (H1.out _).mono ?_; rintro e w1 ⟨rfl, rfl⟩)
      go_ret
      exact ⟨rfl, rfl⟩
  · rw [decide_eq_false (fun h => h1 ⟨h.1, h.2.1⟩)]
    have H1 := Lib.hid (fun w => isPermSize_no (a := m) (by omega) w)
    clear h1
    go_enter Try.func91, Try.ntmps91
    go_wp2_with (go_at_call 182; refine (H1.out _).mono ?_; rintro e w1 ⟨rfl, rfl⟩)
    go_ret
    exact ⟨rfl, rfl⟩
end Go.Proofs.Ytjpoliibljjhnaa

/-
  The permutation of a shape in a box, on both sides. Conditions: lengths below 2^40.
-/

namespace Go.Proofs.Ytjpoliibljjhnaa
open Go.RowKit

/-- The first i numbers of the permutation. -/
def gF (xs : List Int) (k i : Nat) : List Int := (List.range i).map fun (j : Nat) => (j : Int) + nth xs (k - 1 - j)
theorem gF_len (xs : List Int) (k i : Nat) : (gF xs k i).length = i := by simp [gF]
theorem gF_succ (xs : List Int) (k i : Nat) : gF xs k (i + 1) = gF xs k i ++ [(i : Int) + nth xs (k - 1 - i)] := by simp [gF, List.range_succ]
/-- Those below v that are not among them. -/
def gR (F : List Int) : Nat → List Int
  | 0 => []
  | v + 1 => if hasB F (v : Int) = true then gR F v else gR F v ++ [(v : Int)]
theorem gR_len (F : List Int) : ∀ v, (gR F v).length ≤ v
  | 0 => Nat.le_refl _
  | v + 1 => by
    have := gR_len F v
    unfold gR
    split
    · omega
    · rw [List.length_append]; simp; omega
theorem gR_lt (F : List Int) : ∀ v : Nat, ∀ x ∈ gR F v, x < (v : Int)
  | 0, x, hx => by simp [gR] at hx
  | v + 1, x, hx => by
    unfold gR at hx
    split at hx
    · have := gR_lt F v x hx; omega
    · rcases List.mem_append.1 hx with hx | hx
      · have := gR_lt F v x hx; omega
      · rw [List.mem_singleton.1 hx]; omega
theorem gR_has (F : List Int) (v : Nat) : hasB (F ++ gR F v) (v : Int) = hasB F (v : Int) := by
  unfold hasB
  have h : (v : Int) ∉ gR F v := fun h => absurd (gR_lt F v _ h) (by omega)
  exact decide_eq_decide.2 ⟨fun h' => (List.mem_append.1 h').resolve_right h, fun h' => List.mem_append.2 (.inl h')⟩
def gL (xs : List Int) (k m : Nat) : List Int := gF xs k k ++ gR (gF xs k k) m
/-- What GrassmannianPerm answers. -/
def graPerm (xs : List Int) (k m : Int) : List Int := if boxB xs k m = true then gL xs k.toNat m.toNat else []
theorem graPerm_no {xs : List Int} {k m : Int} (h : boxB xs k m = false) : graPerm xs k m = [] := by unfold graPerm; rw [if_neg (by rw [h]; decide)]
theorem graPerm_yes {xs : List Int} {k m : Nat} (h : boxB xs (k : Int) (m : Int) = true) : graPerm xs (k : Int) (m : Int) = gL xs k m := by unfold graPerm; rw [if_pos h, Int.toNat_natCast, Int.toNat_natCast]
theorem graPerm_small (xs : List Int) (k m : Int) : (graPerm xs k m).length ≤ 1099511627775 := by
  unfold graPerm
  split
  · rename_i h
    have hp := boxB_P h
    have := gR_len (gF xs k.toNat k.toNat) m.toNat
    unfold gL
    rw [List.length_append, gF_len]
    have h1 := hp.2.1; have h2 := hp.2.2.2.1
    omega
  · simp
theorem l4At_at {j : Int} (A : Option Addr) (n c : Nat) (xs : List Int) (i : Nat) (hj : j = (i : Int)) (w : World) (hs : SI w A n xs) (hn : n ≤ 1099511627776) (hi : i ≤ 1099511627776) {x : Int} (hx : x = nth xs i) :
    Calls Try.prog 180 #[.slice A n c, .int .i64 j] w fun e w' => e = .returned (.int .i64 x) ∧ w = w' := by
  subst hj; subst hx; exact l4At_any A n c xs i w hs hn hi
/-- 'make([]int, 0, n)'. -/
theorem wpList_make_cap {ops : Array Oper} {rest : List Oper} {o : Oper} {a : Act} {w : World} {Q : Exit → Act → World → Prop} (hgd : o.guard = none) (l c : Operand) (ho : o.op = .makeSlice 22 l c)
    (n : Nat) (hl : a.eval l = .int .i64 0) (hc : a.eval c = .int .i64 n) (hn : n ≤ 1099511627776)
    (hK : ∀ w', Own w' w.heap.size w'.heap.size (some ⟨w.heap.size, 0, none⟩) 0 n [] → Below w.heap.size w w' → wpList Try.prog ops Q rest (a.put o.dst (.slice (some ⟨w.heap.size, 0, none⟩) 0 n)) w') :
    wpList Try.prog ops Q (o :: rest) a w := by
  obtain ⟨i0, hi, hz0, hz1, hz2⟩ := info_parts Try.infoInt
  refine wpList_make_own w hgd l c 22 ho w.heap.size 3 i0 (.int .i64 0) 1 Try.underlying22 hi hz0 hz1 .i64 .i64 n n hl hc rfl (by rw [hz2]; omega) (by unfold maxLen; omega) (Nat.le_refl _) ?_
  intro w1 ho1 hg1
  exact hK w1 (Own.of (by simpa using ho1)) (grow_below hg1 (Nat.le_refl _) (by intro k hk; cases hk))
set_option maxHeartbeats 800000 in
theorem indexInts_any (A : Option Addr) (n c : Nat) (xs : List Int) (x : Int) (w : World) (hs : SI w A n xs) (hn : n ≤ 1099511627776) :
    Calls Try.prog 221 #[.slice A n c, .int .i64 x] w fun r w' => ∃ i : Int, r = .returned (.int .i64 i) ∧ (0 ≤ i ↔ hasB xs x = true) ∧ Drawn w w' := by
  have HL := Lib.hid hs.1
  go_enter Try.func221, Try.ntmps221
  go_wp2
  go_loopw [8] (fun i wr => ∃ k : Nat, k ≤ n ∧ i = .int .i64 k ∧ Drawn w wr ∧ ∀ j, j < k → nth xs j ≠ x)
    (fun i _ => n - (intOf i).toNat)
  case atStart => exact ⟨0, Nat.zero_le _, rfl, Drawn.refl _, fun j hj => absurd hj (by omega)⟩
  case round =>
    obtain ⟨k, hk, rfl, hD, hall⟩ := hrel
    have HA := Lib.hid hall
    have HDR := Lib.hid hD
    have hs := hD.si hs
    clear hall hD
    by_cases hlt : k < n
    · have hlI : (k : Int) < (n : Int) := by omega
      obtain ⟨b, o, rfl, hb, hc⟩ := hs.at_ (by omega)
      have hc1 := hc k hlt
      obtain ⟨y, hy⟩ : ∃ y, y = nth xs k := ⟨_, rfl⟩
      rw [← hy] at hc1
      have HY := Lib.hid hy
      clear hc hs hy
      by_cases heq : x = y
      · subst heq
        go_wp2
        go_ret
        exact ⟨(k : Int), rfl, ⟨fun _ => by rw [HY.out]; exact hasB_hit (by rw [HL.out]; exact hlt), fun _ => by omega⟩, HDR.out⟩
      · have hb : (x == y) = false := by simpa using heq
        have HN := Lib.hid heq
        clear heq
        go_wp2
        go_roundw
        case rel => exact ⟨k + 1, by omega, by go_num, HDR.out, fun j hj => by
          rcases Nat.lt_or_ge j k with h | h
          · exact HA.out j h
          · obtain rfl : j = k := by omega
            exact fun h => HN.out (by rw [HY.out, h])⟩
        case measure => simp [intOf]; omega
    · have hkn : k = n := by omega
      subst hkn
      go_wp2
      go_ret
      exact ⟨-1, rfl, ⟨fun h => absurd h (by decide), fun h => by rw [hasB_all (by rw [HL.out]; exact HA.out)] at h; cases h⟩, HDR.out⟩
set_option maxHeartbeats 400000 in
theorem containsInts_any (A : Option Addr) (n c : Nat) (xs : List Int) (x : Int) (w : World) (hs : SI w A n xs) (hn : n ≤ 1099511627776) :
    Calls Try.prog 168 #[.slice A n c, .int .i64 x] w fun r w' => r = .returned (.bool (hasB xs x)) ∧ Drawn w w' := by
  have HC := Lib.hid (indexInts_any A n c xs x w hs hn)
  clear hs
  go_enter Try.func168, Try.ntmps168
  go_wp2_with (go_at_call 221; refine HC.out.mono ?_; rintro r w2 ⟨i, rfl, hi, hd⟩; have HI := Lib.hid hi; have HD := Lib.hid hd; clear hi hd)
  go_ret
  refine ⟨ret_bool ?_, HD.out⟩
  have := HI.out
  cases hu : hasB xs x with
  | true => rw [hu] at this; simpa using this.2 rfl
  | false => rw [hu] at this; simp at this ⊢; omega
end Go.Proofs.Ytjpoliibljjhnaa

/-
  A number of a reduced word inserted into a tableau by the program. Conditions: lengths below 2^40, numbers from 0 to 100.
-/



namespace Go.Proofs.Ytjpoliibljjhnaa
open Go.RowKit

theorem Drawn.szT {w w2 : World} (hd : Drawn w w2) : w2.heap.size = w.heap.size := by rw [hd.heap]
theorem Drawn.ownT {w u : World} {lo n c : Nat} {A : Option Addr} {xs : List Int} (hd : Drawn w u) (ho : Own w lo w.heap.size A n c xs) : Own u lo u.heap.size A n c xs := by rw [hd.szT]; exact ho.drawn hd
set_option maxHeartbeats 1600000 in
theorem insSwap_mid (A : Option Addr) (n c : Nat) (xs : List Int) (x : Int) (lo : Nat) (w : World) (ho : Own w lo w.heap.size A n c xs) (hlo : lo ≤ w.heap.size) (hn : n ≤ 1099511627776) (hx : inE x) (hgt : goesRow xs x) :
    Calls Try.prog 78 #[.slice A n c, .int .i64 x] w fun e w' => e = .returned (.tuple #[.slice A n c, .int .i64 (nxE xs x), .bool true]) ∧ Own w' lo w'.heap.size A n c (rowE xs x) ∧ ∃ wm, Below w.heap.size w wm ∧ wm.grownBy w' (rowB A) := by
  have hwx : wrap64 (x + 1) = x + 1 := by have := hx.1; have := hx.2; unfold wrap64; omega
  have HWX := Lib.hid hwx
  have HO := Lib.hid ho
  have HLN := Lib.hid ho.len
  have HLO := Lib.hid hlo
  have HC1 := Lib.hid (fun u (hd : Drawn w u) => containsInts_any A n c xs x u (hd.si ho.si) hn)
  have HC2 := Lib.hid (fun u (hd : Drawn w u) => containsInts_any A n c xs (x + 1) u (hd.si ho.si) hn)
  clear hlo hwx
  by_cases h1 : hasB xs x = true
  · by_cases h2 : hasB xs (x + 1) = true
    · have HN : Hid (nxE xs x = x + 1 ∧ rowE xs x = xs) := Lib.hid (by simp [nxE, rowE, bothN, h1, h2])
      rw [h1] at HC1
      rw [h2] at HC2
      clear ho hgt h1 h2
      go_enter Try.func78, Try.ntmps78
      go_wp2_with fail
      refine (HC1.out _ (Drawn.refl _)).mono ?_
      rintro e w1 ⟨rfl, hd1⟩
      have HD1 := Lib.hid hd1
      clear hd1
      go_wp2_with fail
      rw [HWX.out]
      refine (HC2.out _ HD1.out).mono ?_
      rintro e w2 ⟨rfl, hd2⟩
      have HD2 := Lib.hid (HD1.out.trans hd2)
      clear hd2
      go_wp2
      go_ret3
      rw [HN.out.1, HN.out.2]
      have hz : w2.heap.size = w.heap.size := by rw [HD2.out.heap]
      exact ⟨by first | rfl | (rw [HWX.out]; rfl), by rw [hz]; exact HO.out.drawn HD2.out, w2, HD2.out.below _, World.grownBy.refl _ _⟩
    · have h2' : hasB xs (x + 1) = false := by simpa using h2
      have hb : bothN xs x = false := by simp [bothN, h2']
      have HN : Hid (nxE xs x = nth xs (gtN xs x) ∧ rowE xs x = xs.set (gtN xs x) x) := Lib.hid (by simp [nxE, rowE, hb])
      have hlt : gtN xs x < n := by
        rcases hgt with h | h
        · rw [hb] at h; cases h
        · rw [HLN.out] at h; exact h
      have HM := Lib.hid (fun u (hd : Drawn w u) => insRow_mid A n c xs x lo u (hd.ownT HO.out) (by rw [hd.heap]; exact HLO.out) hn hlt)
      rw [h1] at HC1
      rw [h2'] at HC2
      clear ho hgt h1 h2 h2' hb hlt
      go_enter Try.func78, Try.ntmps78
      go_wp2_with fail
      refine (HC1.out _ (Drawn.refl _)).mono ?_
      rintro e w1 ⟨rfl, hd1⟩
      have HD1 := Lib.hid hd1
      clear hd1
      go_wp2_with fail
      rw [HWX.out]
      refine (HC2.out _ HD1.out).mono ?_
      rintro e w2 ⟨rfl, hd2⟩
      have HD2 := Lib.hid (HD1.out.trans hd2)
      clear hd2
      go_wp2_with fail
      refine (HM.out _ HD2.out).mono ?_
      rintro e w3 ⟨rfl, ho3, wm, hb3, hg3⟩
      go_wp2
      go_ret3
      rw [HN.out.1, HN.out.2]
      exact ⟨rfl, ho3, wm, (HD2.out.below _).trans (by have hz := HD2.out.szT; rw [← hz]; exact hb3), hg3⟩
  · have h1' : hasB xs x = false := by simpa using h1
    have hb : bothN xs x = false := by simp [bothN, h1']
    have HN : Hid (nxE xs x = nth xs (gtN xs x) ∧ rowE xs x = xs.set (gtN xs x) x) := Lib.hid (by simp [nxE, rowE, hb])
    have hlt : gtN xs x < n := by
      rcases hgt with h | h
      · rw [hb] at h; cases h
      · rw [HLN.out] at h; exact h
    have HM := Lib.hid (fun u (hd : Drawn w u) => insRow_mid A n c xs x lo u (hd.ownT HO.out) (by rw [hd.heap]; exact HLO.out) hn hlt)
    rw [h1'] at HC1
    clear ho hgt h1 h1' hb hlt HC2
    go_enter Try.func78, Try.ntmps78
    go_wp2_with fail
    refine (HC1.out _ (Drawn.refl _)).mono ?_
    rintro e w2 ⟨rfl, hd2⟩
    have HD2 := Lib.hid hd2
    clear hd2
    go_wp2_with fail
    refine (HM.out _ HD2.out).mono ?_
    rintro e w3 ⟨rfl, ho3, wm, hb3, hg3⟩
    go_wp2
    go_ret3
    rw [HN.out.1, HN.out.2]
    exact ⟨rfl, ho3, wm, (HD2.out.below _).trans (by have hz := HD2.out.szT; rw [← hz]; exact hb3), hg3⟩
set_option maxHeartbeats 1600000 in
theorem insSwap_end (A : Option Addr) (n c : Nat) (xs : List Int) (x : Int) (lo : Nat) (w : World) (ho : Own w lo w.heap.size A n c xs) (hlo : lo ≤ w.heap.size) (hn : n ≤ 1099511627776) (hx : inE x) (hgt : ¬ goesRow xs x) :
    Calls Try.prog 78 #[.slice A n c, .int .i64 x] w fun e w' => ∃ A2 c2 wm, e = .returned (.tuple #[.slice A2 (n + 1) c2, .int .i64 0, .bool false]) ∧ Own w' lo w'.heap.size A2 (n + 1) c2 (xs ++ [x]) ∧ Below w.heap.size w wm ∧ wm.grownBy w' (rowB A) ∧ (rowB A2 = rowB A ∨ ∃ q, rowB A2 = some q ∧ wm.heap.size ≤ q) := by
  have hwx : wrap64 (x + 1) = x + 1 := by have := hx.1; have := hx.2; unfold wrap64; omega
  have HWX := Lib.hid hwx
  have HO := Lib.hid ho
  have HLN := Lib.hid ho.len
  have HLO := Lib.hid hlo
  have HC1 := Lib.hid (fun u (hd : Drawn w u) => containsInts_any A n c xs x u (hd.si ho.si) hn)
  have HC2 := Lib.hid (fun u (hd : Drawn w u) => containsInts_any A n c xs (x + 1) u (hd.si ho.si) hn)
  clear hlo hwx
  have hge : gtN xs x = n := by
    have h1 := gtN_le xs x
    have h2 : ¬ gtN xs x < xs.length := fun h => hgt (.inr h)
    have := HLN.out
    omega
  have HM := Lib.hid (fun u (hd : Drawn w u) => insRow_end A n c xs x lo u (hd.ownT HO.out) (by rw [hd.heap]; exact HLO.out) hn hge)
  have hbf : bothN xs x = false := by
    cases h : bothN xs x with
    | false => rfl
    | true => exact absurd (.inl h) hgt
  by_cases h1 : hasB xs x = true
  · have h2' : hasB xs (x + 1) = false := by simpa [bothN, h1] using hbf
    rw [h1] at HC1
    rw [h2'] at HC2
    clear ho hgt h1 h2' hbf hge
    go_enter Try.func78, Try.ntmps78
    go_wp2_with fail
    refine (HC1.out _ (Drawn.refl _)).mono ?_
    rintro e w1 ⟨rfl, hd1⟩
    have HD1 := Lib.hid hd1
    clear hd1
    go_wp2_with fail
    rw [HWX.out]
    refine (HC2.out _ HD1.out).mono ?_
    rintro e w2 ⟨rfl, hd2⟩
    have HD2 := Lib.hid (HD1.out.trans hd2)
    clear hd2
    go_wp2_with fail
    refine (HM.out _ HD2.out).mono ?_
    rintro e w3 ⟨A2, c2, wm, rfl, ho3, hb3, hg3, hat3⟩
    go_wp2
    go_ret3
    exact ⟨A2, c2, wm, rfl, ho3, (HD2.out.below _).trans (by have hz := HD2.out.szT; rw [← hz]; exact hb3), hg3, hat3⟩
  · have h1' : hasB xs x = false := by simpa using h1
    rw [h1'] at HC1
    clear ho hgt h1 h1' hbf hge HC2
    go_enter Try.func78, Try.ntmps78
    go_wp2_with fail
    refine (HC1.out _ (Drawn.refl _)).mono ?_
    rintro e w2 ⟨rfl, hd2⟩
    have HD2 := Lib.hid hd2
    clear hd2
    go_wp2_with fail
    refine (HM.out _ HD2.out).mono ?_
    rintro e w3 ⟨A2, c2, wm, rfl, ho3, hb3, hg3, hat3⟩
    go_wp2
    go_ret3
    exact ⟨A2, c2, wm, rfl, ho3, (HD2.out.below _).trans (by have hz := HD2.out.szT; rw [← hz]; exact hb3), hg3, hat3⟩
end Go.Proofs.Ytjpoliibljjhnaa

/-
  The document's EdelmanGreene. Conditions: lengths below 2^40.
-/


namespace Go.Proofs.Ytjpoliibljjhnaa
open Go.RowKit

set_option maxHeartbeats 2000000 in
theorem specEg_any (a : Int) (A : Option Addr) (n c : Nat) (xs : List Int) (w : World) (hs : SI w A n xs) (hn : n ≤ 1099511627776) :
    Calls Try.prog 15 #[.int .i64 a, .slice A n c] w fun e w' => FreshLL w w' e (egA a xs) (egC a xs) (egB a xs) := by
  have HL := Lib.hid hs.1
  have hwb := l1Word_any a A n c xs w hs hn
  cases hu : wordB a xs with
  | false =>
    rw [hu] at hwb
    have HW := Lib.hid hwb
    have HNO : Hid (egB a xs = false) := Lib.hid (by simp [egB, hu])
    clear hs hwb hu
    go_enter Try.func15, Try.ntmps15
    go_wp2_with (go_at_call 71; (with_reducible refine HW.out.mono ?_); rintro e v1 ⟨rfl, hd1⟩; have HD1 := Lib.hid hd1; clear hd1)
    go_ret3
    rw [(eg_no HNO.out).1, (eg_no HNO.out).2, HNO.out]
    exact FreshLL.nil_ret (HD1.out.below _)
  | true =>
    rw [hu] at hwb
    have HW := Lib.hid hwb
    have hp := wordB_P hu
    obtain ⟨m, rfl⟩ : ∃ m : Nat, a = m := ⟨a.toNat, by have := hp.1; omega⟩
    have HM7 : Hid (m ≤ 7) := Lib.hid (by have := hp.2.1; omega)
    have HN16 : Hid (n ≤ 60) := Lib.hid (by have := hp.2.2.1; have := HL.out; omega)
    have HEN := Lib.hid (egB_in hu)
    have HPL := Lib.hid (fun u (hd : Drawn w u) => l1Play_any m true A n c xs u (hd.si hs) hp)
    have HTL : Hid (((playL xs true n).take m).length = m) := Lib.hid (by rw [List.length_take, playL_len]; have := HM7.out; omega)
    have hE : egB (m : Int) xs = decide (lenL ((playL xs true n).take m) = (n : Int)) := by
      unfold egB
      rw [hu, HL.out, Int.toNat_natCast, Bool.true_and]
    obtain ⟨z, hz⟩ : ∃ z, z = lenL ((playL xs true n).take m) := ⟨_, rfl⟩
    rw [← hz] at hE
    have HZ := Lib.hid hz.symm
    clear hwb hz hp hu
    by_cases hzn : z = (n : Int)
    · subst hzn
      have HYES : Hid (egB (m : Int) xs = true) := Lib.hid (by rw [hE]; simp)
      clear hE
      go_enter Try.func15, Try.ntmps15
      go_upto_region 5 with (first
        | (go_at_call 71; (with_reducible refine HW.out.mono ?_); rintro e v1 ⟨rfl, hd1⟩; have HD1 := Lib.hid hd1; clear hd1)
        | (go_at_call 73; (with_reducible refine (HPL.out _ HD1.out).mono ?_); rintro e v2 ⟨A2, n2, c2, rfl, ho2, hb2⟩
           obtain rfl : n2 = m := by rw [← ho2.len]; exact HTL.out
           have HO2 := Lib.hid ho2
           have HV2 : Hid (Below w.heap.size w v2) := Lib.hid ((HD1.out.below _).trans (hb2.mono (by rw [HD1.out.szT]; exact Nat.le_refl _)))
           clear ho2 hb2)
        | (go_at_call 72; (with_reducible refine (l1Length_any A2 n2 c2 _ v2 HO2.out.si HM7.out).mono ?_); rintro e v3 ⟨rfl, hb3⟩
           rw [HZ.out]
           have HV3 : Hid (Below w.heap.size w v3) := Lib.hid (HV2.out.trans (hb3.mono HV2.out.size))
           clear hb3))
      obtain ⟨w1, hw1⟩ : ∃ w1, w1 = (v3.alloc (.cells #[] 22)).alloc (.cells #[] 22) := ⟨_, rfl⟩
      have hO1 : OwnL w1 w.heap.size w1.heap.size (some ⟨v3.heap.size, 0, none⟩) 0 0 [] := by
        rw [hw1]
        exact ((OwnL.empty v3).below (Below.alloc_self _ _) (by simp)).wide HV3.out.size (by simp)
      have hO2 : OwnL w1 w.heap.size w1.heap.size (some ⟨v3.heap.size + 1, 0, none⟩) 0 0 [] := by
        rw [hw1]
        have h := OwnL.empty (v3.alloc (.cells #[] 22))
        simp at h
        exact h.wide (by have := HV3.out.size; omega) (by simp)
      have hB1 : Below w.heap.size w w1 := by rw [hw1]; have h0 := HV3.out.size; exact (HV3.out.alloc h0 _).alloc (by simp; omega) _
      rw [← hw1]
      have HO1 := Lib.hid hO1
      have HO2 := Lib.hid hO2
      have HB1 := Lib.hid hB1
      have HS := Lib.hid hs
      have HB1s := Lib.hid hB1.size
      clear hw1 hO1 hO2 hB1 hs
      go_wp2_with fail
      go_loopw [7, 8, 9] (fun pv qv iv wr => ∃ (k : Nat) (A1 : Option Addr) (n1 c1 : Nat) (A2 : Option Addr) (c2 : Nat), k ≤ n ∧ iv = .int .i64 k ∧ pv = .slice A1 n1 c1 ∧ qv = .slice A2 n1 c2 ∧ n1 ≤ k ∧ OwnL wr w.heap.size wr.heap.size A1 n1 c1 (egP xs k) ∧ OwnL wr w.heap.size wr.heap.size A2 n1 c2 (egQ xs k) ∧ EgK xs k ∧ Below w.heap.size w wr)
        (fun _ _ iv _ => n - (intOf iv).toNat)
      case atStart => exact ⟨0, _, 0, 0, _, 0, Nat.zero_le _, rfl, rfl, rfl, Nat.le_refl _, HO1.out, HO2.out, EgK.zero xs, HB1.out⟩
      case round =>
        obtain ⟨k, A1, n1, c1, A2, c2, hk, rfl, rfl, rfl, hn1, ho1, ho2, hkk, hb⟩ := hrel
        clear HO1 HO2 HB1
        have HP := Lib.hid ho1
        have HQ := Lib.hid ho2
        have HK := Lib.hid hkk
        have HB := Lib.hid hb
        clear ho1 ho2 hkk hb
        by_cases hlt : k < n
        · have hlI : (k : Int) < (n : Int) := by omega
          obtain ⟨b, o, rfl, hb0, hc0⟩ := (HS.out.below HB.out (Nat.le_refl _)).at_ (by omega)
          have hc1 := hc0 k hlt
          obtain ⟨x, hx⟩ : ∃ x, x = nth xs k := ⟨_, rfl⟩
          rw [← hx] at hc1
          have HX := Lib.hid hx
          clear hb0 hc0 hx
          have HBX : Hid (b < w1.heap.size) := Lib.hid (by obtain ⟨b', o', e', hb', _⟩ := HS.out.at_ (show 0 < n by omega); injection e' with e'; injection e' with e1 e2; rw [e1]; exact Nat.lt_of_lt_of_le hb' HB1s.out)
          have HII := Lib.hid (l4Edelman_any A1 n1 c1 (egP xs k) x wr HP.out.si (by have := HN16.out; omega) (fun j _ => Nat.le_trans (HK.out.row j) (by have := HN16.out; omega)) (xE_in HK.out.ent (by rw [HX.out]; exact HEN.out k)))
          go_wp2_with (first
            | (go_at_call 74; (with_reducible refine HII.out.mono ?_); rintro e w3 ⟨A3, n3, c3, row, out, rfl, hi3, ho3, hb3⟩
               have HI3 : Hid (InsEs (egP xs k) (nth xs k) out row) := Lib.hid (by rw [← HX.out]; exact hi3)
               have HO3 := Lib.hid ho3
               have HB3 := Lib.hid hb3
               have HGR := Lib.hid (l4Grown_any A2 n1 c2 (egQ xs k) row (k : Int) w3 (HQ.out.below hb3 (Nat.le_refl _)).si (by have := HN16.out; omega) (fun j _ => Nat.le_trans (HK.out.row2 j) (by have := HN16.out; omega)) (by have := (insEs_len hi3).1; have := HP.out.len; omega))
               clear hi3 ho3 hb3)
            | (go_at_call 75; (with_reducible refine HGR.out.mono ?_); rintro e w4 ⟨A4, n4, c4, rfl, ho4, hb4⟩
               have HO4 := Lib.hid ho4
               have HB4 := Lib.hid hb4
               clear ho4 hb4))
          have HNX := Lib.hid (HK.out.next (HEN.out k) HI3.out)
          have HST := Lib.hid (eg_step HI3.out)
          have e4 : n4 = n3 := by have h1 := HO4.out.len; have h2 := HO3.out.len; have h3 := HNX.out.len; rw [HST.out.1, HST.out.2] at h3; omega
          subst e4
          go_roundw
          case rel => exact ⟨k + 1, A3, n4, c3, A4, c4, by omega, by go_num, rfl, rfl, by have h2 := HO3.out.len; have h3 := HNX.out.few; rw [HST.out.1] at h3; omega,
            by rw [HST.out.1]; exact (HO3.out.below HB4.out (Nat.le_refl _)).wide (by have := HB.out.size; omega) HB4.out.size, by rw [HST.out.2]; exact HO4.out.wide (by have := HB.out.size; have := HB3.out.size; omega) (Nat.le_refl _), HNX.out,
            (HB.out.trans (HB3.out.mono HB.out.size)).trans (HB4.out.mono (Nat.le_trans HB.out.size HB3.out.size))⟩
          case measure => simp [intOf]; omega
        · have hlI : ¬ (k : Int) < (n : Int) := by omega
          obtain rfl : k = n := by omega
          go_wp2
          go_ret3
          rw [(eg_yes HYES.out).1, (eg_yes HYES.out).2, HYES.out, HL.out]
          exact ⟨A1, n1, c1, A2, n1, c2, rfl, HP.out, HQ.out, HB.out⟩
    · have HNO : Hid (egB (m : Int) xs = false) := Lib.hid (by rw [hE]; simp [hzn])
      have hki : (z != (n : Int)) = true := by simpa using hzn
      clear hE
      go_enter Try.func15, Try.ntmps15
      go_wp2_with (first
        | (go_at_call 71; (with_reducible refine HW.out.mono ?_); rintro e v1 ⟨rfl, hd1⟩; have HD1 := Lib.hid hd1; clear hd1)
        | (go_at_call 73; (with_reducible refine (HPL.out _ HD1.out).mono ?_); rintro e v2 ⟨A2, n2, c2, rfl, ho2, hb2⟩
           obtain rfl : n2 = m := by rw [← ho2.len]; exact HTL.out
           have HO2 := Lib.hid ho2
           have HV2 : Hid (Below w.heap.size w v2) := Lib.hid ((HD1.out.below _).trans (hb2.mono (by rw [HD1.out.szT]; exact Nat.le_refl _)))
           clear ho2 hb2)
        | (go_at_call 72; (with_reducible refine (l1Length_any A2 n2 c2 _ v2 HO2.out.si HM7.out).mono ?_); rintro e v3 ⟨rfl, hb3⟩
           rw [HZ.out]
           have HV3 : Hid (Below w.heap.size w v3) := Lib.hid (HV2.out.trans (hb3.mono HV2.out.size))
           clear hb3))
      go_ret3
      rw [(eg_no HNO.out).1, (eg_no HNO.out).2, HNO.out]
      exact FreshLL.nil_ret HV3.out
end Go.Proofs.Ytjpoliibljjhnaa

/-
  insertByRule with the rule of reduced words. Conditions: lengths below 2^40, numbers from 0 to 100.
-/

namespace Go.Proofs.Ytjpoliibljjhnaa
open Go.RowKit

set_option maxHeartbeats 4000000 in
theorem insRuleKE_any (E0 : Nat → Sv) (g n c : Nat) (ls : List (List Int)) (x : Int) (lo : Nat) (w : World) (ho : OwnLE E0 w lo w.heap.size (some ⟨g, 0, none⟩) n c ls) (hlo : lo ≤ w.heap.size) (hn : n ≤ 1099511627776) (hne : ∀ k, k < n → (li ls k).length ≤ 1099511627776) (hin : ∀ i, inE (xE ls x i)) :
    Calls Try.prog 167 #[.slice (some ⟨g, 0, none⟩) n c, .int .i64 x, .func (.func 78) #[] #[]] w fun e w' => ∃ A' n' c' row out E', e = .returned (.tuple #[.slice A' n' c', .int .i64 ((row : Nat) : Int)]) ∧ InsEs ls x out row ∧ OwnLE E' w' lo w'.heap.size A' n' c' out ∧ Below lo w w' ∧ KpL E0 (some ⟨g, 0, none⟩) n w E' A' n' w' := by
  have HNE := Lib.hid hne
  have HIN := Lib.hid hin
  have HL := Lib.hid ho.1
  have HO := Lib.hid ho
  have HLO := Lib.hid hlo
  clear hne ho hlo hin
  go_enter Try.func167, Try.ntmps167
  go_wp2_with fail
  go_loopw [1, 15] (fun xv iv wr => ∃ i : Nat, i ≤ n ∧ iv = .int .i64 i ∧ xv = .int .i64 (xE ls x i) ∧ (∀ j, j < i → goesE ls x j) ∧ (∃ E, OwnLE E wr lo wr.heap.size (some ⟨g, 0, none⟩) n c (rE ls x i) ∧ KpL E0 (some ⟨g, 0, none⟩) n w E (some ⟨g, 0, none⟩) n wr) ∧ Below lo w wr)
    (fun _ iv _ => n - (intOf iv).toNat)
  case atStart => exact ⟨0, Nat.zero_le _, rfl, rfl, fun j hj => absurd hj (by omega), ⟨E0, HO.out, KpL.refl _ _ _ _⟩, Below.refl _ _⟩
  case round =>
    obtain ⟨i, hi, rfl, rfl, hgo, ho, hb⟩ := hrel
    clear HO
    obtain ⟨wo, rfl⟩ : ∃ wo, wo = wr := ⟨wr, rfl⟩
    have HGO := Lib.hid hgo
    have HB := Lib.hid hb
    obtain ⟨E, hE, hkp⟩ := ho
    have HE := Lib.hid hE
    have HKP := Lib.hid hkp
    have HLW : Hid (lo ≤ wo.heap.size) := Lib.hid (Nat.le_trans HLO.out hb.size)
    clear hgo hb hE hkp
    obtain ⟨X, hX⟩ : ∃ X, X = xE ls x i := ⟨_, rfl⟩
    rw [← hX]
    have HX := Lib.hid hX
    clear hX
    by_cases hlt : i < n
    · have hlI : (i : Int) < (n : Int) := by omega
      have hcE := HE.out.cellAt hlt
      have hOE := HE.out.2.2.2.1 i hlt
      rw [rE_li (Nat.le_refl _) (by rw [HL.out]; omega)] at hOE
      obtain ⟨⟨A', n', c'⟩, hEi⟩ : ∃ a, a = E i := ⟨_, rfl⟩
      rw [← hEi] at hcE hOE
      have hcell : wo.cell? ⟨g, i, none⟩ = some (.slice A' n' c') := hcE
      have hown : Own wo lo wo.heap.size A' n' c' (li ls i) := hOE
      have HEI := Lib.hid hEi
      obtain ⟨xs, hxs⟩ : ∃ xs, xs = li ls i := ⟨_, rfl⟩
      rw [← hxs] at hown
      have HXS := Lib.hid hxs
      have hlen := hown.len
      have hn' : n' ≤ 1099511627776 := by have := HNE.out i hlt; rw [← hxs] at this; omega
      have HGW : Hid (g < wo.heap.size) := Lib.hid (HE.out.2.2.1 g rfl)
      have hXin : inE X := by rw [HX.out]; exact HIN.out i
      by_cases hgt : goesRow xs X
      · have HC := Lib.hid (insSwap_mid A' n' c' xs X lo wo hown HLW.out hn' hXin hgt)
        have HGT : Hid (goesE ls x i) := Lib.hid (by unfold goesE; rw [← HXS.out, ← HX.out]; exact hgt)
        have HF : Hid (∀ wm w2, Below wo.heap.size wo wm → wm.grownBy w2 (rowB A') → Own w2 lo w2.heap.size A' n' c' (rowE xs X) → w2.cell? ⟨g, i, none⟩ = some (.slice A' n' c') ∧ w2.frozen? ⟨g, i, none⟩ = false ∧ (∃ E', OwnLE E' (w2.setCell ⟨g, i, none⟩ (.slice A' n' c')) lo (w2.setCell ⟨g, i, none⟩ (.slice A' n' c')).heap.size (some ⟨g, 0, none⟩) n c (rE ls x (i + 1)) ∧ KpL E0 (some ⟨g, 0, none⟩) n w E' (some ⟨g, 0, none⟩) n (w2.setCell ⟨g, i, none⟩ (.slice A' n' c'))) ∧ Below lo w (w2.setCell ⟨g, i, none⟩ (.slice A' n' c'))) := Lib.hid (by
          intro wm w2 hb1 hg1 ho2
          have hEm : OwnLE E wm lo wo.heap.size (some ⟨g, 0, none⟩) n c (rE ls x i) := HE.out.below hb1 (Nat.le_refl _)
          have hbk : w2.heap[g]? = wm.heap[g]? := hg1.block g (Nat.lt_of_lt_of_le HGW.out hb1.size) (fun e => hEm.2.2.2.2.1 i g hlt (by rw [← HEI.out]; unfold sv; rw [ownB]; exact e.symm) rfl)
          have hRP := hEm.replE (k := i) hlt hb1.size (A2 := A') (n2 := n') (c2 := c') (ys := rowE xs X) (w2 := w2) (by rw [← HEI.out]; exact hg1) ho2 (by rw [← HEI.out]; exact .inl rfl)
          refine ⟨?_, ?_, ?_, ?_⟩
          · rw [World.cell?_of_block (a := ⟨g, i, none⟩) hbk]
            have := hEm.cellAt hlt
            rw [← HEI.out] at this; exact this
          · rw [World.frozen?_of_block (a := ⟨g, i, none⟩) hbk]
            exact hEm.2.1.frozenAt i
          · have e : rE ls x (i + 1) = (rE ls x i).set i (rowE xs X) := by
              show (rE ls x i).set i (rowE (li ls i) (xE ls x i)) = _
              rw [← HXS.out, ← HX.out]
            rw [e]
            exact ⟨_, hRP.1.wide hRP.2.size, HKP.out.trans (KpL.repl hlt HEI.out hb1 hg1 hRP.2 (.inl rfl))⟩
          · have hb2 : Below lo w w2 := (HB.out.trans (hb1.mono HLW.out)).grown hg1 (Nat.le_trans HLW.out hb1.size) (fun q hq => (hown.row_lt' hq).1)
            exact hb2.grown hRP.2 (by have := hg1.size; have := hb1.size; have := HLW.out; omega) (by rintro q ⟨⟩; exact (HE.out.row_lt' rfl).1))
        have HXN : Hid (xE ls x (i + 1) = nxE xs X) := Lib.hid (by
          show nxE (li ls i) (xE ls x i) = _
          rw [← HXS.out, ← HX.out])
        clear hcE hOE hEi hxs hown hXin hlen
        go_upto_region 5 with (go_at_call 78; refine HC.out.mono ?_; rintro e w2 ⟨rfl, ho2, wm, hb2, hg2⟩; have HF2 := Lib.hid (HF.out wm w2 hb2 hg2 ho2); clear ho2 hb2 hg2)
        obtain ⟨hc2, hf2, _, _⟩ := HF2.out
        clear hcell
        go_wp2
        go_roundw
        case rel => exact ⟨i + 1, by omega, by go_num, by rw [HXN.out], fun j hj => by
          rcases Nat.lt_or_ge j i with h | h
          · exact HGO.out j h
          · obtain rfl : j = i := by omega
            exact HGT.out, HF2.out.2.2.1, HF2.out.2.2.2⟩
        case measure => simp [intOf]; omega
      · have hge := hgt
        have HC := Lib.hid (insSwap_end A' n' c' xs X lo wo hown HLW.out hn' hXin hge)
        have HGT : Hid (InsEs ls x ((rE ls x i).set i (xs ++ [X])) i) := Lib.hid (.inl ⟨by rw [HL.out]; exact hlt, HGO.out, by unfold goesE; rw [← HXS.out, ← HX.out]; exact hgt, by rw [← HXS.out, ← HX.out]⟩)
        have HF : Hid (∀ wm w2 A2 c2, Below wo.heap.size wo wm → wm.grownBy w2 (rowB A') → Own w2 lo w2.heap.size A2 (n' + 1) c2 (xs ++ [X]) → (rowB A2 = rowB A' ∨ ∃ q, rowB A2 = some q ∧ wm.heap.size ≤ q) → w2.cell? ⟨g, i, none⟩ = some (.slice A' n' c') ∧ w2.frozen? ⟨g, i, none⟩ = false ∧ (∃ E', OwnLE E' (w2.setCell ⟨g, i, none⟩ (.slice A2 (n' + 1) c2)) lo (w2.setCell ⟨g, i, none⟩ (.slice A2 (n' + 1) c2)).heap.size (some ⟨g, 0, none⟩) n c ((rE ls x i).set i (xs ++ [X])) ∧ KpL E0 (some ⟨g, 0, none⟩) n w E' (some ⟨g, 0, none⟩) n (w2.setCell ⟨g, i, none⟩ (.slice A2 (n' + 1) c2))) ∧ Below lo w (w2.setCell ⟨g, i, none⟩ (.slice A2 (n' + 1) c2))) := Lib.hid (by
          intro wm w2 A2 c2 hb1 hg1 ho2 hat
          have hEm : OwnLE E wm lo wo.heap.size (some ⟨g, 0, none⟩) n c (rE ls x i) := HE.out.below hb1 (Nat.le_refl _)
          have hbk : w2.heap[g]? = wm.heap[g]? := hg1.block g (Nat.lt_of_lt_of_le HGW.out hb1.size) (fun e => hEm.2.2.2.2.1 i g hlt (by rw [← HEI.out]; unfold sv; rw [ownB]; exact e.symm) rfl)
          have hRP := hEm.replE (k := i) hlt hb1.size (A2 := A2) (n2 := n' + 1) (c2 := c2) (ys := xs ++ [X]) (w2 := w2) (by rw [← HEI.out]; exact hg1) ho2 (by rw [← HEI.out]; exact hat)
          refine ⟨?_, ?_, ?_, ?_⟩
          · rw [World.cell?_of_block (a := ⟨g, i, none⟩) hbk]
            have := hEm.cellAt hlt
            rw [← HEI.out] at this; exact this
          · rw [World.frozen?_of_block (a := ⟨g, i, none⟩) hbk]
            exact hEm.2.1.frozenAt i
          · exact ⟨_, hRP.1.wide hRP.2.size, HKP.out.trans (KpL.repl hlt HEI.out hb1 hg1 hRP.2 hat)⟩
          · have hb2 : Below lo w w2 := (HB.out.trans (hb1.mono HLW.out)).grown hg1 (Nat.le_trans HLW.out hb1.size) (fun q hq => (hown.row_lt' hq).1)
            exact hb2.grown hRP.2 (by have := hg1.size; have := hb1.size; have := HLW.out; omega) (by rintro q ⟨⟩; exact (HE.out.row_lt' rfl).1))
        clear hcE hOE hEi hxs hown hXin hgt hge hlen
        go_upto_region 5 with (go_at_call 78; refine HC.out.mono ?_; rintro e w2 ⟨A2, c2, wm, rfl, ho2, hb2, hg2, hat2⟩; have HF2 := Lib.hid (HF.out wm w2 A2 c2 hb2 hg2 ho2 hat2); clear ho2 hb2 hg2 hat2)
        obtain ⟨hc2, hf2, _, _⟩ := HF2.out
        clear hcell
        go_wp2
        go_ret2
        obtain ⟨_, _, ⟨E', hE', hK'⟩, hBB⟩ := HF2.out
        exact ⟨_, n, c, i, (rE ls x i).set i (xs ++ [X]), E', rfl, HGT.out, hE', hBB, hK'⟩
    · obtain rfl : i = n := by omega
      have HLT : Hid (Own (wo.alloc (.cells #[.int .i64 X] 3)) wo.heap.size (wo.alloc (.cells #[.int .i64 X] 3)).heap.size (some ⟨wo.heap.size, 0, none⟩) 1 1 [X]) := Lib.hid ⟨World.ownsRow_lit wo #[.int .i64 X] 1 (Nat.le_refl _) (by unfold maxLen; omega) rfl, fun k hk => by simp [Value.ownBlock] at hk; simp; omega⟩
      have hba : Below wo.heap.size wo (wo.alloc (.cells #[.int .i64 X] 3)) := Below.alloc_self _ _
      have HBA := Lib.hid hba
      clear hba
      go_wp2_with (at_builtin; refine wpList_appendLE rfl (.tmp 38) (.tmp 41) rfl lo wo.heap.size _ i c (rE ls x i) wo.heap.size (wo.alloc (.cells #[.int .i64 X] 3)).heap.size (some ⟨wo.heap.size, 0, none⟩) 1 1 [X] rfl (by show Act.eval _ _ = _; simp [Act.eval]) (HE.out.below HBA.out (Nat.le_refl _)) HLT.out HLW.out (HE.out.apart_hi HLT.out (Nat.le_refl _)) (Nat.le_refl _) HBA.out.size (Nat.le_trans HLW.out HBA.out.size) (by omega) ?_
                   intro A4 c4 w4 ho4 hat4 hg4 hb4
                   have HO4 := Lib.hid ho4
                   have HB4 : Hid (Below lo w w4) := Lib.hid ((HB.out.trans (HBA.out.mono HLW.out)).trans hb4)
                   have HK4 := Lib.hid (HKP.out.trans (KpL.snoc (E := E) (n := i) (nb := 1) (cb := 1) HBA.out hg4 (B := some ⟨wo.heap.size, 0, none⟩) (by intro q e; rw [rowB_some] at e; injection e with e; omega) hat4))
                   clear ho4 hat4 hg4 hb4)
      go_ret2
      refine ⟨A4, i + 1, c4, i, rE ls x i ++ [[X]], _, rfl, .inr ⟨HL.out.symm, HGO.out, ?_⟩, HO4.out, HB4.out, HK4.out⟩
      rw [← HX.out]
set_option maxHeartbeats 1000000 in
/-- Into no rows at all. -/
theorem insRuleNilE_any (x : Int) (w : World) :
    Calls Try.prog 167 #[.slice none 0 0, .int .i64 x, .func (.func 78) #[] #[]] w fun e w' => ∃ A' c' E', e = .returned (.tuple #[.slice A' 1 c', .int .i64 0]) ∧ InsEs [] x [[x]] 0 ∧ OwnLE E' w' w.heap.size w'.heap.size A' 1 c' [[x]] ∧ Below w.heap.size w w' ∧ KpL (fun _ => (none, 0, 0)) none 0 w E' A' 1 w' := by
  have HLT : Hid (Own (w.alloc (.cells #[.int .i64 x] 3)) w.heap.size (w.alloc (.cells #[.int .i64 x] 3)).heap.size (some ⟨w.heap.size, 0, none⟩) 1 1 [x]) := Lib.hid ⟨World.ownsRow_lit w #[.int .i64 x] 1 (Nat.le_refl _) (by unfold maxLen; omega) rfl, fun k hk => by simp [Value.ownBlock] at hk; simp; omega⟩
  have HBA : Hid (Below w.heap.size w (w.alloc (.cells #[.int .i64 x] 3))) := Lib.hid (Below.alloc_self _ _)
  have HE0 : Hid (OwnLE (fun _ => (none, 0, 0)) w w.heap.size w.heap.size none 0 0 []) := Lib.hid (OwnLE.nil _ _ _ _)
  go_enter Try.func167, Try.ntmps167
  go_wp2_with fail
  refine wp_loop_rounds 1 ?_
  rw [rounds_succ]
  go_wp2_with (at_builtin; refine wpList_appendLE rfl (.tmp 38) (.tmp 41) rfl w.heap.size w.heap.size none 0 0 [] w.heap.size (w.alloc (.cells #[.int .i64 x] 3)).heap.size (some ⟨w.heap.size, 0, none⟩) 1 1 [x] rfl (by show Act.eval _ _ = _; simp [Act.eval]) (HE0.out.below HBA.out (Nat.le_refl _)) HLT.out (Nat.le_refl _) (HE0.out.apart_hi HLT.out (Nat.le_refl _)) (Nat.le_refl _) HBA.out.size HBA.out.size (by omega) ?_
               intro A4 c4 w4 ho4 hat4 hg4 hb4
               have HO4 := Lib.hid ho4
               have HB4 : Hid (Below w.heap.size w w4) := Lib.hid (HBA.out.trans hb4)
               have HK4 := Lib.hid (KpL.snoc (E := fun _ => (none, 0, 0)) (n := 0) (nb := 1) (cb := 1) HBA.out hg4 (B := some ⟨w.heap.size, 0, none⟩) (by intro q e; rw [rowB_some] at e; injection e with e; omega) hat4)
               clear ho4 hat4 hg4 hb4)
  go_ret2
  exact ⟨A4, c4, _, rfl, .inr ⟨rfl, fun j hj => absurd hj (by omega), rfl⟩, HO4.out, HB4.out, HK4.out⟩
/-- insertByRule at any tableau, none too. -/
theorem insRuleXE_any (E : Nat → Sv) (A : Option Addr) (n c : Nat) (ls : List (List Int)) (x : Int) (lo : Nat) (w : World) (ho : OwnLE E w lo w.heap.size A n c ls) (h0 : n = 0 → A = none ∧ c = 0) (hlo : lo ≤ w.heap.size) (hn : n ≤ 1099511627776) (hne : ∀ k, k < n → (li ls k).length ≤ 1099511627776) (hin : ∀ i, inE (xE ls x i)) :
    Calls Try.prog 167 #[.slice A n c, .int .i64 x, .func (.func 78) #[] #[]] w fun e w' => ∃ A' n' c' row out E', e = .returned (.tuple #[.slice A' n' c', .int .i64 ((row : Nat) : Int)]) ∧ InsEs ls x out row ∧ OwnLE E' w' lo w'.heap.size A' n' c' out ∧ Below lo w w' ∧ KpL E A n w E' A' n' w' := by
  by_cases hz : n = 0
  · obtain ⟨rfl, rfl⟩ := h0 hz
    subst hz
    obtain rfl : ls = [] := List.eq_nil_of_length_eq_zero ho.1
    refine (insRuleNilE_any x w).mono ?_
    rintro e w' ⟨A', c', E', rfl, hi, hE, hb, hk⟩
    exact ⟨A', 1, c', 0, [[x]], E', rfl, hi, hE.wide2 hlo (Nat.le_refl _), hb.mono hlo, hk.any0⟩
  · obtain ⟨g, rfl, _⟩ := ho.place (by omega)
    exact insRuleKE_any E g n c ls x lo w ho hlo hn hne hin
end Go.Proofs.Ytjpoliibljjhnaa

/-
  The program's insertWord with the rule of reduced words. Conditions: at most 60 numbers from 0 to 100.
-/

namespace Go.Proofs.Ytjpoliibljjhnaa
open Go.RowKit

set_option maxHeartbeats 2000000 in
theorem insertWordE_any (A : Option Addr) (n c : Nat) (xs : List Int) (w : World) (hs : SI w A n xs) (hn : n ≤ 60) (hen : ∀ k, inE (nth xs k)) :
    Calls Try.prog 77 #[.slice A n c, .func (.func 78) #[] #[]] w fun e w' => ∃ A1 n1 c1 E1 A2 c2 E2, e = .returned (.tuple #[.slice A1 n1 c1, .slice A2 n1 c2]) ∧ OwnLE E1 w' w.heap.size w'.heap.size A1 n1 c1 (egP xs n) ∧ OwnLE E2 w' w.heap.size w'.heap.size A2 n1 c2 (egQ xs n) ∧ Disj E1 A1 n1 E2 A2 n1 ∧ EgK xs n ∧ Below w.heap.size w w' := by
  have HN16 := Lib.hid hn
  have HEN := Lib.hid hen
  have HS := Lib.hid hs
  clear hs hn hen
  go_enter Try.func77, Try.ntmps77
  go_wp2_with fail
  go_loopw [6, 7, 13] (fun pv qv iv wr => ∃ (k : Nat) (A1 : Option Addr) (n1 c1 : Nat) (E1 : Nat → Sv) (A2 : Option Addr) (c2 : Nat) (E2 : Nat → Sv), k ≤ n ∧ iv = .int .i64 k ∧ pv = .slice A1 n1 c1 ∧ qv = .slice A2 n1 c2 ∧ n1 ≤ k ∧ (n1 = 0 → A1 = none ∧ c1 = 0) ∧ OwnLE E1 wr w.heap.size wr.heap.size A1 n1 c1 (egP xs k) ∧ OwnLE E2 wr w.heap.size wr.heap.size A2 n1 c2 (egQ xs k) ∧ Disj E1 A1 n1 E2 A2 n1 ∧ EgK xs k ∧ Below w.heap.size w wr)
    (fun _ _ iv _ => n - (intOf iv).toNat)
  case atStart => exact ⟨0, none, 0, 0, fun _ => (none, 0, 0), none, 0, fun _ => (none, 0, 0), Nat.zero_le _, rfl, rfl, rfl, Nat.le_refl _, fun _ => ⟨rfl, rfl⟩, OwnLE.nil _ _ _ _, OwnLE.nil _ _ _ _, fun k => .inl ⟨(fun h => by cases h), fun j hj => absurd hj (by omega)⟩, EgK.zero xs, Below.refl _ _⟩
  case round =>
    obtain ⟨k, A1, n1, c1, E1, A2, c2, E2, hk, rfl, rfl, rfl, hn1, h0, he1, he2, hdj, hkk, hb⟩ := hrel
    have HE1 := Lib.hid he1
    have HE2 := Lib.hid he2
    have HDJ := Lib.hid hdj
    have HK := Lib.hid hkk
    have HB := Lib.hid hb
    have H0 := Lib.hid h0
    clear he1 he2 hdj hkk hb h0
    by_cases hlt : k < n
    · have hlI : (k : Int) < (n : Int) := by omega
      have HLTK := Lib.hid hlt
      have hn16 := HN16.out
      obtain ⟨b, o, rfl, hb0, hc0⟩ := (HS.out.below HB.out (Nat.le_refl _)).at_ (by omega)
      have hc1 := hc0 k hlt
      obtain ⟨x, hx⟩ : ∃ x, x = nth xs k := ⟨_, rfl⟩
      rw [← hx] at hc1
      have HX := Lib.hid hx
      have HR := Lib.hid (insRuleXE_any E1 A1 n1 c1 (egP xs k) x w.heap.size wr HE1.out H0.out HB.out.size (by have := HN16.out; omega) (fun j _ => Nat.le_trans (HK.out.row j) (by have := HN16.out; omega)) (xE_in HK.out.ent (by rw [HX.out]; exact HEN.out k)))
      clear hb0 hc0 hx
      go_upto_region 7 with (first
        | (go_at_call 167; (with_reducible refine HR.out.mono ?_); rintro e w3 ⟨A3, n3, c3, row, out, E3, rfl, hi3, ho3, hb3, hk3⟩
           have HI3 : Hid (InsEs (egP xs k) (nth xs k) out row) := Lib.hid (by rw [← HX.out]; exact hi3)
           have HO3 := Lib.hid ho3
           have HB3 : Hid (Below w.heap.size w w3) := Lib.hid (HB.out.trans hb3)
           have HT3 : Hid (OwnLE E2 w3 w.heap.size w3.heap.size A2 n1 c2 (egQ xs k)) := Lib.hid ((HE2.out.keepL (Nat.le_refl _) HDJ.out hk3).wide hk3.size)
           have HD3 : Hid (Disj E2 A2 n1 E3 A3 n3) := Lib.hid (HDJ.out.next HE2.out (Nat.le_refl _) hk3).symm
           clear hi3 ho3 hb3 hk3))
      clear hc1
      have HNX := Lib.hid (HK.out.next (HEN.out k) HI3.out)
      have HST := Lib.hid (eg_step HI3.out)
      have hl1 := HE1.out.1
      have hl3 := HO3.out.1
      obtain ⟨hr1, hr2⟩ := insEs_len HI3.out
      have HL2 : Hid ((egQ xs k).length = n1 ∧ ∀ j, (li (egQ xs k) j).length ≤ 60) := Lib.hid ⟨HE2.out.1, fun j => Nat.le_trans (HK.out.row2 j) (by have := HN16.out; omega)⟩
      by_cases hrow : row = n1
      · obtain rfl : row = n1 := hrow
        obtain rfl : n3 = row + 1 := by rw [← hl3, hr2, hl1, if_pos rfl]
        have hki : ((row : Int) == (row : Int)) = true := by simp
        have HQE : Hid (grownL (egQ xs k) row (k : Int) = (egQ xs k ++ [[]]).set row (li (egQ xs k ++ [[]]) row ++ [(k : Int)])) := Lib.hid (by
          have h := HL2.out.1
          unfold grownL
          rw [if_pos h.symm, ← h, li_app_at]
          simp)
        have HL4 : Hid ((li (egQ xs k ++ [[]]) row).length ≤ 60) := Lib.hid (by rw [← HL2.out.1, li_app_at]; simp)
        clear hl1 hl3 hr1 hr2
        go_upto_region 9 with (first
          | (at_builtin; refine wpList_appendLE rfl (.tmp 29) (.tmp 30) rfl w.heap.size w3.heap.size A2 row c2 (egQ xs k) w3.heap.size w3.heap.size none 0 0 [] rfl rfl HT3.out (Own.nil _ _ _) HB3.out.size (fun b hb => by simp [Value.ownBlock] at hb) (Nat.le_refl _) (Nat.le_refl _) HB3.out.size (by have := HN16.out; omega) ?_
             intro A4 c4 w4 ho4 hat4 hg4 hb4
             have HT4 := Lib.hid ho4
             have HB4 : Hid (Below w.heap.size w w4) := Lib.hid (HB3.out.trans hb4)
             have hk4 := KpL.snoc (E := E2) (n := row) (B := none) (nb := 0) (cb := 0) (Below.refl w3.heap.size w3) hg4 (fun q h => by cases h) hat4
             have HG4 : Hid (OwnLE E3 w4 w.heap.size w4.heap.size A3 (row + 1) c3 out) := Lib.hid ((HO3.out.keepL (Nat.le_refl _) HD3.out hk4).wide hk4.size)
             have HD4 : Hid (Disj (snE E2 row (none, 0, 0)) A4 (row + 1) E3 A3 (row + 1)) := Lib.hid (HD3.out.next HO3.out (Nat.le_refl _) hk4)
             clear ho4 hat4 hg4 hb4 hk4))
        obtain ⟨E4, hE4⟩ : ∃ E4, E4 = snE E2 row (none, 0, 0) := ⟨_, rfl⟩
        rw [← hE4] at HT4 HD4
        have HLT : Hid (row < row + 1) := Lib.hid (by omega)
        have HB4L : Hid ((li (egQ xs k ++ [[]]) row).length ≤ 60) := HL4
        clear hE4
        obtain ⟨g, rfl, _⟩ := HT4.out.place (show 0 < row + 1 by omega)
        have hcE := HT4.out.cellAt HLT.out
        have hOE := HT4.out.2.2.2.1 row HLT.out
        obtain ⟨⟨A', n', c'⟩, hEi⟩ : ∃ a, a = E4 row := ⟨_, rfl⟩
        rw [← hEi] at hcE hOE
        have hcell : w4.cell? ⟨g, row, none⟩ = some (.slice A' n' c') := hcE
        have HCE := Lib.hid hcell
        have HOr : Hid (Own w4 w.heap.size w4.heap.size A' n' c' (li (egQ xs k ++ [[]]) row)) := Lib.hid hOE
        have HEI := Lib.hid hEi
        have hn' : n' ≤ 1099511627775 := by have := HB4L.out; have := HOr.out.len; omega
        have HGR : Hid (g < w4.heap.size) := Lib.hid (HT4.out.2.2.1 g rfl)
        have HLO5 : Hid (w.heap.size ≤ w4.heap.size) := Lib.hid HB4.out.size
        have hrI : (row : Int) < ((row + 1 : Nat) : Int) := by have := HLT.out; omega
        clear hcE hOE hEi
        go_wp2_with (first
          | (at_builtin; refine wpList_append_keep rfl (.tmp 37) (.tmp 39) rfl w.heap.size w4.heap.size A' n' c' (li (egQ xs k ++ [[]]) row) (k : Int) rfl rfl HOr.out HLO5.out (by omega) ?_
             intro B' d' w6 ho6 hg6 hat6
             have hat6' : rowB B' = rowB A' ∨ ∃ q, rowB B' = some q ∧ w4.heap.size ≤ q := by
               rcases hat6 with ⟨h, _⟩ | ⟨q, h, hq, _⟩
               · left; rw [h]
               · right; exact ⟨q, by rw [h]; rfl, hq⟩
             have hRP := HT4.out.replE (k := row) HLT.out (Nat.le_refl _) (A2 := B') (n2 := n' + 1) (c2 := d') (ys := li (egQ xs k ++ [[]]) row ++ [(k : Int)]) (w2 := w6) (by rw [← HEI.out]; exact hg6) ho6 (by rw [← HEI.out]; exact hat6')
             have HRP := Lib.hid hRP
             have HKP := Lib.hid (KpL.repl (c2 := d') (n2 := n' + 1) HLT.out HEI.out (Below.refl w4.heap.size w4) hg6 hRP.2 hat6')
             have HB6 : Hid (Below w.heap.size w w6) := Lib.hid (HB4.out.grown hg6 HLO5.out (fun q hq => (HOr.out.row_lt' hq).1))
             have HS6 : Hid (w4.heap.size ≤ w6.heap.size) := Lib.hid hg6.size
             have hbk : w6.heap[g]? = w4.heap[g]? := hg6.block g HGR.out (fun e => HT4.out.2.2.2.2.1 row g HLT.out (by rw [← HEI.out]; unfold sv; rw [ownB]; exact e.symm) rfl)
             have hc2 : w6.cell? ⟨g, row, none⟩ = some (.slice A' n' c') := by rw [World.cell?_of_block (a := ⟨g, row, none⟩) hbk]; exact HCE.out
             have hf2 : w6.frozen? ⟨g, row, none⟩ = false := by rw [World.frozen?_of_block (a := ⟨g, row, none⟩) hbk]; exact HT4.out.2.1.frozenAt row
             clear ho6 hg6 hat6 hat6' hRP hbk))
        go_roundw
        case rel => exact ⟨k + 1, A3, row + 1, c3, E3, some ⟨g, 0, none⟩, c4, snE E4 row (B', n' + 1, d'), by omega, by go_num, rfl, rfl, by have h1 := HNX.out.few; rw [HST.out.1, HO3.out.1] at h1; exact h1, fun h => absurd h (by omega),
          by rw [HST.out.1]; exact (HG4.out.keepL (Nat.le_refl _) HD4.out HKP.out).wide HKP.out.size, by rw [HST.out.2, HQE.out]; exact HRP.out.1.wide HRP.out.2.size, (HD4.out.next HG4.out (Nat.le_refl _) HKP.out).symm, HNX.out,
          HB6.out.grown HRP.out.2 (by have := HS6.out; have := HLO5.out; omega) (by rintro q ⟨⟩; exact (HT4.out.row_lt' rfl).1)⟩
        case measure => have hlt' := HLTK.out; simp [intOf]; omega
      · obtain rfl : n3 = n1 := by rw [← hl3, hr2, hl1, if_neg hrow]
        have hrI0 : ¬ (row : Int) = (n3 : Int) := by omega
        have hki : ((row : Int) == (n3 : Int)) = false := by simp; omega
        have HLT : Hid (row < n3) := Lib.hid (by omega)
        have hn3 : 0 < n3 := by omega
        have HQE : Hid (grownL (egQ xs k) row (k : Int) = (egQ xs k).set row (li (egQ xs k) row ++ [(k : Int)])) := Lib.hid (by
          unfold grownL
          rw [if_neg (by rw [HL2.out.1]; exact hrow)])
        have HB3L : Hid ((li (egQ xs k) row).length ≤ 60) := Lib.hid (HL2.out.2 row)
        clear hl1 hl3 hr1 hr2 hrow
        go_upto_region 9 with fail
        obtain ⟨g, rfl, _⟩ := HT3.out.place (show 0 < n3 by omega)
        have hcE := HT3.out.cellAt HLT.out
        have hOE := HT3.out.2.2.2.1 row HLT.out
        obtain ⟨⟨A', n', c'⟩, hEi⟩ : ∃ a, a = E2 row := ⟨_, rfl⟩
        rw [← hEi] at hcE hOE
        have hcell : w3.cell? ⟨g, row, none⟩ = some (.slice A' n' c') := hcE
        have HCE := Lib.hid hcell
        have HOr : Hid (Own w3 w.heap.size w3.heap.size A' n' c' (li (egQ xs k) row)) := Lib.hid hOE
        have HEI := Lib.hid hEi
        have hn' : n' ≤ 1099511627775 := by have := HB3L.out; have := HOr.out.len; omega
        have HGR : Hid (g < w3.heap.size) := Lib.hid (HT3.out.2.2.1 g rfl)
        have HLO5 : Hid (w.heap.size ≤ w3.heap.size) := Lib.hid HB3.out.size
        have hrI : (row : Int) < ((n3 : Nat) : Int) := by have := HLT.out; omega
        clear hcE hOE hEi
        go_wp2_with (first
          | (at_builtin; refine wpList_append_keep rfl (.tmp 37) (.tmp 39) rfl w.heap.size w3.heap.size A' n' c' (li (egQ xs k) row) (k : Int) rfl rfl HOr.out HLO5.out (by omega) ?_
             intro B' d' w6 ho6 hg6 hat6
             have hat6' : rowB B' = rowB A' ∨ ∃ q, rowB B' = some q ∧ w3.heap.size ≤ q := by
               rcases hat6 with ⟨h, _⟩ | ⟨q, h, hq, _⟩
               · left; rw [h]
               · right; exact ⟨q, by rw [h]; rfl, hq⟩
             have hRP := HT3.out.replE (k := row) HLT.out (Nat.le_refl _) (A2 := B') (n2 := n' + 1) (c2 := d') (ys := li (egQ xs k) row ++ [(k : Int)]) (w2 := w6) (by rw [← HEI.out]; exact hg6) ho6 (by rw [← HEI.out]; exact hat6')
             have HRP := Lib.hid hRP
             have HKP := Lib.hid (KpL.repl (c2 := d') (n2 := n' + 1) HLT.out HEI.out (Below.refl w3.heap.size w3) hg6 hRP.2 hat6')
             have HB6 : Hid (Below w.heap.size w w6) := Lib.hid (HB3.out.grown hg6 HLO5.out (fun q hq => (HOr.out.row_lt' hq).1))
             have HS6 : Hid (w3.heap.size ≤ w6.heap.size) := Lib.hid hg6.size
             have hbk : w6.heap[g]? = w3.heap[g]? := hg6.block g HGR.out (fun e => HT3.out.2.2.2.2.1 row g HLT.out (by rw [← HEI.out]; unfold sv; rw [ownB]; exact e.symm) rfl)
             have hc2 : w6.cell? ⟨g, row, none⟩ = some (.slice A' n' c') := by rw [World.cell?_of_block (a := ⟨g, row, none⟩) hbk]; exact HCE.out
             have hf2 : w6.frozen? ⟨g, row, none⟩ = false := by rw [World.frozen?_of_block (a := ⟨g, row, none⟩) hbk]; exact HT3.out.2.1.frozenAt row
             clear ho6 hg6 hat6 hat6' hRP hbk))
        go_roundw
        case rel => exact ⟨k + 1, A3, n3, c3, E3, some ⟨g, 0, none⟩, c2, snE E2 row (B', n' + 1, d'), by omega, by go_num, rfl, rfl, by have h1 := HNX.out.few; rw [HST.out.1, HO3.out.1] at h1; exact h1, fun h => absurd h (by omega),
          by rw [HST.out.1]; exact (HO3.out.keepL (Nat.le_refl _) HD3.out HKP.out).wide HKP.out.size, by rw [HST.out.2, HQE.out]; exact HRP.out.1.wide HRP.out.2.size, (HD3.out.next HO3.out (Nat.le_refl _) HKP.out).symm, HNX.out,
          HB6.out.grown HRP.out.2 (by have := HS6.out; have := HLO5.out; omega) (by rintro q ⟨⟩; exact (HT3.out.row_lt' rfl).1)⟩
        case measure => have hlt' := HLTK.out; simp [intOf]; omega
    · have hlI : ¬ (k : Int) < (n : Int) := by omega
      obtain rfl : k = n := by omega
      go_wp2
      go_ret2
      exact ⟨A1, n1, c1, E1, A2, c2, rfl, HE1.out, E2, HE2.out, HDJ.out, HK.out, HB.out⟩
end Go.Proofs.Ytjpoliibljjhnaa

/-
  Contracts of the program's ComposePerms and InversePerm. Conditions: lengths below 2^40.
-/

namespace Go.Proofs.Ytjpoliibljjhnaa
open Go.RowKit

/-- arrayOf, whatever the list: an array, and whether it is a permutation's. -/
theorem arrayOf_x {A : Option Addr} {n : Nat} (c : Nat) {xs : List Int} {w : World} {b : Bool} (hb : isPermB xs = b) (hs : SI w A n xs) (hn : n ≤ 1099511627776) :
    Calls Try.prog 97 #[.slice A n c] w fun e w' => ∃ l, e = .returned (.tuple #[arr l, .bool b]) ∧ (b = true → l = fillA xs n) ∧ Below w.heap.size w w' := by
  subst hb
  refine (arrayOf_any A n c xs w hs hn).mono fun e w' ⟨he, hbl⟩ => ?_
  rcases he with ⟨h, he⟩ | ⟨h, he⟩
  · exact ⟨_, by rw [h]; exact he, fun _ => rfl, hbl⟩
  · exact ⟨[0, 0, 0, 0, 0, 0, 0], by rw [h]; exact he, (fun h' => by rw [h] at h'; cases h'), hbl⟩

end Go.Proofs.Ytjpoliibljjhnaa

/-
  Contracts of the program's lengths, codes and descents. Conditions: lengths below 2^40.
-/


namespace Go.Proofs.Ytjpoliibljjhnaa
open Go.RowKit

set_option maxHeartbeats 1000000 in
theorem inversionsAt_any (l : List Int) (i : Nat) (w : World) (hi : i < 7) :
    Calls Try.prog 225 #[arr l, .int .i64 i] w fun e w' => e = .returned (.int .i64 (codeCnt l i 7 : Int)) ∧ Below w.heap.size w w' := by
  have hb := Blk.new w 107 (arrC l)
  have HBk := Lib.hid hb
  have hci : (w.alloc (.cells (arrC l) 107)).cell? ⟨w.heap.size, i, none⟩ = some (.int .i64 (nth l i)) := (hb.cell _).trans (arrC_get l i hi)
  obtain ⟨y, hy⟩ : ∃ y, y = nth l i := ⟨_, rfl⟩
  rw [← hy] at hci
  have HY := Lib.hid hy
  clear hy hb
  by_cases h6 : i < 6
  · have hsl : ∀ wx, (Instr.sliceAt 107 (.pointer (some ⟨w.heap.size, 0, none⟩)) (some (.int .i64 ((i : Int) + 1))) none none).run Try.prog wx = .ok (.slice (some ⟨w.heap.size, i + 1, none⟩) (6 - i) (6 - i)) wx := fun wx => by
      have := sliceArr_from ⟨w.heap.size, 0, none⟩ (i + 1) (by omega) wx
      rw [if_neg (by omega), add_pt, Nat.zero_add, show 7 - (i + 1) = 6 - i from by omega] at this
      exact this
    go_enter Try.func225, Try.ntmps225
    go_wp2
    go_loop [5, 12] (fun v m => ∃ k : Nat, k ≤ 6 - i ∧ m = .int .i64 k ∧ v = .int .i64 (codeCnt l i (i + 1 + k) : Int))
      (fun _ m => 6 - (intOf m).toNat)
    case atStart => exact ⟨0, Nat.zero_le _, rfl, by rw [codeCnt_low l i (i + 1 + 0) (by omega)]; rfl⟩
    case round =>
      obtain ⟨k, hk, rfl, rfl⟩ := hrel
      by_cases hlt : k < 6 - i
      · have hck : (w.alloc (.cells (arrC l) 107)).cell? ⟨w.heap.size, i + 1 + k, none⟩ = some (.int .i64 (nth l (i + 1 + k))) := (HBk.out.cell _).trans (arrC_get l _ (by omega))
        obtain ⟨x, hx⟩ : ∃ x, x = nth l (i + 1 + k) := ⟨_, rfl⟩
        rw [← hx] at hck
        have HX := Lib.hid hx
        clear hx
        have hcl : (codeCnt l i (i + 1 + k) : Int) ≤ 100 := by have := codeCnt_le l i (i + 1 + k); omega
        obtain ⟨q, hq⟩ : ∃ q, q = codeCnt l i (i + 1 + k) := ⟨_, rfl⟩
        rw [← hq] at hcl ⊢
        have HQ := Lib.hid hq
        clear hq
        by_cases hxy : x < y
        · go_wp2
          go_round
          case rel =>
            have e1 := HX.out
            have e2 := HY.out
            have e3 := HQ.out
            refine ⟨k + 1, by omega, by go_num, ?_⟩
            rw [show i + 1 + (k + 1) = (i + 1 + k) + 1 from by omega, codeCnt_hit (by omega) (by omega), ← e3]
            go_num
          case measure => simp [intOf]; omega
        · go_wp2
          go_round
          case rel =>
            have e1 := HX.out
            have e2 := HY.out
            have e3 := HQ.out
            refine ⟨k + 1, by omega, by go_num, ?_⟩
            rw [show i + 1 + (k + 1) = (i + 1 + k) + 1 from by omega, codeCnt_miss (by omega), ← e3]
          case measure => simp [intOf]; omega
      · have hkn : k = 6 - i := by omega
        subst hkn
        go_wp2
        go_ret
        exact ⟨ret_int (by rw [show i + 1 + (6 - i) = 7 from by omega]), Below.alloc_self _ _⟩
  · have h6 : i = 6 := by omega
    subst h6
    have hsl : ∀ wx, (Instr.sliceAt 107 (.pointer (some ⟨w.heap.size, 0, none⟩)) (some (.int .i64 7)) none none).run Try.prog wx = .ok (.slice (some ⟨w.heap.size, 0, none⟩) 0 0) wx := fun wx =>
      sliceArr_from ⟨w.heap.size, 0, none⟩ 7 (by omega) wx
    go_enter Try.func225, Try.ntmps225
    go_wp2
    refine wp_loop_rounds 1 ?_
    rw [rounds_succ]
    go_wp2
    go_ret
    exact ⟨ret_int (by rw [codeCnt_low l 6 7 (by omega)]; rfl), Below.alloc_self _ _⟩

/-- The inversions of the first k places of an array. -/
def invSum (l : List Int) : Nat → Int
  | 0 => 0
  | k + 1 => invSum l k + (codeCnt l k 7 : Int)
theorem invSum_bounds (l : List Int) (k : Nat) : 0 ≤ invSum l k ∧ invSum l k ≤ 7 * (k : Int) := by
  induction k with
  | zero => exact ⟨Int.le_refl _, by simp [invSum]⟩
  | succ k ih =>
    have e : invSum l (k + 1) = invSum l k + (codeCnt l k 7 : Int) := rfl
    have := codeCnt_le l k 7
    omega
theorem codeCnt_congr {xs ys : List Int} {i : Nat} (hi : nth xs i = nth ys i) : ∀ j, (∀ t, t < j → nth xs t = nth ys t) → codeCnt xs i j = codeCnt ys i j := by
  intro j
  induction j with
  | zero => intro _; rfl
  | succ j ih =>
    intro h
    unfold codeCnt
    rw [ih (fun t ht => h t (by omega)), hi, h j (by omega)]
theorem codeCnt_fill {xs : List Int} (h : isPermP xs) (i : Nat) (hi : i < xs.length) : codeCnt (fillA xs xs.length) i 7 = codeCnt xs i xs.length := by
  have h7 := h.2.1
  have key : ∀ d, xs.length + d ≤ 7 → codeCnt (fillA xs xs.length) i (xs.length + d) = codeCnt xs i xs.length := by
    intro d
    induction d with
    | zero => intro _; exact codeCnt_congr (fillA_lt hi (by omega)) _ (fun t ht => fillA_lt ht (by omega))
    | succ d ih =>
      intro hd
      rw [show xs.length + (d + 1) = (xs.length + d) + 1 from by omega, codeCnt_miss, ih (by omega)]
      rw [fillA_ge (by omega) (by omega), fillA_lt hi (by omega)]
      have := h.range i hi
      omega
  have := key (7 - xs.length) (by omega)
  rwa [show xs.length + (7 - xs.length) = 7 from by omega] at this
theorem codeCnt_fill_ge {xs : List Int} (i : Nat) (hi : ¬ i < xs.length) (h7 : i < 7) : codeCnt (fillA xs xs.length) i 7 = 0 := by
  have key : ∀ d, i + 1 + d ≤ 7 → codeCnt (fillA xs xs.length) i (i + 1 + d) = 0 := by
    intro d
    induction d with
    | zero => intro _; exact codeCnt_low _ _ _ (by omega)
    | succ d ih =>
      intro hd
      rw [show i + 1 + (d + 1) = (i + 1 + d) + 1 from by omega, codeCnt_miss, ih (by omega)]
      rw [fillA_ge (by omega) (by omega), fillA_ge hi (by omega)]
      omega
  have := key (6 - i) (by omega)
  rwa [show i + 1 + (6 - i) = 7 from by omega] at this
theorem invSum_fill {xs : List Int} (h : isPermP xs) : invSum (fillA xs xs.length) 7 = lenL xs := by
  have h7 := h.2.1
  have k1 : ∀ k, k ≤ xs.length → invSum (fillA xs xs.length) k = sumN (codeL xs xs.length xs.length) k := by
    intro k
    induction k with
    | zero => intro _; rfl
    | succ k ih =>
      intro hk
      show invSum _ k + (codeCnt _ k 7 : Int) = sumN _ k + nth _ k
      rw [ih (by omega), codeL_nth _ _ _ _ (by omega), if_pos (by omega), codeCnt_fill h k (by omega)]
  have k2 : ∀ d, xs.length + d ≤ 7 → invSum (fillA xs xs.length) (xs.length + d) = lenL xs := by
    intro d
    induction d with
    | zero => intro _; exact k1 _ (Nat.le_refl _)
    | succ d ih =>
      intro hd
      show invSum _ (xs.length + d) + (codeCnt _ (xs.length + d) 7 : Int) = _
      rw [ih (by omega), codeCnt_fill_ge _ (by omega) (by omega)]
      simp
  have := k2 (7 - xs.length) (by omega)
  rwa [show xs.length + (7 - xs.length) = 7 from by omega] at this

set_option maxHeartbeats 1000000 in
theorem length_any (l : List Int) (w : World) :
    Calls Try.prog 189 #[arr l] w fun e w' => e = .returned (.int .i64 (invSum l 7)) ∧ Below w.heap.size w w' := by
  go_enter Try.func189, Try.ntmps189
  go_wp2
  go_loopw [3, 5] (fun v i wr => ∃ k : Nat, k ≤ 7 ∧ i = .int .i64 k ∧ v = .int .i64 (invSum l k) ∧ Blk wr w.heap.size 107 (arrC l) ∧ Below w.heap.size w wr)
    (fun _ i _ => 7 - (intOf i).toNat)
  case atStart => exact ⟨0, by omega, rfl, rfl, Blk.new w _ _, Below.alloc_self _ _⟩
  case round =>
    obtain ⟨k, hk, rfl, rfl, hA, hB⟩ := hrel
    have HA := Lib.hid hA
    have HB := Lib.hid hB
    clear hA hB
    by_cases hlt : k < 7
    · have hq := invSum_bounds l k
      have hc := codeCnt_le l k 7
      have e : invSum l (k + 1) = invSum l k + (codeCnt l k 7 : Int) := rfl
      obtain ⟨q, hqe⟩ : ∃ q, q = invSum l k := ⟨_, rfl⟩
      rw [← hqe] at hq e ⊢
      obtain ⟨hq1, hq2⟩ := hq
      have HE := Lib.hid e
      clear e hqe
      go_wp2_with (first | (refine wpList_load_blk rfl 107 (.tmp 1) rfl w.heap.size rfl 107 (arrC l) 7 3 HA.out Try.undArr Try.infoArr ?_) | (go_at_call 225; refine (inversionsAt_any l k wr hlt).mono ?_; rintro e w1 ⟨rfl, hb1⟩))
      go_roundw
      case rel => exact ⟨k + 1, by omega, by go_num, by rw [HE.out], HA.out.below hb1 HA.out.lt, HB.out.trans (hb1.mono HB.out.size)⟩
      case measure => simp [intOf]; omega
    · have hkn : k = 7 := by omega
      subst hkn
      go_wp2
      go_ret
      exact ⟨rfl, HB.out⟩

set_option maxHeartbeats 1000000 in
theorem implLength_any (A : Option Addr) (n c : Nat) (xs : List Int) (w : World) (hs : SI w A n xs) (hn : n ≤ 1099511627776) :
    Calls Try.prog 166 #[.slice A n c] w fun e w' => e = .returned (.int .i64 (lenPerm xs)) ∧ Below w.heap.size w w' := by
  have hl := hs.1
  cases hu : isPermB xs with
  | false =>
    have HE := Lib.hid (lenPerm_no hu)
    have HU := Lib.hid hu
    clear hu
    go_enter Try.func166, Try.ntmps166
    go_wp2_with fail
    refine (arrayOf_x c HU.out hs hn).mono ?_
    rintro e w1 ⟨l, rfl, -, hb1⟩
    go_wp2
    go_ret
    exact ⟨ret_int HE.out.symm, hb1.alloc hb1.size _⟩
  | true =>
    have HE := Lib.hid (lenPerm_yes hu)
    have HU := Lib.hid hu
    clear hu
    go_enter Try.func166, Try.ntmps166
    go_wp2_with fail
    refine (arrayOf_x c HU.out hs hn).mono ?_
    rintro e w1 ⟨l, rfl, hlf, hb1⟩
    have HF := Lib.hid (hlf rfl)
    have HL := Lib.hid hl
    clear hlf hl
    have hK := Blk.new w1 107 (arrC l)
    go_wp2_with (refine wpList_load_blk rfl 107 (.tmp 3) rfl w1.heap.size rfl 107 (arrC l) 7 3 hK Try.undArr Try.infoArr ?_)
    have hb2 : Below w.heap.size w (w1.alloc (.cells (arrC l) 107)) := hb1.alloc hb1.size _
    generalize w1.alloc (.cells (arrC l) 107) = w2 at *
    refine (length_any l w2).mono ?_
    rintro e w3 ⟨rfl, hb3⟩
    have hp := isPermB_P HU.out
    have e2 := invSum_fill hp
    have e1 := HF.out
    rw [HL.out] at e2
    rw [e1, e2]
    have HB3 := Lib.hid (hb2.trans (hb3.mono hb2.size))
    clear e1 e2 hb3 hb2 hK hp
    go_wp2
    go_ret
    exact ⟨ret_int HE.out.symm, HB3.out⟩

theorem isDescent_fact {x y : Int} : (decide (y < x)) = decide (x > y) := rfl
set_option maxHeartbeats 1000000 in
theorem isDescent_any (l : List Int) (i : Nat) (w : World) (hi : i < 6) :
    Calls Try.prog 193 #[arr l, .int .i64 i] w fun e w' => e = .returned (.bool (decide (nth l (i + 1) < nth l i))) ∧ Below w.heap.size w w' := by
  have hb := Blk.new w 107 (arrC l)
  have hci : (w.alloc (.cells (arrC l) 107)).cell? ⟨w.heap.size, i, none⟩ = some (.int .i64 (nth l i)) := (hb.cell _).trans (arrC_get l i (by omega))
  have hci1 : (w.alloc (.cells (arrC l) 107)).cell? ⟨w.heap.size, i + 1, none⟩ = some (.int .i64 (nth l (i + 1))) := (hb.cell _).trans (arrC_get l (i + 1) (by omega))
  obtain ⟨y, hy⟩ : ∃ y, y = nth l i := ⟨_, rfl⟩
  obtain ⟨x, hx⟩ : ∃ x, x = nth l (i + 1) := ⟨_, rfl⟩
  rw [← hy] at hci ⊢
  rw [← hx] at hci1 ⊢
  clear hx hy hb
  have hw1 : IntKind.i64.wrap ((i : Int) + 1) = (i : Int) + 1 := IntWalk.i64_in _ (by omega)
  have hn1 : ((i : Int) + 1).toNat = i + 1 := by omega
  have h01 : (0 : Int) ≤ (i : Int) + 1 := by omega
  have h7 : (i : Int) < 7 := by omega
  have h71 : (i : Int) + 1 < 7 := by omega
  obtain ⟨b, hbq⟩ : ∃ b, b = decide (x < y) := ⟨_, rfl⟩
  go_enter Try.func193, Try.ntmps193
  go_wp2_with fail
  go_quiet (fail)
  clear hw1 hn1 h01
  go_wp2
  go_ret
  exact ⟨rfl, (Below.alloc_self _ _).drawnN _⟩
end Go.Proofs.Ytjpoliibljjhnaa

/-
  Contracts of words and of what comes of them: the program's side. Conditions: lengths below 2^40.
-/


namespace Go.Proofs.Ytjpoliibljjhnaa
open Go.RowKit

set_option maxHeartbeats 800000 in
theorem isWord_any (a : Int) (A : Option Addr) (n c : Nat) (ws : List Int) (w : World) (hs : SI w A n ws) (hn : n ≤ 1099511627776) :
    Calls Try.prog 200 #[.int .i64 a, .slice A n c] w fun e w' => e = .returned (.bool (wordB a ws)) ∧ w = w' := by
  have hl := hs.1
  have HL := Lib.hid hl
  by_cases ha : 1 ≤ a ∧ a ≤ 7
  · obtain ⟨ha1, ha2⟩ := ha
    by_cases h60 : 60 < n
    · go_enter Try.func200, Try.ntmps200
      go_wp2_with fail
      refine (isPermSize_yes (by omega) (by omega) _).mono ?_
      rintro e w2 ⟨rfl, rfl⟩
      go_wp2
      go_ret
      exact ⟨ret_bool (wordB_false (fun h => by have := h.2.2.1; have := HL.out; omega)).symm, rfl⟩
    · clear hl
      go_enter Try.func200, Try.ntmps200
      go_wp2_with fail
      refine (isPermSize_yes (by omega) (by omega) _).mono ?_
      rintro e w2 ⟨rfl, rfl⟩
      go_wp2
      go_loop [17] (fun i => ∃ k : Nat, k ≤ n ∧ i = .int .i64 k ∧ ∀ j, j < k → 0 ≤ nth ws j ∧ nth ws j ≤ a - 2)
        (fun i => n - (intOf i).toNat)
      case atStart => exact ⟨0, Nat.zero_le _, rfl, fun j hj => absurd hj (by omega)⟩
      case round =>
        obtain ⟨k, hk, rfl, hall⟩ := hrel
        have HA := Lib.hid hall
        clear hall
        by_cases hlt : k < n
        · obtain ⟨b, o, rfl, hb, hc⟩ := hs.at_ (by omega)
          have hc1 := hc k hlt
          obtain ⟨x, hx⟩ : ∃ x, x = nth ws k := ⟨_, rfl⟩
          rw [← hx] at hc1
          have HX := Lib.hid hx
          clear hx hc hs
          by_cases hx0 : x < 0
          · go_wp2
            go_ret
            refine ⟨ret_bool (wordB_false (fun h => ?_)).symm, rfl⟩
            have := h.2.2.2 k (by have := HL.out; omega)
            rw [← HX.out] at this
            omega
          · by_cases hx1 : a - 2 < x
            · go_wp2
              go_ret
              refine ⟨ret_bool (wordB_false (fun h => ?_)).symm, rfl⟩
              have := h.2.2.2 k (by have := HL.out; omega)
              rw [← HX.out] at this
              omega
            · go_wp2
              go_round
              case rel => exact ⟨k + 1, by omega, by go_num, fun j hj => by
                rcases Nat.lt_or_ge j k with h | h
                · exact HA.out j h
                · obtain rfl : j = k := by omega
                  have e1 := HX.out
                  exact ⟨by omega, by omega⟩⟩
              case measure => simp [intOf]; omega
        · have hkn : k = n := by omega
          subst hkn
          go_wp2
          go_ret
          exact ⟨ret_bool (wordB_true ⟨ha1, ha2, by have := HL.out; omega, by rw [HL.out]; exact HA.out⟩).symm, rfl⟩
  · go_enter Try.func200, Try.ntmps200
    go_wp2_with fail
    refine (isPermSize_no (by omega) _).mono ?_
    rintro e w2 ⟨rfl, rfl⟩
    go_wp2
    go_ret
    exact ⟨ret_bool (wordB_false (fun h => ha ⟨h.1, h.2.1⟩)).symm, rfl⟩

set_option maxHeartbeats 2000000 in
theorem exchanged_any (l : List Int) (i j : Nat) (w : World) (hi : i < 7) (hj : j < 7) (hij : i ≠ j) (hl : l.length = 7) :
    Calls Try.prog 99 #[arr l, .int .i64 i, .int .i64 j] w fun e w' => e = .returned (arr (swapL l i j)) ∧ Below w.heap.size w w' := by
  have HL := Lib.hid hl
  clear hl
  obtain ⟨w1, hw1⟩ : ∃ w1 : World, w1 = (w.alloc (.cells (arrC l) 107)).alloc (.cells zeroC 107) := ⟨_, rfl⟩
  have hA : Blk w1 w.heap.size 107 (arrC l) := by rw [hw1]; exact (Blk.new w _ _).alloc _
  have hZ : Blk w1 (w.heap.size + 1) 107 zeroC := by
    rw [hw1]
    have := Blk.new (w.alloc (.cells (arrC l) 107)) 107 zeroC
    simp only [World.size_alloc] at this
    exact this
  have hB : Below w.heap.size w w1 := by rw [hw1]; exact ((Below.alloc_self _ _).alloc (by simp) _)
  have HA := Lib.hid hA
  have HZ := Lib.hid hZ
  have HB := Lib.hid hB
  have HW := Lib.hid hw1
  clear hA hZ hB hw1
  have hci := (HA.out.cell i).trans (arrC_get l i hi)
  have hcj := (HA.out.cell j).trans (arrC_get l j hj)
  have hfi := HA.out.frozen i
  obtain ⟨x, hx⟩ : ∃ x, x = nth l i := ⟨_, rfl⟩
  obtain ⟨y, hy⟩ : ∃ y, y = nth l j := ⟨_, rfl⟩
  rw [← hx] at hci
  rw [← hy] at hcj
  have HX := Lib.hid hx
  have HY := Lib.hid hy
  clear hx hy
  have h1 := HA.out.set_ i (.int .i64 y)
  have hcj2 : (w1.setCell ⟨w.heap.size, i, none⟩ (.int .i64 y)).cell? ⟨w.heap.size, j, none⟩ = some (.int .i64 y) := (World.cell?_setCell_other w1 _ _ _ (by intro e; injection e with _ e2; exact hij e2)).trans hcj
  have hfj2 := h1.frozen j
  have h2 := h1.set_ j (.int .i64 x)
  have hz2 := (HZ.out.far (p := ⟨w.heap.size, i, none⟩) (by show w.heap.size + 1 ≠ w.heap.size; omega) (.int .i64 y)).far (p := ⟨w.heap.size, j, none⟩) (by show w.heap.size + 1 ≠ w.heap.size; omega) (.int .i64 x)
  have hb2 := (HB.out.setCell (p := ⟨w.heap.size, i, none⟩) (Nat.le_refl _) (.int .i64 y)).setCell (p := ⟨w.heap.size, j, none⟩) (Nat.le_refl _) (.int .i64 x)
  have HS := Lib.hid h2
  have HZ2 := Lib.hid hz2
  have HB2 := Lib.hid hb2
  clear h1 h2 hz2 hb2
  have hiI : (i : Int) < 7 := by omega
  have hjI : (j : Int) < 7 := by omega
  have hij' : ¬ j = i := fun e => hij e.symm
  go_enter Try.func99, Try.ntmps99
  go_wp2
  rw [← HW.out]
  go_region
  have HS3 : Hid (Blk ((w1.setCell ⟨w.heap.size, i, none⟩ (.int .i64 y)).setCell ⟨w.heap.size, j, none⟩ (.int .i64 x)).drew w.heap.size 107 (arrC (swapL l i j))) := Lib.hid (by
    have := HS.out
    rw [arrC_set l i hi y HL.out, arrC_set _ j hj x (by simp [HL.out])] at this
    have e1 := HX.out
    have e2 := HY.out
    unfold swapL
    rw [← e1, ← e2]
    exact this)
  go_wp2_with (first | (refine wpList_load_blk rfl 107 (.tmp 3) rfl w.heap.size rfl 107 (arrC (swapL l i j)) 7 3 HS3.out Try.undArr Try.infoArr ?_) | (refine wpList_store_blk rfl 107 (.tmp 6) (.tmp 17) rfl (w.heap.size + 1) (arrC (swapL l i j)) rfl rfl 107 zeroC HZ2.out Try.infoArr rfl (arrC_one _) ?_; intro w3 hR3 hg3))
  refine bodyPost_ret (results_blk Try.results99 _ _ _ _ _ 7 3 rfl hR3 Try.undArr Try.infoArr) rfl ?_
  exact ⟨rfl, HB2.out.drew.grown hg3 HB2.out.size (by rintro _ ⟨⟩; omega)⟩

theorem swapL_nth {l : List Int} {i j t : Nat} (_hi : i < l.length) (_hj : j < l.length) (ht : t < l.length) : nth (swapL l i j) t = if t = j then nth l i else if t = i then nth l j else nth l t := by
  rw [nth_get (by rw [swapL_len]; exact ht)]
  unfold swapL
  rw [List.getElem_set]
  by_cases h1 : j = t
  · rw [if_pos h1, if_pos h1.symm]
  · rw [if_neg h1, if_neg (fun h => h1 h.symm), List.getElem_set]
    by_cases h2 : i = t
    · rw [if_pos h2, if_pos h2.symm]
    · rw [if_neg h2, if_neg (fun h => h2 h.symm), nth_get ht]
/-- The numbers of an array stay apart. -/
def Apart7 (l : List Int) : Prop := ∀ s t, s < 7 → t < 7 → nth l s = nth l t → s = t
theorem Apart7.swap {l : List Int} {i j : Nat} (h : Apart7 l) (hl : l.length = 7) (hi : i < 7) (hj : j < 7) : Apart7 (swapL l i j) := by
  intro s t hs ht e
  rw [swapL_nth (by omega) (by omega) (by omega), swapL_nth (by omega) (by omega) (by omega)] at e
  by_cases s1 : s = j
  · rw [if_pos s1] at e
    by_cases t1 : t = j
    · omega
    · rw [if_neg t1] at e
      by_cases t2 : t = i
      · rw [if_pos t2] at e; have := h _ _ hi hj e; omega
      · rw [if_neg t2] at e; have := h _ _ hi ht e; omega
  · rw [if_neg s1] at e
    by_cases s2 : s = i
    · rw [if_pos s2] at e
      by_cases t1 : t = j
      · rw [if_pos t1] at e; have := h _ _ hj hi e; omega
      · rw [if_neg t1] at e
        by_cases t2 : t = i
        · omega
        · rw [if_neg t2] at e; have := h _ _ hj ht e; omega
    · rw [if_neg s2] at e
      by_cases t1 : t = j
      · rw [if_pos t1] at e; have := h _ _ hs hi e; omega
      · rw [if_neg t1] at e
        by_cases t2 : t = i
        · rw [if_pos t2] at e; have := h _ _ hs hj e; omega
        · rw [if_neg t2] at e; exact h _ _ hs ht e
theorem idL_apart : Apart7 (idL 7) := by
  intro s t hs ht e
  rw [nth_get (by rw [idL_len]; exact hs), nth_get (by rw [idL_len]; exact ht)] at e
  simp only [idL, List.getElem_map, List.getElem_range] at e
  omega
theorem playL_apart (ws : List Int) (all : Bool) (hr : ∀ k, k < ws.length → (nth ws k).toNat + 1 < 7) : ∀ k, k ≤ ws.length → Apart7 (playL ws all k) := by
  intro k
  induction k with
  | zero => intro _; exact idL_apart
  | succ k ih =>
    intro hk
    unfold playL
    have := hr k (by omega)
    split
    · exact (ih (by omega)).swap (playL_len _ _ _) (by omega) (by omega)
    · exact ih (by omega)

set_option maxHeartbeats 2000000 in
theorem implWord_any (a : Int) (A : Option Addr) (n c : Nat) (ws : List Int) (w : World) (hs : SI w A n ws) (hn : n ≤ 1099511627776) :
    Calls Try.prog 121 #[.int .i64 a, .slice A n c] w fun e w' => Fresh w w' e (playPerm true a ws) := by
  have hw := isWord_any a A n c ws w hs hn
  cases hu : wordB a ws with
  | false =>
    rw [hu] at hw
    have HE := Lib.hid (playPerm_no (all := true) hu)
    clear hu
    go_enter Try.func121, Try.ntmps121
    go_wp2_with fail
    refine hw.mono ?_
    rintro e w1 ⟨rfl, rfl⟩
    clear hw
    go_wp2
    go_ret
    rw [HE.out]
    exact Fresh.nil_ret (Below.refl _ _)
  | true =>
    rw [hu] at hw
    obtain ⟨m, rfl⟩ : ∃ m : Nat, a = (m : Int) := ⟨a.toNat, by have := (wordB_P hu).1; omega⟩
    have HE := Lib.hid (playPerm_yes (all := true) hu)
    have HU := Lib.hid (wordB_P hu)
    have HL := Lib.hid hs.1
    have hm7 : m ≤ 7 := by have := HU.out.2.1; omega
    clear hu
    go_enter Try.func121, Try.ntmps121
    go_wp2_with fail
    refine hw.mono ?_
    rintro e w1 ⟨rfl, rfl⟩
    clear hw
    go_wp2_with fail
    refine (identityArray_any _).mono ?_
    rintro e w1 ⟨rfl, hb1⟩
    have hK : Blk (w1.alloc (.cells #[.int .i64 0, .int .i64 1, .int .i64 2, .int .i64 3, .int .i64 4, .int .i64 5, .int .i64 6] 107)) w1.heap.size 107 (arrC (playL ws true 0)) := Blk.new w1 _ _
    go_wp2
    have hb2 := hb1.alloc hb1.size (.cells #[.int .i64 0, .int .i64 1, .int .i64 2, .int .i64 3, .int .i64 4, .int .i64 5, .int .i64 6] 107)
    have hgG : w.heap.size ≤ w1.heap.size := hb1.size
    obtain ⟨g, hg⟩ : ∃ g, g = w1.heap.size := ⟨_, rfl⟩
    rw [← hg] at hK hgG ⊢
    generalize w1.alloc (.cells #[.int .i64 0, .int .i64 1, .int .i64 2, .int .i64 3, .int .i64 4, .int .i64 5, .int .i64 6] 107) = w2 at *
    clear hg
    go_loopw [15] (fun i wr => ∃ k : Nat, k ≤ n ∧ i = .int .i64 k ∧ Blk wr g 107 (arrC (playL ws true k)) ∧ Below w.heap.size w wr)
      (fun i _ => n - (intOf i).toNat)
    case atStart => exact ⟨0, Nat.zero_le _, rfl, hK, hb2⟩
    case round =>
      obtain ⟨k, hk, rfl, hA, hbel⟩ := hrel
      have HA := Lib.hid hA
      have HB := Lib.hid hbel
      by_cases hlt : k < n
      · obtain ⟨b, o, e1, hb, hc⟩ := (hs.below hbel (Nat.le_refl _)).at_ (by omega)
        have hc1 := hc k hlt
        obtain ⟨hw1, hw2⟩ := HU.out.2.2.2 k (by have := HL.out; omega)
        obtain ⟨q, hq⟩ : ∃ q : Nat, nth ws k = (q : Int) := ⟨(nth ws k).toNat, by omega⟩
        have hqt : (nth ws k).toNat = q := by omega
        rw [hq] at hc1
        have hq2 : q + 1 < m := by omega
        have HQ := Lib.hid hqt
        subst e1
        clear hc hs hq hqt hw1 hw2 hA hbel hK hb2 hb1 hb
        have hsw : Calls Try.prog 99 #[arr (playL ws true k), .int .i64 q, .int .i64 ((q : Int) + 1)] wr (fun e w' => e = .returned (arr (swapL (playL ws true k) q (q + 1))) ∧ Below wr.heap.size wr w') :=
          exchanged_any _ q (q + 1) wr (by omega) (by omega) (by omega) (playL_len _ _ _)
        have HSW := Lib.hid hsw
        clear hsw
        go_wp2_with (first | (refine wpList_load_blk rfl 107 (.tmp 5) rfl g rfl 107 (arrC (playL ws true k)) 7 3 HA.out Try.undArr Try.infoArr ?_) | fail)
        refine HSW.out.mono ?_
        rintro e w4 ⟨rfl, hb4⟩
        have HA4 := Lib.hid (HA.out.below hb4 HA.out.lt)
        have HB4 := Lib.hid (HB.out.trans (hb4.mono HB.out.size))
        clear hb4
        go_wp2_with (refine wpList_store_blk rfl 107 (.tmp 5) (.tmp 23) rfl g (arrC (swapL (playL ws true k) q (q + 1))) rfl rfl 107 (arrC (playL ws true k)) HA4.out Try.infoArr rfl (arrC_one _) ?_; intro w5 hR5 hg5)
        go_roundw
        case rel => exact ⟨k + 1, by omega, by go_num, by rw [playL_hit HQ.out (.inl rfl)]; exact hR5, HB4.out.grown hg5 HB4.out.size (by rintro _ ⟨⟩; exact hgG)⟩
        case measure => simp [intOf]; omega
      · have hkn : k = n := by omega
        subst hkn
        clear hA hbel hK hb2 hb1
        go_wp2_with (first | (refine wpList_load_blk rfl 107 (.tmp 5) rfl g rfl 107 (arrC (playL ws true k)) 7 3 HA.out Try.undArr Try.infoArr ?_) | fail)
        refine (list_any (playL ws true k) m wr (playL_len _ _ _) hm7).mono ?_
        rintro e w4 ⟨A4, n4, c4, rfl, ho4, hb4⟩
        go_wp2
        go_ret
        rw [HE.out, HL.out]
        exact Fresh.after HB.out ⟨A4, n4, c4, rfl, ho4, hb4⟩

end Go.Proofs.Ytjpoliibljjhnaa

/-
  All permutations of at most five numbers, listed: plain facts that the kernel reckons over the list. Conditions: the length is at most 5.
-/


namespace Go.Proofs.Ytjpoliibljjhnaa
open Go.RowKit

/-- The beginnings of k numbers below n, all different. -/
def begins (n : Nat) : Nat → List (List Int)
  | 0 => [[]]
  | k + 1 => (begins n k).flatMap fun p => ((List.range n).filter (fun (v : Nat) => !hasB p (v : Int))).map (fun (v : Nat) => p ++ [(v : Int)])
theorem begins_all {xs : List Int} (h : isPermP xs) : ∀ k, k ≤ xs.length → xs.take k ∈ begins xs.length k := by
  intro k
  induction k with
  | zero => intro _; simp [begins]
  | succ k ih =>
    intro hk
    obtain ⟨h1, h2, h3⟩ := h.2.2 k (by omega)
    unfold begins
    rw [List.mem_flatMap]
    refine ⟨xs.take k, ih (by omega), ?_⟩
    rw [List.mem_map]
    refine ⟨(nth xs k).toNat, ?_, ?_⟩
    · rw [List.mem_filter]
      refine ⟨List.mem_range.2 (by omega), ?_⟩
      rw [show (((nth xs k).toNat : Nat) : Int) = nth xs k from by omega, h3]; rfl
    · rw [take_nth (by omega), show (((nth xs k).toNat : Nat) : Int) = nth xs k from by omega]
def perms5 : List (List Int) := begins 1 1 ++ begins 2 2 ++ begins 3 3 ++ begins 4 4 ++ begins 5 5
theorem perms5_all {xs : List Int} (h : isPermP xs) (h5 : xs.length ≤ 5) : xs ∈ perms5 := by
  have h1 := h.1
  have := begins_all h xs.length (Nat.le_refl _)
  rw [List.take_length] at this
  unfold perms5
  have hc : xs.length = 1 ∨ xs.length = 2 ∨ xs.length = 3 ∨ xs.length = 4 ∨ xs.length = 5 := by omega
  simp only [List.mem_append]
  rcases hc with e | e | e | e | e <;> rw [e] at this <;> simp [this]
theorem perm_cases {p : List Int → Bool} (hp : perms5.all p = true) {xs : List Int} (h : isPermP xs) (h5 : xs.length ≤ 5) : p xs = true :=
  List.all_eq_true.1 hp xs (perms5_all h h5)

/-- A swap of neighbours leaves a permutation. -/
theorem swap_perm {xs : List Int} (h : isPermP xs) (h5 : xs.length ≤ 5) {i : Nat} (hi : i + 1 < xs.length) : isPermP (swapL xs i (i + 1)) := by
  have := perm_cases (p := fun xs => (List.range (xs.length - 1)).all fun i => isPermB (swapL xs i (i + 1))) (by decide +kernel) h h5
  simp only [List.all_eq_true, List.mem_range] at this
  exact isPermB_P (this i (by omega))
/-- At a descent the length goes down by one. -/
theorem swap_down {xs : List Int} (h : isPermP xs) (h5 : xs.length ≤ 5) {i : Nat} (hi : i + 1 < xs.length) (hd : nth xs (i + 1) < nth xs i) : lenL (swapL xs i (i + 1)) + 1 = lenL xs := by
  have := perm_cases (p := fun xs => (List.range (xs.length - 1)).all fun i => !decide (nth xs (i + 1) < nth xs i) || decide (lenL (swapL xs i (i + 1)) + 1 = lenL xs)) (by decide +kernel) h h5
  simp only [List.all_eq_true, List.mem_range] at this
  have h2 := this i (by omega)
  simpa [hd] using h2
/-- Whatever is longer than nothing has a descent. -/
theorem has_descent {xs : List Int} (h : isPermP xs) (h5 : xs.length ≤ 5) (hl : 0 < lenL xs) : 0 < (descL xs (xs.length - 1)).length := by
  have := perm_cases (p := fun xs => !decide (0 < lenL xs) || decide (0 < (descL xs (xs.length - 1)).length)) (by decide +kernel) h h5
  simpa [hl] using this
theorem len_small {xs : List Int} (h : isPermP xs) (h5 : xs.length ≤ 5) : lenL xs ≤ 10 := by
  have := perm_cases (p := fun xs => decide (lenL xs ≤ 10)) (by decide +kernel) h h5
  simpa using this
/-- Each number of the list of descents is one. -/
theorem descL_mem (xs : List Int) : ∀ k, ∀ j, j < (descL xs k).length → ∃ i : Nat, i < k ∧ nth (descL xs k) j = (i : Int) ∧ nth xs (i + 1) < nth xs i := by
  intro k
  induction k with
  | zero => intro j hj; simp [descL] at hj
  | succ k ih =>
    intro j hj
    by_cases hd : nth xs (k + 1) < nth xs k
    · rw [descL_hit hd] at hj ⊢
      rw [List.length_append, List.length_singleton] at hj
      rcases Nat.lt_or_ge j (descL xs k).length with hlt | hge
      · obtain ⟨i, h1, h2, h3⟩ := ih j hlt
        exact ⟨i, by omega, by rw [nth_get (by simp; omega), List.getElem_append_left hlt, ← nth_get hlt]; exact h2, h3⟩
      · have e : j = (descL xs k).length := by omega
        subst e
        exact ⟨k, by omega, by rw [nth_get (by simp)]; simp, hd⟩
    · rw [descL_miss hd] at hj ⊢
      obtain ⟨i, h1, h2, h3⟩ := ih j hj
      exact ⟨i, by omega, h2, h3⟩
theorem id_perm {n : Nat} (h1 : 1 ≤ n) (h7 : n ≤ 7) : isPermP (idL n) := by
  have hc : n = 1 ∨ n = 2 ∨ n = 3 ∨ n = 4 ∨ n = 5 ∨ n = 6 ∨ n = 7 := by omega
  rcases hc with rfl | rfl | rfl | rfl | rfl | rfl | rfl <;> exact isPermB_P (by decide +kernel)
/-- What comes of a word is a permutation. -/
theorem play_perm {ws : List Int} {m : Nat} (hw : wordP (m : Int) ws) (h5 : m ≤ 5) (all : Bool) : ∀ k, k ≤ ws.length → isPermP ((playL ws all k).take m) := by
  intro k
  have h1 : 1 ≤ m := by have := hw.1; omega
  induction k with
  | zero =>
    intro _
    show isPermP ((idL 7).take m)
    rw [idL_take (by omega)]
    exact id_perm h1 (by omega)
  | succ k ih =>
    intro hk
    obtain ⟨hw1, hw2⟩ := hw.2.2.2 k (by omega)
    unfold playL
    split
    · rw [swapL_take (by omega) (by omega)]
      have hl : ((playL ws all k).take m).length = m := by rw [List.length_take, playL_len]; omega
      exact swap_perm (ih (by omega)) (by omega) (by omega)
    · exact ih (by omega)
end Go.Proofs.Ytjpoliibljjhnaa

/-
  Permutations of up to 7 with two places exchanged are permutations; what comes of a word is one. No conditions but those named.
-/




namespace Go.Proofs.Ytjpoliibljjhnaa
open Go.RowKit

theorem pp_ne {xs : List Int} (h : isPermP xs) {j k : Nat} (hj : j < k) (hk : k < xs.length) : nth xs j ≠ nth xs k := fun e => by
  obtain ⟨_, _, hb⟩ := h.2.2 k hk
  have : nth xs k ∈ xs.take k := by
    rw [← e, nth_get (by omega)]
    refine List.mem_iff_getElem.2 ⟨j, by simp; omega, by simp⟩
  rw [hasB, decide_eq_false_iff_not] at hb
  exact hb this
theorem pp_ne' {xs : List Int} (h : isPermP xs) {j k : Nat} (hjk : j ≠ k) (hj : j < xs.length) (hk : k < xs.length) : nth xs j ≠ nth xs k := by
  rcases Nat.lt_or_gt_of_ne hjk with e | e
  · exact pp_ne h e hk
  · exact (pp_ne h e hj).symm
theorem pp_of {xs : List Int} (h1 : 1 ≤ xs.length) (h7 : xs.length ≤ 7) (hr : ∀ k, k < xs.length → 0 ≤ nth xs k ∧ nth xs k ≤ (xs.length : Int) - 1) (hd : ∀ j k, j < k → k < xs.length → nth xs j ≠ nth xs k) : isPermP xs := by
  refine ⟨h1, h7, fun k hk => ⟨(hr k hk).1, (hr k hk).2, ?_⟩⟩
  rw [hasB, decide_eq_false_iff_not]
  intro hm
  obtain ⟨j, hj, e⟩ := List.mem_iff_getElem.1 hm
  simp only [List.length_take] at hj
  rw [List.getElem_take] at e
  refine hd j k (by omega) hk ?_
  rw [nth_get (by omega), e]
theorem swap_pp {xs : List Int} (h : isPermP xs) {i j : Nat} (hij : i < j) (hj : j < xs.length) : isPermP (swapL xs i j) := by
  have hl := swapL_len xs i j
  refine pp_of (by rw [hl]; exact h.1) (by rw [hl]; exact h.2.1) (fun k hk => ?_) (fun s t hst ht => ?_)
  · rw [hl] at hk ⊢
    rw [swapL_nth (by omega) hj hk]
    split
    · exact ⟨(h.2.2 i (by omega)).1, (h.2.2 i (by omega)).2.1⟩
    · split
      · exact ⟨(h.2.2 j hj).1, (h.2.2 j hj).2.1⟩
      · exact ⟨(h.2.2 k hk).1, (h.2.2 k hk).2.1⟩
  · rw [hl] at ht
    rw [swapL_nth (by omega) hj (by omega), swapL_nth (by omega) hj ht]
    repeat' split
    all_goals first
      | omega
      | exact pp_ne' h (by omega) (by omega) (by omega)
theorem fill_swapG {xs : List Int} {i j : Nat} (hij : i < j) (hj : j < xs.length) (h7 : xs.length ≤ 7) : swapL (fillA xs xs.length) i j = fillA (swapL xs i j) xs.length := by
  apply List.ext_getElem (by rw [swapL_len, fillA_len, fillA_len])
  intro t h1 h2
  rw [swapL_len, fillA_len] at h1
  rw [← nth_get (by rw [swapL_len, fillA_len]; exact h1), ← nth_get (by rw [fillA_len]; exact h1), swapL_nth (by rw [fillA_len]; omega) (by rw [fillA_len]; omega) (by rw [fillA_len]; exact h1), fillA_lt (show i < xs.length by omega) (by omega), fillA_lt hj (by omega), fillA_nth xs _ t h1, fillA_nth (swapL xs i j) _ t h1]
  by_cases ht : t < xs.length
  · rw [if_pos ht, if_pos ht, swapL_nth (by omega) hj ht]
  · rw [if_neg ht, if_neg ht, if_neg (by omega), if_neg (by omega)]
theorem play_pp {ws : List Int} {m : Nat} (hw : wordP (m : Int) ws) (all : Bool) : ∀ k, k ≤ ws.length → isPermP ((playL ws all k).take m) := by
  intro k
  have h1 : 1 ≤ m := by have := hw.1; omega
  have h7 : m ≤ 7 := by have := hw.2.1; omega
  induction k with
  | zero =>
    intro _
    show isPermP ((idL 7).take m)
    rw [idL_take (by omega)]
    exact id_perm h1 (by omega)
  | succ k ih =>
    intro hk
    obtain ⟨hw1, hw2⟩ := hw.2.2.2 k (by omega)
    unfold playL
    split
    · rw [swapL_take (by omega) (by omega)]
      have hl : ((playL ws all k).take m).length = m := by rw [List.length_take, playL_len]; omega
      exact swap_pp (ih (by omega)) (by omega) (by omega)
    · exact ih (by omega)
end Go.Proofs.Ytjpoliibljjhnaa

/-
  The program's EdelmanGreene. Conditions: lengths below 2^40.
-/


namespace Go.Proofs.Ytjpoliibljjhnaa
open Go.RowKit

/-- Few and short. -/
def SmallE (ls : List (List Int)) : Prop := ls.length ≤ 60 ∧ ∀ j, (li ls j).length ≤ 60
theorem SmallE.nil : SmallE [] := ⟨by simp, fun j => by simp [li]⟩
/-- What the program's EdelmanGreene hands back: two lists of lists, no block of both. -/
def FreshED (w w' : World) (e : Ending) (ls us : List (List Int)) (b : Bool) : Prop :=
  ∃ A1 n1 c1 E1 A2 c2 E2, e = .returned (.tuple #[.slice A1 n1 c1, .slice A2 n1 c2, .bool b]) ∧ OwnLE E1 w' w.heap.size w'.heap.size A1 n1 c1 ls ∧ OwnLE E2 w' w.heap.size w'.heap.size A2 n1 c2 us ∧ Disj E1 A1 n1 E2 A2 n1 ∧ Below w.heap.size w w' ∧ SmallE ls ∧ SmallE us
theorem FreshED.nil_ret {w w' : World} {b : Bool} (h : Below w.heap.size w w') : FreshED w w' (.returned (.tuple #[.slice none 0 0, .slice none 0 0, .bool b])) [] [] b :=
  ⟨none, 0, 0, fun _ => (none, 0, 0), none, 0, fun _ => (none, 0, 0), rfl, OwnLE.nil _ _ _ _, OwnLE.nil _ _ _ _, fun k => .inl ⟨(fun h => by cases h), fun j hj => absurd hj (by omega)⟩, h, SmallE.nil, SmallE.nil⟩
theorem playPerm_B {m : Nat} {xs : List Int} (hu : wordB (m : Int) xs = true) : isPermB (playPerm true (m : Int) xs) = true := by
  rw [playPerm_yes hu]
  exact isPermB_true (play_pp (wordB_P hu) true _ (Nat.le_refl _))
theorem egB_len (a : Int) (xs : List Int) : egB a xs = decide (lenPerm (playPerm true a xs) = (xs.length : Int)) := by
  cases hu : wordB a xs with
  | false =>
    rw [playPerm_no hu, lenPerm_no (by decide)]
    unfold egB
    rw [hu, Bool.false_and]
    symm
    rw [decide_eq_false_iff_not]
    omega
  | true =>
    have hp := wordB_P hu
    obtain ⟨m, rfl⟩ : ∃ m : Nat, a = m := ⟨a.toNat, by have := hp.1; omega⟩
    rw [lenPerm_yes (playPerm_B hu), playPerm_yes hu]
    unfold egB
    rw [hu, Bool.true_and, Int.toNat_natCast]
theorem egB_word {a : Int} {xs : List Int} (h : egB a xs = true) : wordB a xs = true := by
  unfold egB at h
  rw [Bool.and_eq_true] at h
  exact h.1
set_option maxHeartbeats 1000000 in
theorem isReduced_any (a : Int) (A : Option Addr) (n c : Nat) (xs : List Int) (w : World) (hs : SI w A n xs) (hn : n ≤ 1099511627776) :
    Calls Try.prog 76 #[.int .i64 a, .slice A n c] w fun e w' => e = .returned (.bool (egB a xs)) ∧ Below w.heap.size w w' := by
  have HW := Lib.hid (implWord_any a A n c xs w hs hn)
  have hE := egB_len a xs
  rw [hs.1] at hE
  have hsm := playPerm_small true a xs
  obtain ⟨ps, hps⟩ : ∃ ps, ps = playPerm true a xs := ⟨_, rfl⟩
  rw [← hps] at HW hE hsm
  have HSM := Lib.hid hsm
  obtain ⟨z, hz⟩ : ∃ z, z = lenPerm ps := ⟨_, rfl⟩
  rw [← hz] at hE
  have HZ := Lib.hid hz.symm
  clear hs hps hz hsm
  by_cases hzn : z = (n : Int)
  · subst hzn
    have HE : Hid (egB a xs = true) := Lib.hid (by rw [hE]; simp)
    clear hE
    go_enter Try.func76, Try.ntmps76
    go_wp2_with (first
      | (go_at_call 121; (with_reducible refine HW.out.mono ?_); rintro e w1 ⟨A1, n1, c1, rfl, ho1, hb1⟩; have HO1 := Lib.hid ho1; have HB1 := Lib.hid hb1; clear ho1 hb1)
      | (go_at_call 166; (with_reducible refine (implLength_any A1 n1 c1 ps w1 HO1.out.si (by have := HO1.out.len; have := HSM.out; omega)).mono ?_); rintro e w2 ⟨rfl, hb2⟩; rw [HZ.out]; have HB3 : Hid (Below w.heap.size w w2) := Lib.hid (HB1.out.trans (hb2.mono HB1.out.size)); clear hb2))
    go_ret
    exact ⟨ret_bool (by rw [HE.out]), HB3.out⟩
  · have HE : Hid (egB a xs = false) := Lib.hid (by rw [hE]; simp [hzn])
    have hki : (z == (n : Int)) = false := by simpa using hzn
    clear hE
    go_enter Try.func76, Try.ntmps76
    go_wp2_with (first
      | (go_at_call 121; (with_reducible refine HW.out.mono ?_); rintro e w1 ⟨A1, n1, c1, rfl, ho1, hb1⟩; have HO1 := Lib.hid ho1; have HB1 := Lib.hid hb1; clear ho1 hb1)
      | (go_at_call 166; (with_reducible refine (implLength_any A1 n1 c1 ps w1 HO1.out.si (by have := HO1.out.len; have := HSM.out; omega)).mono ?_); rintro e w2 ⟨rfl, hb2⟩; rw [HZ.out]; have HB3 : Hid (Below w.heap.size w w2) := Lib.hid (HB1.out.trans (hb2.mono HB1.out.size)); clear hb2))
    go_ret
    exact ⟨ret_bool (by rw [HE.out]), HB3.out⟩
set_option maxHeartbeats 1000000 in
theorem implEg_any (a : Int) (A : Option Addr) (n c : Nat) (xs : List Int) (w : World) (hs : SI w A n xs) (hn : n ≤ 1099511627776) :
    Calls Try.prog 17 #[.int .i64 a, .slice A n c] w fun e w' => FreshED w w' e (egA a xs) (egC a xs) (egB a xs) := by
  have HL := Lib.hid hs.1
  have hr := isReduced_any a A n c xs w hs hn
  cases hu : egB a xs with
  | false =>
    rw [hu] at hr
    have HR := Lib.hid hr
    have HNO := Lib.hid hu
    clear hs hr hu
    go_enter Try.func17, Try.ntmps17
    go_wp2_with (go_at_call 76; (with_reducible refine HR.out.mono ?_); rintro e w1 ⟨rfl, hb1⟩; have HB1 := Lib.hid hb1; clear hb1)
    go_ret3
    rw [(eg_no HNO.out).1, (eg_no HNO.out).2]
    exact FreshED.nil_ret HB1.out
  | true =>
    rw [hu] at hr
    have HR := Lib.hid hr
    have hw := egB_word hu
    have HN60 : Hid (n ≤ 60) := Lib.hid (by have := (wordB_P hw).2.2.1; have := HL.out; omega)
    have HYES := Lib.hid hu
    have HIW := Lib.hid (fun u (hd : Below w.heap.size w u) => insertWordE_any A n c xs u (hs.below hd (Nat.le_refl _)) HN60.out (egB_in hw))
    clear hs hr hu hw
    go_enter Try.func17, Try.ntmps17
    go_wp2_with (first
      | (go_at_call 76; (with_reducible refine HR.out.mono ?_); rintro e w1 ⟨rfl, hb1⟩; have HB1 := Lib.hid hb1; clear hb1)
      | (go_at_call 77; (with_reducible refine (HIW.out _ HB1.out).mono ?_); rintro e w2 ⟨A1, n1, c1, E1, A2, c2, E2, rfl, he1, he2, hdj, hkk, hb⟩
         have HKK := Lib.hid hkk
         have HE1 := Lib.hid he1
         have HE2 := Lib.hid he2
         have HDJ := Lib.hid hdj
         have HB := Lib.hid hb
         clear he1 he2 hdj hkk hb))
    go_ret3
    rw [(eg_yes HYES.out).1, (eg_yes HYES.out).2, HL.out]
    have hz := HB1.out.size
    exact ⟨A1, n1, c1, E1, A2, c2, E2, rfl, HE1.out.wide2 hz (Nat.le_refl _), HE2.out.wide2 hz (Nat.le_refl _), HDJ.out, HB1.out.trans (HB.out.mono hz), ⟨Nat.le_trans HKK.out.few HN60.out, fun j => Nat.le_trans (HKK.out.row j) HN60.out⟩, ⟨by rw [HKK.out.len]; exact Nat.le_trans HKK.out.few HN60.out, fun j => Nat.le_trans (HKK.out.row2 j) HN60.out⟩⟩
end Go.Proofs.Ytjpoliibljjhnaa

/-
  Marking a list of lists, the blocks named: what is apart from it stays as it was. Conditions: lengths below 2^40.
-/


namespace Go.Proofs.Ytjpoliibljjhnaa
open Go.RowKit

theorem OwnLE.itemE {E : Nat → Sv} {w : World} {lo hi g n c : Nat} {ls : List (List Int)} (h : OwnLE E w lo hi (some ⟨g, 0, none⟩) n c ls) {k : Nat} (hk : k < n) :
    ∃ A' n' c', (A', n', c') = E k ∧ w.cell? ⟨g, k, none⟩ = some (.slice A' n' c') ∧ Own w lo hi A' n' c' (li ls k) ∧
      ∀ w' ys, Own w' lo hi A' n' c' ys → w.grownBy w' (Value.slice A' n' c').ownBlock → OwnLE E w' lo hi (some ⟨g, 0, none⟩) n c (ls.set k ys) := by
  obtain ⟨hl, ho, hh, he, hne, hdd⟩ := h
  refine ⟨(E k).1, (E k).2.1, (E k).2.2, rfl, ?_, he k hk, ?_⟩
  · rw [ho.cellAt k (by omega), heads_get _ hk]; rfl
  · intro w' ys hy hg
    refine ⟨by simpa using hl, ho.kept hg ?_, hh, fun j hj => ?_, hne, hdd⟩
    · cases hb : (Value.slice (E k).1 (E k).2.1 (E k).2.2).ownBlock with
      | none => right; intro e; cases e
      | some b => right; intro e; exact hne k b hk hb e
    · rw [li_set (by omega)]
      by_cases e : j = k
      · subst e; rw [if_pos rfl]; exact hy
      · rw [if_neg e]
        refine (he j hj).kept hg (fun b hb e2 => ?_)
        rcases Nat.lt_or_gt_of_ne e with h | h
        · exact hdd j k b h hk hb e2
        · exact hdd k j b h hj e2 hb
theorem KpL.mark {E : Nat → Sv} {A : Option Addr} {n k : Nat} {w w' : World} {A' : Option Addr} {n' c' : Nat} (hk : k < n) (hE : (A', n', c') = E k) (hg : w.grownBy w' (Value.slice A' n' c').ownBlock) : KpL E A n w E A n w' :=
  ⟨hg.size, fun _ _ h => h, fun b hb ha => hg.block b hb (fun e => by
    have h := ha.2 k hk
    rw [← hE] at h
    exact h (by unfold sv; exact e.symm))⟩
set_option maxHeartbeats 800000 in
theorem markIntSSE_own (E : Nat → Sv) (g n c lo hi : Nat) (ts : List (List Int)) (q : Int) (w : World) (hs : OwnLE E w lo hi (some ⟨g, 0, none⟩) n c ts) (hn : n ≤ 1099511627776) (hne : ∀ k, k < n → (li ts k).length ≤ 1099511627776)
    (hq : ∀ k, k ≤ n → 0 ≤ endS (ts.take k) q ∧ endS (ts.take k) q ≤ 1099511627776) :
    Calls Try.prog 21 #[.slice (some ⟨g, 0, none⟩) n c, .int .i64 q] w fun e w' => e = .returned (.int .i64 (endS ts q)) ∧ OwnLE E w' lo hi (some ⟨g, 0, none⟩) n c (marksS ts q) ∧ KpL E (some ⟨g, 0, none⟩) n w E (some ⟨g, 0, none⟩) n w' ∧ Within lo hi w w' := by
  have HL := Lib.hid hs.1
  have HNE := Lib.hid hne
  have HQ := Lib.hid hq
  clear hne hq
  go_enter Try.func21, Try.ntmps21
  go_wp2
  go_loopw [1, 5] (fun p i wr => ∃ k : Nat, k ≤ n ∧ i = .int .i64 k ∧ p = .int .i64 (endS (ts.take k) q) ∧ OwnLE E wr lo hi (some ⟨g, 0, none⟩) n c (mixS ts q k) ∧ KpL E (some ⟨g, 0, none⟩) n w E (some ⟨g, 0, none⟩) n wr ∧ Within lo hi w wr)
    (fun _ i _ => n - (intOf i).toNat)
  case atStart => exact ⟨0, Nat.zero_le _, rfl, rfl, by rw [mixS_zero]; exact hs, KpL.refl _ _ _ _, Within.refl _ _ _⟩
  case round =>
    obtain ⟨k, hk, rfl, rfl, hown, hwi⟩ := hrel
    clear hs
    by_cases hlt : k < n
    · have hlI : (k : Int) < (n : Int) := by omega
      obtain ⟨A', n', c', hee, hc0, hx, hback⟩ := hown.itemE hlt
      have HEE := Lib.hid hee
      rw [mixS_li (by rw [HL.out]; exact hlt)] at hx
      have hq0 := HQ.out k hk
      have es := endS_succ (ts := ts) (q := q) (k := k) (by rw [HL.out]; exact hlt)
      have em := mixS_succ (ts := ts) (q := q) (k := k) (by rw [HL.out]; exact hlt)
      have hl' := hx.len
      rw [hl'] at es em
      have hn' : n' ≤ 1099511627776 := by have := HNE.out k hlt; omega
      obtain ⟨z, hz⟩ : ∃ z, z = endS (ts.take k) q := ⟨_, rfl⟩
      rw [← hz] at hq0 es em ⊢
      have hM := markIntS_any A' n' c' lo hi (li ts k) z wr hx hn' hq0.1 hq0.2
      have HM := Lib.hid hM
      have HBK := Lib.hid hback
      have HX := Lib.hid hx
      have HW := Lib.hid hwi
      have HES := Lib.hid es
      have HEM := Lib.hid em
      clear hown hee hx hback hM hwi es em hz hl'
      go_wp2_with fail
      refine HM.out.mono ?_
      rintro e w2 ⟨rfl, ho2, hg2⟩
      have hO2 := HBK.out w2 _ ho2 hg2
      rw [HEM.out] at hO2
      have HO3 := Lib.hid hO2
      have HW3 := Lib.hid (And.intro (HW.out.1.trans (KpL.mark hlt HEE.out hg2)) (HW.out.2.trans (Within.of_grown hg2 (fun b hb => HX.out.lt b hb))))
      clear hO2 ho2 hg2 HBK HX HM HW hc0
      go_wp2
      go_roundw
      case rel => exact ⟨k + 1, by omega, by go_num, by rw [HES.out], HO3.out, HW3.out⟩
      case measure => simp [intOf]; omega
    · have hkn : k = n := by omega
      subst hkn
      have e1 : ts.take k = ts := List.take_of_length_le (by rw [HL.out]; omega)
      rw [e1]
      have e2 := mixS_all ts q
      rw [HL.out] at e2
      rw [e2] at hown
      go_wp2
      go_ret
      exact ⟨rfl, hown, hwi⟩
set_option maxHeartbeats 400000 in
theorem markIntSSE_any (E : Nat → Sv) (A : Option Addr) (n c lo hi : Nat) (ts : List (List Int)) (q : Int) (w : World) (hs : OwnLE E w lo hi A n c ts) (hn : n ≤ 1099511627776) (hne : ∀ k, k < n → (li ts k).length ≤ 1099511627776)
    (hq : ∀ k, k ≤ n → 0 ≤ endS (ts.take k) q ∧ endS (ts.take k) q ≤ 1099511627776) :
    Calls Try.prog 21 #[.slice A n c, .int .i64 q] w fun e w' => e = .returned (.int .i64 (endS ts q)) ∧ OwnLE E w' lo hi A n c (marksS ts q) ∧ KpL E A n w E A n w' ∧ Within lo hi w w' := by
  by_cases h0 : 0 < n
  · obtain ⟨g, rfl, h1, h2⟩ := hs.place h0
    exact markIntSSE_own E g n c lo hi ts q w hs hn hne hq
  · have hz : n = 0 := by omega
    subst hz
    have hx : ts = [] := List.eq_nil_of_length_eq_zero hs.1
    subst hx
    have HS := Lib.hid hs
    clear hs hq hne
    go_enter Try.func21, Try.ntmps21
    go_wp2
    refine wp_loop_rounds 1 ?_
    rw [rounds_succ]
    go_wp2
    go_ret
    exact ⟨rfl, HS.out, KpL.refl _ _ _ _, Within.refl _ _ _⟩
end Go.Proofs.Ytjpoliibljjhnaa

/-
  Opening a slice of integers that came in; closed facts of this dump. No conditions.
-/




namespace Go.Proofs.Ytjpoliibljjhnaa
open Go.ChangeShapes Go.WideShapes Go.ChangeAt Go.RowKit

theorem own : ownKnob Try.prog.godebug = none := by kernel_rfl
theorem laidOut : laidOutB Try.prog = true := by kernel_rfl

/-- What an opened slice of integers gives: it reads as its numbers. -/
theorem SI.of_cells {w : World} {a : Addr} {n : Nat} {zs : List Int} (hl : n ≤ zs.length) (hc : ∀ i, i < zs.length → w.cell? (a.add i) = some (.int .i64 (zs.getD i 0))) : SI w (some a) n (zs.take n) := by
  refine ⟨by simp; omega, fun hn => ?_⟩
  obtain ⟨b, o, s⟩ := a
  have h0 := hc 0 (by omega)
  have hs : s = none := by simpa [Addr.add] using World.cell?_spot h0
  subst hs
  refine ⟨b, o, rfl, block_lt_of_cell (a := ⟨b, o, none⟩) (by simpa [Addr.add] using h0), fun k hk => ?_⟩
  rw [nth_take hk, ← add_pt]
  exact hc k (by omega)

/-- Every number fits an int. -/
def Fits (xs : List Int) : Prop := ∀ x ∈ xs, -9223372036854775808 ≤ x ∧ x ≤ 9223372036854775807
theorem SI.of_trod {H : Type} {enc : TypeId × Value → H} {W : World} {q : Nat} {f : Nat → Bool} {a0 : Option Addr} {len0 cap0 : Nat} {d : DataW H} {p : List MemPlace}
    (h0 : DataW.Trod enc Try.prog W q f true 22 (.slice a0 len0 cap0) d p) : ∃ xs, SI W a0 len0 xs ∧ Fits xs := by
  obtain ⟨fuel, hf⟩ := h0
  rcases open_ints Try.underlying22 Try.underlying3 (by kernel_rfl) hf with ⟨hcs, _⟩ | ⟨x, l, c, zs, hcs, _, hl, hm, hz, _, hcell, hwz⟩
  · simp [Value.cells] at hcs
    obtain ⟨rfl, rfl, rfl⟩ := hcs
    exact ⟨[], SI.nil _ _, fun x hx => by cases hx⟩
  · simp [Value.cells] at hcs
    obtain ⟨rfl, rfl, rfl⟩ := hcs
    exact ⟨_, SI.of_cells (by rw [hz]; split <;> omega) hcell, fun n hn => bounds_i64 (hwz n (List.mem_of_mem_take hn))⟩
end Go.Proofs.Ytjpoliibljjhnaa

/-
  The walk of FnExactEdelmanGreene: for every input the law returns true: the program's EdelmanGreene answers as the specification's, changes no argument, and its answer owns its memory. No conditions.
-/





namespace Go.Proofs.Ytjpoliibljjhnaa
open Go.ChangeShapes Go.WideShapes Go.ChangeAt Go.RowKit

theorem OwnLE.rdE {E : Nat → Sv} {w : World} {lo hi n c : Nat} {A : Option Addr} {ls : List (List Int)} (h : OwnLE E w lo hi A n c ls) : LS w A n ls := OwnL.si ⟨E, h⟩
theorem OwnLE.withinE {E : Nat → Sv} {w w' : World} {lo hi lo' hi' n c : Nat} {A : Option Addr} {ls : List (List Int)} (h : OwnLE E w lo hi A n c ls) (hw : Within lo' hi' w w') (hd : hi ≤ lo' ∨ hi' ≤ lo) : OwnLE E w' lo hi A n c ls := by
  obtain ⟨h1, h2, h3, h4, h5, h6⟩ := h
  refine ⟨h1, ⟨h2.1, ?_⟩, h3, fun j hj => (h4 j hj).within hw hd, h5, h6⟩
  rcases h2.2 with hn | ⟨g, cap, cur, e, hl, hg, rest⟩
  · exact .inl hn
  · have hlt := h3 g (by injection e with e1; rw [e1]; rfl)
    have hsz : g < w.heap.size := Blk.lt (t := _) hg
    exact .inr ⟨g, cap, cur, e, hl, (hw.2.2.2.2 g hsz (by omega)).trans hg, rest⟩
theorem small_mem {ls : List (List Int)} (h : SmallE ls) : ∀ t ∈ ls, t.length ≤ 100 := fun t ht => by
  obtain ⟨j, hj, rfl⟩ := List.mem_iff_getElem.1 ht
  rw [← li_get hj]; have := h.2 j; omega
theorem end_smallz {ls : List (List Int)} {z : Int} (h : SmallE ls) (h0 : 0 ≤ z) (h1 : z ≤ 10000) (k : Nat) : 0 ≤ endS (ls.take k) z ∧ endS (ls.take k) z ≤ 20000 := by
  have hb := endS_bound (ls.take k) z (fun t ht => small_mem h t (List.mem_of_mem_take ht))
  have hl : (ls.take k).length ≤ ls.length := by rw [List.length_take]; omega
  have := h.1
  omega
theorem end_small {ls : List (List Int)} (h : SmallE ls) (_ : (0 : Int) ≤ 1) (_ : (1 : Int) ≤ 1) (k : Nat) : 0 ≤ endS (ls.take k) 1 ∧ endS (ls.take k) 1 ≤ 10000 := by
  have hb := endS_bound (ls.take k) 1 (fun t ht => small_mem h t (List.mem_of_mem_take ht))
  have hl : (ls.take k).length ≤ ls.length := by rw [List.length_take]; omega
  have := h.1
  omega
set_option maxHeartbeats 4000000 in
theorem walk_EdelmanGreene (a0 : Int) (A0 : Option Addr) (n0 c0 : Nat) (xs : List Int) (w : World) (_ha0 : -9223372036854775808 ≤ a0 ∧ a0 ≤ 9223372036854775807) (hs0 : SI w A0 n0 xs) (_hfit0 : Fits xs) :
    Calls Try.prog 3 #[.int .i64 a0, .slice A0 n0 c0] w fun e w' => e = .returned (.bool true) ∧ Below w.heap.size w w' := by
  by_cases hbig0 : 1048576 < n0
  · go_enter Try.func3, Try.ntmps3
    go_wp2
    go_ret
    exact ⟨rfl, Below.refl _ _⟩
  have HN0 := Lib.hid (show n0 ≤ 1048576 by omega)
  have HB0 := Lib.hid (Below.refl w.heap.size w)
  obtain ⟨bb, hbb⟩ : ∃ bb, bb = egB a0 xs := ⟨_, rfl⟩
  obtain ⟨P, hPE⟩ : ∃ P, P = egA a0 xs := ⟨_, rfl⟩
  obtain ⟨Q, hQE⟩ : ∃ Q, Q = egC a0 xs := ⟨_, rfl⟩
  have HPE := Lib.hid hPE.symm
  have HQE := Lib.hid hQE.symm
  clear hPE hQE
  go_enter Try.func3, Try.ntmps3
  go_wp2_with fail
  refine (toIntS_fr _ _ _ xs _ (hs0.below HB0.out (Nat.le_refl _)) (by have := HN0.out; omega)).mono ?_
  rintro e w1 ⟨Ap, np, cp, rfl, ho, hb⟩
  have hsz := hb.size
  have HB1 := Lib.hid (HB0.out.trans (hb.mono HB0.out.size))
  have Op_1 := Lib.hid ho
  have Lp_1 := Lib.hid (Nat.le_refl w1.heap.size)
  have Ep : np ≤ 1048576 := by have := ho.len; have := hs0.1; have := HN0.out; omega
  clear HB0 hb hsz ho
  go_wp2_with fail
  refine (specEg_any a0 _ _ _ xs _ Op_1.out.si (by omega)).mono ?_
  rintro e w2 ⟨AW1, nW1, cW1, AW2, nW2, cW2, rfl, h1, h2, hb⟩
  rw [HPE.out] at h1
  rw [HQE.out] at h2
  rw [← hbb]
  have hsz := hb.size
  have HB2 := Lib.hid (HB1.out.trans (hb.mono HB1.out.size))
  have Op_2 := Lib.hid (Op_1.out.below hb Lp_1.out)
  have Lp_2 := Lib.hid (Nat.le_trans Lp_1.out hsz)
  have OW1_2 := Lib.hid h1
  have LW1_2 := Lib.hid (Nat.le_refl w2.heap.size)
  have OW2_2 := Lib.hid h2
  have LW2_2 := Lib.hid (Nat.le_refl w2.heap.size)
  have GW := Lib.hid (Nat.le_refl w2.heap.size)
  clear Op_1 Lp_1 HB1 hb hsz h1 h2
  have SW : Hid (w.heap.size ≤ w2.heap.size) := Lib.hid HB2.out.size
  go_wp2_with fail
  refine (toIntS_fr _ _ _ xs _ (hs0.below HB2.out (Nat.le_refl _)) (by have := HN0.out; omega)).mono ?_
  rintro e w3 ⟨Ax, nx, cx, rfl, ho, hb⟩
  have hsz := hb.size
  have HB3 := Lib.hid (HB2.out.trans (hb.mono HB2.out.size))
  have OW1_3 := Lib.hid (OW1_2.out.below hb LW1_2.out)
  have LW1_3 := Lib.hid (Nat.le_trans LW1_2.out hsz)
  have OW2_3 := Lib.hid (OW2_2.out.below hb LW2_2.out)
  have LW2_3 := Lib.hid (Nat.le_trans LW2_2.out hsz)
  have hszx := hsz
  have Ox_3 := Lib.hid ho
  have Lx_3 := Lib.hid (Nat.le_refl w3.heap.size)
  have Ex : nx ≤ 1048576 := by have := ho.len; have := hs0.1; have := HN0.out; omega
  clear OW1_2 LW1_2 OW2_2 LW2_2 HB2 hb hsz ho
  have Sx : Hid (w.heap.size ≤ w3.heap.size) := Lib.hid HB3.out.size
  go_wp2_with fail
  refine (implEg_any a0 _ _ _ xs _ Ox_3.out.si (by omega)).mono ?_
  rintro e w4 ⟨AV1, nV, cV1, XV1, AV2, cV2, XV2, rfl, h1, h2, hdj, hb, hm1, hm2⟩
  rw [HPE.out] at h1 hm1
  rw [HQE.out] at h2 hm2
  rw [← hbb]
  have hsz := hb.size
  have HB4 := Lib.hid (HB3.out.trans (hb.mono HB3.out.size))
  have OW1_4 := Lib.hid (OW1_3.out.below hb LW1_3.out)
  have LW1_4 := Lib.hid (Nat.le_trans LW1_3.out hsz)
  have OW2_4 := Lib.hid (OW2_3.out.below hb LW2_3.out)
  have LW2_4 := Lib.hid (Nat.le_trans LW2_3.out hsz)
  have Ox_4 := Lib.hid (Ox_3.out.below hb Lx_3.out)
  have Lx_4 := Lib.hid (Nat.le_trans Lx_3.out hsz)
  have OV1_4 := Lib.hid h1
  have LV1_4 := Lib.hid (Nat.le_refl w4.heap.size)
  have OV2_4 := Lib.hid h2
  have LV2_4 := Lib.hid (Nat.le_refl w4.heap.size)
  have DV := Lib.hid hdj
  have GWx : Hid (w2.heap.size ≤ w3.heap.size) := Lib.hid hszx
  have EV1 : nV ≤ 1099511627776 := by have := h1.1; have := hm1.1; omega
  have EV2 : nV ≤ 1099511627776 := EV1
  have HM1 := Lib.hid hm1
  have HM2 := Lib.hid hm2
  have FP : Hid (∀ k, (li P k).length ≤ 1099511627776) := Lib.hid (fun k => Nat.le_trans (hm1.2 k) (by decide))
  have FQ : Hid (∀ k, (li Q k).length ≤ 1099511627776) := Lib.hid (fun k => Nat.le_trans (hm2.2 k) (by decide))
  have EW1 : nW1 ≤ 1099511627776 := by have := OW1_4.out.len; have := hm1.1; omega
  have EW2 : nW2 ≤ 1099511627776 := by have := OW2_4.out.len; have := hm2.1; omega
  have QP : Hid (∀ k, 0 ≤ endS (P.take k) 1 ∧ endS (P.take k) 1 ≤ 10000) := Lib.hid (end_small hm1 (by decide) (by decide))
  clear OW1_3 LW1_3 OW2_3 LW2_3 Ox_3 Lx_3 HB3 hb hsz h1 h2 hdj hm1 hm2
  go_wp2_with fail
  refine (eqIntSS_any _ _ _ _ _ _ P P _ OV1_4.out.rdE OW1_4.out.si EV1 EW1 (fun k _ => FP.out k) (fun k _ => FP.out k)).mono ?_
  rintro e w5 ⟨rfl, hd⟩
  rw [eqLs_self]
  have hb : Below w4.heap.size w4 w5 := hd.below _
  have hsz := hb.size
  have HB5 := Lib.hid (HB4.out.trans (hb.mono HB4.out.size))
  have OW1_5 := Lib.hid (OW1_4.out.below hb LW1_4.out)
  have LW1_5 := Lib.hid (Nat.le_trans LW1_4.out hsz)
  have OW2_5 := Lib.hid (OW2_4.out.below hb LW2_4.out)
  have LW2_5 := Lib.hid (Nat.le_trans LW2_4.out hsz)
  have Ox_5 := Lib.hid (Ox_4.out.below hb Lx_4.out)
  have Lx_5 := Lib.hid (Nat.le_trans Lx_4.out hsz)
  have OV1_5 := Lib.hid (OV1_4.out.below hb LV1_4.out)
  have LV1_5 := Lib.hid (Nat.le_trans LV1_4.out hsz)
  have OV2_5 := Lib.hid (OV2_4.out.below hb LV2_4.out)
  have LV2_5 := Lib.hid (Nat.le_trans LV2_4.out hsz)
  clear OW1_4 LW1_4 OW2_4 LW2_4 Ox_4 Lx_4 OV1_4 LV1_4 OV2_4 LV2_4 HB4 hb hsz hd
  go_wp2_with fail
  refine (eqIntSS_any _ _ _ _ _ _ Q Q _ OV2_5.out.rdE OW2_5.out.si EV2 EW2 (fun k _ => FQ.out k) (fun k _ => FQ.out k)).mono ?_
  rintro e w6 ⟨rfl, hd⟩
  rw [eqLs_self]
  have hb : Below w5.heap.size w5 w6 := hd.below _
  have hsz := hb.size
  have HB6 := Lib.hid (HB5.out.trans (hb.mono HB5.out.size))
  have OW1_6 := Lib.hid (OW1_5.out.below hb LW1_5.out)
  have LW1_6 := Lib.hid (Nat.le_trans LW1_5.out hsz)
  have OW2_6 := Lib.hid (OW2_5.out.below hb LW2_5.out)
  have LW2_6 := Lib.hid (Nat.le_trans LW2_5.out hsz)
  have Ox_6 := Lib.hid (Ox_5.out.below hb Lx_5.out)
  have Lx_6 := Lib.hid (Nat.le_trans Lx_5.out hsz)
  have OV1_6 := Lib.hid (OV1_5.out.below hb LV1_5.out)
  have LV1_6 := Lib.hid (Nat.le_trans LV1_5.out hsz)
  have OV2_6 := Lib.hid (OV2_5.out.below hb LV2_5.out)
  have LV2_6 := Lib.hid (Nat.le_trans LV2_5.out hsz)
  clear OW1_5 LW1_5 OW2_5 LW2_5 Ox_5 Lx_5 OV1_5 LV1_5 OV2_5 LV2_5 HB5 hb hsz hd
  go_wp2_with fail
  refine (toIntS_fr _ _ _ xs _ (hs0.below HB6.out (Nat.le_refl _)) (by have := HN0.out; omega)).mono ?_
  rintro e w7 ⟨Ay, ny, cy, rfl, ho, hb⟩
  have hsz := hb.size
  have HB7 := Lib.hid (HB6.out.trans (hb.mono HB6.out.size))
  have OW1_7 := Lib.hid (OW1_6.out.below hb LW1_6.out)
  have LW1_7 := Lib.hid (Nat.le_trans LW1_6.out hsz)
  have OW2_7 := Lib.hid (OW2_6.out.below hb LW2_6.out)
  have LW2_7 := Lib.hid (Nat.le_trans LW2_6.out hsz)
  have Ox_7 := Lib.hid (Ox_6.out.below hb Lx_6.out)
  have Lx_7 := Lib.hid (Nat.le_trans Lx_6.out hsz)
  have OV1_7 := Lib.hid (OV1_6.out.below hb LV1_6.out)
  have LV1_7 := Lib.hid (Nat.le_trans LV1_6.out hsz)
  have OV2_7 := Lib.hid (OV2_6.out.below hb LV2_6.out)
  have LV2_7 := Lib.hid (Nat.le_trans LV2_6.out hsz)
  have Oy_7 := Lib.hid ho
  have Ly_7 := Lib.hid (Nat.le_refl w7.heap.size)
  have Ey : ny ≤ 1048576 := by have := ho.len; have := hs0.1; have := HN0.out; omega
  clear OW1_6 LW1_6 OW2_6 LW2_6 Ox_6 Lx_6 OV1_6 LV1_6 OV2_6 LV2_6 HB6 hb hsz ho
  go_wp2_with fail
  refine (eqIntS_any _ _ _ _ _ _ xs xs _ Ox_7.out.si Oy_7.out.si (by omega) (by omega)).mono ?_
  rintro e w8 ⟨rfl, hd⟩
  rw [eqL_self]
  have hb : Below w7.heap.size w7 w8 := hd.below _
  have hsz := hb.size
  have HB8 := Lib.hid (HB7.out.trans (hb.mono HB7.out.size))
  have OW1_8 := Lib.hid (OW1_7.out.below hb LW1_7.out)
  have LW1_8 := Lib.hid (Nat.le_trans LW1_7.out hsz)
  have OW2_8 := Lib.hid (OW2_7.out.below hb LW2_7.out)
  have LW2_8 := Lib.hid (Nat.le_trans LW2_7.out hsz)
  have Ox_8 := Lib.hid (Ox_7.out.below hb Lx_7.out)
  have Lx_8 := Lib.hid (Nat.le_trans Lx_7.out hsz)
  have OV1_8 := Lib.hid (OV1_7.out.below hb LV1_7.out)
  have LV1_8 := Lib.hid (Nat.le_trans LV1_7.out hsz)
  have OV2_8 := Lib.hid (OV2_7.out.below hb LV2_7.out)
  have LV2_8 := Lib.hid (Nat.le_trans LV2_7.out hsz)
  have Oy_8 := Lib.hid (Oy_7.out.below hb Ly_7.out)
  have Ly_8 := Lib.hid (Nat.le_trans Ly_7.out hsz)
  clear OW1_7 LW1_7 OW2_7 LW2_7 Ox_7 Lx_7 OV1_7 LV1_7 OV2_7 LV2_7 Oy_7 Ly_7 HB7 hb hsz hd
  go_wp2_with fail
  refine (markIntS_any _ _ _ _ _ xs 1 _ Ox_8.out (by omega) (by omega) (by omega)).mono ?_
  rintro e w9 ⟨rfl, ho, hg⟩
  have hw := Within.of_grown hg (fun b hb => Ox_8.out.lt b hb)
  have hsz := hg.size
  have HB9 := Lib.hid (HB8.out.trans (hw.below SW.out HB8.out.size))
  have OW1_9 := Lib.hid (OW1_8.out.within hw (.inl (Nat.le_refl _)))
  have LW1_9 := Lib.hid (Nat.le_trans LW1_8.out hsz)
  have OW2_9 := Lib.hid (OW2_8.out.within hw (.inl (Nat.le_refl _)))
  have LW2_9 := Lib.hid (Nat.le_trans LW2_8.out hsz)
  have OV1_9 := Lib.hid (OV1_8.out.withinE hw (.inr (Nat.le_refl _)))
  have LV1_9 := Lib.hid (Nat.le_trans LV1_8.out hsz)
  have OV2_9 := Lib.hid (OV2_8.out.withinE hw (.inr (Nat.le_refl _)))
  have LV2_9 := Lib.hid (Nat.le_trans LV2_8.out hsz)
  have hyn : ¬ (1 : Int) + (nx : Int) < 0 := by omega
  clear OW1_8 LW1_8 OW2_8 LW2_8 Ox_8 Lx_8 OV1_8 LV1_8 OV2_8 LV2_8 HB8 hw hg ho hsz
  go_wp2_with fail
  refine (eqIntSS_any _ _ _ _ _ _ P P _ OV1_9.out.rdE OW1_9.out.si EV1 EW1 (fun k _ => FP.out k) (fun k _ => FP.out k)).mono ?_
  rintro e w10 ⟨rfl, hd⟩
  rw [eqLs_self]
  have hb : Below w9.heap.size w9 w10 := hd.below _
  have hsz := hb.size
  have HB10 := Lib.hid (HB9.out.trans (hb.mono HB9.out.size))
  have OW1_10 := Lib.hid (OW1_9.out.below hb LW1_9.out)
  have LW1_10 := Lib.hid (Nat.le_trans LW1_9.out hsz)
  have OW2_10 := Lib.hid (OW2_9.out.below hb LW2_9.out)
  have LW2_10 := Lib.hid (Nat.le_trans LW2_9.out hsz)
  have OV1_10 := Lib.hid (OV1_9.out.below hb LV1_9.out)
  have LV1_10 := Lib.hid (Nat.le_trans LV1_9.out hsz)
  have OV2_10 := Lib.hid (OV2_9.out.below hb LV2_9.out)
  have LV2_10 := Lib.hid (Nat.le_trans LV2_9.out hsz)
  clear OW1_9 LW1_9 OW2_9 LW2_9 OV1_9 LV1_9 OV2_9 LV2_9 HB9 hb hsz hd
  go_wp2_with fail
  refine (eqIntSS_any _ _ _ _ _ _ Q Q _ OV2_10.out.rdE OW2_10.out.si EV2 EW2 (fun k _ => FQ.out k) (fun k _ => FQ.out k)).mono ?_
  rintro e w11 ⟨rfl, hd⟩
  rw [eqLs_self]
  have hb : Below w10.heap.size w10 w11 := hd.below _
  have hsz := hb.size
  have HB11 := Lib.hid (HB10.out.trans (hb.mono HB10.out.size))
  have OW1_11 := Lib.hid (OW1_10.out.below hb LW1_10.out)
  have LW1_11 := Lib.hid (Nat.le_trans LW1_10.out hsz)
  have OW2_11 := Lib.hid (OW2_10.out.below hb LW2_10.out)
  have LW2_11 := Lib.hid (Nat.le_trans LW2_10.out hsz)
  have OV1_11 := Lib.hid (OV1_10.out.below hb LV1_10.out)
  have LV1_11 := Lib.hid (Nat.le_trans LV1_10.out hsz)
  have OV2_11 := Lib.hid (OV2_10.out.below hb LV2_10.out)
  have LV2_11 := Lib.hid (Nat.le_trans LV2_10.out hsz)
  clear OW1_10 LW1_10 OW2_10 LW2_10 OV1_10 LV1_10 OV2_10 LV2_10 HB10 hb hsz hd
  go_wp2_with fail
  refine (markIntSSE_any XV1 _ _ _ _ _ P 1 _ OV1_11.out EV1 (fun k _ => FP.out k) (fun k _ => by have := QP.out k; omega)).mono ?_
  rintro e w12 ⟨rfl, ho, hk, hw⟩
  have hsz := hw.size
  have HB12 := Lib.hid (HB11.out.trans (hw.below Sx.out HB11.out.size))
  have OW1_12 := Lib.hid (OW1_11.out.within hw (.inl GWx.out))
  have LW1_12 := Lib.hid (Nat.le_trans LW1_11.out hsz)
  have OW2_12 := Lib.hid (OW2_11.out.within hw (.inl GWx.out))
  have LW2_12 := Lib.hid (Nat.le_trans LW2_11.out hsz)
  have OV1_12 := Lib.hid ho
  have LV1_12 := Lib.hid (Nat.le_trans LV1_11.out hsz)
  have OV2_12 := Lib.hid (OV2_11.out.keepL LV2_11.out DV.out hk)
  have LV2_12 := Lib.hid (Nat.le_trans LV2_11.out hsz)
  clear OW1_11 LW1_11 OW2_11 LW2_11 OV1_11 LV1_11 OV2_11 LV2_11 HB11 hw hk ho hsz
  obtain ⟨z, hz⟩ : ∃ z, z = endS P 1 := ⟨_, rfl⟩
  have hzb : 0 ≤ z ∧ z ≤ 10000 := by have h := QP.out P.length; rw [List.take_of_length_le (Nat.le_refl _), ← hz] at h; exact h
  rw [← hz]
  have HZ := Lib.hid hz
  have QQ : Hid (∀ k, 0 ≤ endS (Q.take k) z ∧ endS (Q.take k) z ≤ 20000) := Lib.hid (end_smallz HM2.out hzb.1 hzb.2)
  have hzn : ¬ z < 0 := by omega
  clear hz hzb
  go_wp2_with fail
  refine (markIntSSE_any XV2 _ _ _ _ _ Q z _ OV2_12.out EV2 (fun k _ => FQ.out k) (fun k _ => by have := QQ.out k; omega)).mono ?_
  rintro e w13 ⟨rfl, ho, hk, hw⟩
  have hsz := hw.size
  have HB13 := Lib.hid (HB12.out.trans (hw.below Sx.out HB12.out.size))
  have OW1_13 := Lib.hid (OW1_12.out.within hw (.inl GWx.out))
  have LW1_13 := Lib.hid (Nat.le_trans LW1_12.out hsz)
  have OW2_13 := Lib.hid (OW2_12.out.within hw (.inl GWx.out))
  have LW2_13 := Lib.hid (Nat.le_trans LW2_12.out hsz)
  have OV2_13 := Lib.hid ho
  have LV2_13 := Lib.hid (Nat.le_trans LV2_12.out hsz)
  have OV1_13 := Lib.hid (OV1_12.out.keepL LV1_12.out DV.out.symm hk)
  have LV1_13 := Lib.hid (Nat.le_trans LV1_12.out hsz)
  clear OW1_12 LW1_12 OW2_12 LW2_12 OV1_12 LV1_12 OV2_12 LV2_12 HB12 hw hk ho hsz
  obtain ⟨y, hy⟩ : ∃ y, y = endS Q z := ⟨_, rfl⟩
  have hyb : ¬ y < 0 := by have h := QQ.out Q.length; rw [List.take_of_length_le (Nat.le_refl _), ← hy] at h; omega
  have HY := Lib.hid hy
  rw [← hy]
  clear hy
  go_wp2_with fail
  refine (heldIntSS_yes _ _ _ P 1 _ OV1_13.out.rdE EV1 (fun k _ => FP.out k) (fun k _ => by have := QP.out k; omega)).mono ?_
  rintro e w14 ⟨rfl, hd⟩
  have hb : Below w13.heap.size w13 w14 := hd.below _
  have hsz := hb.size
  have HB14 := Lib.hid (HB13.out.trans (hb.mono HB13.out.size))
  have OW1_14 := Lib.hid (OW1_13.out.below hb LW1_13.out)
  have LW1_14 := Lib.hid (Nat.le_trans LW1_13.out hsz)
  have OW2_14 := Lib.hid (OW2_13.out.below hb LW2_13.out)
  have LW2_14 := Lib.hid (Nat.le_trans LW2_13.out hsz)
  have OV1_14 := Lib.hid (OV1_13.out.below hb LV1_13.out)
  have LV1_14 := Lib.hid (Nat.le_trans LV1_13.out hsz)
  have OV2_14 := Lib.hid (OV2_13.out.below hb LV2_13.out)
  have LV2_14 := Lib.hid (Nat.le_trans LV2_13.out hsz)
  clear OW1_13 LW1_13 OW2_13 LW2_13 OV1_13 LV1_13 OV2_13 LV2_13 HB13 hb hsz hd
  rw [← HZ.out]
  go_wp2_with fail
  refine (heldIntSS_yes _ _ _ Q z _ OV2_14.out.rdE EV2 (fun k _ => FQ.out k) (fun k _ => by have := QQ.out k; omega)).mono ?_
  rintro e w15 ⟨rfl, hd⟩
  have hb : Below w14.heap.size w14 w15 := hd.below _
  have hsz := hb.size
  have HB15 := Lib.hid (HB14.out.trans (hb.mono HB14.out.size))
  have OW1_15 := Lib.hid (OW1_14.out.below hb LW1_14.out)
  have LW1_15 := Lib.hid (Nat.le_trans LW1_14.out hsz)
  have OW2_15 := Lib.hid (OW2_14.out.below hb LW2_14.out)
  have LW2_15 := Lib.hid (Nat.le_trans LW2_14.out hsz)
  have OV1_15 := Lib.hid (OV1_14.out.below hb LV1_14.out)
  have LV1_15 := Lib.hid (Nat.le_trans LV1_14.out hsz)
  have OV2_15 := Lib.hid (OV2_14.out.below hb LV2_14.out)
  have LV2_15 := Lib.hid (Nat.le_trans LV2_14.out hsz)
  clear OW1_14 LW1_14 OW2_14 LW2_14 OV1_14 LV1_14 OV2_14 LV2_14 HB14 hb hsz hd
  rw [← HY.out]
  go_wp2_with fail
  refine (toIntS_fr _ _ _ xs _ (hs0.below HB15.out (Nat.le_refl _)) (by have := HN0.out; omega)).mono ?_
  rintro e w16 ⟨Az, nz, cz, rfl, ho, hb⟩
  have hsz := hb.size
  have HB16 := Lib.hid (HB15.out.trans (hb.mono HB15.out.size))
  have OW1_16 := Lib.hid (OW1_15.out.below hb LW1_15.out)
  have LW1_16 := Lib.hid (Nat.le_trans LW1_15.out hsz)
  have OW2_16 := Lib.hid (OW2_15.out.below hb LW2_15.out)
  have LW2_16 := Lib.hid (Nat.le_trans LW2_15.out hsz)
  have OV1_16 := Lib.hid (OV1_15.out.below hb LV1_15.out)
  have LV1_16 := Lib.hid (Nat.le_trans LV1_15.out hsz)
  have OV2_16 := Lib.hid (OV2_15.out.below hb LV2_15.out)
  have LV2_16 := Lib.hid (Nat.le_trans LV2_15.out hsz)
  have Oz_16 := Lib.hid ho
  have Lz_16 := Lib.hid (Nat.le_refl w16.heap.size)
  have Ez : nz ≤ 1048576 := by have := ho.len; have := hs0.1; have := HN0.out; omega
  clear OW1_15 LW1_15 OW2_15 LW2_15 OV1_15 LV1_15 OV2_15 LV2_15 HB15 hb hsz ho
  go_wp2_with fail
  refine (implEg_any a0 _ _ _ xs _ Oz_16.out.si (by omega)).mono ?_
  rintro e w17 ⟨AZ1, nZ, cZ1, XZ1, AZ2, cZ2, XZ2, rfl, h1, h2, hdj, hb, hm1, hm2⟩
  rw [HPE.out] at h1 hm1
  rw [HQE.out] at h2 hm2
  rw [← hbb]
  have hsz := hb.size
  have HB17 := Lib.hid (HB16.out.trans (hb.mono HB16.out.size))
  have OW1_17 := Lib.hid (OW1_16.out.below hb LW1_16.out)
  have LW1_17 := Lib.hid (Nat.le_trans LW1_16.out hsz)
  have OW2_17 := Lib.hid (OW2_16.out.below hb LW2_16.out)
  have LW2_17 := Lib.hid (Nat.le_trans LW2_16.out hsz)
  have OV1_17 := Lib.hid (OV1_16.out.below hb LV1_16.out)
  have LV1_17 := Lib.hid (Nat.le_trans LV1_16.out hsz)
  have OV2_17 := Lib.hid (OV2_16.out.below hb LV2_16.out)
  have LV2_17 := Lib.hid (Nat.le_trans LV2_16.out hsz)
  have Oz_17 := Lib.hid (Oz_16.out.below hb Lz_16.out)
  have Lz_17 := Lib.hid (Nat.le_trans Lz_16.out hsz)
  have OZ1_17 := Lib.hid h1
  have LZ1_17 := Lib.hid (Nat.le_refl w17.heap.size)
  have OZ2_17 := Lib.hid h2
  have LZ2_17 := Lib.hid (Nat.le_refl w17.heap.size)
  have DZ := Lib.hid hdj
  have GZ : Hid (w16.heap.size ≤ w16.heap.size) := Lib.hid (Nat.le_refl _)
  have EZ1 : nZ ≤ 1099511627776 := by have := h1.1; have := hm1.1; omega
  have EZ2 : nZ ≤ 1099511627776 := EZ1
  clear OW1_16 LW1_16 OW2_16 LW2_16 OV1_16 LV1_16 OV2_16 LV2_16 Oz_16 Lz_16 HB16 hb hsz h1 h2 hdj hm1 hm2
  go_wp2_with fail
  refine (eqIntSS_any _ _ _ _ _ _ P P _ OZ1_17.out.rdE OW1_17.out.si EZ1 EW1 (fun k _ => FP.out k) (fun k _ => FP.out k)).mono ?_
  rintro e w18 ⟨rfl, hd⟩
  rw [eqLs_self]
  have hb : Below w17.heap.size w17 w18 := hd.below _
  have hsz := hb.size
  have HB18 := Lib.hid (HB17.out.trans (hb.mono HB17.out.size))
  have OW1_18 := Lib.hid (OW1_17.out.below hb LW1_17.out)
  have LW1_18 := Lib.hid (Nat.le_trans LW1_17.out hsz)
  have OW2_18 := Lib.hid (OW2_17.out.below hb LW2_17.out)
  have LW2_18 := Lib.hid (Nat.le_trans LW2_17.out hsz)
  have OV1_18 := Lib.hid (OV1_17.out.below hb LV1_17.out)
  have LV1_18 := Lib.hid (Nat.le_trans LV1_17.out hsz)
  have OV2_18 := Lib.hid (OV2_17.out.below hb LV2_17.out)
  have LV2_18 := Lib.hid (Nat.le_trans LV2_17.out hsz)
  have OZ1_18 := Lib.hid (OZ1_17.out.below hb LZ1_17.out)
  have LZ1_18 := Lib.hid (Nat.le_trans LZ1_17.out hsz)
  have OZ2_18 := Lib.hid (OZ2_17.out.below hb LZ2_17.out)
  have LZ2_18 := Lib.hid (Nat.le_trans LZ2_17.out hsz)
  clear OW1_17 LW1_17 OW2_17 LW2_17 OV1_17 LV1_17 OV2_17 LV2_17 OZ1_17 LZ1_17 OZ2_17 LZ2_17 HB17 hb hsz hd
  go_wp2_with fail
  refine (eqIntSS_any _ _ _ _ _ _ Q Q _ OZ2_18.out.rdE OW2_18.out.si EZ2 EW2 (fun k _ => FQ.out k) (fun k _ => FQ.out k)).mono ?_
  rintro e w19 ⟨rfl, hd⟩
  rw [eqLs_self]
  have hb : Below w18.heap.size w18 w19 := hd.below _
  have hsz := hb.size
  have HB19 := Lib.hid (HB18.out.trans (hb.mono HB18.out.size))
  have OW1_19 := Lib.hid (OW1_18.out.below hb LW1_18.out)
  have LW1_19 := Lib.hid (Nat.le_trans LW1_18.out hsz)
  have OW2_19 := Lib.hid (OW2_18.out.below hb LW2_18.out)
  have LW2_19 := Lib.hid (Nat.le_trans LW2_18.out hsz)
  have OV1_19 := Lib.hid (OV1_18.out.below hb LV1_18.out)
  have LV1_19 := Lib.hid (Nat.le_trans LV1_18.out hsz)
  have OV2_19 := Lib.hid (OV2_18.out.below hb LV2_18.out)
  have LV2_19 := Lib.hid (Nat.le_trans LV2_18.out hsz)
  have OZ1_19 := Lib.hid (OZ1_18.out.below hb LZ1_18.out)
  have LZ1_19 := Lib.hid (Nat.le_trans LZ1_18.out hsz)
  have OZ2_19 := Lib.hid (OZ2_18.out.below hb LZ2_18.out)
  have LZ2_19 := Lib.hid (Nat.le_trans LZ2_18.out hsz)
  clear OW1_18 LW1_18 OW2_18 LW2_18 OV1_18 LV1_18 OV2_18 LV2_18 OZ1_18 LZ1_18 OZ2_18 LZ2_18 HB18 hb hsz hd
  go_wp2_with fail
  refine (heldIntSS_yes _ _ _ P 1 _ OV1_19.out.rdE EV1 (fun k _ => FP.out k) (fun k _ => by have := QP.out k; omega)).mono ?_
  rintro e w20 ⟨rfl, hd⟩
  have hb : Below w19.heap.size w19 w20 := hd.below _
  have hsz := hb.size
  have HB20 := Lib.hid (HB19.out.trans (hb.mono HB19.out.size))
  have OW1_20 := Lib.hid (OW1_19.out.below hb LW1_19.out)
  have LW1_20 := Lib.hid (Nat.le_trans LW1_19.out hsz)
  have OW2_20 := Lib.hid (OW2_19.out.below hb LW2_19.out)
  have LW2_20 := Lib.hid (Nat.le_trans LW2_19.out hsz)
  have OV1_20 := Lib.hid (OV1_19.out.below hb LV1_19.out)
  have LV1_20 := Lib.hid (Nat.le_trans LV1_19.out hsz)
  have OV2_20 := Lib.hid (OV2_19.out.below hb LV2_19.out)
  have LV2_20 := Lib.hid (Nat.le_trans LV2_19.out hsz)
  have OZ1_20 := Lib.hid (OZ1_19.out.below hb LZ1_19.out)
  have LZ1_20 := Lib.hid (Nat.le_trans LZ1_19.out hsz)
  have OZ2_20 := Lib.hid (OZ2_19.out.below hb LZ2_19.out)
  have LZ2_20 := Lib.hid (Nat.le_trans LZ2_19.out hsz)
  clear OW1_19 LW1_19 OW2_19 LW2_19 OV1_19 LV1_19 OV2_19 LV2_19 OZ1_19 LZ1_19 OZ2_19 LZ2_19 HB19 hb hsz hd
  rw [← HZ.out]
  go_wp2_with fail
  refine (heldIntSS_yes _ _ _ Q z _ OV2_20.out.rdE EV2 (fun k _ => FQ.out k) (fun k _ => by have := QQ.out k; omega)).mono ?_
  rintro e w21 ⟨rfl, hd⟩
  have hb : Below w20.heap.size w20 w21 := hd.below _
  have hsz := hb.size
  have HB21 := Lib.hid (HB20.out.trans (hb.mono HB20.out.size))
  have OW1_21 := Lib.hid (OW1_20.out.below hb LW1_20.out)
  have LW1_21 := Lib.hid (Nat.le_trans LW1_20.out hsz)
  have OW2_21 := Lib.hid (OW2_20.out.below hb LW2_20.out)
  have LW2_21 := Lib.hid (Nat.le_trans LW2_20.out hsz)
  have OV1_21 := Lib.hid (OV1_20.out.below hb LV1_20.out)
  have LV1_21 := Lib.hid (Nat.le_trans LV1_20.out hsz)
  have OV2_21 := Lib.hid (OV2_20.out.below hb LV2_20.out)
  have LV2_21 := Lib.hid (Nat.le_trans LV2_20.out hsz)
  have OZ1_21 := Lib.hid (OZ1_20.out.below hb LZ1_20.out)
  have LZ1_21 := Lib.hid (Nat.le_trans LZ1_20.out hsz)
  have OZ2_21 := Lib.hid (OZ2_20.out.below hb LZ2_20.out)
  have LZ2_21 := Lib.hid (Nat.le_trans LZ2_20.out hsz)
  clear OW1_20 LW1_20 OW2_20 LW2_20 OV1_20 LV1_20 OV2_20 LV2_20 OZ1_20 LZ1_20 OZ2_20 LZ2_20 HB20 hb hsz hd
  rw [← HY.out]
  go_wp2
  go_ret
  exact ⟨rfl, HB21.out⟩

end Go.Proofs.Ytjpoliibljjhnaa

/-
  The helpers of the exact laws at terms: copying, measuring, comparing. Conditions: lengths below 2^40.
-/

namespace Go.Proofs.Ytjpoliibljjhnaa
open Go.RowKit

theorem grown_set (w : World) (a : Addr) (u : Value) : w.grownBy (w.setCell a u) (some a.block) :=
  ⟨rfl, rfl, rfl, by simp [World.setCell], fun k _ hk => Below.heap_setCell w a u k (fun e => hk (by rw [e]))⟩
theorem results_row {P : Program} {fn : Func} {p : Tmp} {ty : TypeId} (h : fn.results = #[.cell p ty]) (tmps : Array Value) (w : World) (g : Nat) (t : TypeId) (cs : Array Value) (d : TypeDesc)
    (hp : tmps.getD p undef = .pointer (some ⟨g, 0, none⟩)) (hg : Blk w g t cs) (hu : P.underlying ty = some d) (hd : (match d with | .struct _ | .array _ _ => true | _ => false) = true) (hi : (P.info? ty).map (·.size) = some cs.size) :
    (results fn tmps).run P w = .ok (.agg cs) w :=
  results_cell_row h tmps w g t cs (0, 0) d hp hg hu hd hi

/-- The terms copied after k rounds. -/
def copT (ts : List Tm) (k : Nat) : List Tm := ts.take k ++ zeroT (ts.length - k)
theorem copT_zero (ts : List Tm) : copT ts 0 = zeroT ts.length := by simp [copT]
theorem copT_all (ts : List Tm) : copT ts ts.length = ts := by simp [copT, zeroT]
theorem copT_succ {ts : List Tm} {k : Nat} (h : k < ts.length) : (copT ts k).set k ((tm ts k).1, (tm ts k).2) = copT ts (k + 1) := by
  unfold copT zeroT
  have hl : (ts.take k).length = k := by simp; omega
  rw [List.set_append_right _ _ (by omega), hl]
  have e : ts.length - k = (ts.length - (k + 1)) + 1 := by omega
  rw [e, List.replicate_succ, Nat.sub_self, List.set_cons_zero, take_tm h, List.append_assoc]
  rfl

end Go.Proofs.Ytjpoliibljjhnaa

/-
  The helpers of the exact laws at terms: measuring and comparing. Conditions: lengths below 2^40.
-/




namespace Go.Proofs.Ytjpoliibljjhnaa
open Go.RowKit

section
variable {P : Program} {ops : Array Oper} {C : World → Prop} {Q : Act → Prop} {a : Act} {o : Oper} {rest : List Oper}
theorem tq_class {id : Nat} {Q : Exit → Act → World → Prop} {w : World} {l : List Oper} (C : World → Prop) (hm : P.follows .mixedOrders = true) (hB : Region.lexB .any l.toArray = true) (hC : C w.drew)
    (h : wpQuiet P l.toArray C (fun a' => ∀ w', C w' → Q .normal a' w') l a) : (Code.region id l.toArray true).wp P Q a w :=
  wp_region_quiet hm hB hC (by simpa using h)
theorem tq_move (hg : o.guard = none) (x : Operand) (ho : o.op = .move x) (h : wpQuiet P ops C Q rest (a.put o.dst (a.eval x))) : wpQuiet P ops C Q (o :: rest) a := by
  refine wpQuiet_step fun K hK => ?_
  simp only [Region.wanted, hg, if_true]
  refine ⟨a.eval x, fun w _ => ?_, hK _ h⟩
  unfold Oper.quietAt execOp
  simp only [ho]
  exact ⟨rfl, rfl⟩
theorem tq_load (hg : o.guard = none) (ty : TypeId) (x : Operand) (ho : o.op = .load ty x) (b off : Nat) (hx : a.eval x = .pointer (some ⟨b, off, none⟩)) (cs : List Value) (d : TypeDesc)
    (hb : ∀ w, C w → w.rangeAt b off cs) (hu : P.underlying ty = some d) (hd : d.isRow = true) (hi : (P.info? ty).map (·.size) = some cs.length) (h : wpQuiet P ops C Q rest (a.put o.dst (.agg cs.toArray))) : wpQuiet P ops C Q (o :: rest) a := by
  refine wpQuiet_step fun K hK => ?_
  simp only [Region.wanted, hg, if_true]
  refine ⟨.agg cs.toArray, fun w hw => ?_, hK _ h⟩
  unfold Oper.quietAt execOp
  simp only [ho, hx, Instr.loadAt, Instr.sureAddr, Sem.run_bind, Sem.run_pure, Result.andThen_ok, run_loadVar_mid w b off ty cs d (hb w hw) hu hd hi]
  exact ⟨rfl, rfl⟩
end
/-- Worlds in which nothing has turned that was there. -/
def AfterT (wr w' : World) : Prop := Below wr.heap.size wr w'

/-- Equality of two lists of terms as a Bool. -/
def eqTs (ts us : List Tm) : Bool := decide (ts = us)
theorem eqTs_self (ts : List Tm) : eqTs ts ts = true := by simp [eqTs]
theorem eqTs_len {ts us : List Tm} (h : ts.length ≠ us.length) : eqTs ts us = false := by
  simp only [eqTs, decide_eq_false_iff_not]; intro e; exact h (by rw [e])
theorem eqTs_all {ts us : List Tm} (hl : ts.length = us.length) (h : ∀ j, j < ts.length → tm ts j = tm us j) : eqTs ts us = true := by
  simp only [eqTs, decide_eq_true_eq]
  exact tm_ext hl h
theorem eqTs_ne {ts us : List Tm} {k : Nat} (h : tm ts k ≠ tm us k) : eqTs ts us = false := by
  simp only [eqTs, decide_eq_false_iff_not]; intro e; exact h (by rw [e])
theorem TS.range {w : World} {b o k : Nat} {v : Value} {x : Int} (h0 : w.cell? ⟨b, o + k * 2, none⟩ = some v) (h1 : w.cell? ⟨b, o + k * 2 + 1, none⟩ = some (.int .i64 x)) : w.rangeAt b (o + k * 2) [v, .int .i64 x] := by
  intro j u hj
  match j, hj with
  | 0, hj => simp at hj; subst hj; exact h0
  | 1, hj => simp at hj; subst hj; exact h1

end Go.Proofs.Ytjpoliibljjhnaa

/-
  Worlds that have only grown: draws, and new blocks behind the heap. Plain lemmas. No conditions.
-/


namespace Go.Proofs.Ytjpoliibljjhnaa
open Go.RowKit

/-- w' is w, some draws on, with new blocks behind. -/
def Grew (w w' : World) : Prop := ∃ q os, w' = Go.Sort.grow (w.drewN q) os
theorem Grew.refl (w : World) : Grew w w := ⟨0, #[], by simp [Go.Sort.grow, World.drewN]⟩
theorem Grew.drewN {w w' : World} (h : Grew w w') (n : Nat) : Grew w (w'.drewN n) := by
  obtain ⟨q, os, rfl⟩ := h
  exact ⟨q + n, os, by simp [Go.Sort.grow, World.drewN, Nat.add_assoc]⟩
theorem Grew.drew {w w' : World} (h : Grew w w') : Grew w w'.drew := by
  obtain ⟨q, os, rfl⟩ := h
  exact ⟨q + 1, os, by simp [Go.Sort.grow, World.drewN, World.drew, Nat.add_assoc]⟩
theorem Grew.alloc {w w' : World} (h : Grew w w') (o : Obj) : Grew w (w'.alloc o) := by
  obtain ⟨q, os, rfl⟩ := h
  exact ⟨q, os ++ #[o], by rw [Go.Sort.alloc_eq_grow, Go.Sort.grow_grow]⟩
theorem Grew.trans {w w' w'' : World} (h : Grew w w') (h' : Grew w' w'') : Grew w w'' := by
  obtain ⟨q, os, rfl⟩ := h
  obtain ⟨q', os', rfl⟩ := h'
  exact ⟨q + q', os ++ os', by simp [Go.Sort.grow, World.drewN, Nat.add_assoc, Array.append_assoc]⟩
theorem Grew.of_drawn {w w' : World} (h : Drawn w w') : Grew w w' := by
  obtain ⟨m, rfl⟩ := h
  exact ⟨m, #[], (Go.Sort.grow_empty _).symm⟩
theorem Grew.below {w w' : World} (h : Grew w w') : Below w.heap.size w w' := by
  obtain ⟨q, os, rfl⟩ := h
  exact ⟨rfl, rfl, rfl, by simp, fun k hk => Go.Sort.heap_grow_old (w.drewN q) os hk⟩
theorem Grew.size {w w' : World} (h : Grew w w') : w.heap.size ≤ w'.heap.size := h.below.size
end Go.Proofs.Ytjpoliibljjhnaa

/-
  Keys of exponents and comparison of terms, on both sides. No conditions but the exponents' bounds.
-/




namespace Go.Proofs.Ytjpoliibljjhnaa
open Go.RowKit

theorem nth_drop (e : List Int) (m k : Nat) : nth (e.drop m) k = nth e (m + k) := by simp [nth, List.getD]
theorem keyD {e : List Int} (hl : e.length = 7) (hs : smallE e = true) (m : Nat) : 0 ≤ key7 (e.drop m) ∧ key7 (e.drop m) ≤ 562949953421312 := by
  have h := key7_bound (e.drop m) (fun k hk => by rw [nth_drop]; exact smallE_nth hs (by simp at hk; omega))
  have h1 : (128 : Int) ^ (e.drop m).length ≤ 562949953421312 := by
    have : (e.drop m).length ≤ 7 := by simp; omega
    generalize (e.drop m).length = q at this
    match q, this with
    | 0, _ | 1, _ | 2, _ | 3, _ | 4, _ | 5, _ | 6, _ | 7, _ => decide
  omega
/-- What comparing two numbers answers. -/
def cmpI (x y : Int) : Int := if x < y then -1 else if y < x then 1 else 0
theorem isNaN_any (x : Int) (w : World) : Calls Try.prog 199 #[.int .i64 x] w fun r w' => r = .returned (.bool false) ∧ w' = w := by
  go_enter Try.func199, Try.ntmps199
  go_wp2
  go_ret
  exact ⟨rfl, rfl⟩
theorem compare_any (x y : Int) (w : World) : Calls Try.prog 119 #[.int .i64 x, .int .i64 y] w fun r w' => r = .returned (.int .i64 (cmpI x y)) ∧ w' = w := by
  unfold cmpI
  by_cases h1 : x < y
  · rw [if_pos h1]
    go_enter Try.func119, Try.ntmps119
    go_wp2_with (go_at_call 199; refine (isNaN_any _ _).mono ?_; rintro e w1 ⟨rfl, rfl⟩)
    go_ret
    exact ⟨rfl, rfl⟩
  · rw [if_neg h1]
    by_cases h2 : y < x
    · rw [if_pos h2]
      go_enter Try.func119, Try.ntmps119
      go_wp2_with (go_at_call 199; refine (isNaN_any _ _).mono ?_; rintro e w1 ⟨rfl, rfl⟩)
      go_ret
      exact ⟨rfl, rfl⟩
    · rw [if_neg h2]
      go_enter Try.func119, Try.ntmps119
      go_wp2_with (go_at_call 199; refine (isNaN_any _ _).mono ?_; rintro e w1 ⟨rfl, rfl⟩)
      go_ret
      exact ⟨rfl, rfl⟩

theorem compare_q (x y : Int) (w : World) : Calls Try.prog 119 #[.int .i64 x, .int .i64 y] w fun r w' => r = .returned (.int .i64 (cmpI x y)) ∧ Drawn w w' :=
  (compare_any x y w).mono fun _ _ ⟨he, hw⟩ => ⟨he, hw ▸ Drawn.refl _⟩
/-- What comparing two terms answers: the greater key stands first. -/
def cmpK (a b : List Int) : Int := if key7 b < key7 a then -1 else if key7 a < key7 b then 1 else 0
theorem smallE_P {e : List Int} (h : smallE e = true) : ∀ k, k < e.length → 0 ≤ nth e k ∧ nth e k ≤ 127 := fun _ hk => by have := smallE_nth h hk; omega
/-- What comparing two lists of exponents answers: from the last one, the greater one stands first. -/
def cmpX (xs ys : List Int) : Nat → Int
  | 0 => 0
  | m + 1 => if nth xs m = nth ys m then cmpX xs ys m else cmpI (nth ys m) (nth xs m)
theorem cmpX_eq {xs ys : List Int} {m : Nat} (h : nth xs m = nth ys m) : cmpX xs ys (m + 1) = cmpX xs ys m := by
  show (if nth xs m = nth ys m then cmpX xs ys m else cmpI (nth ys m) (nth xs m)) = _; rw [if_pos h]
theorem cmpX_ne {xs ys : List Int} {m : Nat} (h : ¬ nth xs m = nth ys m) : cmpX xs ys (m + 1) = cmpI (nth ys m) (nth xs m) := by
  show (if nth xs m = nth ys m then cmpX xs ys m else cmpI (nth ys m) (nth xs m)) = _; rw [if_neg h]
theorem cmpK_eq {a b : List Int} (hl : a.length = b.length) (h : ∀ j, j < a.length → nth a j = nth b j) : cmpK a b = 0 := by
  have e : a = b := by
    apply List.ext_getElem hl
    intro j h1 h2
    have := h j h1
    rwa [nth_get h1, nth_get h2] at this
  subst e
  unfold cmpK
  rw [if_neg (by omega), if_neg (by omega)]
theorem cmpK_ne {a b : List Int} {i : Nat} (ha : a.length = 7) (hb : b.length = 7) (sa : ∀ k, k < 7 → 0 ≤ nth a k ∧ nth a k ≤ 127) (sb : ∀ k, k < 7 → 0 ≤ nth b k ∧ nth b k ≤ 127) (hi : i < 7) (h : ∀ j, i < j → j < 7 → nth a j = nth b j) (hne : nth a i ≠ nth b i) :
    cmpK a b = cmpI (nth b i) (nth a i) := by
  unfold cmpK cmpI
  by_cases h1 : nth b i < nth a i
  · have := key7_lt b a i (by omega) (by rw [hb]; exact sb) (by rw [ha]; exact sa) (by omega) (fun j h1 h2 => (h j h1 (by omega)).symm) h1
    rw [if_pos this, if_pos h1]
  · have := key7_lt a b i (by omega) (by rw [ha]; exact sa) (by rw [hb]; exact sb) (by omega) (fun j h1 h2 => h j h1 (by omega)) (by omega)
    rw [if_neg (by omega), if_pos this, if_neg h1, if_pos (by omega)]
theorem cmpX_key {a b : List Int} (ha : a.length = 7) (hb : b.length = 7) (sa : ∀ k, k < 7 → 0 ≤ nth a k ∧ nth a k ≤ 127) (sb : ∀ k, k < 7 → 0 ≤ nth b k ∧ nth b k ≤ 127) :
    ∀ m, m ≤ 7 → (∀ j, m ≤ j → j < 7 → nth a j = nth b j) → cmpX a b m = cmpK a b
  | 0, _, h => (cmpK_eq (by omega) fun j hj => h j (by omega) (by omega)).symm
  | m + 1, hm, h => by
    by_cases e : nth a m = nth b m
    · rw [cmpX_eq e]
      exact cmpX_key ha hb sa sb m (by omega) fun j h1 h2 => by
        rcases Nat.lt_or_ge m j with h3 | h3
        · exact h j (by omega) h2
        · obtain rfl : j = m := by omega
          exact e
    · rw [cmpX_ne e]
      exact (cmpK_ne ha hb sa sb (by omega) (fun j h1 h2 => h j (by omega) h2) e).symm

theorem arrC_map {l : List Int} (hl : l.length = 7) : arrC l = (l.map (Value.int .i64)).toArray := by
  match l, hl with
  | [a, b, c, d, e, f, g], _ => rfl
theorem quiet_loadcell1 {C : World → Prop} {a : Act} {o : Oper} {K : Act → Prop} (ty : TypeId) (x : Operand) (ho : o.op = .load ty x) (b off : Nat) (hx : a.eval x = .pointer (some ⟨b, off, none⟩)) (v : Value)
    (hb : ∀ w, C w → w.cell? ⟨b, off, none⟩ = some v) (hu : ty = 22) (hk : K (a.put o.dst v)) : o.quiet Try.prog a C K :=
  ⟨_, fun w hw => by
    subst hu
    have hc := hb w hw
    have hl : (loadVar 22 ⟨b, off, none⟩).run Try.prog w = .ok v w := by
      simp [loadVar, isAgg, underlying, Try.underlying22, hc, Result.andThen]
    unfold Oper.quietAt execOp
    simp only [ho, hx, Instr.loadAt, Instr.sureAddr, Sem.run_bind, Sem.run_pure, Result.andThen_ok, hl]
    exact ⟨rfl, rfl⟩, hk⟩
/-- A load at a class of worlds, the load's own run given. -/
theorem quiet_loadrun {C : World → Prop} {a : Act} {o : Oper} {K : Act → Prop} (ty : TypeId) (x : Operand) (ho : o.op = .load ty x) (b off : Nat) (hx : a.eval x = .pointer (some ⟨b, off, none⟩)) (v : Value)
    (hb : ∀ w, C w → (loadVar ty ⟨b, off, none⟩).run Try.prog w = .ok v w) (hk : K (a.put o.dst v)) : o.quiet Try.prog a C K :=
  ⟨_, fun w hw => by
    have hl := hb w hw
    unfold Oper.quietAt execOp
    simp only [ho, hx, Instr.loadAt, Instr.sureAddr, Sem.run_bind, Sem.run_pure, Result.andThen_ok, hl]
    exact ⟨rfl, rfl⟩, hk⟩
end Go.Proofs.Ytjpoliibljjhnaa

/-
  The order of lists: number by number, what stands first is less. Conditions: lengths below 2^40.
-/

namespace Go.Proofs.Ytjpoliibljjhnaa
open Go.RowKit

/-- What comparing two lists answers. -/
def cmpL : List Int → List Int → Int
  | [], [] => 0
  | [], _ :: _ => -1
  | _ :: _, [] => 1
  | x :: xs, y :: ys => if x < y then -1 else if y < x then 1 else cmpL xs ys
theorem drop_nth {xs : List Int} {k : Nat} (h : k < xs.length) : xs.drop k = nth xs k :: xs.drop (k + 1) := by
  rw [List.drop_eq_getElem_cons h, nth_get h]
theorem cmpL_at {xs ys : List Int} {k : Nat} (hx : k < xs.length) (hy : k < ys.length) : cmpL (xs.drop k) (ys.drop k) = if nth xs k < nth ys k then -1 else if nth ys k < nth xs k then 1 else cmpL (xs.drop (k + 1)) (ys.drop (k + 1)) := by
  rw [drop_nth hx, drop_nth hy]; rfl
theorem cmpL_short {xs ys : List Int} {k : Nat} (hx : k = xs.length) (hy : k < ys.length) : cmpL (xs.drop k) (ys.drop k) = -1 := by
  rw [drop_nth hy, List.drop_of_length_le (by omega)]; rfl
theorem cmpL_long {xs ys : List Int} {k : Nat} (hx : k < xs.length) (hy : k = ys.length) : cmpL (xs.drop k) (ys.drop k) = 1 := by
  rw [drop_nth hx, List.drop_of_length_le (by omega : ys.length ≤ k)]; rfl
theorem cmpL_end {xs ys : List Int} {k : Nat} (hx : k = xs.length) (hy : k = ys.length) : cmpL (xs.drop k) (ys.drop k) = 0 := by
  rw [List.drop_of_length_le (by omega), List.drop_of_length_le (by omega)]; rfl
def lessL (xs ys : List Int) : Bool := decide (cmpL xs ys < 0)
theorem lessL_yes {xs ys : List Int} (h : cmpL xs ys = -1) : lessL xs ys = true := by simp [lessL, h]
theorem lessL_no {xs ys : List Int} (h : 0 ≤ cmpL xs ys) : lessL xs ys = false := by simp [lessL]; exact h

set_option maxHeartbeats 1600000 in
theorem l1Less_any (A A2 : Option Addr) (n c n2 c2 : Nat) (xs ys : List Int) (w : World) (hs : SI w A n xs) (hs2 : SI w A2 n2 ys) (hn : n ≤ 1099511627776) (hn2 : n2 ≤ 1099511627776) :
    Calls Try.prog 186 #[.slice A n c, .slice A2 n2 c2] w fun e w' => e = .returned (.bool (lessL xs ys)) ∧ Drawn w w' := by
  have HL := Lib.hid (And.intro hs.1 hs2.1)
  go_enter Try.func186, Try.ntmps186
  go_wp2
  go_loopw [5] (fun iv wr => ∃ k : Nat, k ≤ n ∧ k ≤ n2 ∧ iv = .int .i64 k ∧ Drawn w wr ∧ cmpL xs ys = cmpL (xs.drop k) (ys.drop k))
    (fun iv _ => n - (intOf iv).toNat)
  case atStart => exact ⟨0, Nat.zero_le _, Nat.zero_le _, rfl, Drawn.refl _, by simp⟩
  case round =>
    obtain ⟨k, hk, hk2, rfl, hD, hq⟩ := hrel
    have HD := Lib.hid hD
    have HQ := Lib.hid hq
    have h1 := hD.si hs
    have h2 := hD.si hs2
    clear hD hq hs hs2
    by_cases hlt : k < n
    · have hlI : (k : Int) < (n : Int) := by omega
      by_cases hlt2 : k < n2
      · have hlI2 : (k : Int) < (n2 : Int) := by omega
        obtain ⟨b, o, rfl, _, hc⟩ := h1.at_ (by omega)
        obtain ⟨b2, o2, rfl, _, hc2⟩ := h2.at_ (by omega)
        have hx := hc k hlt
        have hy := hc2 k hlt2
        have HS := cmpL_at (xs := xs) (ys := ys) (k := k) (by have := HL.out; omega) (by have := HL.out; omega)
        obtain ⟨x, hx0⟩ : ∃ x, x = nth xs k := ⟨_, rfl⟩
        obtain ⟨y, hy0⟩ : ∃ y, y = nth ys k := ⟨_, rfl⟩
        rw [← hx0] at hx HS
        rw [← hy0] at hy HS
        rw [← HQ.out] at HS
        have HS := Lib.hid HS
        clear h1 h2 hc hc2 hx0 hy0
        by_cases hxy : x = y
        · subst hxy
          have HS2 := Lib.hid (HS.out.trans ((if_neg (by omega)).trans (if_neg (by omega))))
          go_wp2_with fail
          go_quiet (fail)
          go_wp2
          go_roundw
          case rel => exact ⟨k + 1, by omega, by omega, by go_num, HD.out.drewN _, HS2.out⟩
          case measure => simp [intOf]; omega
        · have hne : (x != y) = true := by simpa using hxy
          by_cases hlt3 : x < y
          · have HF := Lib.hid (lessL_yes (HS.out.trans (if_pos hlt3)))
            go_wp2_with fail
            go_quiet (fail)
            go_wp2_with fail
            go_quiet (fail)
            go_wp2
            go_ret
            exact ⟨ret_bool HF.out.symm, by first | exact (HD.out.drewN _).drewN _ | exact HD.out.drewN _⟩
          · have HF := Lib.hid (lessL_no (Int.le_of_eq (HS.out.trans ((if_neg hlt3).trans (if_pos (by omega)))).symm |> Int.le_trans (by decide)))
            go_wp2_with fail
            go_quiet (fail)
            go_wp2_with fail
            have hlt4 : ¬ x < y := by omega
            go_quiet (fail)
            go_wp2
            go_ret
            exact ⟨ret_bool HF.out.symm, by first | exact (HD.out.drewN _).drewN _ | exact HD.out.drewN _⟩
      · have hk2n : k = n2 := by omega
        have hlI2 : ¬ (k : Int) < (n2 : Int) := by omega
        have hn2n : ¬ (n : Int) < (n2 : Int) := by omega
        have HF := Lib.hid (lessL_no (by rw [HQ.out, cmpL_long (by have := HL.out; omega) (by have := HL.out; omega)]; decide))
        clear h1 h2
        go_wp2
        go_ret
        exact ⟨ret_bool HF.out.symm, HD.out⟩
    · have hkn : k = n := by omega
      have hlI : ¬ (k : Int) < (n : Int) := by omega
      clear h1 h2
      by_cases hlt2 : n < n2
      · have hn2n : (n : Int) < (n2 : Int) := by omega
        have HF := Lib.hid (lessL_yes (by rw [HQ.out, cmpL_short (by have := HL.out; omega) (by have := HL.out; omega)]))
        go_wp2
        go_ret
        exact ⟨ret_bool HF.out.symm, HD.out⟩
      · have hn2n : ¬ (n : Int) < (n2 : Int) := by omega
        have HF := Lib.hid (lessL_no (by rw [HQ.out, cmpL_end (by have := HL.out; omega) (by have := HL.out; omega)]; decide))
        go_wp2
        go_ret
        exact ⟨ret_bool HF.out.symm, HD.out⟩

set_option maxHeartbeats 1600000 in
theorem sliceCompare_any (A A2 : Option Addr) (n c n2 c2 : Nat) (xs ys : List Int) (w : World) (hs : SI w A n xs) (hs2 : SI w A2 n2 ys) (hn : n ≤ 1099511627776) (hn2 : n2 ≤ 1099511627776) :
    Calls Try.prog 102 #[.slice A n c, .slice A2 n2 c2] w fun e w' => e = .returned (.int .i64 (cmpL xs ys)) ∧ Drawn w w' := by
  have HL := Lib.hid (And.intro hs.1 hs2.1)
  go_enter Try.func102, Try.ntmps102
  go_wp2
  go_loopw [11] (fun iv wr => ∃ k : Nat, k ≤ n ∧ k ≤ n2 ∧ iv = .int .i64 k ∧ Drawn w wr ∧ cmpL xs ys = cmpL (xs.drop k) (ys.drop k))
    (fun iv _ => n - (intOf iv).toNat)
  case atStart => exact ⟨0, Nat.zero_le _, Nat.zero_le _, rfl, Drawn.refl _, by simp⟩
  case round =>
    obtain ⟨k, hk, hk2, rfl, hD, hq⟩ := hrel
    have HD := Lib.hid hD
    have HQ := Lib.hid hq
    have h1 := hD.si hs
    have h2 := hD.si hs2
    clear hD hq hs hs2
    by_cases hlt : k < n
    · have hlI : (k : Int) < (n : Int) := by omega
      obtain ⟨b, o, rfl, _, hc⟩ := h1.at_ (by omega)
      have hx := hc k hlt
      obtain ⟨x, hx0⟩ : ∃ x, x = nth xs k := ⟨_, rfl⟩
      rw [← hx0] at hx
      by_cases hlt2 : k < n2
      · have hlI2 : (k : Int) < (n2 : Int) := by omega
        obtain ⟨b2, o2, rfl, _, hc2⟩ := h2.at_ (by omega)
        have hy := hc2 k hlt2
        have HS := cmpL_at (xs := xs) (ys := ys) (k := k) (by have := HL.out; omega) (by have := HL.out; omega)
        obtain ⟨y, hy0⟩ : ∃ y, y = nth ys k := ⟨_, rfl⟩
        rw [← hx0] at HS
        rw [← hy0] at hy HS
        rw [← HQ.out] at HS
        have HS := Lib.hid HS
        have HC := Lib.hid (fun w => compare_any x y w)
        clear h1 h2 hc hc2 hx0 hy0
        by_cases hlt3 : x < y
        · have HF := Lib.hid (HS.out.trans (if_pos hlt3))
          have HC2 := HC.out
          rw [show cmpI x y = -1 from if_pos hlt3] at HC2
          have HC3 := Lib.hid HC2
          clear HC2 HC
          go_wp2_with (go_at_call 119; refine (HC3.out _).mono ?_; rintro e w1 ⟨rfl, rfl⟩)
          go_ret
          exact ⟨by rw [HF.out]; try rfl, HD.out⟩
        · by_cases hlt4 : y < x
          · have HF := Lib.hid (HS.out.trans ((if_neg hlt3).trans (if_pos hlt4)))
            have HC2 := HC.out
            rw [show cmpI x y = 1 from (if_neg hlt3).trans (if_pos hlt4)] at HC2
            have HC3 := Lib.hid HC2
            clear HC2 HC
            go_wp2_with (go_at_call 119; refine (HC3.out _).mono ?_; rintro e w1 ⟨rfl, rfl⟩)
            go_ret
            exact ⟨by rw [HF.out]; try rfl, HD.out⟩
          · have HF := Lib.hid (HS.out.trans ((if_neg hlt3).trans (if_neg hlt4)))
            have HC2 := HC.out
            rw [show cmpI x y = 0 from (if_neg hlt3).trans (if_neg hlt4)] at HC2
            have HC3 := Lib.hid HC2
            clear HC2 HC
            go_wp2_with (go_at_call 119; refine (HC3.out _).mono ?_; rintro e w1 ⟨rfl, rfl⟩)
            go_roundw
            case rel => exact ⟨k + 1, by omega, by omega, by go_num, HD.out, HF.out⟩
            case measure => simp [intOf]; omega
      · have hk2n : k = n2 := by omega
        subst hk2n
        have HF : Hid (cmpL xs ys = 1) := Lib.hid (by rw [HQ.out, cmpL_long (by have := HL.out; omega) (by have := HL.out; omega)])
        clear h1 h2 hc hx0
        go_wp2
        go_ret
        exact ⟨by rw [HF.out]; try rfl, HD.out⟩
    · have hkn : k = n := by omega
      have hlI : ¬ (k : Int) < (n : Int) := by omega
      clear h1 h2
      by_cases hlt2 : n < n2
      · have hn2n : (n : Int) < (n2 : Int) := by omega
        have HF : Hid (cmpL xs ys = -1) := Lib.hid (by rw [HQ.out, cmpL_short (by have := HL.out; omega) (by have := HL.out; omega)])
        go_wp2
        go_ret
        exact ⟨by rw [HF.out]; try rfl, HD.out⟩
      · have hn2n : ¬ (n : Int) < (n2 : Int) := by omega
        have HF : Hid (cmpL xs ys = 0) := Lib.hid (by rw [HQ.out, cmpL_end (by have := HL.out; omega) (by have := HL.out; omega)])
        go_wp2
        go_ret
        exact ⟨by rw [HF.out]; try rfl, HD.out⟩
end Go.Proofs.Ytjpoliibljjhnaa

/-
  Lists of lists in ascending order without a list twice: two with the same members are one; a list put in. No conditions.
-/


namespace Go.Proofs.Ytjpoliibljjhnaa
open Go.RowKit

theorem cmpL_self : ∀ xs : List Int, cmpL xs xs = 0
  | [] => rfl
  | x :: xs => by show (if x < x then -1 else if x < x then 1 else cmpL xs xs) = 0; rw [if_neg (by omega), if_neg (by omega)]; exact cmpL_self xs
theorem cmpL_swap : ∀ xs ys : List Int, cmpL ys xs = - cmpL xs ys
  | [], [] => rfl
  | [], _ :: _ => rfl
  | _ :: _, [] => rfl
  | x :: xs, y :: ys => by
    show (if y < x then -1 else if x < y then 1 else cmpL ys xs) = - (if x < y then -1 else if y < x then 1 else cmpL xs ys)
    by_cases h1 : x < y
    · rw [if_neg (by omega), if_pos h1, if_pos h1]; rfl
    · by_cases h2 : y < x
      · rw [if_pos h2, if_neg h1, if_pos h2]
      · rw [if_neg h2, if_neg h1, if_neg h1, if_neg h2]; exact cmpL_swap xs ys
theorem cmpL_eq : ∀ {xs ys : List Int}, cmpL xs ys = 0 → xs = ys
  | [], [], _ => rfl
  | [], _ :: _, h => by simp [cmpL] at h
  | _ :: _, [], h => by simp [cmpL] at h
  | x :: xs, y :: ys, h => by
    unfold cmpL at h
    by_cases h1 : x < y
    · rw [if_pos h1] at h; omega
    · by_cases h2 : y < x
      · rw [if_neg h1, if_pos h2] at h; omega
      · rw [if_neg h1, if_neg h2] at h
        rw [cmpL_eq h, show x = y by omega]
theorem cmpL_tr : ∀ {xs ys zs : List Int}, cmpL xs ys < 0 → cmpL ys zs < 0 → cmpL xs zs < 0
  | [], [], _, h, _ => by simp [cmpL] at h
  | [], _ :: _, [], _, h => by simp [cmpL] at h
  | [], _ :: _, _ :: _, _, _ => by simp [cmpL]
  | _ :: _, [], _, h, _ => by simp [cmpL] at h
  | _ :: _, _ :: _, [], _, h => by simp [cmpL] at h
  | x :: xs, y :: ys, z :: zs, h1, h2 => by
    unfold cmpL at h1 h2 ⊢
    by_cases a1 : x < y
    · by_cases b1 : y < z
      · rw [if_pos (by omega)]; omega
      · by_cases b2 : z < y
        · rw [if_neg b1, if_pos b2] at h2; omega
        · rw [if_pos (by omega)]; omega
    · by_cases a2 : y < x
      · rw [if_neg a1, if_pos a2] at h1; omega
      · rw [if_neg a1, if_neg a2] at h1
        by_cases b1 : y < z
        · rw [if_pos (by omega)]; omega
        · by_cases b2 : z < y
          · rw [if_neg b1, if_pos b2] at h2; omega
          · rw [if_neg b1, if_neg b2] at h2
            rw [if_neg (by omega), if_neg (by omega)]
            exact cmpL_tr h1 h2
theorem lessL_iff {xs ys : List Int} : lessL xs ys = true ↔ cmpL xs ys < 0 := by simp [lessL]
theorem lessL_nf {xs ys : List Int} : lessL xs ys = false ↔ 0 ≤ cmpL xs ys := by simp [lessL]
theorem lessL_irr (xs : List Int) : lessL xs xs = false := by rw [lessL_nf, cmpL_self]; exact Int.le_refl _
theorem lessL_tr {xs ys zs : List Int} (h1 : lessL xs ys = true) (h2 : lessL ys zs = true) : lessL xs zs = true := lessL_iff.2 (cmpL_tr (lessL_iff.1 h1) (lessL_iff.1 h2))
theorem lessL_tot {xs ys : List Int} (h1 : lessL xs ys = false) (hne : xs ≠ ys) : lessL ys xs = true := by
  rw [lessL_nf] at h1
  rw [lessL_iff, cmpL_swap xs ys]
  have : cmpL xs ys ≠ 0 := fun h => hne (cmpL_eq h)
  omega
/-- Strictly ascending. -/
def AscL (l : List (List Int)) : Prop := l.Pairwise fun a b => lessL a b = true
theorem AscL.nil : AscL [] := List.Pairwise.nil
theorem AscL.uniq : ∀ {l m : List (List Int)}, AscL l → AscL m → (∀ z, z ∈ l ↔ z ∈ m) → l = m
  | [], [], _, _, _ => rfl
  | [], y :: m, _, _, h => by have := (h y).2 (List.mem_cons_self ..); simp at this
  | x :: l, [], _, _, h => by have := (h x).1 (List.mem_cons_self ..); simp at this
  | x :: l, y :: m, hl, hm, h => by
    have h1 := List.pairwise_cons.1 hl
    have h2 := List.pairwise_cons.1 hm
    have e : x = y := by
      rcases List.mem_cons.1 ((h x).1 (List.mem_cons_self ..)) with e | e
      · exact e
      · rcases List.mem_cons.1 ((h y).2 (List.mem_cons_self ..)) with e' | e'
        · exact e'.symm
        · have a := h2.1 x e
          have b := h1.1 y e'
          have := lessL_tr a b
          rw [lessL_irr] at this; cases this
    subst e
    congr 1
    refine AscL.uniq h1.2 h2.2 fun z => ⟨fun hz => ?_, fun hz => ?_⟩
    · rcases List.mem_cons.1 ((h z).1 (List.mem_cons_of_mem _ hz)) with e | e
      · subst e; have := h1.1 _ hz; rw [lessL_irr] at this; cases this
      · exact e
    · rcases List.mem_cons.1 ((h z).2 (List.mem_cons_of_mem _ hz)) with e | e
      · subst e; have := h2.1 _ hz; rw [lessL_irr] at this; cases this
      · exact e
/-- What the library's sort leaves, where no list comes twice. -/
theorem AscL.sorted {us ts : List (List Int)} (hp : us.Perm ts) (hs : us.Pairwise fun a b => 0 ≤ cmpL b a) (hn : ts.Nodup) : AscL us := by
  have hnu : us.Nodup := hp.nodup_iff.2 hn
  refine (hs.and (List.nodup_iff_pairwise_ne.1 hnu)).imp fun {a b} h => ?_
  exact lessL_tot (lessL_nf.2 h.1) (fun e => h.2 e.symm)
/-- The place before which a list is put in. -/
def plcU (l : List (List Int)) (x : List Int) : Nat := (l.takeWhile fun y => lessL y x).length
theorem plcU_le (l : List (List Int)) (x : List Int) : plcU l x ≤ l.length := (List.takeWhile_sublist _).length_le
theorem plcU_is {x : List Int} : ∀ (l : List (List Int)) (k : Nat), k ≤ l.length → (∀ j, j < k → lessL (li l j) x = true) → (k = l.length ∨ lessL (li l k) x = false) → plcU l x = k
  | [], k, hk, _, _ => by
    have : k = 0 := by simpa using hk
    subst this; rfl
  | y :: r, 0, _, _, h2 => by
    rcases h2 with h | h
    · simp at h
    · have h' : lessL y x = false := h
      simp [plcU, h']
  | y :: r, k + 1, hk, h1, h2 => by
    have h0 : lessL y x = true := h1 0 (by omega)
    have ih := plcU_is r k (by simpa using hk) (fun j hj => h1 (j + 1) (by omega)) (by
      rcases h2 with h | h
      · exact .inl (by simpa using h)
      · exact .inr h)
    have e : plcU (y :: r) x = plcU r x + 1 := by simp [plcU, h0]
    rw [e, ih]
/-- A list put into an ascending list of lists, unless it is there. -/
def insU (l : List (List Int)) (x : List Int) : List (List Int) :=
  if plcU l x < l.length ∧ li l (plcU l x) = x then l else l.take (plcU l x) ++ x :: l.drop (plcU l x)
theorem insU_cons_lt {y x : List Int} {r : List (List Int)} (h : lessL y x = true) : insU (y :: r) x = y :: insU r x := by
  have e : plcU (y :: r) x = plcU r x + 1 := by simp [plcU, h]
  unfold insU
  rw [e]
  have e2 : li (y :: r) (plcU r x + 1) = li r (plcU r x) := rfl
  rw [e2]
  by_cases hc : plcU r x < r.length ∧ li r (plcU r x) = x
  · rw [if_pos hc, if_pos ⟨by simp; omega, hc.2⟩]
  · rw [if_neg hc, if_neg (fun h => hc ⟨by have := h.1; simp at this; omega, h.2⟩)]; rfl
theorem insU_cons_eq {x : List Int} {r : List (List Int)} : insU (x :: r) x = x :: r := by
  have e : plcU (x :: r) x = 0 := by simp [plcU, lessL_irr]
  unfold insU
  rw [e, if_pos ⟨by simp, rfl⟩]
theorem insU_cons_gt {y x : List Int} {r : List (List Int)} (h : lessL y x = false) (hne : y ≠ x) : insU (y :: r) x = x :: y :: r := by
  have e : plcU (y :: r) x = 0 := by simp [plcU, h]
  unfold insU
  rw [e, if_neg (fun hc => hne hc.2)]; rfl
theorem insU_mem {x z : List Int} : ∀ l : List (List Int), z ∈ insU l x ↔ z = x ∨ z ∈ l
  | [] => by simp [insU, plcU]
  | y :: r => by
    by_cases h : lessL y x = true
    · rw [insU_cons_lt h, List.mem_cons, insU_mem r, List.mem_cons]
      exact ⟨fun h => by rcases h with h | h | h <;> simp [h], fun h => by rcases h with h | h | h <;> simp [h]⟩
    · have hf : lessL y x = false := by simpa using h
      by_cases e : y = x
      · subst e; rw [insU_cons_eq]; simp
      · rw [insU_cons_gt hf e]; simp
theorem AscL.ins {x : List Int} : ∀ {l : List (List Int)}, AscL l → AscL (insU l x)
  | [], _ => by simp [insU, plcU, AscL]
  | y :: r, hl => by
    have h1 := List.pairwise_cons.1 hl
    by_cases h : lessL y x = true
    · rw [insU_cons_lt h]
      refine List.pairwise_cons.2 ⟨fun z hz => ?_, AscL.ins h1.2⟩
      rcases (insU_mem r).1 hz with e | e
      · subst e; exact h
      · exact h1.1 z e
    · have hf : lessL y x = false := by simpa using h
      by_cases e : y = x
      · subst e; rw [insU_cons_eq]; exact hl
      · rw [insU_cons_gt hf e]
        have hxy := lessL_tot hf e
        refine List.pairwise_cons.2 ⟨fun z hz => ?_, hl⟩
        rcases List.mem_cons.1 hz with e | e
        · subst e; exact hxy
        · exact lessL_tr hxy (h1.1 z e)
theorem insU_len (l : List (List Int)) (x : List Int) : (insU l x).length ≤ l.length + 1 := by
  have := plcU_le l x
  unfold insU
  split
  · omega
  · simp; omega
end Go.Proofs.Ytjpoliibljjhnaa

/-
  What covers a permutation: both orders of looking give one ascending list. No conditions but those named.
-/




namespace Go.Proofs.Ytjpoliibljjhnaa
open Go.RowKit

/-- Exchanging two places makes longer by one. -/
def covB (xs : List Int) (i j : Nat) : Bool := decide (lenL (swapL xs i j) = lenL xs + 1)
theorem swapL_inj {xs : List Int} (h : isPermP xs) {i j i' j' : Nat} (hij : i < j) (hj : j < xs.length) (hij' : i' < j') (hj' : j' < xs.length) (e : swapL xs i j = swapL xs i' j') : i = i' ∧ j = j' := by
  have hi : nth (swapL xs i j) i = nth (swapL xs i' j') i := by rw [e]
  have hk : nth (swapL xs i j) j = nth (swapL xs i' j') j := by rw [e]
  rw [swapL_nth (by omega) hj (by omega), swapL_nth (by omega) hj' (by omega)] at hi hk
  rw [if_neg (by omega), if_pos rfl] at hi
  rw [if_pos rfl] at hk
  have hne : nth xs i ≠ nth xs j := pp_ne h hij hj
  have h1 : i = i' ∨ i = j' := by
    by_cases a : i = j'
    · exact .inr a
    · by_cases b : i = i'
      · exact .inl b
      · rw [if_neg a, if_neg b] at hi; exact absurd hi.symm hne
  have h2 : j = i' ∨ j = j' := by
    by_cases a : j = j'
    · exact .inr a
    · by_cases b : j = i'
      · exact .inl b
      · rw [if_neg a, if_neg b] at hk; exact absurd hk hne
  omega
/-- The program's order: the second place outside, the first one inside. -/
def covR (xs : List Int) (j : Nat) : Nat → List (List Int)
  | 0 => []
  | i + 1 => if covB xs i j = true then covR xs j i ++ [swapL xs i j] else covR xs j i
def covJ (xs : List Int) : Nat → List (List Int)
  | 0 => []
  | j + 1 => covJ xs j ++ covR xs j j
theorem covR_mem {xs : List Int} {j : Nat} {z : List Int} : ∀ i, z ∈ covR xs j i ↔ ∃ s, s < i ∧ covB xs s j = true ∧ z = swapL xs s j
  | 0 => by simp [covR]
  | i + 1 => by
    unfold covR
    by_cases hc : covB xs i j = true
    · rw [if_pos hc, List.mem_append, covR_mem i, List.mem_singleton]
      constructor
      · rintro (⟨s, h1, h2, h3⟩ | h)
        · exact ⟨s, by omega, h2, h3⟩
        · exact ⟨i, by omega, hc, h⟩
      · rintro ⟨s, h1, h2, h3⟩
        by_cases e : s = i
        · subst e; exact .inr h3
        · exact .inl ⟨s, by omega, h2, h3⟩
    · rw [if_neg hc, covR_mem i]
      constructor
      · rintro ⟨s, h1, h2, h3⟩; exact ⟨s, by omega, h2, h3⟩
      · rintro ⟨s, h1, h2, h3⟩
        have : s ≠ i := fun e => hc (e ▸ h2)
        exact ⟨s, by omega, h2, h3⟩
theorem covJ_mem {xs z : List Int} : ∀ j, z ∈ covJ xs j ↔ ∃ s t, s < t ∧ t < j ∧ covB xs s t = true ∧ z = swapL xs s t
  | 0 => by simp [covJ]
  | j + 1 => by
    unfold covJ
    rw [List.mem_append, covJ_mem j, covR_mem]
    constructor
    · rintro (⟨s, t, h1, h2, h3, h4⟩ | ⟨s, h1, h2, h3⟩)
      · exact ⟨s, t, h1, by omega, h3, h4⟩
      · exact ⟨s, j, h1, by omega, h2, h3⟩
    · rintro ⟨s, t, h1, h2, h3, h4⟩
      by_cases e : t = j
      · subst e; exact .inr ⟨s, h1, h3, h4⟩
      · exact .inl ⟨s, t, h1, by omega, h3, h4⟩
theorem covR_nodup {xs : List Int} (h : isPermP xs) {j : Nat} (hj : j < xs.length) : ∀ i, i ≤ j → (covR xs j i).Nodup
  | 0, _ => by simp [covR]
  | i + 1, hi => by
    unfold covR
    split
    · rw [List.nodup_append]
      refine ⟨covR_nodup h hj i (by omega), by simp, fun a ha b hb e => ?_⟩
      rw [List.mem_singleton] at hb
      obtain ⟨s, h1, _, h3⟩ := (covR_mem i).1 ha
      have := swapL_inj h (show s < j by omega) hj (show i < j by omega) hj (by rw [← h3, ← hb, e])
      omega
    · exact covR_nodup h hj i (by omega)
theorem covJ_nodup {xs : List Int} (h : isPermP xs) : ∀ j, j ≤ xs.length → (covJ xs j).Nodup
  | 0, _ => by simp [covJ]
  | j + 1, hj => by
    unfold covJ
    rw [List.nodup_append]
    refine ⟨covJ_nodup h j (by omega), covR_nodup h (by omega) j (Nat.le_refl _), fun a ha b hb e => ?_⟩
    obtain ⟨s, t, h1, h2, _, h4⟩ := (covJ_mem j).1 ha
    obtain ⟨s', h1', _, h3'⟩ := (covR_mem j).1 hb
    have := swapL_inj h h1 (by omega) h1' (by omega) (by rw [← h4, ← h3', e])
    omega
theorem covR_len (xs : List Int) (j : Nat) : ∀ i, (covR xs j i).length ≤ i
  | 0 => by simp [covR]
  | i + 1 => by have := covR_len xs j i; unfold covR; split <;> simp <;> omega
theorem covJ_len (xs : List Int) : ∀ j, (covJ xs j).length ≤ j * j
  | 0 => by simp [covJ]
  | j + 1 => by
    have h1 := covJ_len xs j
    have h2 := covR_len xs j j
    unfold covJ
    rw [List.length_append, Nat.mul_add, Nat.add_mul]
    omega
/-- The document's order: the first place outside, each list put in where it belongs. -/
def covI (xs : List Int) (acc : List (List Int)) (i : Nat) : Nat → List (List Int)
  | 0 => acc
  | t + 1 => if covB xs i (i + 1 + t) = true then insU (covI xs acc i t) (swapL xs i (i + 1 + t)) else covI xs acc i t
def covO (xs : List Int) : Nat → List (List Int)
  | 0 => []
  | i + 1 => covI xs (covO xs i) i (xs.length - (i + 1))
theorem covI_asc {xs : List Int} {acc : List (List Int)} (h : AscL acc) (i : Nat) : ∀ t, AscL (covI xs acc i t)
  | 0 => h
  | t + 1 => by
    unfold covI
    split
    · exact (covI_asc h i t).ins
    · exact covI_asc h i t
theorem covO_asc (xs : List Int) : ∀ i, AscL (covO xs i)
  | 0 => AscL.nil
  | i + 1 => covI_asc (covO_asc xs i) i _
theorem covI_mem {xs : List Int} {acc : List (List Int)} {i : Nat} {z : List Int} : ∀ t, z ∈ covI xs acc i t ↔ z ∈ acc ∨ ∃ s, s < t ∧ covB xs i (i + 1 + s) = true ∧ z = swapL xs i (i + 1 + s)
  | 0 => by simp [covI]
  | t + 1 => by
    unfold covI
    by_cases hc : covB xs i (i + 1 + t) = true
    · rw [if_pos hc, insU_mem, covI_mem t]
      constructor
      · rintro (h | h | ⟨s, h1, h2, h3⟩)
        · exact .inr ⟨t, by omega, hc, h⟩
        · exact .inl h
        · exact .inr ⟨s, by omega, h2, h3⟩
      · rintro (h | ⟨s, h1, h2, h3⟩)
        · exact .inr (.inl h)
        · by_cases e : s = t
          · subst e; exact .inl h3
          · exact .inr (.inr ⟨s, by omega, h2, h3⟩)
    · rw [if_neg hc, covI_mem t]
      constructor
      · rintro (h | ⟨s, h1, h2, h3⟩)
        · exact .inl h
        · exact .inr ⟨s, by omega, h2, h3⟩
      · rintro (h | ⟨s, h1, h2, h3⟩)
        · exact .inl h
        · have : s ≠ t := fun e => hc (e ▸ h2)
          exact .inr ⟨s, by omega, h2, h3⟩
theorem covO_mem {xs z : List Int} : ∀ i, i ≤ xs.length → (z ∈ covO xs i ↔ ∃ s t, s < t ∧ s < i ∧ t < xs.length ∧ covB xs s t = true ∧ z = swapL xs s t)
  | 0, _ => by simp [covO]
  | i + 1, hi => by
    unfold covO
    rw [covI_mem, covO_mem i (by omega)]
    constructor
    · rintro (⟨s, t, h1, h2, h3, h4, h5⟩ | ⟨s, h1, h2, h3⟩)
      · exact ⟨s, t, h1, by omega, h3, h4, h5⟩
      · exact ⟨i, i + 1 + s, by omega, by omega, by omega, h2, h3⟩
    · rintro ⟨s, t, h1, h2, h3, h4, h5⟩
      by_cases e : s = i
      · subst e
        exact .inr ⟨t - (s + 1), by omega, by rw [show s + 1 + (t - (s + 1)) = t by omega]; exact h4, by rw [show s + 1 + (t - (s + 1)) = t by omega]; exact h5⟩
      · exact .inl ⟨s, t, h1, by omega, h3, h4, h5⟩
theorem covI_len (xs : List Int) (acc : List (List Int)) (i : Nat) : ∀ t, (covI xs acc i t).length ≤ acc.length + t
  | 0 => by simp [covI]
  | t + 1 => by
    have := covI_len xs acc i t
    unfold covI
    split
    · have := insU_len (covI xs acc i t) (swapL xs i (i + 1 + t)); omega
    · omega
theorem covO_len (xs : List Int) : ∀ i, (covO xs i).length ≤ i * xs.length
  | 0 => by simp [covO]
  | i + 1 => by
    have h1 := covO_len xs i
    have h2 := covI_len xs (covO xs i) i (xs.length - (i + 1))
    unfold covO
    rw [Nat.add_mul]
    omega
/-- Sorted, the program's list is the document's. -/
theorem cov_sorted {xs : List Int} {us : List (List Int)} (h : isPermP xs) (hp : us.Perm (covJ xs xs.length)) (hs : us.Pairwise fun a b => 0 ≤ cmpL b a) : us = covO xs xs.length := by
  refine AscL.uniq (AscL.sorted hp hs (covJ_nodup h _ (Nat.le_refl _))) (covO_asc xs _) fun z => ?_
  rw [hp.mem_iff, covJ_mem, covO_mem _ (Nat.le_refl _)]
  constructor
  · rintro ⟨s, t, h1, h2, h3, h4⟩; exact ⟨s, t, h1, by omega, h2, h3, h4⟩
  · rintro ⟨s, t, h1, h2, h3, h4, h5⟩; exact ⟨s, t, h1, h3, h4, h5⟩
/-- Each list is as long as the permutation. -/
theorem covJ_row {xs z : List Int} {j : Nat} (h : z ∈ covJ xs j) : z.length = xs.length := by
  obtain ⟨s, t, _, _, _, e⟩ := (covJ_mem j).1 h
  rw [e, swapL_len]
theorem covO_row {xs z : List Int} {i : Nat} (hi : i ≤ xs.length) (h : z ∈ covO xs i) : z.length = xs.length := by
  obtain ⟨s, t, _, _, _, _, e⟩ := (covO_mem i hi).1 h
  rw [e, swapL_len]
theorem covI_row {xs z : List Int} {i t : Nat} (hi : i ≤ xs.length) (h : z ∈ covI xs (covO xs i) i t) : z.length = xs.length := by
  rcases (covI_mem t).1 h with h | ⟨s, _, _, e⟩
  · exact covO_row hi h
  · rw [e, swapL_len]
theorem li_len_of {ls : List (List Int)} {m : Nat} (h : ∀ z ∈ ls, z.length ≤ m) (k : Nat) : (li ls k).length ≤ m := by
  by_cases hk : k < ls.length
  · rw [li_get hk]; exact h _ (List.getElem_mem hk)
  · have : li ls k = [] := by simp [li, List.getD, List.getElem?_eq_none (Nat.le_of_not_lt hk)]
    rw [this]; simp
theorem covO_few {xs : List Int} (h7 : xs.length ≤ 7) {i t : Nat} (hi : i ≤ 7) (ht : t ≤ 7) : (covO xs i).length ≤ 49 ∧ (covI xs (covO xs i) i t).length ≤ 56 := by
  have h1 := covO_len xs i
  have h2 := covI_len xs (covO xs i) i t
  have h3 : i * xs.length ≤ 7 * 7 := Nat.mul_le_mul hi h7
  omega
def covers (xs : List Int) : List (List Int) := if isPermB xs = true then covO xs xs.length else []
/-- Those of one second place (put in one after the other; sorted). -/
def covQ (xs : List Int) (r : Nat) : Nat → List (List Int)
  | 0 => []
  | q + 1 => if covB xs q r = true then insU (covQ xs r q) (swapL xs q r) else covQ xs r q
theorem covQ_asc (xs : List Int) (r : Nat) : ∀ q, AscL (covQ xs r q)
  | 0 => AscL.nil
  | q + 1 => by
    unfold covQ
    split
    · exact (covQ_asc xs r q).ins
    · exact covQ_asc xs r q
theorem covQ_mem {xs : List Int} {r : Nat} {z : List Int} : ∀ i, z ∈ covQ xs r i ↔ z ∈ covR xs r i
  | 0 => by simp [covQ, covR]
  | i + 1 => by
    unfold covQ covR
    split
    · rw [insU_mem, covQ_mem i, List.mem_append, List.mem_singleton]; exact or_comm
    · exact covQ_mem i
theorem covQ_len (xs : List Int) (r : Nat) : ∀ q, (covQ xs r q).length ≤ q
  | 0 => by simp [covQ]
  | q + 1 => by
    have := covQ_len xs r q
    unfold covQ
    split
    · have := insU_len (covQ xs r q) (swapL xs q r); omega
    · omega
theorem covQ_sorted {xs : List Int} {us : List (List Int)} {r : Nat} (h : isPermP xs) (hr : r < xs.length) (hp : us.Perm (covR xs r r)) (hs : us.Pairwise fun a b => 0 ≤ cmpL b a) : us = covQ xs r r := by
  refine AscL.uniq (AscL.sorted hp hs (covR_nodup h hr _ (Nat.le_refl _))) (covQ_asc xs r _) fun z => ?_
  rw [hp.mem_iff, covQ_mem]
theorem covers_no {xs : List Int} (h : isPermB xs = false) : covers xs = [] := by unfold covers; rw [if_neg (by rw [h]; decide)]
theorem covers_yes {xs : List Int} (h : isPermB xs = true) : covers xs = covO xs xs.length := by unfold covers; rw [if_pos h]
theorem covers_short (xs : List Int) : ShortL (covers xs) := by
  cases h : isPermB xs with
  | false => rw [covers_no h]; exact ShortL.of (by simp) (by simp)
  | true =>
    have h7 := (isPermB_P h).2.1
    rw [covers_yes h]
    exact ShortL.of (by have := (covO_few h7 h7 (Nat.zero_le 7)).1; omega) (fun z hz => by rw [covO_row (Nat.le_refl _) hz]; omega)
end Go.Proofs.Ytjpoliibljjhnaa

/-
  Rows modulo a number: sums of multiples of rows, the columns at which such sums begin, rows in echelon form. No conditions but p ≥ 2 where it is said.
-/

namespace Go.Proofs.Ytjpoliibljjhnaa

/-- Zero modulo p at the first n columns. -/
def Z0 (p : Int) (n : Nat) (v : Nat → Int) : Prop := ∀ k, k < n → p ∣ v k
/-- v is a sum of multiples of the rows, modulo p, at the first n columns. -/
def Sp (p : Int) (n : Nat) : List (Nat → Int) → (Nat → Int) → Prop
  | [], v => Z0 p n v
  | e :: R, v => ∃ a : Int, Sp p n R (fun k => v k - a * e k)
section
variable {p : Int} {n : Nat}
theorem Sp.congr : ∀ {R : List (Nat → Int)} {u v : Nat → Int}, (∀ k, k < n → p ∣ u k - v k) → Sp p n R u → Sp p n R v
  | [], u, v, h, hu => fun k hk => by
    have h1 := h k hk
    have h2 := hu k hk
    have h3 := Int.dvd_sub h2 h1
    have e : u k - (u k - v k) = v k := by omega
    rwa [e] at h3
  | e :: R, u, v, h, ⟨a, hu⟩ => ⟨a, Sp.congr (fun k hk => by
      have h1 := h k hk
      have e1 : u k - a * e k - (v k - a * e k) = u k - v k := by omega
      rwa [e1]) hu⟩
theorem Sp.of_eq {R : List (Nat → Int)} {u v : Nat → Int} (hu : Sp p n R u) (h : ∀ k, k < n → u k = v k) : Sp p n R v :=
  hu.congr fun k hk => by rw [h k hk, Int.sub_self]; exact Int.dvd_zero _
theorem Sp.zero : ∀ {R : List (Nat → Int)} {v : Nat → Int}, Z0 p n v → Sp p n R v
  | [], _, h => h
  | e :: R, v, h => ⟨0, Sp.zero (R := R) fun k hk => by
      have := h k hk
      simpa using this⟩
theorem Sp.add : ∀ {R : List (Nat → Int)} {u v : Nat → Int}, Sp p n R u → Sp p n R v → Sp p n R (fun k => u k + v k)
  | [], _, _, hu, hv => fun k hk => Int.dvd_add (hu k hk) (hv k hk)
  | e :: R, u, v, ⟨a, hu⟩, ⟨b, hv⟩ => ⟨a + b, (Sp.add hu hv).of_eq fun k _ => by
      show u k - a * e k + (v k - b * e k) = u k + v k - (a + b) * e k
      rw [Int.add_mul]; omega⟩
theorem Sp.mul (c : Int) : ∀ {R : List (Nat → Int)} {v : Nat → Int}, Sp p n R v → Sp p n R (fun k => c * v k)
  | [], _, h => fun k hk => Int.dvd_mul_of_dvd_right (h k hk)
  | e :: R, v, ⟨a, h⟩ => ⟨c * a, (Sp.mul c h).of_eq fun k _ => by
      show c * (v k - a * e k) = c * v k - c * a * e k
      rw [Int.mul_sub, Int.mul_assoc]⟩
theorem Sp.mem : ∀ {R : List (Nat → Int)} {e : Nat → Int}, e ∈ R → Sp p n R e
  | f :: R, e, h => by
    rcases List.mem_cons.1 h with rfl | h'
    · exact ⟨1, Sp.zero fun k _ => by
        show p ∣ e k - 1 * e k
        rw [Int.one_mul, Int.sub_self]; exact Int.dvd_zero _⟩
    · exact ⟨0, (Sp.mem h').of_eq fun k _ => by
        show e k = e k - 0 * f k
        rw [Int.zero_mul]; omega⟩
theorem Sp.trans {R' : List (Nat → Int)} : ∀ {R : List (Nat → Int)} {v : Nat → Int}, (∀ r, r ∈ R → Sp p n R' r) → Sp p n R v → Sp p n R' v
  | [], _, _, h => Sp.zero h
  | e :: R, v, hr, ⟨a, h⟩ => by
    have h1 := Sp.trans (fun r hr' => hr r (List.mem_cons_of_mem _ hr')) h
    have h2 := (hr e (List.mem_cons_self ..)).mul a
    exact (h1.add h2).of_eq fun k _ => by
      show v k - a * e k + a * e k = v k
      omega
theorem Sp.same {R R' : List (Nat → Int)} (h : ∀ r, r ∈ R → Sp p n R' r) (h' : ∀ r, r ∈ R' → Sp p n R r) (v : Nat → Int) : Sp p n R v ↔ Sp p n R' v :=
  ⟨Sp.trans h, Sp.trans h'⟩
theorem Sp.sub {R : List (Nat → Int)} {u v : Nat → Int} (hu : Sp p n R u) (hv : Sp p n R v) : Sp p n R (fun k => u k - v k) :=
  (hu.add (hv.mul (-1))).of_eq fun k _ => by
    show u k + -1 * v k = u k - v k
    omega
theorem Sp.zero_at {c : Nat} (hc : c < n) : ∀ {R : List (Nat → Int)} {v : Nat → Int}, (∀ r, r ∈ R → p ∣ r c) → Sp p n R v → p ∣ v c
  | [], _, _, h => h c hc
  | e :: R, v, hr, ⟨a, h⟩ => by
    have h1 := Sp.zero_at hc (fun r hr' => hr r (List.mem_cons_of_mem _ hr')) h
    have h2 := Int.dvd_add h1 (Int.dvd_mul_of_dvd_right (b := a) (hr e (List.mem_cons_self ..)))
    have e1 : v c - a * e c + a * e c = v c := by omega
    rwa [e1] at h2
theorem Sp.app_left {R R' : List (Nat → Int)} {v : Nat → Int} (h : Sp p n R v) : Sp p n (R ++ R') v :=
  h.trans fun _ hr => Sp.mem (List.mem_append_left _ hr)
theorem Sp.app_right {R R' : List (Nat → Int)} {v : Nat → Int} (h : Sp p n R' v) : Sp p n (R ++ R') v :=
  h.trans fun _ hr => Sp.mem (List.mem_append_right _ hr)

/-- The first column other than 0. -/
def Lead (p : Int) (n : Nat) (v : Nat → Int) (j : Nat) : Prop := j < n ∧ ¬ p ∣ v j ∧ ∀ i, i < j → p ∣ v i
theorem Lead.uniq {v : Nat → Int} {i j : Nat} (h : Lead p n v i) (h' : Lead p n v j) : i = j := by
  rcases Nat.lt_trichotomy i j with hlt | rfl | hlt
  · exact absurd (h'.2.2 i hlt) h.2.1
  · rfl
  · exact absurd (h.2.2 j hlt) h'.2.1
/-- Rows with columns of their own: 1 there, 0 before it, and 0 there in all later rows. -/
def Ech (p : Int) (n : Nat) : List ((Nat → Int) × Nat) → Prop
  | [] => True
  | (e, c) :: R => c < n ∧ p ∣ e c - 1 ∧ (∀ i, i < c → p ∣ e i) ∧ (∀ x, x ∈ R → p ∣ x.1 c) ∧ Ech p n R
theorem Ech.at_ : ∀ {R : List ((Nat → Int) × Nat)}, Ech p n R → ∀ {x}, x ∈ R → x.2 < n ∧ p ∣ x.1 x.2 - 1 ∧ ∀ i, i < x.2 → p ∣ x.1 i
  | (e, c) :: R, h, x, hx => by
    rcases List.mem_cons.1 hx with rfl | hx'
    · exact ⟨h.1, h.2.1, h.2.2.1⟩
    · exact Ech.at_ h.2.2.2.2 hx'
theorem one_not (hp : 2 ≤ p) {x : Int} (h : p ∣ x - 1) : ¬ p ∣ x := fun h' => by
  have h1 := Int.dvd_sub h' h
  have e : x - (x - 1) = 1 := by omega
  rw [e] at h1
  have := Int.le_of_dvd (by decide) h1
  omega
theorem Ech.lead_mem (hp : 2 ≤ p) {R : List ((Nat → Int) × Nat)} (h : Ech p n R) {x : (Nat → Int) × Nat} (hx : x ∈ R) : Lead p n x.1 x.2 := by
  obtain ⟨h1, h2, h3⟩ := h.at_ hx
  exact ⟨h1, one_not hp h2, h3⟩
/-- A sum of multiples of such rows is zero, or begins at one of their columns. -/
theorem Ech.lead (hp : 2 ≤ p) : ∀ {R : List ((Nat → Int) × Nat)}, Ech p n R → ∀ {v}, Sp p n (R.map (·.1)) v → Z0 p n v ∨ ∃ x, x ∈ R ∧ Lead p n v x.2
  | [], _, v, hv => .inl hv
  | (e, c) :: R, h, v, ⟨a, hv⟩ => by
    obtain ⟨hc, he, hbe, hz, hR⟩ := h
    have hwc : p ∣ v c - a * e c := Sp.zero_at hc (v := fun k => v k - a * e k) (fun r hr => by
      obtain ⟨x, hx, rfl⟩ := List.mem_map.1 hr
      exact hz x hx) hv
    have ih := Ech.lead hp hR hv
    by_cases ha : p ∣ a
    · have hk : ∀ k, p ∣ v k ↔ p ∣ v k - a * e k := fun k => by
        have hd : p ∣ a * e k := Int.dvd_mul_of_dvd_left ha
        refine ⟨fun hh => Int.dvd_sub hh hd, fun hh => ?_⟩
        have := Int.dvd_add hh hd
        have e1 : v k - a * e k + a * e k = v k := by omega
        rwa [e1] at this
      rcases ih with hz0 | ⟨x, hx, hl⟩
      · exact .inl fun k hk' => (hk k).2 (hz0 k hk')
      · exact .inr ⟨x, List.mem_cons_of_mem _ hx, hl.1, fun hh => hl.2.1 ((hk _).1 hh), fun i hi => (hk i).2 (hl.2.2 i hi)⟩
    · have hvc : ¬ p ∣ v c := fun hh => by
        have h1 := Int.dvd_sub hh hwc
        have e1 : v c - (v c - a * e c) = a * e c := by omega
        rw [e1] at h1
        have h2 := Int.dvd_mul_of_dvd_right (b := a) he
        have h3 := Int.dvd_sub h1 h2
        have e2 : a * e c - a * (e c - 1) = a := by rw [Int.mul_sub]; omega
        rw [e2] at h3
        exact ha h3
      have hbefore : ∀ k, k < c → (p ∣ v k ↔ p ∣ v k - a * e k) := fun k hk => by
        have hd : p ∣ a * e k := Int.dvd_mul_of_dvd_right (hbe k hk)
        refine ⟨fun hh => Int.dvd_sub hh hd, fun hh => ?_⟩
        have := Int.dvd_add hh hd
        have e1 : v k - a * e k + a * e k = v k := by omega
        rwa [e1] at this
      have hfirst : (∀ i, i < c → p ∣ v i) → ∃ x, x ∈ (e, c) :: R ∧ Lead p n v x.2 := fun hb =>
        ⟨(e, c), List.mem_cons_self .., hc, hvc, hb⟩
      rcases ih with hz0 | ⟨x, hx, hl⟩
      · exact .inr (hfirst fun i hi => (hbefore i hi).2 (hz0 i (by omega)))
      · by_cases hlt : x.2 < c
        · exact .inr ⟨x, List.mem_cons_of_mem _ hx, hl.1, fun hh => hl.2.1 ((hbefore _ hlt).1 hh), fun i hi => (hbefore i (by omega)).2 (hl.2.2 i hi)⟩
        · exact .inr (hfirst fun i hi => (hbefore i hi).2 (hl.2.2 i (by omega)))
theorem Ech.snoc : ∀ {R : List ((Nat → Int) × Nat)} {e : Nat → Int} {c : Nat}, Ech p n R → c < n → p ∣ e c - 1 → (∀ i, i < c → p ∣ e i) → (∀ x, x ∈ R → p ∣ e x.2) → Ech p n (R ++ [(e, c)])
  | [], e, c, _, h1, h2, h3, _ => ⟨h1, h2, h3, fun x hx => absurd hx (List.not_mem_nil), trivial⟩
  | (f, d) :: R, e, c, h, h1, h2, h3, h4 => by
    obtain ⟨a1, a2, a3, a4, a5⟩ := h
    refine ⟨a1, a2, a3, fun x hx => ?_, Ech.snoc a5 h1 h2 h3 fun x hx => h4 x (List.mem_cons_of_mem _ hx)⟩
    rcases List.mem_append.1 hx with hx | hx
    · exact a4 x hx
    · rw [List.mem_singleton] at hx
      subst hx
      exact h4 (f, d) (List.mem_cons_self ..)
theorem Ech.nodup (hp : 2 ≤ p) : ∀ {R : List ((Nat → Int) × Nat)}, Ech p n R → (R.map (·.2)).Nodup
  | [], _ => List.nodup_nil
  | (e, c) :: R, h => by
    obtain ⟨a1, a2, a3, a4, a5⟩ := h
    refine List.nodup_cons.2 ⟨fun hm => ?_, Ech.nodup hp a5⟩
    obtain ⟨x, hx, e1⟩ := List.mem_map.1 hm
    have e1' : x.2 = c := e1
    have h1 := a4 x hx
    have h2 := (Ech.lead_mem hp a5 hx).2.1
    rw [e1'] at h2
    exact h2 h1
/-- The columns are those at which sums of multiples begin. -/
theorem Ech.cols (hp : 2 ≤ p) {R : List ((Nat → Int) × Nat)} (h : Ech p n R) (c : Nat) : c ∈ R.map (·.2) ↔ ∃ v, Sp p n (R.map (·.1)) v ∧ Lead p n v c := by
  constructor
  · intro hm
    obtain ⟨x, hx, rfl⟩ := List.mem_map.1 hm
    exact ⟨x.1, Sp.mem (List.mem_map.2 ⟨x, hx, rfl⟩), h.lead_mem hp hx⟩
  · rintro ⟨v, hv, hl⟩
    rcases h.lead hp hv with hz | ⟨x, hx, hl'⟩
    · exact absurd (hz c hl.1) hl.2.1
    · rw [hl.uniq hl']
      exact List.mem_map.2 ⟨x, hx, rfl⟩
theorem nodup_le : ∀ {l m : List Nat}, l.Nodup → (∀ x, x ∈ l → x ∈ m) → l.length ≤ m.length
  | [], _, _, _ => Nat.zero_le _
  | a :: l, m, hd, hs => by
    have ha := hs a (List.mem_cons_self ..)
    obtain ⟨hn, hd'⟩ := List.nodup_cons.1 hd
    have h1 := nodup_le (m := m.erase a) hd' fun x hx => by
      have hne : x ≠ a := fun e => hn (e ▸ hx)
      exact (List.mem_erase_of_ne hne).2 (hs x (List.mem_cons_of_mem _ hx))
    have h2 := List.length_erase_of_mem ha
    have h3 := List.length_pos_of_mem ha
    simp only [List.length_cons]
    omega
theorem Ech.same_cols (hp : 2 ≤ p) {R S : List ((Nat → Int) × Nat)} (hR : Ech p n R) (hS : Ech p n S) (h : ∀ v, Sp p n (R.map (·.1)) v ↔ Sp p n (S.map (·.1)) v) (c : Nat) :
    c ∈ R.map (·.2) ↔ c ∈ S.map (·.2) := by
  rw [hR.cols hp, hS.cols hp]
  exact ⟨fun ⟨v, a, b⟩ => ⟨v, (h v).1 a, b⟩, fun ⟨v, a, b⟩ => ⟨v, (h v).2 a, b⟩⟩
theorem Ech.same_len (hp : 2 ≤ p) {R S : List ((Nat → Int) × Nat)} (hR : Ech p n R) (hS : Ech p n S) (h : ∀ v, Sp p n (R.map (·.1)) v ↔ Sp p n (S.map (·.1)) v) : R.length = S.length := by
  have h1 := nodup_le (hR.nodup hp) fun c hc => (hR.same_cols hp hS h c).1 hc
  have h2 := nodup_le (hS.nodup hp) fun c hc => (hR.same_cols hp hS h c).2 hc
  simp only [List.length_map] at h1 h2
  omega
/-- Sums of multiples that are alike at the columns are alike. -/
theorem Ech.uniq (hp : 2 ≤ p) {R : List ((Nat → Int) × Nat)} (h : Ech p n R) {u v : Nat → Int} (hu : Sp p n (R.map (·.1)) u) (hv : Sp p n (R.map (·.1)) v) (hc : ∀ x, x ∈ R → p ∣ u x.2 - v x.2) :
    ∀ k, k < n → p ∣ u k - v k := by
  rcases h.lead hp (hu.sub hv) with hz | ⟨x, hx, hl⟩
  · exact hz
  · exact absurd (hc x hx) hl.2.1
end
end Go.Proofs.Ytjpoliibljjhnaa

/-
  Rows taken in one by one, modulo a small prime: the program's way, as plain functions, and what it keeps. Conditions: p is 2, 3, 5 or 7.
-/

namespace Go.Proofs.Ytjpoliibljjhnaa

def P7 (p : Int) : Prop := p = 2 ∨ p = 3 ∨ p = 5 ∨ p = 7
theorem P7.two {p : Int} (h : P7 p) : 2 ≤ p := by unfold P7 at h; omega
theorem P7.le {p : Int} (h : P7 p) : p ≤ 7 := by unfold P7 at h; omega
/-- All numbers of a row are rests modulo p. -/
def Rg (p : Int) (x : List Int) : Prop := ∀ j, 0 ≤ nth x j ∧ nth x j < p
theorem nth_past {x : List Int} {j : Nat} (h : x.length ≤ j) : nth x j = 0 := by simp [nth, List.getD, h]
/-- A row plus a multiple of another one. -/
def addT (p : Int) (x : List Int) (f : Int) (y : List Int) : List Int := (List.range x.length).map fun j => (nth x j + f * nth y j) % p
theorem nth_rangeMap {n j : Nat} (f : Nat → Int) (h : j < n) : nth ((List.range n).map f) j = f j := by simp [nth, List.getD, h]
theorem addT_len (p : Int) (x : List Int) (f : Int) (y : List Int) : (addT p x f y).length = x.length := by simp [addT]
theorem addT_nth {p : Int} {x : List Int} {f : Int} {y : List Int} {j : Nat} (h : j < x.length) : nth (addT p x f y) j = (nth x j + f * nth y j) % p := nth_rangeMap _ h
theorem addT_rg {p : Int} (hp : 0 < p) (x : List Int) (f : Int) (y : List Int) : Rg p (addT p x f y) := fun j => by
  by_cases h : j < x.length
  · rw [addT_nth h]; exact ⟨Int.emod_nonneg _ (by omega), Int.emod_lt_of_pos _ hp⟩
  · rw [nth_past (by rw [addT_len]; omega)]; exact ⟨Int.le_refl _, hp⟩
/-- The same, as far as a place. -/
def addK (p : Int) (x : List Int) (f : Int) (y : List Int) (k : Nat) : List Int := (List.range x.length).map fun j => if j < k then (nth x j + f * nth y j) % p else nth x j
theorem addK_len (p : Int) (x : List Int) (f : Int) (y : List Int) (k : Nat) : (addK p x f y k).length = x.length := by simp [addK]
theorem addK_nth {p : Int} {x : List Int} {f : Int} {y : List Int} {k j : Nat} (h : j < x.length) : nth (addK p x f y k) j = if j < k then (nth x j + f * nth y j) % p else nth x j := nth_rangeMap _ h
theorem nth_ext {x y : List Int} (hl : x.length = y.length) (h : ∀ j, j < x.length → nth x j = nth y j) : x = y := by
  apply List.ext_getElem hl
  intro j h1 h2
  have := h j h1
  rwa [nth_get h1, nth_get h2] at this
theorem addK_zero (p : Int) (x : List Int) (f : Int) (y : List Int) : addK p x f y 0 = x :=
  nth_ext (addK_len ..) fun j hj => by rw [addK_nth (by rwa [addK_len] at hj), if_neg (by omega)]
theorem addK_all (p : Int) (x : List Int) (f : Int) (y : List Int) : addK p x f y x.length = addT p x f y :=
  nth_ext (by rw [addK_len, addT_len]) fun j hj => by
    rw [addK_len] at hj
    rw [addK_nth hj, if_pos hj, addT_nth hj]
theorem nth_set_at {x : List Int} {k : Nat} (h : k < x.length) (v : Int) (j : Nat) : nth (x.set k v) j = if j = k then v else nth x j := by
  unfold nth
  rw [List.getD_eq_getElem?_getD, List.getD_eq_getElem?_getD, List.getElem?_set]
  by_cases e : k = j
  · subst e; simp [h]
  · rw [if_neg e, if_neg (fun hh => e hh.symm)]
theorem addK_succ {p : Int} {x : List Int} {f : Int} {y : List Int} {k : Nat} (h : k < x.length) : (addK p x f y k).set k ((nth x k + f * nth y k) % p) = addK p x f y (k + 1) :=
  nth_ext (by rw [List.length_set, addK_len, addK_len]) fun j hj => by
    rw [List.length_set, addK_len] at hj
    rw [nth_set_at (by rw [addK_len]; exact h), addK_nth hj, addK_nth hj]
    by_cases e : j = k
    · subst e; rw [if_pos rfl, if_pos (by omega)]
    · rw [if_neg e]
      by_cases hlt : j < k
      · rw [if_pos hlt, if_pos (by omega)]
      · rw [if_neg hlt, if_neg (by omega)]
theorem addK_rg {p : Int} (hp : 0 < p) {x : List Int} (hx : Rg p x) (f : Int) (y : List Int) (k : Nat) : Rg p (addK p x f y k) := fun j => by
  by_cases h : j < x.length
  · rw [addK_nth h]
    split
    · exact ⟨Int.emod_nonneg _ (by omega), Int.emod_lt_of_pos _ hp⟩
    · exact hx j
  · rw [nth_past (by rw [addK_len]; omega)]; exact ⟨Int.le_refl _, hp⟩
theorem emod_dvd (p x : Int) : p ∣ x % p - x := by
  refine ⟨-(x / p), ?_⟩
  have := Int.mul_ediv_add_emod x p
  rw [Int.mul_neg]; omega
theorem addT_dvd {p : Int} {x : List Int} {f : Int} {y : List Int} {j : Nat} (h : j < x.length) : p ∣ nth (addT p x f y) j - (nth x j + f * nth y j) := by
  rw [addT_nth h]; exact emod_dvd _ _
theorem dvd_iff0 {p x : Int} (h : 0 ≤ x ∧ x < p) : p ∣ x ↔ x = 0 := by
  refine ⟨fun hd => ?_, fun e => e ▸ Int.dvd_zero _⟩
  by_cases hx : x = 0
  · exact hx
  · have := Int.le_of_dvd (by omega) hd; omega

/-- A row less multiples of others, one after another. -/
def redE (p : Int) (E : List (List Int × Int)) (x : List Int) : List Int := E.foldl (fun x e => addT p x (p - nth x e.2.toNat) e.1) x
theorem redE_cons (p : Int) (e : List Int × Int) (E : List (List Int × Int)) (x : List Int) : redE p (e :: E) x = redE p E (addT p x (p - nth x e.2.toNat) e.1) := rfl
theorem redE_snoc (p : Int) (e : List Int × Int) (E : List (List Int × Int)) (x : List Int) : redE p (E ++ [e]) x = addT p (redE p E x) (p - nth (redE p E x) e.2.toNat) e.1 := by
  simp [redE, List.foldl_append]
theorem redE_len (p : Int) : ∀ (E : List (List Int × Int)) (x : List Int), (redE p E x).length = x.length
  | [], _ => rfl
  | e :: E, x => by rw [redE_cons, redE_len p E, addT_len]
theorem redE_rg {p : Int} (hp : 0 < p) : ∀ (E : List (List Int × Int)) {x : List Int}, Rg p x → Rg p (redE p E x)
  | [], _, h => h
  | e :: E, x, _ => by rw [redE_cons]; exact redE_rg hp E (addT_rg hp _ _ _)
/-- The rows as functions, with their columns. -/
def vec (E : List (List Int × Int)) : List (Nat → Int) := E.map fun e => nth e.1
def prs (E : List (List Int × Int)) : List ((Nat → Int) × Nat) := E.map fun e => (nth e.1, e.2.toNat)
theorem prs_vec (E : List (List Int × Int)) : (prs E).map (·.1) = vec E := by simp [prs, vec, List.map_map, Function.comp_def]
theorem redE_sp {p : Int} {n : Nat} : ∀ (E : List (List Int × Int)) {x : List Int}, x.length = n → Sp p n (vec E) (fun k => nth (redE p E x) k - nth x k)
  | [], x, _ => fun k _ => by
    show p ∣ nth x k - nth x k
    rw [Int.sub_self]; exact Int.dvd_zero _
  | e :: E, x, hl => by
    have ih := redE_sp (p := p) (n := n) E (x := addT p x (p - nth x e.2.toNat) e.1) (by rw [addT_len]; exact hl)
    refine ⟨p - nth x e.2.toNat, ih.congr fun k hk => ?_⟩
    rw [redE_cons]
    have h1 := addT_dvd (p := p) (x := x) (f := p - nth x e.2.toNat) (y := e.1) (j := k) (by omega)
    show p ∣ nth (redE p E (addT p x (p - nth x e.2.toNat) e.1)) k - nth (addT p x (p - nth x e.2.toNat) e.1) k - (nth (redE p E (addT p x (p - nth x e.2.toNat) e.1)) k - nth x k - (p - nth x e.2.toNat) * nth e.1 k)
    generalize nth (addT p x (p - nth x e.2.toNat) e.1) k = a at *
    generalize (p - nth x e.2.toNat) * nth e.1 k = b at *
    generalize nth (redE p E _) k = c at *
    obtain ⟨q, hq⟩ := h1
    exact ⟨-q, by rw [Int.mul_neg]; omega⟩
theorem redE_keep {p : Int} {c : Nat} : ∀ (E : List (List Int × Int)) {x : List Int}, c < x.length → (∀ e, e ∈ E → p ∣ nth e.1 c) → p ∣ nth (redE p E x) c - nth x c
  | [], x, _, _ => by
    show p ∣ nth x c - nth x c
    rw [Int.sub_self]; exact Int.dvd_zero _
  | e :: E, x, hc, h => by
    have ih := redE_keep (p := p) E (x := addT p x (p - nth x e.2.toNat) e.1) (by rw [addT_len]; exact hc) fun e' he' => h e' (List.mem_cons_of_mem _ he')
    rw [redE_cons]
    have h1 := addT_dvd (p := p) (x := x) (f := p - nth x e.2.toNat) (y := e.1) (j := c) hc
    have h2 : p ∣ (p - nth x e.2.toNat) * nth e.1 c := Int.dvd_mul_of_dvd_right (h e (List.mem_cons_self ..))
    have h3 := Int.dvd_add (Int.dvd_add ih h1) h2
    have e1 : nth (redE p E (addT p x (p - nth x e.2.toNat) e.1)) c - nth (addT p x (p - nth x e.2.toNat) e.1) c + (nth (addT p x (p - nth x e.2.toNat) e.1) c - (nth x c + (p - nth x e.2.toNat) * nth e.1 c)) + (p - nth x e.2.toNat) * nth e.1 c = nth (redE p E (addT p x (p - nth x e.2.toNat) e.1)) c - nth x c := by omega
    rwa [e1] at h3
theorem redE_zero {p : Int} {n : Nat} : ∀ (E : List (List Int × Int)) {x : List Int}, x.length = n → Ech p n (prs E) → ∀ e, e ∈ E → p ∣ nth (redE p E x) e.2.toNat
  | e :: E, x, hl, h, d, hd => by
    obtain ⟨hc, h1, _, hz, hE⟩ := h
    have hl' : (addT p x (p - nth x e.2.toNat) e.1).length = n := by rw [addT_len]; exact hl
    rcases List.mem_cons.1 hd with rfl | hd'
    · rw [redE_cons]
      have hk := redE_keep (p := p) (c := d.2.toNat) E (x := addT p x (p - nth x d.2.toNat) d.1) (by omega) fun y hy => hz (nth y.1, y.2.toNat) (List.mem_map.2 ⟨y, hy, rfl⟩)
      have ha := addT_dvd (p := p) (x := x) (f := p - nth x d.2.toNat) (y := d.1) (j := d.2.toNat) (by omega)
      have h2 : p ∣ (p - nth x d.2.toNat) * (nth d.1 d.2.toNat - 1) := Int.dvd_mul_of_dvd_right h1
      rw [Int.mul_sub, Int.mul_one] at h2
      have h3 := Int.dvd_add (Int.dvd_add hk ha) h2
      have h4 := Int.dvd_add h3 (Int.dvd_refl p)
      have e1 : nth (redE p E (addT p x (p - nth x d.2.toNat) d.1)) d.2.toNat - nth (addT p x (p - nth x d.2.toNat) d.1) d.2.toNat + (nth (addT p x (p - nth x d.2.toNat) d.1) d.2.toNat - (nth x d.2.toNat + (p - nth x d.2.toNat) * nth d.1 d.2.toNat)) + ((p - nth x d.2.toNat) * nth d.1 d.2.toNat - (p - nth x d.2.toNat)) + p = nth (redE p E (addT p x (p - nth x d.2.toNat) d.1)) d.2.toNat := by omega
      rwa [e1] at h4
    · rw [redE_cons]
      exact redE_zero E hl' hE d hd'

/-- The first place with another number than 0. -/
def ldN (x : List Int) : Nat := (x.takeWhile (fun y => decide (y = 0))).length
theorem ldN_le (x : List Int) : ldN x ≤ x.length := (List.takeWhile_sublist _).length_le
theorem ldN_is : ∀ (xs : List Int) (k : Nat), k ≤ xs.length → (∀ j, j < k → nth xs j = 0) → (k = xs.length ∨ nth xs k ≠ 0) → ldN xs = k
  | [], k, hk, _, _ => by
    have : k = 0 := by simpa using hk
    subst this; rfl
  | y :: xs, 0, _, _, h => by
    rcases h with h | h
    · simp at h
    · have hy : y ≠ 0 := h
      simp [ldN, List.takeWhile, hy]
  | y :: xs, k + 1, hk, hall, h => by
    have hy : y = 0 := hall 0 (by omega)
    have ih := ldN_is xs k (by simpa using hk) (fun j hj => hall (j + 1) (by omega)) (by
      rcases h with h | h
      · left; simpa using h
      · right; exact h)
    have e : ldN (y :: xs) = ldN xs + 1 := by simp [ldN, List.takeWhile, hy]
    rw [e, ih]
theorem ldN_before : ∀ (xs : List Int) (j : Nat), j < ldN xs → nth xs j = 0
  | [], j, h => by simp [ldN] at h
  | y :: xs, j, h => by
    by_cases hy : y = 0
    · have e : ldN (y :: xs) = ldN xs + 1 := by simp [ldN, List.takeWhile, hy]
      match j with
      | 0 => exact hy
      | j + 1 => exact ldN_before xs j (by omega)
    · have e : ldN (y :: xs) = 0 := by simp [ldN, List.takeWhile, hy]
      omega
theorem ldN_at : ∀ (xs : List Int), ldN xs < xs.length → nth xs (ldN xs) ≠ 0
  | [], h => by simp at h
  | y :: xs, h => by
    by_cases hy : y = 0
    · have e : ldN (y :: xs) = ldN xs + 1 := by simp [ldN, List.takeWhile, hy]
      rw [e] at h ⊢
      exact ldN_at xs (by simpa using h)
    · have e : ldN (y :: xs) = 0 := by simp [ldN, List.takeWhile, hy]
      rw [e]; exact hy
/-- The number whose product with x has the rest 1. -/
def inv7 (p x : Int) : Int := ((((List.range 7).find? fun (y : Nat) => decide (x * (y : Int) % p = 1)).getD 0 : Nat) : Int)
theorem inv7_is {p x y : Int} (hp : P7 p) (hx : 0 < x ∧ x < p) (hy : 0 < y ∧ y < p) (h : x * y % p = 1) : y = inv7 p x := by
  have hx7 : x = 1 ∨ x = 2 ∨ x = 3 ∨ x = 4 ∨ x = 5 ∨ x = 6 := by have := hp.le; omega
  have hy7 : y = 1 ∨ y = 2 ∨ y = 3 ∨ y = 4 ∨ y = 5 ∨ y = 6 := by have := hp.le; omega
  rcases hp with rfl | rfl | rfl | rfl <;> rcases hx7 with rfl | rfl | rfl | rfl | rfl | rfl <;> first | (exfalso; omega) | (rcases hy7 with rfl | rfl | rfl | rfl | rfl | rfl <;> first | (exfalso; omega) | (revert h; decide))
theorem inv7_ok {p x : Int} (hp : P7 p) (hx : 0 < x ∧ x < p) : 0 < inv7 p x ∧ inv7 p x < p ∧ x * inv7 p x % p = 1 := by
  have hx7 : x = 1 ∨ x = 2 ∨ x = 3 ∨ x = 4 ∨ x = 5 ∨ x = 6 := by have := hp.le; omega
  rcases hp with rfl | rfl | rfl | rfl <;> rcases hx7 with rfl | rfl | rfl | rfl | rfl | rfl <;> first | (exfalso; omega) | decide
/-- The row that is kept. -/
def nrm (p : Int) (r : List Int) : List Int := addT p r (inv7 p (nth r (ldN r)) - 1) r
theorem nrm_len (p : Int) (r : List Int) : (nrm p r).length = r.length := addT_len ..
theorem nrm_dvd {p : Int} {r : List Int} {j : Nat} (h : j < r.length) : p ∣ nth (nrm p r) j - inv7 p (nth r (ldN r)) * nth r j := by
  have h1 := addT_dvd (p := p) (x := r) (f := inv7 p (nth r (ldN r)) - 1) (y := r) h
  rw [Int.sub_mul, Int.one_mul] at h1
  have e : nth r j + (inv7 p (nth r (ldN r)) * nth r j - nth r j) = inv7 p (nth r (ldN r)) * nth r j := by omega
  rwa [e] at h1
def addR (p : Int) (E : List (List Int × Int)) (x : List Int) : List (List Int × Int) :=
  if ldN (redE p E x) = x.length then E else E ++ [(nrm p (redE p E x), (ldN (redE p E x) : Int))]
def echel (p : Int) (rows : List (List Int)) : List (List Int × Int) := rows.foldl (addR p) []
/-- What the rows that are kept obey. -/
def EOk (p : Int) (n : Nat) (E : List (List Int × Int)) : Prop := (∀ e, e ∈ E → e.1.length = n ∧ Rg p e.1 ∧ 0 ≤ e.2 ∧ e.2 < n) ∧ Ech p n (prs E)
theorem EOk.nil (p : Int) (n : Nat) : EOk p n [] := ⟨fun _ h => absurd h (List.not_mem_nil), trivial⟩
theorem addR_ok {p : Int} {n : Nat} (hp : P7 p) {E : List (List Int × Int)} {x : List Int} (h : EOk p n E) (hl : x.length = n) (hx : Rg p x) :
    EOk p n (addR p E x) ∧ ∀ v, Sp p n (vec (addR p E x)) v ↔ Sp p n (vec E ++ [nth x]) v := by
  have hp2 := hp.two
  have hrl := redE_len p E x
  have hrg := redE_rg (p := p) (by omega) E hx
  have hsp := redE_sp (p := p) E hl
  have hz := redE_zero (p := p) E hl h.2
  unfold addR
  obtain ⟨r, hr⟩ : ∃ r, r = redE p E x := ⟨_, rfl⟩
  rw [← hr] at hrl hrg hsp hz ⊢
  have hle := ldN_le r
  by_cases hend : ldN r = x.length
  · rw [if_pos hend]
    refine ⟨h, Sp.same (fun e he => Sp.mem (List.mem_append_left _ he)) fun e he => ?_⟩
    rcases List.mem_append.1 he with he | he
    · exact Sp.mem he
    · rw [List.mem_singleton] at he
      subst he
      have h0 : Sp p n (vec E) (nth r) := Sp.zero fun k hk => by rw [ldN_before r k (by omega)]; exact Int.dvd_zero _
      exact (h0.sub hsp).of_eq fun k _ => by
        show nth r k - (nth r k - nth x k) = nth x k
        omega
  · rw [if_neg hend]
    have hlt : ldN r < r.length := by omega
    have hne := ldN_at r hlt
    have hrc := hrg (ldN r)
    have hinv := inv7_ok hp (x := nth r (ldN r)) ⟨by omega, hrc.2⟩
    have hnd := fun {j : Nat} (hj : j < r.length) => nrm_dvd (p := p) hj
    obtain ⟨f, hf⟩ : ∃ f, f = inv7 p (nth r (ldN r)) := ⟨_, rfl⟩
    rw [← hf] at hinv hnd
    obtain ⟨y, hy⟩ : ∃ y, y = nrm p r := ⟨_, rfl⟩
    rw [← hy] at hnd ⊢
    have hyl : y.length = n := by rw [hy, nrm_len]; omega
    have hyr : Rg p y := by rw [hy]; exact addT_rg (by omega) _ _ _
    have h1 : p ∣ nth y (ldN r) - 1 := by
      have a := hnd hlt
      have b := emod_dvd p (nth r (ldN r) * f)
      rw [hinv.2.2] at b
      have c := Int.dvd_sub a b
      have e : nth y (ldN r) - f * nth r (ldN r) - (1 - nth r (ldN r) * f) = nth y (ldN r) - 1 := by rw [Int.mul_comm f]; omega
      rwa [e] at c
    have h0 : ∀ i, i < n → p ∣ nth r i → p ∣ nth y i := fun i hi hd => by
      have a := hnd (j := i) (by omega)
      have b := Int.dvd_mul_of_dvd_right (b := f) hd
      have c := Int.dvd_add a b
      have e : nth y i - f * nth r i + f * nth r i = nth y i := by omega
      rwa [e] at c
    refine ⟨⟨fun e he => ?_, ?_⟩, ?_⟩
    · rcases List.mem_append.1 he with he | he
      · exact h.1 e he
      · rw [List.mem_singleton] at he
        subst he
        exact ⟨hyl, hyr, by omega, by show (ldN r : Int) < n; omega⟩
    · have e : prs (E ++ [(y, (ldN r : Int))]) = prs E ++ [(nth y, ldN r)] := by simp [prs]
      rw [e]
      refine h.2.snoc (by omega) h1 (fun i hi => h0 i (by omega) (by rw [ldN_before r i hi]; exact Int.dvd_zero _)) fun q hq => ?_
      obtain ⟨e', he', rfl⟩ := List.mem_map.1 hq
      exact h0 _ (by have := (h.1 e' he').2.2; show e'.2.toNat < n; omega) (hz e' he')
    · have e : vec (E ++ [(y, (ldN r : Int))]) = vec E ++ [nth y] := by simp [vec]
      rw [e]
      have hr' : Sp p n (vec E ++ [nth x]) (nth r) := by
        have a := (Sp.app_left (R' := [nth x]) hsp).add (Sp.mem (List.mem_append_right (vec E) (List.mem_singleton.2 rfl)))
        exact a.of_eq fun k _ => by
          show nth r k - nth x k + nth x k = nth r k
          omega
      refine Sp.same (fun q hq => ?_) fun q hq => ?_
      · rcases List.mem_append.1 hq with hq | hq
        · exact Sp.mem (List.mem_append_left _ hq)
        · rw [List.mem_singleton] at hq
          subst hq
          refine (hr'.mul f).congr fun k hk => ?_
          have a := hnd (j := k) (by omega)
          have e2 : f * nth r k - nth y k = -(nth y k - f * nth r k) := by omega
          rw [e2]; exact Int.dvd_neg.2 a
      · rcases List.mem_append.1 hq with hq | hq
        · exact Sp.mem (List.mem_append_left _ hq)
        · rw [List.mem_singleton] at hq
          subst hq
          have hy' : Sp p n (vec E ++ [nth y]) (nth y) := Sp.mem (List.mem_append_right _ (List.mem_singleton.2 rfl))
          have hrr : Sp p n (vec E ++ [nth y]) (nth r) := by
            refine (hy'.mul (nth r (ldN r))).congr fun k hk => ?_
            have a := Int.dvd_mul_of_dvd_right (b := nth r (ldN r)) (hnd (j := k) (by omega))
            have b := Int.dvd_mul_of_dvd_left (c := nth r k) (emod_dvd p (nth r (ldN r) * f))
            rw [hinv.2.2] at b
            rw [Int.mul_sub] at a
            rw [Int.sub_mul, Int.one_mul, Int.mul_assoc] at b
            have c := Int.dvd_sub a b
            generalize nth r (ldN r) * nth y k = s at *
            generalize nth r (ldN r) * (f * nth r k) = t at *
            have e3 : s - t - (nth r k - t) = s - nth r k := by omega
            rwa [e3] at c
          exact (hrr.sub (Sp.app_left hsp)).of_eq fun k _ => by
            show nth r k - (nth r k - nth x k) = nth x k
            omega
theorem echel_from {p : Int} {n : Nat} (hp : P7 p) : ∀ (rows : List (List Int)) (E : List (List Int × Int)), (∀ x, x ∈ rows → x.length = n ∧ Rg p x) → EOk p n E →
    EOk p n (rows.foldl (addR p) E) ∧ ∀ v, Sp p n (vec (rows.foldl (addR p) E)) v ↔ Sp p n (vec E ++ rows.map nth) v
  | [], E, _, h => ⟨h, fun v => by simp⟩
  | x :: rows, E, hr, h => by
    obtain ⟨hl, hx⟩ := hr x (List.mem_cons_self ..)
    obtain ⟨h1, h2⟩ := addR_ok hp h hl hx
    obtain ⟨h3, h4⟩ := echel_from hp rows (addR p E x) (fun y hy => hr y (List.mem_cons_of_mem _ hy)) h1
    refine ⟨h3, fun v => ?_⟩
    rw [List.foldl_cons, h4 v]
    have e : vec E ++ (x :: rows).map nth = (vec E ++ [nth x]) ++ rows.map nth := by simp
    rw [e]
    refine Sp.same (fun q hq => ?_) (fun q hq => ?_) v
    · rcases List.mem_append.1 hq with hq | hq
      · exact Sp.app_left ((h2 q).1 (Sp.mem hq))
      · exact Sp.mem (List.mem_append_right _ hq)
    · rcases List.mem_append.1 hq with hq | hq
      · exact Sp.app_left ((h2 q).2 (Sp.mem hq))
      · exact Sp.mem (List.mem_append_right _ hq)
theorem echel_ok {p : Int} {n : Nat} (hp : P7 p) {rows : List (List Int)} (hr : ∀ x, x ∈ rows → x.length = n ∧ Rg p x) :
    EOk p n (echel p rows) ∧ ∀ v, Sp p n (vec (echel p rows)) v ↔ Sp p n (rows.map nth) v := by
  have h := echel_from hp rows [] hr (EOk.nil p n)
  exact ⟨h.1, fun v => h.2 v⟩
end Go.Proofs.Ytjpoliibljjhnaa

/-
  Reduction of a matrix column by column, modulo a small prime: the document's way, on functions of row and column, and what it keeps. Conditions: p is 2, 3, 5 or 7.
-/

namespace Go.Proofs.Ytjpoliibljjhnaa

def rowsM (R : Nat) (M : Nat → Nat → Int) : List (Nat → Int) := (List.range R).map M
theorem rowsM_mem {R : Nat} {M : Nat → Nat → Int} {e : Nat → Int} : e ∈ rowsM R M ↔ ∃ i, i < R ∧ e = M i := by
  unfold rowsM
  rw [List.mem_map]
  constructor
  · rintro ⟨i, hi, rfl⟩; exact ⟨i, List.mem_range.1 hi, rfl⟩
  · rintro ⟨i, hi, rfl⟩; exact ⟨i, List.mem_range.2 hi, rfl⟩
theorem rowsM_sp {p : Int} {n R : Nat} {M : Nat → Nat → Int} {i : Nat} (h : i < R) : Sp p n (rowsM R M) (M i) := Sp.mem (rowsM_mem.2 ⟨i, h, rfl⟩)
/-- The same sums of multiples. -/
def SameSp (p : Int) (n R : Nat) (M N : Nat → Nat → Int) : Prop := ∀ v, Sp p n (rowsM R M) v ↔ Sp p n (rowsM R N) v
theorem SameSp.of {p : Int} {n R : Nat} {M N : Nat → Nat → Int} (h1 : ∀ i, i < R → Sp p n (rowsM R N) (M i)) (h2 : ∀ i, i < R → Sp p n (rowsM R M) (N i)) : SameSp p n R M N :=
  Sp.same (fun e he => by obtain ⟨i, hi, rfl⟩ := rowsM_mem.1 he; exact h1 i hi) (fun e he => by obtain ⟨i, hi, rfl⟩ := rowsM_mem.1 he; exact h2 i hi)
theorem SameSp.trans {p : Int} {n R : Nat} {M N K : Nat → Nat → Int} (h : SameSp p n R M N) (h' : SameSp p n R N K) : SameSp p n R M K := fun v => (h v).trans (h' v)
theorem SameSp.refl {p : Int} {n R : Nat} {M : Nat → Nat → Int} : SameSp p n R M M := fun _ => Iff.rfl
theorem SameSp.symm {p : Int} {n R : Nat} {M N : Nat → Nat → Int} (h : SameSp p n R M N) : SameSp p n R N M := fun v => (h v).symm

def swM (M : Nat → Nat → Int) (a b : Nat) : Nat → Nat → Int := fun i c => if i = a then M b c else if i = b then M a c else M i c
def scM (p : Int) (M : Nat → Nat → Int) (r : Nat) (f : Int) : Nat → Nat → Int := fun i c => if i = r then M r c * f % p else M i c
def clM (p : Int) (M : Nat → Nat → Int) (r j : Nat) : Nat → Nat → Int := fun i c => if i = r then M r c else (M i c + (p - M i j) * M r c) % p
theorem swM_sp {p : Int} {n R : Nat} {M : Nat → Nat → Int} {a b : Nat} (ha : a < R) (hb : b < R) : SameSp p n R M (swM M a b) := by
  have ea : swM M a b a = M b := by funext c; simp [swM]
  have eb : swM M a b b = M a := by
    funext c
    by_cases e : b = a
    · subst e; simp [swM]
    · simp [swM, e]
  have eo : ∀ i, i ≠ a → i ≠ b → swM M a b i = M i := fun i h1 h2 => by funext c; simp [swM, h1, h2]
  refine SameSp.of (fun i hi => ?_) (fun i hi => ?_)
  · by_cases h1 : i = a
    · subst h1; rw [← eb]; exact rowsM_sp hb
    · by_cases h2 : i = b
      · subst h2; rw [← ea]; exact rowsM_sp ha
      · rw [← eo i h1 h2]; exact rowsM_sp hi
  · by_cases h1 : i = a
    · subst h1; rw [ea]; exact rowsM_sp hb
    · by_cases h2 : i = b
      · subst h2; rw [eb]; exact rowsM_sp ha
      · rw [eo i h1 h2]; exact rowsM_sp hi
theorem scM_sp {p : Int} {n R : Nat} {M : Nat → Nat → Int} {r : Nat} {f g : Int} (hr : r < R) (hfg : p ∣ g * f - 1) : SameSp p n R M (scM p M r f) := by
  have er : ∀ c, scM p M r f r c = M r c * f % p := fun c => by simp [scM]
  have eo : ∀ i, i ≠ r → scM p M r f i = M i := fun i h => by funext c; simp [scM, h]
  refine SameSp.of (fun i hi => ?_) (fun i hi => ?_)
  · by_cases h : i = r
    · subst h
      refine ((rowsM_sp (M := scM p M i f) hr).mul g).congr fun k _ => ?_
      rw [er k]
      have a := Int.dvd_mul_of_dvd_right (b := g) (emod_dvd p (M i k * f))
      have b := Int.dvd_mul_of_dvd_left (c := M i k) hfg
      rw [Int.mul_sub] at a
      rw [Int.sub_mul, Int.one_mul] at b
      have c := Int.dvd_add a b
      have e : g * (M i k * f) = g * f * M i k := by rw [Int.mul_comm (M i k), Int.mul_assoc]
      rw [e] at c
      generalize g * (M i k * f % p) = s at *
      generalize g * f * M i k = t at *
      have e2 : s - t + (t - M i k) = s - M i k := by omega
      rwa [e2] at c
    · rw [← eo i h]; exact rowsM_sp hi
  · by_cases h : i = r
    · subst h
      refine ((rowsM_sp (M := M) hr).mul f).congr fun k _ => ?_
      rw [er k]
      have a := emod_dvd p (M i k * f)
      rw [Int.mul_comm f]
      generalize M i k * f % p = s at *
      have e2 : M i k * f - s = -(s - M i k * f) := by omega
      rw [e2]; exact Int.dvd_neg.2 a
    · rw [eo i h]; exact rowsM_sp hi
theorem clM_sp {p : Int} {n R : Nat} {M : Nat → Nat → Int} {r j : Nat} (hr : r < R) : SameSp p n R M (clM p M r j) := by
  have er : clM p M r j r = M r := by funext c; simp [clM]
  have eo : ∀ i c, i ≠ r → clM p M r j i c = (M i c + (p - M i j) * M r c) % p := fun i c h => by simp [clM, h]
  have hrr : Sp p n (rowsM R (clM p M r j)) (M r) := by rw [← er]; exact rowsM_sp hr
  refine SameSp.of (fun i hi => ?_) (fun i hi => ?_)
  · by_cases h : i = r
    · subst h; exact hrr
    · refine ((rowsM_sp (M := clM p M r j) hi).sub (hrr.mul (p - M i j))).congr fun k _ => ?_
      rw [eo i k h]
      have a := emod_dvd p (M i k + (p - M i j) * M r k)
      generalize (p - M i j) * M r k = s at *
      generalize (M i k + s) % p = t at *
      have e2 : t - s - M i k = t - (M i k + s) := by omega
      rwa [e2]
  · by_cases h : i = r
    · subst h; rw [er]; exact rowsM_sp hr
    · refine ((rowsM_sp (M := M) hi).add ((rowsM_sp (M := M) hr).mul (p - M i j))).congr fun k _ => ?_
      rw [eo i k h]
      have a := emod_dvd p (M i k + (p - M i j) * M r k)
      generalize (p - M i j) * M r k = s at *
      generalize (M i k + s) % p = t at *
      have e2 : M i k + s - t = -(t - (M i k + s)) := by omega
      rw [e2]; exact Int.dvd_neg.2 a

/-- What holds before column j, with k rows done. -/
structure RedI (p : Int) (n R : Nat) (M0 M : Nat → Nat → Int) (ps : List Int) (j : Nat) : Prop where
  le : ps.length ≤ R
  rg : ∀ i c, i < R → c < n → 0 ≤ M i c ∧ M i c < p
  col : ∀ i, i < ps.length → 0 ≤ nth ps i ∧ nth ps i < j
  asc : ∀ i i', i < i' → i' < ps.length → nth ps i < nth ps i'
  one : ∀ i, i < ps.length → M i (nth ps i).toNat = 1
  bef : ∀ (i c : Nat), i < ps.length → (c : Int) < nth ps i → M i c = 0
  oth : ∀ i i', i < ps.length → i' < R → i' ≠ i → M i' (nth ps i).toNat = 0
  rest : ∀ i c, ps.length ≤ i → i < R → c < j → M i c = 0
  sp : SameSp p n R M0 M
theorem RedI.start {p : Int} {n R : Nat} {M : Nat → Nat → Int} (h : ∀ i c, i < R → c < n → 0 ≤ M i c ∧ M i c < p) : RedI p n R M M [] 0 :=
  ⟨Nat.zero_le _, h, fun _ hi => absurd hi (Nat.not_lt_zero _), fun _ _ _ hi => absurd hi (Nat.not_lt_zero _), fun _ hi => absurd hi (Nat.not_lt_zero _), fun _ _ hi => absurd hi (Nat.not_lt_zero _), fun _ _ hi => absurd hi (Nat.not_lt_zero _), fun _ _ _ _ hc => absurd hc (Nat.not_lt_zero _), SameSp.refl⟩
theorem RedI.skip {p : Int} {n R : Nat} {M0 M : Nat → Nat → Int} {ps : List Int} {j : Nat} (h : RedI p n R M0 M ps j) (hz : ∀ i, ps.length ≤ i → i < R → M i j = 0) : RedI p n R M0 M ps (j + 1) :=
  ⟨h.le, h.rg, fun i hi => by have := h.col i hi; omega, h.asc, h.one, h.bef, h.oth, fun i c h1 h2 h3 => by
    by_cases e : c = j
    · subst e; exact hz i h1 h2
    · exact h.rest i c h1 h2 (by omega), h.sp⟩
theorem nth_snocX {ps : List Int} {i : Nat} (h : i < ps.length) (v : Int) : nth (ps ++ [v]) i = nth ps i := by
  rw [nth, nth, List.getD_eq_getElem?_getD, List.getD_eq_getElem?_getD, List.getElem?_append_left h]
theorem nth_snoc_at (ps : List Int) (v : Int) : nth (ps ++ [v]) ps.length = v := by simp [nth, List.getD]
theorem RedI.step {p : Int} {n R : Nat} {M0 M : Nat → Nat → Int} {ps : List Int} {j : Nat} (hp : P7 p) (h : RedI p n R M0 M ps j) (hj : j < n) {a : Nat} (ha1 : ps.length ≤ a) (ha2 : a < R) (hne : M a j ≠ 0) :
    RedI p n R M0 (clM p (scM p (swM M a ps.length) ps.length (inv7 p (M a j))) ps.length j) (ps ++ [(j : Int)]) (j + 1) := by
  have hp2 := hp.two
  have hkR : ps.length < R := by omega
  obtain ⟨k, hk⟩ : ∃ k, k = ps.length := ⟨_, rfl⟩
  have hrga := h.rg a j ha2 hj
  have hinv := inv7_ok hp (x := M a j) ⟨by omega, hrga.2⟩
  obtain ⟨f, hf⟩ : ∃ f, f = inv7 p (M a j) := ⟨_, rfl⟩
  rw [← hf] at hinv ⊢
  rw [← hk] at ha1 hkR ⊢
  -- after the exchange
  obtain ⟨N, hN⟩ : ∃ N, N = swM M a k := ⟨_, rfl⟩
  have hNsp : SameSp p n R M N := by rw [hN]; exact swM_sp ha2 hkR
  have hNk : ∀ c, N k c = M a c := fun c => by
    rw [hN]
    by_cases e : k = a
    · subst e; simp [swM]
    · simp [swM, e]
  have hNlt : ∀ i c, i < k → N i c = M i c := fun i c hi => by
    rw [hN]
    have h1 : i ≠ a := by omega
    have h2 : i ≠ k := by omega
    simp [swM, h1, h2]
  have hNany : ∀ i, i < R → ∃ i', i' < R ∧ (k ≤ i → k ≤ i') ∧ (i < k → i' = i) ∧ (∀ c, N i c = M i' c) := fun i hi => by
    rw [hN]
    by_cases h1 : i = a
    · exact ⟨k, hkR, fun _ => Nat.le_refl _, fun hh => by omega, fun c => by simp [swM, h1]⟩
    · by_cases h2 : i = k
      · exact ⟨a, ha2, fun _ => ha1, fun hh => by omega, fun c => by
          have h3 : k ≠ a := fun e => h1 (h2.trans e)
          simp [swM, h2, h3]⟩
      · exact ⟨i, hi, fun hh => hh, fun _ => rfl, fun c => by simp [swM, h1, h2]⟩
  rw [← hN]
  -- after the scaling
  obtain ⟨P, hP⟩ : ∃ P, P = scM p N k f := ⟨_, rfl⟩
  have hPsp : SameSp p n R N P := by
    rw [hP]
    refine scM_sp (g := M a j) hkR ?_
    have := emod_dvd p (M a j * f)
    rw [hinv.2.2] at this
    have e : M a j * f - 1 = -(1 - M a j * f) := by omega
    rw [e]; exact Int.dvd_neg.2 this
  have hPk : ∀ c, P k c = M a c * f % p := fun c => by rw [hP]; simp [scM, hNk]
  have hPo : ∀ i c, i ≠ k → P i c = N i c := fun i c hi => by rw [hP]; simp [scM, hi]
  rw [← hP]
  have hPkj : P k j = 1 := by rw [hPk]; exact hinv.2.2
  have hPk0 : ∀ c, c < j → P k c = 0 := fun c hc => by
    rw [hPk, h.rest a c (by omega) ha2 hc]; simp
  have hPrg : ∀ i c, i < R → c < n → 0 ≤ P i c ∧ P i c < p := fun i c hi hc => by
    by_cases e : i = k
    · subst e; rw [hPk]; exact ⟨Int.emod_nonneg _ (by omega), Int.emod_lt_of_pos _ (by omega)⟩
    · rw [hPo i c e]
      obtain ⟨i', hi', _, _, he⟩ := hNany i hi
      rw [he c]; exact h.rg i' c hi' hc
  -- after the clearing
  obtain ⟨Q, hQ⟩ : ∃ Q, Q = clM p P k j := ⟨_, rfl⟩
  have hQsp : SameSp p n R P Q := by rw [hQ]; exact clM_sp hkR
  have hQk : ∀ c, Q k c = P k c := fun c => by rw [hQ]; simp [clM]
  have hQo : ∀ i c, i ≠ k → Q i c = (P i c + (p - P i j) * P k c) % p := fun i c hi => by rw [hQ]; simp [clM, hi]
  rw [← hQ]
  have hQrg : ∀ i c, i < R → c < n → 0 ≤ Q i c ∧ Q i c < p := fun i c hi hc => by
    by_cases e : i = k
    · subst e; rw [hQk]; exact hPrg i c hi hc
    · rw [hQo i c e]; exact ⟨Int.emod_nonneg _ (by omega), Int.emod_lt_of_pos _ (by omega)⟩
  have hQbef : ∀ i c, i < R → c < j → i ≠ k → Q i c = P i c := fun i c hi hc e => by
    rw [hQo i c e, hPk0 c hc, Int.mul_zero, Int.add_zero]
    have := hPrg i c hi (by omega)
    exact Int.emod_eq_of_lt this.1 this.2
  have hQj : ∀ i, i < R → i ≠ k → Q i j = 0 := fun i hi e => by
    rw [hQo i j e, hPkj, Int.mul_one]
    have e2 : P i j + (p - P i j) = p := by omega
    rw [e2, Int.emod_self]
  have hlen : (ps ++ [(j : Int)]).length = k + 1 := by simp [hk]
  have hat : nth (ps ++ [(j : Int)]) k = j := by rw [hk]; exact nth_snoc_at ps _
  have hlt : ∀ i, i < k → nth (ps ++ [(j : Int)]) i = nth ps i := fun i hi => nth_snocX (by omega) _
  refine ⟨by omega, hQrg, fun i hi => ?_, fun i i' hi hi' => ?_, fun i hi => ?_, fun i c hi hc => ?_, fun i i' hi hi' hne' => ?_, fun i c hi hiR hc => ?_, ((h.sp.trans hNsp).trans hPsp).trans hQsp⟩
  · rw [hlen] at hi
    by_cases e : i = k
    · subst e; rw [hat]; omega
    · rw [hlt i (by omega)]
      have := h.col i (by omega)
      omega
  · rw [hlen] at hi'
    by_cases e : i' = k
    · subst e
      rw [hat, hlt i hi]
      exact (h.col i (by omega)).2
    · rw [hlt i (by omega), hlt i' (by omega)]
      exact h.asc i i' hi (by omega)
  · rw [hlen] at hi
    by_cases e : i = k
    · subst e
      rw [hat, hQk]
      exact hPkj
    · rw [hlt i (by omega)]
      have hc := h.col i (by omega)
      rw [hQbef i _ (by omega) (by omega) e, hPo i _ e, hNlt i _ (by omega)]
      exact h.one i (by omega)
  · rw [hlen] at hi
    by_cases e : i = k
    · subst e
      rw [hat] at hc
      rw [hQk]
      exact hPk0 c (by omega)
    · rw [hlt i (by omega)] at hc
      have hcj := h.col i (by omega)
      rw [hQbef i _ (by omega) (by omega) e, hPo i _ e, hNlt i _ (by omega)]
      exact h.bef i c (by omega) hc
  · rw [hlen] at hi
    by_cases e : i = k
    · subst e
      rw [hat]
      exact hQj i' hi' hne'
    · rw [hlt i (by omega)]
      have hcj := h.col i (by omega)
      by_cases e' : i' = k
      · subst e'
        rw [hQk]
        exact hPk0 _ (by omega)
      · rw [hQbef i' _ hi' (by omega) e', hPo i' _ e']
        obtain ⟨i2, hi2, h2a, h2b, he2⟩ := hNany i' hi'
        rw [he2]
        refine h.oth i i2 (by omega) hi2 fun ee => ?_
        rcases Nat.lt_or_ge i' k with hh | hh
        · have := h2b hh; omega
        · have := h2a hh; omega
  · rw [hlen] at hi
    by_cases ec : c = j
    · subst ec; exact hQj i hiR (by omega)
    · rw [hQbef i c hiR (by omega) (by omega), hPo i c (by omega)]
      obtain ⟨i2, hi2, h2a, h2b, he2⟩ := hNany i hiR
      rw [he2]
      exact h.rest i2 c (by have := h2a (by omega); omega) hi2 (by omega)
/-- The rows that are done, with their columns. -/
def prM (M : Nat → Nat → Int) (ps : List Int) : List ((Nat → Int) × Nat) := (List.range ps.length).map fun i => (M i, (nth ps i).toNat)
theorem prM_fst (M : Nat → Nat → Int) (ps : List Int) : (prM M ps).map (·.1) = rowsM ps.length M := by simp [prM, rowsM, List.map_map, Function.comp_def]
theorem prM_mem {M : Nat → Nat → Int} {ps : List Int} {x : (Nat → Int) × Nat} : x ∈ prM M ps ↔ ∃ i, i < ps.length ∧ x = (M i, (nth ps i).toNat) := by
  unfold prM
  rw [List.mem_map]
  constructor
  · rintro ⟨i, hi, rfl⟩; exact ⟨i, List.mem_range.1 hi, rfl⟩
  · rintro ⟨i, hi, rfl⟩; exact ⟨i, List.mem_range.2 hi, rfl⟩
theorem RedI.ech {p : Int} {n R : Nat} {M0 M : Nat → Nat → Int} {ps : List Int} {j : Nat} (h : RedI p n R M0 M ps j) (hj : j ≤ n) : Ech p n (prM M ps) := by
  have key : ∀ k, k ≤ ps.length → Ech p n ((List.range k).map fun i => (M i, (nth ps i).toNat)) := by
    intro k
    induction k with
    | zero => intro _; exact trivial
    | succ k ih =>
      intro hk
      rw [List.range_succ, List.map_append]
      have hc := h.col k (by omega)
      refine (ih (by omega)).snoc (by omega) (by rw [h.one k (by omega), Int.sub_self]; exact Int.dvd_zero _) (fun i hi => by rw [h.bef k i (by omega) (by omega)]; exact Int.dvd_zero _) fun x hx => ?_
      obtain ⟨i, hi, rfl⟩ := List.mem_map.1 hx
      have hi := List.mem_range.1 hi
      show p ∣ M k (nth ps i).toNat
      rw [h.oth i k (by omega) (by have := h.le; omega) (by omega)]; exact Int.dvd_zero _
  exact key _ (Nat.le_refl _)
theorem RedI.done {p : Int} {n R : Nat} {M0 M : Nat → Nat → Int} {ps : List Int} {j : Nat} (h : RedI p n R M0 M ps j) (hend : j = n ∨ ps.length = R) (v : Nat → Int) :
    Sp p n ((prM M ps).map (·.1)) v ↔ Sp p n (rowsM R M0) v := by
  rw [prM_fst, h.sp v]
  refine Sp.same (fun e he => ?_) (fun e he => ?_) v
  · obtain ⟨i, hi, rfl⟩ := rowsM_mem.1 he
    exact rowsM_sp (by have := h.le; omega)
  · obtain ⟨i, hi, rfl⟩ := rowsM_mem.1 he
    by_cases hlt : i < ps.length
    · exact rowsM_sp hlt
    · rcases hend with rfl | hR
      · exact Sp.zero fun c hc => by rw [h.rest i c (by omega) hi hc]; exact Int.dvd_zero _
      · omega
end Go.Proofs.Ytjpoliibljjhnaa

/-
  Both ways to reduce rows lead to as many rows, at the same columns. Conditions: p is 2, 3, 5 or 7, numbers are rests.
-/


namespace Go.Proofs.Ytjpoliibljjhnaa

/-- A row of a matrix written row by row. -/
def rowX (d : List Int) (n i : Nat) : List Int := (List.range n).map fun c => nth d (i * n + c)
def rowsL (d : List Int) (n R : Nat) : List (List Int) := (List.range R).map (rowX d n)
theorem rowX_len (d : List Int) (n i : Nat) : (rowX d n i).length = n := by simp [rowX]
theorem rowX_nth {d : List Int} {n i c : Nat} (h : c < n) : nth (rowX d n i) c = nth d (i * n + c) := nth_rangeMap _ h
theorem rowX_rg {p : Int} (hp : 0 < p) {d : List Int} (h : Rg p d) (n i : Nat) : Rg p (rowX d n i) := fun j => by
  by_cases hj : j < n
  · rw [rowX_nth hj]; exact h _
  · rw [nth_past (by rw [rowX_len]; omega)]; exact ⟨Int.le_refl _, hp⟩
theorem rowsL_len (d : List Int) (n R : Nat) : (rowsL d n R).length = R := by simp [rowsL]
theorem rowsL_li {d : List Int} {n R i : Nat} (h : i < R) : li (rowsL d n R) i = rowX d n i := by simp [li, rowsL, List.getD, h]
theorem rowsL_ok {p : Int} (hp : 0 < p) {d : List Int} (h : Rg p d) (n R : Nat) : ∀ x, x ∈ rowsL d n R → x.length = n ∧ Rg p x := fun x hx => by
  obtain ⟨i, _, rfl⟩ := List.mem_map.1 hx
  exact ⟨rowX_len .., rowX_rg hp h n i⟩
/-- The same rows as lists and as functions have the same sums of multiples. -/
theorem sp_lists {p : Int} {n : Nat} {rows : List (List Int)} {R : Nat} {M : Nat → Nat → Int} (hl : rows.length = R) (h : ∀ i c, i < R → c < n → nth (li rows i) c = M i c) (v : Nat → Int) :
    Sp p n (rows.map nth) v ↔ Sp p n (rowsM R M) v := by
  refine Sp.same (fun e he => ?_) (fun e he => ?_) v
  · obtain ⟨x, hx, rfl⟩ := List.mem_map.1 he
    obtain ⟨i, hi, rfl⟩ := List.mem_iff_getElem.1 hx
    rw [← li_get hi]
    exact (rowsM_sp (M := M) (i := i) (by omega)).of_eq fun c hc => (h i c (by omega) hc).symm
  · obtain ⟨i, hi, rfl⟩ := rowsM_mem.1 he
    have hm : Sp p n (rows.map nth) (nth (li rows i)) := Sp.mem (List.mem_map.2 ⟨li rows i, by rw [li_get (by omega)]; exact List.getElem_mem _, rfl⟩)
    exact hm.of_eq fun c hc => h i c hi hc
def rnkL (p : Int) (rows : List (List Int)) : Nat := (echel p rows).length
section
variable {p : Int} {n R : Nat} {rows : List (List Int)} {M0 M : Nat → Nat → Int} {ps : List Int} {j : Nat}
theorem red_same (hp : P7 p) (hr : ∀ x, x ∈ rows → x.length = n ∧ Rg p x) (hl : rows.length = R) (h0 : ∀ i c, i < R → c < n → nth (li rows i) c = M0 i c) (h : RedI p n R M0 M ps j) (hend : j = n ∨ ps.length = R) (v : Nat → Int) :
    Sp p n ((prs (echel p rows)).map (·.1)) v ↔ Sp p n ((prM M ps).map (·.1)) v := by
  rw [prs_vec, (echel_ok hp hr).2 v, sp_lists hl h0 v, h.done hend v]
theorem rank_same (hp : P7 p) (hr : ∀ x, x ∈ rows → x.length = n ∧ Rg p x) (hl : rows.length = R) (h0 : ∀ i c, i < R → c < n → nth (li rows i) c = M0 i c) (h : RedI p n R M0 M ps j) (hj : j ≤ n) (hend : j = n ∨ ps.length = R) :
    ps.length = rnkL p rows := by
  have h1 := Ech.same_len hp.two (echel_ok hp hr).1.2 (h.ech hj) (red_same hp hr hl h0 h hend)
  have h2 : (prs (echel p rows)).length = rnkL p rows := by simp [prs, rnkL]
  have h3 : (prM M ps).length = ps.length := by simp [prM]
  omega
end
theorem foldl_addR_len (p : Int) : ∀ (rows : List (List Int)) (E : List (List Int × Int)), (rows.foldl (addR p) E).length ≤ E.length + rows.length
  | [], _ => Nat.le_refl _
  | x :: rows, E => by
    have h1 := foldl_addR_len p rows (addR p E x)
    have h2 : (addR p E x).length ≤ E.length + 1 := by
      unfold addR
      split
      · omega
      · simp
    simp only [List.foldl_cons, List.length_cons]
    omega
theorem rnkL_le (p : Int) (rows : List (List Int)) : rnkL p rows ≤ rows.length := by
  have := foldl_addR_len p rows []
  simpa [rnkL, echel] using this
end Go.Proofs.Ytjpoliibljjhnaa
