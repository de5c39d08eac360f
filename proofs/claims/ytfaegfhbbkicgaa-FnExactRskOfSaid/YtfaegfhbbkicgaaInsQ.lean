/-
  A number inserted into a tableau by the program's rule, the blocks named: what is apart from the tableau stays as it was. Conditions: lengths below 2^40.
-/
import Derived.Test.YtfaegfhbbkicgaaInsI
import Derived.Test.YtfaegfhbbkicgaaInsM
import Derived.Test.YtfaegfhbbkicgaaApE
import Derived.Test.YtfaegfhbbkicgaaShpL
namespace Go.Proofs.Ytfaegfhbbkicgaa
open Go.RowKit

theorem OwnLE.replE {E : Nat → Sv} {w w2 : World} {lo hi g n c : Nat} {ls : List (List Int)} (h : OwnLE E w lo hi (some ⟨g, 0, none⟩) n c ls) {k : Nat} (hk : k < n) (hhi : hi ≤ w.heap.size) (hg : w.grownBy w2 (rowB (E k).1)) {A2 : Option Addr} {n2 c2 : Nat} {ys : List Int}
    (hx : Own w2 lo w2.heap.size A2 n2 c2 ys) (hat : rowB A2 = rowB (E k).1 ∨ ∃ q, rowB A2 = some q ∧ w.heap.size ≤ q) :
    OwnLE (snE E k (A2, n2, c2)) (w2.setCell ⟨g, k, none⟩ (.slice A2 n2 c2)) lo w2.heap.size (some ⟨g, 0, none⟩) n c (ls.set k ys) ∧ w2.grownBy (w2.setCell ⟨g, k, none⟩ (.slice A2 n2 c2)) (some g) := by
  obtain ⟨hl, ho, hh, he, hne, hdd⟩ := h
  have hgl := hh g rfl
  have hs := hg.size
  have hrk : ∀ b, rowB (E k).1 = some b → (sv (E k)).ownBlock = some b := fun b hb => by unfold sv; rw [ownB]; exact hb
  have ho2 : w2.ownsRow lo 22 1 (.slice (some ⟨g, 0, none⟩) n c) n (heads n E) := ho.kept hg (.inr fun e => hne k g hk (hrk g e.symm) rfl)
  have he2 : ∀ j, j < n → j ≠ k → Own w2 lo hi (E j).1 (E j).2.1 (E j).2.2 (li ls j) := fun j hj hjk => (he j hj).kept hg (fun b hb e => by
    rcases Nat.lt_or_gt_of_ne hjk with h | h
    · exact hdd j k b h hk hb (hrk b e)
    · exact hdd k j b h hj (hrk b e) hb)
  have hA2g : ∀ b, (sv ((A2, n2, c2) : Sv)).ownBlock = some b → b ≠ g := fun b hb => by
    have hb' : rowB A2 = some b := by rw [← ownB A2 n2 c2]; exact hb
    rcases hat with e | ⟨q, e, hq⟩
    · intro h; subst h; exact hne k b hk (hrk b (e ▸ hb')) rfl
    · rw [e] at hb'; injection hb' with hb'; omega
  have hA2E : ∀ j b, j < n → j ≠ k → (sv ((A2, n2, c2) : Sv)).ownBlock = some b → (sv (E j)).ownBlock ≠ some b := fun j b hj hjk hb e2 => by
    have hb' : rowB A2 = some b := by rw [← ownB A2 n2 c2]; exact hb
    rcases hat with e | ⟨q, e, hq⟩
    · have h3 := hrk b (e ▸ hb')
      rcases Nat.lt_or_gt_of_ne hjk with h | h
      · exact hdd j k b h hk e2 h3
      · exact hdd k j b h hj h3 e2
    · rw [e] at hb'; injection hb' with hb'
      have := (he j hj).lt b e2
      omega
  obtain ⟨o1, gg⟩ := ho2.stored k (.slice A2 n2 c2)
  refine ⟨⟨by simpa using hl, ?_, fun b hb => by have := hh b hb; omega, fun j hj => ?_, fun j b hj hb => ?_, fun i j b hij hj hb => ?_⟩, gg⟩
  · exact row1_eq o1 (heads_set E hk (A2, n2, c2))
  · dsimp only [snE]
    rw [li_set (by omega)]
    by_cases e : j = k
    · rw [if_pos e, if_pos e]
      exact hx.kept gg (fun b hb e2 => by injection e2 with e2; exact hA2g b hb e2.symm)
    · rw [if_neg e, if_neg e]
      exact ((he2 j hj e).kept gg (fun b hb e2 => hne j b hj hb e2)).wide (Nat.le_refl _) (by omega)
  · dsimp only [snE] at hb
    by_cases e : j = k
    · rw [if_pos e] at hb
      have := hA2g b hb
      intro e2; simp [Value.ownBlock] at e2; omega
    · rw [if_neg e] at hb
      exact hne j b hj hb
  · dsimp only [snE] at hb ⊢
    by_cases e : i = k
    · rw [if_pos e] at hb
      rw [if_neg (by omega)]
      exact hA2E j b hj (by omega) hb
    · rw [if_neg e] at hb
      by_cases e' : j = k
      · rw [if_pos e']
        intro e2
        exact hA2E i b (by omega) e e2 hb
      · rw [if_neg e']
        exact hdd i j b hij hj hb
/-- What is apart from a list of lists stays so, and as it was. -/
structure KpL (E : Nat → Sv) (A : Option Addr) (n : Nat) (w : World) (E' : Nat → Sv) (A' : Option Addr) (n' : Nat) (w' : World) : Prop where
  size : w.heap.size ≤ w'.heap.size
  apart : ∀ k, k < w.heap.size → Apart E A n k → Apart E' A' n' k
  same : ∀ k, k < w.heap.size → Apart E A n k → w'.heap[k]? = w.heap[k]?
theorem KpL.refl (E : Nat → Sv) (A : Option Addr) (n : Nat) (w : World) : KpL E A n w E A n w := ⟨Nat.le_refl _, fun _ _ h => h, fun _ _ _ => rfl⟩
theorem KpL.trans {E E1 E2 : Nat → Sv} {A A1 A2 : Option Addr} {n n1 n2 : Nat} {w w1 w2 : World} (h : KpL E A n w E1 A1 n1 w1) (h' : KpL E1 A1 n1 w1 E2 A2 n2 w2) : KpL E A n w E2 A2 n2 w2 :=
  ⟨Nat.le_trans h.size h'.size, fun k hk ha => h'.apart k (Nat.lt_of_lt_of_le hk h.size) (h.apart k hk ha), fun k hk ha => (h'.same k (Nat.lt_of_lt_of_le hk h.size) (h.apart k hk ha)).trans (h.same k hk ha)⟩
theorem svB (A : Option Addr) (n c : Nat) : (sv ((A, n, c) : Sv)).ownBlock = rowB A := by unfold sv; rw [ownB]
/-- One row replaced: in its block or in a new one. -/
theorem KpL.repl {E : Nat → Sv} {g n i : Nat} {wo wm w2 w3 : World} {A' A2 : Option Addr} {n' c' n2 c2 : Nat} (hi : i < n) (hE : (A', n', c') = E i) (h1 : Below wo.heap.size wo wm) (h2 : wm.grownBy w2 (rowB A')) (h3 : w2.grownBy w3 (some g))
    (hat : rowB A2 = rowB A' ∨ ∃ q, rowB A2 = some q ∧ wm.heap.size ≤ q) : KpL E (some ⟨g, 0, none⟩) n wo (snE E i (A2, n2, c2)) (some ⟨g, 0, none⟩) n w3 := by
  have s1 := h1.size
  have s2 := h2.size
  have s3 := h3.size
  refine ⟨by omega, fun k hk ha => ⟨ha.1, fun j hj => ?_⟩, fun k hk ha => ?_⟩
  · by_cases e : j = i
    · subst e
      rw [snE_at, svB]
      have hb := ha.2 j hj
      rw [← hE, svB] at hb
      rcases hat with h | ⟨q, h, hq⟩
      · rw [h]; exact hb
      · rw [h]; intro h; injection h with h; omega
    · rw [show snE E i (A2, n2, c2) j = E j from if_neg e]
      exact ha.2 j hj
  · have hb := ha.2 i hi
    rw [← hE, svB] at hb
    have hg : (some k : Option Nat) ≠ some g := fun e => ha.1 (by rw [rowB_some]; exact e.symm)
    exact ((h3.block k (by omega) hg).trans (h2.block k (by omega) (fun e => hb e.symm))).trans (h1.block k hk)
/-- A list more behind them. -/
theorem KpL.snoc {E : Nat → Sv} {A A' : Option Addr} {n : Nat} {w w1 w2 : World} {B : Option Addr} {nb cb : Nat} (h1 : Below w.heap.size w w1) (h2 : w1.grownBy w2 (rowB A)) (hB : ∀ q, rowB B = some q → w.heap.size ≤ q)
    (hat : rowB A' = rowB A ∨ ∃ q, rowB A' = some q ∧ w1.heap.size ≤ q) : KpL E A n w (snE E n (B, nb, cb)) A' (n + 1) w2 := by
  have s1 := h1.size
  have s2 := h2.size
  refine ⟨by omega, fun k hk ha => ⟨?_, fun j hj => ?_⟩, fun k hk ha => ?_⟩
  · rcases hat with h | ⟨q, h, hq⟩
    · rw [h]; exact ha.1
    · rw [h]; intro h; injection h with h; omega
  · by_cases e : j = n
    · subst e
      rw [snE_at, svB]
      intro h
      have := hB k h
      omega
    · rw [snE_lt E _ (by omega)]; exact ha.2 j (by omega)
  · exact (h2.block k (by omega) (fun e => ha.1 e.symm)).trans (h1.block k hk)
set_option maxHeartbeats 4000000 in
theorem insRuleK_any (E0 : Nat → Sv) (g n c : Nat) (ls : List (List Int)) (x : Int) (lo : Nat) (w : World) (ho : OwnLE E0 w lo w.heap.size (some ⟨g, 0, none⟩) n c ls) (hlo : lo ≤ w.heap.size) (hn : n ≤ 1099511627776) (hne : ∀ k, k < n → (li ls k).length ≤ 1099511627776) :
    Calls Try.prog 148 #[.slice (some ⟨g, 0, none⟩) n c, .int .i64 x, .func (.func 89) #[] #[]] w fun e w' => ∃ A' n' c' row out E', e = .returned (.tuple #[.slice A' n' c', .int .i64 ((row : Nat) : Int)]) ∧ InsIs ls x out row ∧ OwnLE E' w' lo w'.heap.size A' n' c' out ∧ Below lo w w' ∧ KpL E0 (some ⟨g, 0, none⟩) n w E' A' n' w' := by
  have HNE := Lib.hid hne
  have HL := Lib.hid ho.1
  have HO := Lib.hid ho
  have HLO := Lib.hid hlo
  clear hne ho hlo
  go_enter Try.func148, Try.ntmps148
  go_wp2_with fail
  go_loopw [1, 15] (fun xv iv wr => ∃ i : Nat, i ≤ n ∧ iv = .int .i64 i ∧ xv = .int .i64 (xI ls x i) ∧ (∀ j, j < i → goesI ls x j) ∧ (∃ E, OwnLE E wr lo wr.heap.size (some ⟨g, 0, none⟩) n c (rI ls x i) ∧ KpL E0 (some ⟨g, 0, none⟩) n w E (some ⟨g, 0, none⟩) n wr) ∧ Below lo w wr)
    (fun _ iv _ => n - (intOf iv).toNat)
  case atStart => exact ⟨0, Nat.zero_le _, rfl, rfl, fun j hj => absurd hj (by omega), ⟨E0, HO.out, KpL.refl _ _ _ _⟩, Below.refl _ _⟩
  case round =>
    obtain ⟨i, hi, rfl, rfl, hgo, ho, hb⟩ := hrel
    clear HO
    obtain ⟨wo, rfl⟩ : ∃ wo, wo = wr := ⟨wr, rfl⟩
    have HGO := Lib.hid hgo
    have HB := Lib.hid hb
    obtain ⟨E, hE, hkp⟩ := ho
    have HE := Lib.hid hE
    have HKP := Lib.hid hkp
    have HLW : Hid (lo ≤ wo.heap.size) := Lib.hid (Nat.le_trans HLO.out hb.size)
    clear hgo hb hE hkp
    obtain ⟨X, hX⟩ : ∃ X, X = xI ls x i := ⟨_, rfl⟩
    rw [← hX]
    have HX := Lib.hid hX
    clear hX
    by_cases hlt : i < n
    · have hlI : (i : Int) < (n : Int) := by omega
      have hcE := HE.out.cellAt hlt
      have hOE := HE.out.2.2.2.1 i hlt
      rw [rI_li (Nat.le_refl _) (by rw [HL.out]; omega)] at hOE
      obtain ⟨⟨A', n', c'⟩, hEi⟩ : ∃ a, a = E i := ⟨_, rfl⟩
      rw [← hEi] at hcE hOE
      have hcell : wo.cell? ⟨g, i, none⟩ = some (.slice A' n' c') := hcE
      have hown : Own wo lo wo.heap.size A' n' c' (li ls i) := hOE
      have HEI := Lib.hid hEi
      obtain ⟨xs, hxs⟩ : ∃ xs, xs = li ls i := ⟨_, rfl⟩
      rw [← hxs] at hown
      have HXS := Lib.hid hxs
      have hlen := hown.len
      have hn' : n' ≤ 1099511627776 := by have := HNE.out i hlt; rw [← hxs] at this; omega
      have HGW : Hid (g < wo.heap.size) := Lib.hid (HE.out.2.2.1 g rfl)
      have hgle : gtN xs X ≤ n' := by have := gtN_le xs X; omega
      by_cases hgt : gtN xs X < n'
      · have HC := Lib.hid (insRow_mid A' n' c' xs X lo wo hown HLW.out hn' hgt)
        have HGT : Hid (goesI ls x i) := Lib.hid (by unfold goesI; rw [← HXS.out, ← HX.out]; omega)
        have HF : Hid (∀ wm w2, Below wo.heap.size wo wm → wm.grownBy w2 (rowB A') → Own w2 lo w2.heap.size A' n' c' (xs.set (gtN xs X) X) → w2.cell? ⟨g, i, none⟩ = some (.slice A' n' c') ∧ w2.frozen? ⟨g, i, none⟩ = false ∧ (∃ E', OwnLE E' (w2.setCell ⟨g, i, none⟩ (.slice A' n' c')) lo (w2.setCell ⟨g, i, none⟩ (.slice A' n' c')).heap.size (some ⟨g, 0, none⟩) n c (rI ls x (i + 1)) ∧ KpL E0 (some ⟨g, 0, none⟩) n w E' (some ⟨g, 0, none⟩) n (w2.setCell ⟨g, i, none⟩ (.slice A' n' c'))) ∧ Below lo w (w2.setCell ⟨g, i, none⟩ (.slice A' n' c'))) := Lib.hid (by
          intro wm w2 hb1 hg1 ho2
          have hEm : OwnLE E wm lo wo.heap.size (some ⟨g, 0, none⟩) n c (rI ls x i) := HE.out.below hb1 (Nat.le_refl _)
          have hbk : w2.heap[g]? = wm.heap[g]? := hg1.block g (Nat.lt_of_lt_of_le HGW.out hb1.size) (fun e => hEm.2.2.2.2.1 i g hlt (by rw [← HEI.out]; unfold sv; rw [ownB]; exact e.symm) rfl)
          have hRP := hEm.replE (k := i) hlt hb1.size (A2 := A') (n2 := n') (c2 := c') (ys := xs.set (gtN xs X) X) (w2 := w2) (by rw [← HEI.out]; exact hg1) ho2 (by rw [← HEI.out]; exact .inl rfl)
          refine ⟨?_, ?_, ?_, ?_⟩
          · rw [World.cell?_of_block (a := ⟨g, i, none⟩) hbk]
            have := hEm.cellAt hlt
            rw [← HEI.out] at this; exact this
          · rw [World.frozen?_of_block (a := ⟨g, i, none⟩) hbk]
            exact hEm.2.1.frozenAt i
          · have e : rI ls x (i + 1) = (rI ls x i).set i (xs.set (gtN xs X) X) := by
              show (rI ls x i).set i ((li ls i).set (gtN (li ls i) (xI ls x i)) (xI ls x i)) = _
              rw [← HXS.out, ← HX.out]
            rw [e]
            exact ⟨_, hRP.1.wide hRP.2.size, HKP.out.trans (KpL.repl hlt HEI.out hb1 hg1 hRP.2 (.inl rfl))⟩
          · have hb2 : Below lo w w2 := (HB.out.trans (hb1.mono HLW.out)).grown hg1 (Nat.le_trans HLW.out hb1.size) (fun q hq => (hown.row_lt' hq).1)
            exact hb2.grown hRP.2 (by have := hg1.size; have := hb1.size; have := HLW.out; omega) (by rintro q ⟨⟩; exact (HE.out.row_lt' rfl).1))
        have HXN : Hid (xI ls x (i + 1) = nth xs (gtN xs X)) := Lib.hid (by
          show nth (li ls i) (gtN (li ls i) (xI ls x i)) = _
          rw [← HXS.out, ← HX.out])
        clear hcE hOE hEi hxs hown hgle hlen
        go_upto_region 5 with (go_at_call 89; refine HC.out.mono ?_; rintro e w2 ⟨rfl, ho2, wm, hb2, hg2⟩; have HF2 := Lib.hid (HF.out wm w2 hb2 hg2 ho2); clear ho2 hb2 hg2)
        obtain ⟨hc2, hf2, _, _⟩ := HF2.out
        clear hcell
        go_wp2
        go_roundw
        case rel => exact ⟨i + 1, by omega, by go_num, by rw [HXN.out], fun j hj => by
          rcases Nat.lt_or_ge j i with h | h
          · exact HGO.out j h
          · obtain rfl : j = i := by omega
            exact HGT.out, HF2.out.2.2.1, HF2.out.2.2.2⟩
        case measure => simp [intOf]; omega
      · have hge : gtN xs X = n' := by omega
        have HC := Lib.hid (insRow_end A' n' c' xs X lo wo hown HLW.out hn' hge)
        have HGT : Hid (InsIs ls x ((rI ls x i).set i (xs ++ [X])) i) := Lib.hid (.inl ⟨by rw [HL.out]; exact hlt, HGO.out, by unfold goesI; rw [← HXS.out, ← HX.out]; omega, by rw [← HXS.out, ← HX.out]⟩)
        have HF : Hid (∀ wm w2 A2 c2, Below wo.heap.size wo wm → wm.grownBy w2 (rowB A') → Own w2 lo w2.heap.size A2 (n' + 1) c2 (xs ++ [X]) → (rowB A2 = rowB A' ∨ ∃ q, rowB A2 = some q ∧ wm.heap.size ≤ q) → w2.cell? ⟨g, i, none⟩ = some (.slice A' n' c') ∧ w2.frozen? ⟨g, i, none⟩ = false ∧ (∃ E', OwnLE E' (w2.setCell ⟨g, i, none⟩ (.slice A2 (n' + 1) c2)) lo (w2.setCell ⟨g, i, none⟩ (.slice A2 (n' + 1) c2)).heap.size (some ⟨g, 0, none⟩) n c ((rI ls x i).set i (xs ++ [X])) ∧ KpL E0 (some ⟨g, 0, none⟩) n w E' (some ⟨g, 0, none⟩) n (w2.setCell ⟨g, i, none⟩ (.slice A2 (n' + 1) c2))) ∧ Below lo w (w2.setCell ⟨g, i, none⟩ (.slice A2 (n' + 1) c2))) := Lib.hid (by
          intro wm w2 A2 c2 hb1 hg1 ho2 hat
          have hEm : OwnLE E wm lo wo.heap.size (some ⟨g, 0, none⟩) n c (rI ls x i) := HE.out.below hb1 (Nat.le_refl _)
          have hbk : w2.heap[g]? = wm.heap[g]? := hg1.block g (Nat.lt_of_lt_of_le HGW.out hb1.size) (fun e => hEm.2.2.2.2.1 i g hlt (by rw [← HEI.out]; unfold sv; rw [ownB]; exact e.symm) rfl)
          have hRP := hEm.replE (k := i) hlt hb1.size (A2 := A2) (n2 := n' + 1) (c2 := c2) (ys := xs ++ [X]) (w2 := w2) (by rw [← HEI.out]; exact hg1) ho2 (by rw [← HEI.out]; exact hat)
          refine ⟨?_, ?_, ?_, ?_⟩
          · rw [World.cell?_of_block (a := ⟨g, i, none⟩) hbk]
            have := hEm.cellAt hlt
            rw [← HEI.out] at this; exact this
          · rw [World.frozen?_of_block (a := ⟨g, i, none⟩) hbk]
            exact hEm.2.1.frozenAt i
          · exact ⟨_, hRP.1.wide hRP.2.size, HKP.out.trans (KpL.repl hlt HEI.out hb1 hg1 hRP.2 hat)⟩
          · have hb2 : Below lo w w2 := (HB.out.trans (hb1.mono HLW.out)).grown hg1 (Nat.le_trans HLW.out hb1.size) (fun q hq => (hown.row_lt' hq).1)
            exact hb2.grown hRP.2 (by have := hg1.size; have := hb1.size; have := HLW.out; omega) (by rintro q ⟨⟩; exact (HE.out.row_lt' rfl).1))
        clear hcE hOE hEi hxs hown hgle hgt hge hlen
        go_upto_region 5 with (go_at_call 89; refine HC.out.mono ?_; rintro e w2 ⟨A2, c2, wm, rfl, ho2, hb2, hg2, hat2⟩; have HF2 := Lib.hid (HF.out wm w2 A2 c2 hb2 hg2 ho2 hat2); clear ho2 hb2 hg2 hat2)
        obtain ⟨hc2, hf2, _, _⟩ := HF2.out
        clear hcell
        go_wp2
        go_ret2
        obtain ⟨_, _, ⟨E', hE', hK'⟩, hBB⟩ := HF2.out
        exact ⟨_, n, c, i, (rI ls x i).set i (xs ++ [X]), E', rfl, HGT.out, hE', hBB, hK'⟩
    · obtain rfl : i = n := by omega
      have HLT : Hid (Own (wo.alloc (.cells #[.int .i64 X] 3)) wo.heap.size (wo.alloc (.cells #[.int .i64 X] 3)).heap.size (some ⟨wo.heap.size, 0, none⟩) 1 1 [X]) := Lib.hid ⟨World.ownsRow_lit wo #[.int .i64 X] 1 (Nat.le_refl _) (by unfold maxLen; omega) rfl, fun k hk => by simp [Value.ownBlock] at hk; simp; omega⟩
      have hba : Below wo.heap.size wo (wo.alloc (.cells #[.int .i64 X] 3)) := Below.alloc_self _ _
      have HBA := Lib.hid hba
      clear hba
      go_wp2_with (at_builtin; refine wpList_appendLE rfl (.tmp 38) (.tmp 41) rfl lo wo.heap.size _ i c (rI ls x i) wo.heap.size (wo.alloc (.cells #[.int .i64 X] 3)).heap.size (some ⟨wo.heap.size, 0, none⟩) 1 1 [X] rfl (by show Act.eval _ _ = _; simp [Act.eval]) (HE.out.below HBA.out (Nat.le_refl _)) HLT.out HLW.out (HE.out.apart_hi HLT.out (Nat.le_refl _)) (Nat.le_refl _) HBA.out.size (Nat.le_trans HLW.out HBA.out.size) (by omega) ?_
                   intro A4 c4 w4 ho4 hat4 hg4 hb4
                   have HO4 := Lib.hid ho4
                   have HB4 : Hid (Below lo w w4) := Lib.hid ((HB.out.trans (HBA.out.mono HLW.out)).trans hb4)
                   have HK4 := Lib.hid (HKP.out.trans (KpL.snoc (E := E) (n := i) (nb := 1) (cb := 1) HBA.out hg4 (B := some ⟨wo.heap.size, 0, none⟩) (by intro q e; rw [rowB_some] at e; injection e with e; omega) hat4))
                   clear ho4 hat4 hg4 hb4)
      go_ret2
      refine ⟨A4, i + 1, c4, i, rI ls x i ++ [[X]], _, rfl, .inr ⟨HL.out.symm, HGO.out, ?_⟩, HO4.out, HB4.out, HK4.out⟩
      rw [← HX.out]
set_option maxHeartbeats 1000000 in
/-- Into no rows at all. -/
theorem insRuleNil_any (x : Int) (w : World) :
    Calls Try.prog 148 #[.slice none 0 0, .int .i64 x, .func (.func 89) #[] #[]] w fun e w' => ∃ A' c' E', e = .returned (.tuple #[.slice A' 1 c', .int .i64 0]) ∧ InsIs [] x [[x]] 0 ∧ OwnLE E' w' w.heap.size w'.heap.size A' 1 c' [[x]] ∧ Below w.heap.size w w' ∧ KpL (fun _ => (none, 0, 0)) none 0 w E' A' 1 w' := by
  have HLT : Hid (Own (w.alloc (.cells #[.int .i64 x] 3)) w.heap.size (w.alloc (.cells #[.int .i64 x] 3)).heap.size (some ⟨w.heap.size, 0, none⟩) 1 1 [x]) := Lib.hid ⟨World.ownsRow_lit w #[.int .i64 x] 1 (Nat.le_refl _) (by unfold maxLen; omega) rfl, fun k hk => by simp [Value.ownBlock] at hk; simp; omega⟩
  have HBA : Hid (Below w.heap.size w (w.alloc (.cells #[.int .i64 x] 3))) := Lib.hid (Below.alloc_self _ _)
  have HE0 : Hid (OwnLE (fun _ => (none, 0, 0)) w w.heap.size w.heap.size none 0 0 []) := Lib.hid (OwnLE.nil _ _ _ _)
  go_enter Try.func148, Try.ntmps148
  go_wp2_with fail
  refine wp_loop_rounds 1 ?_
  rw [rounds_succ]
  go_wp2_with (at_builtin; refine wpList_appendLE rfl (.tmp 38) (.tmp 41) rfl w.heap.size w.heap.size none 0 0 [] w.heap.size (w.alloc (.cells #[.int .i64 x] 3)).heap.size (some ⟨w.heap.size, 0, none⟩) 1 1 [x] rfl (by show Act.eval _ _ = _; simp [Act.eval]) (HE0.out.below HBA.out (Nat.le_refl _)) HLT.out (Nat.le_refl _) (HE0.out.apart_hi HLT.out (Nat.le_refl _)) (Nat.le_refl _) HBA.out.size HBA.out.size (by omega) ?_
               intro A4 c4 w4 ho4 hat4 hg4 hb4
               have HO4 := Lib.hid ho4
               have HB4 : Hid (Below w.heap.size w w4) := Lib.hid (HBA.out.trans hb4)
               have HK4 := Lib.hid (KpL.snoc (E := fun _ => (none, 0, 0)) (n := 0) (nb := 1) (cb := 1) HBA.out hg4 (B := some ⟨w.heap.size, 0, none⟩) (by intro q e; rw [rowB_some] at e; injection e with e; omega) hat4)
               clear ho4 hat4 hg4 hb4)
  go_ret2
  exact ⟨A4, c4, _, rfl, .inr ⟨rfl, fun j hj => absurd hj (by omega), rfl⟩, HO4.out, HB4.out, HK4.out⟩
end Go.Proofs.Ytfaegfhbbkicgaa
