/-
  The program's insertWord: both tableaux, no block of both. Conditions: lengths below 2^40.
-/
import Derived.Test.YtfaegfhbbkicgaaRskK
namespace Go.Proofs.Ytfaegfhbbkicgaa
open Go.RowKit

set_option maxHeartbeats 2000000 in
theorem insertWord_any (A : Option Addr) (n c : Nat) (xs : List Int) (w : World) (hs : SI w A n xs) (hn : n ≤ 16) :
    Calls Try.prog 88 #[.slice A n c, .func (.func 89) #[] #[]] w fun e w' => ∃ A1 n1 c1 E1 A2 c2 E2, e = .returned (.tuple #[.slice A1 n1 c1, .slice A2 n1 c2]) ∧ OwnLE E1 w' w.heap.size w'.heap.size A1 n1 c1 (rskP xs n) ∧ OwnLE E2 w' w.heap.size w'.heap.size A2 n1 c2 (rskQ xs n) ∧ Disj E1 A1 n1 E2 A2 n1 ∧ RskK xs n ∧ Below w.heap.size w w' := by
  have HN16 := Lib.hid hn
  have HS := Lib.hid hs
  clear hs hn
  go_enter Try.func88, Try.ntmps88
  go_wp2_with fail
  go_loopw [6, 7, 13] (fun pv qv iv wr => ∃ (k : Nat) (A1 : Option Addr) (n1 c1 : Nat) (E1 : Nat → Sv) (A2 : Option Addr) (c2 : Nat) (E2 : Nat → Sv), k ≤ n ∧ iv = .int .i64 k ∧ pv = .slice A1 n1 c1 ∧ qv = .slice A2 n1 c2 ∧ n1 ≤ k ∧ (n1 = 0 → A1 = none ∧ c1 = 0) ∧ OwnLE E1 wr w.heap.size wr.heap.size A1 n1 c1 (rskP xs k) ∧ OwnLE E2 wr w.heap.size wr.heap.size A2 n1 c2 (rskQ xs k) ∧ Disj E1 A1 n1 E2 A2 n1 ∧ RskK xs k ∧ Below w.heap.size w wr)
    (fun _ _ iv _ => n - (intOf iv).toNat)
  case atStart => exact ⟨0, none, 0, 0, fun _ => (none, 0, 0), none, 0, fun _ => (none, 0, 0), Nat.zero_le _, rfl, rfl, rfl, Nat.le_refl _, fun _ => ⟨rfl, rfl⟩, OwnLE.nil _ _ _ _, OwnLE.nil _ _ _ _, fun k => .inl ⟨(fun h => by cases h), fun j hj => absurd hj (by omega)⟩, RskK.zero xs, Below.refl _ _⟩
  case round =>
    obtain ⟨k, A1, n1, c1, E1, A2, c2, E2, hk, rfl, rfl, rfl, hn1, h0, he1, he2, hdj, hkk, hb⟩ := hrel
    have HE1 := Lib.hid he1
    have HE2 := Lib.hid he2
    have HDJ := Lib.hid hdj
    have HK := Lib.hid hkk
    have HB := Lib.hid hb
    have H0 := Lib.hid h0
    clear he1 he2 hdj hkk hb h0
    by_cases hlt : k < n
    · have hlI : (k : Int) < (n : Int) := by omega
      have HLTK := Lib.hid hlt
      have hn16 := HN16.out
      obtain ⟨b, o, rfl, hb0, hc0⟩ := (HS.out.below HB.out (Nat.le_refl _)).at_ (by omega)
      have hc1 := hc0 k hlt
      obtain ⟨x, hx⟩ : ∃ x, x = nth xs k := ⟨_, rfl⟩
      rw [← hx] at hc1
      have HX := Lib.hid hx
      have HR := Lib.hid (insRuleX_any E1 A1 n1 c1 (rskP xs k) x w.heap.size wr HE1.out H0.out HB.out.size (by have := HN16.out; omega) (fun j _ => Nat.le_trans (HK.out.row j) (by have := HN16.out; omega)))
      clear hb0 hc0 hx
      go_upto_region 7 with (first
        | (go_at_call 148; (with_reducible refine HR.out.mono ?_); rintro e w3 ⟨A3, n3, c3, row, out, E3, rfl, hi3, ho3, hb3, hk3⟩
           have HI3 : Hid (InsIs (rskP xs k) (nth xs k) out row) := Lib.hid (by rw [← HX.out]; exact hi3)
           have HO3 := Lib.hid ho3
           have HB3 : Hid (Below w.heap.size w w3) := Lib.hid (HB.out.trans hb3)
           have HT3 : Hid (OwnLE E2 w3 w.heap.size w3.heap.size A2 n1 c2 (rskQ xs k)) := Lib.hid ((HE2.out.keepL (Nat.le_refl _) HDJ.out hk3).wide hk3.size)
           have HD3 : Hid (Disj E2 A2 n1 E3 A3 n3) := Lib.hid (HDJ.out.next HE2.out (Nat.le_refl _) hk3).symm
           clear hi3 ho3 hb3 hk3))
      clear hc1
      have HNX := Lib.hid (HK.out.next HI3.out)
      have HST := Lib.hid (rsk_step HI3.out)
      have hl1 := HE1.out.1
      have hl3 := HO3.out.1
      obtain ⟨hr1, hr2⟩ := insIs_len HI3.out
      have HL2 : Hid ((rskQ xs k).length = n1 ∧ ∀ j, (li (rskQ xs k) j).length ≤ 16) := Lib.hid ⟨HE2.out.1, fun j => Nat.le_trans (HK.out.row2 j) (by have := HN16.out; omega)⟩
      by_cases hrow : row = n1
      · obtain rfl : row = n1 := hrow
        obtain rfl : n3 = row + 1 := by rw [← hl3, hr2, hl1, if_pos rfl]
        have hki : ((row : Int) == (row : Int)) = true := by simp
        have HQE : Hid (grownL (rskQ xs k) row (k : Int) = (rskQ xs k ++ [[]]).set row (li (rskQ xs k ++ [[]]) row ++ [(k : Int)])) := Lib.hid (by
          have h := HL2.out.1
          unfold grownL
          rw [if_pos h.symm, ← h, li_app_at]
          simp)
        have HL4 : Hid ((li (rskQ xs k ++ [[]]) row).length ≤ 16) := Lib.hid (by rw [← HL2.out.1, li_app_at]; simp)
        clear hl1 hl3 hr1 hr2
        go_upto_region 9 with (first
          | (at_builtin; refine wpList_appendLE rfl (.tmp 29) (.tmp 30) rfl w.heap.size w3.heap.size A2 row c2 (rskQ xs k) w3.heap.size w3.heap.size none 0 0 [] rfl rfl HT3.out (Own.nil _ _ _) HB3.out.size (fun b hb => by simp [Value.ownBlock] at hb) (Nat.le_refl _) (Nat.le_refl _) HB3.out.size (by have := HN16.out; omega) ?_
             intro A4 c4 w4 ho4 hat4 hg4 hb4
             have HT4 := Lib.hid ho4
             have HB4 : Hid (Below w.heap.size w w4) := Lib.hid (HB3.out.trans hb4)
             have hk4 := KpL.snoc (E := E2) (n := row) (B := none) (nb := 0) (cb := 0) (Below.refl w3.heap.size w3) hg4 (fun q h => by cases h) hat4
             have HG4 : Hid (OwnLE E3 w4 w.heap.size w4.heap.size A3 (row + 1) c3 out) := Lib.hid ((HO3.out.keepL (Nat.le_refl _) HD3.out hk4).wide hk4.size)
             have HD4 : Hid (Disj (snE E2 row (none, 0, 0)) A4 (row + 1) E3 A3 (row + 1)) := Lib.hid (HD3.out.next HO3.out (Nat.le_refl _) hk4)
             clear ho4 hat4 hg4 hb4 hk4))
        obtain ⟨E4, hE4⟩ : ∃ E4, E4 = snE E2 row (none, 0, 0) := ⟨_, rfl⟩
        rw [← hE4] at HT4 HD4
        have HLT : Hid (row < row + 1) := Lib.hid (by omega)
        have HB4L : Hid ((li (rskQ xs k ++ [[]]) row).length ≤ 16) := HL4
        clear hE4
        obtain ⟨g, rfl, _⟩ := HT4.out.place (show 0 < row + 1 by omega)
        have hcE := HT4.out.cellAt HLT.out
        have hOE := HT4.out.2.2.2.1 row HLT.out
        obtain ⟨⟨A', n', c'⟩, hEi⟩ : ∃ a, a = E4 row := ⟨_, rfl⟩
        rw [← hEi] at hcE hOE
        have hcell : w4.cell? ⟨g, row, none⟩ = some (.slice A' n' c') := hcE
        have HCE := Lib.hid hcell
        have HOr : Hid (Own w4 w.heap.size w4.heap.size A' n' c' (li (rskQ xs k ++ [[]]) row)) := Lib.hid hOE
        have HEI := Lib.hid hEi
        have hn' : n' ≤ 1099511627775 := by have := HB4L.out; have := HOr.out.len; omega
        have HGR : Hid (g < w4.heap.size) := Lib.hid (HT4.out.2.2.1 g rfl)
        have HLO5 : Hid (w.heap.size ≤ w4.heap.size) := Lib.hid HB4.out.size
        have hrI : (row : Int) < ((row + 1 : Nat) : Int) := by have := HLT.out; omega
        clear hcE hOE hEi
        go_wp2_with (first
          | (at_builtin; refine wpList_append_keep rfl (.tmp 37) (.tmp 39) rfl w.heap.size w4.heap.size A' n' c' (li (rskQ xs k ++ [[]]) row) (k : Int) rfl rfl HOr.out HLO5.out (by omega) ?_
             intro B' d' w6 ho6 hg6 hat6
             have hat6' : rowB B' = rowB A' ∨ ∃ q, rowB B' = some q ∧ w4.heap.size ≤ q := by
               rcases hat6 with ⟨h, _⟩ | ⟨q, h, hq, _⟩
               · left; rw [h]
               · right; exact ⟨q, by rw [h]; rfl, hq⟩
             have hRP := HT4.out.replE (k := row) HLT.out (Nat.le_refl _) (A2 := B') (n2 := n' + 1) (c2 := d') (ys := li (rskQ xs k ++ [[]]) row ++ [(k : Int)]) (w2 := w6) (by rw [← HEI.out]; exact hg6) ho6 (by rw [← HEI.out]; exact hat6')
             have HRP := Lib.hid hRP
             have HKP := Lib.hid (KpL.repl (c2 := d') (n2 := n' + 1) HLT.out HEI.out (Below.refl w4.heap.size w4) hg6 hRP.2 hat6')
             have HB6 : Hid (Below w.heap.size w w6) := Lib.hid (HB4.out.grown hg6 HLO5.out (fun q hq => (HOr.out.row_lt' hq).1))
             have HS6 : Hid (w4.heap.size ≤ w6.heap.size) := Lib.hid hg6.size
             have hbk : w6.heap[g]? = w4.heap[g]? := hg6.block g HGR.out (fun e => HT4.out.2.2.2.2.1 row g HLT.out (by rw [← HEI.out]; unfold sv; rw [ownB]; exact e.symm) rfl)
             have hc2 : w6.cell? ⟨g, row, none⟩ = some (.slice A' n' c') := by rw [World.cell?_of_block (a := ⟨g, row, none⟩) hbk]; exact HCE.out
             have hf2 : w6.frozen? ⟨g, row, none⟩ = false := by rw [World.frozen?_of_block (a := ⟨g, row, none⟩) hbk]; exact HT4.out.2.1.frozenAt row
             clear ho6 hg6 hat6 hat6' hRP hbk))
        go_roundw
        case rel => exact ⟨k + 1, A3, row + 1, c3, E3, some ⟨g, 0, none⟩, c4, snE E4 row (B', n' + 1, d'), by omega, by go_num, rfl, rfl, by have h1 := HNX.out.few; rw [HST.out.1, HO3.out.1] at h1; exact h1, fun h => absurd h (by omega),
          by rw [HST.out.1]; exact (HG4.out.keepL (Nat.le_refl _) HD4.out HKP.out).wide HKP.out.size, by rw [HST.out.2, HQE.out]; exact HRP.out.1.wide HRP.out.2.size, (HD4.out.next HG4.out (Nat.le_refl _) HKP.out).symm, HNX.out,
          HB6.out.grown HRP.out.2 (by have := HS6.out; have := HLO5.out; omega) (by rintro q ⟨⟩; exact (HT4.out.row_lt' rfl).1)⟩
        case measure => have hlt' := HLTK.out; simp [intOf]; omega
      · obtain rfl : n3 = n1 := by rw [← hl3, hr2, hl1, if_neg hrow]
        have hrI0 : ¬ (row : Int) = (n3 : Int) := by omega
        have hki : ((row : Int) == (n3 : Int)) = false := by simp; omega
        have HLT : Hid (row < n3) := Lib.hid (by omega)
        have hn3 : 0 < n3 := by omega
        have HQE : Hid (grownL (rskQ xs k) row (k : Int) = (rskQ xs k).set row (li (rskQ xs k) row ++ [(k : Int)])) := Lib.hid (by
          unfold grownL
          rw [if_neg (by rw [HL2.out.1]; exact hrow)])
        have HB3L : Hid ((li (rskQ xs k) row).length ≤ 16) := Lib.hid (HL2.out.2 row)
        clear hl1 hl3 hr1 hr2 hrow
        go_upto_region 9 with fail
        obtain ⟨g, rfl, _⟩ := HT3.out.place (show 0 < n3 by omega)
        have hcE := HT3.out.cellAt HLT.out
        have hOE := HT3.out.2.2.2.1 row HLT.out
        obtain ⟨⟨A', n', c'⟩, hEi⟩ : ∃ a, a = E2 row := ⟨_, rfl⟩
        rw [← hEi] at hcE hOE
        have hcell : w3.cell? ⟨g, row, none⟩ = some (.slice A' n' c') := hcE
        have HCE := Lib.hid hcell
        have HOr : Hid (Own w3 w.heap.size w3.heap.size A' n' c' (li (rskQ xs k) row)) := Lib.hid hOE
        have HEI := Lib.hid hEi
        have hn' : n' ≤ 1099511627775 := by have := HB3L.out; have := HOr.out.len; omega
        have HGR : Hid (g < w3.heap.size) := Lib.hid (HT3.out.2.2.1 g rfl)
        have HLO5 : Hid (w.heap.size ≤ w3.heap.size) := Lib.hid HB3.out.size
        have hrI : (row : Int) < ((n3 : Nat) : Int) := by have := HLT.out; omega
        clear hcE hOE hEi
        go_wp2_with (first
          | (at_builtin; refine wpList_append_keep rfl (.tmp 37) (.tmp 39) rfl w.heap.size w3.heap.size A' n' c' (li (rskQ xs k) row) (k : Int) rfl rfl HOr.out HLO5.out (by omega) ?_
             intro B' d' w6 ho6 hg6 hat6
             have hat6' : rowB B' = rowB A' ∨ ∃ q, rowB B' = some q ∧ w3.heap.size ≤ q := by
               rcases hat6 with ⟨h, _⟩ | ⟨q, h, hq, _⟩
               · left; rw [h]
               · right; exact ⟨q, by rw [h]; rfl, hq⟩
             have hRP := HT3.out.replE (k := row) HLT.out (Nat.le_refl _) (A2 := B') (n2 := n' + 1) (c2 := d') (ys := li (rskQ xs k) row ++ [(k : Int)]) (w2 := w6) (by rw [← HEI.out]; exact hg6) ho6 (by rw [← HEI.out]; exact hat6')
             have HRP := Lib.hid hRP
             have HKP := Lib.hid (KpL.repl (c2 := d') (n2 := n' + 1) HLT.out HEI.out (Below.refl w3.heap.size w3) hg6 hRP.2 hat6')
             have HB6 : Hid (Below w.heap.size w w6) := Lib.hid (HB3.out.grown hg6 HLO5.out (fun q hq => (HOr.out.row_lt' hq).1))
             have HS6 : Hid (w3.heap.size ≤ w6.heap.size) := Lib.hid hg6.size
             have hbk : w6.heap[g]? = w3.heap[g]? := hg6.block g HGR.out (fun e => HT3.out.2.2.2.2.1 row g HLT.out (by rw [← HEI.out]; unfold sv; rw [ownB]; exact e.symm) rfl)
             have hc2 : w6.cell? ⟨g, row, none⟩ = some (.slice A' n' c') := by rw [World.cell?_of_block (a := ⟨g, row, none⟩) hbk]; exact HCE.out
             have hf2 : w6.frozen? ⟨g, row, none⟩ = false := by rw [World.frozen?_of_block (a := ⟨g, row, none⟩) hbk]; exact HT3.out.2.1.frozenAt row
             clear ho6 hg6 hat6 hat6' hRP hbk))
        go_roundw
        case rel => exact ⟨k + 1, A3, n3, c3, E3, some ⟨g, 0, none⟩, c2, snE E2 row (B', n' + 1, d'), by omega, by go_num, rfl, rfl, by have h1 := HNX.out.few; rw [HST.out.1, HO3.out.1] at h1; exact h1, fun h => absurd h (by omega),
          by rw [HST.out.1]; exact (HO3.out.keepL (Nat.le_refl _) HD3.out HKP.out).wide HKP.out.size, by rw [HST.out.2, HQE.out]; exact HRP.out.1.wide HRP.out.2.size, (HD3.out.next HO3.out (Nat.le_refl _) HKP.out).symm, HNX.out,
          HB6.out.grown HRP.out.2 (by have := HS6.out; have := HLO5.out; omega) (by rintro q ⟨⟩; exact (HT3.out.row_lt' rfl).1)⟩
        case measure => have hlt' := HLTK.out; simp [intOf]; omega
    · have hlI : ¬ (k : Int) < (n : Int) := by omega
      obtain rfl : k = n := by omega
      go_wp2
      go_ret2
      exact ⟨A1, n1, c1, E1, A2, c2, rfl, HE1.out, E2, HE2.out, HDJ.out, HK.out, HB.out⟩
end Go.Proofs.Ytfaegfhbbkicgaa
