/-
  Variables exchanged, the program's side. Conditions: lengths below 2^40.
-/
import Derived.Test.YtkfpacjncpifgaaSwapS
import Derived.Test.YtkfpacjncpifgaaSortT
import Derived.Test.YtkfpacjncpifgaaClone
import Derived.Test.YtkfpacjncpifgaaPolyOkI
import Derived.Test.YtkfpacjncpifgaaSmallT
import Derived.BigRegion
namespace Go.Proofs.Ytkfpacjncpifgaa
open Go.RowKit

theorem insSort_none (A : Option Addr) (c : Nat) (f : Value) (w : World) : Calls Try.prog 139 #[.slice A 0 c, .int .i64 0, .int .i64 0, f] w fun e w' => e = .returned (.tuple #[]) ∧ w = w' := by
  go_enter Try.func139, Try.ntmps139
  go_wp2
  refine wp_loop_rounds 1 ?_
  rw [rounds_succ]
  go_wp2
  go_end0
  exact ⟨rfl, rfl⟩
set_option maxRecDepth 100000 in
set_option maxHeartbeats 1000000 in
theorem pdq_none (A : Option Addr) (c : Nat) (lim : Int) (f : Value) (w : World) : Calls Try.prog 119 #[.slice A 0 c, .int .i64 0, .int .i64 0, .int .i64 lim, f] w fun e w' => e = .returned (.tuple #[]) ∧ w = w' := by
  go_enter Try.func119, Try.ntmps119
  go_wp2
  refine wp_loop_rounds 1 ?_
  rw [rounds_succ]
  go_wp2_with (go_at_call 139; refine (insSort_none A c f _).mono ?_; rintro e w' ⟨rfl, rfl⟩)
  (try simp only [Exit.inBlock, Exit.then])
  refine bodyPost_ret (results_none rfl _ _ _) rfl ?_
  exact ⟨rfl, rfl⟩
theorem bitsLen_zero (w : World) : Calls Try.prog 120 #[.int .u64 0] w fun e w' => e = .returned (.int .i64 0) ∧ w = w' := by
  have L := Try.sortT
  have h := Any.bits_Len (SlLaysF0.n15.bits (P := Try.prog) (ρ := Try.sortT_ren) { L with }) (0 : Int) w (by omega) (by omega)
  exact h.mono fun _ _ ⟨h1, h2⟩ => ⟨by rw [h1]; rfl, h2.symm⟩
/-- No term at all. -/
theorem sortTerms_none (A : Option Addr) (c : Nat) (f : Value) (w : World) : Calls Try.prog 67 #[.slice A 0 c, f] w fun e w' => e = .returned (.tuple #[]) ∧ w = w' := by
  go_enter Try.func67, Try.ntmps67
  go_wp2_with (first | (go_at_call 120; refine (bitsLen_zero _).mono ?_; rintro e w' ⟨rfl, rfl⟩) | (go_at_call 119; refine (pdq_none A c _ f _).mono ?_; rintro e w' ⟨rfl, rfl⟩))
  go_end0
  exact ⟨rfl, rfl⟩
/-- A slice of terms of the call's own sorted, however many. -/
theorem sortTerms_any (A : Option Addr) (n c lo hi : Nat) (ts : List Tm) (w : World) (h : OwnT w lo hi A n c ts) (hn : n ≤ 1099511627776) (h7 : ∀ k, k < n → (tm ts k).1.length = 7) :
    Calls Try.prog 67 #[.slice A n c, .func (.func 68) #[] #[]] w fun e w' => e = .returned (.tuple #[]) ∧
      ∃ us : List Tm, us.Perm ts ∧ us.Pairwise (fun a b => 0 ≤ cmpX b.1 a.1 7) ∧ OwnT w' lo hi A n c us ∧ w.grownBy w' (Value.slice A n c).ownBlock := by
  rcases Nat.eq_zero_or_pos n with h0 | h0
  · subst h0
    have hx : ts = [] := List.eq_nil_of_length_eq_zero h.len
    subst hx
    refine (sortTerms_none A c _ w).mono ?_
    rintro e w' ⟨rfl, rfl⟩
    exact ⟨rfl, [], List.Perm.refl _, List.Pairwise.nil, h, World.grownBy.refl _ _⟩
  · obtain ⟨g, rfl, _, _⟩ := h.place h0
    exact sortTerms_own g n c lo hi ts w h h0 hn h7

/-- Terms with other exponents, sorted: they are a polynomial. -/
theorem swap_sorted {ts us : List Tm} {i : Nat} (hp : polyB ts = true) (hi : i ≤ 5) (hperm : us.Perm (swT ts i)) (hs : us.Pairwise (fun a b => 0 ≤ cmpX b.1 a.1 7)) : us = swapPoly ts i := by
  have hex := polyB_ex7 hp
  have hexS := swT_ex7 hex (i := i) (by omega)
  have hexU : ∀ u ∈ us, ex7 u.1 := fun u hu => hexS u (hperm.mem_iff.1 hu)
  have hkeys : ∀ a ∈ us, ∀ b ∈ us, 0 ≤ cmpX b.1 a.1 7 → key7 b.1 ≤ key7 a.1 := fun a ha b hb h => by
    have ea := hexU a ha
    have eb := hexU b hb
    rw [cmpX_key eb.1 ea.1 eb.2 ea.2 7 (Nat.le_refl _) (fun j h1 h2 => absurd h1 (by omega))] at h
    unfold cmpK at h
    split at h
    · omega
    · omega
  have hnd : (us.map fun t => key7 t.1).Nodup := by
    have h1 : ((swT ts i).map fun t => key7 t.1).Nodup := by
      have hd := polyB_desc hp
      unfold swT
      rw [List.map_map]
      have h2 : (ts.map fun t => swK (key7 t.1) i).Nodup := by
        unfold List.Nodup
        rw [List.pairwise_map]
        refine hd.imp_of_mem ?_
        intro a b ha hb hlt e
        rw [swK_key (hex a ha) (by omega), swK_key (hex b hb) (by omega)] at e
        have e2 := key7_inj (swE_ex7 (hex a ha) (i := i) (by omega)) (swE_ex7 (hex b hb) (i := i) (by omega)) e
        have e3 : ∀ k, k < 7 → nth a.1 k = nth b.1 k := fun k hk => by
          have ha7 := (hex a ha).1
          have hb7 := (hex b hb).1
          have q : ∀ j, j < 7 → nth (swE a.1 i) j = nth (swE b.1 i) j := fun j _ => by rw [e2]
          unfold swE at q
          by_cases h1 : k = i
          · have := q (i + 1) (by omega)
            rw [putE_nth (by omega) _ _ (by omega), putE_nth (by omega) _ _ (by omega), if_pos rfl, if_pos rfl] at this
            rw [h1]; exact this
          · by_cases h2 : k = i + 1
            · have := q i (by omega)
              rw [putE_nth (by omega) _ _ (by omega), putE_nth (by omega) _ _ (by omega), if_neg (show ¬ i = i + 1 by omega), if_pos rfl, if_neg (show ¬ i = i + 1 by omega), if_pos rfl] at this
              rw [h2]; exact this
            · have := q k hk
              rw [putE_nth (by omega) _ _ (by omega), putE_nth (by omega) _ _ (by omega), if_neg h2, if_neg h1, if_neg h2, if_neg h1] at this
              exact this
        have e4 : a.1 = b.1 := by
          apply List.ext_getElem (by rw [(hex a ha).1, (hex b hb).1])
          intro k h1 h2
          rw [← nth_get, ← nth_get]
          exact e3 k (by rw [(hex a ha).1] at h1; exact h1)
        rw [e4] at hlt; omega
      have e : (ts.map ((fun t : Tm => key7 t.1) ∘ fun t => (swE t.1 i, t.2))) = ts.map fun t => swK (key7 t.1) i := by
        apply List.map_congr_left
        intro t ht
        show key7 (swE t.1 i) = swK (key7 t.1) i
        rw [swK_key (hex t ht) (by omega)]
      rw [e]; exact h2
    exact (hperm.map fun t => key7 t.1).nodup_iff.2 h1
  have hdesc : us.Pairwise fun a b => key7 b.1 < key7 a.1 := by
    unfold List.Nodup at hnd
    rw [List.pairwise_map] at hnd
    refine (hs.imp_of_mem (S := fun a b => key7 b.1 ≤ key7 a.1) (fun ha hb h => hkeys _ ha _ hb h)).imp₂ ?_ hnd
    intro a b h1 h2
    omega
  have hgood : ∀ u ∈ us, goodT u = true := fun u hu => by
    have := hperm.mem_iff.1 hu
    unfold swT at this
    obtain ⟨t, ht, rfl⟩ := List.mem_map.1 this
    have hg := (goodT_iff _).1 (polyB_good' hp t ht)
    refine (goodT_iff _).2 ⟨(swE_ex7 (hex t ht) (by omega)).1, smallE_all fun k hk => ?_, hg.2.2.1, hg.2.2.2.1, hg.2.2.2.2⟩
    have h7 := hg.1
    have hk7 : k < 7 := by rw [(swE_ex7 (hex t ht) (i := i) (by omega)).1] at hk; exact hk
    show 0 ≤ nth (swE t.1 i) k ∧ nth (swE t.1 i) k ≤ 24
    unfold swE
    rw [putE_nth (by omega) _ _ (by omega)]
    split
    · exact smallE_nth hg.2.1 (by omega)
    · split
      · exact smallE_nth hg.2.1 (by omega)
      · exact smallE_nth hg.2.1 (by omega)
  have hpU : polyB us = true := polyB_of (by rw [hperm.length_eq]; unfold swT; rw [List.length_map]; exact polyB_len hp) hgood hdesc
  rw [swapPoly_yes hp hi, open_swT hex (by omega), gather_open hdesc (fun u hu => good_in64 (hgood u hu)) (fun k => by
    rw [cfL_perm (show (openM us).Perm (openM (swT ts i)) from hperm.map _)]; exact eqm.refl _), shut_open hexU, if_pos hpU]

theorem hasPairAt_any (i : Int) (w : World) : Calls Try.prog 65 #[.int .i64 i] w fun e w' => e = .returned (.bool (decide (0 ≤ i ∧ i ≤ 5))) ∧ w = w' := by
  by_cases h0 : 0 ≤ i
  · by_cases h1 : i ≤ 5
    · rw [decide_eq_true ⟨h0, h1⟩]
      go_enter Try.func65, Try.ntmps65
      go_wp2
      go_ret
      exact ⟨rfl, rfl⟩
    · rw [decide_eq_false (fun h => h1 h.2)]
      go_enter Try.func65, Try.ntmps65
      go_wp2
      go_ret
      exact ⟨rfl, rfl⟩
  · rw [decide_eq_false (fun h => h0 h.1)]
    go_enter Try.func65, Try.ntmps65
    go_wp2
    go_ret
    exact ⟨rfl, rfl⟩
/-- The terms as they stand after k rounds. -/
def stT (ts : List Tm) (i k : Nat) : List Tm := swT (ts.take k) i ++ zeroT (ts.length - k)
theorem stT_zero (ts : List Tm) (i : Nat) : stT ts i 0 = zeroT ts.length := by simp [stT, swT]
theorem stT_all (ts : List Tm) (i : Nat) : stT ts i ts.length = swT ts i := by simp [stT, zeroT]
theorem stT_len {ts : List Tm} {i k : Nat} (h : k ≤ ts.length) : (stT ts i k).length = ts.length := by simp [stT, swT, zeroT]; omega
theorem stT_succ {ts : List Tm} {i k : Nat} (h : k < ts.length) (y : Tm) : ((stT ts i k).set k y).set k (swE (tm ts k).1 i, (tm ts k).2) = stT ts i (k + 1) := by
  rw [List.set_set]
  unfold stT zeroT
  have hl : (swT (ts.take k) i).length = k := by simp [swT]; omega
  rw [List.set_append_right _ _ (by omega), hl]
  have e : ts.length - k = (ts.length - (k + 1)) + 1 := by omega
  rw [e, List.replicate_succ, Nat.sub_self, List.set_cons_zero, take_tm h]
  unfold swT
  rw [List.map_append, List.append_assoc]
  rfl
set_option maxRecDepth 100000 in
set_option maxHeartbeats 2000000 in
theorem implSwap_any (A : Option Addr) (n c : Nat) (ts : List Tm) (i : Int) (w : World) (hs : TS w A n ts) (hn : n ≤ 1099511627776) (hne : ∀ k, k < n → (tm ts k).1.length ≤ 1099511627776) :
    Calls Try.prog 18 #[.slice A n c, .int .i64 i] w fun r w' => FreshT w w' r (swapPoly ts i) := by
  have hP := implPolyOk_any A n c ts w hs hn hne
  have hV := fun w => hasPairAt_any i w
  cases hu : polyB ts with
  | false =>
    rw [hu] at hP
    have HE := Lib.hid (swapPoly_no (ts := ts) (i := i) (fun h => by rw [hu] at h; cases h.1))
    have HP := Lib.hid hP
    clear hP hu hV
    go_enter Try.func18, Try.ntmps18
    go_wp2_with (go_at_call 64; refine HP.out.mono ?_; rintro e w7 ⟨rfl, hd7⟩; have HD7 := Lib.hid hd7; clear hd7)
    go_ret
    rw [HE.out]
    exact FreshT.nil_ret HD7.out
  | true =>
    rw [hu] at hP
    by_cases hi : 0 ≤ i ∧ i ≤ 5
    · obtain ⟨m, rfl⟩ : ∃ m : Nat, i = m := ⟨i.toNat, by omega⟩
      have hm5 : m ≤ 5 := by omega
      have HU := Lib.hid hu
      have hnl : n ≤ 600 := by have := polyB_len hu; have := hs.1; omega
      have HL := Lib.hid hs.1
      rw [decide_eq_true hi] at hV
      have HP := Lib.hid hP
      have HV := Lib.hid hV
      clear hP hu hV hi hne
      go_enter Try.func18, Try.ntmps18
      go_wp2_with (first
        | (go_at_call 64; refine HP.out.mono ?_; rintro e w7 ⟨rfl, hd7⟩; have HD7 := Lib.hid hd7; clear hd7)
        | (go_at_call 65; refine (HV.out _).mono ?_; rintro e w8 ⟨rfl, rfl⟩)
        | (at_make; refine wpList_make_terms rfl (.tmp 17) (.tmp 17) rfl n rfl rfl hn ?_; intro w1 hown hbel1; have HO := Lib.hid hown; have HB := Lib.hid hbel1; clear hown hbel1))
      obtain ⟨B, hB⟩ : ∃ B, B = w7.heap.size := ⟨_, rfl⟩
      have hB0 : w.heap.size ≤ B := by rw [hB]; exact HD7.out.size
      rw [← hB] at HO HB ⊢
      have HBW : Hid (Below w.heap.size w w1) := Lib.hid (HD7.out.trans (HB.out.mono hB0))
      have HOO : Hid (OwnT w1 B w1.heap.size (some ⟨B, 0, none⟩) n n (stT ts m 0)) := Lib.hid (by rw [stT_zero, HL.out]; exact HO.out)
      have HZB : Hid (B ≤ w1.heap.size) := Lib.hid (by have := HB.out.size; rw [← hB] at this; exact this)
      clear hB HO HB
      go_loopw [21] (fun iv wr => ∃ k : Nat, k ≤ n ∧ iv = .int .i64 k ∧ OwnT wr B wr.heap.size (some ⟨B, 0, none⟩) n n (stT ts m k) ∧ Below w.heap.size w wr ∧ B ≤ wr.heap.size)
        (fun iv _ => n - (intOf iv).toNat)
      case atStart => exact ⟨0, Nat.zero_le _, rfl, HOO.out, HBW.out, HZB.out⟩
      case round =>
        obtain ⟨k, hk, rfl, ho, hb, hz⟩ := hrel
        clear HOO HBW HZB
        have HO := Lib.hid ho
        have HB := Lib.hid hb
        have HZ := Lib.hid hz
        have hwr := hb.size
        by_cases hlt : k < n
        · have hltI : (k : Int) < (n : Int) := by omega
          obtain ⟨b, o, A2, n2, c2, rfl, hbw, hc0', hc1', hsi', hnc, hnil⟩ := hs.at_ hlt
          have hc0 := (hb.cell (p := ⟨b, o + k * 2, none⟩) hbw).trans hc0'
          have hc1 := (hb.cell (p := ⟨b, o + k * 2 + 1, none⟩) hbw).trans hc1'
          have hb2w : ∃ b2 o2, A2 = some ⟨b2, o2, none⟩ ∧ b2 < w.heap.size := by
            obtain ⟨b2, o2, e, h, _⟩ := hsi'.at_ (by
              have hg := (goodT_iff _).1 (polyB_good HU.out (k := k) (by rw [HL.out]; exact hlt))
              have := hsi'.1; omega)
            exact ⟨b2, o2, e, h⟩
          have hsi := hsi'.below hb (Nat.le_refl _)
          clear ho hb hz hc0' hc1' hsi'
          have hg := (goodT_iff _).1 (polyB_good HU.out (k := k) (by rw [HL.out]; exact hlt))
          obtain rfl : n2 = 7 := by rw [← hsi.1]; exact hg.1
          obtain ⟨b2, o2, rfl, hb2w⟩ := hb2w
          have hcx : ∀ j, j < 7 → wr.cell? ⟨b2, o2 + j, none⟩ = some (.int .i64 (nth (tm ts k).1 j)) := by
            obtain ⟨b3, o3, e3, _, hc3⟩ := hsi.at_ (by omega)
            simp only [Option.some.injEq, Addr.mk.injEq, and_true] at e3
            obtain ⟨rfl, rfl⟩ := e3
            exact hc3
          obtain ⟨z, hz⟩ : ∃ z, z = (tm ts k).2 := ⟨_, rfl⟩
          rw [← hz] at hc1
          obtain ⟨w2, hw2⟩ : ∃ w2, w2 = wr.alloc (.cells #[.slice (some ⟨b2, o2, none⟩) 7 c2, .int .i64 z] 68) := ⟨_, rfl⟩
          obtain ⟨G, hG⟩ : ∃ G, G = wr.heap.size := ⟨_, rfl⟩
          have hK2 : Blk w2 G 68 #[.slice (some ⟨b2, o2, none⟩) 7 c2, .int .i64 z] := by rw [hw2, hG]; exact Blk.new _ _ _
          have hbel2 : Below wr.heap.size wr w2 := by rw [hw2]; exact (Below.refl _ _).alloc (Nat.le_refl _) _
          have CL := (termClone_any (some ⟨b2, o2, none⟩) 7 c2 (tm ts k).1 z w2 (hsi.below hbel2 (Nat.le_refl _)) (fun h => by cases h) (by omega))
          have HW2 := Lib.hid hw2
          have HG := Lib.hid hG
          have HCL := Lib.hid CL
          have HK2 := Lib.hid hK2
          have HB2 := Lib.hid hbel2
          have HZ2 := Lib.hid hz
          have HCX := Lib.hid hcx
          have HG7 := Lib.hid hg
          clear hsi hcx hg CL hK2 hbel2 hnil hz hw2 hG
          go_wp2_with fail
          rw [← HW2.out]
          refine HCL.out.mono ?_
          rintro e w3 ⟨A3, c3, rfl, ho3, hb3⟩
          obtain ⟨g3, rfl, hg3l, hg3h⟩ := ho3.place (by omega)
          have hz2 : wr.heap.size ≤ w2.heap.size := HB2.out.size
          have hO3 := (HO.out.below HB2.out (Nat.le_refl _)).below hb3 hz2
          have hput := hO3.put hlt ho3 hz2 (by have := HZ.out; omega) (by have := hb3.size; omega) z
          obtain ⟨A4, n4, c4, hd0, hd1, hfz, _⟩ := hO3.exp hlt
          have hf0 := hfz (k * 2)
          have hf1 := hfz (k * 2 + 1)
          have HPUT := Lib.hid hput
          have HO3 := Lib.hid ho3
          have HB3 := Lib.hid hb3
          clear hput hO3 ho3 hb3 hfz hc0 hc1
          go_wp2_with fail
          obtain ⟨w4, hw4⟩ : ∃ w4, w4 = (w3.setCell ⟨B, k * 2, none⟩ (.slice (some ⟨g3, 0, none⟩) 7 c3)).setCell ⟨B, k * 2 + 1, none⟩ (.int .i64 z) := ⟨_, rfl⟩
          rw [← hw4, ← HG.out]
          have hGB : B < G := by
            obtain ⟨g, e, _, h⟩ := HO.out.place (by omega)
            simp only [Option.some.injEq, Addr.mk.injEq, and_true] at e
            rw [HG.out, e]; exact h
          have hG2 : G < w2.heap.size := HK2.out.lt
          have hwrG : w.heap.size ≤ G := by rw [HG.out]; exact hwr
          have oth : ∀ x j, x ≠ B → w4.cell? ⟨x, j, none⟩ = w3.cell? ⟨x, j, none⟩ := fun x j hx => by
            rw [hw4, World.cell?_setCell_other _ _ _ _ (by intro e; injection e with e; exact hx e.symm), World.cell?_setCell_other _ _ _ _ (by intro e; injection e with e; exact hx e.symm)]
          have ofz : ∀ x j, x ≠ B → w4.frozen? ⟨x, j, none⟩ = w3.frozen? ⟨x, j, none⟩ := fun x j _ => by rw [hw4]; simp
          have q0 : w4.cell? ⟨B, k * 2, none⟩ = some (.slice (some ⟨g3, 0, none⟩) 7 c3) := by
            rw [hw4, World.cell?_setCell_other _ _ _ _ (by intro e; injection e with _ e; omega), World.cell?_setCell_same _ _ _ hd0]
          have q1 : w4.cell? ⟨G, 0, none⟩ = some (.slice (some ⟨b2, o2, none⟩) 7 c2) := by
            rw [oth G 0 (by omega)]; exact (Below.cell HB3.out (p := ⟨G, 0, none⟩) hG2).trans (HK2.out.cell 0)
          have hg3B : g3 ≠ B := by have := hg3l; omega
          obtain ⟨x0, hx0⟩ : ∃ x0, x0 = nth (tm ts k).1 m := ⟨_, rfl⟩
          obtain ⟨x1, hx1⟩ : ∃ x1, x1 = nth (tm ts k).1 (m + 1) := ⟨_, rfl⟩
          have pre : ∀ j, j < 7 → w4.cell? ⟨b2, o2 + j, none⟩ = some (.int .i64 (nth (tm ts k).1 j)) := fun j hj => by
            rw [oth b2 (o2 + j) (by omega)]
            exact ((HB3.out.cell (p := ⟨b2, o2 + j, none⟩) (by show b2 < w2.heap.size; omega)).trans (HB2.out.cell (p := ⟨b2, o2 + j, none⟩) (by show b2 < wr.heap.size; omega))).trans (HCX.out j hj)
          have q2 := pre m (by omega)
          have q3 := pre (m + 1) (by omega)
          have r0 : w4.cell? ⟨g3, m, none⟩ = some (.int .i64 (nth (tm ts k).1 m)) := by rw [oth g3 m hg3B]; exact HO3.out.cellAt (k := m) (by omega)
          have r1 : w4.cell? ⟨g3, m + 1, none⟩ = some (.int .i64 (nth (tm ts k).1 (m + 1))) := by rw [oth g3 (m + 1) hg3B]; exact HO3.out.cellAt (k := m + 1) (by omega)
          have f0 : w4.frozen? ⟨g3, m, none⟩ = false := by rw [ofz g3 m hg3B]; exact HO3.out.frozenAt m
          have f1 : w4.frozen? ⟨g3, m + 1, none⟩ = false := by rw [ofz g3 (m + 1) hg3B]; exact HO3.out.frozenAt (m + 1)
          rw [← hx0] at q2 r0
          rw [← hx1] at q3 r1
          have r2 : (w4.setCell ⟨g3, m, none⟩ (.int .i64 x1)).cell? ⟨g3, m + 1, none⟩ = some (.int .i64 x1) := (World.cell?_setCell_other w4 _ _ _ (by intro e; injection e with _ e; omega)).trans r1
          have f2 : (w4.setCell ⟨g3, m, none⟩ (.int .i64 x1)).frozen? ⟨g3, m + 1, none⟩ = false := by simpa using f1
          have hm1 : IntKind.i64.wrap ((m : Int) + 1) = (m : Int) + 1 := IntWalk.i64_in _ (by omega)
          have hmI : (m : Int) < 7 := by omega
          have hmI1 : (m : Int) + 1 < 7 := by omega
          have hnz : ¬ (m : Int) + 1 < 0 := by omega
          have HW4 := Lib.hid hw4
          have HX0 := Lib.hid hx0
          have HX1 := Lib.hid hx1
          have HG3 := Lib.hid (And.intro hg3B (And.intro hg3l hg3h))
          have HGB := Lib.hid (And.intro hGB (And.intro hG2 hwrG))
          clear hw4 hx0 hx1 hg3B hg3l hg3h hGB hG2 hwrG oth ofz pre hd0 hd1 hf0 hf1
          go_region
          go_wp2
          go_roundw
          case rel =>
            obtain ⟨hg3B, hg3l, hg3h⟩ := HG3.out
            obtain ⟨hGB, hG2, hwrG⟩ := HGB.out
            have hGe := HG.out
            have h4 : OwnT w4 B w3.heap.size (some ⟨B, 0, none⟩) n n ((stT ts m k).set k ((tm ts k).1, z)) := by rw [HW4.out]; exact HPUT.out.1
            have hl4 : (stT ts m k).length = n := by rw [stT_len (by rw [HL.out]; omega), HL.out]
            obtain ⟨A', n', c', e0, _, _, ho, back⟩ := h4.exp hlt
            rw [q0] at e0
            simp only [Option.some.injEq, Value.slice.injEq] at e0
            obtain ⟨rfl, rfl, rfl⟩ := e0
            rw [tm_set (by omega), if_pos rfl] at ho back
            have s1 := ho.set_ (k := m) x1
            have s2 := s1.1.set_ (k := m + 1) x0
            have gg := (s1.2.trans s2.2)
            have hb := back _ _ s2.1 gg
            have e5 : ((tm ts k).1.set m x1).set (m + 1) x0 = swE (tm ts k).1 m := by rw [HX0.out, HX1.out]; rfl
            rw [e5, HZ2.out, stT_succ (by rw [HL.out]; exact hlt)] at hb
            have hsz : w3.heap.size ≤ (((w4.setCell ⟨g3, m, none⟩ (.int .i64 x1)).setCell ⟨g3, m + 1, none⟩ (.int .i64 x0)).drew).heap.size := by
              have : w4.heap.size = w3.heap.size := by rw [HW4.out]; simp
              show w3.heap.size ≤ ((w4.setCell ⟨g3, m, none⟩ (.int .i64 x1)).setCell ⟨g3, m + 1, none⟩ (.int .i64 x0)).heap.size
              simp [this]
            have hbw4 : Below w.heap.size w w4 := by
              rw [HW4.out]
              exact ((((HB.out.trans (HB2.out.mono hwr)).trans (HB3.out.mono (by omega))).setCell (p := ⟨B, k * 2, none⟩) hB0 _)).setCell (p := ⟨B, k * 2 + 1, none⟩) hB0 _
            refine ⟨k + 1, by omega, by go_num, (hb.drawn ⟨1, rfl⟩).wide (Nat.le_refl _) hsz, ?_, ?_⟩
            · exact ((hbw4.setCell (p := ⟨g3, m, none⟩) (by show w.heap.size ≤ g3; omega) _).setCell (p := ⟨g3, m + 1, none⟩) (by show w.heap.size ≤ g3; omega) _).drew
            · have := HB3.out.size
              omega
          case measure => simp [intOf]; omega
        · have hkn : k = n := by omega
          subst hkn
          have HOL : Hid (OwnT wr B wr.heap.size (some ⟨B, 0, none⟩) k k (swT ts m)) := Lib.hid (by have := HO.out; rwa [← HL.out, stT_all, HL.out] at this)
          have HST := Lib.hid (sortTerms_any (some ⟨B, 0, none⟩) k k B wr.heap.size (swT ts m) wr HOL.out hn (fun j hj => (swT_ex7 (polyB_ex7 HU.out) (by omega) _ (tm_mem (by rw [HOL.out.len]; exact hj))).1))
          clear hb ho hz
          go_wp2_with (go_at_call 67
                       refine HST.out.mono ?_
                       rintro e w5 ⟨rfl, us, hp, hsort, ho5, hg5⟩
                       have HPS := Lib.hid (And.intro hp hsort)
                       have HO5 := Lib.hid ho5
                       have HG5 := Lib.hid hg5
                       clear hp hsort ho5 hg5)
          go_ret
          have hus := swap_sorted HU.out hm5 HPS.out.1 HPS.out.2
          rw [← hus]
          refine ⟨_, k, k, rfl, HO5.out.wide hB0 HG5.out.size, ?_⟩
          exact HB.out.grown HG5.out HB.out.size (by rintro q ⟨⟩; exact hB0)
    · have HE := Lib.hid (swapPoly_no (ts := ts) (i := i) (fun h => hi h.2))
      rw [decide_eq_false hi] at hV
      have HP := Lib.hid hP
      have HV := Lib.hid hV
      clear hP hu hV hi
      go_enter Try.func18, Try.ntmps18
      go_wp2_with (first
        | (go_at_call 64; refine HP.out.mono ?_; rintro e w7 ⟨rfl, hd7⟩; have HD7 := Lib.hid hd7; clear hd7)
        | (go_at_call 65; refine (HV.out _).mono ?_; rintro e w8 ⟨rfl, rfl⟩))
      go_ret
      rw [HE.out]
      exact FreshT.nil_ret HD7.out
theorem shutL_small (l : List Mn) : smallT (shutL l) := by
  unfold shutL
  split
  · rename_i h
    exact ⟨polyB_len h, fun t ht => by have := ((goodT_iff _).1 (polyB_good' h t ht)).1; omega⟩
  · exact ⟨by simp, fun t ht => by simp at ht⟩
theorem swapPoly_small (ts : List Tm) (i : Int) : smallT (swapPoly ts i) := by
  unfold swapPoly
  split
  · exact shutL_small _
  · exact ⟨by simp, fun t ht => by simp at ht⟩
end Go.Proofs.Ytkfpacjncpifgaa
