/-
  slices.SortFunc over terms by their exponents: a permutation in descending order, in the slice's own blocks. Conditions: seven exponents a term.
-/
import Derived.Test.YtkfpacjncpifgaaSortW
import Derived.Test.YtkfpacjncpifgaaTermKey
import Derived.Test.YtkfpacjncpifgaaTermMem
import Derived.Test.YtkfpacjncpifgaaLayT
namespace Go.Proofs.Ytkfpacjncpifgaa
open Go.RowKit

theorem cmpI_neg (a b : Int) : cmpI a b < 0 ↔ a < b := by unfold cmpI; split <;> (try split) <;> omega
theorem cmpI_pos (a b : Int) : 0 ≤ cmpI a b ↔ b ≤ a := by unfold cmpI; split <;> (try split) <;> omega
theorem cmpX_self (xs : List Int) : ∀ m, cmpX xs xs m = 0
  | 0 => rfl
  | m + 1 => (cmpX_eq rfl).trans (cmpX_self xs m)
theorem cmpX_trans {x y z : List Int} : ∀ m, cmpX x y m < 0 → cmpX y z m < 0 → cmpX x z m < 0
  | 0, h, _ => absurd h (by simp [cmpX])
  | m + 1, h1, h2 => by
    by_cases e1 : nth x m = nth y m
    · rw [cmpX_eq e1] at h1
      by_cases e2 : nth y m = nth z m
      · rw [cmpX_eq e2] at h2
        rw [cmpX_eq (e1.trans e2)]
        exact cmpX_trans m h1 h2
      · rw [cmpX_ne e2] at h2
        rw [cmpX_ne (by rw [e1]; exact e2), e1]
        exact h2
    · rw [cmpX_ne e1, cmpI_neg] at h1
      by_cases e2 : nth y m = nth z m
      · rw [cmpX_ne (by rw [← e2]; exact e1), ← e2, cmpI_neg]
        exact h1
      · rw [cmpX_ne e2, cmpI_neg] at h2
        rw [cmpX_ne (by omega), cmpI_neg]
        omega
theorem cmpX_ntrans {x y z : List Int} : ∀ m, 0 ≤ cmpX x y m → 0 ≤ cmpX y z m → 0 ≤ cmpX x z m
  | 0, _, _ => by simp [cmpX]
  | m + 1, h1, h2 => by
    by_cases e1 : nth x m = nth y m
    · rw [cmpX_eq e1] at h1
      by_cases e2 : nth y m = nth z m
      · rw [cmpX_eq e2] at h2
        rw [cmpX_eq (e1.trans e2)]
        exact cmpX_ntrans m h1 h2
      · rw [cmpX_ne e2] at h2
        rw [cmpX_ne (by rw [e1]; exact e2), e1]
        exact h2
    · rw [cmpX_ne e1, cmpI_pos] at h1
      by_cases e2 : nth y m = nth z m
      · rw [cmpX_ne (by rw [← e2]; exact e1), ← e2, cmpI_pos]
        exact h1
      · rw [cmpX_ne e2, cmpI_pos] at h2
        rw [cmpX_ne (by omega), cmpI_pos]
        omega
theorem swo_cmpX (f : Nat → List Int) : Go.Sort.SWO (ltOf fun i j : Nat => cmpX (f i) (f j) 7) where
  irrefl i := by
    show decide (cmpX (f i) (f i) 7 < 0) = false
    rw [cmpX_self]; rfl
  trans i j k h1 h2 := by
    have h1 : cmpX (f i) (f j) 7 < 0 := of_decide_eq_true h1
    have h2 : cmpX (f j) (f k) 7 < 0 := of_decide_eq_true h2
    exact decide_eq_true (cmpX_trans 7 h1 h2)
  ntrans i j k h1 h2 := by
    have h1 : ¬ cmpX (f i) (f j) 7 < 0 := of_decide_eq_false h1
    have h2 : ¬ cmpX (f j) (f k) 7 < 0 := of_decide_eq_false h2
    have := cmpX_ntrans 7 (Int.not_lt.1 h1) (Int.not_lt.1 h2)
    exact decide_eq_false (show ¬ cmpX (f i) (f k) 7 < 0 by omega)
theorem flat2 (dk : Array Nat) (enc : Nat → List Value) (f : Nat → Value × Value) (henc : ∀ k, k < dk.size → enc dk[k]! = [(f k).1, (f k).2]) : (Go.Sort.flatK enc 2 dk).toList = cells2 dk.size f := by
  apply List.ext_getElem?
  intro j
  by_cases hj : j < dk.size * 2
  · rw [cells2_get f hj, Array.getElem?_toList, Array.getElem?_eq_getElem (by simpa using hj), ← getElem!_pos (Go.Sort.flatK enc 2 dk) j (by simpa using hj), Go.Sort.get_flatK enc 2 dk j hj, henc (j / 2) (by omega)]
    rcases Nat.mod_two_eq_zero_or_one j with e | e <;> rw [e] <;> simp
  · rw [List.getElem?_eq_none (by simp; omega), List.getElem?_eq_none (by simp [cells2_len]; omega)]
theorem Try.isAggTerm (w : World) : (isAgg 68).run Try.prog w = .ok true w := by kernel_rfl
theorem Try.sizeTerm (w : World) : (sizeOf 68).run Try.prog w = .ok 2 w := by kernel_rfl

set_option maxHeartbeats 1000000 in
/-- At least one term. -/
theorem sortTerms_own (g n c lo hi : Nat) (ts : List Tm) (w : World) (h : OwnT w lo hi (some ⟨g, 0, none⟩) n c ts) (h0 : 0 < n) (hn : n ≤ 1099511627776) (h7 : ∀ k, k < n → (tm ts k).1.length = 7) :
    Calls Try.prog 67 #[.slice (some ⟨g, 0, none⟩) n c, .func (.func 68) #[] #[]] w fun e w' => e = .returned (.tuple #[]) ∧
      ∃ us : List Tm, us.Perm ts ∧ us.Pairwise (fun a b => 0 ≤ cmpX b.1 a.1 7) ∧ OwnT w' lo hi (some ⟨g, 0, none⟩) n c us ∧ w.grownBy w' (some g) := by
  obtain ⟨E, hl, ho, hh, he, hne, hdd⟩ := h
  have hg : g < w.heap.size := (ho.lt g rfl).2
  have hE : ∀ k, k < n → (E k).2.1 = 7 := fun k hk => by rw [← (he k hk).len]; exact h7 k hk
  obtain ⟨enc, henc⟩ : ∃ enc : Nat → List Value, enc = fun i => [sv (E (ix n i)), .int .i64 (tm ts (ix n i)).2] := ⟨_, rfl⟩
  have hk : ∀ x, (enc x).length = 2 := fun x => by rw [henc]; rfl
  have h1 : ∀ x, ∀ v ∈ enc x, v.oneCell' = true := fun x v hv => by
    rw [henc] at hv
    simp at hv
    rcases hv with rfl | rfl <;> rfl
  have hcells : cells2 n (fun k => (sv (E k), .int .i64 (tm ts k).2)) = (Go.Sort.flatK enc 2 (Array.range n)).toList := by
    rw [flat2 (Array.range n) enc (fun k => (sv (E k), .int .i64 (tm ts k).2)) (fun k hk => by
      rw [Array.size_range] at hk
      rw [getElem!_pos _ k (by simpa using hk), henc]
      simp [ix_of hk]), Array.size_range]
  have hH := holds_of_owns (enc := enc) ho (Array.range n) hcells
  have hcmp : CmpLays Try.prog 68 #[] enc 2 (fun i j => cmpX (tm ts (ix n i)).1 (tm ts (ix n j)).1 7) g 0 (Array.range n).size w := fun m os dk hd x y => by
    have gg := sortWorld_grown enc 2 w g m dk os
    have own : ∀ k, k < n → Own (sortWorldK enc 2 w g 0 m dk os) lo hi (E k).1 (E k).2.1 (E k).2.2 (tm ts k).1 := fun k hk => (he k hk).kept gg (fun b hb e2 => hne k b hk hb e2)
    have s1 := (own _ (ix_in h0 x)).si
    have s2 := (own _ (ix_in h0 y)).si
    rw [hE _ (ix_in h0 x)] at s1
    rw [hE _ (ix_in h0 y)] at s2
    have hc := compareTermsX_any (E (ix n x)).1 (E (ix n y)).1 (E (ix n x)).2.2 (E (ix n y)).2.2 _ _ (tm ts (ix n x)).2 (tm ts (ix n y)).2 _ s1 s2
    have e1 : (enc x).toArray = #[.slice (E (ix n x)).1 7 (E (ix n x)).2.2, .int .i64 (tm ts (ix n x)).2] := by rw [henc]; simp [sv, hE _ (ix_in h0 x)]
    have e2 : (enc y).toArray = #[.slice (E (ix n y)).1 7 (E (ix n y)).2.2, .int .i64 (tm ts (ix n y)).2] := by rw [henc]; simp [sv, hE _ (ix_in h0 y)]
    rw [e1, e2]
    exact hc
  have eg : ∀ args w, (callFunc 68 args).run Try.prog w = .ok (.enter 68 args) w := enters_of Try.func68 (by kernel_rfl) rfl
  have hcon := AnyQ.slices_SortFunc Try.sortT 2 Try.isAggTerm Try.sizeTerm enc hk h1 (fun i j => cmpX (tm ts (ix n i)).1 (tm ts (ix n j)).1 7) (swo_cmpX fun i => (tm ts (ix n i)).1) 68 #[] g 0 c (Array.range n) w eg hcmp hH hg (by rw [Array.size_range]; omega)
  change Calls Try.prog 67 _ _ _ at hcon
  rw [Array.size_range] at hcon
  refine hcon.mono ?_
  rintro e w' ⟨rfl, dk, m, os, hp, hs, rfl⟩
  obtain ⟨hsz, hperm, hsort⟩ := sorted_lists (by rw [Array.size_range]; exact hp) (by rw [Array.size_range]; exact hs)
  have gg := sortWorld_grown enc 2 w g m dk os
  have hin : ∀ k, k < n → dk[k]! < n := fun k hk => by
    have : dk[k]! ∈ dk.toList := by
      rw [getElem!_pos dk k (by omega)]
      exact Array.getElem_mem_toList _
    have := hperm.mem_iff.1 this
    simpa using this
  have hinj : ∀ i j, i < j → j < n → dk[i]! ≠ dk[j]! := fun i j hij hj e => by
    have hnd : dk.toList.Nodup := hperm.nodup_iff.2 List.nodup_range
    rw [getElem!_pos dk i (by omega), getElem!_pos dk j (by omega)] at e
    have := (List.nodup_iff_pairwise_ne.1 hnd)
    rw [List.pairwise_iff_getElem] at this
    exact this i j (by simp; omega) (by simp; omega) hij (by simpa using e)
  obtain ⟨us, hus⟩ : ∃ us, us = dk.toList.map (tm ts) := ⟨_, rfl⟩
  have hul : us.length = n := by rw [hus]; simp [hsz]
  have htm : ∀ k, k < n → tm us k = tm ts dk[k]! := fun k hk => by
    rw [hus, getElem!_pos dk k (by omega)]
    unfold tm
    simp [List.getD, show k < dk.size by omega]
  refine ⟨rfl, us, ?_, ?_, ?_, gg⟩
  · have e1 : ts = (List.range n).map (tm ts) := by
      apply List.ext_getElem (by simp [hl])
      intro k hk1 hk2
      simp [tm, List.getD, hk1]
    rw [hus]
    have := hperm.map (tm ts)
    rwa [← e1] at this
  · rw [hus, List.pairwise_map]
    refine hsort.imp_of_mem ?_
    intro i j hi hj hlt
    have hi := hperm.mem_iff.1 hi
    have hj := hperm.mem_iff.1 hj
    simp at hi hj
    have hlt : ¬ cmpX (tm ts (ix n j)).1 (tm ts (ix n i)).1 7 < 0 := of_decide_eq_false hlt
    rw [ix_of hi, ix_of hj] at hlt
    omega
  · refine ⟨fun k => E dk[k]!, hul, ?_, hh, fun j hj => ?_, fun j b hj hb => hne _ b (hin j hj) hb, fun i j b hij hj hb e2 => ?_⟩
    · have o2 := sortWorld_owns (enc := enc) ho m dk os hsz
      refine row_eq o2 ?_
      rw [flat2 dk enc (fun k => (sv (E dk[k]!), .int .i64 (tm us k).2)) (fun k hk => by
        rw [henc]
        simp only [ix_of (hin k (by omega))]
        rw [htm k (by omega)]), hsz]
    · rw [htm j hj]
      exact (he _ (hin j hj)).kept gg (fun b hb e2 => hne _ b (hin j hj) hb e2)
    · have hd := hinj i j hij hj
      rcases Nat.lt_or_ge dk[i]! dk[j]! with hlt | hge
      · exact hdd _ _ b hlt (hin j hj) hb e2
      · exact hdd _ _ b (by omega) (hin i (by omega)) e2 hb
end Go.Proofs.Ytkfpacjncpifgaa
