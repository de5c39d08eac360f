/-
  Variables exchanged, the document's side; the one list of terms with given coefficients. Conditions: lengths below 2^40.
-/
import Derived.Test.YtkfpacjncpifgaaPolS
namespace Go.Proofs.Ytkfpacjncpifgaa
open Go.RowKit

theorem gatherL_keys : ∀ (l : List Mn) (u : Mn), u ∈ gatherL l → ∃ v ∈ l, u.1 = v.1
  | [], u, h => by simp [gatherL] at h
  | t :: l, u, h => by
    rcases addM_keys t (gatherL l) u h with e | ⟨x, hx, e⟩
    · exact ⟨t, List.mem_cons_self, e⟩
    · obtain ⟨v, hv, e2⟩ := gatherL_keys l x hx
      exact ⟨v, List.mem_cons_of_mem _ hv, e.trans e2⟩
theorem addM_len (t : Mn) : ∀ g : List Mn, (addM t g).length ≤ g.length + 1
  | [] => by unfold addM; split <;> simp
  | u :: g => by
    unfold addM
    split
    · split <;> simp
    · split
      · split <;> simp <;> omega
      · have := addM_len t g; simp; omega
theorem gatherL_len : ∀ l : List Mn, (gatherL l).length ≤ l.length
  | [] => by simp [gatherL]
  | t :: l => by have := gatherL_len l; have := addM_len t (gatherL l); show (addM t (gatherL l)).length ≤ _; simp; omega
theorem digN_nth (x : Int) {i j : Nat} (h : j < i) : nth (digN x i) j = x / unitI j % 128 := by
  rw [nth_get (by rw [digN_len]; exact h)]
  simp [digN]
theorem digN_key {e : List Int} (h : ex7 e) : digN (key7 e) 7 = e := by
  apply List.ext_getElem (by rw [digN_len, h.1])
  intro j h1 h2
  rw [← nth_get, ← nth_get]
  rw [digN_len] at h1
  rw [digN_nth _ h1, key7_at h h1]
theorem termsK_open {us : List Tm} (h : ∀ u ∈ us, ex7 u.1) : termsK (openM us) = us := by
  unfold termsK openM
  rw [List.map_map]
  conv => rhs; rw [← List.map_id us]
  apply List.map_congr_left
  intro u hu
  show (digN (key7 u.1) 7, u.2) = u
  rw [digN_key (h u hu)]
/-- Terms in descending order, none 0, with the coefficients of l: there is one such list. -/
theorem gather_open {us : List Tm} {l : List Mn} (hs : us.Pairwise fun a b => key7 b.1 < key7 a.1) (hc : ∀ u ∈ us, u.2 ≠ 0 ∧ in64 u.2) (hcf : ∀ k, eqm (cfL (openM us) k) (cfL l k)) : gatherL l = openM us := by
  refine (gatherL_one ⟨?_, fun t ht => ?_⟩ hcf).symm
  · unfold openM; rw [List.pairwise_map]; exact hs
  · unfold openM at ht
    obtain ⟨u, hu, rfl⟩ := List.mem_map.1 ht
    exact hc u hu
theorem shut_open {us : List Tm} (h : ∀ u ∈ us, ex7 u.1) : shutL (openM us) = if polyB us = true then us else [] := by unfold shutL; rw [termsK_open h]
theorem tm_mem {ts : List Tm} {k : Nat} (h : k < ts.length) : tm ts k ∈ ts := by
  unfold tm; simp [List.getD, h]
theorem mem_tm {ts : List Tm} {u : Tm} (h : u ∈ ts) : ∃ k, k < ts.length ∧ u = tm ts k := by
  obtain ⟨k, hk, e⟩ := List.mem_iff_getElem.1 h
  exact ⟨k, hk, by unfold tm; simp [List.getD, hk, e]⟩
theorem polyB_ex7 {ts : List Tm} (h : polyB ts = true) : ∀ u ∈ ts, ex7 u.1 := fun u hu => by
  obtain ⟨k, hk, rfl⟩ := mem_tm hu
  have := (goodT_iff _).1 (polyB_good h hk)
  exact smallE_ex7 this.1 this.2.1
theorem polyB_good' {ts : List Tm} (h : polyB ts = true) : ∀ u ∈ ts, goodT u = true := fun u hu => by
  obtain ⟨k, hk, rfl⟩ := mem_tm hu
  exact polyB_good h hk
theorem good_in64 {u : Tm} (h : goodT u = true) : u.2 ≠ 0 ∧ in64 u.2 := by
  have := (goodT_iff _).1 h
  refine ⟨this.2.2.1, ?_⟩
  unfold in64; omega
theorem polyB_desc {ts : List Tm} (h : polyB ts = true) : ts.Pairwise fun a b => key7 b.1 < key7 a.1 := by
  have step : ∀ k, k + 1 < ts.length → key7 (tm ts (k + 1)).1 < key7 (tm ts k).1 := fun k hk => by
    have := polyB_ok h hk
    simp [okAt] at this
    exact this.2
  have all : ∀ d i, i + d + 1 < ts.length → key7 (tm ts (i + d + 1)).1 < key7 (tm ts i).1 := by
    intro d
    induction d with
    | zero => intro i hi; exact step i hi
    | succ d ih => intro i hi; have h1 := ih i (by omega); have h2 := step (i + d + 1) (by omega); rw [show i + (d + 1) + 1 = i + d + 1 + 1 by omega]; omega
  rw [List.pairwise_iff_getElem]
  intro i j hi hj hij
  have := all (j - i - 1) i (by omega)
  rw [show i + (j - i - 1) + 1 = j by omega] at this
  have e : ∀ k (hk : k < ts.length), tm ts k = ts[k] := fun k hk => by unfold tm; simp [List.getD, hk]
  rwa [e j hj, e i hi] at this
theorem polyB_of {ts : List Tm} (hl : ts.length ≤ 600) (hg : ∀ u ∈ ts, goodT u = true) (hd : ts.Pairwise fun a b => key7 b.1 < key7 a.1) : polyB ts = true := by
  refine polyB_all hl fun k hk => ?_
  have e : ∀ k (hk : k < ts.length), tm ts k = ts[k] := fun k hk => by unfold tm; simp [List.getD, hk]
  have hgk := hg _ (tm_mem hk)
  cases k with
  | zero => exact okAt_zero hgk
  | succ k =>
    refine okAt_step hgk ?_
    rw [List.pairwise_iff_getElem] at hd
    have := hd k (k + 1) (by omega) hk (by omega)
    rw [e _ hk]
    show _ < key7 (tm ts k).1
    rw [e k (by omega)]
    exact this

/-- The polynomial with two variables, one behind the other, exchanged. -/
def swapPoly (ts : List Tm) (i : Int) : List Tm := if polyB ts = true ∧ 0 ≤ i ∧ i ≤ 5 then shutL (gatherL ((openM ts).map fun t => (swK t.1 i.toNat, t.2))) else []
theorem swapPoly_no {ts : List Tm} {i : Int} (h : ¬ (polyB ts = true ∧ 0 ≤ i ∧ i ≤ 5)) : swapPoly ts i = [] := by unfold swapPoly; rw [if_neg h]
theorem swapPoly_yes {ts : List Tm} {i : Nat} (h : polyB ts = true) (hi : i ≤ 5) : swapPoly ts i = shutL (gatherL ((openM ts).map fun t => (swK t.1 i, t.2))) := by
  unfold swapPoly; rw [if_pos ⟨h, by omega, by omega⟩, Int.toNat_natCast]
/-- A term with two exponents, one beside the other, exchanged. -/
def swE (e : List Int) (i : Nat) : List Int := putE e i (nth e (i + 1)) (nth e i)
theorem swK_key {e : List Int} (h : ex7 e) {i : Nat} (hi : i < 6) : swK (key7 e) i = key7 (swE e i) := by
  unfold swK swE
  rw [putE_key h.1 hi, key7_at h (by omega), key7_at h (by omega), Int.sub_mul, Int.sub_mul]
  omega
theorem swE_ex7 {e : List Int} (h : ex7 e) {i : Nat} (hi : i < 6) : ex7 (swE e i) := putE_ex7 h hi (h.2 _ (by omega)) (h.2 _ (by omega))
theorem open_in49 {ts : List Tm} (h : ∀ u ∈ ts, ex7 u.1) : ∀ t ∈ openM ts, in49 t.1 := fun t ht => by
  unfold openM at ht
  obtain ⟨u, hu, rfl⟩ := List.mem_map.1 ht
  exact key7_range (h u hu)
theorem open_in64 {ts : List Tm} (h : ∀ u ∈ ts, in64 u.2) : ∀ t ∈ openM ts, in64 t.2 := fun t ht => by
  unfold openM at ht
  obtain ⟨u, hu, rfl⟩ := List.mem_map.1 ht
  exact h u hu
/-- The same terms, each with its exponents exchanged. -/
def swT (ts : List Tm) (i : Nat) : List Tm := ts.map fun t => (swE t.1 i, t.2)
theorem open_swT {ts : List Tm} (h : ∀ u ∈ ts, ex7 u.1) {i : Nat} (hi : i < 6) : ((openM ts).map fun t => (swK t.1 i, t.2)) = openM (swT ts i) := by
  unfold openM swT
  rw [List.map_map, List.map_map]
  apply List.map_congr_left
  intro u hu
  show (swK (key7 u.1) i, u.2) = (key7 (swE u.1 i), u.2)
  rw [swK_key (h u hu) hi]
theorem swT_ex7 {ts : List Tm} (h : ∀ u ∈ ts, ex7 u.1) {i : Nat} (hi : i < 6) : ∀ u ∈ swT ts i, ex7 u.1 := fun u hu => by
  unfold swT at hu
  obtain ⟨t, ht, rfl⟩ := List.mem_map.1 hu
  exact swE_ex7 (h t ht) hi

set_option maxHeartbeats 400000 in
theorem l2Variable_any (i : Int) (w : World) : Calls Try.prog 59 #[.int .i64 i] w fun e w' => e = .returned (.bool (decide (0 ≤ i ∧ i ≤ 5))) ∧ w = w' := by
  by_cases h : 0 ≤ i ∧ i ≤ 5
  · rw [decide_eq_true h]
    obtain ⟨h0, h1⟩ := h
    go_enter Try.func59, Try.ntmps59
    go_wp2_with (go_at_call 82; refine (l1In_yes' h0 h1 _).mono ?_; rintro e w1 ⟨rfl, rfl⟩)
    go_ret
    exact ⟨rfl, rfl⟩
  · rw [decide_eq_false h]
    go_enter Try.func59, Try.ntmps59
    go_wp2_with (go_at_call 82; refine (l1In_no' (by omega) _).mono ?_; rintro e w1 ⟨rfl, rfl⟩)
    go_ret
    exact ⟨rfl, rfl⟩
set_option maxHeartbeats 1000000 in
theorem specSwap_any (A : Option Addr) (n c : Nat) (ts : List Tm) (i : Int) (w : World) (hs : TS w A n ts) (hn : n ≤ 1099511627776) (hne : ∀ k, k < n → (tm ts k).1.length ≤ 1099511627776) :
    Calls Try.prog 16 #[.slice A n c, .int .i64 i] w fun r w' => FreshT w w' r (swapPoly ts i) := by
  have hP := specPolyOk_any A n c ts w hs hn hne
  have hV := fun w => l2Variable_any i w
  cases hu : polyB ts with
  | false =>
    rw [hu] at hP
    have HE := Lib.hid (swapPoly_no (ts := ts) (i := i) (fun h => by rw [hu] at h; cases h.1))
    have HP := Lib.hid hP
    clear hP hu hV
    go_enter Try.func16, Try.ntmps16
    go_wp2_with (go_at_call 58; refine HP.out.mono ?_; rintro e w7 ⟨rfl, hd7⟩; have HD7 := Lib.hid hd7; clear hd7)
    go_ret
    rw [HE.out]
    exact FreshT.nil_ret (HD7.out.below _)
  | true =>
    rw [hu] at hP
    by_cases hi : 0 ≤ i ∧ i ≤ 5
    · obtain ⟨m, rfl⟩ : ∃ m : Nat, i = m := ⟨i.toNat, by omega⟩
      have hm5 : m ≤ 5 := by omega
      have HE := Lib.hid (swapPoly_yes hu hm5)
      have hex := polyB_ex7 hu
      have h64 : ∀ u ∈ ts, in64 u.2 := fun u hu' => (good_in64 (polyB_good' hu u hu')).2
      have hnl : n ≤ 600 := by have := polyB_len hu; have := hs.1; omega
      have HEX := Lib.hid hex
      have H64 := Lib.hid h64
      have HL := Lib.hid hs.1
      have hV := fun w => (hV w)
      rw [decide_eq_true hi] at hV
      have HP := Lib.hid hP
      have HV := Lib.hid hV
      have HOP := Lib.hid (fun w' (hd : Drawn w w') => l2Open_any A n c ts w' (hd.below _ |> hs.below <| Nat.le_refl _) (by omega) (fun k hk => by
        have := (goodT_iff _).1 (polyB_good hu (k := k) (by rw [hs.1]; exact hk))
        exact ⟨this.1, this.2.1⟩))
      clear hP hu hV hi hex h64 hs
      go_enter Try.func16, Try.ntmps16
      go_wp2_with (first
        | (go_at_call 58; refine HP.out.mono ?_; rintro e w7 ⟨rfl, hd7⟩; have HD7 := Lib.hid hd7; clear hd7)
        | (go_at_call 59; refine (HV.out _).mono ?_; rintro e w8 ⟨rfl, rfl⟩)
        | (go_at_call 62; refine (HOP.out _ HD7.out).mono ?_; rintro e w1 ⟨A1, n1, c1, rfl, ho1, hb1⟩
           obtain rfl : n = n1 := by have := ho1.len; unfold openM at this; rw [List.length_map, HL.out] at this; exact this
           have HO1 := Lib.hid ho1
           have HB1 := Lib.hid hb1
           clear ho1 hb1)
        | (go_at_call 61; refine (l2Swap_any A1 n c1 (openM ts) m _ HO1.out.si (by omega) (by omega) (open_in49 HEX.out) (open_in64 H64.out)).mono ?_; rintro e w2 ⟨A2, n2, c2, rfl, ho2, hb2⟩
           have hn2 : n2 ≤ 600 := by
             have h1 := ho2.len
             have h2 := gatherL_len ((openM ts).map fun t => (swK t.1 m, t.2))
             have h3 := HL.out
             unfold openM at h1 h2
             rw [List.length_map, List.length_map] at h2
             omega
           have HO2 := Lib.hid ho2
           have HB2 := Lib.hid hb2
           clear ho2 hb2)
        | (go_at_call 60; refine (l2Shut_any A2 n2 c2 _ _ HO2.out.si (by omega) (fun t ht => by
             obtain ⟨v, hv, e⟩ := gatherL_keys _ t ht
             rw [open_swT HEX.out (by omega)] at hv
             rw [e]
             exact open_in49 (swT_ex7 HEX.out (by omega)) v hv)).mono ?_
           rintro e w3 ⟨A3, n3, c3, rfl, ho3, hb3⟩
           have HO3 := Lib.hid ho3
           have HB3 := Lib.hid hb3
           clear ho3 hb3))
      go_ret
      rw [HE.out]
      have e7 := HD7.out.heap
      have s1 := HB1.out.size
      have s2 := HB2.out.size
      have hb : Below w.heap.size w w3 := ((HD7.out.below w.heap.size).trans (HB1.out.mono (by rw [e7]; exact Nat.le_refl _))).trans ((HB2.out.mono (by rw [e7] at s1; exact s1)).trans (HB3.out.mono (by rw [e7] at s1; omega)))
      exact ⟨A3, n3, c3, rfl, HO3.out.wide (by rw [e7] at s1; omega) (Nat.le_refl _), hb⟩
    · have HE := Lib.hid (swapPoly_no (ts := ts) (i := i) (fun h => hi h.2))
      rw [decide_eq_false hi] at hV
      have HP := Lib.hid hP
      have HV := Lib.hid hV
      clear hP hu hV hi
      go_enter Try.func16, Try.ntmps16
      go_wp2_with (first
        | (go_at_call 58; refine HP.out.mono ?_; rintro e w7 ⟨rfl, hd7⟩; have HD7 := Lib.hid hd7; clear hd7)
        | (go_at_call 59; refine (HV.out _).mono ?_; rintro e w8 ⟨rfl, rfl⟩))
      go_ret
      rw [HE.out]
      exact FreshT.nil_ret (HD7.out.below _)
end Go.Proofs.Ytkfpacjncpifgaa
