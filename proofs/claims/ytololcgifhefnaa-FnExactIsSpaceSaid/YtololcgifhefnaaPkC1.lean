/-
  Texts SpnU to SpaJ, merged. Conditions: as each says.
-/
import Derived.BigRegion
import Derived.RegionTactic
import Derived.Test.YtololcgifhefnaaPkA3
/-
  Rows reduced among themselves: the program's way, from the last column to the first, and that both ways end at the same rows. Conditions: p is 2, 3, 5 or 7.
-/

namespace Go.Proofs.Ytololcgifhefnaa

theorem eq_of_dvd {p a b : Int} (ha : 0 ≤ a ∧ a < p) (hb : 0 ≤ b ∧ b < p) (h : p ∣ a - b) : a = b := by
  by_cases h1 : a - b = 0
  · omega
  · rcases Int.lt_or_gt_of_ne h1 with h2 | h2
    · have h3 : p ∣ b - a := by
        have := Int.dvd_neg.2 h
        have e : -(a - b) = b - a := by omega
        rwa [e] at this
      have := Int.le_of_dvd (by omega) h3; omega
    · have := Int.le_of_dvd (by omega) h; omega
/-- The first place of a number in a list. -/
def ixN (xs : List Int) (v : Int) : Nat := (xs.takeWhile (fun y => decide (y ≠ v))).length
theorem ixN_le (xs : List Int) (v : Int) : ixN xs v ≤ xs.length := (List.takeWhile_sublist _).length_le
theorem ixN_is {v : Int} : ∀ (xs : List Int) (k : Nat), k ≤ xs.length → (∀ j, j < k → nth xs j ≠ v) → (k = xs.length ∨ nth xs k = v) → ixN xs v = k
  | [], k, hk, _, _ => by
    have : k = 0 := by simpa using hk
    subst this; rfl
  | y :: xs, 0, _, _, h => by
    rcases h with h | h
    · simp at h
    · have hy : y = v := h
      simp [ixN, List.takeWhile, hy]
  | y :: xs, k + 1, hk, hall, h => by
    have hy : y ≠ v := hall 0 (by omega)
    have ih := ixN_is xs k (by simpa using hk) (fun j hj => hall (j + 1) (by omega)) (by
      rcases h with h | h
      · left; simpa using h
      · right; exact h)
    have e : ixN (y :: xs) v = ixN xs v + 1 := by simp [ixN, List.takeWhile, hy]
    rw [e, ih]
theorem ixN_at {v : Int} : ∀ (xs : List Int), ixN xs v < xs.length → nth xs (ixN xs v) = v
  | [], h => by simp at h
  | y :: xs, h => by
    by_cases hy : y = v
    · have e : ixN (y :: xs) v = 0 := by simp [ixN, List.takeWhile, hy]
      rw [e]; exact hy
    · have e : ixN (y :: xs) v = ixN xs v + 1 := by simp [ixN, List.takeWhile, hy]
      rw [e] at h ⊢
      exact ixN_at xs (by simpa using h)
theorem ixN_mem {v : Int} : ∀ (xs : List Int), v ∈ xs ↔ ixN xs v < xs.length
  | [] => by simp [ixN]
  | y :: xs => by
    by_cases hy : y = v
    · have e : ixN (y :: xs) v = 0 := by simp [ixN, List.takeWhile, hy]
      rw [e]; simp [hy]
    · have e : ixN (y :: xs) v = ixN xs v + 1 := by simp [ixN, List.takeWhile, hy]
      rw [e, List.mem_cons, ixN_mem xs, List.length_cons]
      constructor
      · rintro (h | h)
        · exact absurd h.symm hy
        · omega
      · intro h; right; omega
/-- The rows, from that with the last column on, as far as t columns. -/
def dscR (E : List (List Int × Int)) (n : Nat) : Nat → List (List Int)
  | 0 => []
  | t + 1 => if ixN (E.map (·.2)) ((n - 1 - t : Nat) : Int) < E.length then dscR E n t ++ [li (E.map (·.1)) (ixN (E.map (·.2)) ((n - 1 - t : Nat) : Int))] else dscR E n t
theorem dscR_hit {E : List (List Int × Int)} {n t : Nat} (h : ixN (E.map (·.2)) ((n - 1 - t : Nat) : Int) < E.length) : dscR E n (t + 1) = dscR E n t ++ [li (E.map (·.1)) (ixN (E.map (·.2)) ((n - 1 - t : Nat) : Int))] := if_pos h
theorem dscR_miss {E : List (List Int × Int)} {n t : Nat} (h : ¬ ixN (E.map (·.2)) ((n - 1 - t : Nat) : Int) < E.length) : dscR E n (t + 1) = dscR E n t := if_neg h
theorem addR_lead {p : Int} {n : Nat} (hp : P7 p) {E : List (List Int × Int)} (h : EOk p n E) {x : List Int} {c : Nat} (hl : x.length = n) (hx : Rg p x) (hc : c < n) (h1 : nth x c ≠ 0) (hb : ∀ i, i < c → nth x i = 0) (hgt : ∀ e, e ∈ E → (c : Int) < e.2) :
    ∃ y, addR p E x = E ++ [(y, (c : Int))] := by
  have hp2 := hp.two
  have hsame : ∀ i, i ≤ c → nth (redE p E x) i = nth x i := fun i hi => by
    have hk := redE_keep (p := p) (c := i) E (x := x) (by omega) fun e he => by
      have h3 := (h.2.at_ (x := (nth e.1, e.2.toNat)) (List.mem_map.2 ⟨e, he, rfl⟩)).2.2
      have := hgt e he
      exact h3 i (by show i < e.2.toNat; omega)
    exact eq_of_dvd (redE_rg (by omega) E hx i) (hx i) hk
  have hld : ldN (redE p E x) = c := ldN_is _ c (by rw [redE_len]; omega) (fun j hj => by rw [hsame j (by omega)]; exact hb j hj) (.inr (by rw [hsame c (Nat.le_refl _)]; exact h1))
  refine ⟨nrm p (redE p E x), ?_⟩
  unfold addR
  rw [hld, if_neg (by omega)]
theorem Ech.pair {p : Int} {n : Nat} : ∀ {R : List ((Nat → Int) × Nat)}, Ech p n R → R.Pairwise fun a b => p ∣ b.1 a.2
  | [], _ => List.Pairwise.nil
  | _ :: _, h => List.Pairwise.cons (fun x hx => h.2.2.2.1 x hx) (Ech.pair h.2.2.2.2)
/-- What the rows from the last column on obey. -/
structure DscI (p : Int) (n : Nat) (E : List (List Int × Int)) (t : Nat) : Prop where
  ok : EOk p n (echel p (dscR E n t))
  lo : ∀ e, e ∈ echel p (dscR E n t) → ((n - t : Nat) : Int) ≤ e.2
  desc : ((echel p (dscR E n t)).map (·.2)).Pairwise fun a b => b < a
  mem : ∀ c : Int, c ∈ (echel p (dscR E n t)).map (·.2) ↔ c ∈ E.map (·.2) ∧ ((n - t : Nat) : Int) ≤ c
  rows : ∀ x, x ∈ dscR E n t → ∃ e, e ∈ E ∧ x = e.1
  has : ∀ e, e ∈ E → ((n - t : Nat) : Int) ≤ e.2 → e.1 ∈ dscR E n t
theorem EOk.row_of {p : Int} {n : Nat} (hp : P7 p) {E : List (List Int × Int)} (h : EOk p n E) {e : List Int × Int} (he : e ∈ E) : li (E.map (·.1)) (ixN (E.map (·.2)) e.2) = e.1 := by
  have hm : e.2 ∈ E.map (·.2) := List.mem_map.2 ⟨e, he, rfl⟩
  have hlt := (ixN_mem _).1 hm
  have hat := ixN_at _ hlt
  simp only [List.length_map] at hlt
  obtain ⟨i, hi, hei⟩ := List.mem_iff_getElem.1 he
  have hnd := List.pairwise_iff_getElem.1 (h.2.nodup hp.two)
  have hcol : ∀ k (hk : k < E.length), ((prs E).map (·.2))[k]'(by simpa [prs] using hk) = E[k].2.toNat := fun k hk => by simp [prs]
  have hix : (E[ixN (E.map (·.2)) e.2]'hlt).2 = e.2 := by
    rw [nth_get (by simpa using hlt)] at hat
    simpa using hat
  have hj : ixN (E.map (·.2)) e.2 = i := by
    rcases Nat.lt_trichotomy (ixN (E.map (·.2)) e.2) i with h1 | h1 | h1
    · have := hnd _ _ (by simpa [prs] using hlt) (by simpa [prs] using hi) h1
      rw [hcol _ hlt, hcol _ hi, hix, hei] at this
      exact absurd rfl this
    · exact h1
    · have := hnd _ _ (by simpa [prs] using hi) (by simpa [prs] using hlt) h1
      rw [hcol _ hlt, hcol _ hi, hix, hei] at this
      exact absurd rfl this
  rw [hj, li_get (by simpa using hi)]
  simp [hei]
theorem echel_snoc (p : Int) (rows : List (List Int)) (x : List Int) : echel p (rows ++ [x]) = addR p (echel p rows) x := by simp [echel, List.foldl_append]
theorem DscI.all {p : Int} {n : Nat} (hp : P7 p) {E : List (List Int × Int)} (h : EOk p n E) : ∀ t, t ≤ n → DscI p n E t
  | 0, _ => ⟨EOk.nil p n, fun e he => absurd he (List.not_mem_nil), List.Pairwise.nil, fun c => by
      constructor
      · intro hc; exact absurd hc (List.not_mem_nil)
      · rintro ⟨h1, h2⟩
        obtain ⟨e, he, rfl⟩ := List.mem_map.1 h1
        have := (h.1 e he).2.2.2; omega, fun x hx => absurd hx (List.not_mem_nil), fun e he h2 => by have := (h.1 e he).2.2.2; omega⟩
  | t + 1, ht => by
    have ih := DscI.all hp h t (by omega)
    have hp2 := hp.two
    by_cases hix : ixN (E.map (·.2)) ((n - 1 - t : Nat) : Int) < E.length
    · have hm : ((n - 1 - t : Nat) : Int) ∈ E.map (·.2) := (ixN_mem _).2 (by simpa using hix)
      obtain ⟨e, he, hec⟩ := List.mem_map.1 hm
      have hec' : e.2 = ((n - 1 - t : Nat) : Int) := hec
      have hrow := h.row_of hp he
      rw [hec'] at hrow
      have e1 : dscR E n (t + 1) = dscR E n t ++ [e.1] := by
        rw [dscR_hit hix, hrow]
      obtain ⟨hel, her, he0, hen⟩ := h.1 e he
      obtain ⟨ha1, ha2, ha3⟩ := h.2.at_ (x := (nth e.1, e.2.toNat)) (List.mem_map.2 ⟨e, he, rfl⟩)
      have hct : e.2.toNat = n - 1 - t := by omega
      simp only [hct] at ha1 ha2 ha3
      obtain ⟨y, hy⟩ := addR_lead hp ih.ok (c := n - 1 - t) hel her (by omega) (fun h0 => one_not hp2 ha2 (by rw [h0]; exact Int.dvd_zero _)) (fun i hi => (dvd_iff0 (her i)).1 (ha3 i hi)) (fun d hd => by have := ih.lo d hd; omega)
      have e2 : echel p (dscR E n (t + 1)) = echel p (dscR E n t) ++ [(y, ((n - 1 - t : Nat) : Int))] := by rw [e1, echel_snoc, hy]
      refine ⟨?_, ?_, ?_, ?_, ?_, ?_⟩
      · rw [e1, echel_snoc]; exact (addR_ok hp ih.ok hel her).1
      · rw [e2]
        intro d hd
        rcases List.mem_append.1 hd with hd | hd
        · have := ih.lo d hd; omega
        · rw [List.mem_singleton] at hd; subst hd; show _ ≤ ((n - 1 - t : Nat) : Int); omega
      · rw [e2, List.map_append]
        refine List.pairwise_append.2 ⟨ih.desc, List.pairwise_singleton _ _, fun a ha b hb => ?_⟩
        obtain ⟨d, hd, rfl⟩ := List.mem_map.1 ha
        simp at hb
        subst hb
        have := ih.lo d hd
        show ((n - 1 - t : Nat) : Int) < d.2
        omega
      · intro c
        rw [e2, List.map_append, List.mem_append, ih.mem c]
        simp only [List.map_cons, List.map_nil, List.mem_singleton]
        constructor
        · rintro (⟨h1, h2⟩ | h1)
          · exact ⟨h1, by omega⟩
          · rw [h1]; exact ⟨hm, by omega⟩
        · rintro ⟨h1, h2⟩
          by_cases hc : c = ((n - 1 - t : Nat) : Int)
          · right; exact hc
          · left; exact ⟨h1, by omega⟩
      · rw [e1]
        intro x hx
        rcases List.mem_append.1 hx with hx | hx
        · exact ih.rows x hx
        · rw [List.mem_singleton] at hx; exact ⟨e, he, hx⟩
      · rw [e1]
        intro d hd hdc
        by_cases hc : d.2 = ((n - 1 - t : Nat) : Int)
        · have h5 := h.row_of hp hd
          rw [hc, hrow] at h5
          rw [← h5]; exact List.mem_append_right _ (List.mem_singleton.2 rfl)
        · exact List.mem_append_left _ (ih.has d hd (by omega))
    · have e1 : dscR E n (t + 1) = dscR E n t := dscR_miss hix
      have hno : ∀ e, e ∈ E → e.2 ≠ ((n - 1 - t : Nat) : Int) := fun e he hc => hix (by
        have := (ixN_mem (v := ((n - 1 - t : Nat) : Int)) (E.map (·.2))).1 (by rw [← hc]; exact List.mem_map.2 ⟨e, he, rfl⟩)
        simpa using this)
      refine ⟨by rw [e1]; exact ih.ok, fun e he => by rw [e1] at he; have := ih.lo e he; omega, by rw [e1]; exact ih.desc, fun c => ?_, by rw [e1]; exact ih.rows, fun e he hc => by
        rw [e1]
        have := hno e he
        exact ih.has e he (by omega)⟩
      rw [e1, ih.mem c]
      constructor
      · rintro ⟨h1, h2⟩; exact ⟨h1, by omega⟩
      · rintro ⟨h1, h2⟩
        obtain ⟨e, he, rfl⟩ := List.mem_map.1 h1
        have h5 := hno e he
        have h6 : ((n - (t + 1) : Nat) : Int) ≤ e.2 := h2
        exact ⟨h1, by show _ ≤ e.2; omega⟩
theorem asc_uniq : ∀ (l m : List Int), l.Pairwise (· < ·) → m.Pairwise (· < ·) → (∀ x, x ∈ l ↔ x ∈ m) → l = m
  | [], [], _, _, _ => rfl
  | [], b :: m, _, _, h => absurd ((h b).2 (List.mem_cons_self ..)) (List.not_mem_nil)
  | a :: l, [], _, _, h => absurd ((h a).1 (List.mem_cons_self ..)) (List.not_mem_nil)
  | a :: l, b :: m, hl, hm, h => by
    obtain ⟨h1, h2⟩ := List.pairwise_cons.1 hl
    obtain ⟨h3, h4⟩ := List.pairwise_cons.1 hm
    have hab : a = b := by
      rcases List.mem_cons.1 ((h a).1 (List.mem_cons_self ..)) with e | e
      · exact e
      · rcases List.mem_cons.1 ((h b).2 (List.mem_cons_self ..)) with e' | e'
        · exact e'.symm
        · have := h3 a e; have := h1 b e'; omega
    subst hab
    rw [asc_uniq l m h2 h4 fun x => by
      constructor
      · intro hx
        rcases List.mem_cons.1 ((h x).1 (List.mem_cons_of_mem _ hx)) with e | e
        · have := h1 x hx; omega
        · exact e
      · intro hx
        rcases List.mem_cons.1 ((h x).2 (List.mem_cons_of_mem _ hx)) with e | e
        · have := h3 x hx; omega
        · exact e]
/-- The reduced rows, the program's way. -/
def redD (p : Int) (n : Nat) (rows : List (List Int)) : List (List Int × Int) := echel p (dscR (echel p rows) n n)
section
variable {p : Int} {n R : Nat} {rows : List (List Int)} {M0 M : Nat → Nat → Int} {ps : List Int} {j : Nat}
theorem red_rows (hp : P7 p) (hr : ∀ x, x ∈ rows → x.length = n ∧ Rg p x) (hl : rows.length = R) (h0 : ∀ i c, i < R → c < n → nth (li rows i) c = M0 i c) (h : RedI p n R M0 M ps j) (hj : j ≤ n) (hend : j = n ∨ ps.length = R) :
    (redD p n rows).length = ps.length ∧ (((redD p n rows).map (·.2)).reverse = ps) ∧ ∀ i c, i < ps.length → c < n → nth (li ((redD p n rows).map (·.1)).reverse i) c = M i c := by
  have hp2 := hp.two
  have hE := echel_ok hp hr
  have hD := DscI.all hp hE.1 n (Nat.le_refl _)
  obtain ⟨E, hEe⟩ : ∃ E, E = echel p rows := ⟨_, rfl⟩
  unfold redD
  rw [← hEe] at hE hD ⊢
  obtain ⟨D, hDe⟩ : ∃ D, D = echel p (dscR E n n) := ⟨_, rfl⟩
  have hdok := hD.ok
  have hdesc := hD.desc
  have hmem := hD.mem
  have hrows := hD.rows
  have hhas := hD.has
  rw [← hDe] at hdok hdesc hmem ⊢
  have hspD : ∀ v, Sp p n (vec D) v ↔ Sp p n (vec E) v := fun v => by
    have h1 := (echel_ok (p := p) (n := n) hp (rows := dscR E n n) fun x hx => by
      obtain ⟨e, he, rfl⟩ := hrows x hx
      exact ⟨(hE.1.1 e he).1, (hE.1.1 e he).2.1⟩).2 v
    rw [← hDe] at h1
    rw [h1]
    refine Sp.same (fun q hq => ?_) (fun q hq => ?_) v
    · obtain ⟨x, hx, rfl⟩ := List.mem_map.1 hq
      obtain ⟨e, he, rfl⟩ := hrows x hx
      exact Sp.mem (List.mem_map.2 ⟨e, he, rfl⟩)
    · obtain ⟨e, he, rfl⟩ := List.mem_map.1 hq
      exact Sp.mem (List.mem_map.2 ⟨e.1, hhas e he (by have := (hE.1.1 e he).2.2.1; omega), rfl⟩)
  have hspM : ∀ v, Sp p n (vec E) v ↔ Sp p n (rowsM ps.length M) v := fun v => by
    have h1 := red_same hp hr hl h0 h hend v
    rw [← hEe, prs_vec, prM_fst] at h1
    exact h1
  have hcols : ∀ c : Int, c ∈ D.map (·.2) ↔ c ∈ ps := fun c => by
    have hs := Ech.same_cols hp2 hE.1.2 (h.ech hj) (fun v => by rw [prs_vec, prM_fst]; exact hspM v)
    rw [hmem c]
    constructor
    · rintro ⟨h1, _⟩
      obtain ⟨e, he, rfl⟩ := List.mem_map.1 h1
      have h2 := (hs e.2.toNat).1 (List.mem_map.2 ⟨(nth e.1, e.2.toNat), List.mem_map.2 ⟨e, he, rfl⟩, rfl⟩)
      obtain ⟨x, hx, hx2⟩ := List.mem_map.1 h2
      obtain ⟨i, hi, rfl⟩ := prM_mem.1 hx
      have hx3 : (nth ps i).toNat = e.2.toNat := hx2
      have h3 := h.col i hi
      have h4 := (hE.1.1 e he).2.2.1
      have h5 : nth ps i = e.2 := by omega
      rw [← h5, nth_get hi]; exact List.getElem_mem hi
    · intro hc
      obtain ⟨i, hi, hie⟩ := List.mem_iff_getElem.1 hc
      rw [← nth_get hi] at hie
      have h3 := h.col i hi
      have h2 := (hs (nth ps i).toNat).2 (List.mem_map.2 ⟨_, prM_mem.2 ⟨i, hi, rfl⟩, rfl⟩)
      obtain ⟨x, hx, hx2⟩ := List.mem_map.1 h2
      obtain ⟨e, he, rfl⟩ := List.mem_map.1 hx
      have hx3 : e.2.toNat = (nth ps i).toNat := hx2
      have h4 := (hE.1.1 e he).2.2.1
      exact ⟨List.mem_map.2 ⟨e, he, by show e.2 = c; omega⟩, by omega⟩
  have hasc : ps.Pairwise (· < ·) := by
    rw [List.pairwise_iff_getElem]
    intro a b ha hb hab
    have := h.asc a b hab hb
    rw [nth_get ha, nth_get hb] at this
    exact this
  have hrev : (D.map (·.2)).reverse = ps := asc_uniq _ _ (List.pairwise_reverse.2 hdesc) hasc fun x => by rw [List.mem_reverse]; exact hcols x
  have hlen : D.length = ps.length := by rw [← hrev]; simp
  refine ⟨hlen, hrev, fun i c hi hc => ?_⟩
  have hiD : D.length - 1 - i < D.length := by omega
  have hx : li (D.map (·.1)).reverse i = D[D.length - 1 - i].1 := by
    rw [li_get (by simp; omega), List.getElem_reverse]
    simp
  have hxc : D[D.length - 1 - i].2 = nth ps i := by
    rw [nth_get hi]
    have h5 : ps[i] = ((D.map (·.2)).reverse)[i]'(by simp; omega) := by simp [hrev]
    rw [h5, List.getElem_reverse]
    simp
  rw [hx]
  have hxm : D[D.length - 1 - i] ∈ D := List.getElem_mem hiD
  have hin := hdok.1 _ hxm
  have hcol := h.col i hi
  have huniq := Ech.uniq hp2 hdok.2 (u := M i) (v := nth D[D.length - 1 - i].1) (by rw [prs_vec, hspD, hspM]; exact rowsM_sp hi) (by rw [prs_vec]; exact Sp.mem (List.mem_map.2 ⟨_, hxm, rfl⟩)) (fun y hy => by
    obtain ⟨e, he, rfl⟩ := List.mem_map.1 hy
    obtain ⟨a, ha, hae⟩ := List.mem_iff_getElem.1 he
    have hec := (hdok.1 e he).2.2
    show p ∣ M i e.2.toNat - nth D[D.length - 1 - i].1 e.2.toNat
    by_cases hsame : a = D.length - 1 - i
    · subst hsame
      rw [hae] at hxc ⊢
      have h6 := (hdok.2.at_ (x := (nth e.1, e.2.toNat)) (List.mem_map.2 ⟨e, he, rfl⟩)).2.1
      have h7 : p ∣ nth e.1 e.2.toNat - 1 := h6
      rw [hxc, h.one i hi]
      rw [hxc] at h7
      have e8 : 1 - nth e.1 (nth ps i).toNat = -(nth e.1 (nth ps i).toNat - 1) := by omega
      rw [e8]; exact Int.dvd_neg.2 h7
    · have hM0 : M i e.2.toNat = 0 := by
        have hmem2 : e.2 ∈ ps := (hcols e.2).1 (List.mem_map.2 ⟨e, he, rfl⟩)
        obtain ⟨i', hi', hie'⟩ := List.mem_iff_getElem.1 hmem2
        rw [← nth_get hi'] at hie'
        have hne : i ≠ i' := fun e9 => by
          subst e9
          have hd2 := List.pairwise_iff_getElem.1 hdesc
          rcases Nat.lt_or_gt_of_ne hsame with h8 | h8
          · have := hd2 a (D.length - 1 - i) (by simpa using ha) (by simpa using hiD) h8
            simp only [List.getElem_map] at this
            rw [hxc, hae, hie'] at this; omega
          · have := hd2 (D.length - 1 - i) a (by simpa using hiD) (by simpa using ha) h8
            simp only [List.getElem_map] at this
            rw [hxc, hae, hie'] at this; omega
        rw [← hie']
        exact h.oth i' i hi' (by have := h.le; omega) hne
      have hv0 : p ∣ nth D[D.length - 1 - i].1 e.2.toNat := by
        rcases Nat.lt_or_gt_of_ne hsame with h8 | h8
        · have h9 := List.pairwise_iff_getElem.1 hdok.2.pair a (D.length - 1 - i) (by simpa [prs] using ha) (by simpa [prs] using hiD) h8
          simp only [prs, List.getElem_map] at h9
          rw [hae] at h9; exact h9
        · have hd2 := List.pairwise_iff_getElem.1 hdesc (D.length - 1 - i) a (by simpa using hiD) (by simpa using ha) h8
          simp only [List.getElem_map] at hd2
          rw [hae] at hd2
          have h9 := (hdok.2.at_ (x := (nth D[D.length - 1 - i].1, D[D.length - 1 - i].2.toNat)) (List.mem_map.2 ⟨_, hxm, rfl⟩)).2.2
          exact h9 e.2.toNat (by show e.2.toNat < D[D.length - 1 - i].2.toNat; omega)
      rw [hM0]
      have e8 : 0 - nth D[D.length - 1 - i].1 e.2.toNat = -(nth D[D.length - 1 - i].1 e.2.toNat) := by omega
      rw [e8]; exact Int.dvd_neg.2 hv0) c hc
  exact (eq_of_dvd (h.rg i c (by have := h.le; omega) hc) (hin.2.1 c) huniq).symm
end
end Go.Proofs.Ytololcgifhefnaa

/-
  Pieces of spans on the program's side: the place of a number, rows turned round, a matrix of copied rows. Conditions: lengths below 2^40, sizes at most 14.
-/



namespace Go.Proofs.Ytololcgifhefnaa
open Go.RowKit

set_option maxHeartbeats 800000 in
theorem indexV_any (A : Option Addr) (n c : Nat) (xs : List Int) (v : Int) (w : World) (hs : SI w A n xs) (hn : n ≤ 1099511627776) :
    Calls Try.prog 105 #[.slice A n c, .int .i64 v] w fun r w' =>
      ∃ i : Int, r = .returned (.int .i64 i) ∧ (ixN xs v = n ∧ i = -1 ∨ ixN xs v < n ∧ i = (ixN xs v : Int)) ∧ Drawn w w' := by
  have HL := Lib.hid hs.1
  go_enter Try.func105, Try.ntmps105
  go_wp2
  go_loopw [8] (fun i wr => ∃ k : Nat, k ≤ n ∧ i = .int .i64 k ∧ Drawn w wr ∧ ∀ j, j < k → nth xs j ≠ v)
    (fun i _ => n - (intOf i).toNat)
  case atStart => exact ⟨0, Nat.zero_le _, rfl, Drawn.refl _, fun j hj => absurd hj (by omega)⟩
  case round =>
    obtain ⟨k, hk, rfl, hD, hall⟩ := hrel
    have HA := Lib.hid hall
    have HDR := Lib.hid hD
    have hs := hD.si hs
    clear hall hD
    by_cases hlt : k < n
    · have hlI : (k : Int) < (n : Int) := by omega
      obtain ⟨b, o, rfl, hb, hc⟩ := hs.at_ (by omega)
      have hc1 := hc k hlt
      obtain ⟨y, hy⟩ : ∃ y, y = nth xs k := ⟨_, rfl⟩
      rw [← hy] at hc1
      have HY := Lib.hid hy
      clear hc hy hs
      by_cases hg : v = y
      · have hgb : (v == y) = true := by simpa using hg
        have HG := Lib.hid hg
        clear hg
        go_wp2
        go_ret
        have hgt : ixN xs v = k := ixN_is xs k (by rw [HL.out]; omega) HA.out (.inr (by rw [← HY.out]; exact HG.out.symm))
        exact ⟨(k : Int), rfl, .inr ⟨by omega, by rw [hgt]⟩, HDR.out⟩
      · have hgb : (v == y) = false := by simpa using hg
        have HG := Lib.hid hg
        clear hg
        go_wp2
        go_roundw
        case rel => exact ⟨k + 1, by omega, by go_num, HDR.out, fun j hj => by
          rcases Nat.lt_or_ge j k with h | h
          · exact HA.out j h
          · obtain rfl : j = k := by omega
            rw [← HY.out]; exact fun e => HG.out e.symm⟩
        case measure => simp [intOf]; omega
    · have hkn : k = n := by omega
      subst hkn
      go_wp2
      go_ret
      exact ⟨-1, rfl, .inl ⟨ixN_is xs k (by rw [HL.out]; exact Nat.le_refl _) HA.out (.inl HL.out.symm), rfl⟩, HDR.out⟩

/-- A row of heads of slices in a block of its own, with room. -/
def OwnG (w : World) (lo g n c : Nat) (E : Nat → Sv) : Prop := w.ownsRow lo 22 1 (.slice (some ⟨g, 0, none⟩) n c) n (heads n E)
theorem OwnG.cellAt {w : World} {lo g n c : Nat} {E : Nat → Sv} (h : OwnG w lo g n c E) {k : Nat} (hk : k < n) : w.cell? ⟨g, k, none⟩ = some (sv (E k)) := by
  rw [World.ownsRow.cellAt h k (by omega), heads_get _ hk]
theorem OwnG.set_ {w : World} {lo g n c : Nat} {E : Nat → Sv} (h : OwnG w lo g n c E) {k : Nat} (hk : k < n) (a : Sv) : OwnG (w.setCell ⟨g, k, none⟩ (sv a)) lo g n c (fun j => if j = k then a else E j) := by
  have hst := (World.ownsRow.stored h k (sv a)).1
  rw [heads_set E hk a] at hst
  exact hst
theorem OwnG.congr {w : World} {lo g n c : Nat} {E F : Nat → Sv} (h : OwnG w lo g n c E) (e : ∀ k, k < n → E k = F k) : OwnG w lo g n c F := by
  unfold OwnG at h ⊢
  rwa [heads_congr e] at h
def revE (E : Nat → Sv) (n k : Nat) : Nat → Sv := fun t => if t < k ∨ n ≤ t + k then E (n - 1 - t) else E t
set_option maxHeartbeats 2000000 in
theorem reverseRows_any (g n c lo : Nat) (E : Nat → Sv) (w : World) (hs : OwnG w lo g n c E) (h1 : 1 ≤ n) (hn : n ≤ 1099511627776) :
    Calls Try.prog 106 #[.slice (some ⟨g, 0, none⟩) n c] w fun e w' => e = .returned (.tuple #[]) ∧ OwnG w' lo g n c (fun t => E (n - 1 - t)) ∧ Within g (g + 1) w w' := by
  go_enter Try.func106, Try.ntmps106
  go_wp2
  go_loopw [2, 3] (fun i j wr => ∃ k j0 : Nat, 2 * k ≤ n ∧ j0 + k + 1 = n ∧ i = .int .i64 k ∧ j = .int .i64 j0 ∧ OwnG wr lo g n c (revE E n k) ∧ Within g (g + 1) w wr)
    (fun i _ _ => n - (intOf i).toNat)
  case atStart => exact ⟨0, n - 1, by omega, by omega, rfl, by go_num, hs.congr fun t ht => by unfold revE; rw [if_neg (by omega)], Within.of_below_ (Below.refl _ _)⟩
  case round =>
    obtain ⟨k, j, hk, hj, rfl, rfl, hown, hgr⟩ := hrel
    have HO := Lib.hid hown
    have HGR := Lib.hid hgr
    have HJ := Lib.hid hj
    clear hown hs hj hgr
    by_cases hlt : k < j
    · have hck := HO.out.cellAt (k := k) (by have := HJ.out; omega)
      have hcj := HO.out.cellAt (k := j) (by have := HJ.out; omega)
      have e1 : revE E n k k = E k := by unfold revE; rw [if_neg (by have := HJ.out; omega)]
      have e2 : revE E n k j = E j := by unfold revE; rw [if_neg (by have := HJ.out; omega)]
      rw [e1] at hck
      rw [e2] at hcj
      have hfk : wr.frozen? ⟨g, k, none⟩ = false := World.ownsRow.frozenAt HO.out k
      have hfj : wr.frozen? ⟨g, j, none⟩ = false := World.ownsRow.frozenAt HO.out j
      obtain ⟨⟨xa, xn, xc⟩, hx⟩ : ∃ x, x = E k := ⟨_, rfl⟩
      obtain ⟨⟨ya, yn, yc⟩, hy⟩ : ∃ y, y = E j := ⟨_, rfl⟩
      rw [← hx] at hck
      rw [← hy] at hcj
      have hck' : wr.cell? ⟨g, k, none⟩ = some (.slice xa xn xc) := hck
      have hcj' : wr.cell? ⟨g, j, none⟩ = some (.slice ya yn yc) := hcj
      have HX := Lib.hid hx
      have HY := Lib.hid hy
      have hlI : (k : Int) < (j : Int) := by omega
      have hkI : (k : Int) < (n : Int) := by have := HJ.out; omega
      have hjI : (j : Int) < (n : Int) := by have := HJ.out; omega
      have hne : ¬ k = j := by omega
      have hne' : ¬ j = k := by omega
      have hs1 := HO.out.set_ (k := k) (by have := HJ.out; omega) (ya, yn, yc)
      have hs2 := hs1.set_ (k := j) (by have := HJ.out; omega) (xa, xn, xc)
      have HS := Lib.hid hs2
      have hcj2 : (wr.setCell ⟨g, k, none⟩ (.slice ya yn yc)).cell? ⟨g, j, none⟩ = some (.slice ya yn yc) := (World.cell?_setCell_other wr _ _ _ (by intro e; injection e with _ e2; exact hne e2)).trans hcj'
      have hfj2 : (wr.setCell ⟨g, k, none⟩ (.slice ya yn yc)).frozen? ⟨g, j, none⟩ = false := World.ownsRow.frozenAt hs1 j
      clear hs1 hs2 hx hy hck hcj e1 e2
      go_wp2
      go_region
      go_wp2
      go_roundw
      case rel =>
        have e3 := HJ.out
        refine ⟨k + 1, j - 1, by omega, by omega, by go_num, by go_num, ?_, ?_⟩
        · have h5 : OwnG ((wr.setCell ⟨g, k, none⟩ (.slice ya yn yc)).setCell ⟨g, j, none⟩ (.slice xa xn xc)) lo g n c (revE E n (k + 1)) := HS.out.congr fun t ht => by
            unfold revE
            by_cases h6 : t = j
            · subst h6; rw [if_pos rfl, if_pos (by omega), HX.out, show n - 1 - t = k by omega]
            · rw [if_neg h6]
              by_cases h7 : t = k
              · subst h7; rw [if_pos rfl, if_pos (by omega), HY.out, show n - 1 - t = j by omega]
              · rw [if_neg h7]
                by_cases h8 : t < k ∨ n ≤ t + k
                · rw [if_pos h8, if_pos (by omega)]
                · rw [if_neg h8, if_neg (by omega)]
          exact h5
        · have g1 := grown_setP wr ⟨g, k, none⟩ (.slice ya yn yc)
          have g2 := grown_setP (wr.setCell ⟨g, k, none⟩ (.slice ya yn yc)) ⟨g, j, none⟩ (.slice xa xn xc)
          have w1 : Within g (g + 1) wr (wr.setCell ⟨g, k, none⟩ (.slice ya yn yc)) := Within.of_grown g1 (by rintro q ⟨⟩; exact ⟨Nat.le_refl _, Nat.lt_succ_self _⟩)
          have w2 : Within g (g + 1) (wr.setCell ⟨g, k, none⟩ (.slice ya yn yc)) ((wr.setCell ⟨g, k, none⟩ (.slice ya yn yc)).setCell ⟨g, j, none⟩ (.slice xa xn xc)) := Within.of_grown g2 (by rintro q ⟨⟩; exact ⟨Nat.le_refl _, Nat.lt_succ_self _⟩)
          exact ((HGR.out.trans w1).trans w2).trans (Within.of_below_ ((Below.refl _ _).drew))
      case measure => have := HJ.out; simp [intOf]; omega
    · go_wp2
      go_returns
      refine ⟨rfl, HO.out.congr fun t ht => by
        have := HJ.out
        unfold revE
        by_cases h8 : t < k ∨ n ≤ t + k
        · rw [if_pos h8]
        · rw [if_neg h8, show n - 1 - t = t by omega], HGR.out⟩
end Go.Proofs.Ytololcgifhefnaa

/-
  A matrix of copied rows, on the program's side. Conditions: sizes at most 14.
-/

namespace Go.Proofs.Ytololcgifhefnaa
open Go.RowKit

/-- The list ys with e in place of what stood from o on. -/
def spl (ys : List Int) (o : Nat) (e : List Int) : List Int := ys.take o ++ (e ++ ys.drop (o + e.length))
theorem spl_len {ys : List Int} {o : Nat} {e : List Int} (h : o + e.length ≤ ys.length) : (spl ys o e).length = ys.length := by simp [spl]; omega
theorem spl_nth {ys : List Int} {o : Nat} {e : List Int} (h : o + e.length ≤ ys.length) (q : Nat) : nth (spl ys o e) q = if q < o then nth ys q else if q < o + e.length then nth e (q - o) else nth ys q := by
  unfold spl nth
  simp only [List.getD_eq_getElem?_getD]
  have hto : (ys.take o).length = o := by simp; omega
  by_cases h1 : q < o
  · rw [if_pos h1, List.getElem?_append_left (by omega), List.getElem?_take_of_lt h1]
  · rw [if_neg h1, List.getElem?_append_right (by omega), hto]
    by_cases h2 : q < o + e.length
    · rw [if_pos h2, List.getElem?_append_left (by omega)]
    · rw [if_neg h2, List.getElem?_append_right (by omega), List.getElem?_drop, show o + e.length + (q - o - e.length) = q by omega]
theorem splice_take {α : Type} (cur : List α) (N o : Nat) (E : List α) (h : o + E.length ≤ N) (hN : N ≤ cur.length) : (cur.take o ++ (E ++ cur.drop (o + E.length))).take N = (cur.take N).take o ++ (E ++ (cur.take N).drop (o + E.length)) := by
  apply List.ext_getElem?
  intro q
  have hto : (cur.take o).length = o := by simp; omega
  have hto2 : ((cur.take N).take o).length = o := by simp; omega
  rw [List.getElem?_take]
  by_cases h1 : q < o
  · rw [if_pos (by omega), List.getElem?_append_left (by omega), List.getElem?_append_left (by omega), List.getElem?_take_of_lt h1, List.getElem?_take_of_lt h1, List.getElem?_take_of_lt (by omega)]
  · rw [List.getElem?_append_right (l₁ := cur.take o) (by omega), List.getElem?_append_right (l₁ := (cur.take N).take o) (by omega), hto, hto2]
    by_cases h2 : q < o + E.length
    · rw [if_pos (by omega), List.getElem?_append_left (by omega), List.getElem?_append_left (by omega)]
    · rw [List.getElem?_append_right (l₁ := E) (by omega), List.getElem?_append_right (l₁ := E) (by omega), List.getElem?_drop, List.getElem?_drop, List.getElem?_take, show o + E.length + (q - o - E.length) = q by omega]
theorem wpList_copyAt {ops : Array Oper} {rest : List Oper} {o : Oper} {a : Act} {w : World} {Q : Exit → Act → World → Prop} (hgd : o.guard = none) (d s : Operand)
    (ho : o.op = .call { callee := .builtin .copy, args := #[d, s], argTypes := #[22, 22] }) (g off n k' N K : Nat) (A : Option Addr) (c : Nat) (hd : a.eval d = .slice (some ⟨g, off, none⟩) n k') (hs : a.eval s = .slice A n c)
    (lo hi : Nat) (ys e : List Int) (hown : Own w lo hi (some ⟨g, 0, none⟩) N K ys) (hsi : SI w A n e) (hle : off + n ≤ N)
    (hK : ∀ w', Own w' lo hi (some ⟨g, 0, none⟩) N K (spl ys off e) → w.grownBy w' (some g) → wpList Try.prog ops Q rest (a.put o.dst (goInt n)) w') : wpList Try.prog ops Q (o :: rest) a w := by
  have hl := hsi.1
  by_cases h0 : n = 0
  · subst h0
    obtain rfl : e = [] := List.eq_nil_of_length_eq_zero hl
    exact Go.wpList_copy_nothing hgd d s 22 22 ho 3 Try.underlying22 Try.infoIntR (some ⟨g, off, none⟩) A 0 k' 0 c hd hs (by simp) (hK w (by simpa [spl] using hown) (World.grownBy.refl _ _))
  · obtain ⟨b, off2, rfl, hb, hc⟩ := hsi.2 (by omega)
    have hyl := hown.len
    rcases hown.1.2 with ⟨hx, _⟩ | ⟨g', cap, cur, hv, hlo, hg, hnc, hcm, hcs, htake⟩
    · cases hx
    · have hv' := hv
      simp only [Value.slice.injEq, Option.some.injEq, Addr.mk.injEq, and_true, true_and] at hv'
      obtain ⟨rfl, rfl⟩ := hv'
      rw [Nat.mul_one] at htake
      have hcl : N ≤ cur.toList.length := by have := congrArg List.length htake; simp at this ⊢; omega
      have hel : (e.map (Value.int .i64)).length = n := by simp [hl]
      refine Go.wpList_copy_own hgd d s 22 22 ho 3 Try.underlying22 Try.infoIntR g off n k' ⟨b, off2, none⟩ n c hd hs cur 3 hg (e.map (Value.int .i64)) (by simp [hl]) ?_ (by rw [hel]; simp at hcl; omega) (ints_oneCell _ _) ?_
      · intro j v hj
        have hjl : j < e.length := by
          rcases Nat.lt_or_ge j e.length with h | h
          · exact h
          · rw [List.getElem?_eq_none (by simpa using h)] at hj; cases hj
        rw [List.getElem?_map, nth_get? hjl] at hj
        rw [add_pt, hc j (by omega)]
        exact hj
      · rw [hel]
        have hgr := grownBy_setRow w g (cur.toList.take off ++ (e.map (Value.int .i64) ++ cur.toList.drop (off + n))).toArray
        refine hK _ ⟨⟨by rw [List.length_map, spl_len (by omega)]; omega, .inr ⟨g, K, _, rfl, hlo, setRow_heap w g cur _ 3 (0, 0) hg, hnc, hcm, ?_, ?_⟩⟩, hown.2⟩ hgr
        · rw [← hcs]
          simp at hcl
          simp [hl]; omega
        · rw [Nat.mul_one, List.toList_toArray]
          have h5 := splice_take cur.toList N off (e.map (Value.int .i64)) (by rw [hel]; exact hle) hcl
          rw [hel] at h5
          rw [h5, htake]
          simp [spl, List.map_take, List.map_drop, hl]
/-- The rows of a list one behind another, as far as a row. -/
def flatK (R C : Nat) (ls : List (List Int)) (k : Nat) : List Int := (List.range (R * C)).map fun q => if q / C < k then nth (li ls (q / C)) (q % C) else 0
theorem flatK_len (R C : Nat) (ls : List (List Int)) (k : Nat) : (flatK R C ls k).length = R * C := by simp [flatK]
theorem flatK_nth {R C : Nat} {ls : List (List Int)} {k q : Nat} (h : q < R * C) : nth (flatK R C ls k) q = if q / C < k then nth (li ls (q / C)) (q % C) else 0 := nth_rangeMap _ h
theorem flatK_zero (R C : Nat) (ls : List (List Int)) : flatK R C ls 0 = List.replicate (R * C) 0 :=
  nth_ext (by rw [flatK_len]; simp) fun q hq => by
    rw [flatK_len] at hq
    rw [flatK_nth hq, if_neg (Nat.not_lt_zero _)]
    simp [nth, List.getD, hq]
theorem div_row {C i c : Nat} (hc : c < C) : (i * C + c) / C = i ∧ (i * C + c) % C = c := by
  have h1 : (i * C + c) / C = i := by rw [Nat.mul_comm, Nat.mul_add_div (by omega), Nat.div_eq_of_lt hc, Nat.add_zero]
  have h2 := Nat.div_add_mod (i * C + c) C
  rw [h1, Nat.mul_comm] at h2
  exact ⟨h1, by omega⟩
theorem idx_ltB {R C i : Nat} (hi : i < R) (hC : 0 < C) : 0 < R * C := Nat.mul_pos (by omega) hC
theorem flatK_step {R C : Nat} {ls : List (List Int)} {k : Nat} (hk : k < R) (hC : 0 < C) (hl : (li ls k).length = C) : spl (flatK R C ls k) (k * C) (li ls k) = flatK R C ls (k + 1) := by
  have h5 : (k + 1) * C ≤ R * C := Nat.mul_le_mul (by omega) (Nat.le_refl _)
  rw [Nat.add_mul, Nat.one_mul] at h5
  have hle : k * C + (li ls k).length ≤ (flatK R C ls k).length := by rw [flatK_len, hl]; omega
  refine nth_ext (by rw [spl_len hle, flatK_len, flatK_len]) fun q hq => ?_
  rw [spl_len hle, flatK_len] at hq
  rw [spl_nth hle, flatK_nth hq, flatK_nth hq, hl]
  by_cases h1 : q < k * C
  · have h2 : q / C < k := (Nat.div_lt_iff_lt_mul hC).2 h1
    rw [if_pos h1, if_pos h2, if_pos (by omega)]
  · have h2 : ¬ q / C < k := fun h => h1 ((Nat.div_lt_iff_lt_mul hC).1 h)
    rw [if_neg h1, if_neg h2]
    by_cases h3 : q < k * C + C
    · rw [if_pos h3]
      obtain ⟨c, rfl⟩ : ∃ c, q = k * C + c := ⟨q - k * C, by omega⟩
      obtain ⟨e1, e2⟩ := div_row (i := k) (C := C) (c := c) (by omega)
      rw [e1, e2, if_pos (by omega), show k * C + c - k * C = c by omega]
    · rw [if_neg h3]
      have h4 : ¬ q / C < k + 1 := fun h => h3 (by have := (Nat.div_lt_iff_lt_mul hC).1 h; rw [Nat.add_mul, Nat.one_mul] at this; exact this)
      rw [if_neg h4]
set_option maxRecDepth 100000 in
set_option maxHeartbeats 2000000 in
theorem matrixOf_any (p : Int) (C R cx : Nat) (A : Option Addr) (ls : List (List Int)) (w : World) (hs : LS w A R ls) (hC : 0 < C ∧ C ≤ 14) (hR : R ≤ 14) (hl : ∀ x, x ∈ ls → x.length = C) :
    Calls Try.prog 94 #[.int .i64 p, .int .i64 C, .slice A R cx] w fun e w' => FreshMx w w' e p R C (flatK R C ls R) := by
  obtain ⟨w1, hw1⟩ : ∃ w1, w1 = w.alloc (.cells #[.int .i64 0, .int .i64 0, .int .i64 0, .slice none 0 0] 27) := ⟨_, rfl⟩
  obtain ⟨g, hg⟩ : ∃ g, g = w.heap.size := ⟨_, rfl⟩
  have hk : Blk w1 g 27 #[.int .i64 0, .int .i64 0, .int .i64 0, .slice none 0 0] := by rw [hw1, hg]; exact Blk.new _ _ _
  have hb : Below w.heap.size w w1 := by rw [hw1]; exact Below.alloc_self _ _
  have HB := Lib.hid hb
  have HSZ : Hid (w1.heap.size = g + 1) := Lib.hid (by rw [hw1, hg]; simp)
  have HW := Lib.hid hw1
  have HG := Lib.hid hg
  have HK := Lib.hid hk
  have HS := Lib.hid (hs.below hb (Nat.le_refl _))
  have HLL := Lib.hid hs.1
  have HX := Lib.hid hl
  have HC := Lib.hid hC
  have HZM := Lib.hid (zeroMatrix_any p R C w1 hR hC.2)
  clear hw1 hg hk hb hs hl hC
  go_enter Try.func94, Try.ntmps94
  go_upto_region 1 with fail
  rw [← HW.out, ← HG.out]
  go_upto_region 2 with (first
    | (go_at_call 60
       with_reducible refine HZM.out.mono ?_
       rintro e w2 ⟨A2, N, k2, rfl, ho2, hb2⟩
       have HO2 := Lib.hid ho2
       have HB2 := Lib.hid hb2
       clear ho2 hb2)
    | (refine wpList_store_rowP rfl 27 (.tmp 7) (.tmp 14) rfl w2.heap.size #[.int .i64 p, .int .i64 R, .int .i64 C, .slice A2 N k2] rfl rfl 27 #[.int .i64 0, .int .i64 0, .int .i64 0, .slice none 0 0] (Blk.new _ _ _) Try.infoMx rfl (by simp [Value.oneCell']) ?_
       intro w3 hb3 hg3
       have HK3 := Lib.hid hb3
       have HG3 := Lib.hid hg3
       clear hb3 hg3)
    | fail)
  obtain ⟨s1, hs1⟩ : ∃ s1, s1 = w1.heap.size := ⟨_, rfl⟩
  obtain ⟨s2, hs2⟩ : ∃ s2, s2 = w2.heap.size := ⟨_, rfl⟩
  rw [← hs1] at HB2
  rw [← hs1, ← hs2] at HO2
  rw [← hs2] at HK3 HG3 ⊢
  have HORD : Hid (g + 1 = s1 ∧ s1 ≤ s2) := Lib.hid (by have := HSZ.out; have := HB2.out.size; omega)
  have HB3 : Hid (Below s2 w2 w3) := Lib.hid (((Below.refl s2 w2).alloc (Nat.le_of_eq hs2) _).grown HG3.out (by simp; omega) (by rintro q ⟨⟩; exact Nat.le_refl _))
  have HNL : Hid (N = R * C) := Lib.hid (by have := HO2.out.len; simpa using this.symm)
  have HB13 : Hid (Below s1 w1 w3) := Lib.hid (HB2.out.trans (HB3.out.mono HORD.out.2))
  have HO3 : Hid (Own w3 s1 s2 A2 N k2 (flatK R C ls 0)) := Lib.hid (by rw [flatK_zero]; exact HO2.out.below HB3.out (Nat.le_refl _))
  have HS1 := Lib.hid hs1
  clear hs1 hs2 HG3 HB3 HO2 HB2
  go_wp2_with fail
  go_loopw [17] (fun iv wr => ∃ i : Nat, i ≤ R ∧ iv = .int .i64 i ∧ Own wr s1 s2 A2 N k2 (flatK R C ls i) ∧ Blk wr s2 27 #[.int .i64 p, .int .i64 R, .int .i64 C, .slice A2 N k2] ∧ Below s1 w1 wr)
    (fun iv _ => R - (intOf iv).toNat)
  case atStart => exact ⟨0, Nat.zero_le _, rfl, HO3.out, HK3.out, HB13.out⟩
  case round =>
    obtain ⟨i, hi, rfl, ho, hkm, hbr⟩ := hrel
    clear HO3 HK3 HB13
    have HO := Lib.hid ho
    have HKM := Lib.hid hkm
    have HBR := Lib.hid hbr
    have HKG := Lib.hid (HK.out.below hbr (by have := HORD.out; omega))
    clear ho hkm hbr
    by_cases hlt : i < R
    case neg =>
      obtain rfl : i = R := by omega
      go_wp2_with (first
        | (refine wpList_load_rowP rfl 27 (.tmp 7) rfl s2 rfl 27 #[.int .i64 p, .int .i64 i, .int .i64 C, .slice A2 N k2] _ HKM.out Try.underlying27 rfl Try.infoMx ?_)
        | (refine wpList_store_rowP rfl 27 (.tmp 6) (.tmp 28) rfl g #[.int .i64 p, .int .i64 i, .int .i64 C, .slice A2 N k2] rfl rfl 27 #[.int .i64 0, .int .i64 0, .int .i64 0, .slice none 0 0] HKG.out Try.infoMx rfl (by simp [Value.oneCell']) ?_; intro w5 hb5 hg5)
        | fail)
      refine bodyPost_ret (results_rowP Try.results94 _ _ _ 27 #[.int .i64 p, .int .i64 i, .int .i64 C, .slice A2 N k2] _ rfl hb5 Try.underlying27 rfl Try.infoMx) rfl ?_
      have l1 := HORD.out
      have l2 := HG.out
      have l3 := hg5.size
      have l4 := HKM.out.lt
      have l5 := HBR.out.size
      have l6 := HS1.out
      refine ⟨A2, N, k2, rfl, ?_, ?_⟩
      · exact (HO.out.grown hg5 (fun q hq => by injection hq with hq; omega)).wide (by omega) (by omega)
      · exact (HB.out.trans (HBR.out.mono (by omega))).grown hg5 (by omega) (by rintro q ⟨⟩; omega)
    case pos =>
      have hlI : (i : Int) < (R : Int) := by omega
      have hil : i < ls.length := by rw [HLL.out]; exact hlt
      obtain ⟨b, o, A', n', c', rfl, _, hc0, hsi, _, _⟩ := (HS.out.below HBR.out (Nat.le_of_eq HS1.out.symm)).at_ hlt
      have hxl := HX.out (li ls i) (by rw [li_get hil]; exact List.getElem_mem hil)
      obtain rfl : n' = C := by have := hsi.1; omega
      obtain ⟨gd, rfl, _, _⟩ := HO.out.place (by rw [HNL.out]; have := idx_ltB hlt HC.out.1; omega)
      have hq1 : (i + 1) * n' ≤ N := by rw [HNL.out]; exact Nat.mul_le_mul (by omega) (Nat.le_refl _)
      have HROW := Lib.hid (fun w' => matRow_any p (R : Int) gd 0 N k2 n' i w' HC.out.2 (by omega) hq1 HO.out.cap (by have := nat_mul_small hR HC.out.2; have := HNL.out; omega) HC.out.1)
      obtain ⟨q, hq⟩ : ∃ q, q = i * n' := ⟨_, rfl⟩
      obtain ⟨kk, hkk⟩ : ∃ kk, kk = k2 - i * n' := ⟨_, rfl⟩
      rw [Nat.zero_add, ← hkk, ← hq] at HROW
      have hqn : q + n' ≤ N := by rw [Nat.add_mul, Nat.one_mul] at hq1; omega
      have HSTEP : Hid (flatK R n' ls (i + 1) = spl (flatK R n' ls i) q (li ls i)) := Lib.hid (by rw [hq]; exact (flatK_step hlt HC.out.1 hxl).symm)
      have HSI := Lib.hid hsi
      clear hxl hil hq hkk hq1 hsi
      go_wp2_with (first
        | (refine wpList_load_rowP rfl 27 (.tmp 7) rfl s2 rfl 27 #[.int .i64 p, .int .i64 R, .int .i64 n', .slice (some ⟨gd, 0, none⟩) N k2] _ HKM.out Try.underlying27 rfl Try.infoMx ?_)
        | (go_at_call 61
           with_reducible refine (HROW.out _).mono ?_
           rintro e w4 ⟨rfl, hb4⟩
           have HB4 := Lib.hid hb4
           have HO4 : Hid (Own w4 s1 s2 (some ⟨gd, 0, none⟩) N k2 (flatK R n' ls i)) := Lib.hid (HO.out.below hb4 (Nat.le_of_lt HKM.out.lt))
           have HK4 := Lib.hid (HKM.out.below hb4 HKM.out.lt)
           clear hb4)
        | (refine wpList_copyAt rfl (.tmp 24) (.tmp 25) rfl gd q n' kk N k2 A' c' rfl rfl s1 s2 (flatK R n' ls i) (li ls i) HO4.out (HSI.out.below HB4.out (Nat.le_refl _)) hqn ?_
           intro w6 ho6 hg6
           have HO6 := Lib.hid ho6
           have HG6 := Lib.hid hg6
           clear ho6 hg6)
        | fail)
      go_roundw
      case rel =>
        have h3 := HO4.out.lt gd rfl
        exact ⟨i + 1, by omega, by go_num, by rw [HSTEP.out]; exact HO6.out, HK4.out.grown HG6.out (fun e => by injection e with e; omega), (HBR.out.trans (HB4.out.mono (by have := HBR.out.size; have := HS1.out; omega))).grown HG6.out (by have := HBR.out.size; have := HB4.out.size; have := HS1.out; omega) (by rintro z ⟨⟩; exact h3.1)⟩
      case measure => simp [intOf]; omega
end Go.Proofs.Ytololcgifhefnaa

/-
  Spans on the program's side. Conditions: the modulus is 2, 3, 5 or 7; sizes at most 14.
-/

namespace Go.Proofs.Ytololcgifhefnaa
open Go.RowKit

theorem reverseRows_none (A : Option Addr) (c : Nat) (w : World) :
    Calls Try.prog 106 #[.slice A 0 c] w fun e w' => e = .returned (.tuple #[]) ∧ w = w' := by
  go_enter Try.func106, Try.ntmps106
  go_wp2
  refine wp_loop_rounds 1 ?_
  rw [rounds_succ]
  go_wp2
  go_returns
  exact ⟨rfl, rfl⟩
/-- What reducedRows leaves. -/
def RedLS (w w' : World) (A2 : Option Addr) (n2 : Nat) (p : Int) (n : Nat) (E : List (List Int × Int)) : Prop := LS w' A2 n2 (((echel p (dscR E n n)).map (·.1)).reverse) ∧ Below w.heap.size w w'
set_option maxRecDepth 100000 in
set_option maxHeartbeats 4000000 in
theorem reducedRows_any (p : Int) (n : Nat) (E : List (List Int × Int)) (AR AC : Option Addr) (nR cR nC cC : Nat) (w : World) (hp : P7 p) (hok : EOk p n E) (hEl : E.length ≤ 1000) (hR : LS w AR nR (E.map (·.1))) (hC : SI w AC nC (E.map (·.2))) (hn : n ≤ 1000) :
    Calls Try.prog 98 #[.agg #[.int .i64 p, .slice AR nR cR, .slice AC nC cC], .int .i64 n] w fun e w' => ∃ A2 n2 c2, e = .returned (.slice A2 n2 c2) ∧ RedLS w w' A2 n2 p n E := by
  obtain ⟨w1, hw1⟩ : ∃ w1, w1 = w.alloc (.cells #[.int .i64 p, .slice AR nR cR, .slice AC nC cC] 60) := ⟨_, rfl⟩
  obtain ⟨g, hg⟩ : ∃ g, g = w.heap.size := ⟨_, rfl⟩
  have hk : Blk w1 g 60 #[.int .i64 p, .slice AR nR cR, .slice AC nC cC] := by rw [hw1, hg]; exact Blk.new _ _ _
  have hb : Below w.heap.size w w1 := by rw [hw1]; exact Below.alloc_self _ _
  have HB := Lib.hid hb
  have HSZ : Hid (w1.heap.size = g + 1) := Lib.hid (by rw [hw1, hg]; simp)
  have HW := Lib.hid hw1
  have HG := Lib.hid hg
  have HK := Lib.hid hk
  have HP := Lib.hid hp
  have HOK := Lib.hid hok
  have HRL := Lib.hid (hR.below hb (Nat.le_refl _))
  have HCL := Lib.hid (hC.below hb (Nat.le_refl _))
  have HNR : Hid (E.length = nR) := Lib.hid (by have := hR.1; simpa using this)
  have HNC : Hid (E.length = nC) := Lib.hid (by have := hC.1; simpa using this)
  have hnC : nC ≤ 1000 := by have := HNC.out; omega
  have HDS := Lib.hid (fun t (ht : t ≤ n) => DscI.all hp hok t ht)
  have hp2 := hp.two
  have q0 : w1.cell? ⟨g, 0, none⟩ = some (.int .i64 p) := hk.cell 0
  have hwn : IntKind.i64.wrap ((n : Int) - 1) = (n : Int) - 1 := IntWalk.i64_in _ (by omega)
  clear hw1 hg hk hb hp hok hR hC
  go_enter Try.func98, Try.ntmps98
  go_upto_region 1 with fail
  rw [← HW.out, ← HG.out]
  go_upto_region 2 with (first
    | (refine wpList_store_rowP rfl 60 (.tmp 5) (.tmp 10) rfl w1.heap.size #[.int .i64 p, .slice none 0 0, .slice none 0 0] rfl rfl 60 #[.int .i64 0, .slice none 0 0, .slice none 0 0] (Blk.new _ _ _) Try.infoEc rfl (by simp [Value.oneCell']) ?_
       intro w2 hb2 hg2
       have HK2 := Lib.hid hb2
       have HG2 := Lib.hid hg2
       clear hb2 hg2))
  obtain ⟨ge, hge⟩ : ∃ ge, ge = w1.heap.size := ⟨_, rfl⟩
  rw [← hge] at HK2 HG2 ⊢
  have HGE : Hid (ge = w1.heap.size) := Lib.hid hge
  have HB2 : Hid (Below ge w1 w2) := Lib.hid (((Below.refl ge w1).alloc (Nat.le_of_eq hge) _).grown HG2.out (by simp; omega) (by rintro q ⟨⟩; exact Nat.le_refl _))
  have HE0 : Hid (EchS w2 ge ge p []) := Lib.hid ⟨none, 0, 0, none, 0, 0, fun _ => (none, 0, 0), HK2.out, Nat.le_refl _, ⟨rfl, by simpa [heads] using World.ownsRow_nil _ _ _ _, fun k hk => by simp [Value.ownBlock] at hk, fun j hj => absurd hj (by omega), fun j g hj => absurd hj (by omega), fun i j g _ hj => absurd hj (by omega)⟩, Own.nil _ _ _, ⟨fun e => by simp [rowB, Value.ownBlock] at e, fun j hj => absurd hj (by omega)⟩, fun e => by simp [rowB, Value.ownBlock] at e, fun q hq => by simp [rowB, Value.ownBlock] at hq⟩
  clear hge q0
  go_wp2_with fail
  clear hwn
  go_loopw [6] (fun cv wr => ∃ t : Nat, t ≤ n ∧ cv = .int .i64 ((n : Int) - 1 - (t : Int)) ∧ EchS wr ge ge p (echel p (dscR E n t)) ∧ Below ge w1 wr)
    (fun cv _ => (intOf cv + 1).toNat)
  case atStart => exact ⟨0, Nat.zero_le _, by simp, by simpa [echel, dscR] using HE0.out, HB2.out⟩
  case round =>
    obtain ⟨t, ht, rfl, hE, hbr⟩ := hrel
    clear HE0 HB2 HK2 HG2
    have HE := Lib.hid hE
    have HBR := Lib.hid hbr
    have HDT := Lib.hid (HDS.out t ht)
    have HLE : Hid ((echel p (dscR E n t)).length ≤ 1000) := Lib.hid (by
      have h1 := nodup_le ((HDS.out t ht).ok.2.nodup HP.out.two) (m := List.range n) (fun c hc => by
        obtain ⟨x, hx, rfl⟩ := List.mem_map.1 hc
        exact List.mem_range.2 ((HDS.out t ht).ok.2.at_ hx).1)
      simp [prs] at h1
      omega)
    have HKr := Lib.hid (HK.out.below hbr (by have := HSZ.out; have := HGE.out; omega))
    clear hE hbr
    by_cases hlt : t < n
    case pos =>
      obtain ⟨c, hc⟩ : ∃ c : Nat, c = n - 1 - t := ⟨_, rfl⟩
      have hcI : (n : Int) - 1 - (t : Int) = (c : Int) := by omega
      have HCE := Lib.hid hcI
      rw [hcI]
      have hwc : IntKind.i64.wrap ((c : Int) - 1) = (n : Int) - 1 - ((t + 1 : Nat) : Int) := by
        have e : (c : Int) - 1 = (n : Int) - 1 - ((t + 1 : Nat) : Int) := by omega
        rw [← e]; exact IntWalk.i64_in _ (by omega)
      have HIX := Lib.hid (fun w' (hb' : Drawn wr w') => indexV_any AC nC cC (E.map (·.2)) (c : Int) w' (hb'.si (HCL.out.below HBR.out (Nat.le_of_eq HGE.out.symm))) (by omega))
      have hc0 : (c : Int) ≥ 0 := by omega
      have q1 : wr.cell? ⟨g, 1, none⟩ = some (.slice AR nR cR) := HKr.out.cell 1
      have q2 : wr.cell? ⟨g, 2, none⟩ = some (.slice AC nC cC) := HKr.out.cell 2
      by_cases hix : ixN (E.map (·.2)) (c : Int) < nC
      case pos =>
        have HHIT : Hid (dscR E n (t + 1) = dscR E n t ++ [li (E.map (·.1)) (ixN (E.map (·.2)) (c : Int))]) := Lib.hid (by rw [hc]; exact dscR_hit (by rw [← hc, HNC.out]; exact hix))
        obtain ⟨i, hi⟩ : ∃ i, i = ixN (E.map (·.2)) (c : Int) := ⟨_, rfl⟩
        rw [← hi] at HIX HHIT hix
        have hiR : i < nR := by have := HNR.out; have := HNC.out; omega
        have hiE : i < E.length := by rw [HNC.out]; exact hix
        obtain ⟨b, o, A', n', c', rfl, hbb, hcr, hsi, _, _⟩ := (HRL.out.below HBR.out (Nat.le_of_eq HGE.out.symm)).at_ hiR
        have hrow : li (E.map (·.1)) i = E[i].1 := by rw [li_get (by simpa using hiE)]; simp
        have hei := HOK.out.1 E[i] (List.getElem_mem hiE)
        obtain ⟨x, hx⟩ : ∃ x, x = li (E.map (·.1)) i := ⟨_, rfl⟩
        rw [← hx] at hsi HHIT hrow
        obtain rfl : n' = n := by have h1 := hsi.1; have h2 := hei.1; rw [hrow] at h1; omega
        have HADD := Lib.hid (fun w' (hb' : Drawn wr w') => echAdd_any p ge ge n' c' A' (echel p (dscR E n' t)) x w' HP.out (by obtain ⟨AR2, nR2, cR2, AC2, nC2, cC2, Ev2, hD⟩ := HE.out; exact ⟨AR2, nR2, cR2, AC2, nC2, cC2, Ev2, hD.below (hb'.below wr.heap.size) (Nat.le_refl _)⟩) HDT.out.ok HLE.out (hb'.si hsi) (by rw [hrow]; exact hei.2.1) hn)
        have hcr' : wr.cell? ⟨b, o + i, none⟩ = some (.slice A' n' c') := hcr
        have HIL := Lib.hid hi
        have hiI : (i : Int) < (nR : Int) := by omega
        have hi0 : (i : Int) ≥ 0 := by omega
        clear hx hrow hei hsi hcr hiE hi hc hcI
        go_wp2_with (first
          | (go_at_call 105
             with_reducible refine (HIX.out _ (Drawn.refl _)).mono ?_
             rintro e w3 ⟨iv, rfl, hiv, hd3⟩
             obtain rfl : iv = (i : Int) := hiv.elim (fun h => absurd h.1 (by omega)) (fun h => h.2)
             have HD3 := Lib.hid hd3
             have q1' : w3.cell? ⟨g, 1, none⟩ = some (.slice (some ⟨b, o, none⟩) nR cR) := (HKr.out.drawn hd3).cell 1
             have hcr3 : w3.cell? ⟨b, o + i, none⟩ = some (.slice A' n' c') := by obtain ⟨m, rfl⟩ := hd3; exact hcr'
             clear hiv hd3)
          | (go_at_call 86
             with_reducible refine (HADD.out _ HD3.out).mono ?_
             rintro e w4 ⟨rfl, hE4, hb4⟩
             have HE4 := Lib.hid hE4
             have HB4 : Hid (Below ge w1 w4) := Lib.hid ((HBR.out.trans (HD3.out.below ge)).trans hb4)
             clear hE4 hb4)
          | fail)
        go_roundw
        case rel => exact ⟨t + 1, by omega, rfl, by rw [HHIT.out, echel_snoc]; exact HE4.out, HB4.out⟩
        case measure => have l1 := HCE.out; simp [intOf]; omega
      case neg =>
        have HMISS : Hid (dscR E n (t + 1) = dscR E n t) := Lib.hid (dscR_miss (by rw [← hc, HNC.out]; exact hix))
        have HIXE : Hid (ixN (E.map (·.2)) (c : Int) = nC) := Lib.hid (by have := ixN_le (E.map (·.2)) (c : Int); simp only [List.length_map] at this; have := HNC.out; omega)
        clear hc hcI hix
        go_wp2_with (first
          | (go_at_call 105
             with_reducible refine (HIX.out _ (Drawn.refl _)).mono ?_
             rintro e w3 ⟨iv, rfl, hiv, hd3⟩
             obtain rfl : iv = -1 := hiv.elim (fun h => h.2) (fun h => absurd h.1 (by have := HIXE.out; omega))
             have HD3 := Lib.hid hd3
             clear hiv hd3)
          | fail)
        go_roundw
        case rel =>
          obtain ⟨AR2, nR2, cR2, AC2, nC2, cC2, Ev2, hD⟩ := HE.out
          exact ⟨t + 1, by omega, rfl, by rw [HMISS.out]; exact ⟨AR2, nR2, cR2, AC2, nC2, cC2, Ev2, hD.below (HD3.out.below wr.heap.size) (Nat.le_refl _)⟩, HBR.out.trans (HD3.out.below ge)⟩
        case measure => have l1 := HCE.out; simp [intOf]; omega
    case neg =>
      obtain rfl : t = n := by omega
      have hcI : (t : Int) - 1 - (t : Int) = -1 := by omega
      rw [hcI]
      obtain ⟨AR2, nR2, cR2, AC2, nC2, cC2, Ev, hD⟩ := HE.out
      have HD := Lib.hid hD
      have q1 := hD.cells.2.1
      have l1 := HSZ.out
      have l2 := HGE.out
      have l3 := HG.out
      by_cases hn0 : 0 < nR2
      case pos =>
        obtain ⟨gr, rfl, hgr1, hgr2⟩ := hD.rows.place hn0
        have hrev := reverseRows_any gr nR2 cR2 ge Ev wr hD.rows.2.1 hn0 (by have := hD.lenR; have := HLE.out; omega)
        have HREV := Lib.hid hrev
        have HGRW : Hid (gr ≠ ge) := Lib.hid (fun e => hD.ap1.1 (by rw [e]; rfl))
        clear hD hrev l1 l2 l3
        go_wp2_with (first
          | (go_at_call 106
             with_reducible refine HREV.out.mono ?_
             rintro e w3 ⟨rfl, ho3, hw3⟩
             have HO3 := Lib.hid ho3
             have HW3 := Lib.hid hw3
             have q1' : w3.cell? ⟨ge, 1, none⟩ = some (.slice (some ⟨gr, 0, none⟩) nR2 cR2) := Blk.cell (t := 60) (cs := #[.int .i64 p, .slice (some ⟨gr, 0, none⟩) nR2 cR2, .slice AC2 nC2 cC2]) ((hw3.2.2.2.2 ge HD.out.blk.lt (by have := HGRW.out; omega)).trans HD.out.blk) 1
             clear ho3 hw3)
          | fail)
        go_ret
        have l1 := HSZ.out
        have l2 := HGE.out
        have l3 := HG.out
        refine ⟨some ⟨gr, 0, none⟩, nR2, cR2, rfl, ?_, (HB.out.trans ((HBR.out.trans (HW3.out.below hgr1 (by have := HD.out.blk.lt; have := HD.out.glo; omega))).mono (by omega)))⟩
        have hrl := HD.out.lenR
        refine ⟨by simpa using hrl, fun _ => ⟨gr, 0, rfl, (HO3.out.lt gr rfl).2, fun k hk => ⟨(Ev (nR2 - 1 - k)).1, (Ev (nR2 - 1 - k)).2.1, (Ev (nR2 - 1 - k)).2.2, by rw [Nat.zero_add]; exact OwnG.cellAt HO3.out hk, ?_⟩⟩⟩
        have hk2 : nR2 - 1 - k < nR2 := by omega
        have hown := HD.out.rows.2.2.2.1 (nR2 - 1 - k) hk2
        have hown3 := hown.same (w' := w3) (fun q hq => HW3.out.2.2.2.2 q (by have := (hown.lt q (by rw [ownB]; exact hq)).2; omega) (by
          have h5 := HD.out.rows.2.2.2.2.1 (nR2 - 1 - k) q hk2 (by unfold sv; rw [ownB]; exact hq)
          rw [ownB] at h5
          have h6 : gr ≠ q := fun e => h5 (by rw [e]; rfl)
          omega))
        have hli : li (((echel p (dscR E t t)).map (·.1)).reverse) k = li ((echel p (dscR E t t)).map (·.1)) (nR2 - 1 - k) := by
          rw [li_get (by simp; omega), li_get (by simp; omega), List.getElem_reverse]
          congr 1
          simp; omega
        rw [hli]
        refine ⟨hown3.si, hown3.cap, fun e => ?_⟩
        rw [e] at hown3
        exact hown3.nilcapL
      case neg =>
        obtain rfl : nR2 = 0 := by omega
        have HREV := Lib.hid (reverseRows_none AR2 cR2 wr)
        have HE0 : Hid (echel p (dscR E t t) = []) := Lib.hid (List.eq_nil_of_length_eq_zero hD.lenR)
        clear hD l1 l2 l3
        go_wp2_with (first
          | (go_at_call 106
             with_reducible refine HREV.out.mono ?_
             rintro e w3 ⟨rfl, rfl⟩)
          | fail)
        go_ret
        have l1 := HSZ.out
        have l2 := HGE.out
        have l3 := HG.out
        exact ⟨AR2, 0, cR2, rfl, by rw [HE0.out]; exact LS.nil _ _, HB.out.trans (HBR.out.mono (by omega))⟩
end Go.Proofs.Ytololcgifhefnaa

/-
  Spans on the program's side: the functions. Conditions: the modulus is 2, 3, 5 or 7; sizes at most 14.
-/



namespace Go.Proofs.Ytololcgifhefnaa
open Go.RowKit

/-- The rows of the reduced form, how many they are, and their numbers. -/
def spanL (p : Int) (C : Nat) (rows : List (List Int)) : List (List Int) := ((redD p C rows).map (·.1)).reverse
def spanN (p : Int) (C : Nat) (rows : List (List Int)) : Nat := (redD p C rows).length
def spanX (p : Int) (C : Nat) (rows : List (List Int)) : List Int := flatK (spanN p C rows) C (spanL p C rows) (spanN p C rows)
theorem EOk.len_le {p : Int} {n : Nat} {E : List (List Int × Int)} (hp : P7 p) (h : EOk p n E) : E.length ≤ n := by
  have h1 := nodup_le (h.2.nodup hp.two) (m := List.range n) (fun c hc => by
    obtain ⟨x, hx, rfl⟩ := List.mem_map.1 hc
    exact List.mem_range.2 (h.2.at_ hx).1)
  simp [prs] at h1
  omega
theorem redD_ok {p : Int} {n : Nat} {rows : List (List Int)} (hp : P7 p) (hr : ∀ x, x ∈ rows → x.length = n ∧ Rg p x) : EOk p n (redD p n rows) :=
  (DscI.all hp (echel_ok hp hr).1 n (Nat.le_refl _)).ok
theorem spanN_le {p : Int} {n : Nat} {rows : List (List Int)} (hp : P7 p) (hr : ∀ x, x ∈ rows → x.length = n ∧ Rg p x) : spanN p n rows ≤ n := (redD_ok hp hr).len_le hp
theorem spanL_len {p : Int} {n : Nat} {rows : List (List Int)} (hp : P7 p) (hr : ∀ x, x ∈ rows → x.length = n ∧ Rg p x) : ∀ x, x ∈ spanL p n rows → x.length = n := fun x hx => by
  unfold spanL at hx
  rw [List.mem_reverse] at hx
  obtain ⟨e, he, rfl⟩ := List.mem_map.1 hx
  exact ((redD_ok hp hr).1 e he).1
set_option maxRecDepth 100000 in
set_option maxHeartbeats 2000000 in
theorem spanOf_any (p : Int) (C R c : Nat) (A : Option Addr) (ls : List (List Int)) (w : World) (hp : P7 p) (hs : LS w A R ls) (hR : R ≤ 1000) (hl : ∀ x, x ∈ ls → x.length = C ∧ Rg p x) (hC : 0 < C ∧ C ≤ 14) :
    Calls Try.prog 74 #[.int .i64 p, .int .i64 C, .slice A R c] w fun e w' => FreshMx w w' e p (spanN p C ls) C (spanX p C ls) := by
  obtain ⟨w1, hw1⟩ : ∃ w1, w1 = w.alloc (.cells #[.int .i64 0, .int .i64 0, .int .i64 0, .slice none 0 0] 27) := ⟨_, rfl⟩
  obtain ⟨g, hg⟩ : ∃ g, g = w.heap.size := ⟨_, rfl⟩
  have hk : Blk w1 g 27 #[.int .i64 0, .int .i64 0, .int .i64 0, .slice none 0 0] := by rw [hw1, hg]; exact Blk.new _ _ _
  have hb : Below w.heap.size w w1 := by rw [hw1]; exact Below.alloc_self _ _
  have HB := Lib.hid hb
  have HSZ : Hid (w1.heap.size = g + 1) := Lib.hid (by rw [hw1, hg]; simp)
  have HW := Lib.hid hw1
  have HG := Lib.hid hg
  have HK := Lib.hid hk
  have HP := Lib.hid hp
  have HC := Lib.hid hC
  have HOK := Lib.hid (echel_ok hp hl).1
  have HEL : Hid ((echel p ls).length ≤ 1000) := Lib.hid (by have := (echel_ok hp hl).1.len_le hp; omega)
  have HN : Hid (spanN p C ls ≤ 14) := Lib.hid (Nat.le_trans (spanN_le hp hl) hC.2)
  have HLL := Lib.hid (spanL_len hp hl)
  have HEC := Lib.hid (echelonOf_any p C A R c ls w1 hp (hs.below hb (Nat.le_refl _)) hR hl (by omega))
  clear hw1 hg hk hb hp hC hs hl
  go_enter Try.func74, Try.ntmps74
  go_upto_region 1 with fail
  rw [← HW.out, ← HG.out]
  go_wp2_with (first
    | (go_at_call 66
       with_reducible refine HEC.out.mono ?_
       rintro e w2 ⟨AR, nR, cR, AC, nC, cC, rfl, ho2, hc2, hb2⟩
       have HO2 := Lib.hid ho2.si
       have HC2 := Lib.hid hc2.si
       have HB2 := Lib.hid hb2
       clear ho2 hc2 hb2)
    | (go_at_call 98
       with_reducible refine (reducedRows_any p C (echel p ls) AR AC nR cR nC cC w2 HP.out HOK.out HEL.out HO2.out HC2.out (by have := HC.out; omega)).mono ?_
       rintro e w3 ⟨A2, n2, c2, rfl, hred⟩
       have hls : LS w3 A2 n2 (spanL p C ls) := hred.1
       have hb3 := hred.2
       obtain rfl : n2 = spanN p C ls := by have h := hls.1; unfold spanL at h; rw [List.length_reverse, List.length_map] at h; exact h.symm
       have HLS := Lib.hid hls
       have HB3 : Hid (Below w1.heap.size w1 w3) := Lib.hid (HB2.out.trans (hb3.mono HB2.out.size))
       clear hred hls hb3)
    | (go_at_call 94
       with_reducible refine (matrixOf_any p C (spanN p C ls) c2 A2 (spanL p C ls) w3 HLS.out HC.out HN.out HLL.out).mono ?_
       rintro e w4 ⟨A4, n4, k4, rfl, ho4, hb4⟩
       have HO4 := Lib.hid ho4
       have HB4 : Hid (Below w1.heap.size w1 w4) := Lib.hid (HB3.out.trans (hb4.mono HB3.out.size))
       have HS4 : Hid (w3.heap.size ≤ w4.heap.size) := Lib.hid hb4.size
       have HK4 := Lib.hid (HK.out.below HB4.out HK.out.lt)
       clear ho4 hb4)
    | (refine wpList_store_rowP rfl 27 (.tmp 6) (.tmp 14) rfl g #[.int .i64 p, .int .i64 (spanN p C ls), .int .i64 C, .slice A4 n4 k4] rfl rfl 27 #[.int .i64 0, .int .i64 0, .int .i64 0, .slice none 0 0] HK4.out Try.infoMx rfl (by simp [Value.oneCell']) ?_; intro w5 hb5 hg5)
    | fail)
  refine bodyPost_ret (results_rowP Try.results74 _ _ _ 27 #[.int .i64 p, .int .i64 (spanN p C ls), .int .i64 C, .slice A4 n4 k4] _ rfl hb5 Try.underlying27 rfl Try.infoMx) rfl ?_
  have l1 := HSZ.out
  have l2 := HG.out
  have l3 := hg5.size
  have l4 := HB3.out.size
  have l5 := HS4.out
  have l6 := HB.out.size
  refine ⟨A4, n4, k4, rfl, ?_, ?_⟩
  · exact (HO4.out.grown hg5 (fun q hq => by injection hq with hq; omega)).wide (by omega) (by omega)
  · exact (HB.out.trans (HB4.out.mono l6)).grown hg5 (by omega) (by rintro q ⟨⟩; omega)
set_option maxHeartbeats 1000000 in
theorem allRows_any (p : Int) (R C : Nat) (A : Option Addr) (n k : Nat) (xs : List Int) (w : World) (hs : SI w A n xs) (hC : 0 < C ∧ C ≤ 14) (hR : R ≤ 14) (hl : xs.length = R * C) (hnk : n ≤ k) :
    Calls Try.prog 75 #[.agg #[.int .i64 p, .int .i64 R, .int .i64 C, .slice A n k]] w fun e w' => ∃ g, e = .returned (.slice (some ⟨g, 0, none⟩) R R) ∧ LS w' (some ⟨g, 0, none⟩) R (rowsC xs C R C) ∧ Below w.heap.size w w' := by
  obtain ⟨w1, hw1⟩ : ∃ w1, w1 = w.alloc (.cells #[.int .i64 p, .int .i64 R, .int .i64 C, .slice A n k] 27) := ⟨_, rfl⟩
  obtain ⟨g, hg⟩ : ∃ g, g = w.heap.size := ⟨_, rfl⟩
  have hk : Blk w1 g 27 #[.int .i64 p, .int .i64 R, .int .i64 C, .slice A n k] := by rw [hw1, hg]; exact Blk.new _ _ _
  have hb : Below w.heap.size w w1 := by rw [hw1]; exact Below.alloc_self _ _
  have hs1 := hs.below hb (Nat.le_refl _)
  have hnl : n = R * C := by have := hs.1; omega
  have hn196 : n ≤ 196 := by have := nat_mul_small hR hC.2; omega
  obtain ⟨b, o, hA⟩ : ∃ b o, 0 < R → A = some ⟨b, o, none⟩ := by
    by_cases hr0 : 0 < R
    · obtain ⟨b, o, e, _⟩ := hs1.2 (by
        have h5 : 1 * 1 ≤ R * C := Nat.mul_le_mul hr0 hC.1
        omega)
      exact ⟨b, o, fun _ => e⟩
    · exact ⟨0, 0, fun h => absurd h hr0⟩
  have HB := Lib.hid hb
  have HW := Lib.hid hw1
  have HG := Lib.hid hg
  have HK := Lib.hid hk
  have HS := Lib.hid hs1
  have HA := Lib.hid hA
  have HNL := Lib.hid hnl
  have HNK := Lib.hid hnk
  have HFR := Lib.hid (firstRows_any p (R : Int) A b o n k C R w1 hA hC hR (Nat.le_of_eq hnl.symm) hnk (by omega))
  obtain ⟨q0, q1, q2, q3⟩ := cells4 hk
  clear hw1 hg hk hb hs hs1 hA hnl hnk hl
  go_enter Try.func75, Try.ntmps75
  go_upto_region 1 with fail
  rw [← HW.out, ← HG.out]
  go_wp2_with (first
    | (refine wpList_load_rowP rfl 27 (.tmp 1) rfl g rfl 27 #[.int .i64 p, .int .i64 R, .int .i64 C, .slice A n k] _ HK.out Try.underlying27 rfl Try.infoMx ?_)
    | (go_at_call 65
       with_reducible refine HFR.out.mono ?_
       rintro e w2 ⟨g2, rfl, ho2, hb2⟩
       have HO2 := Lib.hid ho2
       have HB2 := Lib.hid hb2
       clear ho2 hb2)
    | fail)
  go_ret
  refine ⟨g2, rfl, ?_, HB.out.trans (HB2.out.mono HB.out.size)⟩
  have hsr := HS.out.below HB2.out (Nat.le_refl _)
  exact HO2.out.ls (rowsC_len ..) fun j hj => by
    have e := HA.out (by omega)
    subst e
    have h5 : (j + 1) * C ≤ R * C := Nat.mul_le_mul (by omega) (Nat.le_refl _)
    rw [Nat.add_mul, Nat.one_mul] at h5
    have h6 := HNL.out
    have h7 := HNK.out
    refine ⟨by rw [rowsC_li hj]; exact hsr.mid (C := C) (c := C) (i := j) (by omega), by show C ≤ k - j * C; omega, fun h => by cases h⟩
end Go.Proofs.Ytololcgifhefnaa

/-
  Spans on the document's side: the first rows. Conditions: sizes at most 14.
-/


namespace Go.Proofs.Ytololcgifhefnaa
open Go.RowKit

theorem Own.shape_ {w : World} {lo hi n c : Nat} {A : Option Addr} {xs : List Int} (h : Own w lo hi A n c xs) : (A = none ∧ n = 0 ∧ c = 0) ∨ ∃ g, A = some ⟨g, 0, none⟩ := by
  rcases h.1.2 with ⟨e1, _⟩ | ⟨g', cap, cur, e1, _, hg, _⟩
  · injection e1 with e2 e3 e4
    exact Or.inl ⟨e2, e3, e4⟩
  · injection e1 with e2 e3 e4
    exact Or.inr ⟨g', e2⟩
set_option maxRecDepth 100000 in
set_option maxHeartbeats 4000000 in
theorem l7Top_some (p r : Int) (C R b n k : Nat) (xs : List Int) (w : World) (hs : SI w (some ⟨b, 0, none⟩) n xs) (hC : C ≤ 14) (hR : R ≤ 14) (hRC : R * C ≤ n) (hnk : n ≤ k) :
    Calls Try.prog 97 #[.agg #[.int .i64 p, .int .i64 r, .int .i64 C, .slice (some ⟨b, 0, none⟩) n k], .int .i64 R] w fun e w' => FreshMx w w' e p R C (xs.take (R * C)) := by
  obtain ⟨w1, hw1⟩ : ∃ w1, w1 = (w.alloc (.cells #[.int .i64 p, .int .i64 r, .int .i64 C, .slice (some ⟨b, 0, none⟩) n k] 27)).alloc (.cells #[.int .i64 0, .int .i64 0, .int .i64 0, .slice none 0 0] 27) := ⟨_, rfl⟩
  obtain ⟨g, hg⟩ : ∃ g, g = w.heap.size := ⟨_, rfl⟩
  have hk : Blk w1 g 27 #[.int .i64 p, .int .i64 r, .int .i64 C, .slice (some ⟨b, 0, none⟩) n k] := by rw [hw1, hg]; exact (Blk.new _ _ _).alloc _
  have hk2 : Blk w1 (g + 1) 27 #[.int .i64 0, .int .i64 0, .int .i64 0, .slice none 0 0] := by
    rw [hw1, hg]
    have := Blk.new (w.alloc (.cells #[.int .i64 p, .int .i64 r, .int .i64 C, .slice (some ⟨b, 0, none⟩) n k] 27)) 27 #[.int .i64 0, .int .i64 0, .int .i64 0, .slice none 0 0]
    simpa using this
  have hb : Below w.heap.size w w1 := by rw [hw1]; go_grown
  obtain ⟨N, hN⟩ : ∃ N, N = R * C := ⟨_, rfl⟩
  rw [← hN] at hRC ⊢
  have hN196 : N ≤ 196 := by have := nat_mul_small hR hC; omega
  have hwr : IntKind.i64.wrap ((R : Int) * (C : Int)) = (N : Int) := wrap_mul_nat hN (by omega)
  have hNk : N ≤ k := by omega
  have HS := Lib.hid (hs.below hb (Nat.le_refl _))
  have HB1 := Lib.hid hb
  have HW := Lib.hid hw1
  have HG := Lib.hid hg
  have HK := Lib.hid hk
  have HK2 := Lib.hid hk2
  have HSZ : Hid (w1.heap.size = g + 1 + 1) := Lib.hid (by rw [hw1, hg]; simp)
  have hqd : w1.drew.cell? ⟨g, 0, none⟩ = some (.int .i64 p) ∧ w1.drew.cell? ⟨g, 1, none⟩ = some (.int .i64 r) ∧ w1.drew.cell? ⟨g, 2, none⟩ = some (.int .i64 C) ∧ w1.drew.cell? ⟨g, 3, none⟩ = some (.slice (some ⟨b, 0, none⟩) n k) := cells4 hk
  have HQD := Lib.hid hqd
  have HQ := Lib.hid (cells4 hk)
  have HC1 := Lib.hid (fun w' (hb' : Below w1.heap.size w1 w') => l1Ints_any (some ⟨b, 0, none⟩) N k (xs.take N) w' ((HS.out.below hb' (Nat.le_refl _)).take hRC) (by omega))
  have hNI : (0 : Int) ≤ (N : Int) := by omega
  have hNkI : (N : Int) ≤ (k : Int) := by omega
  clear hw1 hg hk hk2 hb hs hqd hN hRC hC hR
  go_enter Try.func97, Try.ntmps97
  go_upto_region 1 with fail
  rw [← HW.out, ← HG.out]
  go_region_held3 (fun w' => w'.cell? ⟨g, 0, none⟩ = some (.int .i64 p) ∧ w'.cell? ⟨g, 1, none⟩ = some (.int .i64 r) ∧ w'.cell? ⟨g, 2, none⟩ = some (.int .i64 C) ∧ w'.cell? ⟨g, 3, none⟩ = some (.slice (some ⟨b, 0, none⟩) n k))
    (first | exact HQD.out | exact HQ.out | exact K4 | exact KZ)
    (first
      | (go_at_call 103
         with_reducible refine (HC1.out _ ((Below.refl _ _).drew)).mono ?_
         rintro e w4 ⟨B1, m1, d1, rfl, ho4, hb4⟩
         have HB4 : Hid (Below w1.heap.size w1 w4) := Lib.hid (((Below.refl _ _).drew).trans hb4)
         have HK4 := Lib.hid (HK.out.below HB4.out HK.out.lt)
         have K4 := cells4 HK4.out
         have HR4 := Lib.hid (HK2.out.below HB4.out HK2.out.lt)
         obtain ⟨rr0, rr1, rr2, rr3⟩ := cells4 HR4.out
         obtain ⟨ff0, ff1, ff2, ff3⟩ := frozenM HR4.out
         have KZ := cells4 ((((HK4.out.far (p := ⟨g + 1, 0, none⟩) (by show g ≠ g + 1; omega) (.int .i64 p)).far (p := ⟨g + 1, 1, none⟩) (by show g ≠ g + 1; omega) (.int .i64 R)).far (p := ⟨g + 1, 2, none⟩) (by show g ≠ g + 1; omega) (.int .i64 C)).far (p := ⟨g + 1, 3, none⟩) (by show g ≠ g + 1; omega) (.slice B1 m1 d1))
         have HO4 : Hid (Own w4 w1.heap.size w4.heap.size B1 m1 d1 (xs.take N)) := Lib.hid ho4
         have HRP : Hid (Blk ((((w4.setCell ⟨g + 1, 0, none⟩ (.int .i64 p)).setCell ⟨g + 1, 1, none⟩ (.int .i64 R)).setCell ⟨g + 1, 2, none⟩ (.int .i64 C)).setCell ⟨g + 1, 3, none⟩ (.slice B1 m1 d1)) (g + 1) 27 #[.int .i64 p, .int .i64 R, .int .i64 C, .slice B1 m1 d1]) := Lib.hid ((((HR4.out.set_ 0 _).set_ 1 _).set_ 2 _).set_ 3 _)
         have HGP := Lib.hid (grown_putM w4 (g + 1) (.int .i64 p) (.int .i64 R) (.int .i64 C) (.slice B1 m1 d1))
         clear ho4 hb4))
  go_wp2
  refine bodyPost_ret (results_rowP Try.results97 _ _ _ 27 #[.int .i64 p, .int .i64 R, .int .i64 C, .slice B1 m1 d1] _ rfl HRP.out Try.underlying27 rfl Try.infoMx) rfl ?_
  have l1 := HSZ.out
  have l2 := HG.out
  have l3 := HGP.out.size
  have l4 := HB4.out.size
  have l5 := HB1.out.size
  refine ⟨B1, m1, d1, rfl, ?_, ?_⟩
  · exact (HO4.out.grown HGP.out (fun q hq => by injection hq with hq; omega)).wide (by omega) l3
  · exact (HB1.out.trans (HB4.out.mono l5)).grown HGP.out (by omega) (by rintro q ⟨⟩; omega)
-- none
set_option maxRecDepth 100000 in
set_option maxHeartbeats 4000000 in
theorem l7Top_none (p r : Int) (C R : Nat) (w : World) (hRC : R * C = 0) :
    Calls Try.prog 97 #[.agg #[.int .i64 p, .int .i64 r, .int .i64 C, .slice none 0 0], .int .i64 R] w fun e w' => FreshMx w w' e p R C [] := by
  obtain ⟨w1, hw1⟩ : ∃ w1, w1 = (w.alloc (.cells #[.int .i64 p, .int .i64 r, .int .i64 C, .slice none 0 0] 27)).alloc (.cells #[.int .i64 0, .int .i64 0, .int .i64 0, .slice none 0 0] 27) := ⟨_, rfl⟩
  obtain ⟨g, hg⟩ : ∃ g, g = w.heap.size := ⟨_, rfl⟩
  have hk : Blk w1 g 27 #[.int .i64 p, .int .i64 r, .int .i64 C, .slice none 0 0] := by rw [hw1, hg]; exact (Blk.new _ _ _).alloc _
  have hk2 : Blk w1 (g + 1) 27 #[.int .i64 0, .int .i64 0, .int .i64 0, .slice none 0 0] := by
    rw [hw1, hg]
    have := Blk.new (w.alloc (.cells #[.int .i64 p, .int .i64 r, .int .i64 C, .slice none 0 0] 27)) 27 #[.int .i64 0, .int .i64 0, .int .i64 0, .slice none 0 0]
    simpa using this
  have hb : Below w.heap.size w w1 := by rw [hw1]; go_grown
  have hwr : IntKind.i64.wrap ((R : Int) * (C : Int)) = 0 := by have h := wrap_mul_nat (r := R) (c := C) (N := 0) hRC.symm (by omega); simpa using h
  have HB1 := Lib.hid hb
  have HW := Lib.hid hw1
  have HG := Lib.hid hg
  have HK := Lib.hid hk
  have HK2 := Lib.hid hk2
  have HSZ : Hid (w1.heap.size = g + 1 + 1) := Lib.hid (by rw [hw1, hg]; simp)
  have hqd : w1.drew.cell? ⟨g, 0, none⟩ = some (.int .i64 p) ∧ w1.drew.cell? ⟨g, 1, none⟩ = some (.int .i64 r) ∧ w1.drew.cell? ⟨g, 2, none⟩ = some (.int .i64 C) ∧ w1.drew.cell? ⟨g, 3, none⟩ = some (.slice none 0 0) := cells4 hk
  have HQD := Lib.hid hqd
  have HQ := Lib.hid (cells4 hk)
  have HC1 := Lib.hid (fun w' (_ : Below w1.heap.size w1 w') => l1Ints_any none 0 0 [] w' (SI.nil _ _) (by omega))
  clear hw1 hg hk hk2 hb hqd hRC
  go_enter Try.func97, Try.ntmps97
  go_upto_region 1 with fail
  rw [← HW.out, ← HG.out]
  go_region_held3 (fun w' => w'.cell? ⟨g, 0, none⟩ = some (.int .i64 p) ∧ w'.cell? ⟨g, 1, none⟩ = some (.int .i64 r) ∧ w'.cell? ⟨g, 2, none⟩ = some (.int .i64 C) ∧ w'.cell? ⟨g, 3, none⟩ = some (.slice none 0 0))
    (first | exact HQD.out | exact HQ.out | exact K4 | exact KZ)
    (first
      | (go_at_call 103
         with_reducible refine (HC1.out _ ((Below.refl _ _).drew)).mono ?_
         rintro e w4 ⟨B1, m1, d1, rfl, ho4, hb4⟩
         have HB4 : Hid (Below w1.heap.size w1 w4) := Lib.hid (((Below.refl _ _).drew).trans hb4)
         have HK4 := Lib.hid (HK.out.below HB4.out HK.out.lt)
         have K4 := cells4 HK4.out
         have HR4 := Lib.hid (HK2.out.below HB4.out HK2.out.lt)
         obtain ⟨rr0, rr1, rr2, rr3⟩ := cells4 HR4.out
         obtain ⟨ff0, ff1, ff2, ff3⟩ := frozenM HR4.out
         have KZ := cells4 ((((HK4.out.far (p := ⟨g + 1, 0, none⟩) (by show g ≠ g + 1; omega) (.int .i64 p)).far (p := ⟨g + 1, 1, none⟩) (by show g ≠ g + 1; omega) (.int .i64 R)).far (p := ⟨g + 1, 2, none⟩) (by show g ≠ g + 1; omega) (.int .i64 C)).far (p := ⟨g + 1, 3, none⟩) (by show g ≠ g + 1; omega) (.slice B1 m1 d1))
         have HO4 : Hid (Own w4 w1.heap.size w4.heap.size B1 m1 d1 []) := Lib.hid ho4
         have HRP : Hid (Blk ((((w4.setCell ⟨g + 1, 0, none⟩ (.int .i64 p)).setCell ⟨g + 1, 1, none⟩ (.int .i64 R)).setCell ⟨g + 1, 2, none⟩ (.int .i64 C)).setCell ⟨g + 1, 3, none⟩ (.slice B1 m1 d1)) (g + 1) 27 #[.int .i64 p, .int .i64 R, .int .i64 C, .slice B1 m1 d1]) := Lib.hid ((((HR4.out.set_ 0 _).set_ 1 _).set_ 2 _).set_ 3 _)
         have HGP := Lib.hid (grown_putM w4 (g + 1) (.int .i64 p) (.int .i64 R) (.int .i64 C) (.slice B1 m1 d1))
         clear ho4 hb4))
  go_wp2
  refine bodyPost_ret (results_rowP Try.results97 _ _ _ 27 #[.int .i64 p, .int .i64 R, .int .i64 C, .slice B1 m1 d1] _ rfl HRP.out Try.underlying27 rfl Try.infoMx) rfl ?_
  have l1 := HSZ.out
  have l2 := HG.out
  have l3 := HGP.out.size
  have l4 := HB4.out.size
  have l5 := HB1.out.size
  refine ⟨B1, m1, d1, rfl, ?_, ?_⟩
  · exact (HO4.out.grown HGP.out (fun q hq => by injection hq with hq; omega)).wide (by omega) l3
  · exact (HB1.out.trans (HB4.out.mono l5)).grown HGP.out (by omega) (by rintro q ⟨⟩; omega)
theorem l7Top_own (p r : Int) (C R lo hi n k : Nat) (A : Option Addr) (xs : List Int) (w : World) (hs : Own w lo hi A n k xs) (hC : C ≤ 14) (hR : R ≤ 14) (hRC : R * C ≤ n) :
    Calls Try.prog 97 #[.agg #[.int .i64 p, .int .i64 r, .int .i64 C, .slice A n k], .int .i64 R] w fun e w' => FreshMx w w' e p R C (xs.take (R * C)) := by
  rcases hs.shape_ with ⟨rfl, rfl, rfl⟩ | ⟨g, rfl⟩
  · have h0 : R * C = 0 := by omega
    rw [h0, List.take_zero]
    exact l7Top_none p r C R w h0
  · exact l7Top_some p r C R g n k xs w hs.si hC hR hRC hs.cap
end Go.Proofs.Ytololcgifhefnaa

/-
  SpanOf on the program's side. Conditions: lengths below 2^40.
-/


namespace Go.Proofs.Ytololcgifhefnaa
open Go.RowKit

/-- What SpanOf answers. -/
def SpnIs (p r c : Int) (xs : List Int) (zp zr zc : Int) (z : List Int) : Prop :=
  (matB p r c xs = true → zp = p ∧ zr = spanN p c.toNat (rowsC xs c.toNat r.toNat c.toNat) ∧ zc = c ∧ z = spanX p c.toNat (rowsC xs c.toNat r.toNat c.toNat)) ∧ (matB p r c xs = false → zp = 0 ∧ zr = 0 ∧ zc = 0 ∧ z = [])
theorem spn_ex (p r c : Int) (xs : List Int) : ∃ zp zr zc z, SpnIs p r c xs zp zr zc z := by
  cases h : matB p r c xs with
  | true => exact ⟨_, _, _, _, fun _ => ⟨rfl, rfl, rfl, rfl⟩, fun h' => by rw [h] at h'; cases h'⟩
  | false => exact ⟨0, 0, 0, [], (fun h' => by rw [h] at h'; cases h'), fun _ => ⟨rfl, rfl, rfl, rfl⟩⟩
theorem SpnIs.len {p r c : Int} {xs : List Int} {zp zr zc : Int} {z : List Int} (h : SpnIs p r c xs zp zr zc z) : z.length ≤ 1000 := by
  cases hm : matB p r c xs with
  | true =>
    obtain ⟨_, _, _, rfl⟩ := h.1 hm
    have hM := matB_P hm
    obtain ⟨R, C, rfl, rfl, hR7, hC1, hC7, hxl⟩ := hM.nats
    unfold spanX
    rw [flatK_len]
    have h1 := spanN_le (n := C) hM.1 (rowsC_ok (by have := hM.1.two; omega) hM.rg C R C)
    simp only [Int.toNat_natCast]
    have := nat_mul_small (r := spanN p C (rowsC xs C R C)) (c := C) (by omega) (by omega)
    omega
  | false => obtain ⟨_, _, _, rfl⟩ := h.2 hm; simp
theorem FreshMx.zeroB {w w1 w5 : World} {g : Nat} (hw : Below w.heap.size w w1) (hg : w.heap.size ≤ g) (hg5 : w1.grownBy w5 (some g)) : FreshMx w w5 (.returned (.agg #[.int .i64 0, .int .i64 0, .int .i64 0, .slice none 0 0])) 0 0 0 [] :=
  ⟨none, 0, 0, rfl, Own.nil _ _ _, hw.grown hg5 hw.size (by rintro q ⟨⟩; exact hg)⟩
set_option maxRecDepth 100000 in
set_option maxHeartbeats 4000000 in
theorem implSpanOf_z (p r c : Int) (A : Option Addr) (n k : Nat) (xs : List Int) (w : World) (hs : SI w A n xs) (hn : n ≤ 1099511627776) (hnk : n ≤ k) (zp zr zc : Int) (z : List Int) (hz : SpnIs p r c xs zp zr zc z) :
    Calls Try.prog 43 #[.agg #[.int .i64 p, .int .i64 r, .int .i64 c, .slice A n k]] w fun e w' => FreshMx w w' e zp zr zc z := by
  obtain ⟨w1, hw1⟩ : ∃ w1, w1 = (w.alloc (.cells #[.int .i64 p, .int .i64 r, .int .i64 c, .slice A n k] 27)).alloc (.cells #[.int .i64 0, .int .i64 0, .int .i64 0, .slice none 0 0] 27) := ⟨_, rfl⟩
  obtain ⟨g, hg⟩ : ∃ g, g = w.heap.size := ⟨_, rfl⟩
  have hk : Blk w1 g 27 #[.int .i64 p, .int .i64 r, .int .i64 c, .slice A n k] := by rw [hw1, hg]; exact (Blk.new _ _ _).alloc _
  have hk2 : Blk w1 (g + 1) 27 #[.int .i64 0, .int .i64 0, .int .i64 0, .slice none 0 0] := by
    rw [hw1, hg]
    have := Blk.new (w.alloc (.cells #[.int .i64 p, .int .i64 r, .int .i64 c, .slice A n k] 27)) 27 #[.int .i64 0, .int .i64 0, .int .i64 0, .slice none 0 0]
    simpa using this
  have hb : Below w.heap.size w w1 := by rw [hw1]; go_grown
  have HB := Lib.hid hb
  have HW := Lib.hid hw1
  have HG := Lib.hid hg
  have HK := Lib.hid hk
  have HK2 := Lib.hid hk2
  have HSZ : Hid (w1.heap.size = g + 1 + 1) := Lib.hid (by rw [hw1, hg]; simp)
  have HL := Lib.hid hs.1
  have HS := Lib.hid (hs.below hb (Nat.le_refl _))
  have HMO := Lib.hid (implMatrixOk_any p r c A n k xs w1 (hs.below hb (Nat.le_refl _)) hn)
  clear hw1 hg hk hk2 hb hs
  cases hm : matB p r c xs with
  | false =>
    rw [hm] at HMO
    obtain ⟨rfl, rfl, rfl, rfl⟩ := hz.2 hm
    clear hm hz
    go_enter Try.func43, Try.ntmps43
    go_upto_region 1 with fail
    rw [← HW.out, ← HG.out]
    go_wp2_with (first
      | (refine wpList_load_rowP rfl 27 (.tmp 1) rfl g rfl 27 #[.int .i64 p, .int .i64 r, .int .i64 c, .slice A n k] _ HK.out Try.underlying27 rfl Try.infoMx ?_)
      | (go_at_call 18
         with_reducible refine HMO.out.mono ?_
         rintro e w2 ⟨rfl, hb2⟩
         have HB2 := Lib.hid hb2
         have HR2 := Lib.hid (HK2.out.below hb2 HK2.out.lt)
         clear hb2)
      | (refine wpList_store_rowP rfl 27 (.tmp 2) (.tmp 6) rfl (g + 1) #[.int .i64 0, .int .i64 0, .int .i64 0, .slice none 0 0] rfl rfl 27 #[.int .i64 0, .int .i64 0, .int .i64 0, .slice none 0 0] HR2.out Try.infoMx rfl (by simp [Value.oneCell']) ?_; intro w5 hb5 hg5)
      | fail)
    refine bodyPost_ret (results_rowP Try.results43 _ _ _ 27 #[.int .i64 0, .int .i64 0, .int .i64 0, .slice none 0 0] _ rfl hb5 Try.underlying27 rfl Try.infoMx) rfl ?_
    exact FreshMx.zeroB (HB.out.trans (HB2.out.mono HB.out.size)) (by have := HG.out; omega) hg5
  | true =>
    rw [hm] at HMO
    have HM := Lib.hid (matB_P hm)
    obtain ⟨rfl, rfl, rfl, rfl⟩ := hz.1 hm
    clear hm hz
    obtain ⟨R, C, rfl, rfl, hR7, hC1, hC7, hxl⟩ := HM.out.nats
    simp only [Int.toNat_natCast]
    have HXL := Lib.hid hxl
    have HRO := Lib.hid (rowsC_ok (by have := HM.out.1.two; omega) HM.out.rg C R C)
    have HSP := Lib.hid (fun g' w' (h : LS w' (some ⟨g', 0, none⟩) R (rowsC xs C R C)) => spanOf_any zp C R R (some ⟨g', 0, none⟩) (rowsC xs C R C) w' HM.out.1 h (by omega) HRO.out ⟨hC1, by omega⟩)
    clear hxl
    go_enter Try.func43, Try.ntmps43
    go_upto_region 1 with fail
    rw [← HW.out, ← HG.out]
    go_upto_region 3 with (first
      | (refine wpList_load_rowP rfl 27 (.tmp 1) rfl g rfl 27 #[.int .i64 zp, .int .i64 R, .int .i64 C, .slice A n k] _ HK.out Try.underlying27 rfl Try.infoMx ?_)
      | (go_at_call 18
         with_reducible refine HMO.out.mono ?_
         rintro e w2 ⟨rfl, hb2⟩
         have HB2 := Lib.hid hb2
         have HK3 := Lib.hid (HK.out.below hb2 HK.out.lt)
         have HR3 := Lib.hid (HK2.out.below hb2 HK2.out.lt)
         clear hb2)
      | fail)
    have hqd : w2.drew.cell? ⟨g, 0, none⟩ = some (.int .i64 zp) ∧ w2.drew.cell? ⟨g, 1, none⟩ = some (.int .i64 R) ∧ w2.drew.cell? ⟨g, 2, none⟩ = some (.int .i64 C) ∧ w2.drew.cell? ⟨g, 3, none⟩ = some (.slice A n k) := cells4 HK3.out
    have HQD := Lib.hid hqd
    have HQ := Lib.hid (cells4 HK3.out)
    have HAR := Lib.hid (fun w' (hb' : Below w2.heap.size w2 w') => allRows_any zp R C A n k xs w' ((HS.out.below HB2.out (Nat.le_refl _)).below hb' (Nat.le_refl _)) ⟨hC1, by omega⟩ (by omega) HXL.out hnk)
    clear hqd
    go_region_held3 (fun w' => w'.cell? ⟨g, 0, none⟩ = some (.int .i64 zp) ∧ w'.cell? ⟨g, 1, none⟩ = some (.int .i64 R) ∧ w'.cell? ⟨g, 2, none⟩ = some (.int .i64 C) ∧ w'.cell? ⟨g, 3, none⟩ = some (.slice A n k))
      (first | exact HQD.out | exact HQ.out | exact K4 | exact K5 | exact KZ)
      (first
        | (go_at_call 74
           with_reducible refine (HSP.out g4 w4 HLS4.out).mono ?_
           rintro e w5 ⟨B1, m1, d1, rfl, ho5, hb5⟩
           have HB5 : Hid (Below w2.heap.size w2 w5) := Lib.hid (HB4.out.trans (hb5.mono HB4.out.size))
           have HS5 : Hid (w4.heap.size ≤ w5.heap.size) := Lib.hid hb5.size
           have HK5 := Lib.hid (HK3.out.below HB5.out HK3.out.lt)
           have K5 := cells4 HK5.out
           have HR5 := Lib.hid (HR3.out.below HB5.out HR3.out.lt)
           obtain ⟨rr0, rr1, rr2, rr3⟩ := cells4 HR5.out
           obtain ⟨ff0, ff1, ff2, ff3⟩ := frozenM HR5.out
           have KZ := cells4 ((((HK5.out.far (p := ⟨g + 1, 0, none⟩) (by show g ≠ g + 1; omega) (.int .i64 zp)).far (p := ⟨g + 1, 1, none⟩) (by show g ≠ g + 1; omega) (.int .i64 (spanN zp C (rowsC xs C R C)))).far (p := ⟨g + 1, 2, none⟩) (by show g ≠ g + 1; omega) (.int .i64 C)).far (p := ⟨g + 1, 3, none⟩) (by show g ≠ g + 1; omega) (.slice B1 m1 d1))
           have HO5 := Lib.hid ho5
           have HRP : Hid (Blk ((((w5.setCell ⟨g + 1, 0, none⟩ (.int .i64 zp)).setCell ⟨g + 1, 1, none⟩ (.int .i64 (spanN zp C (rowsC xs C R C)))).setCell ⟨g + 1, 2, none⟩ (.int .i64 C)).setCell ⟨g + 1, 3, none⟩ (.slice B1 m1 d1)) (g + 1) 27 #[.int .i64 zp, .int .i64 (spanN zp C (rowsC xs C R C)), .int .i64 C, .slice B1 m1 d1]) := Lib.hid ((((HR5.out.set_ 0 _).set_ 1 _).set_ 2 _).set_ 3 _)
           have HGP := Lib.hid (grown_putM w5 (g + 1) (.int .i64 zp) (.int .i64 (spanN zp C (rowsC xs C R C))) (.int .i64 C) (.slice B1 m1 d1))
           clear ho5 hb5)
        | (go_at_call 75
           with_reducible refine (HAR.out _ ((Below.refl _ _).drew)).mono ?_
           rintro e w4 ⟨g4, rfl, hls4, hb4⟩
           have HB4 : Hid (Below w2.heap.size w2 w4) := Lib.hid (((Below.refl _ _).drew).trans hb4)
           have HK4 := Lib.hid (HK3.out.below HB4.out HK3.out.lt)
           have K4 := cells4 HK4.out
           have HLS4 := Lib.hid hls4
           clear hls4 hb4))
    go_wp2
    refine bodyPost_ret (results_rowP Try.results43 _ _ _ 27 #[.int .i64 zp, .int .i64 (spanN zp C (rowsC xs C R C)), .int .i64 C, .slice B1 m1 d1] _ rfl HRP.out Try.underlying27 rfl Try.infoMx) rfl ?_
    have l1 := HSZ.out
    have l2 := HG.out
    have l3 := HGP.out.size
    have l4 := HB4.out.size
    have l5 := HB.out.size
    have l6 := HB2.out.size
    have l7 := HS5.out
    have l8 := HB5.out.size
    refine ⟨B1, m1, d1, rfl, ?_, ?_⟩
    · exact (HO5.out.grown HGP.out (fun q hq => by injection hq with hq; omega)).wide (by omega) l3
    · exact ((HB.out.trans (HB2.out.mono l5)).trans (HB5.out.mono (by omega))).grown HGP.out (by omega) (by rintro q ⟨⟩; omega)
end Go.Proofs.Ytololcgifhefnaa

/-
  Spans on the document's side: the functions. Conditions: lengths below 2^40.
-/


namespace Go.Proofs.Ytololcgifhefnaa
open Go.RowKit

theorem span_take {d : List Int} {R C np : Nat} {M : Nat → Nat → Int} {L : List (List Int)} (hd : DM d R C M) (hnp : np ≤ R) (hC : 0 < C) (h : ∀ i c, i < np → c < C → nth (li L i) c = M i c) : d.take (np * C) = flatK np C L np := by
  have hle : np * C ≤ R * C := Nat.mul_le_mul hnp (Nat.le_refl _)
  refine nth_ext (by rw [List.length_take, flatK_len, hd.1]; omega) fun q hq => ?_
  have hq1 : q < np * C := by rw [List.length_take] at hq; omega
  rw [nth_take hq1, flatK_nth hq1]
  have hqC : q / C < np := by rw [Nat.div_lt_iff_lt_mul hC]; exact hq1
  rw [if_pos hqC, h _ _ hqC (Nat.mod_lt _ hC), ← hd.2 _ _ (by omega) (Nat.mod_lt _ hC)]
  congr 1
  rw [Nat.mul_comm]; exact (Nat.div_add_mod q C).symm
set_option maxRecDepth 100000 in
set_option maxHeartbeats 4000000 in
theorem l7Span_any (p : Int) (R C : Nat) (A : Option Addr) (n k : Nat) (xs : List Int) (w : World) (hp : P7 p) (hs : SI w A n xs) (hR : R ≤ 14) (hC : 0 < C ∧ C ≤ 14) (hx : Rg p xs) (hl : xs.length = R * C) :
    Calls Try.prog 73 #[.agg #[.int .i64 p, .int .i64 R, .int .i64 C, .slice A n k]] w fun e w' => FreshMx w w' e p (spanN p C (rowsC xs C R C)) C (spanX p C (rowsC xs C R C)) := by
  obtain ⟨w1, hw1⟩ : ∃ w1, w1 = (w.alloc (.cells #[.int .i64 p, .int .i64 R, .int .i64 C, .slice A n k] 27)).alloc (.cells #[.int .i64 0, .int .i64 0, .int .i64 0, .slice none 0 0] 27) := ⟨_, rfl⟩
  obtain ⟨g, hg⟩ : ∃ g, g = w.heap.size := ⟨_, rfl⟩
  have hk : Blk w1 g 27 #[.int .i64 p, .int .i64 R, .int .i64 C, .slice A n k] := by rw [hw1, hg]; exact (Blk.new _ _ _).alloc _
  have hk2 : Blk w1 (g + 1) 27 #[.int .i64 0, .int .i64 0, .int .i64 0, .slice none 0 0] := by
    rw [hw1, hg]
    have := Blk.new (w.alloc (.cells #[.int .i64 p, .int .i64 R, .int .i64 C, .slice A n k] 27)) 27 #[.int .i64 0, .int .i64 0, .int .i64 0, .slice none 0 0]
    simpa using this
  have hb : Below w.heap.size w w1 := by rw [hw1]; go_grown
  have hro := rowsC_ok (by have := hp.two; omega) hx C R C
  have HB := Lib.hid hb
  have HW := Lib.hid hw1
  have HG := Lib.hid hg
  have HK := Lib.hid hk
  have HK2 := Lib.hid hk2
  have HC := Lib.hid hC
  have HN := Lib.hid (spanN_le hp hro)
  have HSZ : Hid (w1.heap.size = g + 1 + 1) := Lib.hid (by rw [hw1, hg]; simp)
  have HRED := Lib.hid (l7Reduce_any p R C A n k xs (fun i c => nth xs (i * C + c)) w1 hp (hs.below hb (Nat.le_refl _)) hR hC.2 hx ⟨hl, fun i c _ _ => rfl⟩)
  have HRK := Lib.hid (fun (M : Nat → Nat → Int) (ps : List Int) (j : Nat) (h : RedI p C R (fun i c => nth xs (i * C + c)) M ps j) (hj : j ≤ C) (he : j = C ∨ ps.length = R) => red_rows hp hro (rowsC_len ..) (fun i c hi hc => by rw [rowsC_li hi, rowC_nth hc]) h hj he)
  have HNL : Hid (n = R * C) := Lib.hid (by have := hs.1; omega)
  clear hw1 hg hk hk2 hb hs hp hx hl hro hC
  go_enter Try.func73, Try.ntmps73
  go_upto_region 1 with fail
  rw [← HW.out, ← HG.out]
  go_upto_region 2 with (first
    | (refine wpList_load_rowP rfl 27 (.tmp 1) rfl g rfl 27 #[.int .i64 p, .int .i64 R, .int .i64 C, .slice A n k] _ HK.out Try.underlying27 rfl Try.infoMx ?_)
    | (go_at_call 85
       with_reducible refine HRED.out.mono ?_
       rintro e w2 ⟨A2, k2, Ap, np, cp, rfl, hres⟩
       have HRES := Lib.hid hres
       clear hres)
    | (refine wpList_store_rowP rfl 27 (.tmp 3) (.tmp 8) rfl w2.heap.size #[.int .i64 p, .int .i64 R, .int .i64 C, .slice A2 n k2] rfl rfl 27 #[.int .i64 0, .int .i64 0, .int .i64 0, .slice none 0 0] (Blk.new _ _ _) Try.infoMx rfl (by simp [Value.oneCell']) ?_; intro w5 hb5 hg5; have HK5 := Lib.hid hb5; have HG5 := Lib.hid hg5; clear hb5 hg5)
    | fail)
  obtain ⟨s2, hs2⟩ : ∃ s2, s2 = w2.heap.size := ⟨_, rfl⟩
  rw [← hs2] at HK5 HG5 ⊢
  have HS2 := Lib.hid hs2
  clear hs2
  obtain ⟨d, M, ps, j, hod, hop, hdm, hri, hj, he, hbel⟩ := HRES.out
  have hrr := HRK.out M ps j hri hj he
  have hnp : np = spanN p C (rowsC xs C R C) := by have := hop.len; have := hrr.1; unfold spanN; omega
  have hnR : np ≤ R := by have := hop.len; have := hri.le; omega
  have hB25 : Below s2 w2 w5 := ((Below.refl s2 w2).alloc (Nat.le_of_eq HS2.out) _).grown HG5.out (by have := HS2.out; simp; omega) (by rintro q ⟨⟩; exact Nat.le_refl _)
  have HB15 : Hid (Below w1.heap.size w1 w5) := Lib.hid (hbel.trans (hB25.mono (by have := HS2.out; have := hbel.size; omega)))
  have HO5 : Hid (Own w5 w1.heap.size s2 A2 n k2 d) := Lib.hid ((hod.wide (Nat.le_refl _) (Nat.le_of_eq HS2.out.symm)).below hB25 (Nat.le_refl _))
  have HR5 := Lib.hid (HK2.out.below HB15.out HK2.out.lt)
  have hnC : np * C ≤ n := by rw [HNL.out]; exact Nat.mul_le_mul hnR (Nat.le_refl _)
  have HTAKE : Hid (d.take (np * C) = spanX p C (rowsC xs C R C)) := Lib.hid (by
    have hsp := span_take (L := spanL p C (rowsC xs C R C)) hdm hnR HC.out.1 (fun i c hi hc => hrr.2.2 i c (by have := hop.len; omega) hc)
    rw [hsp]
    unfold spanX
    rw [← hnp])
  have HTOP := Lib.hid (l7Top_own p (R : Int) C np w1.heap.size s2 n k2 A2 d w5 HO5.out HC.out.2 (by omega) hnC)
  rw [HTAKE.out] at HTOP
  have HNP := Lib.hid hnp
  have HSS : Hid (w1.heap.size ≤ w5.heap.size) := Lib.hid HB15.out.size
  clear hod hop hdm hri hj he hbel hrr hnp hnR hB25 hnC HTAKE
  go_wp2_with (first
    | (refine wpList_load_rowP rfl 27 (.tmp 3) rfl s2 rfl 27 #[.int .i64 p, .int .i64 R, .int .i64 C, .slice A2 n k2] _ HK5.out Try.underlying27 rfl Try.infoMx ?_)
    | (go_at_call 97
       with_reducible refine HTOP.out.mono ?_
       rintro e w6 ⟨B6, n6, k6, rfl, ho6, hb6⟩
       have HO6 := Lib.hid ho6
       have HB6 : Hid (Below w1.heap.size w1 w6) := Lib.hid (HB15.out.trans (hb6.mono HSS.out))
       have HR6 := Lib.hid (HR5.out.below hb6 HR5.out.lt)
       have HS6 : Hid (w5.heap.size ≤ w6.heap.size) := Lib.hid hb6.size
       clear ho6 hb6)
    | (refine wpList_store_rowP rfl 27 (.tmp 2) (.tmp 13) rfl (g + 1) #[.int .i64 p, .int .i64 np, .int .i64 C, .slice B6 n6 k6] rfl rfl 27 #[.int .i64 0, .int .i64 0, .int .i64 0, .slice none 0 0] HR6.out Try.infoMx rfl (by simp [Value.oneCell']) ?_; intro w7 hb7 hg7)
    | fail)
  refine bodyPost_ret (results_rowP Try.results73 _ _ _ 27 #[.int .i64 p, .int .i64 np, .int .i64 C, .slice B6 n6 k6] _ rfl hb7 Try.underlying27 rfl Try.infoMx) rfl ?_
  have l1 := HSZ.out
  have l2 := HG.out
  have l3 := hg7.size
  have l4 := HS6.out
  have l5 := HB.out.size
  have l6 := HSS.out
  rw [← HNP.out]
  refine ⟨B6, n6, k6, rfl, ?_, ?_⟩
  · exact (HO6.out.grown hg7 (fun q hq => by injection hq with hq; omega)).wide (by omega) (by omega)
  · exact (HB.out.trans (HB6.out.mono l5)).grown hg7 (by omega) (by rintro q ⟨⟩; omega)
end Go.Proofs.Ytololcgifhefnaa

/-
  SpanOf on the document's side. Conditions: lengths below 2^40.
-/


namespace Go.Proofs.Ytololcgifhefnaa
open Go.RowKit

set_option maxRecDepth 100000 in
set_option maxHeartbeats 4000000 in
theorem specSpanOf_z (p r c : Int) (A : Option Addr) (n k : Nat) (xs : List Int) (w : World) (hs : SI w A n xs) (hn : n ≤ 1099511627776) (zp zr zc : Int) (z : List Int) (hz : SpnIs p r c xs zp zr zc z) :
    Calls Try.prog 42 #[.agg #[.int .i64 p, .int .i64 r, .int .i64 c, .slice A n k]] w fun e w' => FreshMx w w' e zp zr zc z := by
  obtain ⟨w1, hw1⟩ : ∃ w1, w1 = (w.alloc (.cells #[.int .i64 p, .int .i64 r, .int .i64 c, .slice A n k] 27)).alloc (.cells #[.int .i64 0, .int .i64 0, .int .i64 0, .slice none 0 0] 27) := ⟨_, rfl⟩
  obtain ⟨g, hg⟩ : ∃ g, g = w.heap.size := ⟨_, rfl⟩
  have hk : Blk w1 g 27 #[.int .i64 p, .int .i64 r, .int .i64 c, .slice A n k] := by rw [hw1, hg]; exact (Blk.new _ _ _).alloc _
  have hk2 : Blk w1 (g + 1) 27 #[.int .i64 0, .int .i64 0, .int .i64 0, .slice none 0 0] := by
    rw [hw1, hg]
    have := Blk.new (w.alloc (.cells #[.int .i64 p, .int .i64 r, .int .i64 c, .slice A n k] 27)) 27 #[.int .i64 0, .int .i64 0, .int .i64 0, .slice none 0 0]
    simpa using this
  have hb : Below w.heap.size w w1 := by rw [hw1]; go_grown
  have HB := Lib.hid hb
  have HW := Lib.hid hw1
  have HG := Lib.hid hg
  have HK := Lib.hid hk
  have HK2 := Lib.hid hk2
  have HSZ : Hid (w1.heap.size = g + 1 + 1) := Lib.hid (by rw [hw1, hg]; simp)
  have HS := Lib.hid (hs.below hb (Nat.le_refl _))
  have HMO := Lib.hid (specMatrixOk_any p r c A n k xs w1 (hs.below hb (Nat.le_refl _)) hn)
  clear hw1 hg hk hk2 hb hs
  cases hm : matB p r c xs with
  | false =>
    rw [hm] at HMO
    obtain ⟨rfl, rfl, rfl, rfl⟩ := hz.2 hm
    clear hm hz
    go_enter Try.func42, Try.ntmps42
    go_upto_region 1 with fail
    rw [← HW.out, ← HG.out]
    go_wp2_with (first
      | (refine wpList_load_rowP rfl 27 (.tmp 1) rfl g rfl 27 #[.int .i64 p, .int .i64 r, .int .i64 c, .slice A n k] _ HK.out Try.underlying27 rfl Try.infoMx ?_)
      | (go_at_call 16
         with_reducible refine HMO.out.mono ?_
         rintro e w2 ⟨rfl, hb2⟩
         have HB2 := Lib.hid hb2
         have HR2 := Lib.hid (HK2.out.below hb2 HK2.out.lt)
         clear hb2)
      | (refine wpList_store_rowP rfl 27 (.tmp 2) (.tmp 6) rfl (g + 1) #[.int .i64 0, .int .i64 0, .int .i64 0, .slice none 0 0] rfl rfl 27 #[.int .i64 0, .int .i64 0, .int .i64 0, .slice none 0 0] HR2.out Try.infoMx rfl (by simp [Value.oneCell']) ?_; intro w5 hb5 hg5)
      | fail)
    refine bodyPost_ret (results_rowP Try.results42 _ _ _ 27 #[.int .i64 0, .int .i64 0, .int .i64 0, .slice none 0 0] _ rfl hb5 Try.underlying27 rfl Try.infoMx) rfl ?_
    exact FreshMx.zeroB (HB.out.trans (HB2.out.mono HB.out.size)) (by have := HG.out; omega) hg5
  | true =>
    rw [hm] at HMO
    have HM := Lib.hid (matB_P hm)
    obtain ⟨rfl, rfl, rfl, rfl⟩ := hz.1 hm
    clear hm hz
    obtain ⟨R, C, rfl, rfl, hR7, hC1, hC7, hxl⟩ := HM.out.nats
    simp only [Int.toNat_natCast]
    have HSP := Lib.hid (fun w' (hb' : Below w1.heap.size w1 w') => l7Span_any zp R C A n k xs w' HM.out.1 (HS.out.below hb' (Nat.le_refl _)) (by omega) ⟨hC1, by omega⟩ HM.out.rg hxl)
    clear hxl
    go_enter Try.func42, Try.ntmps42
    go_upto_region 1 with fail
    rw [← HW.out, ← HG.out]
    go_upto_region 3 with (first
      | (refine wpList_load_rowP rfl 27 (.tmp 1) rfl g rfl 27 #[.int .i64 zp, .int .i64 R, .int .i64 C, .slice A n k] _ HK.out Try.underlying27 rfl Try.infoMx ?_)
      | (go_at_call 16
         with_reducible refine HMO.out.mono ?_
         rintro e w2 ⟨rfl, hb2⟩
         have HB2 := Lib.hid hb2
         have HK3 := Lib.hid (HK.out.below hb2 HK.out.lt)
         have HR3 := Lib.hid (HK2.out.below hb2 HK2.out.lt)
         clear hb2)
      | fail)
    go_wp2_with (first
      | (refine wpList_load_rowP rfl 27 (.tmp 1) rfl g rfl 27 #[.int .i64 zp, .int .i64 R, .int .i64 C, .slice A n k] _ HK3.out Try.underlying27 rfl Try.infoMx ?_)
      | (go_at_call 73
         with_reducible refine (HSP.out _ HB2.out).mono ?_
         rintro e w4 ⟨B1, m1, d1, rfl, ho4, hb4⟩
         have HO4 := Lib.hid ho4
         have HB4 : Hid (Below w1.heap.size w1 w4) := Lib.hid (HB2.out.trans (hb4.mono HB2.out.size))
         have HR4 := Lib.hid (HR3.out.below hb4 HR3.out.lt)
         have HS4 : Hid (w2.heap.size ≤ w4.heap.size) := Lib.hid hb4.size
         clear ho4 hb4)
      | (refine wpList_store_rowP rfl 27 (.tmp 2) (.tmp 8) rfl (g + 1) #[.int .i64 zp, .int .i64 (spanN zp C (rowsC xs C R C)), .int .i64 C, .slice B1 m1 d1] rfl rfl 27 #[.int .i64 0, .int .i64 0, .int .i64 0, .slice none 0 0] HR4.out Try.infoMx rfl (by simp [Value.oneCell']) ?_; intro w7 hb7 hg7)
      | fail)
    refine bodyPost_ret (results_rowP Try.results42 _ _ _ 27 #[.int .i64 zp, .int .i64 (spanN zp C (rowsC xs C R C)), .int .i64 C, .slice B1 m1 d1] _ rfl hb7 Try.underlying27 rfl Try.infoMx) rfl ?_
    have l1 := HSZ.out
    have l2 := HG.out
    have l3 := hg7.size
    have l4 := HS4.out
    have l5 := HB.out.size
    have l6 := HB2.out.size
    refine ⟨B1, m1, d1, rfl, ?_, ?_⟩
    · exact (HO4.out.grown hg7 (fun q hq => by injection hq with hq; omega)).wide (by omega) (by omega)
    · exact (HB.out.trans (HB4.out.mono l5)).grown hg7 (by omega) (by rintro q ⟨⟩; omega)
end Go.Proofs.Ytololcgifhefnaa

/-
  The helpers of the exact laws at terms: copying, measuring, comparing. Conditions: lengths below 2^40.
-/

namespace Go.Proofs.Ytololcgifhefnaa
open Go.RowKit

theorem grown_set (w : World) (a : Addr) (u : Value) : w.grownBy (w.setCell a u) (some a.block) :=
  ⟨rfl, rfl, rfl, by simp [World.setCell], fun k _ hk => Below.heap_setCell w a u k (fun e => hk (by rw [e]))⟩
theorem results_row {P : Program} {fn : Func} {p : Tmp} {ty : TypeId} (h : fn.results = #[.cell p ty]) (tmps : Array Value) (w : World) (g : Nat) (t : TypeId) (cs : Array Value) (d : TypeDesc)
    (hp : tmps.getD p undef = .pointer (some ⟨g, 0, none⟩)) (hg : Blk w g t cs) (hu : P.underlying ty = some d) (hd : (match d with | .struct _ | .array _ _ => true | _ => false) = true) (hi : (P.info? ty).map (·.size) = some cs.size) :
    (results fn tmps).run P w = .ok (.agg cs) w :=
  results_cell_row h tmps w g t cs (0, 0) d hp hg hu hd hi

/-- The terms copied after k rounds. -/
def copT (ts : List Tm) (k : Nat) : List Tm := ts.take k ++ zeroT (ts.length - k)
theorem copT_zero (ts : List Tm) : copT ts 0 = zeroT ts.length := by simp [copT]
theorem copT_all (ts : List Tm) : copT ts ts.length = ts := by simp [copT, zeroT]
theorem copT_succ {ts : List Tm} {k : Nat} (h : k < ts.length) : (copT ts k).set k ((tm ts k).1, (tm ts k).2) = copT ts (k + 1) := by
  unfold copT zeroT
  have hl : (ts.take k).length = k := by simp; omega
  rw [List.set_append_right _ _ (by omega), hl]
  have e : ts.length - k = (ts.length - (k + 1)) + 1 := by omega
  rw [e, List.replicate_succ, Nat.sub_self, List.set_cons_zero, take_tm h, List.append_assoc]
  rfl

end Go.Proofs.Ytololcgifhefnaa

/-
  The helpers of the exact laws at terms: measuring and comparing. Conditions: lengths below 2^40.
-/




namespace Go.Proofs.Ytololcgifhefnaa
open Go.RowKit

section
variable {P : Program} {ops : Array Oper} {C : World → Prop} {Q : Act → Prop} {a : Act} {o : Oper} {rest : List Oper}
theorem tq_class {id : Nat} {Q : Exit → Act → World → Prop} {w : World} {l : List Oper} (C : World → Prop) (hm : P.follows .mixedOrders = true) (hB : Region.lexB .any l.toArray = true) (hC : C w.drew)
    (h : wpQuiet P l.toArray C (fun a' => ∀ w', C w' → Q .normal a' w') l a) : (Code.region id l.toArray true).wp P Q a w :=
  wp_region_quiet hm hB hC (by simpa using h)
theorem tq_move (hg : o.guard = none) (x : Operand) (ho : o.op = .move x) (h : wpQuiet P ops C Q rest (a.put o.dst (a.eval x))) : wpQuiet P ops C Q (o :: rest) a := by
  refine wpQuiet_step fun K hK => ?_
  simp only [Region.wanted, hg, if_true]
  refine ⟨a.eval x, fun w _ => ?_, hK _ h⟩
  unfold Oper.quietAt execOp
  simp only [ho]
  exact ⟨rfl, rfl⟩
theorem tq_load (hg : o.guard = none) (ty : TypeId) (x : Operand) (ho : o.op = .load ty x) (b off : Nat) (hx : a.eval x = .pointer (some ⟨b, off, none⟩)) (cs : List Value) (d : TypeDesc)
    (hb : ∀ w, C w → w.rangeAt b off cs) (hu : P.underlying ty = some d) (hd : d.isRow = true) (hi : (P.info? ty).map (·.size) = some cs.length) (h : wpQuiet P ops C Q rest (a.put o.dst (.agg cs.toArray))) : wpQuiet P ops C Q (o :: rest) a := by
  refine wpQuiet_step fun K hK => ?_
  simp only [Region.wanted, hg, if_true]
  refine ⟨.agg cs.toArray, fun w hw => ?_, hK _ h⟩
  unfold Oper.quietAt execOp
  simp only [ho, hx, Instr.loadAt, Instr.sureAddr, Sem.run_bind, Sem.run_pure, Result.andThen_ok, run_loadVar_mid w b off ty cs d (hb w hw) hu hd hi]
  exact ⟨rfl, rfl⟩
end
/-- Worlds in which nothing has turned that was there. -/
def AfterT (wr w' : World) : Prop := Below wr.heap.size wr w'

/-- Equality of two lists of terms as a Bool. -/
def eqTs (ts us : List Tm) : Bool := decide (ts = us)
theorem eqTs_self (ts : List Tm) : eqTs ts ts = true := by simp [eqTs]
theorem eqTs_len {ts us : List Tm} (h : ts.length ≠ us.length) : eqTs ts us = false := by
  simp only [eqTs, decide_eq_false_iff_not]; intro e; exact h (by rw [e])
theorem eqTs_all {ts us : List Tm} (hl : ts.length = us.length) (h : ∀ j, j < ts.length → tm ts j = tm us j) : eqTs ts us = true := by
  simp only [eqTs, decide_eq_true_eq]
  exact tm_ext hl h
theorem eqTs_ne {ts us : List Tm} {k : Nat} (h : tm ts k ≠ tm us k) : eqTs ts us = false := by
  simp only [eqTs, decide_eq_false_iff_not]; intro e; exact h (by rw [e])
theorem TS.range {w : World} {b o k : Nat} {v : Value} {x : Int} (h0 : w.cell? ⟨b, o + k * 2, none⟩ = some v) (h1 : w.cell? ⟨b, o + k * 2 + 1, none⟩ = some (.int .i64 x)) : w.rangeAt b (o + k * 2) [v, .int .i64 x] := by
  intro j u hj
  match j, hj with
  | 0, hj => simp at hj; subst hj; exact h0
  | 1, hj => simp at hj; subst hj; exact h1

end Go.Proofs.Ytololcgifhefnaa

/-
  The coefficient at given exponents, on both sides. Conditions: lengths below 2^40.
-/

namespace Go.Proofs.Ytololcgifhefnaa
open Go.RowKit

set_option maxHeartbeats 400000 in
/-- l1Same: are the two lists one. -/
theorem l1Same_any (A A' : Option Addr) (n c n' c' : Nat) (xs ys : List Int) (w : World) (hs : SI w A n xs) (hs' : SI w A' n' ys) (hn : n ≤ 1099511627776) (hn' : n' ≤ 1099511627776) :
    Calls Try.prog 99 #[.slice A n c, .slice A' n' c'] w fun e w' => e = .returned (.bool (eqL xs ys)) ∧ Drawn w w' := by
  have hl := hs.1
  have hl' := hs'.1
  by_cases hne : n = n'
  · subst hne
    go_enter Try.func99, Try.ntmps99
    go_wp2
    go_loopw [5] (fun i wr => ∃ k : Nat, k ≤ n ∧ i = .int .i64 k ∧ Drawn w wr ∧ ∀ j, j < k → nth xs j = nth ys j)
      (fun i _ => n - (intOf i).toNat)
    case atStart => exact ⟨0, Nat.zero_le _, rfl, Drawn.refl _, fun j hj => absurd hj (by omega)⟩
    case round =>
      obtain ⟨k, hk, rfl, hD, hall⟩ := hrel
      have HA := Lib.hid hall
      have hs := hD.si hs
      have hs' := hD.si hs'
      have HD := Lib.hid hD
      clear hall hD
      by_cases hlt : k < n
      · obtain ⟨b, o, rfl, hb, hc⟩ := hs.at_ (by omega)
        obtain ⟨b', o', rfl, hb', hc'⟩ := hs'.at_ (by omega)
        have hc1 := hc k hlt
        have hc1' := hc' k hlt
        clear hc hc' hs hs' hl hl'
        by_cases heq : nth xs k = nth ys k
        · have HE := Lib.hid heq
          rw [← heq] at hc1'
          clear heq
          obtain ⟨x, hx⟩ : ∃ x, x = nth xs k := ⟨_, rfl⟩
          rw [← hx] at hc1 hc1'
          clear hx
          have hlI : (k : Int) < (n : Int) := by omega
          go_wp2_with fail
          go_quiet (fail)
          go_wp2
          go_roundw
          case rel => exact ⟨k + 1, by omega, by go_num, HD.out.drewN _, fun j hj => by
            rcases Nat.lt_or_ge j k with h | h
            · exact HA.out j h
            · obtain rfl : j = k := by omega
              exact HE.out⟩
          case measure => simp [intOf]; omega
        · have HE := Lib.hid heq
          obtain ⟨x, hx⟩ : ∃ x, x = nth xs k := ⟨_, rfl⟩
          obtain ⟨y, hy⟩ : ∃ y, y = nth ys k := ⟨_, rfl⟩
          rw [← hx] at hc1 heq
          rw [← hy] at hc1' heq
          clear hx hy
          have hlI : (k : Int) < (n : Int) := by omega
          have hb : (x != y) = true := by simpa using heq
          clear heq
          go_wp2_with fail
          go_quiet (fail)
          go_wp2
          go_ret
          exact ⟨ret_bool (eqL_ne HE.out).symm, HD.out.drewN _⟩
      · have hkn : k = n := by omega
        subst hkn
        go_wp2
        go_ret
        exact ⟨ret_bool (eqL_all (by omega) (by rw [hl]; exact HA.out)).symm, HD.out⟩
  · have hne' : ¬ (n : Int) = (n' : Int) := by omega
    go_enter Try.func99, Try.ntmps99
    go_wp2
    go_ret
    exact ⟨ret_bool (eqL_len (by omega)).symm, Drawn.refl _⟩

set_option maxHeartbeats 400000 in
/-- slices.Equal: are the two lists one. -/
theorem slicesEqual_any (A A' : Option Addr) (n c n' c' : Nat) (xs ys : List Int) (w : World) (hs : SI w A n xs) (hs' : SI w A' n' ys) (hn : n ≤ 1099511627776) (hn' : n' ≤ 1099511627776) :
    Calls Try.prog 77 #[.slice A n c, .slice A' n' c'] w fun e w' => e = .returned (.bool (eqL xs ys)) ∧ Drawn w w' := by
  have hl := hs.1
  have hl' := hs'.1
  by_cases hne : n = n'
  · subst hne
    go_enter Try.func77, Try.ntmps77
    go_wp2
    go_loopw [13] (fun i wr => ∃ k : Nat, k ≤ n ∧ i = .int .i64 k ∧ Drawn w wr ∧ ∀ j, j < k → nth xs j = nth ys j)
      (fun i _ => n - (intOf i).toNat)
    case atStart => exact ⟨0, Nat.zero_le _, rfl, Drawn.refl _, fun j hj => absurd hj (by omega)⟩
    case round =>
      obtain ⟨k, hk, rfl, hD, hall⟩ := hrel
      have HA := Lib.hid hall
      have hs := hD.si hs
      have hs' := hD.si hs'
      have HD := Lib.hid hD
      clear hall hD
      by_cases hlt : k < n
      · obtain ⟨b, o, rfl, hb, hc⟩ := hs.at_ (by omega)
        obtain ⟨b', o', rfl, hb', hc'⟩ := hs'.at_ (by omega)
        have hc1 := hc k hlt
        have hc1' := hc' k hlt
        clear hc hc' hs hs' hl hl'
        by_cases heq : nth xs k = nth ys k
        · have HE := Lib.hid heq
          rw [← heq] at hc1'
          clear heq
          obtain ⟨x, hx⟩ : ∃ x, x = nth xs k := ⟨_, rfl⟩
          rw [← hx] at hc1 hc1'
          clear hx
          have hlI : (k : Int) < (n : Int) := by omega
          go_wp2_with fail
          go_quiet (fail)
          go_wp2
          go_roundw
          case rel => exact ⟨k + 1, by omega, by go_num, HD.out.drewN _, fun j hj => by
            rcases Nat.lt_or_ge j k with h | h
            · exact HA.out j h
            · obtain rfl : j = k := by omega
              exact HE.out⟩
          case measure => simp [intOf]; omega
        · have HE := Lib.hid heq
          obtain ⟨x, hx⟩ : ∃ x, x = nth xs k := ⟨_, rfl⟩
          obtain ⟨y, hy⟩ : ∃ y, y = nth ys k := ⟨_, rfl⟩
          rw [← hx] at hc1 heq
          rw [← hy] at hc1' heq
          clear hx hy
          have hlI : (k : Int) < (n : Int) := by omega
          have hb : (x != y) = true := by simpa using heq
          clear heq
          go_wp2_with fail
          go_quiet (fail)
          go_wp2
          go_ret
          exact ⟨ret_bool (eqL_ne HE.out).symm, HD.out.drewN _⟩
      · have hkn : k = n := by omega
        subst hkn
        go_wp2
        go_ret
        exact ⟨ret_bool (eqL_all (by omega) (by rw [hl]; exact HA.out)).symm, HD.out⟩
  · have hne' : ¬ (n : Int) = (n' : Int) := by omega
    go_enter Try.func77, Try.ntmps77
    go_wp2
    go_ret
    exact ⟨ret_bool (eqL_len (by omega)).symm, Drawn.refl _⟩


/-- The number of the first term with the exponents e. -/
def coefOf : List Tm → List Int → Int
  | [], _ => 0
  | t :: r, e => if t.1 = e then t.2 else coefOf r e
theorem tm_zero (t : Tm) (r : List Tm) : tm (t :: r) 0 = t := rfl
theorem tm_succ (t : Tm) (r : List Tm) (k : Nat) : tm (t :: r) (k + 1) = tm r k := by simp [tm, List.getD]
theorem coef_none {e : List Int} : ∀ {ts : List Tm}, (∀ j, j < ts.length → ¬ (tm ts j).1 = e) → coefOf ts e = 0
  | [], _ => rfl
  | t :: r, h => by
    have h0 := h 0 (by simp)
    rw [tm_zero] at h0
    unfold coefOf
    rw [if_neg h0]
    exact coef_none fun j hj => by have := h (j + 1) (by simp; omega); rwa [tm_succ] at this
theorem coef_hit {e : List Int} : ∀ {ts : List Tm} {k : Nat}, k < ts.length → (∀ j, j < k → ¬ (tm ts j).1 = e) → (tm ts k).1 = e → coefOf ts e = (tm ts k).2
  | [], k, hk, _, _ => absurd hk (by simp)
  | t :: r, 0, _, _, he => by
    rw [tm_zero] at he ⊢
    unfold coefOf
    rw [if_pos he]
  | t :: r, k + 1, hk, h, he => by
    have h0 := h 0 (by omega)
    rw [tm_zero] at h0
    rw [tm_succ] at he ⊢
    unfold coefOf
    rw [if_neg h0]
    exact coef_hit (by simpa using hk) (fun j hj => by have := h (j + 1) (by omega); rwa [tm_succ] at this) he

end Go.Proofs.Ytololcgifhefnaa

/-
  IsSpace on the program's side. Conditions: lengths below 2^40.
-/


namespace Go.Proofs.Ytololcgifhefnaa
open Go.RowKit

/-- Is the matrix its own reduced form. -/
def isSpB (p r c : Int) (xs : List Int) : Bool := decide (matB p r c xs = true ∧ spanX p c.toNat (rowsC xs c.toNat r.toNat c.toNat) = xs)
theorem isSpB_no {p r c : Int} {xs : List Int} (h : matB p r c xs = false) : isSpB p r c xs = false := by simp [isSpB, h]
theorem isSpB_yes {p r c : Int} {xs : List Int} (h : matB p r c xs = true) {zp zr zc : Int} {z : List Int} (hz : SpnIs p r c xs zp zr zc z) : eqL z xs = isSpB p r c xs := by
  obtain ⟨_, _, _, rfl⟩ := hz.1 h
  simp [isSpB, h, eqL]
theorem Try.fieldMx3 (a b c d : Value) (w : World) : (Instr.field 27 (.agg #[a, b, c, d]) 3).run Try.prog w = .ok d w := by kernel_rfl
set_option maxRecDepth 100000 in
set_option maxHeartbeats 4000000 in
theorem implIsSpace_any (p r c : Int) (A : Option Addr) (n k : Nat) (xs : List Int) (w : World) (hs : SI w A n xs) (hn : n ≤ 1099511627776) (hnk : n ≤ k) :
    Calls Try.prog 45 #[.agg #[.int .i64 p, .int .i64 r, .int .i64 c, .slice A n k]] w fun e w' => e = .returned (.bool (isSpB p r c xs)) ∧ Below w.heap.size w w' := by
  obtain ⟨w1, hw1⟩ : ∃ w1, w1 = w.alloc (.cells #[.int .i64 p, .int .i64 r, .int .i64 c, .slice A n k] 27) := ⟨_, rfl⟩
  obtain ⟨g, hg⟩ : ∃ g, g = w.heap.size := ⟨_, rfl⟩
  have hk : Blk w1 g 27 #[.int .i64 p, .int .i64 r, .int .i64 c, .slice A n k] := by rw [hw1, hg]; exact Blk.new _ _ _
  have hb : Below w.heap.size w w1 := by rw [hw1]; exact Below.alloc_self _ _
  have HB := Lib.hid hb
  have HW := Lib.hid hw1
  have HG := Lib.hid hg
  have HK := Lib.hid hk
  have HS := Lib.hid (hs.below hb (Nat.le_refl _))
  have HMO := Lib.hid (fun w' (hb' : Below w1.heap.size w1 w') => implMatrixOk_any p r c A n k xs w' (HS.out.below hb' (Nat.le_refl _)) hn)
  have hqd : w1.drew.cell? ⟨g, 0, none⟩ = some (.int .i64 p) ∧ w1.drew.cell? ⟨g, 1, none⟩ = some (.int .i64 r) ∧ w1.drew.cell? ⟨g, 2, none⟩ = some (.int .i64 c) ∧ w1.drew.cell? ⟨g, 3, none⟩ = some (.slice A n k) := cells4 hk
  have HQD := Lib.hid hqd
  have HQ := Lib.hid (cells4 hk)
  clear hw1 hg hk hb hs hqd
  cases hm : matB p r c xs with
  | false =>
    rw [hm] at HMO
    have HM := Lib.hid hm
    clear hm
    go_enter Try.func45, Try.ntmps45
    go_upto_region 1 with fail
    rw [← HW.out, ← HG.out]
    obtain ⟨q0, q1, q2, q3⟩ := HQ.out
    first
      | (go_region_with (first
      | (go_at_call 18
         with_reducible refine (HMO.out _ ((Below.refl _ _).drew)).mono ?_
         rintro e w2 ⟨rfl, hb2⟩
         have HB2 : Hid (Below w1.heap.size w1 w2) := Lib.hid (((Below.refl _ _).drew).trans hb2)
         clear hb2)))
      | fail
    all_goals
      (go_wp2
       go_ret
       exact ⟨ret_bool (isSpB_no HM.out).symm, HB.out.trans (HB2.out.mono HB.out.size)⟩)
  | true =>
    rw [hm] at HMO
    obtain ⟨zp, zr, zc, z, hz⟩ := spn_ex p r c xs
    have HF := Lib.hid (isSpB_yes hm hz)
    have HZL := Lib.hid hz.len
    have HSO := Lib.hid (fun w' (hb' : Below w1.heap.size w1 w') => implSpanOf_z p r c A n k xs w' (HS.out.below hb' (Nat.le_refl _)) hn hnk zp zr zc z hz)
    clear hm hz
    go_enter Try.func45, Try.ntmps45
    go_upto_region 1 with fail
    rw [← HW.out, ← HG.out]
    go_region_held3 (fun w' => w'.cell? ⟨g, 0, none⟩ = some (.int .i64 p) ∧ w'.cell? ⟨g, 1, none⟩ = some (.int .i64 r) ∧ w'.cell? ⟨g, 2, none⟩ = some (.int .i64 c) ∧ w'.cell? ⟨g, 3, none⟩ = some (.slice A n k))
      (first | exact HQD.out | exact HQ.out | exact K2 | exact K3 | exact K4)
      (first
        | (go_at_call 77
           with_reducible refine (HEQ.out _ HB3.out).mono ?_
           rintro e w4 ⟨rfl, hd4⟩
           have HB4 : Hid (Below w1.heap.size w1 w4) := Lib.hid (HB3.out.trans (hd4.below _))
           have K4 := cells4 (HK.out.below HB4.out HK.out.lt)
           clear hd4)
        | (go_at_call 43
           with_reducible refine (HSO.out _ HB2.out).mono ?_
           rintro e w3 ⟨B3, m3, d3, rfl, ho3, hb3⟩
           have HB3 : Hid (Below w1.heap.size w1 w3) := Lib.hid (HB2.out.trans (hb3.mono HB2.out.size))
           have K3 := cells4 (HK.out.below HB3.out HK.out.lt)
           have HO3 := Lib.hid ho3
           have hfld := fun w' => Try.fieldMx3 (.int .i64 zp) (.int .i64 zr) (.int .i64 zc) (.slice B3 m3 d3) w'
           have HEQ : Hid (∀ w', Below w1.heap.size w1 w' → Calls Try.prog 77 #[.slice B3 m3 d3, .slice A n k] w3 fun e w' => e = .returned (.bool (eqL z xs)) ∧ Drawn w3 w') := Lib.hid (fun _ _ => slicesEqual_any B3 A m3 d3 n k z xs w3 HO3.out.si (HS.out.below HB3.out (Nat.le_refl _)) (by have := HO3.out.len; have := HZL.out; omega) hn)
           clear ho3 hb3)
        | (go_at_call 18
           with_reducible refine (HMO.out _ ((Below.refl _ _).drew)).mono ?_
           rintro e w2 ⟨rfl, hb2⟩
           have HB2 : Hid (Below w1.heap.size w1 w2) := Lib.hid (((Below.refl _ _).drew).trans hb2)
           have K2 := cells4 (HK.out.below HB2.out HK.out.lt)
           clear hb2))
    go_wp2
    go_ret
    exact ⟨ret_bool HF.out, HB.out.trans (HB4.out.mono HB.out.size)⟩
end Go.Proofs.Ytololcgifhefnaa

/-
  IsSpace on the document's side. Conditions: lengths below 2^40.
-/


namespace Go.Proofs.Ytololcgifhefnaa
open Go.RowKit

theorem isSpB_rows {p : Int} {R C : Nat} {xs : List Int} (h : matB p R C xs = true) (hl : xs.length = R * C) (hC : 0 < C) : (decide (R = spanN p C (rowsC xs C R C)) && eqL xs (spanX p C (rowsC xs C R C))) = isSpB p R C xs := by
  unfold isSpB eqL
  simp only [Int.toNat_natCast, h, true_and]
  by_cases e : spanX p C (rowsC xs C R C) = xs
  · have h1 : (spanX p C (rowsC xs C R C)).length = R * C := by rw [e]; exact hl
    unfold spanX at h1
    rw [flatK_len] at h1
    have h2 : spanN p C (rowsC xs C R C) = R := Nat.eq_of_mul_eq_mul_right hC h1
    simp [e, h2]
  · have e' : ¬ xs = spanX p C (rowsC xs C R C) := fun h => e h.symm
    simp [e, e']
set_option maxRecDepth 100000 in
set_option maxHeartbeats 1000000 in
theorem l7Same_any (p : Int) (R R' C : Nat) (A A' : Option Addr) (n k n' k' : Nat) (xs ys : List Int) (w : World) (hs : SI w A n xs) (hs' : SI w A' n' ys) (hn : n ≤ 1099511627776) (hn' : n' ≤ 1099511627776) :
    Calls Try.prog 76 #[.agg #[.int .i64 p, .int .i64 R, .int .i64 C, .slice A n k], .agg #[.int .i64 p, .int .i64 R', .int .i64 C, .slice A' n' k']] w fun e w' => e = .returned (.bool (decide (R = R') && eqL xs ys)) ∧ Below w.heap.size w w' := by
  obtain ⟨w1, hw1⟩ : ∃ w1, w1 = (w.alloc (.cells #[.int .i64 p, .int .i64 R, .int .i64 C, .slice A n k] 27)).alloc (.cells #[.int .i64 p, .int .i64 R', .int .i64 C, .slice A' n' k'] 27) := ⟨_, rfl⟩
  obtain ⟨g, hg⟩ : ∃ g, g = w.heap.size := ⟨_, rfl⟩
  have hk : Blk w1 g 27 #[.int .i64 p, .int .i64 R, .int .i64 C, .slice A n k] := by rw [hw1, hg]; exact (Blk.new _ _ _).alloc _
  have hk2 : Blk w1 (g + 1) 27 #[.int .i64 p, .int .i64 R', .int .i64 C, .slice A' n' k'] := by
    rw [hw1, hg]
    have := Blk.new (w.alloc (.cells #[.int .i64 p, .int .i64 R, .int .i64 C, .slice A n k] 27)) 27 #[.int .i64 p, .int .i64 R', .int .i64 C, .slice A' n' k']
    simpa using this
  have hb : Below w.heap.size w w1 := by rw [hw1]; go_grown
  have HB := Lib.hid hb
  have HW := Lib.hid hw1
  have HG := Lib.hid hg
  have HSM := Lib.hid (l1Same_any A A' n k n' k' xs ys w1 (hs.below hb (Nat.le_refl _)) (hs'.below hb (Nat.le_refl _)) hn hn')
  obtain ⟨q0, q1, q2, q3⟩ := cells4 hk
  obtain ⟨r0, r1, r2, r3⟩ := cells4 hk2
  clear hw1 hg hk hk2 hb hs hs'
  by_cases hR : R = R'
  case pos =>
    subst hR
    go_enter Try.func76, Try.ntmps76
    go_upto_region 1 with fail
    rw [← HW.out, ← HG.out]
    go_wp2_with (first
      | (go_at_call 99
         with_reducible refine HSM.out.mono ?_
         rintro e w2 ⟨rfl, hd2⟩
         have HB2 : Hid (Below w1.heap.size w1 w2) := Lib.hid (hd2.below _)
         clear hd2)
      | fail)
    go_ret
    exact ⟨ret_bool (by simp), HB.out.trans (HB2.out.mono HB.out.size)⟩
  case neg =>
    have hRI : ¬ (R : Int) = (R' : Int) := by omega
    have HRN := Lib.hid hR
    clear hR
    go_enter Try.func76, Try.ntmps76
    go_upto_region 1 with fail
    rw [← HW.out, ← HG.out]
    go_wp2_with fail
    go_ret
    exact ⟨ret_bool (by simp [HRN.out]), HB.out⟩
set_option maxRecDepth 100000 in
set_option maxHeartbeats 4000000 in
theorem specIsSpace_any (p r c : Int) (A : Option Addr) (n k : Nat) (xs : List Int) (w : World) (hs : SI w A n xs) (hn : n ≤ 1099511627776) :
    Calls Try.prog 44 #[.agg #[.int .i64 p, .int .i64 r, .int .i64 c, .slice A n k]] w fun e w' => e = .returned (.bool (isSpB p r c xs)) ∧ Below w.heap.size w w' := by
  obtain ⟨w1, hw1⟩ : ∃ w1, w1 = w.alloc (.cells #[.int .i64 p, .int .i64 r, .int .i64 c, .slice A n k] 27) := ⟨_, rfl⟩
  obtain ⟨g, hg⟩ : ∃ g, g = w.heap.size := ⟨_, rfl⟩
  have hk : Blk w1 g 27 #[.int .i64 p, .int .i64 r, .int .i64 c, .slice A n k] := by rw [hw1, hg]; exact Blk.new _ _ _
  have hb : Below w.heap.size w w1 := by rw [hw1]; exact Below.alloc_self _ _
  have HB := Lib.hid hb
  have HW := Lib.hid hw1
  have HG := Lib.hid hg
  have HK := Lib.hid hk
  have HS := Lib.hid (hs.below hb (Nat.le_refl _))
  have HMO := Lib.hid (fun w' (hb' : Below w1.heap.size w1 w') => specMatrixOk_any p r c A n k xs w' (HS.out.below hb' (Nat.le_refl _)) hn)
  have hqd : w1.drew.cell? ⟨g, 0, none⟩ = some (.int .i64 p) ∧ w1.drew.cell? ⟨g, 1, none⟩ = some (.int .i64 r) ∧ w1.drew.cell? ⟨g, 2, none⟩ = some (.int .i64 c) ∧ w1.drew.cell? ⟨g, 3, none⟩ = some (.slice A n k) := cells4 hk
  have HQD := Lib.hid hqd
  have HQ := Lib.hid (cells4 hk)
  clear hw1 hg hk hb hs hqd
  cases hm : matB p r c xs with
  | false =>
    rw [hm] at HMO
    have HM := Lib.hid hm
    clear hm
    go_enter Try.func44, Try.ntmps44
    go_upto_region 1 with fail
    rw [← HW.out, ← HG.out]
    obtain ⟨q0, q1, q2, q3⟩ := HQ.out
    first
      | (go_region_with (first
      | (go_at_call 16
         with_reducible refine (HMO.out _ ((Below.refl _ _).drew)).mono ?_
         rintro e w2 ⟨rfl, hb2⟩
         have HB2 : Hid (Below w1.heap.size w1 w2) := Lib.hid (((Below.refl _ _).drew).trans hb2)
         clear hb2)))
      | fail
    all_goals
      (go_wp2
       go_ret
       exact ⟨ret_bool (isSpB_no HM.out).symm, HB.out.trans (HB2.out.mono HB.out.size)⟩)
  | true =>
    rw [hm] at HMO
    have HM := Lib.hid (matB_P hm)
    obtain ⟨R, C, rfl, rfl, hR7, hC1, hC7, hxl⟩ := HM.out.nats
    have HF := Lib.hid (isSpB_rows hm hxl hC1)
    have HSP := Lib.hid (fun w' (hb' : Below w1.heap.size w1 w') => l7Span_any p R C A n k xs w' HM.out.1 (HS.out.below hb' (Nat.le_refl _)) (by omega) ⟨hC1, by omega⟩ HM.out.rg hxl)
    have HZL : Hid ((spanX p C (rowsC xs C R C)).length ≤ 1000) := Lib.hid (by
      obtain ⟨zp, zr, zc, z, hz⟩ := spn_ex p R C xs
      have h1 := hz.len
      obtain ⟨_, _, _, rfl⟩ := hz.1 hm
      simpa using h1)
    clear hm hxl
    go_enter Try.func44, Try.ntmps44
    go_upto_region 1 with fail
    rw [← HW.out, ← HG.out]
    go_region_held3 (fun w' => w'.cell? ⟨g, 0, none⟩ = some (.int .i64 p) ∧ w'.cell? ⟨g, 1, none⟩ = some (.int .i64 R) ∧ w'.cell? ⟨g, 2, none⟩ = some (.int .i64 C) ∧ w'.cell? ⟨g, 3, none⟩ = some (.slice A n k))
      (first | exact HQD.out | exact HQ.out | exact K2 | exact K3 | exact K4)
      (first
        | (go_at_call 76
           with_reducible refine HEQ.out.mono ?_
           rintro e w4 ⟨rfl, hb4⟩
           have HB4 : Hid (Below w1.heap.size w1 w4) := Lib.hid (HB3.out.trans (hb4.mono HB3.out.size))
           have K4 := cells4 (HK.out.below HB4.out HK.out.lt)
           clear hb4)
        | (go_at_call 73
           with_reducible refine (HSP.out _ HB2.out).mono ?_
           rintro e w3 ⟨B3, m3, d3, rfl, ho3, hb3⟩
           have HB3 : Hid (Below w1.heap.size w1 w3) := Lib.hid (HB2.out.trans (hb3.mono HB2.out.size))
           have K3 := cells4 (HK.out.below HB3.out HK.out.lt)
           have HO3 := Lib.hid ho3
           have HEQ := Lib.hid (l7Same_any p R (spanN p C (rowsC xs C R C)) C A B3 n k m3 d3 xs (spanX p C (rowsC xs C R C)) w3 (HS.out.below HB3.out (Nat.le_refl _)) HO3.out.si hn (by have := HO3.out.len; have := HZL.out; omega))
           clear ho3 hb3)
        | (go_at_call 16
           with_reducible refine (HMO.out _ ((Below.refl _ _).drew)).mono ?_
           rintro e w2 ⟨rfl, hb2⟩
           have HB2 : Hid (Below w1.heap.size w1 w2) := Lib.hid (((Below.refl _ _).drew).trans hb2)
           have K2 := cells4 (HK.out.below HB2.out HK.out.lt)
           clear hb2))
    go_wp2
    go_ret
    exact ⟨ret_bool HF.out, HB.out.trans (HB4.out.mono HB.out.size)⟩
end Go.Proofs.Ytololcgifhefnaa
