/-
  Texts SpnU to SrtL, merged. Conditions: as each says.
-/
import Derived.Deep.RegionHeld3
import Derived.Laws.CopyOwn
import Derived.Deep.Cut
import Derived.StillTailTactics
import Derived.BigRegion
import Derived.Lib.AppendZerosOnto
import Derived.Deep.AppendLies
import Derived.Deep.RegionLaw
import Derived.Shelf.SlSortCmp.WholeK
import Derived.Test.YtjpoliibljjhnaaLayL
import Derived.Shelf.SlSortCmp.NoneTotal
import Derived.Test.YtjpoliibljjhnaaPkA2
/-
  Rows reduced among themselves: the program's way, from the last column to the first, and that both ways end at the same rows. Conditions: p is 2, 3, 5 or 7.
-/

namespace Go.Proofs.Ytjpoliibljjhnaa

theorem eq_of_dvd {p a b : Int} (ha : 0 ≤ a ∧ a < p) (hb : 0 ≤ b ∧ b < p) (h : p ∣ a - b) : a = b := by
  by_cases h1 : a - b = 0
  · omega
  · rcases Int.lt_or_gt_of_ne h1 with h2 | h2
    · have h3 : p ∣ b - a := by
        have := Int.dvd_neg.2 h
        have e : -(a - b) = b - a := by omega
        rwa [e] at this
      have := Int.le_of_dvd (by omega) h3; omega
    · have := Int.le_of_dvd (by omega) h; omega
/-- The first place of a number in a list. -/
def ixN (xs : List Int) (v : Int) : Nat := (xs.takeWhile (fun y => decide (y ≠ v))).length
theorem ixN_le (xs : List Int) (v : Int) : ixN xs v ≤ xs.length := (List.takeWhile_sublist _).length_le
theorem ixN_is {v : Int} : ∀ (xs : List Int) (k : Nat), k ≤ xs.length → (∀ j, j < k → nth xs j ≠ v) → (k = xs.length ∨ nth xs k = v) → ixN xs v = k
  | [], k, hk, _, _ => by
    have : k = 0 := by simpa using hk
    subst this; rfl
  | y :: xs, 0, _, _, h => by
    rcases h with h | h
    · simp at h
    · have hy : y = v := h
      simp [ixN, List.takeWhile, hy]
  | y :: xs, k + 1, hk, hall, h => by
    have hy : y ≠ v := hall 0 (by omega)
    have ih := ixN_is xs k (by simpa using hk) (fun j hj => hall (j + 1) (by omega)) (by
      rcases h with h | h
      · left; simpa using h
      · right; exact h)
    have e : ixN (y :: xs) v = ixN xs v + 1 := by simp [ixN, List.takeWhile, hy]
    rw [e, ih]
theorem ixN_at {v : Int} : ∀ (xs : List Int), ixN xs v < xs.length → nth xs (ixN xs v) = v
  | [], h => by simp at h
  | y :: xs, h => by
    by_cases hy : y = v
    · have e : ixN (y :: xs) v = 0 := by simp [ixN, List.takeWhile, hy]
      rw [e]; exact hy
    · have e : ixN (y :: xs) v = ixN xs v + 1 := by simp [ixN, List.takeWhile, hy]
      rw [e] at h ⊢
      exact ixN_at xs (by simpa using h)
theorem ixN_mem {v : Int} : ∀ (xs : List Int), v ∈ xs ↔ ixN xs v < xs.length
  | [] => by simp [ixN]
  | y :: xs => by
    by_cases hy : y = v
    · have e : ixN (y :: xs) v = 0 := by simp [ixN, List.takeWhile, hy]
      rw [e]; simp [hy]
    · have e : ixN (y :: xs) v = ixN xs v + 1 := by simp [ixN, List.takeWhile, hy]
      rw [e, List.mem_cons, ixN_mem xs, List.length_cons]
      constructor
      · rintro (h | h)
        · exact absurd h.symm hy
        · omega
      · intro h; right; omega
/-- The rows, from that with the last column on, as far as t columns. -/
def dscR (E : List (List Int × Int)) (n : Nat) : Nat → List (List Int)
  | 0 => []
  | t + 1 => if ixN (E.map (·.2)) ((n - 1 - t : Nat) : Int) < E.length then dscR E n t ++ [li (E.map (·.1)) (ixN (E.map (·.2)) ((n - 1 - t : Nat) : Int))] else dscR E n t
theorem dscR_hit {E : List (List Int × Int)} {n t : Nat} (h : ixN (E.map (·.2)) ((n - 1 - t : Nat) : Int) < E.length) : dscR E n (t + 1) = dscR E n t ++ [li (E.map (·.1)) (ixN (E.map (·.2)) ((n - 1 - t : Nat) : Int))] := if_pos h
theorem dscR_miss {E : List (List Int × Int)} {n t : Nat} (h : ¬ ixN (E.map (·.2)) ((n - 1 - t : Nat) : Int) < E.length) : dscR E n (t + 1) = dscR E n t := if_neg h
theorem addR_lead {p : Int} {n : Nat} (hp : P7 p) {E : List (List Int × Int)} (h : EOk p n E) {x : List Int} {c : Nat} (hl : x.length = n) (hx : Rg p x) (hc : c < n) (h1 : nth x c ≠ 0) (hb : ∀ i, i < c → nth x i = 0) (hgt : ∀ e, e ∈ E → (c : Int) < e.2) :
    ∃ y, addR p E x = E ++ [(y, (c : Int))] := by
  have hp2 := hp.two
  have hsame : ∀ i, i ≤ c → nth (redE p E x) i = nth x i := fun i hi => by
    have hk := redE_keep (p := p) (c := i) E (x := x) (by omega) fun e he => by
      have h3 := (h.2.at_ (x := (nth e.1, e.2.toNat)) (List.mem_map.2 ⟨e, he, rfl⟩)).2.2
      have := hgt e he
      exact h3 i (by show i < e.2.toNat; omega)
    exact eq_of_dvd (redE_rg (by omega) E hx i) (hx i) hk
  have hld : ldN (redE p E x) = c := ldN_is _ c (by rw [redE_len]; omega) (fun j hj => by rw [hsame j (by omega)]; exact hb j hj) (.inr (by rw [hsame c (Nat.le_refl _)]; exact h1))
  refine ⟨nrm p (redE p E x), ?_⟩
  unfold addR
  rw [hld, if_neg (by omega)]
theorem Ech.pair {p : Int} {n : Nat} : ∀ {R : List ((Nat → Int) × Nat)}, Ech p n R → R.Pairwise fun a b => p ∣ b.1 a.2
  | [], _ => List.Pairwise.nil
  | _ :: _, h => List.Pairwise.cons (fun x hx => h.2.2.2.1 x hx) (Ech.pair h.2.2.2.2)
/-- What the rows from the last column on obey. -/
structure DscI (p : Int) (n : Nat) (E : List (List Int × Int)) (t : Nat) : Prop where
  ok : EOk p n (echel p (dscR E n t))
  lo : ∀ e, e ∈ echel p (dscR E n t) → ((n - t : Nat) : Int) ≤ e.2
  desc : ((echel p (dscR E n t)).map (·.2)).Pairwise fun a b => b < a
  mem : ∀ c : Int, c ∈ (echel p (dscR E n t)).map (·.2) ↔ c ∈ E.map (·.2) ∧ ((n - t : Nat) : Int) ≤ c
  rows : ∀ x, x ∈ dscR E n t → ∃ e, e ∈ E ∧ x = e.1
  has : ∀ e, e ∈ E → ((n - t : Nat) : Int) ≤ e.2 → e.1 ∈ dscR E n t
theorem EOk.row_of {p : Int} {n : Nat} (hp : P7 p) {E : List (List Int × Int)} (h : EOk p n E) {e : List Int × Int} (he : e ∈ E) : li (E.map (·.1)) (ixN (E.map (·.2)) e.2) = e.1 := by
  have hm : e.2 ∈ E.map (·.2) := List.mem_map.2 ⟨e, he, rfl⟩
  have hlt := (ixN_mem _).1 hm
  have hat := ixN_at _ hlt
  simp only [List.length_map] at hlt
  obtain ⟨i, hi, hei⟩ := List.mem_iff_getElem.1 he
  have hnd := List.pairwise_iff_getElem.1 (h.2.nodup hp.two)
  have hcol : ∀ k (hk : k < E.length), ((prs E).map (·.2))[k]'(by simpa [prs] using hk) = E[k].2.toNat := fun k hk => by simp [prs]
  have hix : (E[ixN (E.map (·.2)) e.2]'hlt).2 = e.2 := by
    rw [nth_get (by simpa using hlt)] at hat
    simpa using hat
  have hj : ixN (E.map (·.2)) e.2 = i := by
    rcases Nat.lt_trichotomy (ixN (E.map (·.2)) e.2) i with h1 | h1 | h1
    · have := hnd _ _ (by simpa [prs] using hlt) (by simpa [prs] using hi) h1
      rw [hcol _ hlt, hcol _ hi, hix, hei] at this
      exact absurd rfl this
    · exact h1
    · have := hnd _ _ (by simpa [prs] using hi) (by simpa [prs] using hlt) h1
      rw [hcol _ hlt, hcol _ hi, hix, hei] at this
      exact absurd rfl this
  rw [hj, li_get (by simpa using hi)]
  simp [hei]
theorem echel_snoc (p : Int) (rows : List (List Int)) (x : List Int) : echel p (rows ++ [x]) = addR p (echel p rows) x := by simp [echel, List.foldl_append]
theorem DscI.all {p : Int} {n : Nat} (hp : P7 p) {E : List (List Int × Int)} (h : EOk p n E) : ∀ t, t ≤ n → DscI p n E t
  | 0, _ => ⟨EOk.nil p n, fun e he => absurd he (List.not_mem_nil), List.Pairwise.nil, fun c => by
      constructor
      · intro hc; exact absurd hc (List.not_mem_nil)
      · rintro ⟨h1, h2⟩
        obtain ⟨e, he, rfl⟩ := List.mem_map.1 h1
        have := (h.1 e he).2.2.2; omega, fun x hx => absurd hx (List.not_mem_nil), fun e he h2 => by have := (h.1 e he).2.2.2; omega⟩
  | t + 1, ht => by
    have ih := DscI.all hp h t (by omega)
    have hp2 := hp.two
    by_cases hix : ixN (E.map (·.2)) ((n - 1 - t : Nat) : Int) < E.length
    · have hm : ((n - 1 - t : Nat) : Int) ∈ E.map (·.2) := (ixN_mem _).2 (by simpa using hix)
      obtain ⟨e, he, hec⟩ := List.mem_map.1 hm
      have hec' : e.2 = ((n - 1 - t : Nat) : Int) := hec
      have hrow := h.row_of hp he
      rw [hec'] at hrow
      have e1 : dscR E n (t + 1) = dscR E n t ++ [e.1] := by
        rw [dscR_hit hix, hrow]
      obtain ⟨hel, her, he0, hen⟩ := h.1 e he
      obtain ⟨ha1, ha2, ha3⟩ := h.2.at_ (x := (nth e.1, e.2.toNat)) (List.mem_map.2 ⟨e, he, rfl⟩)
      have hct : e.2.toNat = n - 1 - t := by omega
      simp only [hct] at ha1 ha2 ha3
      obtain ⟨y, hy⟩ := addR_lead hp ih.ok (c := n - 1 - t) hel her (by omega) (fun h0 => one_not hp2 ha2 (by rw [h0]; exact Int.dvd_zero _)) (fun i hi => (dvd_iff0 (her i)).1 (ha3 i hi)) (fun d hd => by have := ih.lo d hd; omega)
      have e2 : echel p (dscR E n (t + 1)) = echel p (dscR E n t) ++ [(y, ((n - 1 - t : Nat) : Int))] := by rw [e1, echel_snoc, hy]
      refine ⟨?_, ?_, ?_, ?_, ?_, ?_⟩
      · rw [e1, echel_snoc]; exact (addR_ok hp ih.ok hel her).1
      · rw [e2]
        intro d hd
        rcases List.mem_append.1 hd with hd | hd
        · have := ih.lo d hd; omega
        · rw [List.mem_singleton] at hd; subst hd; show _ ≤ ((n - 1 - t : Nat) : Int); omega
      · rw [e2, List.map_append]
        refine List.pairwise_append.2 ⟨ih.desc, List.pairwise_singleton _ _, fun a ha b hb => ?_⟩
        obtain ⟨d, hd, rfl⟩ := List.mem_map.1 ha
        simp at hb
        subst hb
        have := ih.lo d hd
        show ((n - 1 - t : Nat) : Int) < d.2
        omega
      · intro c
        rw [e2, List.map_append, List.mem_append, ih.mem c]
        simp only [List.map_cons, List.map_nil, List.mem_singleton]
        constructor
        · rintro (⟨h1, h2⟩ | h1)
          · exact ⟨h1, by omega⟩
          · rw [h1]; exact ⟨hm, by omega⟩
        · rintro ⟨h1, h2⟩
          by_cases hc : c = ((n - 1 - t : Nat) : Int)
          · right; exact hc
          · left; exact ⟨h1, by omega⟩
      · rw [e1]
        intro x hx
        rcases List.mem_append.1 hx with hx | hx
        · exact ih.rows x hx
        · rw [List.mem_singleton] at hx; exact ⟨e, he, hx⟩
      · rw [e1]
        intro d hd hdc
        by_cases hc : d.2 = ((n - 1 - t : Nat) : Int)
        · have h5 := h.row_of hp hd
          rw [hc, hrow] at h5
          rw [← h5]; exact List.mem_append_right _ (List.mem_singleton.2 rfl)
        · exact List.mem_append_left _ (ih.has d hd (by omega))
    · have e1 : dscR E n (t + 1) = dscR E n t := dscR_miss hix
      have hno : ∀ e, e ∈ E → e.2 ≠ ((n - 1 - t : Nat) : Int) := fun e he hc => hix (by
        have := (ixN_mem (v := ((n - 1 - t : Nat) : Int)) (E.map (·.2))).1 (by rw [← hc]; exact List.mem_map.2 ⟨e, he, rfl⟩)
        simpa using this)
      refine ⟨by rw [e1]; exact ih.ok, fun e he => by rw [e1] at he; have := ih.lo e he; omega, by rw [e1]; exact ih.desc, fun c => ?_, by rw [e1]; exact ih.rows, fun e he hc => by
        rw [e1]
        have := hno e he
        exact ih.has e he (by omega)⟩
      rw [e1, ih.mem c]
      constructor
      · rintro ⟨h1, h2⟩; exact ⟨h1, by omega⟩
      · rintro ⟨h1, h2⟩
        obtain ⟨e, he, rfl⟩ := List.mem_map.1 h1
        have h5 := hno e he
        have h6 : ((n - (t + 1) : Nat) : Int) ≤ e.2 := h2
        exact ⟨h1, by show _ ≤ e.2; omega⟩
theorem asc_uniq : ∀ (l m : List Int), l.Pairwise (· < ·) → m.Pairwise (· < ·) → (∀ x, x ∈ l ↔ x ∈ m) → l = m
  | [], [], _, _, _ => rfl
  | [], b :: m, _, _, h => absurd ((h b).2 (List.mem_cons_self ..)) (List.not_mem_nil)
  | a :: l, [], _, _, h => absurd ((h a).1 (List.mem_cons_self ..)) (List.not_mem_nil)
  | a :: l, b :: m, hl, hm, h => by
    obtain ⟨h1, h2⟩ := List.pairwise_cons.1 hl
    obtain ⟨h3, h4⟩ := List.pairwise_cons.1 hm
    have hab : a = b := by
      rcases List.mem_cons.1 ((h a).1 (List.mem_cons_self ..)) with e | e
      · exact e
      · rcases List.mem_cons.1 ((h b).2 (List.mem_cons_self ..)) with e' | e'
        · exact e'.symm
        · have := h3 a e; have := h1 b e'; omega
    subst hab
    rw [asc_uniq l m h2 h4 fun x => by
      constructor
      · intro hx
        rcases List.mem_cons.1 ((h x).1 (List.mem_cons_of_mem _ hx)) with e | e
        · have := h1 x hx; omega
        · exact e
      · intro hx
        rcases List.mem_cons.1 ((h x).2 (List.mem_cons_of_mem _ hx)) with e | e
        · have := h3 x hx; omega
        · exact e]
/-- The reduced rows, the program's way. -/
def redD (p : Int) (n : Nat) (rows : List (List Int)) : List (List Int × Int) := echel p (dscR (echel p rows) n n)
section
variable {p : Int} {n R : Nat} {rows : List (List Int)} {M0 M : Nat → Nat → Int} {ps : List Int} {j : Nat}
theorem red_rows (hp : P7 p) (hr : ∀ x, x ∈ rows → x.length = n ∧ Rg p x) (hl : rows.length = R) (h0 : ∀ i c, i < R → c < n → nth (li rows i) c = M0 i c) (h : RedI p n R M0 M ps j) (hj : j ≤ n) (hend : j = n ∨ ps.length = R) :
    (redD p n rows).length = ps.length ∧ (((redD p n rows).map (·.2)).reverse = ps) ∧ ∀ i c, i < ps.length → c < n → nth (li ((redD p n rows).map (·.1)).reverse i) c = M i c := by
  have hp2 := hp.two
  have hE := echel_ok hp hr
  have hD := DscI.all hp hE.1 n (Nat.le_refl _)
  obtain ⟨E, hEe⟩ : ∃ E, E = echel p rows := ⟨_, rfl⟩
  unfold redD
  rw [← hEe] at hE hD ⊢
  obtain ⟨D, hDe⟩ : ∃ D, D = echel p (dscR E n n) := ⟨_, rfl⟩
  have hdok := hD.ok
  have hdesc := hD.desc
  have hmem := hD.mem
  have hrows := hD.rows
  have hhas := hD.has
  rw [← hDe] at hdok hdesc hmem ⊢
  have hspD : ∀ v, Sp p n (vec D) v ↔ Sp p n (vec E) v := fun v => by
    have h1 := (echel_ok (p := p) (n := n) hp (rows := dscR E n n) fun x hx => by
      obtain ⟨e, he, rfl⟩ := hrows x hx
      exact ⟨(hE.1.1 e he).1, (hE.1.1 e he).2.1⟩).2 v
    rw [← hDe] at h1
    rw [h1]
    refine Sp.same (fun q hq => ?_) (fun q hq => ?_) v
    · obtain ⟨x, hx, rfl⟩ := List.mem_map.1 hq
      obtain ⟨e, he, rfl⟩ := hrows x hx
      exact Sp.mem (List.mem_map.2 ⟨e, he, rfl⟩)
    · obtain ⟨e, he, rfl⟩ := List.mem_map.1 hq
      exact Sp.mem (List.mem_map.2 ⟨e.1, hhas e he (by have := (hE.1.1 e he).2.2.1; omega), rfl⟩)
  have hspM : ∀ v, Sp p n (vec E) v ↔ Sp p n (rowsM ps.length M) v := fun v => by
    have h1 := red_same hp hr hl h0 h hend v
    rw [← hEe, prs_vec, prM_fst] at h1
    exact h1
  have hcols : ∀ c : Int, c ∈ D.map (·.2) ↔ c ∈ ps := fun c => by
    have hs := Ech.same_cols hp2 hE.1.2 (h.ech hj) (fun v => by rw [prs_vec, prM_fst]; exact hspM v)
    rw [hmem c]
    constructor
    · rintro ⟨h1, _⟩
      obtain ⟨e, he, rfl⟩ := List.mem_map.1 h1
      have h2 := (hs e.2.toNat).1 (List.mem_map.2 ⟨(nth e.1, e.2.toNat), List.mem_map.2 ⟨e, he, rfl⟩, rfl⟩)
      obtain ⟨x, hx, hx2⟩ := List.mem_map.1 h2
      obtain ⟨i, hi, rfl⟩ := prM_mem.1 hx
      have hx3 : (nth ps i).toNat = e.2.toNat := hx2
      have h3 := h.col i hi
      have h4 := (hE.1.1 e he).2.2.1
      have h5 : nth ps i = e.2 := by omega
      rw [← h5, nth_get hi]; exact List.getElem_mem hi
    · intro hc
      obtain ⟨i, hi, hie⟩ := List.mem_iff_getElem.1 hc
      rw [← nth_get hi] at hie
      have h3 := h.col i hi
      have h2 := (hs (nth ps i).toNat).2 (List.mem_map.2 ⟨_, prM_mem.2 ⟨i, hi, rfl⟩, rfl⟩)
      obtain ⟨x, hx, hx2⟩ := List.mem_map.1 h2
      obtain ⟨e, he, rfl⟩ := List.mem_map.1 hx
      have hx3 : e.2.toNat = (nth ps i).toNat := hx2
      have h4 := (hE.1.1 e he).2.2.1
      exact ⟨List.mem_map.2 ⟨e, he, by show e.2 = c; omega⟩, by omega⟩
  have hasc : ps.Pairwise (· < ·) := by
    rw [List.pairwise_iff_getElem]
    intro a b ha hb hab
    have := h.asc a b hab hb
    rw [nth_get ha, nth_get hb] at this
    exact this
  have hrev : (D.map (·.2)).reverse = ps := asc_uniq _ _ (List.pairwise_reverse.2 hdesc) hasc fun x => by rw [List.mem_reverse]; exact hcols x
  have hlen : D.length = ps.length := by rw [← hrev]; simp
  refine ⟨hlen, hrev, fun i c hi hc => ?_⟩
  have hiD : D.length - 1 - i < D.length := by omega
  have hx : li (D.map (·.1)).reverse i = D[D.length - 1 - i].1 := by
    rw [li_get (by simp; omega), List.getElem_reverse]
    simp
  have hxc : D[D.length - 1 - i].2 = nth ps i := by
    rw [nth_get hi]
    have h5 : ps[i] = ((D.map (·.2)).reverse)[i]'(by simp; omega) := by simp [hrev]
    rw [h5, List.getElem_reverse]
    simp
  rw [hx]
  have hxm : D[D.length - 1 - i] ∈ D := List.getElem_mem hiD
  have hin := hdok.1 _ hxm
  have hcol := h.col i hi
  have huniq := Ech.uniq hp2 hdok.2 (u := M i) (v := nth D[D.length - 1 - i].1) (by rw [prs_vec, hspD, hspM]; exact rowsM_sp hi) (by rw [prs_vec]; exact Sp.mem (List.mem_map.2 ⟨_, hxm, rfl⟩)) (fun y hy => by
    obtain ⟨e, he, rfl⟩ := List.mem_map.1 hy
    obtain ⟨a, ha, hae⟩ := List.mem_iff_getElem.1 he
    have hec := (hdok.1 e he).2.2
    show p ∣ M i e.2.toNat - nth D[D.length - 1 - i].1 e.2.toNat
    by_cases hsame : a = D.length - 1 - i
    · subst hsame
      rw [hae] at hxc ⊢
      have h6 := (hdok.2.at_ (x := (nth e.1, e.2.toNat)) (List.mem_map.2 ⟨e, he, rfl⟩)).2.1
      have h7 : p ∣ nth e.1 e.2.toNat - 1 := h6
      rw [hxc, h.one i hi]
      rw [hxc] at h7
      have e8 : 1 - nth e.1 (nth ps i).toNat = -(nth e.1 (nth ps i).toNat - 1) := by omega
      rw [e8]; exact Int.dvd_neg.2 h7
    · have hM0 : M i e.2.toNat = 0 := by
        have hmem2 : e.2 ∈ ps := (hcols e.2).1 (List.mem_map.2 ⟨e, he, rfl⟩)
        obtain ⟨i', hi', hie'⟩ := List.mem_iff_getElem.1 hmem2
        rw [← nth_get hi'] at hie'
        have hne : i ≠ i' := fun e9 => by
          subst e9
          have hd2 := List.pairwise_iff_getElem.1 hdesc
          rcases Nat.lt_or_gt_of_ne hsame with h8 | h8
          · have := hd2 a (D.length - 1 - i) (by simpa using ha) (by simpa using hiD) h8
            simp only [List.getElem_map] at this
            rw [hxc, hae, hie'] at this; omega
          · have := hd2 (D.length - 1 - i) a (by simpa using hiD) (by simpa using ha) h8
            simp only [List.getElem_map] at this
            rw [hxc, hae, hie'] at this; omega
        rw [← hie']
        exact h.oth i' i hi' (by have := h.le; omega) hne
      have hv0 : p ∣ nth D[D.length - 1 - i].1 e.2.toNat := by
        rcases Nat.lt_or_gt_of_ne hsame with h8 | h8
        · have h9 := List.pairwise_iff_getElem.1 hdok.2.pair a (D.length - 1 - i) (by simpa [prs] using ha) (by simpa [prs] using hiD) h8
          simp only [prs, List.getElem_map] at h9
          rw [hae] at h9; exact h9
        · have hd2 := List.pairwise_iff_getElem.1 hdesc (D.length - 1 - i) a (by simpa using hiD) (by simpa using ha) h8
          simp only [List.getElem_map] at hd2
          rw [hae] at hd2
          have h9 := (hdok.2.at_ (x := (nth D[D.length - 1 - i].1, D[D.length - 1 - i].2.toNat)) (List.mem_map.2 ⟨_, hxm, rfl⟩)).2.2
          exact h9 e.2.toNat (by show e.2.toNat < D[D.length - 1 - i].2.toNat; omega)
      rw [hM0]
      have e8 : 0 - nth D[D.length - 1 - i].1 e.2.toNat = -(nth D[D.length - 1 - i].1 e.2.toNat) := by omega
      rw [e8]; exact Int.dvd_neg.2 hv0) c hc
  exact (eq_of_dvd (h.rg i c (by have := h.le; omega) hc) (hin.2.1 c) huniq).symm
end
end Go.Proofs.Ytjpoliibljjhnaa

/-
  Contracts of the program's descents and of reversing a slice. Conditions: lengths below 2^40.
-/

namespace Go.Proofs.Ytjpoliibljjhnaa
open Go.RowKit

theorem descL_fill {xs : List Int} (h : isPermP xs) : ∀ k, k + 1 ≤ xs.length → descL (fillA xs xs.length) k = descL xs k := by
  have h7 := h.2.1
  intro k
  induction k with
  | zero => intro _; rfl
  | succ k ih =>
    intro hk
    unfold descL
    rw [ih (by omega), fillA_lt (by omega) (by omega), fillA_lt (by omega) (by omega)]

set_option maxHeartbeats 2000000 in
theorem implDescents_any (A : Option Addr) (n c : Nat) (xs : List Int) (w : World) (hs : SI w A n xs) (hn : n ≤ 1099511627776) :
    Calls Try.prog 104 #[.slice A n c] w fun e w' => Fresh w w' e (descPerm xs) := by
  have hl := hs.1
  cases hu : isPermB xs with
  | false =>
    have HE := Lib.hid (descPerm_no hu)
    have HU := Lib.hid hu
    clear hu
    go_enter Try.func104, Try.ntmps104
    go_wp2_with fail
    refine (arrayOf_x c HU.out hs hn).mono ?_
    rintro e w1 ⟨l, rfl, -, hb1⟩
    go_wp2
    go_ret
    rw [HE.out]
    exact Fresh.nil_ret (hb1.alloc hb1.size _)
  | true =>
    have HE := Lib.hid (descPerm_yes hu)
    have HU := Lib.hid hu
    have hpos : 1 ≤ n := by have := (isPermB_P hu).1; omega
    have h7 : n ≤ 7 := by have := (isPermB_P hu).2.1; omega
    clear hu
    go_enter Try.func104, Try.ntmps104
    go_wp2_with fail
    refine (arrayOf_x c HU.out hs hn).mono ?_
    rintro e w1 ⟨l, rfl, hlf, hb1⟩
    have HF := Lib.hid (hlf rfl)
    have HL := Lib.hid hl
    clear hlf hl
    have hK := Blk.new w1 107 (arrC l)
    have hb2 : Below w.heap.size w (w1.alloc (.cells (arrC l) 107)) := hb1.alloc hb1.size _
    go_wp2
    obtain ⟨g, hg⟩ : ∃ g, g = w1.heap.size := ⟨_, rfl⟩
    rw [← hg] at hK ⊢
    generalize w1.alloc (.cells (arrC l) 107) = w2 at *
    have hgl := hK.lt
    clear hg
    go_loopw [5, 17] (fun v i wr => ∃ (k m : Nat) (A : Option Addr) (c : Nat), k + 1 ≤ n ∧ i = .int .i64 k ∧ v = .slice A m c ∧ Blk wr g 107 (arrC l) ∧ Own wr w2.heap.size wr.heap.size A m c (descL l k) ∧ Below w2.heap.size w2 wr)
      (fun _ i _ => n - (intOf i).toNat)
    case atStart => exact ⟨0, 0, none, 0, by omega, rfl, rfl, hK, Own.nil _ _ _, Below.refl _ _⟩
    case round =>
      obtain ⟨k, m, A0, c0, hk, rfl, rfl, hA, hown, hbel⟩ := hrel
      have hm : m ≤ 1099511627775 := by
        have h1 := hown.len
        have h2 := descL_len l k
        omega
      have HA := Lib.hid hA
      have HO := Lib.hid hown
      have HB := Lib.hid hbel
      clear hA hown hbel hK
      by_cases hlt : k + 1 < n
      · have hlI : (k : Int) < (n : Int) - 1 := by omega
        go_wp2_with (first | (refine wpList_load_blk rfl 107 (.tmp 3) rfl g rfl 107 (arrC l) 7 3 HA.out Try.undArr Try.infoArr ?_) | fail)
        refine (isDescent_any l k wr (by omega)).mono ?_
        rintro e w4 ⟨rfl, hb4⟩
        have HA4 := Lib.hid (HA.out.below hb4 HA.out.lt)
        have HO4 := Lib.hid ((HO.out.below hb4 (Nat.le_refl _)).wide (Nat.le_refl _) hb4.size)
        have HB4 := Lib.hid (HB.out.trans (hb4.mono HB.out.size))
        clear hb4
        by_cases hd : nth l (k + 1) < nth l k
        · have hdd : decide (nth l (k + 1) < nth l k) = true := by simpa using hd
          rw [hdd]
          have HD := Lib.hid hd
          clear hd hdd
          go_wp2_with (at_builtin; refine wpList_append1 rfl (.tmp 23) (.tmp 25) rfl w2.heap.size A0 m c0 (descL l k) (k : Int) rfl rfl HO4.out HB4.out.size (by omega) ?_; intro A' c' w5 ho5 _ hb5)
          go_roundw
          case rel => exact ⟨k + 1, _, _, _, by omega, by go_num, rfl, HA4.out.below hb5 hgl, by rw [descL_hit HD.out]; exact ho5, HB4.out.trans hb5⟩
          case measure => simp [intOf]; omega
        · have hdd : decide (nth l (k + 1) < nth l k) = false := by simpa using hd
          rw [hdd]
          have HD := Lib.hid hd
          clear hd hdd
          go_wp2
          go_roundw
          case rel => exact ⟨k + 1, _, _, _, by omega, by go_num, rfl, HA4.out, by rw [descL_miss (by have := HD.out; omega)]; exact HO4.out, HB4.out⟩
          case measure => simp [intOf]; omega
      · have hkn : n = k + 1 := by omega
        subst hkn
        go_wp2
        go_ret
        have e1 := HF.out
        have e2 := HL.out
        have e3 := descL_fill (isPermB_P HU.out) k (by omega)
        have ho := HO.out
        rw [e2] at e3
        rw [e1, e3] at ho
        rw [HE.out, e2, Nat.add_sub_cancel]
        exact Fresh.after hb2 ⟨A0, _, c0, rfl, ho, HB.out⟩

/-- Reversing, k places exchanged from both ends. -/
def revM (xs : List Int) (n k : Nat) : List Int := (List.range n).map fun t => if t < k ∨ n ≤ t + k then nth xs (n - 1 - t) else nth xs t
theorem revM_len (xs : List Int) (n k : Nat) : (revM xs n k).length = n := by simp [revM]
theorem revM_nth (xs : List Int) (n k t : Nat) (h : t < n) : nth (revM xs n k) t = if t < k ∨ n ≤ t + k then nth xs (n - 1 - t) else nth xs t := by
  rw [nth_get (by rw [revM_len]; exact h)]; simp [revM]
theorem revM_zero (xs : List Int) : revM xs xs.length 0 = xs := by
  apply List.ext_getElem (by simp [revM])
  intro j h1 h2
  simp only [revM, List.getElem_map, List.getElem_range]
  rw [if_neg (by omega), nth_get h2]
theorem revM_done (xs : List Int) (k : Nat) (h : xs.length ≤ 2 * k + 1) : revM xs xs.length k = xs.reverse := by
  apply List.ext_getElem (by simp [revM])
  intro j h1 h2
  have hj : j < xs.length := by rw [revM_len] at h1; exact h1
  simp only [revM, List.getElem_map, List.getElem_range, List.getElem_reverse]
  split
  · rw [nth_get (by omega)]
  · rename_i hc
    have e : xs.length - 1 - j = j := by omega
    simp only [e]
    rw [nth_get hj]
theorem revM_step (xs : List Int) (n k : Nat) (h : 2 * k + 1 < n) :
    ((revM xs n k).set k (nth xs (n - 1 - k))).set (n - 1 - k) (nth xs k) = revM xs n (k + 1) := by
  apply List.ext_getElem (by simp [revM])
  intro j h1 h2
  have hj : j < n := by rw [revM_len] at h2; exact h2
  rw [List.getElem_set]
  simp only [revM, List.getElem_map, List.getElem_range]
  by_cases e : n - 1 - k = j
  · rw [if_pos e, if_pos (by omega)]
    rw [show n - 1 - j = k from by omega]
  · rw [if_neg e, List.getElem_set]
    simp only [List.getElem_map, List.getElem_range]
    by_cases e2 : k = j
    · rw [if_pos e2, if_pos (by omega), e2]
    · rw [if_neg e2]
      by_cases h3 : j < k ∨ n ≤ j + k
      · rw [if_pos h3, if_pos (by omega)]
      · rw [if_neg h3, if_neg (by omega)]

theorem idL_reverse (n : Nat) : (idL n).reverse = downL n n := by
  apply List.ext_getElem (by simp [idL, downL])
  intro j h1 h2
  simp only [List.getElem_reverse, idL, downL, List.getElem_map, List.getElem_range, List.length_map, List.length_range]
  have : j < n := by simpa [idL] using h1
  omega

end Go.Proofs.Ytjpoliibljjhnaa

/-
  The shape of a permutation with one descent, on both sides. Conditions: lengths below 2^40.
-/




namespace Go.Proofs.Ytjpoliibljjhnaa
open Go.RowKit

/-- Where the zeros at the end of a list begin. -/
def bareN (xs : List Int) : Nat → Nat
  | 0 => 0
  | k + 1 => if nth xs k = 0 then bareN xs k else k + 1
theorem bareN_le (xs : List Int) : ∀ k, bareN xs k ≤ k
  | 0 => Nat.le_refl _
  | k + 1 => by have := bareN_le xs k; unfold bareN; split <;> omega
theorem bareN_out (xs : List Int) : ∀ k j, bareN xs k ≤ j → j < k → nth xs j = 0
  | 0, j, _, h => absurd h (by omega)
  | k + 1, j, h1, h2 => by
    unfold bareN at h1
    split at h1
    · by_cases hj : j = k
      · subst hj; assumption
      · exact bareN_out xs k j h1 (by omega)
    · omega
theorem bareN_last (xs : List Int) : ∀ k, bareN xs k = 0 ∨ nth xs (bareN xs k - 1) ≠ 0
  | 0 => .inl rfl
  | k + 1 => by
    unfold bareN
    split
    · exact bareN_last xs k
    · right; assumption
set_option maxHeartbeats 800000 in
theorem l4Bare_any (A : Option Addr) (n c : Nat) (xs : List Int) (w : World) (hs : SI w A n xs) (hnc : n ≤ c) (hA : A ≠ none) (hn : n ≤ 1099511627776) :
    Calls Try.prog 181 #[.slice A n c] w fun e w' => Fresh w w' e (xs.take (bareN xs n)) := by
  obtain ⟨a, rfl⟩ : ∃ a, A = some a := by cases A with | none => exact absurd rfl hA | some a => exact ⟨a, rfl⟩
  have HS := Lib.hid hs
  clear hs hA
  go_enter Try.func181, Try.ntmps181
  go_wp2
  go_loopw [3] (fun i wr => ∃ k : Nat, k ≤ n ∧ i = .int .i64 k ∧ Drawn w wr ∧ bareN xs n = bareN xs k)
    (fun i _ => (intOf i).toNat)
  case atStart => exact ⟨n, Nat.le_refl _, rfl, Drawn.refl _, rfl⟩
  case round =>
    obtain ⟨k, hk, rfl, hD, hb⟩ := hrel
    have HB := Lib.hid hb
    have HD := Lib.hid hD
    clear hb hD
    cases k with
    | zero =>
      have HT := Lib.hid (l1Ints_any (some a) 0 c [] wr ⟨rfl, fun h => absurd h (by omega)⟩ (by omega))
      have hc0 : (0 : Int) ≤ (c : Int) := by omega
      go_wp2_with (go_at_call 173; refine HT.out.mono ?_; rintro e w2 ⟨A2, n2, c2, rfl, ho, hb2⟩; have HO := Lib.hid ho; have HB2 := Lib.hid hb2; clear ho hb2)
      go_ret
      rw [HB.out]
      exact ⟨A2, n2, c2, rfl, by show Own _ _ _ _ _ _ (xs.take 0); rw [List.take_zero]; exact HO.out.wide (HD.out.below w.heap.size).size (Nat.le_refl _), (HD.out.below _).trans (HB2.out.mono (HD.out.below w.heap.size).size)⟩
    | succ k =>
      obtain ⟨b, o, e1, hb, hc⟩ := (HD.out.si HS.out).at_ (by omega)
      obtain rfl : a = ⟨b, o, none⟩ := by simpa using e1
      have hc1 := hc k (by omega)
      have e : bareN xs (k + 1) = if nth xs k = 0 then bareN xs k else k + 1 := rfl
      obtain ⟨x, hx⟩ : ∃ x, x = nth xs k := ⟨_, rfl⟩
      rw [← hx] at hc1 e
      have hkI : (k : Int) < (n : Int) := by omega
      have hk0 : (0 : Int) < ((k + 1 : Nat) : Int) := by omega
      have hwk : IntKind.i64.wrap (((k + 1 : Nat) : Int) - 1) = (k : Int) := by rw [show ((k + 1 : Nat) : Int) - 1 = (k : Int) by omega]; exact IntWalk.i64_in _ (by omega)
      clear hc hx e1
      by_cases h0 : x = 0
      · rw [if_pos h0] at e
        have HE := Lib.hid e
        have hb0 : (x == 0) = true := by simpa using h0
        clear e
        go_wp2
        go_roundw
        case rel => exact ⟨k, by omega, by go_num, HD.out, by rw [HB.out, HE.out]⟩
        case measure => simp [intOf]
      · rw [if_neg h0] at e
        have HE := Lib.hid e
        have hb0 : (x == 0) = false := by simpa using h0
        have hic : ((k + 1 : Nat) : Int) ≤ (c : Int) := by omega
        have hi0 : (0 : Int) ≤ ((k + 1 : Nat) : Int) := by omega
        have HT := Lib.hid (l1Ints_any (some ⟨b, o, none⟩) (k + 1) c (xs.take (k + 1)) wr ((HD.out.si HS.out).take (by omega)) (by omega))
        obtain ⟨q, hq⟩ : ∃ q, q = k + 1 := ⟨_, rfl⟩
        rw [← hq] at hk0 hic hi0 hwk hk HE HT HB ⊢
        clear e hq
        go_wp2_with (go_at_call 173; refine HT.out.mono ?_; rintro e w2 ⟨A2, n2, c2, rfl, ho, hb2⟩; have HO := Lib.hid ho; have HB2 := Lib.hid hb2; clear ho hb2)
        go_ret
        rw [HB.out, HE.out]
        exact ⟨A2, n2, c2, rfl, HO.out.wide (HD.out.below w.heap.size).size (Nat.le_refl _), (HD.out.below _).trans (HB2.out.mono (HD.out.below w.heap.size).size)⟩
set_option maxRecDepth 100000 in
set_option maxHeartbeats 800000 in
/-- The rows of an array, up to the first one that is not above 0. -/
theorem rowsShape_any (l : List Int) (w : World) (hl : l.length = 16) :
    Calls Try.prog 185 #[arr16 l] w fun e w' => ∃ q, q ≤ 16 ∧ (∀ j, j < q → 0 < nth l j) ∧ (q = 16 ∨ ¬ 0 < nth l q) ∧ Fresh w w' e (l.take q) := by
  have HL := Lib.hid hl
  obtain ⟨w0, hw0⟩ : ∃ w0, w0 = w.alloc (.cells (arrD l) 98) := ⟨_, rfl⟩
  obtain ⟨g, hg⟩ : ∃ g, g = w.heap.size := ⟨_, rfl⟩
  have HB0 : Hid (Below w.heap.size w w0) := Lib.hid (by rw [hw0]; exact Below.alloc_self _ _)
  have HK0 : Hid (Blk w0 g 98 (arrD l)) := Lib.hid (by rw [hw0, hg]; exact Blk.new _ _ _)
  clear hl
  go_enter Try.func185, Try.ntmps185
  go_upto_region 1 with fail
  rw [← hw0, ← hg]
  clear hw0 hg
  generalize arr16 l = va
  go_wp2
  go_loopw [3] (fun i wr => ∃ k : Nat, k ≤ 16 ∧ i = .int .i64 k ∧ Drawn w0 wr ∧ ∀ j, j < k → 0 < nth l j)
    (fun i _ => 16 - (intOf i).toNat)
  case atStart => exact ⟨0, Nat.zero_le _, rfl, Drawn.refl _, fun j hj => absurd hj (by omega)⟩
  case round =>
    obtain ⟨k, hk, rfl, hD, hall⟩ := hrel
    have HA := Lib.hid hall
    have HD := Lib.hid hD
    have HK := Lib.hid (HK0.out.drawn hD)
    have HBR : Hid (Below w.heap.size w wr) := Lib.hid (HB0.out.trans ((hD.below _).mono HB0.out.size))
    have hcl := clone_any (some ⟨g, 0, none⟩) k 16 (l.take k) wr (SI.of_rows HK.out hk HL.out) (by intro h; cases h) (by omega)
    have HCL := Lib.hid hcl
    have hsl := fun wx => sliceRows_to ⟨g, 0, none⟩ k hk wx
    clear hall hD hcl
    by_cases hlt : k < 16
    · have hkI : (k : Int) < 16 := by omega
      have hc1 : wr.cell? ⟨g, k, none⟩ = some (.int .i64 (nth l k)) := by rw [HK.out.cell, arrD_get _ _ hlt]
      obtain ⟨x, hx⟩ : ∃ x, x = nth l k := ⟨_, rfl⟩
      rw [← hx] at hc1
      have HX := Lib.hid hx
      clear hx
      by_cases h0 : 0 < x
      · clear hsl
        go_wp2
        go_roundw
        case rel => exact ⟨k + 1, by omega, by go_num, HD.out, fun j hj => by
          rcases Nat.lt_or_ge j k with h | h
          · exact HA.out j h
          · obtain rfl : j = k := by omega
            rw [← HX.out]; exact h0⟩
        case measure => simp [intOf]; omega
      · go_wp2_with (go_at_call 190; refine HCL.out.mono ?_; rintro e w2 ⟨A2, n2, c2, rfl, ho, hb2⟩; have HO := Lib.hid ho; have HB2 := Lib.hid hb2; clear ho hb2)
        go_ret
        exact ⟨k, hk, HA.out, .inr (by rw [← HX.out]; exact h0), A2, n2, c2, rfl, HO.out.wide HBR.out.size (Nat.le_refl _), HBR.out.trans (HB2.out.mono HBR.out.size)⟩
    · have hk16 : k = 16 := by omega
      subst hk16
      go_wp2_with (go_at_call 190; refine HCL.out.mono ?_; rintro e w2 ⟨A2, n2, c2, rfl, ho, hb2⟩; have HO := Lib.hid ho; have HB2 := Lib.hid hb2; clear ho hb2)
      go_ret
      exact ⟨16, hk, HA.out, .inl rfl, A2, n2, c2, rfl, HO.out.wide HBR.out.size (Nat.le_refl _), HBR.out.trans (HB2.out.mono HBR.out.size)⟩
/-- A list that nowhere rises and is nowhere below 0: both ways to strike its zeros are one. -/
theorem bare_one {l : List Int} {n q : Nat} (hn : l.length = n) (h0 : ∀ j, 0 ≤ nth l j) (hd : ∀ i j, i ≤ j → nth l j ≤ nth l i) (hq : ∀ j, j < q → 0 < nth l j) (hq' : ¬ 0 < nth l q) : q = bareN l n := by
  have h1 := bareN_le l n
  rcases Nat.lt_trichotomy q (bareN l n) with h | h | h
  · rcases bareN_last l n with h2 | h2
    · omega
    · have := hd q (bareN l n - 1) (by omega)
      have := h0 (bareN l n - 1)
      omega
  · exact h
  · have := hq (bareN l n) h
    by_cases hb : bareN l n < n
    · rw [bareN_out l n _ (Nat.le_refl _) hb] at this; omega
    · rw [nth_out (by omega)] at this; omega
end Go.Proofs.Ytjpoliibljjhnaa

/-
  ShapeOfPerm on both sides. Conditions: lengths below 2^40.
-/


namespace Go.Proofs.Ytjpoliibljjhnaa
open Go.RowKit

/-- The lengths of the rows, of which there are j, of a permutation whose descent is at d. -/
def sopN (xs : List Int) (d j : Nat) : List Int := (List.range j).map fun (t : Nat) => nth xs (d - t) - ((d - t : Nat) : Int)
theorem sopN_len (xs : List Int) (d j : Nat) : (sopN xs d j).length = j := by simp [sopN]
theorem sopN_succ (xs : List Int) (d j : Nat) : sopN xs d (j + 1) = sopN xs d j ++ [nth xs (d - j) - ((d - j : Nat) : Int)] := by simp [sopN, List.range_succ]
theorem sopN_nth {xs : List Int} {d j t : Nat} (h : t < j) : nth (sopN xs d j) t = nth xs (d - t) - ((d - t : Nat) : Int) := by
  rw [nth_get (by rw [sopN_len]; exact h)]; simp [sopN]
def sopOk (xs : List Int) : Bool := decide ((descPerm xs).length = 1)
def sopD (xs : List Int) : Nat := (nth (descPerm xs) 0).toNat
def sopK (xs : List Int) : Int := if sopOk xs = true then (sopD xs : Int) + 1 else 0
def sopS (xs : List Int) : List Int := if sopOk xs = true then (sopN xs (sopD xs) (sopD xs + 1)).take (bareN (sopN xs (sopD xs) (sopD xs + 1)) (sopD xs + 1)) else []
theorem sop_no {xs : List Int} (h : sopOk xs = false) : sopK xs = 0 ∧ sopS xs = [] := by unfold sopK sopS; rw [h]; exact ⟨rfl, rfl⟩
theorem sop_yes {xs : List Int} (h : sopOk xs = true) {d : Nat} (hd : sopD xs = d) : sopK xs = (d : Int) + 1 ∧ sopS xs = (sopN xs d (d + 1)).take (bareN (sopN xs d (d + 1)) (d + 1)) := by subst hd; unfold sopK sopS; rw [h]; exact ⟨rfl, rfl⟩
theorem descL_inS {xs : List Int} : ∀ {n : Nat} {x : Int}, x ∈ descL xs n → ∃ k : Nat, k < n ∧ x = k ∧ nth xs (k + 1) < nth xs k
  | 0, x, h => by simp [descL] at h
  | n + 1, x, h => by
    by_cases hc : nth xs (n + 1) < nth xs n
    · rw [descL_hit hc] at h
      rcases List.mem_append.1 h with h | h
      · obtain ⟨k, h1, h2⟩ := descL_inS h; exact ⟨k, by omega, h2⟩
      · exact ⟨n, by omega, List.mem_singleton.1 h, hc⟩
    · rw [descL_miss hc] at h
      obtain ⟨k, h1, h2⟩ := descL_inS h; exact ⟨k, by omega, h2⟩
theorem descL_all {xs : List Int} : ∀ {n k : Nat}, k < n → nth xs (k + 1) < nth xs k → (k : Int) ∈ descL xs n
  | 0, k, h, _ => absurd h (by omega)
  | n + 1, k, h, hk => by
    by_cases hkn : k = n
    · subst hkn; rw [descL_hit hk]; simp
    · have := descL_all (n := n) (by omega) hk
      by_cases hc : nth xs (n + 1) < nth xs n
      · rw [descL_hit hc]; exact List.mem_append.2 (.inl this)
      · rw [descL_miss hc]; exact this
structure SopF (xs : List Int) (d : Nat) : Prop where
  perm : isPermP xs
  desc : descPerm xs = [(d : Int)]
  lt : d + 1 < xs.length
  up : ∀ i, i < d → nth xs i < nth xs (i + 1)
theorem sop_facts {xs : List Int} (h : sopOk xs = true) : ∃ d, sopD xs = d ∧ SopF xs d := by
  unfold sopOk at h
  have h1 : (descPerm xs).length = 1 := of_decide_eq_true h
  obtain ⟨x, hx⟩ : ∃ x, descPerm xs = [x] := by
    match hd : descPerm xs, h1 with
    | [x], _ => exact ⟨x, rfl⟩
  have hb : isPermB xs = true := by
    cases hb : isPermB xs with
    | true => rfl
    | false => rw [descPerm_no hb] at hx; cases hx
  have hp := isPermB_P hb
  have hdl := hx
  rw [descPerm_yes hb] at hdl
  obtain ⟨d, h2, rfl, h4⟩ := descL_inS (xs := xs) (n := xs.length - 1) (x := x) (by rw [hdl]; simp)
  refine ⟨d, by unfold sopD; rw [hx]; simp [nth], hp, hx, by omega, fun i hi => ?_⟩
  have hne : ¬ nth xs (i + 1) < nth xs i := fun hlt => by
    have := descL_all (xs := xs) (n := xs.length - 1) (k := i) (by omega) hlt
    rw [hdl] at this
    have := List.mem_singleton.1 this
    omega
  have hd : nth xs i ≠ nth xs (i + 1) := fun e => by
    have h5 := (hp.2.2 (i + 1) (by omega)).2.2
    simp only [hasB, decide_eq_false_iff_not] at h5
    apply h5
    rw [← e, ← nth_take (show i < i + 1 by omega), nth_get (by rw [List.length_take]; omega)]
    exact List.getElem_mem _
  omega
theorem sopS_small (xs : List Int) : (sopS xs).length ≤ 1099511627775 := by
  cases hu : sopOk xs with
  | false => rw [(sop_no hu).2]; simp
  | true =>
    obtain ⟨d, hd, hf⟩ := sop_facts hu
    rw [(sop_yes hu hd).2, List.length_take, sopN_len]
    have := hf.lt; have := hf.perm.2.1
    omega
theorem SopF.ge {xs : List Int} {d : Nat} (h : SopF xs d) : ∀ i, i ≤ d → (i : Int) ≤ nth xs i
  | 0, _ => (h.perm.range 0 (by have := h.lt; omega)).1
  | i + 1, hi => by have := h.ge i (by omega); have := h.up i (by omega); omega
theorem SopF.le7 {xs : List Int} {d : Nat} (h : SopF xs d) : d ≤ 5 ∧ ∀ i, i ≤ d → 0 ≤ nth xs i ∧ nth xs i ≤ 6 := by
  have := h.lt; have := h.perm.2.1
  exact ⟨by omega, fun i hi => by have := h.perm.range i (by omega); omega⟩
theorem SopF.nonneg {xs : List Int} {d : Nat} (h : SopF xs d) (j : Nat) : 0 ≤ nth (sopN xs d (d + 1)) j := by
  by_cases hj : j < d + 1
  · rw [sopN_nth hj]; have := h.ge (d - j) (by omega); omega
  · rw [nth_out (by rw [sopN_len]; omega)]; exact Int.le_refl _
theorem SopF.down {xs : List Int} {d : Nat} (h : SopF xs d) : ∀ i j, i ≤ j → nth (sopN xs d (d + 1)) j ≤ nth (sopN xs d (d + 1)) i := by
  have step : ∀ i, nth (sopN xs d (d + 1)) (i + 1) ≤ nth (sopN xs d (d + 1)) i := fun i => by
    by_cases hi : i + 1 < d + 1
    · rw [sopN_nth hi, sopN_nth (by omega)]
      have := h.up (d - (i + 1)) (by omega)
      rw [show d - (i + 1) + 1 = d - i by omega] at this
      omega
    · rw [nth_out (by rw [sopN_len]; omega)]; exact h.nonneg i
  intro i j hij
  induction j with
  | zero => obtain rfl : i = 0 := by omega
            exact Int.le_refl _
  | succ j ih =>
    by_cases hi : i = j + 1
    · subst hi; exact Int.le_refl _
    · exact Int.le_trans (step j) (ih (by omega))
/-- What a call that answers a list, a number and a Bool hands back. -/
def FreshIB (w w' : World) (e : Ending) (ys : List Int) (k : Int) (b : Bool) : Prop :=
  ∃ A n c, e = .returned (.tuple #[.slice A n c, .int .i64 k, .bool b]) ∧ Own w' w.heap.size w'.heap.size A n c ys ∧ Below w.heap.size w w'
theorem FreshIB.nil_ret {w w' : World} (h : Below w.heap.size w w') : FreshIB w w' (.returned (.tuple #[.slice none 0 0, .int .i64 0, .bool false])) [] 0 false := ⟨none, 0, 0, rfl, Own.nil _ _ _, h⟩
/-- The rows when i numbers are taken. -/
def rowP (xs : List Int) (d i : Nat) : List Int := (List.range 16).map fun (t : Nat) => if d < t + i ∧ t ≤ d then nth xs (d - t) - ((d - t : Nat) : Int) else 0
theorem rowP_len (xs : List Int) (d i : Nat) : (rowP xs d i).length = 16 := by simp [rowP]
theorem rowP_nth {xs : List Int} {d i t : Nat} (h : t < 16) : nth (rowP xs d i) t = if d < t + i ∧ t ≤ d then nth xs (d - t) - ((d - t : Nat) : Int) else 0 := by
  rw [nth_get (by rw [rowP_len]; exact h)]; simp [rowP]
theorem rowP_step {xs : List Int} {d i : Nat} (hd : d ≤ 15) (hi : i ≤ d) : (rowP xs d i).set (d - i) (nth xs i - (i : Int)) = rowP xs d (i + 1) := by
  refine list_ext_nth (by simp [rowP_len]) fun k hk => ?_
  have hk' : k < 16 := by simpa [rowP_len] using hk
  rw [nth_set _ (by rw [rowP_len]; omega), rowP_nth hk', rowP_nth hk']
  by_cases h : k = d - i
  · rw [if_pos h, if_pos (by omega), h, show d - (d - i) = i by omega]
  · rw [if_neg h]
    by_cases h2 : d < k + i ∧ k ≤ d
    · rw [if_pos h2, if_pos (by omega)]
    · rw [if_neg h2, if_neg (by omega)]
theorem rowP_zero (xs : List Int) (d : Nat) : arrD (rowP xs d 0) = zero16 := by
  have h : ∀ k, k < 16 → nth (rowP xs d 0) k = 0 := fun k hk => by rw [rowP_nth hk, if_neg (by omega)]
  simp only [arrD, h 0 (by omega), h 1 (by omega), h 2 (by omega), h 3 (by omega), h 4 (by omega), h 5 (by omega), h 6 (by omega), h 7 (by omega), h 8 (by omega), h 9 (by omega), h 10 (by omega), h 11 (by omega), h 12 (by omega), h 13 (by omega), h 14 (by omega), h 15 (by omega)]
theorem rowP_all {xs : List Int} {d : Nat} (hd : d ≤ 15) (k : Nat) : nth (rowP xs d (d + 1)) k = nth (sopN xs d (d + 1)) k := by
  by_cases hk : k < d + 1
  · rw [rowP_nth (by omega), sopN_nth hk, if_pos (by omega)]
  · rw [nth_out (xs := sopN xs d (d + 1)) (by rw [sopN_len]; omega)]
    by_cases h16 : k < 16
    · rw [rowP_nth h16, if_neg (by omega)]
    · rw [nth_out (by rw [rowP_len]; omega)]
theorem load_rows {w : World} {g : Nat} {l : List Int} (h : Blk w g 98 (arrD l)) : (loadVar 98 ⟨g, 0, none⟩).run Try.prog w = .ok (arr16 l) w :=
  run_loadVar_row w g 98 98 (arrD l) (0, 0) _ h Try.undRows rfl (by rw [Try.infoRows]; rfl)
end Go.Proofs.Ytjpoliibljjhnaa

/-
  Strings of zeros and ones and their shapes: the model of both sides. No conditions.
-/


namespace Go.Proofs.Ytjpoliibljjhnaa
open Go.RowKit

/-- Is the list a string. -/
def strP (xs : List Int) : Prop := 1 ≤ xs.length ∧ xs.length ≤ 7 ∧ ∀ k, k < xs.length → 0 ≤ nth xs k ∧ nth xs k ≤ 1
def strB (xs : List Int) : Bool := decide (1 ≤ xs.length) && decide (xs.length ≤ 7) && (List.range xs.length).all fun k => decide (0 ≤ nth xs k ∧ nth xs k ≤ 1)
theorem strB_iff (xs : List Int) : strB xs = true ↔ strP xs := by simp [strB, strP, and_assoc]
theorem strB_P {xs : List Int} (h : strB xs = true) : strP xs := (strB_iff xs).1 h
theorem strB_true {xs : List Int} (h : strP xs) : strB xs = true := (strB_iff xs).2 h
theorem strB_false {xs : List Int} (h : ¬ strP xs) : strB xs = false := by
  cases hb : strB xs with
  | false => rfl
  | true => exact absurd (strB_P hb) h
/-- How many zeros, how many others there are among the first k numbers. -/
def zerN (xs : List Int) : Nat → Nat
  | 0 => 0
  | k + 1 => if nth xs k = 0 then zerN xs k + 1 else zerN xs k
def oneN (xs : List Int) : Nat → Nat
  | 0 => 0
  | k + 1 => if nth xs k = 0 then oneN xs k else oneN xs k + 1
theorem zer_one (xs : List Int) : ∀ k, zerN xs k + oneN xs k = k
  | 0 => rfl
  | k + 1 => by have := zer_one xs k; unfold zerN oneN; split <;> omega
theorem one_le (xs : List Int) : ∀ {j k : Nat}, j ≤ k → oneN xs j ≤ oneN xs k
  | j, 0, h => by obtain rfl : j = 0 := by omega
                  exact Nat.le_refl _
  | j, k + 1, h => by
    by_cases e : j = k + 1
    · subst e; exact Nat.le_refl _
    · have := one_le xs (j := j) (k := k) (by omega)
      have e2 : oneN xs (k + 1) = if nth xs k = 0 then oneN xs k else oneN xs k + 1 := rfl
      rw [e2]
      split <;> omega
theorem sum_one {xs : List Int} : ∀ {k : Nat}, (∀ j, j < k → 0 ≤ nth xs j ∧ nth xs j ≤ 1) → sumN xs k = (oneN xs k : Int)
  | 0, _ => rfl
  | k + 1, h => by
    have h1 := sum_one (k := k) fun j hj => h j (by omega)
    have h2 := h k (by omega)
    have e : sumN xs (k + 1) = sumN xs k + nth xs k := rfl
    have e2 : oneN xs (k + 1) = if nth xs k = 0 then oneN xs k else oneN xs k + 1 := rfl
    rw [e, e2, h1]
    split <;> omega
/-- A row for each one, the last one's first. -/
def shpL (xs : List Int) : Nat → List Int
  | 0 => []
  | k + 1 => if nth xs k = 0 then shpL xs k else (zerN xs k : Int) :: shpL xs k
theorem shpL_zero {xs : List Int} {k : Nat} (h : nth xs k = 0) : shpL xs (k + 1) = shpL xs k := if_pos h
theorem shpL_one {xs : List Int} {k : Nat} (h : nth xs k ≠ 0) : shpL xs (k + 1) = (zerN xs k : Int) :: shpL xs k := if_neg h
theorem zerN_zero {xs : List Int} {k : Nat} (h : nth xs k = 0) : zerN xs (k + 1) = zerN xs k + 1 := if_pos h
theorem zerN_one {xs : List Int} {k : Nat} (h : nth xs k ≠ 0) : zerN xs (k + 1) = zerN xs k := if_neg h
theorem oneN_zero {xs : List Int} {k : Nat} (h : nth xs k = 0) : oneN xs (k + 1) = oneN xs k := if_pos h
theorem oneN_one {xs : List Int} {k : Nat} (h : nth xs k ≠ 0) : oneN xs (k + 1) = oneN xs k + 1 := if_neg h
theorem shpL_len (xs : List Int) : ∀ k, (shpL xs k).length = oneN xs k
  | 0 => rfl
  | k + 1 => by
    by_cases h : nth xs k = 0
    · rw [shpL_zero h, oneN_zero h, shpL_len xs k]
    · rw [shpL_one h, oneN_one h, List.length_cons, shpL_len xs k]
theorem nth_cons0 (x : Int) (l : List Int) : nth (x :: l) 0 = x := rfl
theorem nth_consS (x : Int) (l : List Int) (j : Nat) : nth (x :: l) (j + 1) = nth l j := by simp [nth, List.getD]
theorem shpL_range (xs : List Int) : ∀ k j, 0 ≤ nth (shpL xs k) j ∧ nth (shpL xs k) j ≤ (zerN xs k : Int)
  | 0, j => by simp [shpL, nth, zerN]
  | k + 1, j => by
    have ih := shpL_range xs k
    by_cases h : nth xs k = 0
    · rw [shpL_zero h, zerN_zero h]
      have := ih j
      omega
    · rw [shpL_one h, zerN_one h]
      cases j with
      | zero => rw [nth_cons0]; omega
      | succ j => rw [nth_consS]; exact ih j
theorem shpL_down (xs : List Int) : ∀ k i j, i ≤ j → nth (shpL xs k) j ≤ nth (shpL xs k) i
  | 0, i, j, _ => by simp [shpL, nth]
  | k + 1, i, j, hij => by
    have ih := shpL_down xs k
    by_cases h : nth xs k = 0
    · rw [shpL_zero h]; exact ih i j hij
    · rw [shpL_one h]
      cases i with
      | zero =>
        rw [nth_cons0]
        cases j with
        | zero => rw [nth_cons0]; exact Int.le_refl _
        | succ j => rw [nth_consS]; exact (shpL_range xs k j).2
      | succ i =>
        cases j with
        | zero => omega
        | succ j => rw [nth_consS, nth_consS]; exact ih i j (by omega)
/-- The sixteen places when j numbers are read: n numbers in all. -/
def rowL (xs : List Int) (n j : Nat) : List Int := List.replicate (oneN xs n - oneN xs j) 0 ++ (shpL xs j ++ List.replicate (16 - oneN xs n) 0)
theorem rowL_len {xs : List Int} {n j : Nat} (hj : j ≤ n) (hn : n ≤ 16) : (rowL xs n j).length = 16 := by
  have h1 := one_le xs hj
  have h2 := zer_one xs n
  unfold rowL
  rw [List.length_append, List.length_append, List.length_replicate, List.length_replicate, shpL_len]
  omega
theorem rowL_start {xs : List Int} {n : Nat} (hn : n ≤ 16) : rowL xs n 0 = List.replicate 16 0 := by
  have h2 := zer_one xs n
  show List.replicate (oneN xs n - 0) 0 ++ ([] ++ List.replicate (16 - oneN xs n) 0) = _
  rw [List.nil_append, List.replicate_append_replicate]
  congr 1; omega
theorem rowL_same {xs : List Int} {n j : Nat} (h : nth xs j = 0) : rowL xs n (j + 1) = rowL xs n j := by
  unfold rowL; rw [shpL_zero h, oneN_zero h]
theorem rowL_set {xs : List Int} {n j : Nat} (hj : j < n) (h : nth xs j ≠ 0) : (rowL xs n j).set (oneN xs n - oneN xs j - 1) (zerN xs j : Int) = rowL xs n (j + 1) := by
  have h1 := one_le xs (j := j + 1) (k := n) hj
  rw [oneN_one h] at h1
  unfold rowL
  rw [shpL_one h, oneN_one h]
  have e : oneN xs n - oneN xs j = (oneN xs n - (oneN xs j + 1)) + 1 := by omega
  rw [e, List.replicate_succ', Nat.add_sub_cancel, List.append_assoc, List.set_append_right _ _ (by simp)]
  simp
theorem rowL_end (xs : List Int) (n : Nat) : rowL xs n n = shpL xs n ++ List.replicate (16 - oneN xs n) 0 := by unfold rowL; simp
theorem rowL_nth (xs : List Int) (n k : Nat) : nth (rowL xs n n) k = nth (shpL xs n) k := by
  rw [rowL_end]
  by_cases h : k < (shpL xs n).length
  · simp [nth, List.getD, List.getElem?_append, h]
  · rw [nth_out (xs := shpL xs n) (by omega)]
    unfold nth
    rw [List.getD_eq_getElem?_getD, List.getElem?_append_right (by omega), List.getElem?_replicate]
    split <;> rfl
/-- The rows of a string. -/
def bareS (xs : List Int) (n : Nat) : List Int := (shpL xs n).take (bareN (shpL xs n) (oneN xs n))
/-- What ShapeOfString answers. -/
def sosS (xs : List Int) : List Int := if strB xs = true then bareS xs xs.length else []
def sosK (xs : List Int) : Int := if strB xs = true then (oneN xs xs.length : Int) else 0
theorem sos_no {xs : List Int} (h : strB xs = false) : sosS xs = [] ∧ sosK xs = 0 := by unfold sosS sosK; rw [if_neg (by rw [h]; decide), if_neg (by rw [h]; decide)]; exact ⟨rfl, rfl⟩
theorem sos_yes {xs : List Int} (h : strB xs = true) : sosS xs = bareS xs xs.length ∧ sosK xs = (oneN xs xs.length : Int) := by unfold sosS sosK; rw [if_pos h, if_pos h]; exact ⟨rfl, rfl⟩
theorem sosS_small (xs : List Int) : (sosS xs).length ≤ 1099511627775 := by
  unfold sosS
  split
  · rename_i h
    have h7 := (strB_P h).2.1
    have h1 := zer_one xs xs.length
    unfold bareS
    rw [List.length_take, shpL_len]
    omega
  · simp
/-- The string of a shape when i ones are written. -/
def soF (xs : List Int) (k m : Nat) : Nat → List Int
  | 0 => List.replicate m 0
  | i + 1 => (soF xs k m i).set ((i : Int) + nth xs (k - 1 - i)).toNat 1
theorem soF_len (xs : List Int) (k m : Nat) : ∀ i, (soF xs k m i).length = m
  | 0 => by simp [soF]
  | i + 1 => by unfold soF; rw [List.length_set]; exact soF_len xs k m i
/-- What StringOfShape answers. -/
def strOf (xs : List Int) (k m : Int) : List Int := if boxB xs k m = true then soF xs k.toNat m.toNat k.toNat else []
theorem strOf_no {xs : List Int} {k m : Int} (h : boxB xs k m = false) : strOf xs k m = [] := by unfold strOf; rw [if_neg (by rw [h]; decide)]
theorem strOf_yes {xs : List Int} {k m : Nat} (h : boxB xs (k : Int) (m : Int) = true) : strOf xs (k : Int) (m : Int) = soF xs k m k := by unfold strOf; rw [if_pos h, Int.toNat_natCast, Int.toNat_natCast]
theorem strOf_small (xs : List Int) (k m : Int) : (strOf xs k m).length ≤ 1099511627775 := by
  unfold strOf
  split
  · rename_i h
    have hp := boxB_P h
    rw [soF_len]
    have := hp.2.1
    omega
  · simp
theorem box_place {xs : List Int} {k m i : Nat} (hp : boxP xs (k : Int) (m : Int)) (hi : i < k) : 0 ≤ (i : Int) + nth xs (k - 1 - i) ∧ (i : Int) + nth xs (k - 1 - i) < (m : Int) := by
  have hs := hp.2.2.2.2.1
  have h0 := (shape_range hs (k - 1 - i)).1
  have h1 : ∀ t, nth xs t ≤ (m : Int) - (k : Int) := by
    intro t
    induction t with
    | zero => exact hp.2.2.2.2.2.2
    | succ t ih =>
      by_cases h : t + 1 < xs.length
      · have h2 := (hs.2 (t + 1) h).2
        have e : prevS xs (t + 1) = nth xs t := rfl
        omega
      · rw [nth_out (by omega)]
        have := hp.2.2.2.1
        omega
  have := h1 (k - 1 - i)
  omega
end Go.Proofs.Ytjpoliibljjhnaa

/-
  Puzzles: the model of both sides. No conditions.
-/

namespace Go.Proofs.Ytjpoliibljjhnaa
open Go.RowKit

/-- The number of small triangles above a row. -/
def tri : Nat → Nat
  | 0 => 0
  | r + 1 => tri r + (r + 1)
theorem tri_succ (r : Nat) : tri (r + 1) = tri r + (r + 1) := rfl
theorem tri_le : ∀ {a b : Nat}, a ≤ b → tri a ≤ tri b
  | a, 0, h => by obtain rfl : a = 0 := by omega
                  exact Nat.le_refl _
  | a, b + 1, h => by
    by_cases e : a = b + 1
    · subst e; exact Nat.le_refl _
    · have := tri_le (a := a) (b := b) (by omega)
      rw [tri_succ]; omega
theorem tri_lt {a b k : Nat} (h : a < b) (hk : k ≤ a) : tri a + k < tri b := by
  have := tri_le (a := a + 1) (b := b) h
  rw [tri_succ] at this
  omega
theorem tri_small {r : Nat} (h : r ≤ 8) : tri r ≤ 36 := by
  have := tri_le (a := r) (b := 8) h
  have e : tri 8 = 36 := rfl
  omega
abbrev Tr := Int × Int × Int
/-- The right triples, in ascending order. -/
def rightL (wt : Bool) : List Tr := if wt then [(0, 0, 0), (0, 1, 2), (1, 0, 3), (1, 1, 1), (1, 2, 0), (2, 0, 1)] else [(0, 0, 0), (0, 1, 2), (1, 1, 1), (1, 2, 0), (2, 0, 1)]
/-- The small triangle k of a row, and the one on its tip ahead of it. -/
def triA (x1 x2 x3 : List Int) (r k : Nat) : Tr := (nth x1 (tri r + k), nth x2 (tri r + k), nth x3 (tri r + k))
def tipA (x1 x2 x3 : List Int) (r k : Nat) : Tr := (nth x1 (tri r + k), nth x2 (tri r + k - 1), nth x3 (tri (r - 1) + (k - 1)))
/-- The lists have the right lengths. -/
def lensP (s : Int) (x1 x2 x3 : List Int) : Prop := 1 ≤ s ∧ s ≤ 7 ∧ x1.length = tri s.toNat ∧ x2.length = tri s.toNat ∧ x3.length = tri s.toNat
def lensB (s : Int) (x1 x2 x3 : List Int) : Bool := decide (1 ≤ s) && decide (s ≤ 7) && decide (x1.length = tri s.toNat) && decide (x2.length = tri s.toNat) && decide (x3.length = tri s.toNat)
theorem lensB_iff (s : Int) (x1 x2 x3 : List Int) : lensB s x1 x2 x3 = true ↔ lensP s x1 x2 x3 := by simp [lensB, lensP, and_assoc]
/-- The sides of the whole triangle have no label but 0 and 1 in row r. -/
def sideP (m : Nat) (x1 x2 x3 : List Int) (r : Nat) : Prop :=
  (0 ≤ nth x1 (tri r) ∧ nth x1 (tri r) ≤ 1) ∧ (0 ≤ nth x2 (tri r + r) ∧ nth x2 (tri r + r) ≤ 1) ∧ (0 ≤ nth x3 (tri (m - 1) + r) ∧ nth x3 (tri (m - 1) + r) ≤ 1)
/-- Is it a puzzle (a weighted one). -/
def pzP (wt : Bool) (s : Int) (x1 x2 x3 : List Int) : Prop :=
  lensP s x1 x2 x3 ∧ (∀ r, r < s.toNat → ∀ k, k ≤ r → triA x1 x2 x3 r k ∈ rightL wt ∧ (0 < k → tipA x1 x2 x3 r k ∈ rightL wt)) ∧ ∀ r, r < s.toNat → sideP s.toNat x1 x2 x3 r
instance (m : Nat) (x1 x2 x3 : List Int) (r : Nat) : Decidable (sideP m x1 x2 x3 r) := by unfold sideP; infer_instance
def pzB (wt : Bool) (s : Int) (x1 x2 x3 : List Int) : Bool :=
  lensB s x1 x2 x3 && ((List.range s.toNat).all fun r => (List.range (r + 1)).all fun k => decide (triA x1 x2 x3 r k ∈ rightL wt) && (decide (k = 0) || decide (tipA x1 x2 x3 r k ∈ rightL wt))) && (List.range s.toNat).all fun r => decide (sideP s.toNat x1 x2 x3 r)
theorem pzB_iff (wt : Bool) (s : Int) (x1 x2 x3 : List Int) : pzB wt s x1 x2 x3 = true ↔ pzP wt s x1 x2 x3 := by
  unfold pzB pzP
  rw [Bool.and_eq_true, Bool.and_eq_true, lensB_iff, and_assoc]
  refine and_congr_right fun _ => and_congr ?_ (by simp)
  simp only [List.all_eq_true, List.mem_range, Bool.and_eq_true, Bool.or_eq_true, decide_eq_true_eq]
  constructor
  · intro h r hr k hk
    obtain ⟨h1, h2⟩ := h r hr k (by omega)
    exact ⟨h1, fun hk0 => h2.resolve_left (by omega)⟩
  · intro h r hr k hk
    obtain ⟨h1, h2⟩ := h r hr k (by omega)
    refine ⟨h1, ?_⟩
    by_cases e : k = 0
    · exact .inl e
    · exact .inr (h2 (by omega))
theorem pzB_true {wt : Bool} {s : Int} {x1 x2 x3 : List Int} (h : pzP wt s x1 x2 x3) : pzB wt s x1 x2 x3 = true := (pzB_iff _ _ _ _ _).2 h
theorem pzB_false {wt : Bool} {s : Int} {x1 x2 x3 : List Int} (h : ¬ pzP wt s x1 x2 x3) : pzB wt s x1 x2 x3 = false := by
  cases hb : pzB wt s x1 x2 x3 with
  | false => rfl
  | true => exact absurd ((pzB_iff _ _ _ _ _).1 hb) h
/-- The label below two others, and that at the right side of a small triangle on its tip. -/
def upF (l r : Int) (wt : Bool) : Int :=
  if l = r ∧ l ≤ 1 then l else if l = 0 ∧ r = 1 then 2 else if l = 1 ∧ r = 2 then 0 else if l = 2 ∧ r = 0 then 1 else if l = 1 ∧ r = 0 ∧ wt = true then 3 else -1
def dnF (l t : Int) : Int :=
  if l = t ∧ l ≤ 1 then l else if l = 1 ∧ t = 2 then 0 else if l = 2 ∧ t = 0 then 1 else if l = 0 ∧ t = 1 then 2 else if l = 0 ∧ t = 3 then 1 else -1
theorem right_mem {wt : Bool} {l r b : Int} : (l, r, b) ∈ rightL wt ↔ (l = 0 ∧ r = 0 ∧ b = 0 ∨ l = 0 ∧ r = 1 ∧ b = 2 ∨ (wt = true ∧ l = 1 ∧ r = 0 ∧ b = 3) ∨ l = 1 ∧ r = 1 ∧ b = 1 ∨ l = 1 ∧ r = 2 ∧ b = 0 ∨ l = 2 ∧ r = 0 ∧ b = 1) := by
  cases wt <;> simp [rightL]
theorem mem_right {wt : Bool} {l r b : Int} (h : (l, r, b) ∈ rightL wt) : (0 ≤ l ∧ l ≤ 2) ∧ (0 ≤ r ∧ r ≤ 2) ∧ (0 ≤ b ∧ b ≤ 3) ∧ upF l r wt = b := by
  rcases right_mem.1 h with ⟨rfl, rfl, rfl⟩ | ⟨rfl, rfl, rfl⟩ | ⟨rfl, rfl, rfl, rfl⟩ | ⟨rfl, rfl, rfl⟩ | ⟨rfl, rfl, rfl⟩ | ⟨rfl, rfl, rfl⟩ <;> simp [upF]
theorem up_right {wt : Bool} {l r b : Int} (hl : 0 ≤ l ∧ l ≤ 2) (hr : 0 ≤ r ∧ r ≤ 2) (hb : 0 ≤ b) (h : upF l r wt = b) : (l, r, b) ∈ rightL wt := by
  have h1 : l = 0 ∨ l = 1 ∨ l = 2 := by omega
  have h2 : r = 0 ∨ r = 1 ∨ r = 2 := by omega
  rw [right_mem]
  rcases h1 with rfl | rfl | rfl <;> rcases h2 with rfl | rfl | rfl <;> cases wt <;> simp [upF] at h <;> simp <;> omega
theorem tip_right {wt : Bool} {l r b : Int} (h : (l, r, b) ∈ rightL wt) : dnF r b = l := by
  rcases right_mem.1 h with ⟨rfl, rfl, rfl⟩ | ⟨rfl, rfl, rfl⟩ | ⟨rfl, rfl, rfl, rfl⟩ | ⟨rfl, rfl, rfl⟩ | ⟨rfl, rfl, rfl⟩ | ⟨rfl, rfl, rfl⟩ <;> simp [dnF]
theorem right_tip {wt : Bool} {l r b : Int} (hl : 0 ≤ l ∧ l ≤ 2) (hr : 0 ≤ r ∧ r ≤ 2) (hb : 0 ≤ b ∧ b ≤ 3) (hw : b = 3 → wt = true) (h : dnF r b = l) : (l, r, b) ∈ rightL wt := by
  have h1 : r = 0 ∨ r = 1 ∨ r = 2 := by omega
  have h2 : b = 0 ∨ b = 1 ∨ b = 2 ∨ b = 3 := by omega
  rw [right_mem]
  rcases h1 with rfl | rfl | rfl <;> rcases h2 with rfl | rfl | rfl | rfl <;> simp [dnF] at h <;> simp <;> first | omega | (have := hw rfl; simp_all; done) | (simp_all; done)
theorem mem_three {wt : Bool} {l r b : Int} (h : (l, r, b) ∈ rightL wt) (h3 : b = 3) : wt = true := by
  subst h3
  rcases right_mem.1 h with ⟨_, _, h⟩ | ⟨_, _, h⟩ | ⟨h, _⟩ | ⟨_, _, h⟩ | ⟨_, _, h⟩ | ⟨_, _, h⟩ <;> first | exact h | omega
/-- What the document asks at a small triangle. -/
def atP (wt : Bool) (m : Nat) (x1 x2 x3 : List Int) (r k : Nat) : Prop :=
  (0 ≤ nth x1 (tri r + k) ∧ nth x1 (tri r + k) ≤ 2) ∧ (0 ≤ nth x2 (tri r + k) ∧ nth x2 (tri r + k) ≤ 2) ∧ 0 ≤ nth x3 (tri r + k) ∧ upF (nth x1 (tri r + k)) (nth x2 (tri r + k)) wt = nth x3 (tri r + k) ∧
  (k < r → dnF (nth x2 (tri r + k)) (nth x3 (tri (r - 1) + k)) = nth x1 (tri r + (k + 1))) ∧
  (r = m - 1 → nth x3 (tri r + k) ≤ 1) ∧ (k = 0 → nth x1 (tri r + k) ≤ 1) ∧ (k = r → nth x2 (tri r + k) ≤ 1)
theorem at_of_pz {wt : Bool} {s : Int} {x1 x2 x3 : List Int} (h : pzP wt s x1 x2 x3) {r k : Nat} (hr : r < s.toNat) (hk : k ≤ r) : atP wt s.toNat x1 x2 x3 r k := by
  obtain ⟨_, ht, hs⟩ := h
  obtain ⟨h1, h2, h3, h4⟩ := mem_right (ht r hr k hk).1
  refine ⟨h1, h2, h3.1, h4, fun hkr => ?_, fun e => ?_, fun e => ?_, fun e => ?_⟩
  · have h5 := tip_right ((ht r hr (k + 1) (by omega)).2 (by omega))
    have e1 : tri r + (k + 1) - 1 = tri r + k := by omega
    have e2 : k + 1 - 1 = k := by omega
    rw [e1, e2] at h5
    exact h5
  · have h5 := (hs k (by omega)).2.2.2
    rw [e]; exact h5
  · subst e; exact (hs r hr).1.2
  · subst e; exact (hs k hr).2.1.2
theorem pz_of_at {wt : Bool} {s : Int} {x1 x2 x3 : List Int} (hl : lensP s x1 x2 x3) (h : ∀ r, r < s.toNat → ∀ k, k ≤ r → atP wt s.toNat x1 x2 x3 r k) : pzP wt s x1 x2 x3 := by
  have hT : ∀ r, r < s.toNat → ∀ k, k ≤ r → triA x1 x2 x3 r k ∈ rightL wt := fun r hr k hk => by
    obtain ⟨h1, h2, h3, h4, _⟩ := h r hr k hk
    exact up_right h1 h2 h3 h4
  refine ⟨hl, fun r hr k hk => ⟨hT r hr k hk, fun hk0 => ?_⟩, fun r hr => ⟨?_, ?_, ?_⟩⟩
  · obtain ⟨k, rfl⟩ : ∃ j, k = j + 1 := ⟨k - 1, by omega⟩
    have h5 := (h r hr k (by omega)).2.2.2.2.1 (by omega)
    have h6 := hT (r - 1) (by omega) k (by omega)
    obtain ⟨_, _, h7, _⟩ := mem_right h6
    have h8 := h r hr k (by omega)
    have h9 := h r hr (k + 1) hk
    have e1 : tri r + (k + 1) - 1 = tri r + k := by omega
    have e2 : k + 1 - 1 = k := by omega
    unfold tipA
    rw [e1, e2]
    exact right_tip h9.1 h8.2.1 h7 (fun e => mem_three h6 e) h5
  · have h1 := h r hr 0 (by omega)
    exact ⟨h1.1.1, h1.2.2.2.2.2.2.1 rfl⟩
  · have h1 := h r hr r (Nat.le_refl _)
    exact ⟨h1.2.1.1, h1.2.2.2.2.2.2.2 rfl⟩
  · have h1 := h (s.toNat - 1) (by omega) r (by omega)
    exact ⟨h1.2.2.1, h1.2.2.2.2.2.1 rfl⟩
/-- The three sides. -/
def sdA (m : Nat) (x1 : List Int) : List Int := (List.range m).map fun j => nth x1 (tri (m - 1 - j))
def sdB (m : Nat) (x2 : List Int) : List Int := (List.range m).map fun j => nth x2 (tri j + j)
def sdC (m : Nat) (x3 : List Int) : List Int := (List.range m).map fun j => nth x3 (tri (m - 1) + j)
theorem sdA_len (m : Nat) (x : List Int) : (sdA m x).length = m := by simp [sdA]
theorem sdB_len (m : Nat) (x : List Int) : (sdB m x).length = m := by simp [sdB]
theorem sdC_len (m : Nat) (x : List Int) : (sdC m x).length = m := by simp [sdC]
theorem sdA_nth {m : Nat} {x : List Int} {j : Nat} (h : j < m) : nth (sdA m x) j = nth x (tri (m - 1 - j)) := by rw [nth_get (by rw [sdA_len]; exact h)]; simp [sdA]
theorem sdB_nth {m : Nat} {x : List Int} {j : Nat} (h : j < m) : nth (sdB m x) j = nth x (tri j + j) := by rw [nth_get (by rw [sdB_len]; exact h)]; simp [sdB]
theorem sdC_nth {m : Nat} {x : List Int} {j : Nat} (h : j < m) : nth (sdC m x) j = nth x (tri (m - 1) + j) := by rw [nth_get (by rw [sdC_len]; exact h)]; simp [sdC]
theorem side_strings {s : Int} {x1 x2 x3 : List Int} (hl : lensP s x1 x2 x3) : (strP (sdA s.toNat x1) ∧ strP (sdB s.toNat x2) ∧ strP (sdC s.toNat x3)) ↔ ∀ r, r < s.toNat → sideP s.toNat x1 x2 x3 r := by
  have h1 := hl.1
  have h7 := hl.2.1
  constructor
  · rintro ⟨ha, hb, hc⟩ r hr
    have a := ha.2.2 (s.toNat - 1 - r) (by rw [sdA_len]; omega)
    have b := hb.2.2 r (by rw [sdB_len]; omega)
    have c := hc.2.2 r (by rw [sdC_len]; omega)
    rw [sdA_nth (by omega), show s.toNat - 1 - (s.toNat - 1 - r) = r by omega] at a
    rw [sdB_nth hr] at b
    rw [sdC_nth hr] at c
    exact ⟨a, b, c⟩
  · intro h
    refine ⟨⟨by rw [sdA_len]; omega, by rw [sdA_len]; omega, fun k hk => ?_⟩, ⟨by rw [sdB_len]; omega, by rw [sdB_len]; omega, fun k hk => ?_⟩, ⟨by rw [sdC_len]; omega, by rw [sdC_len]; omega, fun k hk => ?_⟩⟩
    · rw [sdA_len] at hk; rw [sdA_nth hk]; exact (h _ (by omega)).1
    · rw [sdB_len] at hk; rw [sdB_nth hk]; exact (h _ hk).2.1
    · rw [sdC_len] at hk; rw [sdC_nth hk]; exact (h _ hk).2.2
end Go.Proofs.Ytjpoliibljjhnaa

/-
  Puzzles as values: copying, measuring, comparing, marking, holding. Conditions: lengths below 2^40.
-/



namespace Go.Proofs.Ytjpoliibljjhnaa
open Go.RowKit

/-- Three slices of the call's own, one behind another. -/
def OwnP (w : World) (lo hi : Nat) (A1 A2 A3 : Option Addr) (n1 c1 n2 c2 n3 c3 : Nat) (x1 x2 x3 : List Int) : Prop :=
  ∃ p q, lo ≤ p ∧ p ≤ q ∧ q ≤ hi ∧ Own w lo p A1 n1 c1 x1 ∧ Own w p q A2 n2 c2 x2 ∧ Own w q hi A3 n3 c3 x3
section
variable {w w' : World} {lo hi n1 c1 n2 c2 n3 c3 : Nat} {A1 A2 A3 : Option Addr} {x1 x2 x3 : List Int}
theorem OwnP.si (h : OwnP w lo hi A1 A2 A3 n1 c1 n2 c2 n3 c3 x1 x2 x3) : SI w A1 n1 x1 ∧ SI w A2 n2 x2 ∧ SI w A3 n3 x3 := by
  obtain ⟨p, q, _, _, _, h1, h2, h3⟩ := h; exact ⟨h1.si, h2.si, h3.si⟩
theorem OwnP.lens (h : OwnP w lo hi A1 A2 A3 n1 c1 n2 c2 n3 c3 x1 x2 x3) : x1.length = n1 ∧ x2.length = n2 ∧ x3.length = n3 := by
  obtain ⟨p, q, _, _, _, h1, h2, h3⟩ := h; exact ⟨h1.len, h2.len, h3.len⟩
theorem OwnP.below {B : Nat} (h : OwnP w lo hi A1 A2 A3 n1 c1 n2 c2 n3 c3 x1 x2 x3) (hb : Below B w w') (hB : hi ≤ B) : OwnP w' lo hi A1 A2 A3 n1 c1 n2 c2 n3 c3 x1 x2 x3 := by
  obtain ⟨p, q, a, b, c, h1, h2, h3⟩ := h
  exact ⟨p, q, a, b, c, h1.below hb (by omega), h2.below hb (by omega), h3.below hb hB⟩
theorem OwnP.drawn (h : OwnP w lo hi A1 A2 A3 n1 c1 n2 c2 n3 c3 x1 x2 x3) (hd : Drawn w w') : OwnP w' lo hi A1 A2 A3 n1 c1 n2 c2 n3 c3 x1 x2 x3 := h.below (hd.below hi) (Nat.le_refl _)
theorem Own.within_ {lo hi n c lo' hi' : Nat} {A : Option Addr} {xs : List Int} (h : Own w lo hi A n c xs) (hw : Within lo' hi' w w') (hd : hi ≤ lo' ∨ hi' ≤ lo) : Own w' lo hi A n c xs := by
  refine ⟨⟨h.1.1, ?_⟩, h.2⟩
  rcases h.1.2 with hn | ⟨g, cap, cur, e, hl, hg, rest⟩
  · exact .inl hn
  · have hlt := h.2 g (by rw [e]; rfl)
    have hsz := (h.1.lt g (by rw [e]; rfl)).2
    exact .inr ⟨g, cap, cur, e, hl, (hw.2.2.2.2 g hsz (by omega)).trans hg, rest⟩
theorem OwnP.within {lo' hi' : Nat} (h : OwnP w lo hi A1 A2 A3 n1 c1 n2 c2 n3 c3 x1 x2 x3) (hw : Within lo' hi' w w') (hd : hi ≤ lo' ∨ hi' ≤ lo) : OwnP w' lo hi A1 A2 A3 n1 c1 n2 c2 n3 c3 x1 x2 x3 := by
  obtain ⟨p, q, a, b, c, h1, h2, h3⟩ := h
  exact ⟨p, q, a, b, c, h1.within_ hw (by omega), h2.within_ hw (by omega), h3.within_ hw (by omega)⟩
theorem OwnP.wide {lo' hi' : Nat} (h : OwnP w lo hi A1 A2 A3 n1 c1 n2 c2 n3 c3 x1 x2 x3) (h1 : lo' ≤ lo) (h2 : hi ≤ hi') : OwnP w lo' hi' A1 A2 A3 n1 c1 n2 c2 n3 c3 x1 x2 x3 := by
  obtain ⟨p, q, a, b, c, k1, k2, k3⟩ := h
  exact ⟨p, q, by omega, b, by omega, k1.wide h1 (Nat.le_refl _), k2, k3.wide (Nat.le_refl _) h2⟩
theorem OwnP.nil (w : World) {lo hi : Nat} (h : lo ≤ hi) : OwnP w lo hi none none none 0 0 0 0 0 0 [] [] [] := ⟨lo, lo, Nat.le_refl _, Nat.le_refl _, h, Own.nil _ _ _, Own.nil _ _ _, Own.nil _ _ _⟩
end
/-- What a call that makes a puzzle hands back. -/
def FreshP (w w' : World) (e : Ending) (s : Int) (x1 x2 x3 : List Int) : Prop :=
  ∃ A1 A2 A3 n1 c1 n2 c2 n3 c3, e = .returned (.agg #[.int .i64 s, .slice A1 n1 c1, .slice A2 n2 c2, .slice A3 n3 c3]) ∧ OwnP w' w.heap.size w'.heap.size A1 A2 A3 n1 c1 n2 c2 n3 c3 x1 x2 x3 ∧ Below w.heap.size w w'
theorem grown_setP (w : World) (a : Addr) (u : Value) : w.grownBy (w.setCell a u) (some a.block) :=
  ⟨rfl, rfl, rfl, by simp [World.setCell], fun k _ hk => Below.heap_setCell w a u k (fun e => hk (by rw [e]))⟩
theorem results_rowP {P : Program} {fn : Func} {p : Tmp} {ty : TypeId} (h : fn.results = #[.cell p ty]) (tmps : Array Value) (w : World) (g : Nat) (t : TypeId) (cs : Array Value) (d : TypeDesc)
    (hp : tmps.getD p undef = .pointer (some ⟨g, 0, none⟩)) (hg : Blk w g t cs) (hu : P.underlying ty = some d) (hd : (match d with | .struct _ | .array _ _ => true | _ => false) = true) (hi : (P.info? ty).map (·.size) = some cs.size) :
    (results fn tmps).run P w = .ok (.agg cs) w :=
  results_cell_row h tmps w g t cs (0, 0) d hp hg hu hd hi

theorem SI.old {w : World} {A : Option Addr} {n g : Nat} {xs : List Int} (h : SI w A n xs) (hg : w.heap.size ≤ g) : 0 < n → ∀ b o, A = some ⟨b, o, none⟩ → b ≠ g := fun hn b o e => by
  obtain ⟨b', o', e', hb, _⟩ := h.2 hn
  rw [e'] at e
  injection e with e
  injection e with e1 e2
  omega
theorem SI.kept_ {w w' : World} {A : Option Addr} {n g : Nat} {xs : List Int} (h : SI w A n xs) (hg : w.grownBy w' (some g)) (hr : 0 < n → ∀ b o, A = some ⟨b, o, none⟩ → b ≠ g) : SI w' A n xs :=
  ⟨h.1, fun hn => by
    obtain ⟨b, o, e, hb, hc⟩ := h.2 hn
    have hs := hg.size
    exact ⟨b, o, e, by omega, fun k hk => hg.cell (hc k hk) (fun e' => by injection e' with e'; exact hr hn b o e e')⟩⟩
/-- A whole struct read out of a block that is known, and stored into one. -/
theorem wpList_load_rowP {P : Program} {ops : Array Oper} {rest : List Oper} {o : Oper} {a : Act} {w : World} {Q : Exit → Act → World → Prop} (hgd : o.guard = none) (ty : TypeId) (x : Operand) (ho : o.op = .load ty x)
    (g : Nat) (hx : a.eval x = .pointer (some ⟨g, 0, none⟩)) (t : TypeId) (cs : Array Value) (d : TypeDesc) (hg : Blk w g t cs)
    (hu : P.underlying ty = some d) (hd : (match d with | .struct _ | .array _ _ => true | _ => false) = true) (hi : (P.info? ty).map (·.size) = some cs.size)
    (h : wpList P ops Q rest (a.put o.dst (.agg cs)) w) : wpList P ops Q (o :: rest) a w :=
  wpList_load_row hgd ty x ho g hx t cs (0, 0) d hg hu hd hi h
theorem wpList_store_rowP {P : Program} {ops : Array Oper} {rest : List Oper} {o : Oper} {a : Act} {w : World} {Q : Exit → Act → World → Prop} (hgd : o.guard = none) (ty : TypeId) (x y : Operand) (ho : o.op = .store ty x y)
    (g : Nat) (cs : Array Value) (hx : a.eval x = .pointer (some ⟨g, 0, none⟩)) (hy : a.eval y = .agg cs) (t : TypeId) (old : Array Value) (hg : Blk w g t old)
    (hi : (P.info? ty).map (·.size) = some cs.size) (hsz : old.size = cs.size) (h1 : cs.all (·.oneCell') = true)
    (hK : ∀ w', Blk w' g t cs → w.grownBy w' (some g) → wpList P ops Q rest (a.put o.dst undef) w') : wpList P ops Q (o :: rest) a w :=
  wpList_store_blk hgd ty x y ho g cs hx hy t old hg hi hsz h1 hK
theorem Within.of_below_ {lo hi : Nat} {w w' : World} (h : Below w.heap.size w w') : Within lo hi w w' := ⟨h.os, h.tape, h.output, h.size, fun k hk _ => h.block k hk⟩
/-- The cells of a puzzle in a block, told one by one. -/
theorem cells4 {w : World} {g : Nat} {t : TypeId} {a b c d : Value} (h : Blk w g t #[a, b, c, d]) : w.cell? ⟨g, 0, none⟩ = some a ∧ w.cell? ⟨g, 1, none⟩ = some b ∧ w.cell? ⟨g, 2, none⟩ = some c ∧ w.cell? ⟨g, 3, none⟩ = some d := ⟨h.cell 0, h.cell 1, h.cell 2, h.cell 3⟩
/-- The three lists marked from q on. -/
abbrev mk1 (x1 : List Int) (q : Int) : List Int := marks x1.length q
abbrev mk2 (x1 x2 : List Int) (q : Int) : List Int := marks x2.length (q + x1.length)
abbrev mk3 (x1 x2 x3 : List Int) (q : Int) : List Int := marks x3.length (q + x1.length + x2.length)
end Go.Proofs.Ytjpoliibljjhnaa

/-
  Matrices as values: copying, measuring, comparing, marking, holding. Conditions: lengths below 2^40.
-/



namespace Go.Proofs.Ytjpoliibljjhnaa
open Go.RowKit

theorem Try.infoMx : (Try.prog.info? 67).map (·.size) = some 4 := by kernel_rfl
/-- What a call that makes a matrix hands back. -/
def FreshMx (w w' : World) (e : Ending) (p r c : Int) (xs : List Int) : Prop :=
  ∃ A n k, e = .returned (.agg #[.int .i64 p, .int .i64 r, .int .i64 c, .slice A n k]) ∧ Own w' w.heap.size w'.heap.size A n k xs ∧ Below w.heap.size w w'
set_option maxRecDepth 100000 in
set_option maxHeartbeats 1000000 in
theorem eqMatrix_yes (p r c : Int) (A B : Option Addr) (n k m d : Nat) (xs : List Int) (w : World) (h1 : SI w A n xs) (k1 : SI w B m xs) (hn : xs.length ≤ 1099511627776) :
    Calls Try.prog 131 #[.agg #[.int .i64 p, .int .i64 r, .int .i64 c, .slice A n k], .agg #[.int .i64 p, .int .i64 r, .int .i64 c, .slice B m d]] w fun e w' => e = .returned (.bool true) ∧ Below w.heap.size w w' := by
  obtain ⟨w1, hw1⟩ : ∃ w1, w1 = (w.alloc (.cells #[.int .i64 p, .int .i64 r, .int .i64 c, .slice A n k] 67)).alloc (.cells #[.int .i64 p, .int .i64 r, .int .i64 c, .slice B m d] 67) := ⟨_, rfl⟩
  obtain ⟨g, hg⟩ : ∃ g, g = w.heap.size := ⟨_, rfl⟩
  have hk : Blk w1 g 67 #[.int .i64 p, .int .i64 r, .int .i64 c, .slice A n k] := by rw [hw1, hg]; exact (Blk.new _ _ _).alloc _
  have hk2 : Blk w1 (g + 1) 67 #[.int .i64 p, .int .i64 r, .int .i64 c, .slice B m d] := by
    rw [hw1, hg]
    have := Blk.new (w.alloc (.cells #[.int .i64 p, .int .i64 r, .int .i64 c, .slice A n k] 67)) 67 #[.int .i64 p, .int .i64 r, .int .i64 c, .slice B m d]
    simpa using this
  have hb : Below w.heap.size w w1 := by rw [hw1]; go_grown
  have HB := Lib.hid hb
  have HW := Lib.hid hw1
  have HG := Lib.hid hg
  have HS := Lib.hid (And.intro (h1.below hb (Nat.le_refl _)) (k1.below hb (Nat.le_refl _)))
  have HN := Lib.hid (show n ≤ 1099511627776 ∧ m ≤ 1099511627776 by have := h1.1; have := k1.1; omega)
  obtain ⟨q0, q1, q2, q3⟩ := cells4 hk
  obtain ⟨r0, r1, r2, r3⟩ := cells4 hk2
  clear hk hk2 hb hw1 hg h1 k1 hn
  go_enter Try.func131, Try.ntmps131
  go_upto_region 1 with fail
  rw [← HW.out, ← HG.out]
  go_wp2_with (first
    | (go_at_call 19
       refine (eqIntS_any _ _ _ _ _ _ xs xs _ HS.out.1 HS.out.2 HN.out.1 HN.out.2).mono ?_
       rintro e w2 ⟨rfl, hd⟩
       rw [eqL_self]
       have HD2 := Lib.hid hd
       clear hd))
  go_ret
  exact ⟨rfl, HB.out.trans (HD2.out.below _)⟩
end Go.Proofs.Ytjpoliibljjhnaa

/-
  Whether a matrix is one: both sides. Conditions: lengths below 2^40.
-/



namespace Go.Proofs.Ytjpoliibljjhnaa
open Go.RowKit

instance P7.dec (p : Int) : Decidable (P7 p) := by unfold P7; exact inferInstance
def matP (p r c : Int) (xs : List Int) : Prop := P7 p ∧ (0 ≤ r ∧ r ≤ 7) ∧ (1 ≤ c ∧ c ≤ 7) ∧ (xs.length : Int) = r * c ∧ ∀ k, k < xs.length → 0 ≤ nth xs k ∧ nth xs k < p
instance matP.dec (p r c : Int) (xs : List Int) : Decidable (matP p r c xs) := by unfold matP; exact inferInstance
def matB (p r c : Int) (xs : List Int) : Bool := decide (matP p r c xs)
theorem matB_false {p r c : Int} {xs : List Int} (h : ¬ matP p r c xs) : matB p r c xs = false := decide_eq_false h
theorem matB_true {p r c : Int} {xs : List Int} (h : matP p r c xs) : matB p r c xs = true := decide_eq_true h
theorem matB_P {p r c : Int} {xs : List Int} (h : matB p r c xs = true) : matP p r c xs := of_decide_eq_true h
theorem mul_small {r c : Int} (hr : 0 ≤ r ∧ r ≤ 7) (hc : 0 ≤ c ∧ c ≤ 7) : 0 ≤ r * c ∧ r * c ≤ 49 := by
  have h1 : 0 ≤ r * c := Int.mul_nonneg hr.1 hc.1
  have h2 : r * c ≤ 7 * 7 := Int.mul_le_mul hr.2 hc.2 hc.1 (by decide)
  omega
theorem l7Prime_yes {p : Int} (h : P7 p) (w : World) : Calls Try.prog 122 #[.int .i64 p] w fun e w' => e = .returned (.bool true) ∧ w = w' := by
  rcases h with rfl | rfl | rfl | rfl <;>
  · go_enter Try.func122, Try.ntmps122
    go_wp2
    go_ret
    exact ⟨rfl, rfl⟩
theorem l7Prime_no {p : Int} (h : ¬ P7 p) (w : World) : Calls Try.prog 122 #[.int .i64 p] w fun e w' => e = .returned (.bool false) ∧ w = w' := by
  unfold P7 at h
  have h2 : (p == 2) = false := by simp; omega
  have h3 : (p == 3) = false := by simp; omega
  have h5 : (p == 5) = false := by simp; omega
  have h7 : (p == 7) = false := by simp; omega
  clear h
  go_enter Try.func122, Try.ntmps122
  go_wp2
  go_ret
  exact ⟨rfl, rfl⟩
theorem isModulus_yes {p : Int} (h : P7 p) (w : World) : Calls Try.prog 127 #[.int .i64 p] w fun e w' => e = .returned (.bool true) ∧ w = w' := by
  rcases h with rfl | rfl | rfl | rfl <;>
  · go_enter Try.func127, Try.ntmps127
    go_wp2
    go_ret
    exact ⟨rfl, rfl⟩
theorem isModulus_no {p : Int} (h : ¬ P7 p) (w : World) : Calls Try.prog 127 #[.int .i64 p] w fun e w' => e = .returned (.bool false) ∧ w = w' := by
  unfold P7 at h
  have h2 : (p == 2) = false := by simp; omega
  have h3 : (p == 3) = false := by simp; omega
  have h5 : (p == 5) = false := by simp; omega
  have h7 : (p == 7) = false := by simp; omega
  clear h
  go_enter Try.func127, Try.ntmps127
  go_wp2
  go_ret
  exact ⟨rfl, rfl⟩
theorem isNone_any (p x : Int) (g : Nat) (w : World) (hk : w.cell? ⟨g, 0, none⟩ = some (.int .i64 p)) :
    Calls Try.prog 215 #[.int .i64 x, .pointer (some ⟨g, 0, none⟩)] w fun e w' => e = .returned (.bool (decide (¬ (0 ≤ x ∧ x < p)))) ∧ w = w' := by
  by_cases h0 : x < 0
  · have HE : Hid (true = decide (¬ (0 ≤ x ∧ x < p))) := Lib.hid (decide_eq_true (by omega)).symm
    go_enter Try.func215, Try.ntmps215
    go_wp2
    go_ret
    first | exact ⟨ret_bool HE.out, rfl⟩ | exact ⟨rfl, rfl⟩
  · by_cases h1 : x ≥ p
    · have HE : Hid (true = decide (¬ (0 ≤ x ∧ x < p))) := Lib.hid (decide_eq_true (by omega)).symm
      go_enter Try.func215, Try.ntmps215
      go_wp2
      go_ret
      first | exact ⟨ret_bool HE.out, rfl⟩ | exact ⟨rfl, rfl⟩
    · have HE : Hid (false = decide (¬ (0 ≤ x ∧ x < p))) := Lib.hid (decide_eq_false (by omega)).symm
      go_enter Try.func215, Try.ntmps215
      go_wp2
      go_ret
      first | exact ⟨ret_bool HE.out, rfl⟩ | exact ⟨rfl, rfl⟩
set_option maxHeartbeats 800000 in
theorem indexNone_any (A : Option Addr) (n c : Nat) (xs : List Int) (p : Int) (g : Nat) (w : World) (hs : SI w A n xs) (hn : n ≤ 1099511627776) (hk : w.cell? ⟨g, 0, none⟩ = some (.int .i64 p)) :
    Calls Try.prog 212 #[.slice A n c, .func (.func 215) #[] #[.pointer (some ⟨g, 0, none⟩)]] w fun r w' =>
      ∃ i : Int, r = .returned (.int .i64 i) ∧ (i < 0 ∧ (∀ k, k < n → 0 ≤ nth xs k ∧ nth xs k < p) ∨ 0 ≤ i ∧ ∃ k, k < n ∧ ¬ (0 ≤ nth xs k ∧ nth xs k < p)) ∧ Drawn w w' := by
  have HF : Hid (∀ w', Drawn w w' → ∀ y, Calls Try.prog 215 #[.int .i64 y, .pointer (some ⟨g, 0, none⟩)] w' fun e w2 => e = .returned (.bool (decide (¬ (0 ≤ y ∧ y < p)))) ∧ w' = w2) := Lib.hid (fun w' hd y => isNone_any p y g w' (by obtain ⟨m, rfl⟩ := hd; exact hk))
  clear hk
  go_enter Try.func212, Try.ntmps212
  go_wp2
  go_loopw [8] (fun i wr => ∃ k : Nat, k ≤ n ∧ i = .int .i64 k ∧ Drawn w wr ∧ ∀ j, j < k → 0 ≤ nth xs j ∧ nth xs j < p)
    (fun i _ => n - (intOf i).toNat)
  case atStart => exact ⟨0, Nat.zero_le _, rfl, Drawn.refl _, fun j hj => absurd hj (by omega)⟩
  case round =>
    obtain ⟨k, hk, rfl, hD, hall⟩ := hrel
    have HA := Lib.hid hall
    have HDR := Lib.hid hD
    have hs := hD.si hs
    clear hall hD
    by_cases hlt : k < n
    · have hlI : (k : Int) < (n : Int) := by omega
      obtain ⟨b, o, rfl, hb, hc⟩ := hs.at_ (by omega)
      have hc1 := hc k hlt
      obtain ⟨y, hy⟩ : ∃ y, y = nth xs k := ⟨_, rfl⟩
      rw [← hy] at hc1
      have HY := Lib.hid hy
      clear hc hy hs
      by_cases hg : 0 ≤ y ∧ y < p
      · have HG := Lib.hid hg
        have HF2 := Lib.hid (HF.out wr HDR.out y)
        rw [decide_eq_false (fun h => h hg)] at HF2
        clear hg
        go_wp2_with (go_at_call 215; refine HF2.out.mono ?_; rintro r w2 ⟨rfl, rfl⟩)
        go_roundw
        case rel => exact ⟨k + 1, by omega, by go_num, HDR.out, fun j hj => by
          rcases Nat.lt_or_ge j k with h | h
          · exact HA.out j h
          · obtain rfl : j = k := by omega
            rw [← HY.out]; exact HG.out⟩
        case measure => simp [intOf]; omega
      · have HG := Lib.hid hg
        have HF2 := Lib.hid (HF.out wr HDR.out y)
        rw [decide_eq_true hg] at HF2
        clear hg
        go_wp2_with (go_at_call 215; refine HF2.out.mono ?_; rintro r w2 ⟨rfl, rfl⟩)
        go_ret
        exact ⟨(k : Int), rfl, .inr ⟨by omega, k, hlt, by rw [← HY.out]; exact HG.out⟩, HDR.out⟩
    · have hkn : k = n := by omega
      subst hkn
      go_wp2
      go_ret
      exact ⟨-1, rfl, .inl ⟨by omega, HA.out⟩, HDR.out⟩
set_option maxHeartbeats 400000 in
theorem containsNone_is (b : Bool) (A : Option Addr) (n c : Nat) (xs : List Int) (p : Int) (g : Nat) (w : World) (hs : SI w A n xs) (hn : n ≤ 1099511627776) (hk : w.cell? ⟨g, 0, none⟩ = some (.int .i64 p)) (hb : b = false ↔ ∀ k, k < n → 0 ≤ nth xs k ∧ nth xs k < p) :
    Calls Try.prog 177 #[.slice A n c, .func (.func 215) #[] #[.pointer (some ⟨g, 0, none⟩)]] w fun r w' => r = .returned (.bool b) ∧ Drawn w w' := by
  have HC := Lib.hid (indexNone_any A n c xs p g w hs hn hk)
  have HBB := Lib.hid hb
  clear hs hk hb
  go_enter Try.func177, Try.ntmps177
  go_wp2_with (go_at_call 212; refine HC.out.mono ?_; rintro r w2 ⟨i, rfl, hi, hd⟩; have HI := Lib.hid hi; have HD := Lib.hid hd; clear hi hd)
  go_ret
  refine ⟨ret_bool ?_, HD.out⟩
  rcases HI.out with ⟨h1, h2⟩ | ⟨h1, k, hk, h2⟩
  · rw [HBB.out.2 h2]
    simp only [decide_eq_false_iff_not]; omega
  · have hbt : b = true := by
      cases b with
      | true => rfl
      | false => exact absurd (HBB.out.1 rfl k hk) h2
    rw [hbt]
    simp only [decide_eq_true_eq]; omega
end Go.Proofs.Ytjpoliibljjhnaa

/-
  Whether a matrix is one: the document's function and the program's. Conditions: lengths below 2^40.
-/

namespace Go.Proofs.Ytjpoliibljjhnaa
open Go.RowKit

set_option maxRecDepth 100000 in
set_option maxHeartbeats 4000000 in
theorem implMatrixOk_any (p r c : Int) (A : Option Addr) (n k : Nat) (xs : List Int) (w : World) (hs : SI w A n xs) (hn : n ≤ 1099511627776) :
    Calls Try.prog 146 #[.agg #[.int .i64 p, .int .i64 r, .int .i64 c, .slice A n k]] w fun e w' => e = .returned (.bool (matB p r c xs)) ∧ Below w.heap.size w w' := by
  obtain ⟨w1, hw1⟩ : ∃ w1, w1 = w.alloc (.cells #[.int .i64 p, .int .i64 r, .int .i64 c, .slice A n k] 67) := ⟨_, rfl⟩
  obtain ⟨g, hg⟩ : ∃ g, g = w.heap.size := ⟨_, rfl⟩
  have hk : Blk w1 g 67 #[.int .i64 p, .int .i64 r, .int .i64 c, .slice A n k] := by rw [hw1, hg]; exact Blk.new _ _ _
  have hb : Below w.heap.size w w1 := by rw [hw1]; exact Below.alloc_self _ _
  have HB := Lib.hid hb
  have HW := Lib.hid hw1
  have HG := Lib.hid hg
  have HK := Lib.hid hk
  have HL := Lib.hid hs.1
  have HS := Lib.hid (hs.below hb (Nat.le_refl _))
  obtain ⟨q0, q1, q2, q3⟩ := cells4 hk
  clear hb hw1 hg hk hs
  by_cases hneg : P7 p
  case neg =>
    have HP := Lib.hid (fun w => isModulus_no hneg w)
    have HF := Lib.hid (matB_false (p := p) (r := r) (c := c) (xs := xs) (fun h => hneg h.1))
    clear hneg
    go_enter Try.func146, Try.ntmps146
    go_upto_region 1 with fail
    rw [← HW.out, ← HG.out]
    go_wp2_with (first | (go_at_call 127; with_reducible refine (HP.out _).mono ?_; rintro e w2 ⟨rfl, rfl⟩))
    go_ret
    exact ⟨ret_bool HF.out.symm, HB.out⟩
  case pos =>
    have HP := Lib.hid (fun w => isModulus_yes hneg w)
    have HP7 := Lib.hid hneg
    clear hneg
    by_cases hneg : r < 0
    case pos =>
      have hr0 := hneg
      have HF := Lib.hid (matB_false (p := p) (r := r) (c := c) (xs := xs) (fun h => by have := h.2.1; omega))
      clear hneg
      go_enter Try.func146, Try.ntmps146
      go_upto_region 1 with fail
      rw [← HW.out, ← HG.out]
      go_wp2_with (first | (go_at_call 127; with_reducible refine (HP.out _).mono ?_; rintro e w2 ⟨rfl, rfl⟩))
      go_ret
      exact ⟨ret_bool HF.out.symm, HB.out⟩
    case neg =>
    by_cases hneg2 : r ≤ 7
    case neg =>
      have hr0 := hneg
      clear hneg
      have hneg := hneg2
      clear hneg2
      have hr7 : r > 7 := by omega
      have HF := Lib.hid (matB_false (p := p) (r := r) (c := c) (xs := xs) (fun h => by have := h.2.1; omega))
      clear hneg
      go_enter Try.func146, Try.ntmps146
      go_upto_region 1 with fail
      rw [← HW.out, ← HG.out]
      go_wp2_with (first | (go_at_call 127; with_reducible refine (HP.out _).mono ?_; rintro e w2 ⟨rfl, rfl⟩))
      go_ret
      exact ⟨ret_bool HF.out.symm, HB.out⟩
    case pos =>
      have HRB : Hid (0 ≤ r ∧ r ≤ 7) := Lib.hid (by omega)
      have hr0 := hneg
      clear hneg
      have hr7 : ¬ r > 7 := by omega
      clear hneg2
      by_cases hneg : 1 ≤ c ∧ c ≤ 7
      case neg =>
        have HC := Lib.hid (fun w => isPermSize_no (a := c) (by omega) w)
        have HF := Lib.hid (matB_false (p := p) (r := r) (c := c) (xs := xs) (fun h => hneg h.2.2.1))
        clear hneg
        go_enter Try.func146, Try.ntmps146
        go_upto_region 1 with fail
        rw [← HW.out, ← HG.out]
        go_wp2_with (first | (go_at_call 127; with_reducible refine (HP.out _).mono ?_; rintro e w2 ⟨rfl, rfl⟩) | (go_at_call 182; with_reducible refine (HC.out _).mono ?_; rintro e w2 ⟨rfl, rfl⟩))
        go_ret
        exact ⟨ret_bool HF.out.symm, HB.out⟩
      case pos =>
        have HC := Lib.hid (fun w => isPermSize_yes (a := c) hneg.1 hneg.2 w)
        have HCB := Lib.hid hneg
        clear hneg
        obtain ⟨rc, hrc⟩ : ∃ rc, rc = r * c := ⟨_, rfl⟩
        have hrcb := mul_small HRB.out ⟨by have := HCB.out; omega, HCB.out.2⟩
        rw [← hrc] at hrcb
        have hwr : IntKind.i64.wrap (r * c) = rc := by rw [← hrc]; exact IntWalk.i64_in _ (by omega)
        have HRC := Lib.hid hrc
        clear hrc
        by_cases hneg : (n : Int) = rc
        case neg =>
          have hb1 : ((n : Int) != rc) = true := by simpa using hneg
          have HF := Lib.hid (matB_false (p := p) (r := r) (c := c) (xs := xs) (fun h => hneg (by have := h.2.2.2.1; rw [HL.out, ← HRC.out] at this; exact this)))
          clear hneg
          go_enter Try.func146, Try.ntmps146
          go_upto_region 1 with fail
          rw [← HW.out, ← HG.out]
          go_wp2_with (first | (go_at_call 127; with_reducible refine (HP.out _).mono ?_; rintro e w2 ⟨rfl, rfl⟩) | (go_at_call 182; with_reducible refine (HC.out _).mono ?_; rintro e w2 ⟨rfl, rfl⟩))
          go_ret
          exact ⟨ret_bool HF.out.symm, HB.out⟩
        case pos =>
          have hb1 : ((n : Int) != rc) = false := by simpa using hneg
          have HN := Lib.hid hneg
          clear hneg
          have hn49 : n ≤ 49 := by have := HN.out; omega
          obtain ⟨bb, hbb⟩ : ∃ bb, bb = matB p r c xs := ⟨_, rfl⟩
          have HBB : Hid ((!bb) = false ↔ ∀ k, k < n → 0 ≤ nth xs k ∧ nth xs k < p) := Lib.hid (by
            rw [hbb]
            constructor
            · intro h
              have h2 : matB p r c xs = true := by simpa using h
              have h3 := (matB_P h2).2.2.2.2
              rw [HL.out] at h3; exact h3
            · intro h
              rw [matB_true ⟨HP7.out, HRB.out, HCB.out, by rw [HL.out, ← HRC.out]; exact HN.out, by rw [HL.out]; exact h⟩]; rfl)
          rw [← hbb]
          have HCN := Lib.hid (containsNone_is (!bb) A n k xs p g w1 HS.out hn q0 HBB.out)
          have hmf : ∀ (fn : Fn) (first cap : Array Value) (w : World), (Instr.makeFunc fn first cap).run Try.prog w = .ok (.func fn first cap) w := fun _ _ _ _ => rfl
          clear hbb HBB
          go_enter Try.func146, Try.ntmps146
          go_upto_region 1 with fail
          rw [← HW.out, ← HG.out]
          go_wp2_with (first | (go_at_call 127; with_reducible refine (HP.out _).mono ?_; rintro e w2 ⟨rfl, rfl⟩) | (go_at_call 182; with_reducible refine (HC.out _).mono ?_; rintro e w2 ⟨rfl, rfl⟩) | (go_at_call 177; with_reducible refine HCN.out.mono ?_; rintro e w2 ⟨rfl, hd⟩; have HD := Lib.hid hd; clear hd))
          go_ret
          exact ⟨ret_bool (by simp), HB.out.trans (HD.out.below _)⟩
end Go.Proofs.Ytjpoliibljjhnaa

/-
  New matrices and rows of matrices, on the program's side. Conditions: sizes at most 14.
-/


namespace Go.Proofs.Ytjpoliibljjhnaa
open Go.RowKit

theorem nat_mul_small {r c : Nat} (hr : r ≤ 14) (hc : c ≤ 14) : r * c ≤ 196 := by
  have h : r * c ≤ 14 * 14 := Nat.mul_le_mul hr hc
  omega
theorem wrap_mul_nat {r c N : Nat} (hN : N = r * c) (h : N ≤ 1099511627776) : IntKind.i64.wrap ((r : Int) * (c : Int)) = (N : Int) := by
  rw [show (r : Int) * (c : Int) = (N : Int) by rw [hN]; simp]
  exact IntWalk.i64_in _ (by omega)
set_option maxHeartbeats 1000000 in
theorem zeroMatrix_any (p : Int) (r c : Nat) (w : World) (hr : r ≤ 14) (hc : c ≤ 14) :
    Calls Try.prog 219 #[.int .i64 p, .int .i64 r, .int .i64 c] w fun e w' => FreshMx w w' e p r c (List.replicate (r * c) 0) := by
  obtain ⟨w1, hw1⟩ : ∃ w1, w1 = w.alloc (.cells #[.int .i64 0, .int .i64 0, .int .i64 0, .slice none 0 0] 67) := ⟨_, rfl⟩
  obtain ⟨g, hg⟩ : ∃ g, g = w.heap.size := ⟨_, rfl⟩
  have hk : Blk w1 g 67 #[.int .i64 0, .int .i64 0, .int .i64 0, .slice none 0 0] := by rw [hw1, hg]; exact Blk.new _ _ _
  have HB : Hid (Below w.heap.size w w1) := Lib.hid (by rw [hw1]; exact Below.alloc_self _ _)
  have HW := Lib.hid hw1
  have HG := Lib.hid hg
  have HK := Lib.hid hk
  obtain ⟨N, hN⟩ : ∃ N, N = r * c := ⟨_, rfl⟩
  have hN1 : N ≤ 1099511627776 := by have := nat_mul_small hr hc; omega
  have hwr := wrap_mul_nat hN hN1
  rw [← hN]
  clear hw1 hg hk hN
  go_enter Try.func219, Try.ntmps219
  go_upto_region 1 with fail
  rw [← HW.out, ← HG.out]
  go_wp2_with (first
    | (at_make; refine wpList_make_zero rfl (.tmp 12) (.tmp 12) rfl N rfl rfl hN1 ?_; intro w2 ho2 hb2; have HO2 := Lib.hid ho2; have HB2 := Lib.hid hb2; obtain ⟨g2, hg2⟩ : ∃ g2, g2 = w1.heap.size := ⟨_, rfl⟩; have HG2 := Lib.hid hg2; rw [← hg2]; clear ho2 hb2 hg2)
    | (refine wpList_store_rowP rfl 67 (.tmp 6) (.tmp 14) rfl g #[.int .i64 p, .int .i64 r, .int .i64 c, .slice (some ⟨g2, 0, none⟩) N N] rfl rfl 67 #[.int .i64 0, .int .i64 0, .int .i64 0, .slice none 0 0] (HK.out.below HB2.out HK.out.lt) Try.infoMx rfl (by simp [Value.oneCell']) ?_; intro w5 hb5 hg5)
    | fail)
  refine bodyPost_ret (results_rowP Try.results219 _ _ _ 67 #[.int .i64 p, .int .i64 r, .int .i64 c, .slice (some ⟨g2, 0, none⟩) N N] _ rfl hb5 Try.underlying67 rfl Try.infoMx) rfl ?_
  have l1 := HG.out
  have l2 := HG2.out
  have l3 := HK.out.lt
  have l4 := HB.out.size
  have l5 := hg5.size
  have l6 := HB2.out.size
  have ho := HO2.out
  rw [← l2] at ho
  refine ⟨some ⟨g2, 0, none⟩, N, N, rfl, ?_, ?_⟩
  · exact (ho.grown hg5 (fun k hk => by injection hk with hk; omega)).wide (by omega) (by omega)
  · exact (HB.out.trans (HB2.out.mono (by omega))).grown hg5 (by omega) (by rintro k ⟨⟩; omega)
set_option maxHeartbeats 1000000 in
/-- A row of a matrix: a part of its Data. -/
theorem matRow_any (p r : Int) (b o n k c i : Nat) (w : World) (hc : c ≤ 14) (hi : i ≤ 14) (h : (i + 1) * c ≤ n) (hnk : n ≤ k) (hn : n ≤ 1099511627776) (hc0 : 0 < c) :
    Calls Try.prog 220 #[.agg #[.int .i64 p, .int .i64 r, .int .i64 c, .slice (some ⟨b, o, none⟩) n k], .int .i64 i] w fun e w' => e = .returned (.slice (some ⟨b, o + i * c, none⟩) c (k - i * c)) ∧ Below w.heap.size w w' := by
  obtain ⟨w1, hw1⟩ : ∃ w1, w1 = w.alloc (.cells #[.int .i64 p, .int .i64 r, .int .i64 c, .slice (some ⟨b, o, none⟩) n k] 67) := ⟨_, rfl⟩
  obtain ⟨g, hg⟩ : ∃ g, g = w.heap.size := ⟨_, rfl⟩
  have hk : Blk w1 g 67 #[.int .i64 p, .int .i64 r, .int .i64 c, .slice (some ⟨b, o, none⟩) n k] := by rw [hw1, hg]; exact Blk.new _ _ _
  have HB : Hid (Below w.heap.size w w1) := Lib.hid (by rw [hw1]; exact Below.alloc_self _ _)
  have HW := Lib.hid hw1
  have HG := Lib.hid hg
  obtain ⟨q0, q1, q2, q3⟩ := cells4 hk
  obtain ⟨N, hN⟩ : ∃ N, N = i * c := ⟨_, rfl⟩
  obtain ⟨M, hM⟩ : ∃ M, M = (i + 1) * c := ⟨_, rfl⟩
  have hMN : M = N + c := by rw [hM, hN, Nat.add_mul, Nat.one_mul]
  have hM1 : M ≤ 1099511627776 := by omega
  have hwr := wrap_mul_nat hN (by omega)
  have hwr2 : IntKind.i64.wrap (((i : Int) + 1) * (c : Int)) = (M : Int) := by
    have := wrap_mul_nat hM hM1
    rwa [Int.natCast_add] at this
  rw [← hM] at h
  rw [← hN]
  have hkN : ¬ k = N := by omega
  have HMN := Lib.hid hMN
  have hd : (M : Int) - (N : Int) = (c : Int) := by omega
  clear hw1 hg hk hN hM
  go_enter Try.func220, Try.ntmps220
  go_upto_region 1 with fail
  rw [← HW.out, ← HG.out]
  go_wp2
  go_ret
  refine ⟨?_, HB.out⟩
  simp
end Go.Proofs.Ytjpoliibljjhnaa

/-
  The first rows of a matrix as slices of its Data, on the program's side. Conditions: sizes at most 14.
-/



namespace Go.Proofs.Ytjpoliibljjhnaa
open Go.RowKit

/-- A block of its own with these heads of slices. -/
def OwnH (w : World) (lo g n : Nat) (E : Nat → Sv) : Prop := w.ownsRow lo 22 1 (.slice (some ⟨g, 0, none⟩) n n) n (heads n E)
section
variable {w w' : World} {lo g n : Nat} {E : Nat → Sv}
theorem OwnH.at_ (h : OwnH w lo g n E) : lo ≤ g ∧ g < w.heap.size := h.lt g rfl
theorem OwnH.below {B : Nat} (h : OwnH w lo g n E) (hb : Below B w w') (hB : g < B) : OwnH w' lo g n E := by
  refine ⟨h.1, ?_⟩
  rcases h.2 with hn | ⟨g', cap, cur, e, hl, hg, rest⟩
  · exact .inl hn
  · have hlt : g' = g := by injection e with e1; injection e1 with e1; injection e1 with e1; exact e1.symm
    subst hlt
    exact .inr ⟨g', cap, cur, e, hl, (hb.block g' (by omega)).trans hg, rest⟩
theorem OwnH.cellAt (h : OwnH w lo g n E) {k : Nat} (hk : k < n) : w.cell? ⟨g, k, none⟩ = some (sv (E k)) := by
  rw [World.ownsRow.cellAt h k (by omega), heads_get _ hk]
theorem OwnH.set_ (h : OwnH w lo g n E) {k : Nat} (hk : k < n) (a : Sv) : OwnH (w.setCell ⟨g, k, none⟩ (sv a)) lo g n (fun j => if j = k then a else E j) ∧ w.grownBy (w.setCell ⟨g, k, none⟩ (sv a)) (some g) := by
  have hst := World.ownsRow.stored h k (sv a)
  rw [heads_set E hk a] at hst
  exact hst
theorem OwnH.ls {ls : List (List Int)} (h : OwnH w lo g n E) (hl : ls.length = n) (hs : ∀ k, k < n → SI w (E k).1 (E k).2.1 (li ls k) ∧ (E k).2.1 ≤ (E k).2.2 ∧ ((E k).1 = none → (E k).2.1 = 0 ∧ (E k).2.2 = 0)) : LS w (some ⟨g, 0, none⟩) n ls :=
  ⟨hl, fun _ => ⟨g, 0, rfl, h.at_.2, fun k hk => ⟨(E k).1, (E k).2.1, (E k).2.2, by rw [Nat.zero_add]; exact h.cellAt hk, (hs k hk).1, (hs k hk).2.1, (hs k hk).2.2⟩⟩⟩
theorem OwnH.congr {F : Nat → Sv} (h : OwnH w lo g n E) (e : ∀ k, k < n → E k = F k) : OwnH w lo g n F := by
  unfold OwnH at h ⊢
  rwa [heads_congr e] at h
end
/-- 'make([][]int, n)'. -/
theorem wpList_make_heads {ops : Array Oper} {rest : List Oper} {o : Oper} {a : Act} {w : World} {Q : Exit → Act → World → Prop} (hgd : o.guard = none) (l c : Operand) (ho : o.op = .makeSlice 23 l c)
    (n : Nat) (hl : a.eval l = .int .i64 n) (hc : a.eval c = .int .i64 n) (hn : n ≤ 1099511627776)
    (hK : ∀ w', OwnH w' w.heap.size w.heap.size n (fun _ => (none, 0, 0)) → Below w.heap.size w w' → wpList Try.prog ops Q rest (a.put o.dst (.slice (some ⟨w.heap.size, 0, none⟩) n n)) w') :
    wpList Try.prog ops Q (o :: rest) a w := by
  obtain ⟨i0, hi, hz0, hz1, hz2⟩ := info_parts Try.infoLs
  refine wpList_make_full w hgd l c 23 ho w.heap.size 22 i0 (.slice none 0 0) 1 Try.underlying23 hi hz0 hz1 .i64 .i64 n n n hl hc rfl rfl (by rw [hz2]; omega) (by unfold maxLen; omega) (Nat.le_refl _) ?_
  intro w1 ho1 hg1
  have e : (madeCells (Value.slice none 0 0).cells (n * 1)).toList = heads n (fun _ => (none, 0, 0)) := by
    rw [show (Value.slice none 0 0).cells = #[Value.slice none 0 0] from rfl, Nat.mul_one, toList_madeCells_one]
    apply List.ext_getElem (by simp [heads])
    intro j h1 h2
    simp [heads, sv]
  rw [e] at ho1
  exact hK w1 ho1 (grow_below hg1 (Nat.le_refl _) (by intro k hk; cases hk))
set_option maxRecDepth 100000 in
set_option maxHeartbeats 1000000 in
theorem firstRows_any (p r : Int) (A : Option Addr) (b o n k c R : Nat) (w : World) (hA : 0 < R → A = some ⟨b, o, none⟩) (hc : 0 < c ∧ c ≤ 14) (hR : R ≤ 14) (h : R * c ≤ n) (hnk : n ≤ k) (hn : n ≤ 1099511627776) :
    Calls Try.prog 158 #[.agg #[.int .i64 p, .int .i64 r, .int .i64 c, .slice A n k], .int .i64 R] w fun e w' => ∃ g, e = .returned (.slice (some ⟨g, 0, none⟩) R R) ∧ OwnH w' w.heap.size g R (fun i => (some ⟨b, o + i * c, none⟩, c, k - i * c)) ∧ Below w.heap.size w w' := by
  obtain ⟨w1, hw1⟩ : ∃ w1, w1 = w.alloc (.cells #[.int .i64 p, .int .i64 r, .int .i64 c, .slice A n k] 67) := ⟨_, rfl⟩
  obtain ⟨g, hg⟩ : ∃ g, g = w.heap.size := ⟨_, rfl⟩
  have hk : Blk w1 g 67 #[.int .i64 p, .int .i64 r, .int .i64 c, .slice A n k] := by rw [hw1, hg]; exact Blk.new _ _ _
  have HB : Hid (Below w.heap.size w w1) := Lib.hid (by rw [hw1]; exact Below.alloc_self _ _)
  have HSZ : Hid (w1.heap.size = g + 1) := Lib.hid (by rw [hw1, hg]; simp)
  have HW := Lib.hid hw1
  have HG := Lib.hid hg
  have HK := Lib.hid hk
  have HC := Lib.hid hc
  have HRn := Lib.hid h
  have HA := Lib.hid hA
  clear hA
  obtain ⟨q0, q1, q2, q3⟩ := cells4 hk
  clear hw1 hg hk hc h
  go_enter Try.func158, Try.ntmps158
  go_upto_region 1 with fail
  rw [← HW.out, ← HG.out]
  go_wp2_with (at_make; refine wpList_make_heads rfl (.tmp 7) (.tmp 7) rfl R rfl rfl (by omega) ?_; intro w2 ho2 hb2; have HO2 := Lib.hid ho2; have HB2 := Lib.hid hb2; obtain ⟨g2, hg2⟩ : ∃ g2, g2 = w1.heap.size := ⟨_, rfl⟩; have HG2 := Lib.hid hg2; rw [← hg2]; clear ho2 hb2 hg2)
  clear q0 q1 q2 q3
  go_loopw [11] (fun iv wr => ∃ i : Nat, i ≤ R ∧ iv = .int .i64 i ∧ OwnH wr w1.heap.size g2 R (fun j => if j < i then (some ⟨b, o + j * c, none⟩, c, k - j * c) else (none, 0, 0)) ∧ Below w1.heap.size w1 wr)
    (fun iv _ => R - (intOf iv).toNat)
  case atStart => exact ⟨0, Nat.zero_le _, rfl, by have := HO2.out; rw [← HG2.out] at this ⊢; exact this.congr fun k _ => by simp, HB2.out⟩
  case round =>
    obtain ⟨i, hi, rfl, ho, hb⟩ := hrel
    clear HO2 HB2
    have HO := Lib.hid ho
    have HBR := Lib.hid hb
    clear ho hb
    by_cases hlt : i < R
    case neg =>
      have hin : i = R := by omega
      subst hin
      go_wp2
      go_ret
      exact ⟨g2, rfl, by
        have := HO.out
        have h2 : OwnH wr w1.heap.size g2 i (fun i => (some ⟨b, o + i * c, none⟩, c, k - i * c)) := this.congr fun j hj => by simp [hj]
        refine ⟨h2.1, ?_⟩
        rcases h2.2 with hn | ⟨g', cap, cur, e, hl, rest⟩
        · exact .inl hn
        · exact .inr ⟨g', cap, cur, e, by have := HSZ.out; have := HG.out; omega, rest⟩, HB.out.trans (HBR.out.mono (by have := HSZ.out; have := HG.out; omega))⟩
    case pos =>
      have hlI : (i : Int) < (R : Int) := by omega
      obtain rfl := HA.out (by omega)
      have HKr := Lib.hid (HK.out.below HBR.out HK.out.lt)
      have HCR := Lib.hid (matRow_any p r b o n k c i wr HC.out.2 (by omega) (by have h1 := HRn.out; have h2 : (i + 1) * c ≤ R * c := Nat.mul_le_mul (by omega) (Nat.le_refl _); omega) hnk hn HC.out.1)
      go_wp2_with (first
        | (refine wpList_load_rowP rfl 67 (.tmp 2) rfl g rfl 67 #[.int .i64 p, .int .i64 r, .int .i64 c, .slice (some ⟨b, o, none⟩) n k] _ HKr.out Try.underlying67 rfl Try.infoMx ?_)
        | (go_at_call 220
           with_reducible refine HCR.out.mono ?_
           rintro e w3 ⟨rfl, hb3⟩
           have ho3 := HO.out.below hb3 HO.out.at_.2
           have hc3 := ho3.cellAt hlt
           have hf3 : w3.frozen? ⟨g2, i, none⟩ = false := World.ownsRow.frozenAt ho3 i
           have hst := ho3.set_ hlt (some ⟨b, o + i * c, none⟩, c, k - i * c)
           have HST := Lib.hid hst
           have HB3 : Hid (Below w1.heap.size w1 w3) := Lib.hid (HBR.out.trans (hb3.mono HBR.out.size))
           have HL3 : Hid (w1.heap.size ≤ g2 ∧ g2 < w3.heap.size) := Lib.hid ho3.at_
           simp only [Nat.lt_irrefl, if_false, sv] at hc3
           clear hst ho3 hb3)
        | fail)
      go_roundw
      case rel => exact ⟨i + 1, by omega, by go_num, HST.out.1.congr fun j hj => by
          by_cases e : j = i
          · subst e; simp
          · by_cases e2 : j < i
            · simp [e, e2, Nat.lt_succ_of_lt e2]
            · have e3 : ¬ j < i + 1 := by omega
              simp [e, e2, e3], HB3.out.grown HST.out.2 HB3.out.size (by rintro q ⟨⟩; exact HL3.out.1)⟩
      case measure => simp [intOf]; omega
end Go.Proofs.Ytjpoliibljjhnaa

/-
  A row plus a multiple of another one, in memory, on the program's side. Conditions: the modulus at most 7, numbers are rests, lengths at most 1000.
-/

namespace Go.Proofs.Ytjpoliibljjhnaa
open Go.RowKit

/-- The numbers of d from o on, as many as k, plus multiples of those of y. -/
def addO (p : Int) (d : List Int) (o : Nat) (f : Int) (y : List Int) (k : Nat) : List Int := (List.range d.length).map fun q => if o ≤ q ∧ q < o + k then (nth d q + f * nth y (q - o)) % p else nth d q
theorem addO_len (p : Int) (d : List Int) (o : Nat) (f : Int) (y : List Int) (k : Nat) : (addO p d o f y k).length = d.length := by simp [addO]
theorem addO_nth {p : Int} {d : List Int} {o : Nat} {f : Int} {y : List Int} {k q : Nat} (h : q < d.length) : nth (addO p d o f y k) q = if o ≤ q ∧ q < o + k then (nth d q + f * nth y (q - o)) % p else nth d q := nth_rangeMap _ h
theorem addO_zero (p : Int) (d : List Int) (o : Nat) (f : Int) (y : List Int) : addO p d o f y 0 = d :=
  nth_ext (addO_len ..) fun j hj => by rw [addO_nth (by rwa [addO_len] at hj), if_neg (by omega)]
theorem addO_succ {p : Int} {d : List Int} {o : Nat} {f : Int} {y : List Int} {k : Nat} (h : o + k < d.length) : (addO p d o f y k).set (o + k) ((nth d (o + k) + f * nth y k) % p) = addO p d o f y (k + 1) :=
  nth_ext (by rw [List.length_set, addO_len, addO_len]) fun j hj => by
    rw [List.length_set, addO_len] at hj
    rw [nth_set_at (by rw [addO_len]; exact h), addO_nth hj, addO_nth hj]
    by_cases e : j = o + k
    · subst e; rw [if_pos rfl, if_pos (by omega), show o + k - o = k by omega]
    · rw [if_neg e]
      by_cases hlt : o ≤ j ∧ j < o + k
      · rw [if_pos hlt, if_pos (by omega)]
      · rw [if_neg hlt, if_neg (by omega)]
theorem addO_rg {p : Int} (hp : 0 < p) {d : List Int} (hx : Rg p d) (o : Nat) (f : Int) (y : List Int) (k : Nat) : Rg p (addO p d o f y k) := fun j => by
  by_cases h : j < d.length
  · rw [addO_nth h]
    split
    · exact ⟨Int.emod_nonneg _ (by omega), Int.emod_lt_of_pos _ hp⟩
    · exact hx j
  · rw [nth_past (by rw [addO_len]; omega)]; exact ⟨Int.le_refl _, hp⟩
theorem addO_whole (p : Int) (d : List Int) (f : Int) (y : List Int) : addO p d 0 f y d.length = addT p d f y :=
  nth_ext (by rw [addO_len, addT_len]) fun j hj => by
    rw [addO_len] at hj
    rw [addO_nth hj, if_pos (by omega), addT_nth hj, Nat.sub_zero]
set_option maxRecDepth 100000 in
set_option maxHeartbeats 1000000 in
theorem rowTimes_any (p f : Int) (g N K lo hi o n cr : Nat) (d y : List Int) (A2 : Option Addr) (c2 : Nat) (w : World) (hp : 2 ≤ p ∧ p ≤ 7) (hf : 0 ≤ f ∧ f ≤ 7) (hd : Rg p d) (hy : Rg p y)
    (ho : Own w lo hi (some ⟨g, 0, none⟩) N K d) (hon : o + n ≤ N) (hN : N ≤ 1000)
    (hs2 : SI w A2 n y) (hfar : (∀ b o', A2 = some ⟨b, o', none⟩ → b ≠ g) ∨ A2 = some ⟨g, o, none⟩) :
    Calls Try.prog 211 #[.int .i64 p, .slice (some ⟨g, o, none⟩) n cr, .int .i64 f, .slice A2 n c2] w fun e w' => e = .returned (.tuple #[]) ∧ Own w' lo hi (some ⟨g, 0, none⟩) N K (addO p d o f y n) ∧ ∃ wm, Drawn w wm ∧ wm.grownBy w' (some g) := by
  have HL := Lib.hid ho.len
  have HP := Lib.hid hp
  have HF := Lib.hid hf
  have HD := Lib.hid hd
  have HY := Lib.hid hy
  have HS2 := Lib.hid hs2
  have HFAR := Lib.hid hfar
  have hself : (A2 = some ⟨g, o, none⟩) → ∀ j, j < n → nth d (o + j) = nth y j := fun e j hj => by
    have h1 := hs2.2 (by omega)
    obtain ⟨b, o', e', _, hc⟩ := h1
    rw [e] at e'
    injection e' with e'
    injection e' with e1 e2
    subst e1 e2
    have h2 := hc j hj
    rw [ho.cellAt (by omega)] at h2
    injection h2 with h2
    injection h2
  have HSELF := Lib.hid hself
  have hpnz : p ≠ 0 := by omega
  clear hself hs2 hfar hd hy hp hf
  go_enter Try.func211, Try.ntmps211
  go_wp2
  go_loopw [12] (fun iv wr => ∃ j : Nat, j ≤ n ∧ iv = .int .i64 j ∧ Own wr lo hi (some ⟨g, 0, none⟩) N K (addO p d o f y j) ∧ w.grownBy wr (some g))
    (fun iv _ => n - (intOf iv).toNat)
  case atStart => exact ⟨0, Nat.zero_le _, rfl, by rw [addO_zero]; exact ho, World.grownBy.refl _ _⟩
  case round =>
    obtain ⟨j, hj, rfl, hown, hgr⟩ := hrel
    have HO := Lib.hid hown
    have HG := Lib.hid hgr
    clear hown hgr ho
    by_cases hlt : j < n
    case neg =>
      have hjn : j = n := by omega
      subst hjn
      go_wp2
      go_returns
      exact ⟨rfl, HO.out, w, Drawn.refl _, HG.out⟩
    case pos =>
      have hlI : (j : Int) < (n : Int) := by omega
      obtain ⟨b2, o2, he2, hb2, hc2⟩ := HS2.out.at_ (by omega)
      subst he2
      have hcy : wr.cell? ⟨b2, o2 + j, none⟩ = some (.int .i64 (nth y j)) := by
        rcases HFAR.out with h | h
        · exact HG.out.cell (hc2 j hlt) (fun e => by injection e with e; exact h b2 o2 rfl e)
        · injection h with h
          injection h with h1 h2
          subst h1 h2
          rw [HO.out.cellAt (by omega), addO_nth (by rw [HL.out]; omega), if_neg (by omega), HSELF.out rfl j hlt]
      have hcx : wr.cell? ⟨g, o + j, none⟩ = some (.int .i64 (nth d (o + j))) := by
        rw [HO.out.cellAt (by omega), addO_nth (by rw [HL.out]; omega), if_neg (by omega)]
      have hfx : wr.frozen? ⟨g, o + j, none⟩ = false := HO.out.frozenAt (o + j)
      obtain ⟨X, hX⟩ : ∃ X, X = nth d (o + j) := ⟨_, rfl⟩
      obtain ⟨Y, hY⟩ : ∃ Y, Y = nth y j := ⟨_, rfl⟩
      have hXb := HD.out (o + j)
      have hYb := HY.out j
      rw [← hX] at hcx hXb
      rw [← hY] at hcy hYb
      obtain ⟨FY, hFY⟩ : ∃ FY, FY = f * Y := ⟨_, rfl⟩
      have hFY0 : 0 ≤ FY := by rw [hFY]; exact Int.mul_nonneg HF.out.1 hYb.1
      have hFY1 : FY ≤ 49 := by rw [hFY]; exact Int.le_trans (Int.mul_le_mul HF.out.2 (show Y ≤ 7 by have := HP.out; omega) hYb.1 (by decide)) (by decide)
      have hw1 : IntKind.i64.wrap (f * Y) = FY := by rw [← hFY]; exact IntWalk.i64_in _ (by omega)
      have hw2 : IntKind.i64.wrap (X + FY) = X + FY := IntWalk.i64_in _ (by have := HP.out; omega)
      obtain ⟨V, hV⟩ : ∃ V, V = (X + FY) % p := ⟨_, rfl⟩
      have hw3 : (X + FY).tmod p = V := by rw [hV]; exact Int.tmod_eq_emod_of_nonneg (by omega)
      have hVb : 0 ≤ V ∧ V < p := by rw [hV]; exact ⟨Int.emod_nonneg _ hpnz, Int.emod_lt_of_pos _ (by have := HP.out; omega)⟩
      have hw4 : IntKind.i64.wrap V = V := IntWalk.i64_in _ (by have := HP.out; omega)
      have hst := HO.out.set_ (k := o + j) V
      have HST : Hid (Own (wr.setCell ⟨g, o + j, none⟩ (.int .i64 V)) lo hi (some ⟨g, 0, none⟩) N K (addO p d o f y (j + 1)) ∧ w.grownBy (wr.setCell ⟨g, o + j, none⟩ (.int .i64 V)) (some g)) := Lib.hid ⟨by
        rw [← addO_succ (by rw [HL.out]; omega), ← hX, ← hY, ← hFY, ← hV]; exact hst.1, HG.out.trans hst.2⟩
      clear hst hc2 hX hY hFY hV hXb hYb hVb hFY0 hFY1
      go_wp2
      go_roundw
      case rel => exact ⟨j + 1, by omega, by go_num, HST.out.1, HST.out.2⟩
      case measure => simp [intOf]; omega
end Go.Proofs.Ytjpoliibljjhnaa

/-
  A slice copied into a slice of the call's own; the first number other than 0. Conditions: lengths below 2^40.
-/


namespace Go.Proofs.Ytjpoliibljjhnaa
open Go.RowKit

theorem Try.infoIntR : (Try.prog.info? 3).map (·.size) = some 1 := by kernel_rfl
/-- 'copy(d, s)' into a slice of the call's own that is at least as long. -/
theorem wpList_copyR {ops : Array Oper} {rest : List Oper} {o : Oper} {a : Act} {w : World} {Q : Exit → Act → World → Prop} (hgd : o.guard = none) (d s : Operand)
    (ho : o.op = .call { callee := .builtin .copy, args := #[d, s], argTypes := #[22, 22] }) (g n' : Nat) (A : Option Addr) (n c : Nat) (hd : a.eval d = .slice (some ⟨g, 0, none⟩) n' n') (hs : a.eval s = .slice A n c)
    (lo hi : Nat) (ys e : List Int) (hown : Own w lo hi (some ⟨g, 0, none⟩) n' n' ys) (hsi : SI w A n e) (hle : n ≤ n')
    (hK : ∀ w', Own w' lo hi (some ⟨g, 0, none⟩) n' n' (e ++ ys.drop n) → w.grownBy w' (some g) → wpList Try.prog ops Q rest (a.put o.dst (goInt n)) w') : wpList Try.prog ops Q (o :: rest) a w := by
  have hl := hsi.1
  by_cases h0 : n = 0
  · subst h0
    obtain rfl : e = [] := List.eq_nil_of_length_eq_zero hl
    exact Go.wpList_copy_nothing hgd d s 22 22 ho 3 Try.underlying22 Try.infoIntR (some ⟨g, 0, none⟩) A n' n' 0 c hd hs (by simp) (hK w (by simpa using hown) (World.grownBy.refl _ _))
  · obtain ⟨b, off, rfl, hb, hc⟩ := hsi.2 (by omega)
    rcases hown.1.2 with ⟨hx, _⟩ | ⟨g', cap, cur, hv, hlo, hg, hnc, hcm, hcs, htake⟩
    · cases hx
    · have hv' := hv
      simp only [Value.slice.injEq, Option.some.injEq, Addr.mk.injEq, and_true, true_and] at hv'
      obtain ⟨rfl, rfl⟩ := hv'
      have hyl := hown.len
      have hcur : cur.toList = ys.map (Value.int .i64) := by rw [← htake, List.take_of_length_le (by simp; omega)]
      have hE : (cur.toList.take 0 ++ (e.map (Value.int .i64) ++ cur.toList.drop (0 + (e.map (Value.int .i64)).length))).toArray = ((e ++ ys.drop n).map (Value.int .i64)).toArray := by
        rw [hcur]; simp [hl, List.map_drop]
      refine Go.wpList_copy_own hgd d s 22 22 ho 3 Try.underlying22 Try.infoIntR g 0 n' n' ⟨b, off, none⟩ n c hd hs cur 3 hg (e.map (Value.int .i64)) (by simp [hl]; exact (Nat.min_eq_left hle).symm) ?_ (by simp [hl]; omega) (ints_oneCell _ _) ?_
      · intro j v hj
        have hjl : j < e.length := by
          rcases Nat.lt_or_ge j e.length with h | h
          · exact h
          · rw [List.getElem?_eq_none (by simpa using h)] at hj; cases hj
        rw [List.getElem?_map, nth_get? hjl] at hj
        rw [add_pt, hc j (by omega)]
        exact hj
      · rw [hE]
        have hk := hK (w.setRow g ((e ++ ys.drop n).map (Value.int .i64)).toArray) ⟨⟨by simp; omega, .inr ⟨g, n', _, rfl, hlo, setRow_heap w g cur _ _ (0, 0) hg, Nat.le_refl _, hcm, by simp; omega, List.take_of_length_le (by simp; omega)⟩⟩, hown.2⟩ (grownBy_setRow w g _)
        simpa [hl] using hk

theorem nonzFn_any (x : Int) (w : World) : Calls Try.prog 213 #[.int .i64 x] w fun r w' => r = .returned (.bool (decide (x ≠ 0))) ∧ w = w' := by
  by_cases h0 : x = 0
  · subst h0
    go_enter Try.func213, Try.ntmps213
    go_wp2
    go_ret
    exact ⟨ret_bool (by decide), rfl⟩
  · have HE : Hid (true = decide (x ≠ 0)) := Lib.hid (decide_eq_true h0).symm
    have hb0 : (x != 0) = true := by simpa using h0
    clear h0
    go_enter Try.func213, Try.ntmps213
    go_wp2
    go_ret
    exact ⟨ret_bool HE.out, rfl⟩
set_option maxHeartbeats 800000 in
theorem indexNonz_any (A : Option Addr) (n c : Nat) (xs : List Int) (w : World) (hs : SI w A n xs) (hn : n ≤ 1099511627776) :
    Calls Try.prog 212 #[.slice A n c, .func (.func 213) #[] #[]] w fun r w' =>
      ∃ i : Int, r = .returned (.int .i64 i) ∧ (ldN xs = n ∧ i = -1 ∨ ldN xs < n ∧ i = (ldN xs : Int)) ∧ Drawn w w' := by
  have HL := Lib.hid hs.1
  go_enter Try.func212, Try.ntmps212
  go_wp2
  go_loopw [8] (fun i wr => ∃ k : Nat, k ≤ n ∧ i = .int .i64 k ∧ Drawn w wr ∧ ∀ j, j < k → nth xs j = 0)
    (fun i _ => n - (intOf i).toNat)
  case atStart => exact ⟨0, Nat.zero_le _, rfl, Drawn.refl _, fun j hj => absurd hj (by omega)⟩
  case round =>
    obtain ⟨k, hk, rfl, hD, hall⟩ := hrel
    have HA := Lib.hid hall
    have HDR := Lib.hid hD
    have hs := hD.si hs
    clear hall hD
    by_cases hlt : k < n
    · have hlI : (k : Int) < (n : Int) := by omega
      obtain ⟨b, o, rfl, hb, hc⟩ := hs.at_ (by omega)
      have hc1 := hc k hlt
      obtain ⟨y, hy⟩ : ∃ y, y = nth xs k := ⟨_, rfl⟩
      rw [← hy] at hc1
      have HY := Lib.hid hy
      clear hc hy hs
      by_cases hg : y ≠ 0
      · have HG := Lib.hid hg
        have HF2 := Lib.hid (nonzFn_any y wr)
        rw [decide_eq_true hg] at HF2
        clear hg
        go_wp2_with (go_at_call 213; refine HF2.out.mono ?_; rintro r w2 ⟨rfl, rfl⟩)
        go_ret
        have hgt : ldN xs = k := ldN_is xs k (by rw [HL.out]; omega) HA.out (.inr (by rw [← HY.out]; exact HG.out))
        exact ⟨(k : Int), rfl, .inr ⟨by omega, by rw [hgt]⟩, HDR.out⟩
      · have HG := Lib.hid hg
        have HF2 := Lib.hid (nonzFn_any y wr)
        rw [decide_eq_false hg] at HF2
        clear hg
        go_wp2_with (go_at_call 213; refine HF2.out.mono ?_; rintro r w2 ⟨rfl, rfl⟩)
        go_roundw
        case rel => exact ⟨k + 1, by omega, by go_num, HDR.out, fun j hj => by
          rcases Nat.lt_or_ge j k with h | h
          · exact HA.out j h
          · obtain rfl : j = k := by omega
            rw [← HY.out]; have := HG.out; omega⟩
        case measure => simp [intOf]; omega
    · have hkn : k = n := by omega
      subst hkn
      go_wp2
      go_ret
      exact ⟨-1, rfl, .inl ⟨ldN_is xs k (by rw [HL.out]; exact Nat.le_refl _) HA.out (.inl HL.out.symm), rfl⟩, HDR.out⟩
end Go.Proofs.Ytjpoliibljjhnaa

/-
  Rows taken in one by one, in memory, on the program's side. Conditions: the modulus is 2, 3, 5 or 7; lengths at most 1000.
-/




namespace Go.Proofs.Ytjpoliibljjhnaa
open Go.RowKit

/-- The rows that are kept, in memory. -/
structure EchD (w : World) (lo ge : Nat) (p : Int) (E : List (List Int × Int)) (AR : Option Addr) (nR cR : Nat) (AC : Option Addr) (nC cC : Nat) (Ev : Nat → Sv) : Prop where
  blk : Blk w ge 149 #[.int .i64 p, .slice AR nR cR, .slice AC nC cC]
  glo : lo ≤ ge
  rows : OwnLE Ev w lo w.heap.size AR nR cR (E.map (·.1))
  cols : Own w lo w.heap.size AC nC cC (E.map (·.2))
  ap1 : Apart Ev AR nR ge
  ap2 : rowB AC ≠ some ge
  ap3 : ∀ q, rowB AC = some q → Apart Ev AR nR q
def EchS (w : World) (lo ge : Nat) (p : Int) (E : List (List Int × Int)) : Prop := ∃ AR nR cR AC nC cC Ev, EchD w lo ge p E AR nR cR AC nC cC Ev
theorem OwnLE.belowE {E : Nat → Sv} {w w' : World} {lo hi n c B : Nat} {A : Option Addr} {ls : List (List Int)} (h : OwnLE E w lo hi A n c ls) (hb : Below B w w') (hB : hi ≤ B) : OwnLE E w' lo hi A n c ls := h.below hb hB
section
variable {w w' : World} {lo ge : Nat} {p : Int} {E : List (List Int × Int)} {AR : Option Addr} {nR cR : Nat} {AC : Option Addr} {nC cC : Nat} {Ev : Nat → Sv}
theorem EchD.below {B : Nat} (h : EchD w lo ge p E AR nR cR AC nC cC Ev) (hb : Below B w w') (hB : w.heap.size ≤ B) : EchD w' lo ge p E AR nR cR AC nC cC Ev :=
  ⟨h.blk.below hb (Nat.lt_of_lt_of_le h.blk.lt hB), h.glo, (h.rows.belowE hb hB).wide hb.size, (h.cols.below hb hB).wide (Nat.le_refl _) hb.size, h.ap1, h.ap2, h.ap3⟩
theorem EchD.lenR (h : EchD w lo ge p E AR nR cR AC nC cC Ev) : E.length = nR := by have := h.rows.1; simpa using this
theorem EchD.lenC (h : EchD w lo ge p E AR nR cR AC nC cC Ev) : E.length = nC := by have := h.cols.len; simpa using this
theorem EchD.cells (h : EchD w lo ge p E AR nR cR AC nC cC Ev) : w.cell? ⟨ge, 0, none⟩ = some (.int .i64 p) ∧ w.cell? ⟨ge, 1, none⟩ = some (.slice AR nR cR) ∧ w.cell? ⟨ge, 2, none⟩ = some (.slice AC nC cC) := ⟨h.blk.cell 0, h.blk.cell 1, h.blk.cell 2⟩
end
theorem redE_take {p : Int} {E : List (List Int × Int)} {x : List Int} {i : Nat} (h : i < E.length) :
    redE p (E.take (i + 1)) x = addT p (redE p (E.take i) x) (p - nth (redE p (E.take i) x) (nth (E.map (·.2)) i).toNat) (li (E.map (·.1)) i) := by
  rw [List.take_succ_eq_append_getElem h, redE_snoc]
  have e1 : nth (E.map (·.2)) i = E[i].2 := by rw [nth_get (by simpa using h)]; simp
  have e2 : li (E.map (·.1)) i = E[i].1 := by rw [li_get (by simpa using h)]; simp
  rw [e1, e2]
set_option maxRecDepth 100000 in
set_option maxHeartbeats 8000000 in
theorem echAdd_any (p : Int) (lo ge n c : Nat) (A : Option Addr) (E : List (List Int × Int)) (x : List Int) (w : World) (hp : P7 p) (hE : EchS w lo ge p E) (hok : EOk p n E) (hEl : E.length ≤ 1000) (hs : SI w A n x) (hx : Rg p x) (hn : n ≤ 1000) :
    Calls Try.prog 144 #[.pointer (some ⟨ge, 0, none⟩), .slice A n c] w fun e w' => e = .returned (.tuple #[]) ∧ EchS w' lo ge p (addR p E x) ∧ Below lo w w' := by
  obtain ⟨AR, nR, cR, AC, nC, cC, Ev, hD⟩ := hE
  have hp2 := hp.two
  have hp7 := hp.le
  have HP := Lib.hid hp
  have HOK := Lib.hid hok
  have HX := Lib.hid hx
  have HXL := Lib.hid hs.1
  have HLR := Lib.hid hD.lenR
  have HLC := Lib.hid hD.lenC
  have hnC : nC ≤ 1000 := by have := hD.lenC; omega
  have hnR : nR ≤ 1000 := by have := hD.lenR; omega
  obtain ⟨B, hB⟩ : ∃ B, B = w.heap.size := ⟨_, rfl⟩
  have HB0 : Hid (B = w.heap.size) := hB
  have HGE : Hid (lo ≤ ge ∧ ge < B) := Lib.hid ⟨hD.glo, by rw [hB]; exact hD.blk.lt⟩
  have HD0 := Lib.hid hD
  have HS0 := Lib.hid hs
  clear hp hok hx hD hs hEl
  go_enter Try.func144, Try.ntmps144
  go_upto_region 1 with (at_make; refine wpList_make_zero rfl (.tmp 10) (.tmp 10) rfl n rfl rfl (by omega) ?_; intro w1 ho1 hb1; have HO1 := Lib.hid ho1; have HB1 := Lib.hid hb1; clear ho1 hb1)
  rw [← hB] at HO1 HB1 ⊢
  clear hB
  go_upto_region 2 with (first
    | (refine wpList_copyR rfl (.tmp 12) (.tmp 13) rfl B n A n c rfl rfl B w1.heap.size (List.replicate n 0) x HO1.out (HS0.out.below HB1.out (Nat.le_of_eq HB0.out.symm)) (Nat.le_refl _) ?_
       intro w2 ho2 hg2
       have HO2 : Hid (Own w2 B w2.heap.size (some ⟨B, 0, none⟩) n n x) := Lib.hid (by
         have e : x ++ (List.replicate n (0 : Int)).drop n = x := by simp
         rw [e] at ho2; exact ho2.wide (Nat.le_refl _) hg2.size)
       have HB2 : Hid (Below B w w2) := Lib.hid (HB1.out.grown hg2 (by have := HB1.out.size; have := HB0.out; omega) (by rintro q ⟨⟩; exact Nat.le_refl _))
       clear ho2 hg2))
  have HD2 := Lib.hid (HD0.out.below HB2.out (Nat.le_of_eq HB0.out.symm))
  obtain ⟨q0, q1, q2⟩ := HD2.out.cells
  go_upto_region 3 with fail
  clear q0 q1 q2
  go_loopw [20] (fun iv wr => ∃ i : Nat, i ≤ nC ∧ iv = .int .i64 i ∧ Own wr B wr.heap.size (some ⟨B, 0, none⟩) n n (redE p (E.take i) x) ∧ Below B w wr)
    (fun iv _ => nC - (intOf iv).toNat)
  case atStart => exact ⟨0, Nat.zero_le _, rfl, by simpa [redE] using HO2.out, HB2.out⟩
  case round =>
    obtain ⟨i, hi, rfl, ho, hb⟩ := hrel
    clear HO2 HB2 HD2 HO1 HB1
    have HO := Lib.hid ho
    have HB := Lib.hid hb
    have HDr := Lib.hid (HD0.out.below hb (Nat.le_of_eq HB0.out.symm))
    clear ho hb
    by_cases hlt : i < nC
    case pos =>
      have hlI : (i : Int) < (nC : Int) := by omega
      obtain ⟨gc, rfl, hgc1, hgc2⟩ := HDr.out.cols.place (by omega)
      have hiE : i < E.length := by rw [HLC.out]; exact hlt
      have hiR : i < nR := by have := HLC.out; have := HLR.out; omega
      obtain ⟨gr, rfl, hgr1, hgr2⟩ := HDr.out.rows.place (by omega)
      have hcc := HDr.out.cols.cellAt hlt
      have hcr := HDr.out.rows.cellAt hiR
      have hei := HOK.out.1 E[i] (List.getElem_mem hiE)
      have hcol : nth (E.map (·.2)) i = E[i].2 := by rw [nth_get (by simpa using hiE)]; simp
      have hrow : li (E.map (·.1)) i = E[i].1 := by rw [li_get (by simpa using hiE)]; simp
      obtain ⟨y, hy⟩ : ∃ y, y = E[i].1 := ⟨_, rfl⟩
      rw [← hy] at hei hrow
      obtain ⟨j, hj⟩ : ∃ j : Nat, (j : Int) = nth (E.map (·.2)) i := ⟨(nth (E.map (·.2)) i).toNat, by rw [hcol]; omega⟩
      have hjn : j < n := by rw [hcol] at hj; omega
      rw [← hj] at hcc
      obtain ⟨⟨A', n', c'⟩, hEv⟩ : ∃ a, a = Ev i := ⟨_, rfl⟩
      have hown := HDr.out.rows.2.2.2.1 i hiR
      rw [← hEv] at hcr hown
      have hcr' : wr.cell? ⟨gr, i, none⟩ = some (.slice A' n' c') := hcr
      have hown' : Own wr lo wr.heap.size A' n' c' (li (E.map (·.1)) i) := hown
      rw [hrow] at hown'
      obtain rfl : n' = n := by have := hown'.len; have := hei.1; omega
      have hcx := HO.out.cellAt hjn
      obtain ⟨d, hd⟩ : ∃ d, d = redE p (E.take i) x := ⟨_, rfl⟩
      rw [← hd] at hcx HO
      have hdr : Rg p d := by rw [hd]; exact redE_rg (by omega) _ HX.out
      have hdl : d.length = n' := by rw [hd, redE_len, HXL.out]
      obtain ⟨v, hv⟩ : ∃ v, v = nth d j := ⟨_, rfl⟩
      have hvb := hdr j
      rw [← hv] at hcx hvb
      have hw1 : IntKind.i64.wrap (p - v) = p - v := IntWalk.i64_in _ (by omega)
      have HSTEP : Hid (redE p (E.take (i + 1)) x = addO p d 0 (p - v) y n') := Lib.hid (by
        rw [redE_take hiE, ← hd, ← hj, Int.toNat_natCast, ← hv, hrow, ← hdl, addO_whole])
      have HCALL := Lib.hid (rowTimes_any p (p - v) B n' n' B wr.heap.size 0 n' n' d y A' c' wr.drew ⟨hp2, hp7⟩ ⟨by omega, by omega⟩ hdr hei.2.1 (HO.out.drawn ⟨1, rfl⟩) (by omega) hn ((hown'.drawn ⟨1, rfl⟩).si)
        (.inl fun b o' e => by
          have h1 := (HD0.out.rows.2.2.2.1 i hiR).lt
          rw [← hEv] at h1
          have h2 : rowB A' = some b := by rw [e]; rfl
          have h3 := h1 b (by rw [ownB]; exact h2)
          have := HB0.out
          omega))
      have hS0 : wr.cell? ⟨ge, 0, none⟩ = some (.int .i64 p) ∧ wr.cell? ⟨ge, 1, none⟩ = some (.slice (some ⟨gr, 0, none⟩) nR cR) ∧ wr.cell? ⟨B, j, none⟩ = some (.int .i64 v) ∧ wr.cell? ⟨gr, i, none⟩ = some (.slice A' n' c') := ⟨HDr.out.cells.1, HDr.out.cells.2.1, hcx, hcr'⟩
      have hSD : wr.drew.cell? ⟨ge, 0, none⟩ = some (.int .i64 p) ∧ wr.drew.cell? ⟨ge, 1, none⟩ = some (.slice (some ⟨gr, 0, none⟩) nR cR) ∧ wr.drew.cell? ⟨B, j, none⟩ = some (.int .i64 v) ∧ wr.drew.cell? ⟨gr, i, none⟩ = some (.slice A' n' c') := hS0
      have HS1 := Lib.hid hS0
      have HS2 := Lib.hid hSD
      have hjI : (j : Int) < (n' : Int) := by omega
      have hiI : (i : Int) < (nR : Int) := by omega
      clear hS0 hSD hcx hcr hcr' hown hown' hEv hei hcol hrow hj hd hdr hdl hv hvb hgc1 hgc2 hgr1 hgr2 hy hiE
      have hcc' : wr.cell? ⟨gc, i, none⟩ = some (.int .i64 (j : Int)) := hcc
      clear hcc
      go_wp2_with fail
      obtain ⟨s0, s1, s2, s3⟩ := HS1.out
      refine wp_region_still_tail 21 (by kernel_rfl) (by kernel_rfl) ?_
      simp only [List.take_succ_cons, List.take_zero, List.drop_succ_cons, List.drop_zero]
      repeat still_step
      refine wpStill_nil ?_
      change wpList _ _ _ _ _ wr.drew
      go_wp2_with (go_at_call 211
                   with_reducible refine HCALL.out.mono ?_
                   rintro e w3 ⟨rfl, ho3, wm, hdm, hgm⟩
                   have hsz3 : wr.heap.size ≤ w3.heap.size := by
                     have h1 := (hdm.below wr.heap.size).size
                     have h2 := hgm.size
                     exact Nat.le_trans h1 h2
                   have HO3 := Lib.hid (ho3.wide (Nat.le_refl _) hsz3)
                   have HB3 : Hid (Below B w w3) := Lib.hid ((HB.out.drew.trans (hdm.below B)).grown hgm (by have h1 := HB.out.size; have h2 := HB0.out; have h3 : wr.heap.size ≤ wm.heap.size := (hdm.below wr.heap.size).size; omega) (by rintro q ⟨⟩; exact Nat.le_refl _))
                   clear ho3 hdm hgm hsz3)
      go_wp2
      go_roundw
      case rel => exact ⟨i + 1, by omega, by go_num, by rw [HSTEP.out]; exact HO3.out, HB3.out⟩
      case measure => simp [intOf]; omega
    case neg =>
      obtain rfl : i = nC := by omega
      obtain ⟨d, hd⟩ : ∃ d, d = redE p E x := ⟨_, rfl⟩
      have hOd : Own wr B wr.heap.size (some ⟨B, 0, none⟩) n n d := by
        have := HO.out
        rw [List.take_of_length_le (by have := HLC.out; omega), ← hd] at this; exact this
      clear HO
      have HO := Lib.hid hOd
      have hdr : Rg p d := by rw [hd]; exact redE_rg (by omega) _ HX.out
      have hdl : d.length = n := hOd.len
      have HIX := Lib.hid (indexNonz_any (some ⟨B, 0, none⟩) n n d wr hOd.si (by omega))
      have HDR := Lib.hid hdr
      have HDL := Lib.hid hdl
      have HDE := Lib.hid hd
      clear hOd hdr hdl hd
      by_cases hend : ldN d = n
      case pos =>
        have HRES : Hid (addR p E x = E) := Lib.hid (by unfold addR; rw [← HDE.out, if_pos (by rw [HXL.out]; exact hend)])
        go_upto_region 8 with (go_at_call 212; with_reducible refine HIX.out.mono ?_; rintro e w2 ⟨iv, rfl, hiv, hdr2⟩; obtain rfl : iv = -1 := (by omega); have HD2 := Lib.hid hdr2; clear hiv hdr2)
        go_wp2
        go_returns
        exact ⟨rfl, by rw [HRES.out]; exact ⟨AR, nR, cR, AC, i, cC, Ev, HDr.out.below (HD2.out.below wr.heap.size) (Nat.le_refl _)⟩, (HB.out.mono (by have := HGE.out; omega)).trans (HD2.out.below lo)⟩
      case neg =>
        have hcl := ldN_le d
        obtain ⟨j, hj⟩ : ∃ j, j = ldN d := ⟨_, rfl⟩
        have hjn : j < n := by have := HDL.out; omega
        have HJ := Lib.hid hj
        have hvr := HDR.out j
        have hvne : nth d j ≠ 0 := by rw [hj]; exact ldN_at d (by have := HDL.out; omega)
        obtain ⟨v, hv⟩ : ∃ v, v = nth d j := ⟨_, rfl⟩
        rw [← hv] at hvr hvne
        have hinv := inv7_ok HP.out (x := v) ⟨by omega, hvr.2⟩
        obtain ⟨F, hF⟩ : ∃ F : Nat, (F : Int) = inv7 p v := ⟨(inv7 p v).toNat, by omega⟩
        rw [← hF] at hinv
        have HUQ : Hid (∀ f : Nat, 0 < f → f < F → v * (f : Int) % p ≠ 1) := Lib.hid (fun f h1 h2 h3 => by
          have := inv7_is HP.out (x := v) (y := (f : Int)) ⟨by omega, hvr.2⟩ ⟨by omega, by omega⟩ h3
          omega)
        have HINV := Lib.hid hinv
        have HVR : Hid (0 < v ∧ v < p) := Lib.hid ⟨by omega, hvr.2⟩
        have HNRM : Hid (addO p d 0 ((F : Int) - 1) d n = nrm p d) := Lib.hid (by rw [← HDL.out, addO_whole]; unfold nrm; rw [← HJ.out, ← hv, hF])
        have HRES : Hid (addR p E x = E ++ [(nrm p d, (j : Int))]) := Lib.hid (by unfold addR; rw [← HDE.out, if_neg (by rw [HXL.out]; exact hend), ← HJ.out])
        have HV := Lib.hid hv
        have hpnz : p ≠ 0 := by omega
        clear hcl hj hvr hvne hv hinv hF
        have hjI : (j : Int) < (n : Int) := by omega
        have hj0 : ¬ (j : Int) < 0 := by omega
        go_upto_region 8 with (go_at_call 212; with_reducible refine HIX.out.mono ?_; rintro e w2 ⟨iv, rfl, hiv, hdr2⟩; obtain rfl : iv = (j : Int) := (by have := HJ.out; omega); have HD2 := Lib.hid hdr2; clear hiv hdr2)
        go_wp2_with fail
        obtain ⟨wo, rfl⟩ : ∃ wo, wo = wr := ⟨wr, rfl⟩
        go_loopw [8] (fun fv wr => ∃ f : Nat, 0 < f ∧ f ≤ F ∧ fv = .int .i64 f ∧ Drawn wo wr)
          (fun fv _ => F - (intOf fv).toNat)
        case atStart => exact ⟨1, by omega, by have := HINV.out.1; omega, rfl, HD2.out⟩
        case round =>
          obtain ⟨f, hf0, hf1, rfl, hdx⟩ := hrel
          clear HD2
          have HDX := Lib.hid hdx
          have hOx := HO.out.drawn hdx
          have hcx := hOx.cellAt hjn
          rw [← HV.out] at hcx
          have hq0 : wr.cell? ⟨ge, 0, none⟩ = some (.int .i64 p) := (HDr.out.below (hdx.below wo.heap.size) (Nat.le_refl _)).cells.1
          have hvf0 : 0 ≤ v * (f : Int) := Int.mul_nonneg (by have := HVR.out; omega) (by omega)
          have hvf1 : v * (f : Int) ≤ 7 * 7 := Int.mul_le_mul (by have := HVR.out; omega) (by have := HINV.out; omega) (by omega) (by decide)
          obtain ⟨S, hS⟩ : ∃ S, S = v * (f : Int) := ⟨_, rfl⟩
          have hw1 : IntKind.i64.wrap (v * (f : Int)) = S := by rw [← hS]; exact IntWalk.i64_in _ (by omega)
          obtain ⟨R, hR⟩ : ∃ R, R = S % p := ⟨_, rfl⟩
          have hw2 : S.tmod p = R := by rw [hR]; exact Int.tmod_eq_emod_of_nonneg (by omega)
          have hRb : 0 ≤ R ∧ R < p := by rw [hR]; exact ⟨Int.emod_nonneg _ hpnz, Int.emod_lt_of_pos _ (by omega)⟩
          have hw3 : IntKind.i64.wrap R = R := IntWalk.i64_in _ (by omega)
          clear hdx hOx hvf0 hvf1
          by_cases hfF : f = F
          case neg =>
            have hb : (R != 1) = true := by
              have := HUQ.out f hf0 (by omega)
              rw [hR, hS]; simpa using this
            have hf7 : f ≤ 7 := by have := HINV.out; omega
            clear hS hR hRb
            go_wp2_with fail
            go_quiet (fail)
            go_wp2
            go_roundw
            case rel => exact ⟨f + 1, by omega, by omega, by go_num, HDX.out.drewN _⟩
            case measure => simp [intOf]; omega
          case pos =>
            subst hfF
            have hb : (R != 1) = false := by
              have := HINV.out.2.2
              rw [hR, hS, this]; rfl
            have hf7 : (f : Int) ≤ 7 := by have := HINV.out; omega
            clear hS hR hRb
            have hw4 : IntKind.i64.wrap ((f : Int) - 1) = (f : Int) - 1 := IntWalk.i64_in _ (by omega)
            have HCALL := Lib.hid (fun m : Nat => rowTimes_any p ((f : Int) - 1) B n n B wo.heap.size 0 n n d d (some ⟨B, 0, none⟩) n (wr.drewN m) ⟨hp2, hp7⟩ ⟨by omega, by omega⟩ HDR.out HDR.out (HO.out.drawn (HDX.out.drewN m)) (by omega) hn (HO.out.drawn (HDX.out.drewN m)).si (.inr rfl))
            go_wp2_with fail
            go_quiet (fail)
            go_upto_region 13 with (first
               | (go_at_call 211
                  with_reducible refine (HCALL.out _).mono ?_
                  rintro e w3 ⟨rfl, ho3, wm, hdm, hgm⟩
                  have hwm : Drawn wo wm := (HDX.out.drewN _).trans hdm
                  have hsz3 : wo.heap.size ≤ w3.heap.size := Nat.le_trans (hwm.below wo.heap.size).size hgm.size
                  have HO3 : Hid (Own w3 B wo.heap.size (some ⟨B, 0, none⟩) n n (nrm p d)) := Lib.hid (by rw [HNRM.out] at ho3; exact ho3)
                  have HB3 : Hid (Below B w w3) := Lib.hid ((HB.out.trans (hwm.below B)).grown hgm (by have h1 := HB.out.size; have h2 := HB0.out; have h3 := (hwm.below wo.heap.size).size; omega) (by rintro q ⟨⟩; exact Nat.le_refl _))
                  have HZ3 := Lib.hid hsz3
                  clear ho3 hdm hgm hsz3 hwm))
            have HD3 := Lib.hid (HD0.out.below HB3.out (Nat.le_of_eq HB0.out.symm))
            have HBZ : Hid (B ≤ w3.heap.size) := Lib.hid (by have := HB3.out.size; have := HB0.out; omega)
            have HLE := Lib.hid HD0.out.rows
            have HAPB : Hid (Apart Ev AR nR B ∧ ∀ q, rowB AC = some q → q < B) := Lib.hid ⟨⟨fun e => by have := HD0.out.rows.2.2.1 B (by rw [ownB]; exact e); have := HB0.out; omega, fun j hj e => by have := (HD0.out.rows.2.2.2.1 j hj).lt B e; have := HB0.out; omega⟩, fun q hq => by have := (HD0.out.cols.row_lt' hq).2; have := HB0.out; omega⟩
            obtain ⟨c0, c1, c2⟩ := HD3.out.cells
            clear hb hw1 hw2 hw3 hw4 hcx hq0
            go_upto_region 14 with (first
               | (at_builtin
                  refine wpList_appendLE rfl (.tmp 79) (.tmp 81) rfl lo w3.heap.size AR nR cR (E.map (·.1)) B wo.heap.size (some ⟨B, 0, none⟩) n n (nrm p d) rfl (by show Act.eval _ _ = _; simp [Act.eval]) HD3.out.rows HO3.out (by have := HGE.out; omega) (fun b hb => by rw [ownB] at hb; injection hb with hb; subst hb; exact ⟨by rw [ownB]; exact HAPB.out.1.1, HAPB.out.1.2⟩) HZ3.out (Nat.le_refl _) (by have := HBZ.out; have := HGE.out; omega) (by omega) ?_
                  intro AR' cR' w4 hE4 hat4 hgr4 hb4
                  have HE4 := Lib.hid hE4
                  have HAT4 := Lib.hid hat4
                  have HGR4 := Lib.hid hgr4
                  have HB4 := Lib.hid hb4
                  have HK4 := Lib.hid (HD3.out.blk.grown hgr4 (fun e => HD3.out.ap1.1 e.symm))
                  have c1' : w4.cell? ⟨ge, 1, none⟩ = some (.slice AR nR cR) := HK4.out.cell 1
                  have f1' := HK4.out.frozen 1
                  clear hE4 hat4 hgr4 hb4))
            have hg4 : w4.grownBy (w4.setCell ⟨ge, 1, none⟩ (.slice AR' (nR + 1) cR')) (some ge) := grown_setP _ _ _
            have HKv : Hid (Blk (w4.setCell ⟨ge, 1, none⟩ (.slice AR' (nR + 1) cR')) ge 149 #[.int .i64 p, .slice AR' (nR + 1) cR', .slice AC i cC]) := Lib.hid (HK4.out.set_ 1 _)
            obtain ⟨v4, hv4⟩ : ∃ v4, v4 = w4.setCell ⟨ge, 1, none⟩ (.slice AR' (nR + 1) cR') := ⟨_, rfl⟩
            rw [← hv4] at hg4 HKv ⊢
            have HAPN : Hid (∀ q, (rowB AC = some q ∨ q = ge) → Apart (snE Ev nR (some ⟨B, 0, none⟩, n, n)) AR' (nR + 1) q) := Lib.hid (fun q hq => by
              have hqB : q < B := by
                rcases hq with h | h
                · exact HAPB.out.2 q h
                · have := HGE.out; omega
              have hap : Apart Ev AR nR q := by
                rcases hq with h | h
                · exact HD0.out.ap3 q h
                · rw [h]; exact HD0.out.ap1
              refine ⟨fun e => ?_, fun j hj e => ?_⟩
              · rcases HAT4.out with h | ⟨z, h, hz⟩
                · exact hap.1 (by rw [← h]; exact e)
                · rw [h] at e; injection e with e; have := HBZ.out; omega
              · by_cases hjn : j < nR
                · rw [snE_lt _ _ hjn] at e; exact hap.2 j hjn e
                · rw [show j = nR by omega, snE_at] at e
                  have e' : some B = some q := e
                  injection e' with e'; omega)
            have HEv : Hid (OwnLE (snE Ev nR (some ⟨B, 0, none⟩, n, n)) v4 lo v4.heap.size AR' (nR + 1) cR' (E.map (·.1) ++ [nrm p d])) := Lib.hid ((HE4.out.apart hg4 (fun q hq => by injection hq with hq; exact HAPN.out q (.inr hq.symm))).wide hg4.size)
            have HCv : Hid (Own v4 lo v4.heap.size AC i cC (E.map (·.2))) := Lib.hid ((((HD3.out.cols.kept HGR4.out (fun q hq e => (HD3.out.ap3 q (by rw [← ownB AC i cC]; exact hq)).1 e)).kept hg4 (fun q hq e => HD3.out.ap2 (by rw [← ownB AC i cC, hq, e]))).wide (Nat.le_refl _) (Nat.le_trans HGR4.out.size hg4.size)))
            have HBv : Hid (Below lo w v4) := Lib.hid (((HB3.out.mono (by have := HGE.out; omega)).trans HB4.out).grown hg4 (by have := HB4.out.size; have := HBZ.out; have := HGE.out; omega) (by rintro q ⟨⟩; exact HGE.out.1))
            have HLOv : Hid (lo ≤ v4.heap.size) := Lib.hid (by have := HB4.out.size; have := HBZ.out; have := HGE.out; have := hg4.size; omega)
            have d2 : v4.cell? ⟨ge, 2, none⟩ = some (.slice AC i cC) := HKv.out.cell 2
            clear hv4 hg4 c0 c1 c2 c1' f1'
            go_wp2_with (first
               | (at_builtin
                  refine wpList_append_keep rfl (.tmp 89) (.tmp 91) rfl lo v4.heap.size AC i cC (E.map (·.2)) (j : Int) rfl (by show Act.eval _ _ = _; simp [Act.eval]) HCv.out HLOv.out (by omega) ?_
                  intro AC' cC' w5 ho5 hgr5 hat5
                  have HO5 := Lib.hid ho5
                  have HGR5 := Lib.hid hgr5
                  have HAT5 := Lib.hid hat5
                  have HK5 := Lib.hid (HKv.out.grown hgr5 (fun e => HD0.out.ap2 e.symm))
                  have d2' : w5.cell? ⟨ge, 2, none⟩ = some (.slice AC i cC) := HK5.out.cell 2
                  have g2' := HK5.out.frozen 2
                  clear ho5 hgr5 hat5))
            go_returns
            have hg5 : w5.grownBy (w5.setCell ⟨ge, 2, none⟩ (.slice AC' (i + 1) cC')) (some ge) := grown_setP _ _ _
            have hne5 : rowB AC' ≠ some ge := fun e => by
              rcases HAT5.out with ⟨h, _⟩ | ⟨z, h, hz, _⟩
              · rw [h] at e; exact HD0.out.ap2 e
              · rw [h, rowB_some] at e
                injection e with e
                have := HKv.out.lt; omega
            refine ⟨rfl, ?_, ?_⟩
            · rw [HRES.out]
              refine ⟨AR', nR + 1, cR', AC', i + 1, cC', snE Ev nR (some ⟨B, 0, none⟩, n, n), HK5.out.set_ 2 _, HGE.out.1, ?_, ?_, HAPN.out ge (.inr rfl), hne5, fun q hq => ?_⟩
              · rw [List.map_append]
                exact ((HEv.out.apart HGR5.out (fun q hq => HAPN.out q (.inl hq))).apart hg5 (fun q hq => by injection hq with hq; exact HAPN.out q (.inr hq.symm))).wide (Nat.le_trans HGR5.out.size hg5.size)
              · rw [List.map_append]
                exact ((HO5.out.kept hg5 (fun q hq e => hne5 (by rw [← ownB AC' (i + 1) cC', hq, e]))).wide (Nat.le_refl _) hg5.size)
              · rcases HAT5.out with ⟨h, _⟩ | ⟨z, h, hz, _⟩
                · rw [h] at hq; exact HAPN.out q (.inl hq)
                · rw [h, rowB_some] at hq
                  injection hq with hq
                  subst hq
                  exact ⟨fun e => by have := HEv.out.row_lt' e; omega, fun j hj e => by have := (HEv.out.2.2.2.1 j hj).lt _ e; omega⟩
            · exact (HBv.out.grown HGR5.out HLOv.out (fun q hq => (HCv.out.row_lt' hq).1)).grown hg5 (by have := HGR5.out.size; have := HLOv.out; omega) (by rintro q ⟨⟩; exact HGE.out.1)
end Go.Proofs.Ytjpoliibljjhnaa

/-
  All rows of a list taken in, on the program's side. Conditions: the modulus is 2, 3, 5 or 7; lengths at most 1000.
-/

namespace Go.Proofs.Ytjpoliibljjhnaa
open Go.RowKit

theorem Try.infoEc : (Try.prog.info? 149).map (·.size) = some 3 := by kernel_rfl
/-- What a call that makes an echelon hands back. -/
def FreshEc (w w' : World) (e : Ending) (p : Int) (E : List (List Int × Int)) : Prop :=
  ∃ AR nR cR AC nC cC, e = .returned (.agg #[.int .i64 p, .slice AR nR cR, .slice AC nC cC]) ∧ OwnL w' w.heap.size w'.heap.size AR nR cR (E.map (·.1)) ∧ Own w' w.heap.size w'.heap.size AC nC cC (E.map (·.2)) ∧ Below w.heap.size w w'
theorem take_li' {ls : List (List Int)} {k : Nat} (h : k < ls.length) : ls.take (k + 1) = ls.take k ++ [li ls k] := by
  rw [List.take_succ_eq_append_getElem h, li_get h]
set_option maxRecDepth 100000 in
set_option maxHeartbeats 2000000 in
theorem echelonOf_any (p : Int) (n : Nat) (A : Option Addr) (R c : Nat) (ls : List (List Int)) (w : World) (hp : P7 p) (hs : LS w A R ls) (hR : R ≤ 1000) (hl : ∀ x, x ∈ ls → x.length = n ∧ Rg p x) (hn : n ≤ 1000) :
    Calls Try.prog 159 #[.int .i64 p, .slice A R c] w fun e w' => FreshEc w w' e p (echel p ls) := by
  obtain ⟨w1, hw1⟩ : ∃ w1, w1 = w.alloc (.cells #[.int .i64 0, .slice none 0 0, .slice none 0 0] 149) := ⟨_, rfl⟩
  obtain ⟨g, hg⟩ : ∃ g, g = w.heap.size := ⟨_, rfl⟩
  have hk : Blk w1 g 149 #[.int .i64 0, .slice none 0 0, .slice none 0 0] := by rw [hw1, hg]; exact Blk.new _ _ _
  have hb : Below w.heap.size w w1 := by rw [hw1]; exact Below.alloc_self _ _
  have HB := Lib.hid hb
  have HSZ : Hid (w1.heap.size = g + 1) := Lib.hid (by rw [hw1, hg]; simp)
  have HW := Lib.hid hw1
  have HG := Lib.hid hg
  have HK := Lib.hid hk
  have HP := Lib.hid hp
  have HL := Lib.hid hl
  have HLS := Lib.hid (hs.below hb (Nat.le_refl _))
  have HLN := Lib.hid hs.1
  clear hw1 hg hk hb hp hl hs
  go_enter Try.func159, Try.ntmps159
  go_upto_region 1 with fail
  rw [← HW.out, ← HG.out]
  go_upto_region 2 with (first
    | (refine wpList_store_rowP rfl 149 (.tmp 5) (.tmp 9) rfl w1.heap.size #[.int .i64 p, .slice none 0 0, .slice none 0 0] rfl rfl 149 #[.int .i64 0, .slice none 0 0, .slice none 0 0] (Blk.new _ _ _) Try.infoEc rfl (by simp [Value.oneCell']) ?_
       intro w2 hb2 hg2
       have HK2 := Lib.hid hb2
       have HG2 := Lib.hid hg2
       clear hb2 hg2))
  obtain ⟨ge, hge⟩ : ∃ ge, ge = w1.heap.size := ⟨_, rfl⟩
  rw [← hge] at HK2 HG2 ⊢
  have HGE : Hid (ge = w1.heap.size) := Lib.hid hge
  have HB2 : Hid (Below ge w1 w2) := Lib.hid (((Below.refl ge w1).alloc (Nat.le_of_eq hge) _).grown HG2.out (by simp; omega) (by rintro q ⟨⟩; exact Nat.le_refl _))
  have HE0 : Hid (EchS w2 ge ge p []) := Lib.hid ⟨none, 0, 0, none, 0, 0, fun _ => (none, 0, 0), HK2.out, Nat.le_refl _, ⟨rfl, by simpa [heads] using World.ownsRow_nil _ _ _ _, fun k hk => by simp [Value.ownBlock] at hk, fun j hj => absurd hj (by omega), fun j g hj => absurd hj (by omega), fun i j g _ hj => absurd hj (by omega)⟩, Own.nil _ _ _, ⟨fun e => by simp [rowB, Value.ownBlock] at e, fun j hj => absurd hj (by omega)⟩, fun e => by simp [rowB, Value.ownBlock] at e, fun q hq => by simp [rowB, Value.ownBlock] at hq⟩
  clear hge
  go_wp2_with fail
  go_loopw [12] (fun iv wr => ∃ i : Nat, i ≤ R ∧ iv = .int .i64 i ∧ EchS wr ge ge p (echel p (ls.take i)) ∧ Below ge w1 wr)
    (fun iv _ => R - (intOf iv).toNat)
  case atStart => exact ⟨0, Nat.zero_le _, rfl, by simpa [echel] using HE0.out, HB2.out⟩
  case round =>
    obtain ⟨i, hi, rfl, hE, hbr⟩ := hrel
    clear HE0 HB2 HK2 HG2
    have HE := Lib.hid hE
    have HBR := Lib.hid hbr
    have HOK := Lib.hid (echel_ok (p := p) (n := n) HP.out (rows := ls.take i) (fun x hx => HL.out x (List.mem_of_mem_take hx))).1
    have HLE : Hid ((echel p (ls.take i)).length ≤ 1000) := Lib.hid (by
      have h1 := rnkL_le p (ls.take i)
      unfold rnkL at h1
      have h2 : (ls.take i).length ≤ i := by simp; omega
      omega)
    clear hE hbr
    by_cases hlt : i < R
    case pos =>
      have hlI : (i : Int) < (R : Int) := by omega
      have hil : i < ls.length := by rw [HLN.out]; exact hlt
      obtain ⟨b, o, A', n', c', rfl, hbb, hc0, hsi, _, _⟩ := (HLS.out.below HBR.out (Nat.le_of_eq HGE.out.symm)).at_ hlt
      obtain ⟨x, hx⟩ : ∃ x, x = li ls i := ⟨_, rfl⟩
      rw [← hx] at hsi
      have hxm : x ∈ ls := by rw [hx, li_get hil]; exact List.getElem_mem hil
      have hxo := HL.out x hxm
      have HSTEP : Hid (echel p (ls.take (i + 1)) = addR p (echel p (ls.take i)) x) := Lib.hid (by
        rw [take_li' hil, ← hx]; simp [echel, List.foldl_append])
      obtain rfl : n' = n := by have := hsi.1; have := hxo.1; omega
      have HADD := Lib.hid (echAdd_any p ge ge n' c' A' (echel p (ls.take i)) x wr HP.out HE.out HOK.out HLE.out hsi hxo.2 hn)
      clear hx hxm hxo hsi hil
      go_wp2_with (go_at_call 144; with_reducible refine HADD.out.mono ?_; rintro e w3 ⟨rfl, hE3, hb3⟩; have HE3 := Lib.hid hE3; have HB3 : Hid (Below ge w1 w3) := Lib.hid (HBR.out.trans hb3); clear hE3 hb3)
      go_roundw
      case rel => exact ⟨i + 1, by omega, by go_num, by rw [HSTEP.out]; exact HE3.out, HB3.out⟩
      case measure => simp [intOf]; omega
    case neg =>
      obtain rfl : i = R := by omega
      obtain ⟨AR, nR, cR, AC, nC, cC, Ev, hD⟩ := HE.out
      have HD := Lib.hid hD
      have HKr := Lib.hid (HK.out.below HBR.out (by have := HSZ.out; have := HGE.out; omega))
      clear hD
      go_wp2_with (first
        | (refine wpList_load_rowP rfl 149 (.tmp 5) rfl ge rfl 149 #[.int .i64 p, .slice AR nR cR, .slice AC nC cC] _ HD.out.blk Try.underlying149 rfl Try.infoEc ?_)
        | (refine wpList_store_rowP rfl 149 (.tmp 4) (.tmp 19) rfl g #[.int .i64 p, .slice AR nR cR, .slice AC nC cC] rfl rfl 149 #[.int .i64 0, .slice none 0 0, .slice none 0 0] HKr.out Try.infoEc rfl (by simp [Value.oneCell']) ?_; intro w5 hb5 hg5)
        | fail)
      refine bodyPost_ret (results_rowP Try.results159 _ _ _ 149 #[.int .i64 p, .slice AR nR cR, .slice AC nC cC] _ rfl hb5 Try.underlying149 rfl Try.infoEc) rfl ?_
      have l1 := HSZ.out
      have l2 := HGE.out
      have l3 := HG.out
      have l4 := hg5.size
      have l5 := HBR.out.size
      have hE : echel p (ls.take i) = echel p ls := by rw [List.take_of_length_le (by rw [HLN.out]; exact Nat.le_refl _)]
      have hO := HD.out.rows
      have hC := HD.out.cols
      rw [hE] at hO hC
      refine ⟨AR, nR, cR, AC, nC, cC, rfl, ⟨Ev, ?_⟩, ?_, ?_⟩
      · have h5 := (hO.apart hg5 (fun q hq => by injection hq with hq; subst hq; exact ⟨fun e => by have := (hO.row_lt' e).1; omega, fun j hj e => by have := ((hO.2.2.2.1 j hj).lt _ e).1; omega⟩)).wide l4
        obtain ⟨a1, a2, a3, a4, a5, a6⟩ := h5
        refine ⟨a1, ⟨a2.1, ?_⟩, a3, fun j hj => (a4 j hj).wide (by omega) (Nat.le_refl _), a5, a6⟩
        rcases a2.2 with hn | ⟨g', cap, cur, e, hl, rest⟩
        · exact .inl hn
        · exact .inr ⟨g', cap, cur, e, by omega, rest⟩
      · exact (hC.kept hg5 (fun q hq e => by injection e with e; have := (hC.lt q hq).1; omega)).wide (by omega) l4
      · exact (HB.out.trans (HBR.out.mono (by omega))).grown hg5 (by omega) (by rintro q ⟨⟩; omega)
theorem ecRank_any (p : Int) (AR AC : Option Addr) (nR cR nC cC : Nat) (w : World) :
    Calls Try.prog 160 #[.agg #[.int .i64 p, .slice AR nR cR, .slice AC nC cC]] w fun e w' => e = .returned (.int .i64 nR) ∧ Below w.heap.size w w' := by
  obtain ⟨w1, hw1⟩ : ∃ w1, w1 = w.alloc (.cells #[.int .i64 p, .slice AR nR cR, .slice AC nC cC] 149) := ⟨_, rfl⟩
  obtain ⟨g, hg⟩ : ∃ g, g = w.heap.size := ⟨_, rfl⟩
  have hk : Blk w1 g 149 #[.int .i64 p, .slice AR nR cR, .slice AC nC cC] := by rw [hw1, hg]; exact Blk.new _ _ _
  have HB : Hid (Below w.heap.size w w1) := Lib.hid (by rw [hw1]; exact Below.alloc_self _ _)
  have HW := Lib.hid hw1
  have HG := Lib.hid hg
  have q1 : w1.cell? ⟨g, 1, none⟩ = some (.slice AR nR cR) := hk.cell 1
  clear hw1 hg hk
  go_enter Try.func160, Try.ntmps160
  go_upto_region 1 with fail
  rw [← HW.out, ← HG.out]
  go_wp2
  go_ret
  exact ⟨rfl, HB.out⟩
end Go.Proofs.Ytjpoliibljjhnaa

/-
  Pieces of spans on the program's side: the place of a number, rows turned round, a matrix of copied rows. Conditions: lengths below 2^40, sizes at most 14.
-/



namespace Go.Proofs.Ytjpoliibljjhnaa
open Go.RowKit

set_option maxHeartbeats 800000 in
theorem indexV_any (A : Option Addr) (n c : Nat) (xs : List Int) (v : Int) (w : World) (hs : SI w A n xs) (hn : n ≤ 1099511627776) :
    Calls Try.prog 221 #[.slice A n c, .int .i64 v] w fun r w' =>
      ∃ i : Int, r = .returned (.int .i64 i) ∧ (ixN xs v = n ∧ i = -1 ∨ ixN xs v < n ∧ i = (ixN xs v : Int)) ∧ Drawn w w' := by
  have HL := Lib.hid hs.1
  go_enter Try.func221, Try.ntmps221
  go_wp2
  go_loopw [8] (fun i wr => ∃ k : Nat, k ≤ n ∧ i = .int .i64 k ∧ Drawn w wr ∧ ∀ j, j < k → nth xs j ≠ v)
    (fun i _ => n - (intOf i).toNat)
  case atStart => exact ⟨0, Nat.zero_le _, rfl, Drawn.refl _, fun j hj => absurd hj (by omega)⟩
  case round =>
    obtain ⟨k, hk, rfl, hD, hall⟩ := hrel
    have HA := Lib.hid hall
    have HDR := Lib.hid hD
    have hs := hD.si hs
    clear hall hD
    by_cases hlt : k < n
    · have hlI : (k : Int) < (n : Int) := by omega
      obtain ⟨b, o, rfl, hb, hc⟩ := hs.at_ (by omega)
      have hc1 := hc k hlt
      obtain ⟨y, hy⟩ : ∃ y, y = nth xs k := ⟨_, rfl⟩
      rw [← hy] at hc1
      have HY := Lib.hid hy
      clear hc hy hs
      by_cases hg : v = y
      · have hgb : (v == y) = true := by simpa using hg
        have HG := Lib.hid hg
        clear hg
        go_wp2
        go_ret
        have hgt : ixN xs v = k := ixN_is xs k (by rw [HL.out]; omega) HA.out (.inr (by rw [← HY.out]; exact HG.out.symm))
        exact ⟨(k : Int), rfl, .inr ⟨by omega, by rw [hgt]⟩, HDR.out⟩
      · have hgb : (v == y) = false := by simpa using hg
        have HG := Lib.hid hg
        clear hg
        go_wp2
        go_roundw
        case rel => exact ⟨k + 1, by omega, by go_num, HDR.out, fun j hj => by
          rcases Nat.lt_or_ge j k with h | h
          · exact HA.out j h
          · obtain rfl : j = k := by omega
            rw [← HY.out]; exact fun e => HG.out e.symm⟩
        case measure => simp [intOf]; omega
    · have hkn : k = n := by omega
      subst hkn
      go_wp2
      go_ret
      exact ⟨-1, rfl, .inl ⟨ixN_is xs k (by rw [HL.out]; exact Nat.le_refl _) HA.out (.inl HL.out.symm), rfl⟩, HDR.out⟩

/-- A row of heads of slices in a block of its own, with room. -/
def OwnG (w : World) (lo g n c : Nat) (E : Nat → Sv) : Prop := w.ownsRow lo 22 1 (.slice (some ⟨g, 0, none⟩) n c) n (heads n E)
theorem OwnG.cellAt {w : World} {lo g n c : Nat} {E : Nat → Sv} (h : OwnG w lo g n c E) {k : Nat} (hk : k < n) : w.cell? ⟨g, k, none⟩ = some (sv (E k)) := by
  rw [World.ownsRow.cellAt h k (by omega), heads_get _ hk]
theorem OwnG.set_ {w : World} {lo g n c : Nat} {E : Nat → Sv} (h : OwnG w lo g n c E) {k : Nat} (hk : k < n) (a : Sv) : OwnG (w.setCell ⟨g, k, none⟩ (sv a)) lo g n c (fun j => if j = k then a else E j) := by
  have hst := (World.ownsRow.stored h k (sv a)).1
  rw [heads_set E hk a] at hst
  exact hst
theorem OwnG.congr {w : World} {lo g n c : Nat} {E F : Nat → Sv} (h : OwnG w lo g n c E) (e : ∀ k, k < n → E k = F k) : OwnG w lo g n c F := by
  unfold OwnG at h ⊢
  rwa [heads_congr e] at h
def revE (E : Nat → Sv) (n k : Nat) : Nat → Sv := fun t => if t < k ∨ n ≤ t + k then E (n - 1 - t) else E t
set_option maxHeartbeats 2000000 in
theorem reverseRows_any (g n c lo : Nat) (E : Nat → Sv) (w : World) (hs : OwnG w lo g n c E) (h1 : 1 ≤ n) (hn : n ≤ 1099511627776) :
    Calls Try.prog 255 #[.slice (some ⟨g, 0, none⟩) n c] w fun e w' => e = .returned (.tuple #[]) ∧ OwnG w' lo g n c (fun t => E (n - 1 - t)) ∧ Within g (g + 1) w w' := by
  go_enter Try.func255, Try.ntmps255
  go_wp2
  go_loopw [2, 3] (fun i j wr => ∃ k j0 : Nat, 2 * k ≤ n ∧ j0 + k + 1 = n ∧ i = .int .i64 k ∧ j = .int .i64 j0 ∧ OwnG wr lo g n c (revE E n k) ∧ Within g (g + 1) w wr)
    (fun i _ _ => n - (intOf i).toNat)
  case atStart => exact ⟨0, n - 1, by omega, by omega, rfl, by go_num, hs.congr fun t ht => by unfold revE; rw [if_neg (by omega)], Within.of_below_ (Below.refl _ _)⟩
  case round =>
    obtain ⟨k, j, hk, hj, rfl, rfl, hown, hgr⟩ := hrel
    have HO := Lib.hid hown
    have HGR := Lib.hid hgr
    have HJ := Lib.hid hj
    clear hown hs hj hgr
    by_cases hlt : k < j
    · have hck := HO.out.cellAt (k := k) (by have := HJ.out; omega)
      have hcj := HO.out.cellAt (k := j) (by have := HJ.out; omega)
      have e1 : revE E n k k = E k := by unfold revE; rw [if_neg (by have := HJ.out; omega)]
      have e2 : revE E n k j = E j := by unfold revE; rw [if_neg (by have := HJ.out; omega)]
      rw [e1] at hck
      rw [e2] at hcj
      have hfk : wr.frozen? ⟨g, k, none⟩ = false := World.ownsRow.frozenAt HO.out k
      have hfj : wr.frozen? ⟨g, j, none⟩ = false := World.ownsRow.frozenAt HO.out j
      obtain ⟨⟨xa, xn, xc⟩, hx⟩ : ∃ x, x = E k := ⟨_, rfl⟩
      obtain ⟨⟨ya, yn, yc⟩, hy⟩ : ∃ y, y = E j := ⟨_, rfl⟩
      rw [← hx] at hck
      rw [← hy] at hcj
      have hck' : wr.cell? ⟨g, k, none⟩ = some (.slice xa xn xc) := hck
      have hcj' : wr.cell? ⟨g, j, none⟩ = some (.slice ya yn yc) := hcj
      have HX := Lib.hid hx
      have HY := Lib.hid hy
      have hlI : (k : Int) < (j : Int) := by omega
      have hkI : (k : Int) < (n : Int) := by have := HJ.out; omega
      have hjI : (j : Int) < (n : Int) := by have := HJ.out; omega
      have hne : ¬ k = j := by omega
      have hne' : ¬ j = k := by omega
      have hs1 := HO.out.set_ (k := k) (by have := HJ.out; omega) (ya, yn, yc)
      have hs2 := hs1.set_ (k := j) (by have := HJ.out; omega) (xa, xn, xc)
      have HS := Lib.hid hs2
      have hcj2 : (wr.setCell ⟨g, k, none⟩ (.slice ya yn yc)).cell? ⟨g, j, none⟩ = some (.slice ya yn yc) := (World.cell?_setCell_other wr _ _ _ (by intro e; injection e with _ e2; exact hne e2)).trans hcj'
      have hfj2 : (wr.setCell ⟨g, k, none⟩ (.slice ya yn yc)).frozen? ⟨g, j, none⟩ = false := World.ownsRow.frozenAt hs1 j
      clear hs1 hs2 hx hy hck hcj e1 e2
      go_wp2
      go_region
      go_wp2
      go_roundw
      case rel =>
        have e3 := HJ.out
        refine ⟨k + 1, j - 1, by omega, by omega, by go_num, by go_num, ?_, ?_⟩
        · have h5 : OwnG ((wr.setCell ⟨g, k, none⟩ (.slice ya yn yc)).setCell ⟨g, j, none⟩ (.slice xa xn xc)) lo g n c (revE E n (k + 1)) := HS.out.congr fun t ht => by
            unfold revE
            by_cases h6 : t = j
            · subst h6; rw [if_pos rfl, if_pos (by omega), HX.out, show n - 1 - t = k by omega]
            · rw [if_neg h6]
              by_cases h7 : t = k
              · subst h7; rw [if_pos rfl, if_pos (by omega), HY.out, show n - 1 - t = j by omega]
              · rw [if_neg h7]
                by_cases h8 : t < k ∨ n ≤ t + k
                · rw [if_pos h8, if_pos (by omega)]
                · rw [if_neg h8, if_neg (by omega)]
          exact h5
        · have g1 := grown_setP wr ⟨g, k, none⟩ (.slice ya yn yc)
          have g2 := grown_setP (wr.setCell ⟨g, k, none⟩ (.slice ya yn yc)) ⟨g, j, none⟩ (.slice xa xn xc)
          have w1 : Within g (g + 1) wr (wr.setCell ⟨g, k, none⟩ (.slice ya yn yc)) := Within.of_grown g1 (by rintro q ⟨⟩; exact ⟨Nat.le_refl _, Nat.lt_succ_self _⟩)
          have w2 : Within g (g + 1) (wr.setCell ⟨g, k, none⟩ (.slice ya yn yc)) ((wr.setCell ⟨g, k, none⟩ (.slice ya yn yc)).setCell ⟨g, j, none⟩ (.slice xa xn xc)) := Within.of_grown g2 (by rintro q ⟨⟩; exact ⟨Nat.le_refl _, Nat.lt_succ_self _⟩)
          exact ((HGR.out.trans w1).trans w2).trans (Within.of_below_ ((Below.refl _ _).drew))
      case measure => have := HJ.out; simp [intOf]; omega
    · go_wp2
      go_returns
      refine ⟨rfl, HO.out.congr fun t ht => by
        have := HJ.out
        unfold revE
        by_cases h8 : t < k ∨ n ≤ t + k
        · rw [if_pos h8]
        · rw [if_neg h8, show n - 1 - t = t by omega], HGR.out⟩
end Go.Proofs.Ytjpoliibljjhnaa

/-
  slices.Concat at two slices of rows. Conditions: lengths at most 1000.
-/



namespace Go.Proofs.Ytjpoliibljjhnaa
open Go.RowKit

set_option maxHeartbeats 800000 in
/-- slices.Grow at the nil slice of rows. -/
theorem growNilR_any (m : Nat) (w : World) (hm : m ≤ 2000) :
    Calls Try.prog 210 #[.slice none 0 0, .int .i64 m] w fun e w' => ∃ A c, e = .returned (.slice A 0 c) ∧ w'.ownsRow w.heap.size 22 1 (.slice A 0 c) 0 [] ∧ Below w.heap.size w w' := by
  cases m with
  | zero =>
    go_enter Try.func210, Try.ntmps210
    go_wp2
    go_ret
    exact ⟨none, 0, rfl, World.ownsRow_nil _ _ _ _, Below.refl _ _⟩
  | succ k =>
    obtain ⟨m, hk⟩ : ∃ m, m = k + 1 := ⟨_, rfl⟩
    rw [← hk] at hm ⊢
    have hm1 : 0 < m := by omega
    clear hk
    obtain ⟨i0, hi, hz0, hz1, hz2⟩ := info_parts Try.infoLs
    have hold : (Builtin.firstCells i0.size 0 (.slice none 0 0)).run Try.prog w.drew = .ok #[] w.drew := run_firstCells_none w.drew i0.size 0 0 0
    have hrz : ∀ ty, (Builtin.append_ #[23, 3] ty #[.slice none 0 0, .int .i64 (m : Int)]).run Try.prog w =
        .ok (.slice (some ⟨w.heap.size, 0, none⟩) (0 + m) (grownCap w (0 + m) 0 22)) (w.drew.alloc (.cells (#[] ++ Builtin.zeroCells (Value.slice none 0 0).cells m ++ Builtin.zeroCells (Value.slice none 0 0).cells (grownCap w (0 + m) 0 22 - (0 + m))) 22)) := fun ty =>
      Lib.run_append_grow_zeros w 23 3 ty 22 i0 (.slice none 0 0) .i64 .i64 Try.underlying23 Try.underlying3 hi hz0 none 0 0 [] hold m hm1 (by omega) (by omega) (by omega)
        (by rw [hz2]; omega) (growslice_fits (by omega) (by rw [hz2]; omega))
    have hGn : 0 + m ≤ grownCap w (0 + m) 0 22 := grownCap_ge w _ _ _
    have hGm := grownCap_le_maxLen w (0 + m) 0 22 (by unfold maxLen; omega)
    have hc1 : (Value.slice none 0 0).cells.size = 1 := rfl
    obtain ⟨G, hG⟩ : ∃ G, G = grownCap w (0 + m) 0 22 := ⟨_, rfl⟩
    rw [← hG] at hrz hGn hGm
    have hO := World.ownsRow_made (base := w.heap.size) (e := 22) (size := 1) w.drew (#[] ++ Builtin.zeroCells (Value.slice none 0 0).cells m ++ Builtin.zeroCells (Value.slice none 0 0).cells (G - (0 + m))) G (Nat.le_refl _) hGm (by rw [Array.size_append, Array.size_append, size_zeroCells, size_zeroCells, hc1]; simp; omega)
    generalize (#[] ++ Builtin.zeroCells (Value.slice none 0 0).cells m ++ Builtin.zeroCells (Value.slice none 0 0).cells (G - (0 + m))) = cs at hrz hO
    have hb : Below w.heap.size w (w.drew.alloc (.cells cs 22)) := (Below.refl w.heap.size w).drew.alloc (Nat.le_refl _) _
    have HO := Lib.hid hO
    have HB := Lib.hid hb
    have h1 : ¬ ((m : Int) < 0) := by omega
    have h4 : (m : Int) > 0 := by omega
    have hm63 : wrap64 (m : Int) = (m : Int) := by unfold wrap64; omega
    have hG0 : (0 : Int) ≤ (G : Int) := by omega
    clear hO hb hold hG hi hz0 hz1 hz2 hGn hGm hc1
    go_enter Try.func210, Try.ntmps210
    go_wp2_with (at_builtin; refine Lib.wpList_append_run _ rfl _ _ _ _ rfl _ _ rfl rfl _ _ (hrz _) ?_)
    all_goals (go_ret; exact ⟨_, G, rfl, HO.out, HB.out⟩)
/-- What the cells of a slice of rows hold. -/
def HdL (w : World) (A : Option Addr) (n : Nat) (ls : List (List Int)) (H : List Value) : Prop :=
  H.length = n ∧ (0 < n → ∃ b o, A = some ⟨b, o, none⟩ ∧ ∀ k, k < n → w.cell? ⟨b, o + k, none⟩ = H[k]?) ∧ ∀ k, k < n → ∃ A' n' c', H[k]? = some (.slice A' n' c') ∧ SI w A' n' (li ls k) ∧ n' ≤ c' ∧ (A' = none → n' = 0 ∧ c' = 0)
theorem LS.hdl {w : World} {A : Option Addr} {n : Nat} {ls : List (List Int)} (h : LS w A n ls) : ∃ H, HdL w A n ls H := by
  by_cases h0 : 0 < n
  · obtain ⟨b, o, rfl, hb, hk⟩ := h.2 h0
    refine ⟨(List.range n).map fun k => (w.cell? ⟨b, o + k, none⟩).getD undef, by simp, fun _ => ⟨b, o, rfl, fun k hkn => ?_⟩, fun k hkn => ?_⟩
    · obtain ⟨A', n', c', e, _⟩ := hk k hkn
      simp [hkn, e]
    · obtain ⟨A', n', c', e, hs, hc, hn⟩ := hk k hkn
      exact ⟨A', n', c', by simp [hkn, e], hs, hc, hn⟩
  · have : n = 0 := by omega
    subst this
    exact ⟨[], rfl, fun h1 => absurd h1 (by omega), fun k hk => absurd hk (by omega)⟩
theorem HdL.below {w w' : World} {A : Option Addr} {n : Nat} {ls : List (List Int)} {H : List Value} (h : HdL w A n ls H) (hl : LS w A n ls) (hb : Below w.heap.size w w') : HdL w' A n ls H := by
  refine ⟨h.1, fun h0 => ?_, fun k hk => ?_⟩
  · obtain ⟨b, o, e, hc⟩ := h.2.1 h0
    obtain ⟨b', o', e', hb', _⟩ := hl.2 h0
    rw [e] at e'
    injection e' with e'
    injection e' with e1 e2
    subst e1
    exact ⟨b, o, e, fun k hk => by rw [Below.cell hb (p := ⟨b, o + k, none⟩) hb']; exact hc k hk⟩
  · obtain ⟨A', n', c', e, hs, hc, hn⟩ := h.2.2 k hk
    exact ⟨A', n', c', e, hs.below hb (Nat.le_refl _), hc, hn⟩
theorem HdL.one {w : World} {A : Option Addr} {n : Nat} {ls : List (List Int)} {H : List Value} (h : HdL w A n ls H) : ∀ u ∈ H, u.oneCell' = true := fun u hu => by
  obtain ⟨k, hk, rfl⟩ := List.mem_iff_getElem.1 hu
  obtain ⟨A', n', c', e, _⟩ := h.2.2 k (by rw [← h.1]; exact hk)
  rw [List.getElem?_eq_getElem hk] at e
  injection e with e
  rw [e]; rfl
/-- An owned slice whose cells are the headers of two slices of rows reads as both lists. -/
theorem HdL.cat {w : World} {A1 A2 A : Option Addr} {n1 n2 lo c : Nat} {ls us : List (List Int)} {H1 H2 : List Value} (h1 : HdL w A1 n1 ls H1) (h2 : HdL w A2 n2 us H2) (hl1 : ls.length = n1) (hl2 : us.length = n2) (ho : w.ownsRow lo 22 1 (.slice A (n1 + n2) c) (n1 + n2) (H1 ++ H2)) : LS w A (n1 + n2) (ls ++ us) := by
  refine ⟨by simp [hl1, hl2], fun h0 => ?_⟩
  obtain ⟨g, cap, e, _, _⟩ := ho.form h0
  injection e with e1 e2 e3
  subst e1
  have hlt := (ho.lt g rfl).2
  refine ⟨g, 0, rfl, hlt, fun k hk => ?_⟩
  have hcell : w.cell? ⟨g, 0 + k, none⟩ = (H1 ++ H2)[k]? := by
    rw [Nat.zero_add]
    exact World.ownsRow.cellAt ho k (by omega)
  by_cases hk1 : k < n1
  · obtain ⟨A', n', c', e, hs, hc, hn⟩ := h1.2.2 k hk1
    refine ⟨A', n', c', by rw [hcell, List.getElem?_append_left (by rw [h1.1]; exact hk1)]; exact e, ?_, hc, hn⟩
    rw [li_get (by simp [hl1, hl2]; omega), List.getElem_append_left (by omega)]
    rw [li_get (by omega)] at hs
    exact hs
  · obtain ⟨A', n', c', e, hs, hc, hn⟩ := h2.2.2 (k - n1) (by omega)
    refine ⟨A', n', c', by rw [hcell, List.getElem?_append_right (by rw [h1.1]; omega), h1.1]; exact e, ?_, hc, hn⟩
    rw [li_get (by simp [hl1, hl2]; omega), List.getElem_append_right (by omega)]
    rw [li_get (by omega)] at hs
    simpa only [hl1] using hs
theorem World.ownsRow.mono_ {w : World} {lo lo' n : Nat} {v : Value} {L : List Value} (h : w.ownsRow lo 22 1 v n L) (hl : lo' ≤ lo) : w.ownsRow lo' 22 1 v n L := by
  refine ⟨h.1, ?_⟩
  rcases h.2 with h' | ⟨g, cap, cur, e, hlo, rest⟩
  · exact Or.inl h'
  · exact Or.inr ⟨g, cap, cur, e, by omega, rest⟩
set_option maxRecDepth 100000 in
set_option maxHeartbeats 1000000 in
theorem wpList_append_hd {ops : Array Oper} {rest : List Oper} {o : Oper} {a : Act} {w : World} {Q : Exit → Act → World → Prop} (hgd : o.guard = none) (s x : Operand)
    (ho : o.op = .call { callee := .builtin .append, args := #[s, x], argTypes := #[23, 23] })
    (lo : Nat) (A : Option Addr) (n c : Nat) (L : List Value) (A2 : Option Addr) (m c2 : Nat) (ls : List (List Int)) (H : List Value) (hs : a.eval s = .slice A n c) (hx : a.eval x = .slice A2 m c2)
    (hown : w.ownsRow lo 22 1 (.slice A n c) n L) (hhd : HdL w A2 m ls H) (hlo : lo ≤ w.heap.size) (hn : n ≤ 100000) (hm : m ≤ 100000)
    (hK : ∀ A' c' w', w'.ownsRow lo 22 1 (.slice A' (n + m) c') (n + m) (L ++ H) → Below lo w w' → wpList Try.prog ops Q rest (a.put o.dst (.slice A' (n + m) c')) w') :
    wpList Try.prog ops Q (o :: rest) a w := by
  obtain ⟨i0, hi, hz0, hz1, hz2⟩ := info_parts Try.infoLs
  by_cases h0 : 0 < m
  · obtain ⟨b, off, rfl, hc⟩ := hhd.2.1 h0
    refine wpList_append_own _ hgd s x 23 ho lo 22 i0 (.slice none 0 0) 1 24 Try.underlying23 hi hz0 hz1 hz2 rfl (by decide) _ _ _ hs hown ⟨b, off, none⟩ m c2 H hx (by simp [hhd.1]) ?_ hhd.one (by unfold maxLen; omega) (by omega) hlo ?_
    · intro j u hj
      have hjl : j < H.length := by
        rcases Nat.lt_or_ge j H.length with h | h
        · exact h
        · rw [List.getElem?_eq_none h] at hj; cases hj
      rw [add_pt, hc j (by have := hhd.1; omega)]
      exact hj
    · intro v' w1 ho1 hg1 _
      obtain ⟨g, cap, rfl, _, _⟩ := ho1.form (by omega)
      exact hK _ _ w1 ho1 (grow_below hg1 hlo (fun k hk => (hown.lt k hk).1))
  · have hm0 : m = 0 := by omega
    subst hm0
    have hy : H = [] := List.eq_nil_of_length_eq_zero hhd.1
    subst hy
    have hk0 := hK A c w (by simpa using hown) (Below.refl _ _)
    refine wpList_plain hgd fun K hK' => ?_
    have hrun : (Builtin.append_ #[23, 23] o.type #[.slice A n c, .slice A2 0 c2]).run Try.prog w = .ok (.slice A n c) w := by
      have hg := hown
      have hl0 : ∀ v, (loadCells v 0).run Try.prog w = .ok #[] w := fun v => by simp [loadCells, loadCellsFrom]
      rcases hg.2 with ⟨e, h0⟩ | ⟨g, cap, cur, e, _, hgg, hnc, _⟩
      · injection e with e1 e2 e3
        subst e1; subst e3; subst h0
        cases A2 <;> simp [Builtin.append_, run_underlying Try.underlying23, sizeOf, typeInfo, hi, Builtin.lenOf, Builtin.firstCells, hl0]
      · injection e with e1 e2 e3
        subst e1; subst e3
        cases A2 <;> simp [Builtin.append_, run_underlying Try.underlying23, sizeOf, typeInfo, hi, Builtin.lenOf, Builtin.firstCells, hnc, storeCells, hl0]
    unfold Oper.wp
    simp [execOp, ho, resolve, invoke, builtin, hs, hx, hrun, Result.andThen]
    exact hK' _ _ (by simpa using hk0)
/-- The first i of two lists of headers, one behind the other. -/
def catH (H1 H2 : List Value) : Nat → List Value
  | 0 => []
  | 1 => H1
  | _ => H1 ++ H2
set_option maxHeartbeats 1600000 in
theorem concat2R_any (g cap n1 c1 n2 c2 : Nat) (A1 A2 : Option Addr) (ls us : List (List Int)) (w : World) (hb : Blk w g 23 #[.slice A1 n1 c1, .slice A2 n2 c2]) (hs1 : LS w A1 n1 ls) (hs2 : LS w A2 n2 us) (hn1 : n1 ≤ 1000) (hn2 : n2 ≤ 1000) :
    Calls Try.prog 142 #[.slice (some ⟨g, 0, none⟩) 2 cap] w fun e w' => ∃ A c, e = .returned (.slice A (n1 + n2) c) ∧ LS w' A (n1 + n2) (ls ++ us) ∧ Below w.heap.size w w' := by
  have HK := Lib.hid hb
  have HS1 := Lib.hid hs1
  have HS2 := Lib.hid hs2
  have hgl := hb.lt
  have HG := Lib.hid hgl
  obtain ⟨S, hS⟩ : ∃ S, S = n1 + n2 := ⟨_, rfl⟩
  have hz0 : ¬ ((n1 : Int) < 0) := by omega
  have hz1 : ¬ ((S : Int) < 0) := by omega
  have hw1 : IntKind.i64.wrap (n1 : Int) = (n1 : Int) := IntWalk.i64_in _ (by omega)
  have hw2 : IntKind.i64.wrap ((n1 : Int) + (n2 : Int)) = (S : Int) := by rw [show (n1 : Int) + (n2 : Int) = (S : Int) by omega]; exact IntWalk.i64_in _ (by omega)
  obtain ⟨H1, hh1⟩ := hs1.hdl
  obtain ⟨H2, hh2⟩ := hs2.hdl
  have HH1 := Lib.hid hh1
  have HH2 := Lib.hid hh2
  have HGR := Lib.hid (fun w' => growNilR_any S w' (by omega))
  have HSS := Lib.hid hS
  clear hb hs1 hs2 hgl hS hh1 hh2
  go_enter Try.func142, Try.ntmps142
  go_wp2_with fail
  go_loopw [3, 11] (fun sv iv wr => ∃ i : Nat, i ≤ 2 ∧ iv = .int .i64 i ∧ ((i = 0 ∧ sv = .int .i64 0) ∨ (i = 1 ∧ sv = .int .i64 n1) ∨ (i = 2 ∧ sv = .int .i64 S)) ∧ Drawn w wr)
    (fun _ iv _ => 2 - (intOf iv).toNat)
  case atStart => exact ⟨0, by omega, rfl, .inl ⟨rfl, rfl⟩, Drawn.refl _⟩
  case round =>
    obtain ⟨i, hi, rfl, hsv, hD⟩ := hrel
    have HD := Lib.hid hD
    have HKR := Lib.hid (HK.out.drawn hD)
    clear hD
    rcases hsv with ⟨rfl, rfl⟩ | ⟨rfl, rfl⟩ | ⟨rfl, rfl⟩
    · have hc : wr.cell? ⟨g, 0, none⟩ = some (.slice A1 n1 c1) := by rw [HKR.out.cell]; rfl
      go_wp2
      go_roundw
      case rel => exact ⟨1, by omega, by go_num, .inr (.inl ⟨rfl, rfl⟩), HD.out⟩
      case measure => simp [intOf]
    · have hc : wr.cell? ⟨g, 1, none⟩ = some (.slice A2 n2 c2) := by rw [HKR.out.cell]; rfl
      go_wp2
      go_roundw
      case rel => exact ⟨2, by omega, by go_num, .inr (.inr ⟨rfl, by first | rfl | (have := HSS.out; subst this; go_num)⟩), HD.out⟩
      case measure => simp [intOf]
    · go_wp2_with (go_at_call 210; refine (HGR.out _).mono ?_
                   rintro e w2 ⟨A4, c4, rfl, ho3, hb3⟩
                   have HO3 : Hid (w2.ownsRow w.heap.size 22 1 (.slice A4 0 c4) 0 []) := Lib.hid (World.ownsRow.mono_ ho3 (HD.out.below w.heap.size).size)
                   have HB3 : Hid (Below w.heap.size w w2) := Lib.hid ((HD.out.below _).trans (hb3.mono (HD.out.below w.heap.size).size))
                   clear ho3 hb3)
      go_loopw [6, 27] (fun ov iv wx => ∃ (i : Nat) (Ao : Option Addr) (no co : Nat), i ≤ 2 ∧ iv = .int .i64 i ∧ ov = .slice Ao no co ∧ wx.ownsRow w.heap.size 22 1 (.slice Ao no co) no (catH H1 H2 i) ∧ no = (catH H1 H2 i).length ∧ Below w.heap.size w wx)
        (fun _ iv _ => 2 - (intOf iv).toNat)
      case atStart => exact ⟨0, A4, 0, c4, by omega, rfl, rfl, HO3.out, rfl, HB3.out⟩
      case round =>
        obtain ⟨i, Ao, no, co, hi, rfl, rfl, hown, hnl, hbw⟩ := hrel
        have HO := Lib.hid hown
        have HB := Lib.hid hbw
        have HKX := Lib.hid (HK.out.below hbw HG.out)
        have HNO := Lib.hid hnl
        have HL1 := Lib.hid HH1.out.1
        have HL2 := Lib.hid HH2.out.1
        clear hown hnl hbw HO3 HB3
        have h3 : i = 0 ∨ i = 1 ∨ i = 2 := by omega
        rcases h3 with rfl | rfl | rfl
        · have hc : wr.cell? ⟨g, 0, none⟩ = some (.slice A1 n1 c1) := by rw [HKX.out.cell]; rfl
          have hno : no = 0 := HNO.out
          go_wp2_with (at_builtin; refine wpList_append_hd rfl (.tmp 31) (.tmp 32) rfl w.heap.size Ao no co [] A1 n1 c1 ls H1 rfl rfl HO.out (HH1.out.below HS1.out HB.out) HB.out.size (by omega) (by omega) ?_; intro A' c' w5 ho5 hb5)
          go_roundw
          case rel => exact ⟨1, A', n1, c', by omega, by go_num, rfl, by rw [hno, Nat.zero_add] at ho5; exact ho5, HL1.out.symm, HB.out.trans hb5⟩
          case measure => simp [intOf]
        · have hc : wr.cell? ⟨g, 1, none⟩ = some (.slice A2 n2 c2) := by rw [HKX.out.cell]; rfl
          have hno : no = n1 := by rw [HNO.out]; exact HL1.out
          go_wp2_with (at_builtin; refine wpList_append_hd rfl (.tmp 31) (.tmp 32) rfl w.heap.size Ao no co H1 A2 n2 c2 us H2 rfl rfl HO.out (HH2.out.below HS2.out HB.out) HB.out.size (by omega) (by omega) ?_; intro A' c' w5 ho5 hb5)
          go_roundw
          case rel => exact ⟨2, A', n1 + n2, c', by omega, by go_num, rfl, by rw [hno] at ho5; exact ho5, by rw [← HL1.out, ← HL2.out]; simp [catH], HB.out.trans hb5⟩
          case measure => simp [intOf]
        · go_wp2
          go_ret
          obtain rfl : no = n1 + n2 := by rw [HNO.out, ← HL1.out, ← HL2.out]; simp [catH]
          exact ⟨Ao, co, rfl, (HH1.out.below HS1.out HB.out).cat (HH2.out.below HS2.out HB.out) HS1.out.1 HS2.out.1 HO.out, HB.out⟩
end Go.Proofs.Ytjpoliibljjhnaa

/-
  The coefficient at given exponents, on both sides. Conditions: lengths below 2^40.
-/

namespace Go.Proofs.Ytjpoliibljjhnaa
open Go.RowKit

set_option maxHeartbeats 400000 in
/-- l1Same: are the two lists one. -/
theorem l1Same_any (A A' : Option Addr) (n c n' c' : Nat) (xs ys : List Int) (w : World) (hs : SI w A n xs) (hs' : SI w A' n' ys) (hn : n ≤ 1099511627776) (hn' : n' ≤ 1099511627776) :
    Calls Try.prog 187 #[.slice A n c, .slice A' n' c'] w fun e w' => e = .returned (.bool (eqL xs ys)) ∧ Drawn w w' := by
  have hl := hs.1
  have hl' := hs'.1
  by_cases hne : n = n'
  · subst hne
    go_enter Try.func187, Try.ntmps187
    go_wp2
    go_loopw [5] (fun i wr => ∃ k : Nat, k ≤ n ∧ i = .int .i64 k ∧ Drawn w wr ∧ ∀ j, j < k → nth xs j = nth ys j)
      (fun i _ => n - (intOf i).toNat)
    case atStart => exact ⟨0, Nat.zero_le _, rfl, Drawn.refl _, fun j hj => absurd hj (by omega)⟩
    case round =>
      obtain ⟨k, hk, rfl, hD, hall⟩ := hrel
      have HA := Lib.hid hall
      have hs := hD.si hs
      have hs' := hD.si hs'
      have HD := Lib.hid hD
      clear hall hD
      by_cases hlt : k < n
      · obtain ⟨b, o, rfl, hb, hc⟩ := hs.at_ (by omega)
        obtain ⟨b', o', rfl, hb', hc'⟩ := hs'.at_ (by omega)
        have hc1 := hc k hlt
        have hc1' := hc' k hlt
        clear hc hc' hs hs' hl hl'
        by_cases heq : nth xs k = nth ys k
        · have HE := Lib.hid heq
          rw [← heq] at hc1'
          clear heq
          obtain ⟨x, hx⟩ : ∃ x, x = nth xs k := ⟨_, rfl⟩
          rw [← hx] at hc1 hc1'
          clear hx
          have hlI : (k : Int) < (n : Int) := by omega
          go_wp2_with fail
          go_quiet (fail)
          go_wp2
          go_roundw
          case rel => exact ⟨k + 1, by omega, by go_num, HD.out.drewN _, fun j hj => by
            rcases Nat.lt_or_ge j k with h | h
            · exact HA.out j h
            · obtain rfl : j = k := by omega
              exact HE.out⟩
          case measure => simp [intOf]; omega
        · have HE := Lib.hid heq
          obtain ⟨x, hx⟩ : ∃ x, x = nth xs k := ⟨_, rfl⟩
          obtain ⟨y, hy⟩ : ∃ y, y = nth ys k := ⟨_, rfl⟩
          rw [← hx] at hc1 heq
          rw [← hy] at hc1' heq
          clear hx hy
          have hlI : (k : Int) < (n : Int) := by omega
          have hb : (x != y) = true := by simpa using heq
          clear heq
          go_wp2_with fail
          go_quiet (fail)
          go_wp2
          go_ret
          exact ⟨ret_bool (eqL_ne HE.out).symm, HD.out.drewN _⟩
      · have hkn : k = n := by omega
        subst hkn
        go_wp2
        go_ret
        exact ⟨ret_bool (eqL_all (by omega) (by rw [hl]; exact HA.out)).symm, HD.out⟩
  · have hne' : ¬ (n : Int) = (n' : Int) := by omega
    go_enter Try.func187, Try.ntmps187
    go_wp2
    go_ret
    exact ⟨ret_bool (eqL_len (by omega)).symm, Drawn.refl _⟩

set_option maxHeartbeats 400000 in
/-- slices.Equal: are the two lists one. -/
theorem slicesEqual_any (A A' : Option Addr) (n c n' c' : Nat) (xs ys : List Int) (w : World) (hs : SI w A n xs) (hs' : SI w A' n' ys) (hn : n ≤ 1099511627776) (hn' : n' ≤ 1099511627776) :
    Calls Try.prog 147 #[.slice A n c, .slice A' n' c'] w fun e w' => e = .returned (.bool (eqL xs ys)) ∧ Drawn w w' := by
  have hl := hs.1
  have hl' := hs'.1
  by_cases hne : n = n'
  · subst hne
    go_enter Try.func147, Try.ntmps147
    go_wp2
    go_loopw [13] (fun i wr => ∃ k : Nat, k ≤ n ∧ i = .int .i64 k ∧ Drawn w wr ∧ ∀ j, j < k → nth xs j = nth ys j)
      (fun i _ => n - (intOf i).toNat)
    case atStart => exact ⟨0, Nat.zero_le _, rfl, Drawn.refl _, fun j hj => absurd hj (by omega)⟩
    case round =>
      obtain ⟨k, hk, rfl, hD, hall⟩ := hrel
      have HA := Lib.hid hall
      have hs := hD.si hs
      have hs' := hD.si hs'
      have HD := Lib.hid hD
      clear hall hD
      by_cases hlt : k < n
      · obtain ⟨b, o, rfl, hb, hc⟩ := hs.at_ (by omega)
        obtain ⟨b', o', rfl, hb', hc'⟩ := hs'.at_ (by omega)
        have hc1 := hc k hlt
        have hc1' := hc' k hlt
        clear hc hc' hs hs' hl hl'
        by_cases heq : nth xs k = nth ys k
        · have HE := Lib.hid heq
          rw [← heq] at hc1'
          clear heq
          obtain ⟨x, hx⟩ : ∃ x, x = nth xs k := ⟨_, rfl⟩
          rw [← hx] at hc1 hc1'
          clear hx
          have hlI : (k : Int) < (n : Int) := by omega
          go_wp2_with fail
          go_quiet (fail)
          go_wp2
          go_roundw
          case rel => exact ⟨k + 1, by omega, by go_num, HD.out.drewN _, fun j hj => by
            rcases Nat.lt_or_ge j k with h | h
            · exact HA.out j h
            · obtain rfl : j = k := by omega
              exact HE.out⟩
          case measure => simp [intOf]; omega
        · have HE := Lib.hid heq
          obtain ⟨x, hx⟩ : ∃ x, x = nth xs k := ⟨_, rfl⟩
          obtain ⟨y, hy⟩ : ∃ y, y = nth ys k := ⟨_, rfl⟩
          rw [← hx] at hc1 heq
          rw [← hy] at hc1' heq
          clear hx hy
          have hlI : (k : Int) < (n : Int) := by omega
          have hb : (x != y) = true := by simpa using heq
          clear heq
          go_wp2_with fail
          go_quiet (fail)
          go_wp2
          go_ret
          exact ⟨ret_bool (eqL_ne HE.out).symm, HD.out.drewN _⟩
      · have hkn : k = n := by omega
        subst hkn
        go_wp2
        go_ret
        exact ⟨ret_bool (eqL_all (by omega) (by rw [hl]; exact HA.out)).symm, HD.out⟩
  · have hne' : ¬ (n : Int) = (n' : Int) := by omega
    go_enter Try.func147, Try.ntmps147
    go_wp2
    go_ret
    exact ⟨ret_bool (eqL_len (by omega)).symm, Drawn.refl _⟩


/-- The number of the first term with the exponents e. -/
def coefOf : List Tm → List Int → Int
  | [], _ => 0
  | t :: r, e => if t.1 = e then t.2 else coefOf r e
theorem tm_zero (t : Tm) (r : List Tm) : tm (t :: r) 0 = t := rfl
theorem tm_succ (t : Tm) (r : List Tm) (k : Nat) : tm (t :: r) (k + 1) = tm r k := by simp [tm, List.getD]
theorem coef_none {e : List Int} : ∀ {ts : List Tm}, (∀ j, j < ts.length → ¬ (tm ts j).1 = e) → coefOf ts e = 0
  | [], _ => rfl
  | t :: r, h => by
    have h0 := h 0 (by simp)
    rw [tm_zero] at h0
    unfold coefOf
    rw [if_neg h0]
    exact coef_none fun j hj => by have := h (j + 1) (by simp; omega); rwa [tm_succ] at this
theorem coef_hit {e : List Int} : ∀ {ts : List Tm} {k : Nat}, k < ts.length → (∀ j, j < k → ¬ (tm ts j).1 = e) → (tm ts k).1 = e → coefOf ts e = (tm ts k).2
  | [], k, hk, _, _ => absurd hk (by simp)
  | t :: r, 0, _, _, he => by
    rw [tm_zero] at he ⊢
    unfold coefOf
    rw [if_pos he]
  | t :: r, k + 1, hk, h, he => by
    have h0 := h 0 (by omega)
    rw [tm_zero] at h0
    rw [tm_succ] at he ⊢
    unfold coefOf
    rw [if_neg h0]
    exact coef_hit (by simpa using hk) (fun j hj => by have := h (j + 1) (by omega); rwa [tm_succ] at this) he

end Go.Proofs.Ytjpoliibljjhnaa

/-
  The document's l1Insert: a list put into an ascending list of lists, unless it is there. Conditions: at most 1000 lists, lengths below 2^40.
-/








namespace Go.Proofs.Ytjpoliibljjhnaa
open Go.RowKit

set_option maxRecDepth 100000 in
theorem wp_append_row (w : World) {o : Oper} {a : Act} {K : Act → World → Prop} {Q : Exit → Act → World → Prop} (s x : Operand)
    (ho : o.op = .call { callee := .builtin .append, args := #[s, x], argTypes := #[23, 23] })
    (lo : Nat) (A : Option Addr) (n c : Nat) (L : List Value) (A2 : Option Addr) (m c2 : Nat) (H : List Value) (hs : a.eval s = .slice A n c) (hx : a.eval x = .slice A2 m c2)
    (hown : w.ownsRow lo 22 1 (.slice A n c) n L) (hH : H.length = m) (hc : 0 < m → ∃ b o, A2 = some ⟨b, o, none⟩ ∧ ∀ k, k < m → w.cell? ⟨b, o + k, none⟩ = H[k]?) (h1 : ∀ u ∈ H, u.oneCell' = true) (hlo : lo ≤ w.heap.size) (hn : n ≤ 100000) (hm : m ≤ 100000)
    (h : ∀ A' c' w', w'.ownsRow lo 22 1 (.slice A' (n + m) c') (n + m) (L ++ H) → w.grownBy w' (rowB A) → Below lo w w' → K (a.put o.dst (.slice A' (n + m) c')) w') :
    o.wp Try.prog a w K Q := by
  obtain ⟨i0, hi, hz0, hz1, hz2⟩ := info_parts Try.infoLs
  by_cases h0 : 0 < m
  · obtain ⟨b, off, rfl, hcc⟩ := hc h0
    refine wp_append_lies w s x 23 ho lo 22 i0 (.slice none 0 0) 1 24 Try.underlying23 hi hz0 hz1 hz2 rfl (by decide) (.slice A n c) n L hs hown ⟨b, off, none⟩ m c2 H hx (by simp [hH]) ?_ h1 h0 (by unfold maxLen; omega) (by omega) hlo w.heap.size rfl ?_
    · intro j u hj
      have hjl : j < H.length := by
        rcases Nat.lt_or_ge j H.length with h | h
        · exact h
        · rw [List.getElem?_eq_none h] at hj; cases hj
      rw [add_pt, hcc j (by omega)]
      exact hj
    · intro g cap w1 ho1 hg1 _ _
      have hg2 := hg1
      rw [ownB] at hg2
      exact h _ _ w1 ho1 hg2 (grow_below hg1 hlo (fun k hk => (hown.lt k hk).1))
  · have hm0 : m = 0 := by omega
    subst hm0
    have hy : H = [] := List.eq_nil_of_length_eq_zero hH
    subst hy
    have hk0 := h A c w (by simpa using hown) (World.grownBy.refl _ _) (Below.refl _ _)
    have hrun : (Builtin.append_ #[23, 23] o.type #[.slice A n c, .slice A2 0 c2]).run Try.prog w = .ok (.slice A n c) w := by
      have hg := hown
      have hl0 : ∀ v, (loadCells v 0).run Try.prog w = .ok #[] w := fun v => by simp [loadCells, loadCellsFrom]
      rcases hg.2 with ⟨e, h0⟩ | ⟨g, cap, cur, e, _, hgg, hnc, _⟩
      · injection e with e1 e2 e3
        subst e1; subst e3; subst h0
        cases A2 <;> simp [Builtin.append_, run_underlying Try.underlying23, sizeOf, typeInfo, hi, Builtin.lenOf, Builtin.firstCells, hl0]
      · injection e with e1 e2 e3
        subst e1; subst e3
        cases A2 <;> simp [Builtin.append_, run_underlying Try.underlying23, sizeOf, typeInfo, hi, Builtin.lenOf, Builtin.firstCells, hnc, storeCells, hl0]
    unfold Oper.wp execOp
    simp only [ho, resolve, invoke, builtin, Sem.run_bind, Sem.run_pure, Result.andThen_ok, List.map_toArray, List.map_cons, List.map_nil, hs, hx, hrun]
    exact hk0
theorem step_append_row (w : World) {ops : Array Oper} {o : Oper} {a : Act} {K : Act → World → Prop} {Q : Exit → Act → World → Prop} {E0 : Prop} (hw : Region.wanted o (yielded ops a.tmps) = true) (s x : Operand)
    (ho : o.op = .call { callee := .builtin .append, args := #[s, x], argTypes := #[23, 23] })
    (lo : Nat) (A : Option Addr) (n c : Nat) (L : List Value) (A2 : Option Addr) (m c2 : Nat) (H : List Value) (hs : a.eval s = .slice A n c) (hx : a.eval x = .slice A2 m c2)
    (hown : w.ownsRow lo 22 1 (.slice A n c) n L) (hH : H.length = m) (hc : 0 < m → ∃ b o, A2 = some ⟨b, o, none⟩ ∧ ∀ k, k < m → w.cell? ⟨b, o + k, none⟩ = H[k]?) (h1 : ∀ u ∈ H, u.oneCell' = true) (hlo : lo ≤ w.heap.size) (hn : n ≤ 100000) (hm : m ≤ 100000)
    (h : ∀ A' c' w', w'.ownsRow lo 22 1 (.slice A' (n + m) c') (n + m) (L ++ H) → w.grownBy w' (rowB A) → Below lo w w' → K (a.put o.dst (.slice A' (n + m) c')) w') :
    if Region.wanted o (yielded ops a.tmps) = true then Oper.wp Try.prog o a w K Q else E0 := by
  rw [if_pos hw]
  exact wp_append_row w s x ho lo A n c L A2 m c2 H hs hx hown hH hc h1 hlo hn hm h
/-- A list put between the lists of a list: where its headers come from. -/
def insE (E : Nat → Sv) (k : Nat) (X : Sv) : Nat → Sv := fun j => if j < k then E j else if j = k then X else E (j - 1)
theorem heads_ins (E : Nat → Sv) {k n : Nat} (X : Sv) (hk : k ≤ n) : heads k E ++ [sv X] ++ (heads n E).drop k = heads (n + 1) (insE E k X) := by
  apply List.ext_getElem?
  intro j
  by_cases h1 : j < k
  · rw [List.append_assoc, List.getElem?_append_left (by rw [heads_len]; exact h1), heads_get _ h1, heads_get _ (by omega)]
    unfold insE; rw [if_pos h1]
  · by_cases h2 : j = k
    · subst h2
      rw [List.append_assoc, List.getElem?_append_right (by rw [heads_len]; omega), heads_len, heads_get _ (by omega)]
      unfold insE; rw [if_neg (by omega), if_pos rfl]
      simp
    · rw [List.getElem?_append_right (by simp [heads_len]; omega)]
      simp only [List.length_append, heads_len, List.length_singleton]
      rw [List.getElem?_drop]
      by_cases h3 : j < n + 1
      · rw [heads_get _ (by omega), heads_get _ h3]
        unfold insE
        rw [if_neg h1, if_neg h2, show k + (j - (k + 1)) = j - 1 by omega]
      · rw [List.getElem?_eq_none (by rw [heads_len]; omega), List.getElem?_eq_none (by rw [heads_len]; omega)]
theorem li_ins {ls : List (List Int)} {xs : List Int} {k : Nat} (hk : k ≤ ls.length) (j : Nat) : li (ls.take k ++ xs :: ls.drop k) j = if j < k then li ls j else if j = k then xs else li ls (j - 1) := by
  unfold li
  simp only [List.getD_eq_getElem?_getD]
  by_cases h1 : j < k
  · rw [if_pos h1, List.getElem?_append_left (by rw [List.length_take]; omega), List.getElem?_take_of_lt h1]
  · rw [if_neg h1, List.getElem?_append_right (by rw [List.length_take]; omega), List.length_take, Nat.min_eq_left hk]
    by_cases h2 : j = k
    · subst h2; simp
    · rw [if_neg h2]
      obtain ⟨d, hd⟩ : ∃ d, j - k = d + 1 := ⟨j - k - 1, by omega⟩
      rw [hd, List.getElem?_cons_succ, List.getElem?_drop, show k + d = j - 1 by omega]
/-- What the new list is, if it lies in a block of its own. -/
theorem OwnLE.ins {E : Nat → Sv} {w : World} {lo hi n c : Nat} {A : Option Addr} {ls : List (List Int)} (h : OwnLE E w lo hi A n c ls) {X : Sv} {xs : List Int} (hx : Own w lo hi X.1 X.2.1 X.2.2 xs) (hap : ∀ b, (sv X).ownBlock = some b → ∀ j, j < n → (sv (E j)).ownBlock ≠ some b)
    {k : Nat} (hk : k ≤ n) {A' : Option Addr} {c' : Nat} (hrow : w.ownsRow hi 22 1 (.slice A' (n + 1) c') (n + 1) (heads k E ++ [sv X] ++ (heads n E).drop k)) (hlo : lo ≤ hi) (hhi : hi ≤ w.heap.size) :
    OwnLE (insE E k X) w lo w.heap.size A' (n + 1) c' (ls.take k ++ xs :: ls.drop k) := by
  have hl := h.1
  rw [heads_ins E X hk] at hrow
  have hE : ∀ j, j < n + 1 → Own w lo hi (insE E k X j).1 (insE E k X j).2.1 (insE E k X j).2.2 (li (ls.take k ++ xs :: ls.drop k) j) := fun j hj => by
    rw [li_ins (by omega)]
    unfold insE
    by_cases h1 : j < k
    · rw [if_pos h1, if_pos h1]; exact h.2.2.2.1 j (by omega)
    · rw [if_neg h1, if_neg h1]
      by_cases h2 : j = k
      · rw [if_pos h2, if_pos h2]; exact hx
      · rw [if_neg h2, if_neg h2]; exact h.2.2.2.1 (j - 1) (by omega)
  refine ⟨by simp [List.length_take]; omega, World.ownsRow.mono_ hrow hlo, fun q hq => (hrow.lt q hq).2, fun j hj => (hE j hj).wide (Nat.le_refl _) hhi, fun j g hj hg e => ?_, fun i j g hij hj hi2 hj2 => ?_⟩
  · have h1 := (hE j hj).lt g hg
    have h2 := (hrow.lt g e).1
    omega
  · unfold insE at hi2 hj2
    by_cases h1 : j < k
    · rw [if_pos h1] at hj2
      rw [if_pos (by omega)] at hi2
      exact h.2.2.2.2.2 i j g hij (by omega) hi2 hj2
    · rw [if_neg h1] at hj2
      by_cases h2 : j = k
      · rw [if_pos h2] at hj2
        rw [if_pos (by omega)] at hi2
        exact hap g hj2 i (by omega) hi2
      · rw [if_neg h2] at hj2
        by_cases h3 : i < k
        · rw [if_pos h3] at hi2
          exact h.2.2.2.2.2 i (j - 1) g (by omega) (by omega) hi2 hj2
        · rw [if_neg h3] at hi2
          by_cases h4 : i = k
          · rw [if_pos h4] at hi2
            exact hap g hi2 (j - 1) (by omega) hj2
          · rw [if_neg h4] at hi2
            exact h.2.2.2.2.2 (i - 1) (j - 1) g (by omega) (by omega) hi2 hj2
theorem OwnLE.formL {E : Nat → Sv} {w : World} {lo hi n c : Nat} {A : Option Addr} {ls : List (List Int)} (h : OwnLE E w lo hi A n c ls) : (A = none ∧ n = 0 ∧ c = 0) ∨ ∃ g, A = some ⟨g, 0, none⟩ ∧ n ≤ c := by
  rcases h.2.1.2 with ⟨e, h0⟩ | ⟨g, cap, cur, e, _, _, hnc, _⟩
  · injection e with e1 e2 e3
    exact .inl ⟨e1, by omega, by omega⟩
  · injection e with e1 e2 e3
    exact .inr ⟨g, e1, by omega⟩
/-- The cells of a part of an owned list of lists. -/
theorem OwnLE.part {E : Nat → Sv} {w : World} {lo hi g n c : Nat} {ls : List (List Int)} (h : OwnLE E w lo hi (some ⟨g, 0, none⟩) n c ls) (k m : Nat) (hkm : k + m ≤ n) : ∀ j, j < m → w.cell? ⟨g, k + j, none⟩ = ((heads n E).drop k)[j]? := fun j hj => by
  rw [h.cellAt (show k + j < n by omega), List.getElem?_drop, heads_get E (by omega)]
theorem below_grown {w0 W w7 : World} {r : Option Nat} (h : Below w0.heap.size w0 W) (hg : W.grownBy w7 r) (hr : ∀ q, r = some q → w0.heap.size ≤ q) : Below w0.heap.size w0 w7 := h.grown hg h.size hr
theorem heads_one (n : Nat) (E : Nat → Sv) : ∀ u ∈ heads n E, u.oneCell' = true := fun u hu => by
  unfold heads at hu
  obtain ⟨k, _, rfl⟩ := List.mem_map.1 hu
  rfl
theorem heads_take (n : Nat) (E : Nat → Sv) {k : Nat} (hk : k ≤ n) : (heads n E).take k = heads k E := by
  apply List.ext_getElem?
  intro j
  by_cases h : j < k
  · rw [List.getElem?_take_of_lt h, heads_get _ (by omega), heads_get _ h]
  · rw [List.getElem?_eq_none (by simp [heads_len]; omega), List.getElem?_eq_none (by rw [heads_len]; omega)]
theorem ret_slice {A : Option Addr} {a b c : Nat} (h : a = b) : Ending.returned (Value.slice A a c) = Ending.returned (Value.slice A b c) := by rw [h]
theorem World.ownsRow.ofBelow {w w' : World} {lo n : Nat} {v : Value} {L : List Value} (h : w.ownsRow lo 22 1 v n L) (hb : Below w.heap.size w w') : w'.ownsRow lo 22 1 v n L := by
  refine ⟨h.1, ?_⟩
  rcases h.2 with h' | ⟨g, cap, cur, e, hlo, hg, rest⟩
  · exact Or.inl h'
  · exact Or.inr ⟨g, cap, cur, e, hlo, (hb.block g (Blk.lt (t := _) hg)).trans hg, rest⟩
set_option maxRecDepth 100000 in
set_option maxHeartbeats 8000000 in
theorem l1Insert_any (E : Nat → Sv) (A A2 : Option Addr) (n c n2 c2 lo : Nat) (ls : List (List Int)) (xs : List Int) (w : World) (ho : OwnLE E w lo w.heap.size A n c ls) (hx : Own w lo w.heap.size A2 n2 c2 xs)
    (hap : ∀ b, (sv ((A2, n2, c2) : Sv)).ownBlock = some b → ∀ j, j < n → (sv (E j)).ownBlock ≠ some b) (hlo : lo ≤ w.heap.size) (hn : n ≤ 1000) (hn2 : n2 ≤ 1000) (hne : ∀ k, k < n → (li ls k).length ≤ 1000) :
    Calls Try.prog 96 #[.slice A n c, .slice A2 n2 c2] w fun e w' => ∃ A' n' c' E', e = .returned (.slice A' n' c') ∧ OwnLE E' w' lo w'.heap.size A' n' c' (insU ls xs) ∧ Below w.heap.size w w' := by
  have HE := Lib.hid ho
  have HX := Lib.hid hx
  have HAP := Lib.hid hap
  have HLO := Lib.hid hlo
  have HNE := Lib.hid hne
  have HL := Lib.hid ho.1
  clear ho hx hap hlo hne
  go_enter Try.func96, Try.ntmps96
  go_wp2_with fail
  go_loopw [5] (fun iv wr => ∃ k : Nat, k ≤ n ∧ iv = .int .i64 k ∧ (∀ j, j < k → lessL (li ls j) xs = true) ∧ Below w.heap.size w wr)
    (fun iv _ => n - (intOf iv).toNat)
  case atStart => exact ⟨0, Nat.zero_le _, rfl, fun j hj => absurd hj (by omega), Below.refl _ _⟩
  case round =>
    obtain ⟨k, hk, rfl, hall, hDb⟩ := hrel
    have HALL := Lib.hid hall
    have HDb := Lib.hid hDb
    clear hall hDb
    by_cases hlt : k < n
    · have hlI : (k : Int) < (n : Int) := by omega
      obtain ⟨g, rfl, hg1, hg2⟩ := HE.out.place (by omega)
      have HGW : Hid (g < w.heap.size) := Lib.hid hg2
      have hEr := HE.out.below HDb.out (Nat.le_refl _)
      have hcE := hEr.cellAt hlt
      have hOE := hEr.2.2.2.1 k hlt
      obtain ⟨⟨A', n', c'⟩, hEi⟩ : ∃ a, a = E k := ⟨_, rfl⟩
      rw [← hEi] at hcE hOE
      have hcell : wr.cell? ⟨g, k, none⟩ = some (.slice A' n' c') := hcE
      have HCL := Lib.hid hcell
      have HOW : Hid (Own wr lo w.heap.size A' n' c' (li ls k)) := Lib.hid hOE
      have hn' : n' ≤ 1000 := by have := HNE.out k hlt; have := hOE.len; have : (E k).2.1 = n' := by rw [← hEi]
                                 simp only at *; omega
      have HLE := Lib.hid (fun u (hd : Drawn wr u) => l1Less_any A' A2 n' c' n2 c2 (li ls k) xs u (hd.si HOW.out.si) (hd.si (HX.out.below HDb.out (Nat.le_refl _)).si) (by omega) (by omega))
      clear hEr hcE hOE hEi hg1 hg2
      by_cases hls : lessL (li ls k) xs = true
      · have HLS := Lib.hid hls
        rw [hls] at HLE
        clear hls
        go_wp2_with (go_at_call 186; (with_reducible refine (HLE.out _ (Drawn.refl _)).mono ?_); rintro e w1 ⟨rfl, hd1⟩; have HD1 := Lib.hid hd1; clear hd1)
        go_roundw
        case rel => exact ⟨k + 1, by omega, by go_num, fun j hj => by
          rcases Nat.lt_or_ge j k with h | h
          · exact HALL.out j h
          · obtain rfl : j = k := by omega
            exact HLS.out, HDb.out.trans (HD1.out.below _)⟩
        case measure => simp [intOf]; omega
      · have hls' : lessL (li ls k) xs = false := by simpa using hls
        have HPL : Hid (plcU ls xs = k) := Lib.hid (plcU_is ls k (by rw [HL.out]; exact hk) HALL.out (.inr hls'))
        have HSM := Lib.hid (fun u (hd : Drawn wr u) => l1Same_any A' A2 n' c' n2 c2 (li ls k) xs u (hd.si HOW.out.si) (hd.si (HX.out.below HDb.out (Nat.le_refl _)).si) (by omega) (by omega))
        rw [hls'] at HLE
        clear hls hls'
        obtain ⟨w0, rfl⟩ : ∃ w0, w0 = wr := ⟨wr, rfl⟩
        by_cases hsm : li ls k = xs
        · have HIN : Hid (insU ls xs = ls) := Lib.hid (by unfold insU; rw [HPL.out, if_pos ⟨by rw [HL.out]; exact hlt, hsm⟩])
          rw [show eqL (li ls k) xs = true from by rw [hsm]; exact eqL_self _] at HSM
          clear hsm
          go_upto_region 4 with (go_at_call 186; (with_reducible refine (HLE.out _ (Drawn.refl _)).mono ?_); rintro e w1 ⟨rfl, hd1⟩; have HD1 := Lib.hid hd1; clear hd1)
          have hcell1 : w1.cell? ⟨g, k, none⟩ = some (.slice A' n' c') := (Below.cell (HD1.out.below w0.heap.size) (p := ⟨g, k, none⟩) (Nat.lt_of_lt_of_le HGW.out HDb.out.size)).trans HCL.out
          clear hcell
          go_wp2_with (go_at_call 187; (with_reducible refine (HSM.out _ HD1.out).mono ?_); rintro e w2 ⟨rfl, hd2⟩; have HD2 := Lib.hid (HD1.out.trans hd2); clear hd2)
          go_ret
          rw [HIN.out]
          exact ⟨_, n, c, E, rfl, (HE.out.below (HDb.out.trans (HD2.out.below _)) (Nat.le_refl _)).wide2 (Nat.le_refl _) (HDb.out.trans (HD2.out.below _)).size, HDb.out.trans (HD2.out.below _)⟩
        · have HIN : Hid (insU ls xs = ls.take k ++ xs :: ls.drop k) := Lib.hid (by unfold insU; rw [HPL.out, if_neg (fun h => hsm h.2)])
          rw [show eqL (li ls k) xs = false from by simp [eqL]; exact hsm] at HSM
          clear hsm
          go_upto_region 4 with (go_at_call 186; (with_reducible refine (HLE.out _ (Drawn.refl _)).mono ?_); rintro e w1 ⟨rfl, hd1⟩; have HD1 := Lib.hid hd1; clear hd1)
          have hcell1 : w1.cell? ⟨g, k, none⟩ = some (.slice A' n' c') := (Below.cell (HD1.out.below w0.heap.size) (p := ⟨g, k, none⟩) (Nat.lt_of_lt_of_le HGW.out HDb.out.size)).trans HCL.out
          clear hcell
          go_upto_region 6 with (go_at_call 187; (with_reducible refine (HSM.out _ HD1.out).mono ?_); rintro e wr ⟨rfl, hd2⟩; have HDb : Hid (Below w.heap.size w wr) := Lib.hid (HDb.out.trans ((HD1.out.trans hd2).below _)); clear hd2)
          have hnc0 : n ≤ c := by
            rcases HE.out.formL with ⟨h, _⟩ | ⟨_, _, h⟩
            · cases h
            · exact h
          have hcn : ¬ c = k := by omega
          have hkc : (k : Int) ≤ (c : Int) := by omega
          have hnc : (n : Int) ≤ (c : Int) := by omega
          have hkn : (k : Int) ≤ (n : Int) := by omega
          clear hcell1
          have HW1 : Hid (Below w.heap.size w (wr.drew.alloc (.cells #[] 22))) := Lib.hid ((HDb.out.drew).alloc HDb.out.drew.size _)
          have HW2 : Hid (Below w.heap.size w ((wr.drew.alloc (.cells #[] 22)).alloc (.cells #[.slice A2 n2 c2] 22))) := Lib.hid (HW1.out.alloc HW1.out.size _)
          have HW3 : Hid (Below w.heap.size w ((wr.drew.alloc (.cells #[.slice A2 n2 c2] 22)).alloc (.cells #[] 22))) := Lib.hid (((HDb.out.drew).alloc HDb.out.drew.size _).alloc (((HDb.out.drew).alloc HDb.out.drew.size _).size) _)
          have HZ : Hid (w.heap.size ≤ wr.heap.size) := Lib.hid HDb.out.size
          have HZ1 : Hid (w.heap.size ≤ wr.heap.size + 1) := Lib.hid (Nat.le_succ_of_le HDb.out.size)
          have HO1 : Hid ((wr.drew.alloc (.cells #[] 22)).ownsRow w.heap.size 22 1 (.slice (some ⟨wr.heap.size, 0, none⟩) 0 0) 0 []) := Lib.hid (World.ownsRow.mono_ (World.ownsRow_lit (e := 22) (size := 1) wr.drew #[] 0 (Nat.le_refl _) (Nat.zero_le _) rfl) HDb.out.size)
          have HO2 : Hid (((wr.drew.alloc (.cells #[] 22)).alloc (.cells #[.slice A2 n2 c2] 22)).ownsRow w.heap.size 22 1 (.slice (some ⟨wr.heap.size, 0, none⟩) 0 0) 0 []) := Lib.hid (World.ownsRow.ofBelow HO1.out (Below.alloc_self _ _))
          have HO3 : Hid (((wr.drew.alloc (.cells #[.slice A2 n2 c2] 22)).alloc (.cells #[] 22)).ownsRow w.heap.size 22 1 (.slice (some ⟨wr.heap.size + 1, 0, none⟩) 0 0) 0 []) := Lib.hid (by
            have h := (World.ownsRow_lit (wr.drew.alloc (.cells #[.slice A2 n2 c2] 22)) (e := 22) (size := 1) #[] 0 (Nat.le_refl _) (Nat.zero_le _) rfl)
            have e : (wr.drew.alloc (.cells #[.slice A2 n2 c2] 22)).heap.size = wr.heap.size + 1 := by first | rfl | simp
            rw [e] at h
            exact World.ownsRow.mono_ h (Nat.le_succ_of_le HDb.out.size))
          have HQ2 : Hid (((wr.drew.alloc (.cells #[] 22)).alloc (.cells #[.slice A2 n2 c2] 22)).cell? ⟨wr.heap.size + 1, 0, none⟩ = some (.slice A2 n2 c2)) := Lib.hid (by
            have h := (Blk.new (wr.drew.alloc (.cells #[] 22)) 22 #[.slice A2 n2 c2]).cell 0
            have e : (wr.drew.alloc (.cells #[] 22)).heap.size = wr.heap.size + 1 := by first | rfl | simp
            rw [e] at h
            exact h)
          have HQ3 : Hid (((wr.drew.alloc (.cells #[.slice A2 n2 c2] 22)).alloc (.cells #[] 22)).cell? ⟨wr.heap.size, 0, none⟩ = some (.slice A2 n2 c2)) := Lib.hid (by
            have h := (((Blk.new wr.drew 22 #[.slice A2 n2 c2]).alloc (.cells #[] 22))).cell 0
            exact h)
          have HER : Hid (∀ W, Below w.heap.size w W → OwnLE E W lo w.heap.size (some ⟨g, 0, none⟩) n c ls) := Lib.hid (fun W h => HE.out.below h (Nat.le_refl _))
          have HXR : Hid (∀ W, Below w.heap.size w W → Own W lo w.heap.size A2 n2 c2 xs) := Lib.hid (fun W h => HX.out.below h (Nat.le_refl _))
          have PART1 : Hid (∀ W, Below w.heap.size w W → ∀ j, j < k → W.cell? ⟨g, 0 + j, none⟩ = (heads k E)[j]?) := Lib.hid (fun W h j hj => by
            rw [(HER.out W h).part 0 k (by omega) j hj, List.drop_zero, ← heads_take n E (show k ≤ n by omega), List.getElem?_take_of_lt hj])
          have PART3 : Hid (∀ W, Below w.heap.size w W → ∀ j, j < n - k → W.cell? ⟨g, k + j, none⟩ = ((heads n E).drop k)[j]?) := Lib.hid (fun W h j hj => (HER.out W h).part k (n - k) (by omega) j hj)
          go_region_law (first
            | (refine step_append_row _ (by first | rfl | kernel_rfl | simp [Region.wanted, yielded]) (.tmp 33) (.tmp 36) (by rfl) w.heap.size _ 0 0 [] _ k _ (heads k E) (by first | rfl | simp [Act.eval] | simp [Act.eval, Act.put]) (by first | rfl | simp [Act.eval] | simp [Act.eval, Act.put]) (by first | exact HO1.out | exact HO2.out | exact HO3.out) (heads_len _ _) (fun _ => ⟨g, 0, rfl, fun j hj => PART1.out _ (by first | exact HW1.out | exact HW2.out | exact HW3.out) j hj⟩) (heads_one _ _) (by first | exact HW1.out.size | exact HW2.out.size | exact HW3.out.size) (by omega) (by omega) ?_
               intro A7 c7 w7 ho7 hg7 hb7
               have HO7 : Hid (w7.ownsRow w.heap.size 22 1 (.slice A7 (0 + k) c7) (0 + k) (heads k E)) := Lib.hid (by simpa using ho7)
               have HB7 : Hid (Below w.heap.size w w7) := Lib.hid (by first | exact below_grown HW1.out hg7 (by rintro q ⟨⟩; exact HZ.out) | exact below_grown HW2.out hg7 (by rintro q ⟨⟩; exact HZ.out) | exact below_grown HW3.out hg7 (by rintro q ⟨⟩; exact HZ1.out))
               have HG7 := Lib.hid hg7
               clear ho7 hg7 hb7)
            | (refine step_append_row _ (by first | rfl | kernel_rfl | simp [Region.wanted, yielded]) (.tmp 37) (.tmp 39) (by rfl) w.heap.size A7 (0 + k) c7 (heads k E) _ 1 _ [.slice A2 n2 c2] (by first | rfl | simp [Act.eval] | simp [Act.eval, Act.put]) (by first | rfl | simp [Act.eval] | simp [Act.eval, Act.put]) (by first | exact HO7.out | exact World.ownsRow.ofBelow HO7.out (Below.alloc_self _ _)) rfl (fun _ => ⟨_, 0, rfl, fun j hj => by
                  obtain rfl : j = 0 := by omega
                  show World.cell? _ _ = some (.slice A2 n2 c2)
                  first
                    | exact (Blk.new w7 22 #[.slice A2 n2 c2]).cell 0
                    | exact (World.cell?_of_block (HG7.out.block _ (by first | (simp; done) | (simp; omega)) (by rw [rowB_some]; intro h; injection h with h; first | (simp at h; done) | (simp at h; omega) | omega))).trans (HQ2.out)
                    | exact (World.cell?_of_block (HG7.out.block _ (by first | (simp; done) | (simp; omega)) (by rw [rowB_some]; intro h; injection h with h; first | (simp at h; done) | (simp at h; omega) | omega))).trans (HQ3.out)⟩) (by simp [Value.oneCell']) (by first | exact HB7.out.size | (have := HB7.out.size; simp; omega)) (by omega) (by omega) ?_
               intro A8 c8 w8 ho8 hg8 hb8
               have HO8 : Hid (w8.ownsRow w.heap.size 22 1 (.slice A8 (0 + k + 1) c8) (0 + k + 1) (heads k E ++ [.slice A2 n2 c2])) := Lib.hid ho8
               have HB8 : Hid (Below w.heap.size w w8) := Lib.hid (by first | exact HB7.out.trans hb8 | exact (HB7.out.alloc HB7.out.size _).trans hb8)
               clear ho8 hg8 hb8)
            | (refine step_append_row _ (by first | rfl | kernel_rfl | simp [Region.wanted, yielded]) (.tmp 40) (.tmp 43) (by rfl) w.heap.size A8 (0 + k + 1) c8 (heads k E ++ [.slice A2 n2 c2]) _ (n - k) _ ((heads n E).drop k) (by first | rfl | simp [Act.eval] | simp [Act.eval, Act.put]) (by first | rfl | simp [Act.eval] | simp [Act.eval, Act.put]) HO8.out (by simp [heads_len]) (fun h0 => ⟨g, k, rfl, fun j hj => PART3.out _ HB8.out j hj⟩) (fun u hu => heads_one n E u (List.mem_of_mem_drop hu)) HB8.out.size (by omega) (by omega) ?_
               intro A9 c9 w9 ho9 hg9 hb9
               have HO9 := Lib.hid ho9
               have HB9 : Hid (Below w.heap.size w w9) := Lib.hid (HB8.out.trans hb9)
               clear ho9 hg9 hb9))
          all_goals
            (go_wp2
             go_ret
             have e9 : 0 + k + 1 + (n - k) = n + 1 := by omega
             have ho9 := HO9.out
             rw [e9] at ho9
             rw [HIN.out]
             have FIN := (HER.out _ HB9.out).ins (X := (A2, n2, c2)) (HXR.out _ HB9.out) HAP.out (show k ≤ n by omega) ho9 HLO.out HB9.out.size
             first
               | exact ⟨A9, n + 1, c9, insE E k (A2, n2, c2), ret_slice (by omega), FIN, HB9.out⟩
               | exact ⟨A9, n + 1, c9, ret_slice (by omega), ⟨insE E k (A2, n2, c2), FIN⟩, HB9.out⟩)
    · have hlI : ¬ (k : Int) < (n : Int) := by omega
      obtain rfl : k = n := by omega
      have HPL : Hid (plcU ls xs = k) := Lib.hid (plcU_is ls k (by rw [HL.out]; exact Nat.le_refl _) HALL.out (.inl HL.out.symm))
      have HIN : Hid (insU ls xs = ls.take k ++ xs :: ls.drop k) := Lib.hid (by unfold insU; rw [HPL.out, if_neg (fun h => by have := h.1; rw [HL.out] at this; omega)])
      rcases HE.out.formL with ⟨rfl, hk0, hc0⟩ | ⟨g, rfl, hnc0⟩
      · subst hk0; subst hc0
        go_upto_region 6 with fail
        have HW1 : Hid (Below w.heap.size w (wr.drew.alloc (.cells #[] 22))) := Lib.hid ((HDb.out.drew).alloc HDb.out.drew.size _)
        have HW2 : Hid (Below w.heap.size w ((wr.drew.alloc (.cells #[] 22)).alloc (.cells #[.slice A2 n2 c2] 22))) := Lib.hid (HW1.out.alloc HW1.out.size _)
        have HW3 : Hid (Below w.heap.size w ((wr.drew.alloc (.cells #[.slice A2 n2 c2] 22)).alloc (.cells #[] 22))) := Lib.hid (((HDb.out.drew).alloc HDb.out.drew.size _).alloc (((HDb.out.drew).alloc HDb.out.drew.size _).size) _)
        have HZ : Hid (w.heap.size ≤ wr.heap.size) := Lib.hid HDb.out.size
        have HZ1 : Hid (w.heap.size ≤ wr.heap.size + 1) := Lib.hid (Nat.le_succ_of_le HDb.out.size)
        have HO1 : Hid ((wr.drew.alloc (.cells #[] 22)).ownsRow w.heap.size 22 1 (.slice (some ⟨wr.heap.size, 0, none⟩) 0 0) 0 []) := Lib.hid (World.ownsRow.mono_ (World.ownsRow_lit (e := 22) (size := 1) wr.drew #[] 0 (Nat.le_refl _) (Nat.zero_le _) rfl) HDb.out.size)
        have HO2 : Hid (((wr.drew.alloc (.cells #[] 22)).alloc (.cells #[.slice A2 n2 c2] 22)).ownsRow w.heap.size 22 1 (.slice (some ⟨wr.heap.size, 0, none⟩) 0 0) 0 []) := Lib.hid (World.ownsRow.ofBelow HO1.out (Below.alloc_self _ _))
        have HO3 : Hid (((wr.drew.alloc (.cells #[.slice A2 n2 c2] 22)).alloc (.cells #[] 22)).ownsRow w.heap.size 22 1 (.slice (some ⟨wr.heap.size + 1, 0, none⟩) 0 0) 0 []) := Lib.hid (by
          have h := (World.ownsRow_lit (wr.drew.alloc (.cells #[.slice A2 n2 c2] 22)) (e := 22) (size := 1) #[] 0 (Nat.le_refl _) (Nat.zero_le _) rfl)
          have e : (wr.drew.alloc (.cells #[.slice A2 n2 c2] 22)).heap.size = wr.heap.size + 1 := by first | rfl | simp
          rw [e] at h
          exact World.ownsRow.mono_ h (Nat.le_succ_of_le HDb.out.size))
        have HQ2 : Hid (((wr.drew.alloc (.cells #[] 22)).alloc (.cells #[.slice A2 n2 c2] 22)).cell? ⟨wr.heap.size + 1, 0, none⟩ = some (.slice A2 n2 c2)) := Lib.hid (by
          have h := (Blk.new (wr.drew.alloc (.cells #[] 22)) 22 #[.slice A2 n2 c2]).cell 0
          have e : (wr.drew.alloc (.cells #[] 22)).heap.size = wr.heap.size + 1 := by first | rfl | simp
          rw [e] at h
          exact h)
        have HQ3 : Hid (((wr.drew.alloc (.cells #[.slice A2 n2 c2] 22)).alloc (.cells #[] 22)).cell? ⟨wr.heap.size, 0, none⟩ = some (.slice A2 n2 c2)) := Lib.hid (by
          have h := (((Blk.new wr.drew 22 #[.slice A2 n2 c2]).alloc (.cells #[] 22))).cell 0
          exact h)
        have HER : Hid (∀ W, Below w.heap.size w W → OwnLE E W lo w.heap.size none 0 0 ls) := Lib.hid (fun W h => HE.out.below h (Nat.le_refl _))
        have HXR : Hid (∀ W, Below w.heap.size w W → Own W lo w.heap.size A2 n2 c2 xs) := Lib.hid (fun W h => HX.out.below h (Nat.le_refl _))
        go_region_law (first
          | (refine step_append_row _ (by first | rfl | kernel_rfl | simp [Region.wanted, yielded]) (.tmp 33) (.tmp 36) (by rfl) w.heap.size _ 0 0 [] _ 0 _ (heads 0 E) (by first | rfl | simp [Act.eval] | simp [Act.eval, Act.put]) (by first | rfl | simp [Act.eval] | simp [Act.eval, Act.put]) (by first | exact HO1.out | exact HO2.out | exact HO3.out) (heads_len _ _) (fun h0 => absurd h0 (by omega)) (heads_one _ _) (by first | exact HW1.out.size | exact HW2.out.size | exact HW3.out.size) (by omega) (by omega) ?_
             intro A7 c7 w7 ho7 hg7 hb7
             have HO7 : Hid (w7.ownsRow w.heap.size 22 1 (.slice A7 (0 + 0) c7) (0 + 0) (heads 0 E)) := Lib.hid (by simpa using ho7)
             have HB7 : Hid (Below w.heap.size w w7) := Lib.hid (by first | exact below_grown HW1.out hg7 (by rintro q ⟨⟩; exact HZ.out) | exact below_grown HW2.out hg7 (by rintro q ⟨⟩; exact HZ.out) | exact below_grown HW3.out hg7 (by rintro q ⟨⟩; exact HZ1.out))
             have HG7 := Lib.hid hg7
             clear ho7 hg7 hb7)
          | (refine step_append_row _ (by first | rfl | kernel_rfl | simp [Region.wanted, yielded]) (.tmp 37) (.tmp 39) (by rfl) w.heap.size A7 (0 + 0) c7 (heads 0 E) _ 1 _ [.slice A2 n2 c2] (by first | rfl | simp [Act.eval] | simp [Act.eval, Act.put]) (by first | rfl | simp [Act.eval] | simp [Act.eval, Act.put]) (by first | exact HO7.out | exact World.ownsRow.ofBelow HO7.out (Below.alloc_self _ _)) rfl (fun _ => ⟨_, 0, rfl, fun j hj => by
                obtain rfl : j = 0 := by omega
                show World.cell? _ _ = some (.slice A2 n2 c2)
                first
                  | exact (Blk.new w7 22 #[.slice A2 n2 c2]).cell 0
                  | exact (World.cell?_of_block (HG7.out.block _ (by first | (simp; done) | (simp; omega)) (by rw [rowB_some]; intro h; injection h with h; first | (simp at h; done) | (simp at h; omega) | omega))).trans (HQ2.out)
                  | exact (World.cell?_of_block (HG7.out.block _ (by first | (simp; done) | (simp; omega)) (by rw [rowB_some]; intro h; injection h with h; first | (simp at h; done) | (simp at h; omega) | omega))).trans (HQ3.out)⟩) (by simp [Value.oneCell']) (by first | exact HB7.out.size | (have := HB7.out.size; simp; omega)) (by omega) (by omega) ?_
             intro A8 c8 w8 ho8 hg8 hb8
             have HO8 : Hid (w8.ownsRow w.heap.size 22 1 (.slice A8 (0 + 0 + 1) c8) (0 + 0 + 1) (heads 0 E ++ [.slice A2 n2 c2])) := Lib.hid ho8
             have HB8 : Hid (Below w.heap.size w w8) := Lib.hid (by first | exact HB7.out.trans hb8 | exact (HB7.out.alloc HB7.out.size _).trans hb8)
             clear ho8 hg8 hb8)
          | (refine step_append_row _ (by first | rfl | kernel_rfl | simp [Region.wanted, yielded]) (.tmp 40) (.tmp 43) (by rfl) w.heap.size A8 (0 + 0 + 1) c8 (heads 0 E ++ [.slice A2 n2 c2]) _ 0 _ ((heads 0 E).drop 0) (by first | rfl | simp [Act.eval] | simp [Act.eval, Act.put]) (by first | rfl | simp [Act.eval] | simp [Act.eval, Act.put]) HO8.out (by simp [heads_len]) (fun h0 => absurd h0 (by omega)) (fun u hu => heads_one 0 E u (List.mem_of_mem_drop hu)) HB8.out.size (by omega) (by omega) ?_
             intro A9 c9 w9 ho9 hg9 hb9
             have HO9 := Lib.hid ho9
             have HB9 : Hid (Below w.heap.size w w9) := Lib.hid (HB8.out.trans hb9)
             clear ho9 hg9 hb9))
        all_goals
          (go_wp2
           go_ret
           have e9 : 0 + 0 + 1 + 0 = 0 + 1 := by omega
           have ho9 := HO9.out
           rw [e9] at ho9
           rw [HIN.out]
           have FIN := (HER.out _ HB9.out).ins (X := (A2, n2, c2)) (HXR.out _ HB9.out) HAP.out (show 0 ≤ 0 by omega) ho9 HLO.out HB9.out.size
           first
             | exact ⟨A9, 0 + 1, c9, insE E 0 (A2, n2, c2), ret_slice (by omega), FIN, HB9.out⟩
             | exact ⟨A9, 0 + 1, c9, ret_slice (by omega), ⟨insE E 0 (A2, n2, c2), FIN⟩, HB9.out⟩)
      · have hkc : (k : Int) ≤ (c : Int) := by omega
        by_cases hcn : c = k
        · subst hcn
          go_upto_region 6 with fail
          have HW1 : Hid (Below w.heap.size w (wr.drew.alloc (.cells #[] 22))) := Lib.hid ((HDb.out.drew).alloc HDb.out.drew.size _)
          have HW2 : Hid (Below w.heap.size w ((wr.drew.alloc (.cells #[] 22)).alloc (.cells #[.slice A2 n2 c2] 22))) := Lib.hid (HW1.out.alloc HW1.out.size _)
          have HW3 : Hid (Below w.heap.size w ((wr.drew.alloc (.cells #[.slice A2 n2 c2] 22)).alloc (.cells #[] 22))) := Lib.hid (((HDb.out.drew).alloc HDb.out.drew.size _).alloc (((HDb.out.drew).alloc HDb.out.drew.size _).size) _)
          have HZ : Hid (w.heap.size ≤ wr.heap.size) := Lib.hid HDb.out.size
          have HZ1 : Hid (w.heap.size ≤ wr.heap.size + 1) := Lib.hid (Nat.le_succ_of_le HDb.out.size)
          have HO1 : Hid ((wr.drew.alloc (.cells #[] 22)).ownsRow w.heap.size 22 1 (.slice (some ⟨wr.heap.size, 0, none⟩) 0 0) 0 []) := Lib.hid (World.ownsRow.mono_ (World.ownsRow_lit (e := 22) (size := 1) wr.drew #[] 0 (Nat.le_refl _) (Nat.zero_le _) rfl) HDb.out.size)
          have HO2 : Hid (((wr.drew.alloc (.cells #[] 22)).alloc (.cells #[.slice A2 n2 c2] 22)).ownsRow w.heap.size 22 1 (.slice (some ⟨wr.heap.size, 0, none⟩) 0 0) 0 []) := Lib.hid (World.ownsRow.ofBelow HO1.out (Below.alloc_self _ _))
          have HO3 : Hid (((wr.drew.alloc (.cells #[.slice A2 n2 c2] 22)).alloc (.cells #[] 22)).ownsRow w.heap.size 22 1 (.slice (some ⟨wr.heap.size + 1, 0, none⟩) 0 0) 0 []) := Lib.hid (by
            have h := (World.ownsRow_lit (wr.drew.alloc (.cells #[.slice A2 n2 c2] 22)) (e := 22) (size := 1) #[] 0 (Nat.le_refl _) (Nat.zero_le _) rfl)
            have e : (wr.drew.alloc (.cells #[.slice A2 n2 c2] 22)).heap.size = wr.heap.size + 1 := by first | rfl | simp
            rw [e] at h
            exact World.ownsRow.mono_ h (Nat.le_succ_of_le HDb.out.size))
          have HQ2 : Hid (((wr.drew.alloc (.cells #[] 22)).alloc (.cells #[.slice A2 n2 c2] 22)).cell? ⟨wr.heap.size + 1, 0, none⟩ = some (.slice A2 n2 c2)) := Lib.hid (by
            have h := (Blk.new (wr.drew.alloc (.cells #[] 22)) 22 #[.slice A2 n2 c2]).cell 0
            have e : (wr.drew.alloc (.cells #[] 22)).heap.size = wr.heap.size + 1 := by first | rfl | simp
            rw [e] at h
            exact h)
          have HQ3 : Hid (((wr.drew.alloc (.cells #[.slice A2 n2 c2] 22)).alloc (.cells #[] 22)).cell? ⟨wr.heap.size, 0, none⟩ = some (.slice A2 n2 c2)) := Lib.hid (by
            have h := (((Blk.new wr.drew 22 #[.slice A2 n2 c2]).alloc (.cells #[] 22))).cell 0
            exact h)
          have HER : Hid (∀ W, Below w.heap.size w W → OwnLE E W lo w.heap.size (some ⟨g, 0, none⟩) c c ls) := Lib.hid (fun W h => HE.out.below h (Nat.le_refl _))
          have HXR : Hid (∀ W, Below w.heap.size w W → Own W lo w.heap.size A2 n2 c2 xs) := Lib.hid (fun W h => HX.out.below h (Nat.le_refl _))
          have PART1 : Hid (∀ W, Below w.heap.size w W → ∀ j, j < c → W.cell? ⟨g, 0 + j, none⟩ = (heads c E)[j]?) := Lib.hid (fun W h j hj => by
            rw [(HER.out W h).part 0 c (by omega) j hj, List.drop_zero, ← heads_take c E (show c ≤ c by omega), List.getElem?_take_of_lt hj])
          have PART3 : Hid (∀ W, Below w.heap.size w W → ∀ j, j < c - c → W.cell? ⟨g, c + j, none⟩ = ((heads c E).drop c)[j]?) := Lib.hid (fun W h j hj => (HER.out W h).part c (c - c) (by omega) j hj)
          go_region_law (first
            | (refine step_append_row _ (by first | rfl | kernel_rfl | simp [Region.wanted, yielded]) (.tmp 33) (.tmp 36) (by rfl) w.heap.size _ 0 0 [] _ c _ (heads c E) (by first | rfl | simp [Act.eval] | simp [Act.eval, Act.put]) (by first | rfl | simp [Act.eval] | simp [Act.eval, Act.put]) (by first | exact HO1.out | exact HO2.out | exact HO3.out) (heads_len _ _) (fun _ => ⟨g, 0, rfl, fun j hj => PART1.out _ (by first | exact HW1.out | exact HW2.out | exact HW3.out) j hj⟩) (heads_one _ _) (by first | exact HW1.out.size | exact HW2.out.size | exact HW3.out.size) (by omega) (by omega) ?_
               intro A7 c7 w7 ho7 hg7 hb7
               have HO7 : Hid (w7.ownsRow w.heap.size 22 1 (.slice A7 (0 + c) c7) (0 + c) (heads c E)) := Lib.hid (by simpa using ho7)
               have HB7 : Hid (Below w.heap.size w w7) := Lib.hid (by first | exact below_grown HW1.out hg7 (by rintro q ⟨⟩; exact HZ.out) | exact below_grown HW2.out hg7 (by rintro q ⟨⟩; exact HZ.out) | exact below_grown HW3.out hg7 (by rintro q ⟨⟩; exact HZ1.out))
               have HG7 := Lib.hid hg7
               clear ho7 hg7 hb7)
            | (refine step_append_row _ (by first | rfl | kernel_rfl | simp [Region.wanted, yielded]) (.tmp 37) (.tmp 39) (by rfl) w.heap.size A7 (0 + c) c7 (heads c E) _ 1 _ [.slice A2 n2 c2] (by first | rfl | simp [Act.eval] | simp [Act.eval, Act.put]) (by first | rfl | simp [Act.eval] | simp [Act.eval, Act.put]) (by first | exact HO7.out | exact World.ownsRow.ofBelow HO7.out (Below.alloc_self _ _)) rfl (fun _ => ⟨_, 0, rfl, fun j hj => by
                  obtain rfl : j = 0 := by omega
                  show World.cell? _ _ = some (.slice A2 n2 c2)
                  first
                    | exact (Blk.new w7 22 #[.slice A2 n2 c2]).cell 0
                    | exact (World.cell?_of_block (HG7.out.block _ (by first | (simp; done) | (simp; omega)) (by rw [rowB_some]; intro h; injection h with h; first | (simp at h; done) | (simp at h; omega) | omega))).trans (HQ2.out)
                    | exact (World.cell?_of_block (HG7.out.block _ (by first | (simp; done) | (simp; omega)) (by rw [rowB_some]; intro h; injection h with h; first | (simp at h; done) | (simp at h; omega) | omega))).trans (HQ3.out)⟩) (by simp [Value.oneCell']) (by first | exact HB7.out.size | (have := HB7.out.size; simp; omega)) (by omega) (by omega) ?_
               intro A8 c8 w8 ho8 hg8 hb8
               have HO8 : Hid (w8.ownsRow w.heap.size 22 1 (.slice A8 (0 + c + 1) c8) (0 + c + 1) (heads c E ++ [.slice A2 n2 c2])) := Lib.hid ho8
               have HB8 : Hid (Below w.heap.size w w8) := Lib.hid (by first | exact HB7.out.trans hb8 | exact (HB7.out.alloc HB7.out.size _).trans hb8)
               clear ho8 hg8 hb8)
            | (refine step_append_row _ (by first | rfl | kernel_rfl | simp [Region.wanted, yielded]) (.tmp 40) (.tmp 43) (by rfl) w.heap.size A8 (0 + c + 1) c8 (heads c E ++ [.slice A2 n2 c2]) _ 0 _ ((heads c E).drop c) (by first | rfl | simp [Act.eval] | simp [Act.eval, Act.put]) (by first | rfl | simp [Act.eval] | simp [Act.eval, Act.put]) HO8.out (by simp [heads_len]) (fun h0 => absurd h0 (by omega)) (fun u hu => heads_one c E u (List.mem_of_mem_drop hu)) HB8.out.size (by omega) (by omega) ?_
               intro A9 c9 w9 ho9 hg9 hb9
               have HO9 := Lib.hid ho9
               have HB9 : Hid (Below w.heap.size w w9) := Lib.hid (HB8.out.trans hb9)
               clear ho9 hg9 hb9))
          all_goals
            (go_wp2
             go_ret
             have e9 : 0 + c + 1 + 0 = c + 1 := by omega
             have ho9 := HO9.out
             rw [e9] at ho9
             rw [HIN.out]
             have FIN := (HER.out _ HB9.out).ins (X := (A2, n2, c2)) (HXR.out _ HB9.out) HAP.out (show c ≤ c by omega) ho9 HLO.out HB9.out.size
             first
               | exact ⟨A9, c + 1, c9, insE E c (A2, n2, c2), ret_slice (by omega), FIN, HB9.out⟩
               | exact ⟨A9, c + 1, c9, ret_slice (by omega), ⟨insE E c (A2, n2, c2), FIN⟩, HB9.out⟩)
        · go_upto_region 6 with fail
          have HW1 : Hid (Below w.heap.size w (wr.drew.alloc (.cells #[] 22))) := Lib.hid ((HDb.out.drew).alloc HDb.out.drew.size _)
          have HW2 : Hid (Below w.heap.size w ((wr.drew.alloc (.cells #[] 22)).alloc (.cells #[.slice A2 n2 c2] 22))) := Lib.hid (HW1.out.alloc HW1.out.size _)
          have HW3 : Hid (Below w.heap.size w ((wr.drew.alloc (.cells #[.slice A2 n2 c2] 22)).alloc (.cells #[] 22))) := Lib.hid (((HDb.out.drew).alloc HDb.out.drew.size _).alloc (((HDb.out.drew).alloc HDb.out.drew.size _).size) _)
          have HZ : Hid (w.heap.size ≤ wr.heap.size) := Lib.hid HDb.out.size
          have HZ1 : Hid (w.heap.size ≤ wr.heap.size + 1) := Lib.hid (Nat.le_succ_of_le HDb.out.size)
          have HO1 : Hid ((wr.drew.alloc (.cells #[] 22)).ownsRow w.heap.size 22 1 (.slice (some ⟨wr.heap.size, 0, none⟩) 0 0) 0 []) := Lib.hid (World.ownsRow.mono_ (World.ownsRow_lit (e := 22) (size := 1) wr.drew #[] 0 (Nat.le_refl _) (Nat.zero_le _) rfl) HDb.out.size)
          have HO2 : Hid (((wr.drew.alloc (.cells #[] 22)).alloc (.cells #[.slice A2 n2 c2] 22)).ownsRow w.heap.size 22 1 (.slice (some ⟨wr.heap.size, 0, none⟩) 0 0) 0 []) := Lib.hid (World.ownsRow.ofBelow HO1.out (Below.alloc_self _ _))
          have HO3 : Hid (((wr.drew.alloc (.cells #[.slice A2 n2 c2] 22)).alloc (.cells #[] 22)).ownsRow w.heap.size 22 1 (.slice (some ⟨wr.heap.size + 1, 0, none⟩) 0 0) 0 []) := Lib.hid (by
            have h := (World.ownsRow_lit (wr.drew.alloc (.cells #[.slice A2 n2 c2] 22)) (e := 22) (size := 1) #[] 0 (Nat.le_refl _) (Nat.zero_le _) rfl)
            have e : (wr.drew.alloc (.cells #[.slice A2 n2 c2] 22)).heap.size = wr.heap.size + 1 := by first | rfl | simp
            rw [e] at h
            exact World.ownsRow.mono_ h (Nat.le_succ_of_le HDb.out.size))
          have HQ2 : Hid (((wr.drew.alloc (.cells #[] 22)).alloc (.cells #[.slice A2 n2 c2] 22)).cell? ⟨wr.heap.size + 1, 0, none⟩ = some (.slice A2 n2 c2)) := Lib.hid (by
            have h := (Blk.new (wr.drew.alloc (.cells #[] 22)) 22 #[.slice A2 n2 c2]).cell 0
            have e : (wr.drew.alloc (.cells #[] 22)).heap.size = wr.heap.size + 1 := by first | rfl | simp
            rw [e] at h
            exact h)
          have HQ3 : Hid (((wr.drew.alloc (.cells #[.slice A2 n2 c2] 22)).alloc (.cells #[] 22)).cell? ⟨wr.heap.size, 0, none⟩ = some (.slice A2 n2 c2)) := Lib.hid (by
            have h := (((Blk.new wr.drew 22 #[.slice A2 n2 c2]).alloc (.cells #[] 22))).cell 0
            exact h)
          have HER : Hid (∀ W, Below w.heap.size w W → OwnLE E W lo w.heap.size (some ⟨g, 0, none⟩) k c ls) := Lib.hid (fun W h => HE.out.below h (Nat.le_refl _))
          have HXR : Hid (∀ W, Below w.heap.size w W → Own W lo w.heap.size A2 n2 c2 xs) := Lib.hid (fun W h => HX.out.below h (Nat.le_refl _))
          have PART1 : Hid (∀ W, Below w.heap.size w W → ∀ j, j < k → W.cell? ⟨g, 0 + j, none⟩ = (heads k E)[j]?) := Lib.hid (fun W h j hj => by
            rw [(HER.out W h).part 0 k (by omega) j hj, List.drop_zero, ← heads_take k E (show k ≤ k by omega), List.getElem?_take_of_lt hj])
          have PART3 : Hid (∀ W, Below w.heap.size w W → ∀ j, j < k - k → W.cell? ⟨g, k + j, none⟩ = ((heads k E).drop k)[j]?) := Lib.hid (fun W h j hj => (HER.out W h).part k (k - k) (by omega) j hj)
          go_region_law (first
            | (refine step_append_row _ (by first | rfl | kernel_rfl | simp [Region.wanted, yielded]) (.tmp 33) (.tmp 36) (by rfl) w.heap.size _ 0 0 [] _ k _ (heads k E) (by first | rfl | simp [Act.eval] | simp [Act.eval, Act.put]) (by first | rfl | simp [Act.eval] | simp [Act.eval, Act.put]) (by first | exact HO1.out | exact HO2.out | exact HO3.out) (heads_len _ _) (fun _ => ⟨g, 0, rfl, fun j hj => PART1.out _ (by first | exact HW1.out | exact HW2.out | exact HW3.out) j hj⟩) (heads_one _ _) (by first | exact HW1.out.size | exact HW2.out.size | exact HW3.out.size) (by omega) (by omega) ?_
               intro A7 c7 w7 ho7 hg7 hb7
               have HO7 : Hid (w7.ownsRow w.heap.size 22 1 (.slice A7 (0 + k) c7) (0 + k) (heads k E)) := Lib.hid (by simpa using ho7)
               have HB7 : Hid (Below w.heap.size w w7) := Lib.hid (by first | exact below_grown HW1.out hg7 (by rintro q ⟨⟩; exact HZ.out) | exact below_grown HW2.out hg7 (by rintro q ⟨⟩; exact HZ.out) | exact below_grown HW3.out hg7 (by rintro q ⟨⟩; exact HZ1.out))
               have HG7 := Lib.hid hg7
               clear ho7 hg7 hb7)
            | (refine step_append_row _ (by first | rfl | kernel_rfl | simp [Region.wanted, yielded]) (.tmp 37) (.tmp 39) (by rfl) w.heap.size A7 (0 + k) c7 (heads k E) _ 1 _ [.slice A2 n2 c2] (by first | rfl | simp [Act.eval] | simp [Act.eval, Act.put]) (by first | rfl | simp [Act.eval] | simp [Act.eval, Act.put]) (by first | exact HO7.out | exact World.ownsRow.ofBelow HO7.out (Below.alloc_self _ _)) rfl (fun _ => ⟨_, 0, rfl, fun j hj => by
                  obtain rfl : j = 0 := by omega
                  show World.cell? _ _ = some (.slice A2 n2 c2)
                  first
                    | exact (Blk.new w7 22 #[.slice A2 n2 c2]).cell 0
                    | exact (World.cell?_of_block (HG7.out.block _ (by first | (simp; done) | (simp; omega)) (by rw [rowB_some]; intro h; injection h with h; first | (simp at h; done) | (simp at h; omega) | omega))).trans (HQ2.out)
                    | exact (World.cell?_of_block (HG7.out.block _ (by first | (simp; done) | (simp; omega)) (by rw [rowB_some]; intro h; injection h with h; first | (simp at h; done) | (simp at h; omega) | omega))).trans (HQ3.out)⟩) (by simp [Value.oneCell']) (by first | exact HB7.out.size | (have := HB7.out.size; simp; omega)) (by omega) (by omega) ?_
               intro A8 c8 w8 ho8 hg8 hb8
               have HO8 : Hid (w8.ownsRow w.heap.size 22 1 (.slice A8 (0 + k + 1) c8) (0 + k + 1) (heads k E ++ [.slice A2 n2 c2])) := Lib.hid ho8
               have HB8 : Hid (Below w.heap.size w w8) := Lib.hid (by first | exact HB7.out.trans hb8 | exact (HB7.out.alloc HB7.out.size _).trans hb8)
               clear ho8 hg8 hb8)
            | (refine step_append_row _ (by first | rfl | kernel_rfl | simp [Region.wanted, yielded]) (.tmp 40) (.tmp 43) (by rfl) w.heap.size A8 (0 + k + 1) c8 (heads k E ++ [.slice A2 n2 c2]) _ 0 _ ((heads k E).drop k) (by first | rfl | simp [Act.eval] | simp [Act.eval, Act.put]) (by first | rfl | simp [Act.eval] | simp [Act.eval, Act.put]) HO8.out (by simp [heads_len]) (fun h0 => absurd h0 (by omega)) (fun u hu => heads_one k E u (List.mem_of_mem_drop hu)) HB8.out.size (by omega) (by omega) ?_
               intro A9 c9 w9 ho9 hg9 hb9
               have HO9 := Lib.hid ho9
               have HB9 : Hid (Below w.heap.size w w9) := Lib.hid (HB8.out.trans hb9)
               clear ho9 hg9 hb9))
          all_goals
            (go_wp2
             go_ret
             have e9 : 0 + k + 1 + 0 = k + 1 := by omega
             have ho9 := HO9.out
             rw [e9] at ho9
             rw [HIN.out]
             have FIN := (HER.out _ HB9.out).ins (X := (A2, n2, c2)) (HXR.out _ HB9.out) HAP.out (show k ≤ k by omega) ho9 HLO.out HB9.out.size
             first
               | exact ⟨A9, k + 1, c9, insE E k (A2, n2, c2), ret_slice (by omega), FIN, HB9.out⟩
               | exact ⟨A9, k + 1, c9, ret_slice (by omega), ⟨insE E k (A2, n2, c2), FIN⟩, HB9.out⟩)
end Go.Proofs.Ytjpoliibljjhnaa

/-
  The document's CoversOf. Conditions: lengths below 2^40.
-/




namespace Go.Proofs.Ytjpoliibljjhnaa
open Go.RowKit

set_option maxHeartbeats 2000000 in
theorem specCovers_any (A : Option Addr) (n c : Nat) (xs : List Int) (w : World) (hs : SI w A n xs) (hnc : n ≤ c) (hn : n ≤ 1099511627776) :
    Calls Try.prog 30 #[.slice A n c] w fun e w' => FreshL w w' e (covers xs) := by
  have HL := Lib.hid hs.1
  have hp := specIsPerm_any A n c xs w hs hnc hn
  cases hu : isPermB xs with
  | false =>
    rw [hu] at hp
    have HP := Lib.hid hp
    have HE := Lib.hid (covers_no hu)
    clear hs hp hu
    go_enter Try.func30, Try.ntmps30
    go_wp2_with (go_at_call 95; (with_reducible refine HP.out.mono ?_); rintro e w1 ⟨rfl, hd1⟩; have HD1 := Lib.hid hd1; clear hd1)
    go_ret
    rw [HE.out]
    exact ⟨none, 0, 0, rfl, OwnL.nil _ _ _, HD1.out.below _⟩
  | true =>
    rw [hu] at hp
    have HP := Lib.hid hp
    have HE := Lib.hid (covers_yes hu)
    have HU := Lib.hid (isPermB_P hu)
    have HN7 : Hid (n ≤ 7) := Lib.hid (by have := (isPermB_P hu).2.1; have := HL.out; omega)
    clear hp hu
    go_enter Try.func30, Try.ntmps30
    go_upto_region 4 with (go_at_call 95; (with_reducible refine HP.out.mono ?_); rintro e w1 ⟨rfl, hd1⟩; have HD1 := Lib.hid hd1; clear hd1)
    obtain ⟨w2, hw2⟩ : ∃ w2, w2 = w1.alloc (.cells #[] 22) := ⟨_, rfl⟩
    have hb2 : Below w.heap.size w w2 := by rw [hw2]; exact (HD1.out.below _).alloc ((HD1.out.below w.heap.size).size) _
    have ho2 : OwnL w2 w.heap.size w2.heap.size (some ⟨w1.heap.size, 0, none⟩) 0 0 [] := by
      rw [hw2]
      exact (OwnL.empty w1).wide (by rw [HD1.out.heap]; exact Nat.le_refl _) (by simp)
    rw [← hw2]
    have HB2 := Lib.hid hb2
    have HO2 := Lib.hid ho2
    have HS := Lib.hid hs
    clear hw2 hb2 ho2 hs
    go_wp2_with fail
    have hn7 := HN7.out
    go_loopw [3, 4] (fun ov iv wr => ∃ (i : Nat) (A1 : Option Addr) (n1 c1 : Nat), i ≤ n ∧ iv = .int .i64 i ∧ ov = .slice A1 n1 c1 ∧ OwnL wr w.heap.size wr.heap.size A1 n1 c1 (covO xs i) ∧ Below w.heap.size w wr)
      (fun _ iv _ => n - (intOf iv).toNat)
    case atStart => exact ⟨0, _, 0, 0, Nat.zero_le _, rfl, rfl, HO2.out, HB2.out⟩
    case round =>
      obtain ⟨i, A1, n1, c1, hi, rfl, rfl, ho, hb⟩ := hrel
      clear HO2 HB2
      have HO := Lib.hid ho
      have HB := Lib.hid hb
      have HI7 : Hid (i ≤ 7) := Lib.hid (by have := HN7.out; omega)
      have HII : Hid (i ≤ n) := Lib.hid hi
      clear ho hb
      by_cases hlt : i < n
      · have hlI : (i : Int) < (n : Int) := by omega
        have HLT := Lib.hid hlt
        go_wp2_with fail
        go_loopw [3, 5] (fun ov jv wr => ∃ (t : Nat) (j : Nat) (A1 : Option Addr) (n1 c1 : Nat), j = i + 1 + t ∧ j ≤ n ∧ jv = .int .i64 j ∧ ov = .slice A1 n1 c1 ∧ OwnL wr w.heap.size wr.heap.size A1 n1 c1 (covI xs (covO xs i) i t) ∧ Below w.heap.size w wr)
          (fun _ jv _ => n - (intOf jv).toNat)
        case atStart => exact ⟨0, i + 1, A1, n1, c1, rfl, by have := HLT.out; omega, by go_num, rfl, HO.out, HB.out⟩
        case round =>
          obtain ⟨t, j, A1, n1, c1, hj, hjn, rfl, rfl, ho, hb⟩ := hrel
          clear HO HB
          have HJ := Lib.hid hj
          obtain ⟨E1, he⟩ := ho
          have HE1 := Lib.hid he
          have HB := Lib.hid hb
          clear he hb hj
          by_cases hjl : j < n
          · have hjI : (j : Int) < (n : Int) := by omega
            have HJL := Lib.hid hjl
            have HSWP := Lib.hid (l1Swap_any A n c i j xs wr (HS.out.below HB.out (Nat.le_refl _)) (by have := HLT.out; omega) hjl (by have := HJ.out; omega) (by have := HN7.out; omega))
            obtain ⟨z, hz⟩ : ∃ z, z = lenL (swapL xs i j) := ⟨_, rfl⟩
            obtain ⟨q, hq⟩ : ∃ q, q = lenL xs := ⟨_, rfl⟩
            have hqb : 0 ≤ q ∧ q ≤ 49 := by have := lenL_bounds (xs := xs) (by have := HN7.out; have := HL.out; omega); rw [← hq] at this; exact this
            have HZ := Lib.hid hz.symm
            have HQ := Lib.hid hq.symm
            have hwq : IntKind.i64.wrap (q + 1) = q + 1 := IntWalk.i64_in _ (by omega)
            clear hz hq
            by_cases hcv : z = q + 1
            · have HCV : Hid (covB xs i j = true) := Lib.hid (by unfold covB; rw [HZ.out, HQ.out]; simp [hcv])
              have HNX : Hid (covI xs (covO xs i) i (t + 1) = insU (covI xs (covO xs i) i t) (swapL xs i j)) := Lib.hid (by
                show (if covB xs i (i + 1 + t) = true then _ else _) = _
                rw [← HJ.out, if_pos HCV.out])
              have HSM := Lib.hid (covO_few (xs := xs) (by rw [HL.out]; exact HN7.out) HI7.out (show t ≤ 7 by have := HJ.out; have := HN7.out; omega))
              have HRW : Hid (∀ k, (li (covI xs (covO xs i) i t) k).length ≤ 1000) := Lib.hid (fun k => li_len_of (m := 1000) (fun z hz => by rw [covI_row (by rw [HL.out]; exact HII.out) hz, HL.out]; have := HN7.out; omega) k)
              subst hcv
              go_wp2_with (first
                | (go_at_call 83; (with_reducible refine HSWP.out.mono ?_); rintro e w3 ⟨A3, n3, c3, rfl, ho3, hb3⟩
                   obtain rfl : n3 = n := by rw [← ho3.len, swapL_len]; exact HL.out
                   have HO3 := Lib.hid ho3
                   have HB3 := Lib.hid hb3
                   have HL3 := Lib.hid (l1Length_any A3 n3 c3 (swapL xs i j) w3 ho3.si HN7.out)
                   clear ho3 hb3)
                | (go_at_call 72; (with_reducible refine HL3.out.mono ?_); rintro e w4 ⟨rfl, hb4⟩; rw [HZ.out]; have HB4 : Hid (Below wr.heap.size wr w4) := Lib.hid (HB3.out.trans (hb4.mono HB3.out.size)); have HX4 := Lib.hid (HO3.out.below hb4 (Nat.le_refl _)); have HZ4 := Lib.hid hb4.size
                   have HL4 := Lib.hid (l1Length_any A n3 c xs w4 (HS.out.below (HB.out.trans (HB4.out.mono HB.out.size)) (Nat.le_refl _)) HN7.out); clear hb4)
                | (go_at_call 72; (with_reducible refine HL4.out.mono ?_); rintro e w5 ⟨rfl, hb5⟩; rw [HQ.out]; have HB5 : Hid (Below wr.heap.size wr w5) := Lib.hid (HB4.out.trans (hb5.mono HB4.out.size)); have HX5 : Hid (Own w5 wr.heap.size w5.heap.size A3 n3 c3 (swapL xs i j)) := Lib.hid ((HX4.out.below (hb5.mono HZ4.out) (Nat.le_refl _)).wide (Nat.le_refl _) (Nat.le_trans HZ4.out hb5.size))
                   have HEX5 : Hid (OwnLE E1 w5 w.heap.size w5.heap.size A1 n1 c1 (covI xs (covO xs i) i t)) := Lib.hid ((HE1.out.below HB5.out (Nat.le_refl _)).wide2 (Nat.le_refl _) HB5.out.size)
                   have HXW : Hid (Own w5 w.heap.size w5.heap.size A3 n3 c3 (swapL xs i j)) := Lib.hid (HX5.out.wide HB.out.size (Nat.le_refl _))
                   have HAP5 := Lib.hid (fun b hb => ((HE1.out.below HB5.out (Nat.le_refl _)).apart_hi HX5.out (Nat.le_refl _) b hb).2)
                   have HSZ5 : Hid (w.heap.size ≤ w5.heap.size) := Lib.hid (Nat.le_trans HB.out.size HB5.out.size)
                   have HFEW : Hid (n1 ≤ 1000) := Lib.hid (by have := HE1.out.1; have := HSM.out.2; omega)
                   have HN1000 : Hid (n3 ≤ 1000) := Lib.hid (by have := HN7.out; omega)
                   have HRW5 : Hid (∀ k, k < n1 → (li (covI xs (covO xs i) i t) k).length ≤ 1000) := Lib.hid (fun k _ => HRW.out k)
                   have HINS := Lib.hid (l1Insert_any E1 A1 A3 n1 c1 n3 c3 w.heap.size (covI xs (covO xs i) i t) (swapL xs i j) w5 HEX5.out HXW.out HAP5.out HSZ5.out HFEW.out HN1000.out HRW5.out)
                   clear hb5)
                | (go_at_call 96; (with_reducible refine HINS.out.mono ?_); rintro e w6 ⟨A6, n6, c6, E6, rfl, ho6, hb6⟩; have HO6 := Lib.hid ho6; have HB6 := Lib.hid hb6; clear ho6 hb6)
                | fail)
              go_roundw
              case rel => exact ⟨t + 1, j + 1, A6, n6, c6, by have := HJ.out; omega, by have := HJL.out; omega, by go_num, rfl, by rw [HNX.out]; exact ⟨E6, HO6.out⟩, HB.out.trans ((HB5.out.trans (HB6.out.mono HB5.out.size)).mono HB.out.size)⟩
              case measure => have := HJL.out; simp [intOf]; omega
            · have HCV : Hid (covB xs i j = false) := Lib.hid (by unfold covB; rw [HZ.out, HQ.out]; simpa using hcv)
              have HNX : Hid (covI xs (covO xs i) i (t + 1) = covI xs (covO xs i) i t) := Lib.hid (by
                show (if covB xs i (i + 1 + t) = true then _ else _) = _
                rw [← HJ.out, if_neg (by rw [HCV.out]; decide)])
              go_wp2_with (first
                | (go_at_call 83; (with_reducible refine HSWP.out.mono ?_); rintro e w3 ⟨A3, n3, c3, rfl, ho3, hb3⟩
                   obtain rfl : n3 = n := by rw [← ho3.len, swapL_len]; exact HL.out
                   have HO3 := Lib.hid ho3
                   have HB3 := Lib.hid hb3
                   have HL3 := Lib.hid (l1Length_any A3 n3 c3 (swapL xs i j) w3 ho3.si HN7.out)
                   clear ho3 hb3)
                | (go_at_call 72; (with_reducible refine HL3.out.mono ?_); rintro e w4 ⟨rfl, hb4⟩; rw [HZ.out]; have HB4 : Hid (Below wr.heap.size wr w4) := Lib.hid (HB3.out.trans (hb4.mono HB3.out.size))
                   have HL4 := Lib.hid (l1Length_any A n3 c xs w4 (HS.out.below (HB.out.trans (HB4.out.mono HB.out.size)) (Nat.le_refl _)) HN7.out); clear hb4)
                | (go_at_call 72; (with_reducible refine HL4.out.mono ?_); rintro e w5 ⟨rfl, hb5⟩; rw [HQ.out]; have HB5 : Hid (Below wr.heap.size wr w5) := Lib.hid (HB4.out.trans (hb5.mono HB4.out.size)); clear hb5)
                | fail)
              go_roundw
              case rel => exact ⟨t + 1, j + 1, A1, n1, c1, by have := HJ.out; omega, by have := HJL.out; omega, by go_num, rfl, by rw [HNX.out]; exact ⟨E1, (HE1.out.below HB5.out (Nat.le_refl _)).wide2 (Nat.le_refl _) HB5.out.size⟩, HB.out.trans (HB5.out.mono HB.out.size)⟩
              case measure => have := HJL.out; simp [intOf]; omega
          · have hjI : ¬ (j : Int) < (n : Int) := by omega
            have HNX : Hid (covI xs (covO xs i) i t = covO xs (i + 1)) := Lib.hid (by
              show _ = covI xs (covO xs i) i (xs.length - (i + 1))
              rw [HL.out, show n - (i + 1) = t by have := HJ.out; have := HLT.out; omega])
            go_wp2
            go_roundw
            case rel => exact ⟨i + 1, A1, n1, c1, by have := HLT.out; omega, by go_num, rfl, by rw [← HNX.out]; exact ⟨E1, HE1.out⟩, HB.out⟩
            case measure => have := HLT.out; simp [intOf]; omega
      · have hlI : ¬ (i : Int) < (n : Int) := by omega
        obtain rfl : i = n := by omega
        go_wp2
        go_ret
        rw [HE.out, HL.out]
        exact ⟨A1, n1, c1, rfl, HO.out, HB.out⟩
end Go.Proofs.Ytjpoliibljjhnaa

/-
  The order of permutations: the specification's side. Conditions: lengths below 2^40.
-/

namespace Go.Proofs.Ytjpoliibljjhnaa
open Go.RowKit

/-- Does the first list keep the ranks of the second. -/
def belowP (us vs : List Int) (n : Nat) : Prop := ∀ r, r ≤ n → ∀ c : Nat, c ≤ n → rankN vs (c : Int) r ≤ rankN us (c : Int) r
def belowB (us vs : List Int) (n : Nat) : Bool := (List.range (n + 1)).all fun r => (List.range (n + 1)).all fun (c : Nat) => decide (rankN vs (c : Int) r ≤ rankN us (c : Int) r)
theorem belowB_iff (us vs : List Int) (n : Nat) : belowB us vs n = true ↔ belowP us vs n := by
  simp [belowB, belowP, Nat.lt_succ_iff]
theorem belowB_true {us vs : List Int} {n : Nat} (h : belowP us vs n) : belowB us vs n = true := (belowB_iff us vs n).2 h
theorem belowB_false {us vs : List Int} {n : Nat} (h : ¬ belowP us vs n) : belowB us vs n = false := by
  cases hb : belowB us vs n with
  | false => rfl
  | true => exact absurd ((belowB_iff us vs n).1 hb) h

/-- What IsBelowPerm answers. -/
def belowPerm (us vs : List Int) : Bool := isPermB us && (isPermB vs && (decide (us.length = vs.length) && belowB us vs us.length))
theorem belowPerm_1 {us vs : List Int} (h : isPermB us = false) : belowPerm us vs = false := by unfold belowPerm; rw [h]; rfl
theorem belowPerm_2 {us vs : List Int} (h : isPermB vs = false) : belowPerm us vs = false := by unfold belowPerm; rw [h]; simp
theorem belowPerm_3 {us vs : List Int} (h : us.length ≠ vs.length) : belowPerm us vs = false := by unfold belowPerm; simp [h]
theorem belowPerm_4 {us vs : List Int} (h1 : isPermB us = true) (h2 : isPermB vs = true) (h3 : us.length = vs.length) : belowPerm us vs = belowB us vs us.length := by unfold belowPerm; simp [h1, h2, h3]
end Go.Proofs.Ytjpoliibljjhnaa

/-
  Contracts of the program's EmbedPerm, TrimPerm, RankAt. Conditions: lengths below 2^40.
-/


namespace Go.Proofs.Ytjpoliibljjhnaa
open Go.RowKit

theorem trimN_fill {xs : List Int} (h7 : xs.length ≤ 7) : ∀ k, k ≤ xs.length → trimN (fillA xs xs.length) k = trimN xs k := by
  intro k
  induction k with
  | zero => intro _; rfl
  | succ k ih => intro hk; unfold trimN; rw [ih (by omega), fillA_lt (by omega) (by omega)]

set_option maxHeartbeats 1000000 in
theorem implTrim_any (A : Option Addr) (n c : Nat) (xs : List Int) (w : World) (hs : SI w A n xs) (hn : n ≤ 1099511627776) :
    Calls Try.prog 107 #[.slice A n c] w fun e w' => Fresh w w' e (trimPerm xs) := by
  have hl := hs.1
  cases hu : isPermB xs with
  | false =>
    have HE := Lib.hid (trimPerm_no hu)
    have HU := Lib.hid hu
    clear hu
    go_enter Try.func107, Try.ntmps107
    go_wp2_with fail
    refine (arrayOf_x c HU.out hs hn).mono ?_
    rintro e w1 ⟨l, rfl, -, hb1⟩
    go_wp2
    go_ret
    rw [HE.out]
    exact Fresh.nil_ret (hb1.alloc hb1.size _)
  | true =>
    have HE := Lib.hid (trimPerm_yes hu)
    have HU := Lib.hid hu
    have HL := Lib.hid hl
    have hpos : 1 ≤ n := by have := (isPermB_P hu).1; omega
    have h7 : n ≤ 7 := by have := (isPermB_P hu).2.1; omega
    clear hu hl
    go_enter Try.func107, Try.ntmps107
    go_wp2_with fail
    refine (arrayOf_x c HU.out hs hn).mono ?_
    rintro e w1 ⟨l, rfl, hlf, hb1⟩
    have HF := Lib.hid (hlf rfl)
    clear hlf
    have hK := Blk.new w1 107 (arrC l)
    have hb2 : Below w.heap.size w (w1.alloc (.cells (arrC l) 107)) := hb1.alloc hb1.size _
    go_wp2
    obtain ⟨g, hg⟩ : ∃ g, g = w1.heap.size := ⟨_, rfl⟩
    rw [← hg] at hK ⊢
    generalize w1.alloc (.cells (arrC l) 107) = w2 at *
    clear hg
    have HK := Lib.hid hK
    clear hK
    go_loop [5] (fun v => ∃ k : Nat, k + 1 ≤ n ∧ v = .int .i64 ((k : Int) + 1) ∧ trimN l (k + 1) = trimN l n)
      (fun v => (intOf v).toNat)
    case atStart => exact ⟨n - 1, by omega, by go_num, by rw [show n - 1 + 1 = n from by omega]⟩
    case round =>
      obtain ⟨k, hk, rfl, htr⟩ := hrel
      have HT := Lib.hid htr
      have hck : w2.cell? ⟨g, k, none⟩ = some (.int .i64 (nth l k)) := (HK.out.cell _).trans (arrC_get l k (by omega))
      obtain ⟨x, hx⟩ : ∃ x, x = nth l k := ⟨_, rfl⟩
      rw [← hx] at hck
      have HX := Lib.hid hx
      clear htr hx
      have stop : ∀ (w4 : World) (e : Ending), trimN l (k + 1) = k + 1 → Fresh w2 w4 e (l.take (k + 1)) → Fresh w w4 e (trimPerm xs) := by
        intro w4 e h1 h2
        have e2 := HT.out
        have e1 := HF.out
        have e3 := HL.out
        have e4 := trimN_fill (xs := xs) (by omega) n (by omega)
        rw [e3, ← e1, ← e2, h1] at e4
        rw [HE.out, e3, ← e4]
        have e5 := fill_take_short (xs := xs) (k := k + 1) (by omega) (by omega)
        rw [e3, ← e1] at e5
        rw [← e5]
        exact Fresh.after hb2 h2
      have STOP := Lib.hid stop
      clear stop
      by_cases h0 : 0 < k
      · by_cases hxk : x = (k : Int)
        · subst hxk
          go_wp2
          go_round
          case rel =>
            have e1 := HX.out
            have e2 := HT.out
            rw [trimN_hit h0 e1.symm] at e2
            exact ⟨k - 1, by omega, by go_num, by rw [show k - 1 + 1 = k from by omega]; exact e2⟩
          case measure => simp only [intOf]; omega
        · have hxb : (x == (k : Int)) = false := by simpa using hxk
          have HX2 := Lib.hid hxk
          clear hxk
          have hsl : Calls Try.prog 100 #[arr l, .int .i64 ((k : Int) + 1)] w2 (fun e w' => Fresh w2 w' e (l.take (k + 1))) := list_any l (k + 1) w2 (by rw [HF.out, fillA_len]) (by omega)
          go_wp2_with (refine wpList_load_blk rfl 107 (.tmp 3) rfl g rfl 107 (arrC l) 7 3 HK.out Try.undArr Try.infoArr ?_)
          refine hsl.mono ?_
          intro e w4 hfr
          obtain ⟨A4, n4, c4, rfl, ho4, hb4⟩ := hfr
          go_wp2
          go_ret
          exact STOP.out _ _ (trimN_miss (by have := HX.out; have := HX2.out; rintro ⟨_, h⟩; omega)) ⟨A4, n4, c4, rfl, ho4, hb4⟩
      · have hk0 : k = 0 := by omega
        subst hk0
        have hsl : Calls Try.prog 100 #[arr l, .int .i64 1] w2 (fun e w' => Fresh w2 w' e (l.take 1)) := list_any l 1 w2 (by rw [HF.out, fillA_len]) (by omega)
        go_wp2_with (refine wpList_load_blk rfl 107 (.tmp 3) rfl g rfl 107 (arrC l) 7 3 HK.out Try.undArr Try.infoArr ?_)
        refine hsl.mono ?_
        intro e w4 hfr
        obtain ⟨A4, n4, c4, rfl, ho4, hb4⟩ := hfr
        go_wp2
        go_ret
        exact STOP.out _ _ (trimN_miss (by rintro ⟨h, _⟩; omega)) ⟨A4, n4, c4, rfl, ho4, hb4⟩

set_option maxHeartbeats 1000000 in
theorem rank_any (l : List Int) (r : Nat) (x : Int) (w : World) (hr : r ≤ 7) (_hl : l.length = 7) :
    Calls Try.prog 161 #[arr l, .int .i64 r, .int .i64 x] w fun e w' => e = .returned (.int .i64 (rankN l x r : Int)) ∧ Below w.heap.size w w' := by
  have hb := Blk.new w 107 (arrC l)
  have HBk := Lib.hid hb
  clear hb _hl
  have hsl := fun wx => sliceArr_to ⟨w.heap.size, 0, none⟩ r hr wx
  go_enter Try.func161, Try.ntmps161
  go_wp2
  go_loop [7, 13] (fun v i => ∃ k : Nat, k ≤ r ∧ i = .int .i64 k ∧ v = .int .i64 (rankN l x k : Int))
    (fun _ i => r - (intOf i).toNat)
  case atStart => exact ⟨0, Nat.zero_le _, rfl, rfl⟩
  case round =>
    obtain ⟨k, hk, rfl, rfl⟩ := hrel
    by_cases hlt : k < r
    · have hck : (w.alloc (.cells (arrC l) 107)).cell? ⟨w.heap.size, k, none⟩ = some (.int .i64 (nth l k)) := (HBk.out.cell _).trans (arrC_get l k (by omega))
      obtain ⟨y, hy⟩ : ∃ y, y = nth l k := ⟨_, rfl⟩
      rw [← hy] at hck
      have HY := Lib.hid hy
      have hq := rankN_le l x k
      obtain ⟨q, hqe⟩ : ∃ q, q = rankN l x k := ⟨_, rfl⟩
      rw [← hqe] at hq ⊢
      have HQ := Lib.hid hqe
      clear hy hqe
      by_cases hxy : y < x
      · go_wp2
        go_round
        case rel =>
          have e1 := HY.out
          have e2 := HQ.out
          exact ⟨k + 1, by omega, by go_num, by rw [rankN_hit (by omega), ← e2]; go_num⟩
        case measure => simp [intOf]; omega
      · go_wp2
        go_round
        case rel =>
          have e1 := HY.out
          have e2 := HQ.out
          exact ⟨k + 1, by omega, by go_num, by rw [rankN_miss (by omega), ← e2]⟩
        case measure => simp [intOf]; omega
    · have hkr : k = r := by omega
      subst hkr
      go_wp2
      go_ret
      exact ⟨rfl, Below.alloc_self _ _⟩

set_option maxHeartbeats 2000000 in
theorem implRank_any (A : Option Addr) (n c : Nat) (xs : List Int) (r x : Int) (w : World) (hs : SI w A n xs) (hn : n ≤ 1099511627776) :
    Calls Try.prog 216 #[.slice A n c, .int .i64 r, .int .i64 x] w fun e w' => e = .returned (.int .i64 (rankPerm xs r x)) ∧ Below w.heap.size w w' := by
  have hl := hs.1
  cases hu : isPermB xs with
  | false =>
    have HE := Lib.hid (rankPerm_no (xs := xs) (r := r) (c := x) (by rintro ⟨h, _⟩; rw [hu] at h; cases h))
    have HU := Lib.hid hu
    clear hu
    go_enter Try.func216, Try.ntmps216
    go_wp2_with fail
    refine (arrayOf_x c HU.out hs hn).mono ?_
    rintro e w1 ⟨l, rfl, -, hb1⟩
    go_wp2
    go_ret
    exact ⟨ret_int HE.out.symm, hb1.alloc hb1.size _⟩
  | true =>
    have HU := Lib.hid hu
    have HL := Lib.hid hl
    have h7 : n ≤ 7 := by have := (isPermB_P hu).2.1; omega
    clear hu hl
    by_cases hr0 : r < 0
    · have HE := Lib.hid (rankPerm_no (xs := xs) (r := r) (c := x) (by rintro ⟨_, h1, h2, _⟩; omega))
      go_enter Try.func216, Try.ntmps216
      go_wp2_with fail
      refine (arrayOf_x c HU.out hs hn).mono ?_
      rintro e w1 ⟨l, rfl, -, hb1⟩
      go_wp2
      go_ret
      exact ⟨ret_int HE.out.symm, hb1.alloc hb1.size _⟩
    · by_cases hr1 : (n : Int) < r
      · have HE := Lib.hid (rankPerm_no (xs := xs) (r := r) (c := x) (by have := HL.out; rintro ⟨_, h1, h2, _⟩; omega))
        go_enter Try.func216, Try.ntmps216
        go_wp2_with fail
        refine (arrayOf_x c HU.out hs hn).mono ?_
        rintro e w1 ⟨l, rfl, -, hb1⟩
        go_wp2
        go_ret
        exact ⟨ret_int HE.out.symm, hb1.alloc hb1.size _⟩
      · obtain ⟨m, rfl⟩ : ∃ m : Nat, r = (m : Int) := ⟨r.toNat, by omega⟩
        by_cases hx0 : x < 0
        · have HE := Lib.hid (rankPerm_no (xs := xs) (r := (m : Int)) (c := x) (by rintro ⟨_, _, _, h, _⟩; omega))
          go_enter Try.func216, Try.ntmps216
          go_wp2_with fail
          refine (arrayOf_x c HU.out hs hn).mono ?_
          rintro e w1 ⟨l, rfl, -, hb1⟩
          go_wp2
          go_ret
          exact ⟨ret_int HE.out.symm, hb1.alloc hb1.size _⟩
        · by_cases hx1 : (n : Int) < x
          · have HE := Lib.hid (rankPerm_no (xs := xs) (r := (m : Int)) (c := x) (by have := HL.out; rintro ⟨_, _, _, _, h⟩; omega))
            go_enter Try.func216, Try.ntmps216
            go_wp2_with fail
            refine (arrayOf_x c HU.out hs hn).mono ?_
            rintro e w1 ⟨l, rfl, -, hb1⟩
            go_wp2
            go_ret
            exact ⟨ret_int HE.out.symm, hb1.alloc hb1.size _⟩
          · have HE := Lib.hid (rankPerm_yes (r := m) (c := x) HU.out (by have := HL.out; omega) (by omega) (by have := HL.out; omega))
            go_enter Try.func216, Try.ntmps216
            go_wp2_with fail
            refine (arrayOf_x c HU.out hs hn).mono ?_
            rintro e w1 ⟨l, rfl, hlf, hb1⟩
            have HF := Lib.hid (hlf rfl)
            clear hlf
            have hK := Blk.new w1 107 (arrC l)
            go_wp2_with (refine wpList_load_blk rfl 107 (.tmp 7) rfl w1.heap.size rfl 107 (arrC l) 7 3 hK Try.undArr Try.infoArr ?_)
            have hb2 : Below w.heap.size w (w1.alloc (.cells (arrC l) 107)) := hb1.alloc hb1.size _
            generalize w1.alloc (.cells (arrC l) 107) = w2 at *
            refine (rank_any l m x w2 (by omega) (by rw [HF.out, fillA_len])).mono ?_
            rintro e w4 ⟨rfl, hb4⟩
            have HB4 := Lib.hid (hb2.trans (hb4.mono hb2.size))
            clear hb4 hb2 hK
            have e1 : rankN l x m = rankN xs x m := rankN_congr x m (fun t ht => by
              rw [HF.out]; exact fillA_lt (by omega) (by omega))
            rw [e1]
            clear e1
            go_wp2
            go_ret
            exact ⟨ret_int HE.out.symm, HB4.out⟩
end Go.Proofs.Ytjpoliibljjhnaa

/-
  The order of permutations: the program's side. A test that draws its order and holds two calls that make memory. Conditions: lengths below 2^40.
-/


namespace Go.Proofs.Ytjpoliibljjhnaa
open Go.RowKit

section
variable {P : Program} {ops : Array Oper} {C : World → Prop} {Q : Act → Prop} {a : Act} {o : Oper} {rest : List Oper}
theorem wp_region_class {id : Nat} {Q : Exit → Act → World → Prop} {w : World} {l : List Oper} (C : World → Prop) (hm : P.follows .mixedOrders = true) (hB : Region.lexB .any l.toArray = true) (hC : C w.drew)
    (h : wpQuiet P l.toArray C (fun a' => ∀ w', C w' → Q .normal a' w') l a) : (Code.region id l.toArray true).wp P Q a w :=
  wp_region_quiet hm hB hC (by simpa using h)
theorem q_move (hg : o.guard = none) (x : Operand) (ho : o.op = .move x) (h : wpQuiet P ops C Q rest (a.put o.dst (a.eval x))) : wpQuiet P ops C Q (o :: rest) a := by
  refine wpQuiet_step fun K hK => ?_
  simp only [Region.wanted, hg, if_true]
  refine ⟨a.eval x, fun w _ => ?_, hK _ h⟩
  unfold Oper.quietAt execOp
  simp only [ho]
  exact ⟨rfl, rfl⟩
theorem q_load (hg : o.guard = none) (ty : TypeId) (x : Operand) (ho : o.op = .load ty x) (g : Nat) (hx : a.eval x = .pointer (some ⟨g, 0, none⟩)) (t : TypeId) (cs : Array Value) (n : Nat) (e : TypeId)
    (hb : ∀ w, C w → Blk w g t cs) (hu : P.underlying ty = some (.array n e)) (hi : (P.info? ty).map (·.size) = some cs.size) (h : wpQuiet P ops C Q rest (a.put o.dst (.agg cs))) : wpQuiet P ops C Q (o :: rest) a := by
  refine wpQuiet_step fun K hK => ?_
  simp only [Region.wanted, hg, if_true]
  refine ⟨.agg cs, fun w hw => ?_, hK _ h⟩
  unfold Oper.quietAt execOp
  simp only [ho, hx, Instr.loadAt, Instr.sureAddr, Sem.run_bind, Sem.run_pure, Result.andThen_ok, run_loadVar_row w g t ty cs (0, 0) _ (hb w hw) hu rfl hi]
  exact ⟨rfl, rfl⟩
end
/-- Worlds in which nothing has turned that was there. -/
def After (wr w' : World) : Prop := Below wr.heap.size wr w'
theorem After.blk {wr w' : World} {g t : Nat} {cs : Array Value} (h : Blk wr g t cs) (ha : After wr w') : Blk w' g t cs := h.below ha h.lt

set_option maxHeartbeats 4000000 in
theorem implBelow_in (A A' : Option Addr) (n c c' : Nat) (us vs : List Int) (w : World) (hs : SI w A n us) (hs' : SI w A' n vs) (hn : n ≤ 1099511627776) (hu : isPermB us = true) (hv : isPermB vs = true) :
    Calls Try.prog 70 #[.slice A n c, .slice A' n c'] w fun e w' => e = .returned (.bool (belowB us vs n)) ∧ Below w.heap.size w w' := by
  have HU := Lib.hid hu
  have HV := Lib.hid hv
  have hl := hs.1
  have hl' := hs'.1
  have HL := Lib.hid (And.intro hl hl')
  have h7 : n ≤ 7 := by have := (isPermB_P hu).2.1; omega
  clear hu hv hl hl'
  go_enter Try.func70, Try.ntmps70
  go_wp2_with fail
  refine (arrayOf_x c HU.out hs hn).mono ?_
  rintro e w1 ⟨l, rfl, hlf, hb1⟩
  have HF := Lib.hid (hlf rfl)
  have hbx : Below w.heap.size w (w1.alloc (.cells (arrC l) 107)) := hb1.alloc hb1.size _
  have hK := Blk.new w1 107 (arrC l)
  clear hlf
  go_wp2_with fail
  obtain ⟨g1, hg1⟩ : ∃ g1, g1 = w1.heap.size := ⟨_, rfl⟩
  rw [← hg1] at hK ⊢
  clear hg1
  generalize w1.alloc (.cells (arrC l) 107) = w2 at *
  refine (arrayOf_x c' HV.out (hs'.below hbx (Nat.le_refl _)) hn).mono ?_
  rintro e w3 ⟨l', rfl, hlf', hb3⟩
  have HF' := Lib.hid (hlf' rfl)
  have hK3 := (hK.below hb3 hK.lt).alloc (.cells (arrC l') 107)
  have hK' := Blk.new w3 107 (arrC l')
  have hby : Below w.heap.size w (w3.alloc (.cells (arrC l') 107)) := (hbx.trans (hb3.mono hbx.size)).alloc ((hbx.trans (hb3.mono hbx.size)).size) _
  clear hlf' hK
  go_wp2
  obtain ⟨g2, hg2⟩ : ∃ g2, g2 = w3.heap.size := ⟨_, rfl⟩
  rw [← hg2] at hK' ⊢
  clear hg2
  generalize w3.alloc (.cells (arrC l') 107) = w4 at *
  clear hbx hb3 hb1 hs hs'
  have e1 : ∀ (x : Int) (r : Nat), r ≤ n → rankN l x r = rankN us x r := fun x r hr => rankN_congr x r (fun t ht => by rw [HF.out]; exact fillA_lt (by omega) (by omega))
  have e2 : ∀ (x : Int) (r : Nat), r ≤ n → rankN l' x r = rankN vs x r := fun x r hr => rankN_congr x r (fun t ht => by rw [HF'.out]; exact fillA_lt (by omega) (by omega))
  have E1 := Lib.hid e1
  have E2 := Lib.hid e2
  have HL7 : Hid (l.length = 7 ∧ l'.length = 7) := Lib.hid ⟨by rw [HF.out, fillA_len], by rw [HF'.out, fillA_len]⟩
  clear e1 e2
  go_loopw [37] (fun i wr => ∃ r : Nat, r ≤ n + 1 ∧ i = .int .i64 r ∧ (∀ r', r' < r → ∀ x : Nat, x ≤ n → rankN vs (x : Int) r' ≤ rankN us (x : Int) r') ∧ Blk wr g1 107 (arrC l) ∧ Blk wr g2 107 (arrC l') ∧ Below w.heap.size w wr)
    (fun i _ => n + 1 - (intOf i).toNat)
  case atStart => exact ⟨0, Nat.zero_le _, rfl, fun r' h => absurd h (by omega), hK3, hK', hby⟩
  case round =>
    obtain ⟨r, hr, rfl, hall, hb1, hb2, hbel⟩ := hrel
    have HA := Lib.hid hall
    have HB1 := Lib.hid hb1
    have HB2 := Lib.hid hb2
    have HB := Lib.hid hbel
    clear hall hb1 hb2 hbel hK3 hK' hby
    by_cases hlt : r ≤ n
    · have hrI : (r : Int) < (n : Int) + 1 := by omega
      go_wp2
      go_loopw [43] (fun i wr => ∃ x : Nat, x ≤ n + 1 ∧ i = .int .i64 x ∧ (∀ x' : Nat, x' < x → rankN vs (x' : Int) r ≤ rankN us (x' : Int) r) ∧ Blk wr g1 107 (arrC l) ∧ Blk wr g2 107 (arrC l') ∧ Below w.heap.size w wr)
        (fun i _ => n + 1 - (intOf i).toNat)
      case atStart => exact ⟨0, Nat.zero_le _, rfl, fun x' h => absurd h (by omega), HB1.out, HB2.out, HB.out⟩
      case round =>
        obtain ⟨x, hx, rfl, hall2, hc1, hc2, hbel2⟩ := hrel
        have HA2 := Lib.hid hall2
        have HC1 := Lib.hid hc1
        have HC2 := Lib.hid hc2
        have HBB := Lib.hid hbel2
        clear hall2 hc1 hc2 hbel2
        by_cases hxl : x ≤ n
        · have hxI : (x : Int) < (n : Int) + 1 := by omega
          obtain ⟨p, hp⟩ : ∃ p, p = rankN us (x : Int) r := ⟨_, rfl⟩
          obtain ⟨q, hq⟩ : ∃ q, q = rankN vs (x : Int) r := ⟨_, rfl⟩
          have call1 : ∀ w', After wr w' → Calls Try.prog 161 #[arr l, .int .i64 r, .int .i64 x] w' (fun e w'' => e = .returned (.int .i64 p) ∧ After wr w'') := fun w' hw' =>
            (rank_any l r x w' (by omega) HL7.out.1).mono fun e w'' ⟨he, hb⟩ => ⟨by rw [he, E1.out _ _ hlt, ← hp], hw'.trans (hb.mono hw'.size)⟩
          have call2 : ∀ w', After wr w' → Calls Try.prog 161 #[arr l', .int .i64 r, .int .i64 x] w' (fun e w'' => e = .returned (.int .i64 q) ∧ After wr w'') := fun w' hw' =>
            (rank_any l' r x w' (by omega) HL7.out.2).mono fun e w'' ⟨he, hb⟩ => ⟨by rw [he, E2.out _ _ hlt, ← hq], hw'.trans (hb.mono hw'.size)⟩
          have HP := Lib.hid hp
          have HQ := Lib.hid hq
          have CA1 := Lib.hid call1
          have CA2 := Lib.hid call2
          clear hp hq call1 call2
          go_wp2_with fail
          refine wp_region_class (After wr) (by kernel_rfl) (by kernel_rfl) (Below.refl _ _).drew ?_
          refine q_load rfl 107 (.tmp 5) rfl g1 rfl 107 (arrC l) 7 3 (fun w' h => After.blk HC1.out h) Try.undArr Try.infoArr ?_
          refine q_move rfl _ rfl ?_
          refine q_move rfl _ rfl ?_
          refine wpQuiet_step (fun K hK => ?_)
          go_simp
          refine ⟨.int .i64 p, fun w' hw' => ?_, hK _ ?_⟩
          · exact CA1.out w' hw'
          · clear hK K
            refine q_load rfl 107 (.tmp 7) rfl g2 rfl 107 (arrC l') 7 3 (fun w' h => After.blk HC2.out h) Try.undArr Try.infoArr ?_
            refine q_move rfl _ rfl ?_
            refine q_move rfl _ rfl ?_
            refine wpQuiet_step (fun K hK => ?_)
            go_simp
            refine ⟨.int .i64 q, fun w' hw' => ?_, hK _ ?_⟩
            · exact CA2.out w' hw'
            · clear hK K
              refine wpQuiet_step (fun K hK => ?_)
              go_simp
              refine ⟨.bool (decide (p < q)), fun w' _ => rfl, hK _ ?_⟩
              clear hK K
              refine wpQuiet_nil ?_
              intro w5 hw5
              have HC15 := Lib.hid (After.blk HC1.out hw5)
              have HC25 := Lib.hid (After.blk HC2.out hw5)
              have HB5 := Lib.hid (HBB.out.trans (Below.mono hw5 HBB.out.size))
              clear hw5
              by_cases hpq : p < q
              · have hd : decide (p < q) = true := by simpa using hpq
                rw [hd]
                have HPQ := Lib.hid hpq
                clear hd hpq
                go_wp2
                go_ret
                refine ⟨ret_bool (belowB_false (fun h => ?_)).symm, HB5.out⟩
                have := h r hlt x hxl
                have e1 := HP.out
                have e2 := HQ.out
                have e3 := HPQ.out
                omega
              · have hd : decide (p < q) = false := by simpa using hpq
                rw [hd]
                have HPQ := Lib.hid hpq
                clear hd hpq
                go_wp2
                go_roundw
                case rel => exact ⟨x + 1, by omega, by go_num, fun x' h => by
                  rcases Nat.lt_or_ge x' x with h1 | h1
                  · exact HA2.out x' h1
                  · obtain rfl : x' = x := by omega
                    have e1 := HP.out
                    have e2 := HQ.out
                    have e3 := HPQ.out
                    omega, HC15.out, HC25.out, HB5.out⟩
                case measure => simp [intOf]; omega
        · have hxn : x = n + 1 := by omega
          subst hxn
          go_wp2
          go_roundw
          case rel => exact ⟨r + 1, by omega, by go_num, fun r' h x' hx' => by
            rcases Nat.lt_or_ge r' r with h1 | h1
            · exact HA.out r' h1 x' hx'
            · obtain rfl : r' = r := by omega
              exact HA2.out x' (by omega), HC1.out, HC2.out, HBB.out⟩
          case measure => simp [intOf]; omega
    · have hrn : r = n + 1 := by omega
      subst hrn
      go_wp2
      go_ret
      exact ⟨ret_bool (belowB_true (fun r' h x hx => HA.out r' (by omega) x hx)).symm, HB.out⟩

set_option maxHeartbeats 2000000 in
theorem implBelow_any (A A' : Option Addr) (n c n' c' : Nat) (us vs : List Int) (w : World) (hs : SI w A n us) (hs' : SI w A' n' vs) (hn : n ≤ 1099511627776) (hn' : n' ≤ 1099511627776) :
    Calls Try.prog 70 #[.slice A n c, .slice A' n' c'] w fun e w' => e = .returned (.bool (belowPerm us vs)) ∧ Below w.heap.size w w' := by
  have hl := hs.1
  have hl' := hs'.1
  cases hu : isPermB us with
  | true =>
    cases hv : isPermB vs with
    | true =>
      by_cases hnn : n = n'
      · subst hnn
        rw [belowPerm_4 hu hv (by omega), hl]
        exact implBelow_in A A' n c c' us vs w hs hs' hn hu hv
      · have hne' : ¬ (n : Int) = (n' : Int) := by omega
        have HE := Lib.hid (belowPerm_3 (us := us) (vs := vs) (by omega))
        have HU := Lib.hid hu
        have HV := Lib.hid hv
        clear hu hv hl hl'
        go_enter Try.func70, Try.ntmps70
        go_wp2_with fail
        refine (arrayOf_x c HU.out hs hn).mono ?_
        rintro e w1 ⟨l, rfl, -, hb1⟩
        have hbx : Below w.heap.size w (w1.alloc (.cells (arrC l) 107)) := hb1.alloc hb1.size _
        go_wp2_with fail
        generalize w1.alloc (.cells (arrC l) 107) = w2 at *
        refine (arrayOf_x c' HV.out (hs'.below hbx (Nat.le_refl _)) hn').mono ?_
        rintro e w3 ⟨l', rfl, -, hb3⟩
        go_wp2
        go_ret
        exact ⟨ret_bool HE.out.symm, ((hbx.trans (hb3.mono hbx.size)).alloc ((hbx.trans (hb3.mono hbx.size)).size) _)⟩
    | false =>
      have HE := Lib.hid (belowPerm_2 (us := us) hv)
      have HU := Lib.hid hu
      have HV := Lib.hid hv
      clear hu hv hl hl'
      go_enter Try.func70, Try.ntmps70
      go_wp2_with fail
      refine (arrayOf_x c HU.out hs hn).mono ?_
      rintro e w1 ⟨l, rfl, -, hb1⟩
      have hbx : Below w.heap.size w (w1.alloc (.cells (arrC l) 107)) := hb1.alloc hb1.size _
      go_wp2_with fail
      generalize w1.alloc (.cells (arrC l) 107) = w2 at *
      refine (arrayOf_x c' HV.out (hs'.below hbx (Nat.le_refl _)) hn').mono ?_
      rintro e w3 ⟨l', rfl, -, hb3⟩
      go_wp2
      go_ret
      exact ⟨ret_bool HE.out.symm, ((hbx.trans (hb3.mono hbx.size)).alloc ((hbx.trans (hb3.mono hbx.size)).size) _)⟩
  | false =>
    obtain ⟨b, hv⟩ : ∃ b, isPermB vs = b := ⟨_, rfl⟩
    have HE := Lib.hid (belowPerm_1 (vs := vs) hu)
    have HU := Lib.hid hu
    have HV := Lib.hid hv
    clear hu hv hl hl'
    go_enter Try.func70, Try.ntmps70
    go_wp2_with fail
    refine (arrayOf_x c HU.out hs hn).mono ?_
    rintro e w1 ⟨l, rfl, -, hb1⟩
    have hbx : Below w.heap.size w (w1.alloc (.cells (arrC l) 107)) := hb1.alloc hb1.size _
    go_wp2_with fail
    generalize w1.alloc (.cells (arrC l) 107) = w2 at *
    refine (arrayOf_x c' HV.out (hs'.below hbx (Nat.le_refl _)) hn').mono ?_
    rintro e w3 ⟨l', rfl, -, hb3⟩
    go_wp2
    go_ret
    exact ⟨ret_bool HE.out.symm, ((hbx.trans (hb3.mono hbx.size)).alloc ((hbx.trans (hb3.mono hbx.size)).size) _)⟩
end Go.Proofs.Ytjpoliibljjhnaa

/-
  The program's test of a cover. Conditions: places below the permutation's size.
-/




namespace Go.Proofs.Ytjpoliibljjhnaa
open Go.RowKit

theorem fill_swap {xs : List Int} {i j : Nat} (hij : i < j) (hj : j < xs.length) (h7 : xs.length ≤ 7) : swapL (fillA xs xs.length) i j = fillA (swapL xs i j) xs.length := by
  apply List.ext_getElem (by rw [swapL_len, fillA_len, fillA_len])
  intro t h1 h2
  rw [swapL_len, fillA_len] at h1
  rw [← nth_get (by rw [swapL_len, fillA_len]; exact h1), ← nth_get (by rw [fillA_len]; exact h1), swapL_nth (by rw [fillA_len]; omega) (by rw [fillA_len]; omega) (by rw [fillA_len]; exact h1), fillA_lt (show i < xs.length by omega) (by omega), fillA_lt hj (by omega), fillA_nth xs _ t h1, fillA_nth (swapL xs i j) _ t h1]
  by_cases ht : t < xs.length
  · rw [if_pos ht, if_pos ht, swapL_nth (by omega) hj ht]
  · rw [if_neg ht, if_neg ht, if_neg (by omega), if_neg (by omega)]
theorem cov_fill {xs : List Int} (h : isPermP xs) {i j : Nat} (hij : i < j) (hj : j < xs.length) : covB xs i j = decide (invSum (swapL (fillA xs xs.length) i j) 7 = invSum (fillA xs xs.length) 7 + 1) := by
  have h7 := h.2.1
  have e := invSum_fill (swap_pp h hij hj)
  rw [swapL_len] at e
  rw [fill_swap hij hj h7, invSum_fill h, e]
  rfl

set_option maxHeartbeats 2000000 in
theorem isCovered_any (xs : List Int) (h : isPermP xs) (i j : Nat) (w : World) (hij : i < j) (hj : j < xs.length) :
    Calls Try.prog 98 #[arr (fillA xs xs.length), .int .i64 i, .int .i64 j] w fun e w' => e = .returned (.bool (covB xs i j)) ∧ Below w.heap.size w w' := by
  rw [cov_fill h hij hj]
  have h7 := h.2.1
  obtain ⟨l, hl⟩ : ∃ l, l = fillA xs xs.length := ⟨_, rfl⟩
  have hll : l.length = 7 := by rw [hl, fillA_len]
  rw [← hl]
  obtain ⟨p, hp⟩ : ∃ p, p = invSum (swapL l i j) 7 := ⟨_, rfl⟩
  obtain ⟨q, hq⟩ : ∃ q, q = invSum l 7 := ⟨_, rfl⟩
  have hqb : 0 ≤ q ∧ q ≤ 1000 := by have := invSum_bounds l 7; rw [← hq] at this; omega
  obtain ⟨w1, hw1⟩ : ∃ w1, w1 = w.alloc (.cells (arrC l) 107) := ⟨_, rfl⟩
  have HK : Hid (Blk w1 w.heap.size 107 (arrC l)) := Lib.hid (by rw [hw1]; exact Blk.new w _ _)
  have HB1 : Hid (Below w.heap.size w w1) := Lib.hid (by rw [hw1]; exact Below.alloc_self _ _)
  have HW := Lib.hid hw1
  have call1 : ∀ w', After w1 w' → Calls Try.prog 99 #[arr l, .int .i64 i, .int .i64 j] w' (fun e w'' => e = .returned (arr (swapL l i j)) ∧ After w1 w'') := fun w' hw' =>
    (exchanged_any l i j w' (by omega) (by omega) (by omega) hll).mono fun e w'' ⟨he, hb⟩ => ⟨he, hw'.trans (hb.mono hw'.size)⟩
  have call2 : ∀ w', After w1 w' → Calls Try.prog 189 #[arr (swapL l i j)] w' (fun e w'' => e = .returned (.int .i64 p) ∧ After w1 w'') := fun w' hw' =>
    (length_any (swapL l i j) w').mono fun e w'' ⟨he, hb⟩ => ⟨by rw [he, ← hp], hw'.trans (hb.mono hw'.size)⟩
  have call3 : ∀ w', After w1 w' → Calls Try.prog 189 #[arr l] w' (fun e w'' => e = .returned (.int .i64 q) ∧ After w1 w'') := fun w' hw' =>
    (length_any l w').mono fun e w'' ⟨he, hb⟩ => ⟨by rw [he, ← hq], hw'.trans (hb.mono hw'.size)⟩
  rw [← hp, ← hq]
  have CA1 := Lib.hid call1
  have CA2 := Lib.hid call2
  have CA3 := Lib.hid call3
  have hwq : IntKind.i64.wrap (q + 1) = q + 1 := IntWalk.i64_in _ (by omega)
  have HWQ := Lib.hid hwq
  clear hp hq call1 call2 call3 hl hll hwq hw1 h h7
  obtain ⟨r, hr⟩ : ∃ r, r = swapL l i j := ⟨_, rfl⟩
  rw [← hr] at CA1 CA2
  clear hr
  go_enter Try.func98, Try.ntmps98
  go_upto_region 1 with fail
  rw [← HW.out]
  refine wp_region_class (After w1) (by kernel_rfl) (by kernel_rfl) (Below.refl _ _).drew ?_
  refine q_load rfl 107 (.tmp 3) rfl w.heap.size rfl 107 (arrC l) 7 3 (fun w' h => After.blk HK.out h) Try.undArr Try.infoArr ?_
  refine q_move rfl _ rfl ?_
  refine q_move rfl _ rfl ?_
  refine wpQuiet_step (fun K hK => ?_)
  go_simp
  refine ⟨arr r, fun w' hw' => ?_, hK _ ?_⟩
  · exact CA1.out w' hw'
  clear hK K
  refine wpQuiet_step (fun K hK => ?_)
  go_simp
  refine ⟨.int .i64 p, fun w' hw' => ?_, hK _ ?_⟩
  · exact CA2.out w' hw'
  clear hK K
  refine q_load rfl 107 (.tmp 3) rfl w.heap.size rfl 107 (arrC l) 7 3 (fun w' h => After.blk HK.out h) Try.undArr Try.infoArr ?_
  refine wpQuiet_step (fun K hK => ?_)
  go_simp
  refine ⟨.int .i64 q, fun w' hw' => ?_, hK _ ?_⟩
  · exact CA3.out w' hw'
  clear hK K
  refine wpQuiet_step (fun K hK => ?_)
  go_simp
  refine ⟨_, fun w' _ => rfl, hK _ ?_⟩
  clear hK K
  refine wpQuiet_step (fun K hK => ?_)
  go_simp
  refine ⟨_, fun w' _ => rfl, hK _ ?_⟩
  clear hK K
  refine wpQuiet_step (fun K hK => ?_)
  go_simp
  refine ⟨_, fun w' _ => rfl, hK _ ?_⟩
  clear hK K
  refine wpQuiet_nil ?_
  intro w5 hw5
  have HB5 := Lib.hid (HB1.out.trans (Below.mono hw5 HB1.out.size))
  clear hw5
  go_wp2
  go_ret
  exact ⟨ret_bool (by rw [HWQ.out]; rfl), HB5.out⟩
end Go.Proofs.Ytjpoliibljjhnaa

/-
  The library's sort: the worlds that it passes through, in the words of slices that a call owns. Plain lemmas. No conditions.
-/



namespace Go.Proofs.Ytjpoliibljjhnaa
open Go.RowKit

theorem ix_lt {n : Nat} (h : 0 < n) (i : Nat) : (if i < n then i else 0) < n := by split <;> omega
/-- A number as a place among the first n. -/
def ix (n i : Nat) : Nat := if i < n then i else 0
theorem ix_of {n i : Nat} (h : i < n) : ix n i = i := if_pos h
theorem ix_in {n : Nat} (h : 0 < n) (i : Nat) : ix n i < n := ix_lt h i

theorem sortWorld_block (enc : Nat → List Value) (size : Nat) (w : World) (g m : Nat) (dk : Array Nat) (os : Array Obj) {cur : Array Value} {e : TypeId} {fr : Nat × Nat} (h : w.heap[g]? = some (.cells cur e fr)) :
    (sortWorldK enc size w g 0 m dk os).heap[g]? = some (.cells (Go.Sort.putCells id 0 (Go.Sort.flatK enc size dk) cur) e fr) := by
  have hlt : g < w.heap.size := by
    rcases Nat.lt_or_ge g w.heap.size with h1 | h1
    · exact h1
    · rw [Array.getElem?_eq_none h1] at h; cases h
  unfold sortWorldK
  rw [Go.Sort.heap_grow_old _ _ (by rw [show (Go.Sort.putRowK enc size (Go.Sort.ahead w m) g 0 dk).heap.size = w.heap.size by simp [Go.Sort.putRowK, Go.Sort.ahead]]; exact hlt)]
  simp [Go.Sort.putRowK, Go.Sort.putRow, Go.Sort.mapBlock, Go.Sort.ahead, Array.getElem?_modify, h, Go.Sort.onCells]
theorem sortWorld_grown (enc : Nat → List Value) (size : Nat) (w : World) (g m : Nat) (dk : Array Nat) (os : Array Obj) : w.grownBy (sortWorldK enc size w g 0 m dk os) (some g) := by
  refine ⟨rfl, rfl, rfl, by simp [sortWorldK, Go.Sort.putRowK, Go.Sort.ahead], fun k hk hne => ?_⟩
  unfold sortWorldK
  rw [Go.Sort.heap_grow_old _ _ (by rw [show (Go.Sort.putRowK enc size (Go.Sort.ahead w m) g 0 dk).heap.size = w.heap.size by simp [Go.Sort.putRowK, Go.Sort.ahead]]; exact hk)]
  have hgk : g ≠ k := fun e => hne (by rw [e])
  simp [Go.Sort.putRowK, Go.Sort.putRow, Go.Sort.mapBlock, Go.Sort.ahead, Array.getElem?_modify, hgk]
/-- The row that the sort leaves is owned as the one that came. -/
theorem sortWorld_owns {w : World} {base size n c g : Nat} {e : TypeId} {xs : List Value} {enc : Nat → List Value} (h : w.ownsRow base e size (.slice (some ⟨g, 0, none⟩) n c) n xs) (m : Nat) (dk : Array Nat) (os : Array Obj) (hd : dk.size = n) :
    (sortWorldK enc size w g 0 m dk os).ownsRow base e size (.slice (some ⟨g, 0, none⟩) n c) n (Go.Sort.flatK enc size dk).toList := by
  obtain ⟨_, h2⟩ := h
  rcases h2 with ⟨hx, _⟩ | ⟨g', cap, cur, hv, hlo, hg, hnc, hcm, hcs, htake⟩
  · cases hx
  · simp only [Value.slice.injEq, Option.some.injEq, Addr.mk.injEq, and_true, true_and] at hv
    obtain ⟨rfl, rfl⟩ := hv
    refine ⟨by simp [hd], .inr ⟨g, c, _, rfl, hlo, sortWorld_block enc size w g m dk os hg, hnc, hcm, by simp [Go.Sort.putCells, hcs], ?_⟩⟩
    apply List.ext_getElem?
    intro j
    have hle : n * size ≤ cur.size := by rw [hcs]; exact Nat.mul_le_mul_right _ hnc
    by_cases hj : j < n * size
    · rw [List.getElem?_take_of_lt hj]
      simp only [Array.getElem?_toList, Go.Sort.putCells, Array.getElem?_mapIdx]
      rw [Array.getElem?_eq_getElem (show j < cur.size by omega), Option.map_some, if_pos ⟨Nat.zero_le _, by simp [hd]; omega⟩, Array.getElem?_eq_getElem (show j < (Go.Sort.flatK enc size dk).size by simp [hd]; omega), Nat.sub_zero, getElem!_pos (Go.Sort.flatK enc size dk) j (by simp [hd]; omega)]
      rfl
    · rw [List.getElem?_eq_none (by simp; omega), List.getElem?_eq_none (by simp [hd]; omega)]
/-- What an owned row holds, in the sort's words. -/
theorem holds_of_owns {w : World} {base size n c g : Nat} {e : TypeId} {xs : List Value} {enc : Nat → List Value} (h : w.ownsRow base e size (.slice (some ⟨g, 0, none⟩) n c) n xs) (d : Array Nat) (hx : xs = (Go.Sort.flatK enc size d).toList) : Go.Sort.HoldsK enc size w g 0 d := by
  intro j hj
  subst hx
  refine ⟨?_, h.frozenAt _⟩
  have hl := h.1
  simp at hl
  rw [Nat.zero_add, h.cellAt j (by rw [← hl]; simpa using hj)]
  simp only [Array.getElem?_toList]
  rw [Array.getElem?_eq_getElem hj, getElem!_pos (Go.Sort.flatK enc size d) j hj]
  rfl
/-- What was sorted, as lists: the places of the numbers in their new order. -/
theorem sorted_lists {n : Nat} {lt : Nat → Nat → Bool} {dk : Array Nat} (hp : Go.Sort.PermIn 0 (Array.range n).size (Array.range n) dk) (hs : Go.Sort.SortedIn lt 0 (Array.range n).size dk) :
    dk.size = n ∧ dk.toList.Perm (List.range n) ∧ dk.toList.Pairwise (fun i j => lt j i = false) := by
  obtain ⟨h1, _, h3⟩ := hp
  have hsz : dk.size = n := by simpa using h1
  refine ⟨hsz, ?_, ?_⟩
  · have e1 : dk.extract 0 (Array.range n).size = dk := by
      rw [Array.size_range, ← hsz]; simp
    have e2 : (Array.range n).extract 0 (Array.range n).size = Array.range n := by simp
    rw [e1, e2] at h3
    simpa using h3
  · rw [List.pairwise_iff_getElem]
    intro i j hi hj hij
    simp at hi hj
    have := hs i j (Nat.zero_le _) hij (by rw [Array.size_range]; omega)
    rw [getElem!_pos dk i (by omega), getElem!_pos dk j (by omega)] at this
    simpa using this
end Go.Proofs.Ytjpoliibljjhnaa

/-
  slices.SortFunc over lists of numbers by slices.Compare: a permutation in ascending order, in the slice's own blocks. Conditions: lengths below 2^40.
-/






namespace Go.Proofs.Ytjpoliibljjhnaa
open Go.RowKit

/-- The order as the library's sort wants it. -/
theorem swo_cmpL (f : Nat → List Int) : Go.Sort.SWO (ltOf fun i j : Nat => cmpL (f i) (f j)) where
  irrefl i := by
    show decide (cmpL (f i) (f i) < 0) = false
    rw [cmpL_self]; rfl
  trans i j k h1 h2 := by
    have h1 : cmpL (f i) (f j) < 0 := of_decide_eq_true h1
    have h2 : cmpL (f j) (f k) < 0 := of_decide_eq_true h2
    exact decide_eq_true (cmpL_tr h1 h2)
  ntrans i j k h1 h2 := by
    have h1 : ¬ cmpL (f i) (f j) < 0 := of_decide_eq_false h1
    have h2 : ¬ cmpL (f j) (f k) < 0 := of_decide_eq_false h2
    refine decide_eq_false (fun h3 : cmpL (f i) (f k) < 0 => ?_)
    by_cases e : cmpL (f i) (f j) = 0
    · rw [cmpL_eq e] at h3; exact h2 h3
    · have h4 : cmpL (f j) (f i) < 0 := by rw [cmpL_swap (f i) (f j)]; omega
      exact h2 (cmpL_tr h4 h3)
theorem sortWorld_one (enc : Nat → Value) (w : World) (b off m : Nat) (dk : Array Nat) (os : Array Obj) : sortWorld enc w b off m dk os = sortWorldK (fun x => [enc x]) 1 w b off m dk os := by
  unfold sortWorld sortWorldK Go.Sort.putRowK Go.Sort.putRow
  have e : Go.Sort.putCells enc off dk = Go.Sort.putCells id off (Go.Sort.flatK (fun x => [enc x]) 1 dk) := by
    funext c
    unfold Go.Sort.putCells
    apply Array.ext
    · simp
    · intro i h1 h2
      simp only [Array.getElem_mapIdx]
      have hs : (Go.Sort.flatK (fun x => [enc x]) 1 dk).size = dk.size := by simp
      by_cases h : off ≤ i ∧ i < off + dk.size
      · rw [if_pos h, if_pos (by rw [hs]; exact h), Go.Sort.get_flatK (fun x => [enc x]) 1 dk (i - off) (by omega)]
        simp [Nat.mod_one]
      · rw [if_neg h, if_neg (by rw [hs]; exact h)]
  rw [e]
theorem holds_one {enc : Nat → Value} {w : World} {b off : Nat} {d : Array Nat} (h : Go.Sort.HoldsK (fun x => [enc x]) 1 w b off d) : Go.Sort.Holds enc w b off d := by
  intro j hj
  have := h j (by simpa using hj)
  rw [Go.Sort.get_flatK (fun x => [enc x]) 1 d j (by omega)] at this
  simpa [Nat.mod_one] using this
theorem flat1 (dk : Array Nat) (enc : Nat → Value) (f : Nat → Value) (henc : ∀ k, k < dk.size → enc dk[k]! = f k) : (Go.Sort.flatK (fun x => [enc x]) 1 dk).toList = (List.range dk.size).map f := by
  apply List.ext_getElem?
  intro j
  by_cases hj : j < dk.size * 1
  · rw [Array.getElem?_toList, Array.getElem?_eq_getElem (by simpa using hj), ← getElem!_pos (Go.Sort.flatK (fun x => [enc x]) 1 dk) j (by simpa using hj), Go.Sort.get_flatK (fun x => [enc x]) 1 dk j hj]
    have hj' : j < dk.size := by omega
    have h2 := henc j hj'
    rw [getElem!_pos dk j hj'] at h2
    simp [Nat.mod_one, hj', h2]
  · rw [List.getElem?_eq_none (by simp; omega), List.getElem?_eq_none (by simp; omega)]
theorem row1_eq' {w : World} {base n c : Nat} {A : Option Addr} {e : TypeId} {xs ys : List Value} (h : w.ownsRow base e 1 (.slice A n c) n xs) (hx : xs = ys) : w.ownsRow base e 1 (.slice A n c) n ys := hx ▸ h

set_option maxHeartbeats 1000000 in
/-- At least one list. -/
theorem sortLists_own (E : Nat → Sv) (g n c lo hi : Nat) (ts : List (List Int)) (w : World) (h : OwnLE E w lo hi (some ⟨g, 0, none⟩) n c ts) (h0 : 0 < n) (hn : n ≤ 1099511627776) (hlen : ∀ k, k < n → (li ts k).length ≤ 1099511627776) :
    Calls Try.prog 101 #[.slice (some ⟨g, 0, none⟩) n c, .func (.func 102) #[] #[]] w fun e w' => e = .returned (.tuple #[]) ∧
      ∃ us : List (List Int), us.Perm ts ∧ us.Pairwise (fun a b => 0 ≤ cmpL b a) ∧ OwnL w' lo hi (some ⟨g, 0, none⟩) n c us ∧ w.grownBy w' (some g) := by
  obtain ⟨hl, ho, hh, he, hne, hdd⟩ := h
  have hg : g < w.heap.size := (ho.lt g rfl).2
  obtain ⟨enc, henc⟩ : ∃ enc : Nat → Value, enc = fun i => sv (E (ix n i)) := ⟨_, rfl⟩
  have h1 : OneCell enc := fun x => by rw [henc]; rfl
  have hcells : heads n E = (Go.Sort.flatK (fun x => [enc x]) 1 (Array.range n)).toList := by
    rw [flat1 (Array.range n) enc (fun k => sv (E k)) (fun k hk => by
      rw [Array.size_range] at hk
      rw [getElem!_pos _ k (by simpa using hk), henc]
      simp [ix_of hk]), Array.size_range]
    rfl
  have hH := holds_one (holds_of_owns (enc := fun x => [enc x]) ho (Array.range n) hcells)
  have hcmp : CmpLays1 Try.prog 102 #[] enc (fun i j => cmpL (li ts (ix n i)) (li ts (ix n j))) g 0 (Array.range n).size w := fun m os dk hd x y => by
    rw [sortWorld_one]
    have gg := sortWorld_grown (fun x => [enc x]) 1 w g m dk os
    have own : ∀ k, k < n → Own (sortWorldK (fun x => [enc x]) 1 w g 0 m dk os) lo hi (E k).1 (E k).2.1 (E k).2.2 (li ts k) := fun k hk => (he k hk).kept gg (fun b hb e2 => hne k b hk hb e2)
    have s1 := (own _ (ix_in h0 x))
    have s2 := (own _ (ix_in h0 y))
    have hc := sliceCompare_any (E (ix n x)).1 (E (ix n y)).1 (E (ix n x)).2.1 (E (ix n x)).2.2 (E (ix n y)).2.1 (E (ix n y)).2.2 _ _ _ s1.si s2.si (by rw [← s1.len]; exact hlen _ (ix_in h0 x)) (by rw [← s2.len]; exact hlen _ (ix_in h0 y))
    simp only [Array.append_empty]
    have e1 : enc x = .slice (E (ix n x)).1 (E (ix n x)).2.1 (E (ix n x)).2.2 := by rw [henc]; rfl
    have e2 : enc y = .slice (E (ix n y)).1 (E (ix n y)).2.1 (E (ix n y)).2.2 := by rw [henc]; rfl
    rw [e1, e2]
    refine hc.mono ?_
    rintro e w' ⟨e1, e2⟩
    exact ⟨e1, Grew.of_drawn e2⟩
  have eg : ∀ args w, (callFunc 102 args).run Try.prog w = .ok (.enter 102 args) w := enters_of Try.func102 (by kernel_rfl) rfl
  have hcon := Any.slices_SortFunc Try.sortL enc h1 (fun i j => cmpL (li ts (ix n i)) (li ts (ix n j))) (swo_cmpL fun i => li ts (ix n i)) 102 #[] g 0 c (Array.range n) w eg hcmp hH hg (by rw [Array.size_range]; omega)
  change Calls Try.prog 101 _ _ _ at hcon
  rw [Array.size_range] at hcon
  refine hcon.mono ?_
  rintro e w' ⟨rfl, dk, m, os, hp, hs, rfl⟩
  rw [sortWorld_one]
  obtain ⟨hsz, hperm, hsort⟩ := sorted_lists (by rw [Array.size_range]; exact hp) (by rw [Array.size_range]; exact hs)
  have gg := sortWorld_grown (fun x => [enc x]) 1 w g m dk os
  have hin : ∀ k, k < n → dk[k]! < n := fun k hk => by
    have : dk[k]! ∈ dk.toList := by
      rw [getElem!_pos dk k (by omega)]
      exact Array.getElem_mem_toList _
    have := hperm.mem_iff.1 this
    simpa using this
  have hinj : ∀ i j, i < j → j < n → dk[i]! ≠ dk[j]! := fun i j hij hj e => by
    have hnd : dk.toList.Nodup := hperm.nodup_iff.2 List.nodup_range
    rw [getElem!_pos dk i (by omega), getElem!_pos dk j (by omega)] at e
    have := (List.nodup_iff_pairwise_ne.1 hnd)
    rw [List.pairwise_iff_getElem] at this
    exact this i j (by simp; omega) (by simp; omega) hij (by simpa using e)
  obtain ⟨us, hus⟩ : ∃ us, us = dk.toList.map (li ts) := ⟨_, rfl⟩
  have hul : us.length = n := by rw [hus]; simp [hsz]
  have htm : ∀ k, k < n → li us k = li ts dk[k]! := fun k hk => by
    rw [hus, getElem!_pos dk k (by omega)]
    rw [li_get (by simp; omega)]
    simp
  refine ⟨rfl, us, ?_, ?_, ⟨fun k => E dk[k]!, hul, ?_, hh, fun j hj => ?_, fun j b hj hb => hne _ b (hin j hj) hb, fun i j b hij hj hb e2 => ?_⟩, gg⟩
  · have e1 : ts = (List.range n).map (li ts) := by
      apply List.ext_getElem (by simp [hl])
      intro k hk1 hk2
      simp [li_get hk1]
    rw [hus]
    have := hperm.map (li ts)
    rwa [← e1] at this
  · rw [hus, List.pairwise_map]
    refine hsort.imp_of_mem ?_
    intro i j hi hj hlt
    have hi := hperm.mem_iff.1 hi
    have hj := hperm.mem_iff.1 hj
    simp at hi hj
    have hlt : ¬ cmpL (li ts (ix n j)) (li ts (ix n i)) < 0 := of_decide_eq_false hlt
    rw [ix_of hi, ix_of hj] at hlt
    omega
  · have o2 := sortWorld_owns (enc := fun x => [enc x]) ho m dk os hsz
    refine row1_eq' o2 ?_
    rw [flat1 dk enc (fun k => sv (E dk[k]!)) (fun k hk => by
      rw [henc]
      simp only [ix_of (hin k (by omega))]), hsz]
    rfl
  · rw [htm j hj]
    exact (he _ (hin j hj)).kept gg (fun b hb e2 => hne _ b (hin j hj) hb e2)
  · have hd := hinj i j hij hj
    rcases Nat.lt_or_ge dk[i]! dk[j]! with hlt | hge
    · exact hdd _ _ b hlt (hin j hj) hb e2
    · exact hdd _ _ b (by omega) (hin i (by omega)) e2 hb
/-- At no list. -/
theorem sortLists_none (A : Option Addr) (c : Nat) (fv : Value) (w : World) :
    Calls Try.prog 101 #[.slice A 0 c, fv] w fun e w' => e = .returned (.tuple #[]) ∧ w' = w :=
  AnyF.slices_SortFunc_none { Try.sortL with } A c fv w
/-- Whatever their number. -/
theorem sortLists_any (E : Nat → Sv) (A : Option Addr) (n c lo : Nat) (ts : List (List Int)) (w : World) (h : OwnLE E w lo w.heap.size A n c ts) (hlo : lo ≤ w.heap.size) (hn : n ≤ 1099511627776) (hlen : ∀ k, k < n → (li ts k).length ≤ 1099511627776) :
    Calls Try.prog 101 #[.slice A n c, .func (.func 102) #[] #[]] w fun e w' => e = .returned (.tuple #[]) ∧
      ∃ us : List (List Int), us.Perm ts ∧ us.Pairwise (fun a b => 0 ≤ cmpL b a) ∧ OwnL w' lo w'.heap.size A n c us ∧ Below lo w w' := by
  by_cases h0 : 0 < n
  · obtain ⟨g, rfl, hg1, hg2⟩ := h.place h0
    refine (sortLists_own E g n c lo w.heap.size ts w h h0 hn hlen).mono ?_
    rintro e w' ⟨rfl, us, hp, hs, ho, hg⟩
    exact ⟨rfl, us, hp, hs, ho.wide (Nat.le_refl _) hg.size, (Below.refl w.heap.size w |>.mono hlo).grown hg hlo (by rintro q ⟨⟩; exact hg1)⟩
  · obtain rfl : n = 0 := by omega
    refine (sortLists_none A c _ w).mono ?_
    rintro e w' ⟨rfl, rfl⟩
    obtain rfl : ts = [] := List.eq_nil_of_length_eq_zero h.1
    exact ⟨rfl, [], List.Perm.refl _, List.Pairwise.nil, ⟨E, h⟩, Below.refl _ _ |>.mono hlo⟩
end Go.Proofs.Ytjpoliibljjhnaa
