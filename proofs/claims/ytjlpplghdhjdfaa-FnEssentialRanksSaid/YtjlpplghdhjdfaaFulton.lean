/-
  Ranks at the essential cells decide the order: plain lemmas. Conditions: permutations of at most five numbers.
-/
import Derived.Test.YtjlpplghdhjdfaaEss
import Derived.Test.YtjlpplghdhjdfaaSpecH
import Derived.Test.YtjlpplghdhjdfaaFacts5
namespace Go.Proofs.Ytjlpplghdhjdfaa
open Go.RowKit

/-- How many of the first r numbers are c. -/
def cntEq (xs : List Int) (c : Int) : Nat → Nat
  | 0 => 0
  | r + 1 => cntEq xs c r + (if nth xs r = c then 1 else 0)
theorem cntEq_zero {xs : List Int} {c : Int} : ∀ r, (∀ t, t < r → nth xs t ≠ c) → cntEq xs c r = 0
  | 0, _ => rfl
  | r + 1, h => by
    show cntEq xs c r + (if nth xs r = c then 1 else 0) = 0
    rw [cntEq_zero r (fun t ht => h t (by omega)), if_neg (h r (by omega))]
theorem cntEq_pos {xs : List Int} {c : Int} {t : Nat} : ∀ r, t < r → nth xs t = c → 1 ≤ cntEq xs c r
  | 0, h, _ => absurd h (by omega)
  | r + 1, h, e => by
    show 1 ≤ cntEq xs c r + (if nth xs r = c then 1 else 0)
    by_cases h1 : t = r
    · subst h1; rw [if_pos e]; omega
    · have := cntEq_pos r (t := t) (by omega) e; omega
theorem rank_col (xs : List Int) (c : Int) : ∀ r, rankN xs (c + 1) r = rankN xs c r + cntEq xs c r
  | 0 => rfl
  | r + 1 => by
    have ih := rank_col xs c r
    show rankN xs (c + 1) r + (if nth xs r < c + 1 then 1 else 0) = rankN xs c r + (if nth xs r < c then 1 else 0) + (cntEq xs c r + (if nth xs r = c then 1 else 0))
    rw [ih]
    by_cases h1 : nth xs r < c
    · rw [if_pos (by omega), if_pos h1, if_neg (by omega)]; omega
    · by_cases h2 : nth xs r = c
      · rw [if_pos (by omega), if_neg h1, if_pos h2]; omega
      · rw [if_neg (by omega), if_neg h1, if_neg h2]; omega
theorem perm_inj {xs : List Int} (h : isPermP xs) {s t : Nat} (hst : s < t) (ht : t < xs.length) : nth xs s ≠ nth xs t := by
  intro e
  have h3 := (h.2.2 t ht).2.2
  rw [← e] at h3
  have := hasB_hit (xs := xs.take t) (k := s) (by rw [List.length_take]; omega)
  rw [nth_take hst] at this
  rw [this] at h3
  cases h3
theorem cntEq_one {xs : List Int} (h : isPermP xs) (c : Int) : ∀ r, r ≤ xs.length → cntEq xs c r ≤ 1
  | 0, _ => by simp [cntEq]
  | r + 1, hr => by
    have ih := cntEq_one h c r (by omega)
    show cntEq xs c r + (if nth xs r = c then 1 else 0) ≤ 1
    by_cases e : nth xs r = c
    · rw [cntEq_zero r (fun t ht e2 => perm_inj h ht (by omega) (e2.trans e.symm)), if_pos e]; omega
    · rw [if_neg e]; omega
theorem rank_row_le (xs : List Int) (c : Int) (r : Nat) : rankN xs c r ≤ rankN xs c (r + 1) ∧ rankN xs c (r + 1) ≤ rankN xs c r + 1 := by
  by_cases h : nth xs r < c
  · rw [rankN_hit h]; omega
  · rw [rankN_miss h]; omega
theorem rank_zero (xs : List Int) : ∀ r, (∀ t, t < r → 0 ≤ nth xs t) → rankN xs 0 r = 0
  | 0, _ => rfl
  | r + 1, h => by rw [rankN_miss (by have := h r (by omega); omega), rank_zero xs r (fun t ht => h t (by omega))]
/-- The inverse tells where a number stands. -/
theorem inv_facts {xs : List Int} (h : isPermP xs) (h5 : xs.length ≤ 5) {j : Nat} (hj : j < xs.length) :
    ∃ t : Nat, nth (invM xs xs.length xs.length) j = (t : Int) ∧ t < xs.length ∧ nth xs t = (j : Int) := by
  have := perm_cases (p := fun xs => (List.range xs.length).all fun j => decide (0 ≤ nth (invM xs xs.length xs.length) j ∧ nth (invM xs xs.length xs.length) j < (xs.length : Int) ∧ nth xs (nth (invM xs xs.length xs.length) j).toNat = (j : Int))) (by decide +kernel) h h5
  simp only [List.all_eq_true, List.mem_range, decide_eq_true_eq] at this
  obtain ⟨h1, h2, h3⟩ := this j hj
  exact ⟨(nth (invM xs xs.length xs.length) j).toNat, by omega, by omega, h3⟩

theorem dRow_iff {bk : List Int} {i : Nat} {x : Ce} : ∀ m, x ∈ dRow bk i m ↔ ∃ j : Nat, j < m ∧ x = ((i : Int), (j : Int)) ∧ (i : Int) < nth bk j
  | 0 => by simp [dRow]
  | m + 1 => by
    have ih := dRow_iff (bk := bk) (i := i) (x := x) m
    by_cases h : (i : Int) < nth bk m
    · rw [dRow_hit h, List.mem_append, ih]
      constructor
      · rintro (⟨j, h1, h2, h3⟩ | h1)
        · exact ⟨j, by omega, h2, h3⟩
        · exact ⟨m, by omega, by simpa using h1, h⟩
      · rintro ⟨j, h1, h2, h3⟩
        by_cases e : j = m
        · subst e; right; simpa using h2
        · left; exact ⟨j, by omega, h2, h3⟩
    · rw [dRow_miss h, ih]
      constructor
      · rintro ⟨j, h1, h2, h3⟩; exact ⟨j, by omega, h2, h3⟩
      · rintro ⟨j, h1, h2, h3⟩
        by_cases e : j = m
        · subst e; exact absurd h3 h
        · exact ⟨j, by omega, h2, h3⟩
theorem dAll_iff {xs bk : List Int} {x : Ce} : ∀ k, x ∈ dAll xs bk k ↔ ∃ i : Nat, i < k ∧ x ∈ dRow bk i (nth xs i).toNat
  | 0 => by simp [dAll]
  | k + 1 => by
    have e : dAll xs bk (k + 1) = dAll xs bk k ++ dRow bk k (nth xs k).toNat := rfl
    rw [e, List.mem_append, dAll_iff k]
    constructor
    · rintro (⟨i, h1, h2⟩ | h1)
      · exact ⟨i, by omega, h2⟩
      · exact ⟨k, by omega, h1⟩
    · rintro ⟨i, h1, h2⟩
      by_cases e : i = k
      · subst e; exact .inr h2
      · exact .inl ⟨i, by omega, h2⟩
/-- The diagram: no number at the place or ahead of it that is the column, and the number at the place is greater. -/
theorem dia_iff {xs : List Int} (h : isPermP xs) (h5 : xs.length ≤ 5) (i j : Nat) :
    ((i : Int), (j : Int)) ∈ diaPerm xs ↔ i < xs.length ∧ (j : Int) < nth xs i ∧ ∀ t, t ≤ i → nth xs t ≠ (j : Int) := by
  rw [diaPerm_yes (isPermB_true h), dAll_iff]
  constructor
  · rintro ⟨i', h1, h2⟩
    rw [dRow_iff] at h2
    obtain ⟨j', h3, h4, h6⟩ := h2
    injection h4 with e1 e2
    have e1 : i = i' := by omega
    have e2 : j = j' := by omega
    subst e1; subst e2
    have hr := h.range i h1
    refine ⟨h1, by omega, fun t ht e => ?_⟩
    obtain ⟨t', ha, hb, hc⟩ := inv_facts h h5 (j := j) (by omega)
    have : t = t' := by
      rcases Nat.lt_trichotomy t t' with hl | hl | hl
      · exact absurd (e.trans hc.symm) (perm_inj h hl hb)
      · exact hl
      · exact absurd (hc.trans e.symm) (perm_inj h hl (by omega))
    omega
  · rintro ⟨h1, h2, h3⟩
    have hr := h.range i h1
    refine ⟨i, h1, ?_⟩
    rw [dRow_iff]
    refine ⟨j, by omega, rfl, ?_⟩
    obtain ⟨t, ha, hb, hc⟩ := inv_facts h h5 (j := j) (by omega)
    rw [ha]
    rcases Nat.lt_or_ge i t with hl | hl
    · omega
    · exact absurd hc (h3 t hl)
theorem ess_iff {cs : List Ce} {x : Ce} (h : x ∈ cs) (h1 : (x.1 + 1, x.2) ∉ cs) (h2 : (x.1, x.2 + 1) ∉ cs) : x ∈ essL cs cs.length := by
  have key : ∀ k, k ≤ cs.length → ∀ t, t < k → ce cs t = x → x ∈ essL cs k := by
    intro k
    induction k with
    | zero => intro _ t ht; omega
    | succ k ih =>
      intro hk t ht e
      by_cases e2 : t = k
      · subst e2
        rw [essL_hit (by rw [e]; exact decide_eq_false h1) (by rw [e]; exact decide_eq_false h2), List.mem_append]
        right; rw [e]; simp
      · have := ih (by omega) t (by omega) e
        by_cases hh : hasC cs ((ce cs k).1 + 1, (ce cs k).2) = false ∧ hasC cs ((ce cs k).1, (ce cs k).2 + 1) = false
        · rw [essL_hit hh.1 hh.2, List.mem_append]; exact .inl this
        · rw [essL_miss (by
            cases q1 : hasC cs ((ce cs k).1 + 1, (ce cs k).2) with
            | true => exact .inl rfl
            | false =>
              cases q2 : hasC cs ((ce cs k).1, (ce cs k).2 + 1) with
              | true => exact .inr rfl
              | false => exact absurd ⟨q1, q2⟩ hh)]
          exact this
  obtain ⟨t, ht, e⟩ := List.getElem_of_mem h
  exact key cs.length (Nat.le_refl _) t ht (by rw [ce_get ht]; exact e)
/-- From a corner where too much lies to a cell of the diagram. -/
theorem to_dia {v w : List Int} (hv : isPermP v) (hw : isPermP w) (hl : w.length = v.length) (h5 : v.length ≤ 5) : ∀ s r x : Nat, r + x = s → r ≤ v.length → x ≤ v.length → rankN v (x : Int) r < rankN w (x : Int) r →
    ∃ i j : Nat, ((i : Int), (j : Int)) ∈ diaPerm v ∧ j < v.length ∧ rankN v ((j : Int) + 1) (i + 1) < rankN w ((j : Int) + 1) (i + 1) := by
  intro s
  induction s with
  | zero =>
    intro r x hs _ _ h
    have : r = 0 := by omega
    subst this
    exact absurd h (by simp [rankN])
  | succ s ih =>
    intro r x hs hr hx h
    cases r with
    | zero => exact absurd h (by simp [rankN])
    | succ i =>
      cases x with
      | zero => rw [show ((0 : Nat) : Int) = 0 from rfl, rank_zero w (i + 1) (fun t ht => (hw.range t (by omega)).1)] at h; omega
      | succ j =>
        have ej : ((j + 1 : Nat) : Int) = (j : Int) + 1 := by omega
        rw [ej] at h
        by_cases hd : ((i : Int), (j : Int)) ∈ diaPerm v
        · exact ⟨i, j, hd, by omega, h⟩
        · rw [dia_iff hv h5] at hd
          by_cases hvi : (j : Int) < nth v i
          · have : ∃ t, t ≤ i ∧ nth v t = (j : Int) := by
              rcases Classical.em (∃ t, t ≤ i ∧ nth v t = (j : Int)) with h1 | h1
              · exact h1
              · exact absurd ⟨by omega, hvi, fun t ht e => h1 ⟨t, ht, e⟩⟩ hd
            obtain ⟨t, ht, e⟩ := this
            have c1 := cntEq_pos (xs := v) (c := (j : Int)) (i + 1) (t := t) (by omega) e
            have c2 := cntEq_one hw (j : Int) (i + 1) (by omega)
            rw [rank_col, rank_col] at h
            exact ih (i + 1) j (by omega) hr (by omega) (by omega)
          · have hh := rankN_hit (xs := v) (c := (j : Int) + 1) (k := i) (by omega)
            have hg := (rank_row_le w ((j : Int) + 1) i).2
            exact ih i (j + 1) (by omega) (by omega) hx (by rw [ej]; omega)
/-- From a cell of the diagram where too much lies to an essential one. -/
theorem to_ess {v w : List Int} (hv : isPermP v) (hw : isPermP w) (h5 : v.length ≤ 5) : ∀ s i j : Nat, i + j + s = 20 → ((i : Int), (j : Int)) ∈ diaPerm v → rankN v ((j : Int) + 1) (i + 1) < rankN w ((j : Int) + 1) (i + 1) →
    ∃ i j : Nat, ((i : Int), (j : Int)) ∈ essPerm v ∧ rankN v ((j : Int) + 1) (i + 1) < rankN w ((j : Int) + 1) (i + 1) := by
  intro s
  induction s with
  | zero =>
    intro i j hs hd _
    have := diaPerm_mem hd
    omega
  | succ s ih =>
    intro i j hs hd h
    by_cases h1 : ((i : Int) + 1, (j : Int)) ∈ diaPerm v
    · have e : ((i : Int) + 1, (j : Int)) = (((i + 1 : Nat) : Int), (j : Int)) := by simp
      rw [e] at h1
      have hd1 := (dia_iff hv h5 (i + 1) j).1 h1
      have hm := rankN_miss (xs := v) (c := (j : Int) + 1) (k := i + 1) (by omega)
      have hg := (rank_row_le w ((j : Int) + 1) (i + 1)).1
      exact ih (i + 1) j (by omega) h1 (by omega)
    · by_cases h2 : ((i : Int), (j : Int) + 1) ∈ diaPerm v
      · have e : ((i : Int), (j : Int) + 1) = ((i : Int), ((j + 1 : Nat) : Int)) := by simp
        rw [e] at h2
        have hd2 := (dia_iff hv h5 i (j + 1)).1 h2
        have c0 := cntEq_zero (xs := v) (c := (j : Int) + 1) (i + 1) (fun t ht => by have := hd2.2.2 t (by omega); intro e3; exact this (by rw [e3]; omega))
        have r1 := rank_col v ((j : Int) + 1) (i + 1)
        have r2 := rank_col w ((j : Int) + 1) (i + 1)
        exact ih i (j + 1) (by omega) h2 (by
          have e4 : ((j + 1 : Nat) : Int) + 1 = (j : Int) + 1 + 1 := by omega
          rw [e4]; omega)
      · exact ⟨i, j, ess_iff hd h1 h2, h⟩
/-- Whether the ranks at the first k cells are kept. -/
def keepB (v w : List Int) (cs : List Ce) : Nat → Bool
  | 0 => true
  | k + 1 => keepB v w cs k && decide (rankN w ((ce cs k).2 + 1) ((ce cs k).1 + 1).toNat ≤ rankN v ((ce cs k).2 + 1) ((ce cs k).1 + 1).toNat)
theorem keepB_all {v w : List Int} {cs : List Ce} : ∀ k, keepB v w cs k = true → ∀ t, t < k → rankN w ((ce cs t).2 + 1) ((ce cs t).1 + 1).toNat ≤ rankN v ((ce cs t).2 + 1) ((ce cs t).1 + 1).toNat
  | 0, _, t, ht => absurd ht (by omega)
  | k + 1, h, t, ht => by
    have h' : (keepB v w cs k && decide (rankN w ((ce cs k).2 + 1) ((ce cs k).1 + 1).toNat ≤ rankN v ((ce cs k).2 + 1) ((ce cs k).1 + 1).toNat)) = true := h
    rw [Bool.and_eq_true, decide_eq_true_eq] at h'
    by_cases e : t = k
    · subst e; exact h'.2
    · exact keepB_all k h'.1 t (by omega)
theorem keepB_of {v w : List Int} {cs : List Ce} : ∀ k, (∀ t, t < k → rankN w ((ce cs t).2 + 1) ((ce cs t).1 + 1).toNat ≤ rankN v ((ce cs t).2 + 1) ((ce cs t).1 + 1).toNat) → keepB v w cs k = true
  | 0, _ => rfl
  | k + 1, h => by
    show (keepB v w cs k && decide _) = true
    rw [keepB_of k (fun t ht => h t (by omega)), decide_eq_true (h k (by omega))]; rfl
theorem essL_sub {cs : List Ce} {x : Ce} : ∀ k, k ≤ cs.length → x ∈ essL cs k → x ∈ cs
  | 0, _, h => by simp [essL] at h
  | k + 1, hk, h => by
    by_cases hh : hasC cs ((ce cs k).1 + 1, (ce cs k).2) = false ∧ hasC cs ((ce cs k).1, (ce cs k).2 + 1) = false
    · rw [essL_hit hh.1 hh.2, List.mem_append] at h
      rcases h with h | h
      · exact essL_sub k (by omega) h
      · simp at h; rw [h]; exact ce_mem (by omega)
    · have e : essL cs (k + 1) = essL cs k := by show (if _ then _ else _) = _; rw [if_neg hh]
      rw [e] at h
      exact essL_sub k (by omega) h
theorem keep_below {v w : List Int} (hv : isPermP v) (hw : isPermP w) (hl : w.length = v.length) (h5 : v.length ≤ 5) : keepB v w (essPerm v) (essPerm v).length = belowPerm v w := by
  cases hb : belowPerm v w with
  | true =>
    have hp : belowP v w v.length := by
      unfold belowPerm at hb
      simp only [Bool.and_eq_true] at hb
      exact (belowB_iff _ _ _).1 hb.2.2.2
    refine keepB_of _ fun t ht => ?_
    have hm : ce (essPerm v) t ∈ diaPerm v := essL_sub _ (Nat.le_refl _) (ce_mem ht)
    have hr := diaPerm_mem hm
    obtain ⟨i, hi⟩ : ∃ i : Nat, (ce (essPerm v) t).1 = (i : Int) := ⟨(ce (essPerm v) t).1.toNat, by omega⟩
    obtain ⟨j, hj⟩ : ∃ j : Nat, (ce (essPerm v) t).2 = (j : Int) := ⟨(ce (essPerm v) t).2.toNat, by omega⟩
    have hm2 : ((i : Int), (j : Int)) ∈ diaPerm v := by rw [← hi, ← hj]; exact hm
    have hd := (dia_iff hv h5 i j).1 hm2
    have hvr := hv.range i hd.1
    rw [hi, hj]
    have e1 : ((i : Int) + 1).toNat = i + 1 := by omega
    have e2 : (j : Int) + 1 = ((j + 1 : Nat) : Int) := by omega
    rw [e1, e2]
    exact hp (i + 1) (by omega) (j + 1) (by omega)
  | false =>
    cases hk : keepB v w (essPerm v) (essPerm v).length with
    | false => rfl
    | true =>
      exfalso
      have hall := keepB_all _ hk
      have hnp : ¬ belowP v w v.length := by
        intro hp
        unfold belowPerm at hb
        rw [isPermB_true hv, isPermB_true hw, belowB_true hp, decide_eq_true hl.symm] at hb
        cases hb
      apply hnp
      intro r hr x hx
      rcases Nat.lt_or_ge (rankN v (x : Int) r) (rankN w (x : Int) r) with h | h
      · obtain ⟨i, j, hd, hj, hvio⟩ := to_dia hv hw hl h5 (r + x) r x rfl hr hx h
        have hr2 := diaPerm_mem hd
        obtain ⟨i', j', he, hvio2⟩ := to_ess hv hw h5 (20 - (i + j)) i j (by dsimp only at hr2; omega) hd hvio
        obtain ⟨t, ht, e⟩ := List.getElem_of_mem he
        have h3 := hall t ht
        rw [ce_get ht, e] at h3
        have e1 : ((i' : Int) + 1).toNat = i' + 1 := by omega
        simp only [e1] at h3
        omega
      · exact h
theorem ess_at {v : List Int} (hv : isPermP v) (h5 : v.length ≤ 5) {t : Nat} (ht : t < (essPerm v).length) : ∃ i j : Nat, ce (essPerm v) t = ((i : Int), (j : Int)) ∧ i + 1 ≤ v.length ∧ j + 1 ≤ v.length := by
  have hm : ce (essPerm v) t ∈ diaPerm v := essL_sub _ (Nat.le_refl _) (ce_mem ht)
  have hr := diaPerm_mem hm
  obtain ⟨i, hi⟩ : ∃ i : Nat, (ce (essPerm v) t).1 = (i : Int) := ⟨(ce (essPerm v) t).1.toNat, by omega⟩
  obtain ⟨j, hj⟩ : ∃ j : Nat, (ce (essPerm v) t).2 = (j : Int) := ⟨(ce (essPerm v) t).2.toNat, by omega⟩
  have e : ce (essPerm v) t = ((i : Int), (j : Int)) := by rw [← hi, ← hj]
  have hm2 : ((i : Int), (j : Int)) ∈ diaPerm v := by rw [← e]; exact hm
  have hd := (dia_iff hv h5 i j).1 hm2
  have hvr := hv.range i hd.1
  exact ⟨i, j, e, by omega, by omega⟩
theorem keepB_next {v w : List Int} {t i j : Nat} (e : ce (essPerm v) t = ((i : Int), (j : Int))) : keepB v w (essPerm v) (t + 1) = (keepB v w (essPerm v) t && decide (rankN w ((j : Int) + 1) (i + 1) ≤ rankN v ((j : Int) + 1) (i + 1))) := by
  show (keepB v w (essPerm v) t && _) = _
  have e1 : ((i : Int) + 1).toNat = i + 1 := by omega
  rw [e]
  simp only [e1]
theorem rank_cell {xs : List Int} (h : isPermP xs) {i j : Nat} (hi : i + 1 ≤ xs.length) (hj : j + 1 ≤ xs.length) : rankPerm xs ((i : Int) + 1) ((j : Int) + 1) = (rankN xs ((j : Int) + 1) (i + 1) : Int) := by
  have := rankPerm_yes (xs := xs) (r := i + 1) (c := (j : Int) + 1) (isPermB_true h) (by omega) (by omega) (by omega)
  rw [← this]; congr 1
theorem rank_full {xs : List Int} (h : isPermP xs) : rankPerm xs (xs.length : Int) (xs.length : Int) = (xs.length : Int) := by
  have key : ∀ r, r ≤ xs.length → rankN xs (xs.length : Int) r = r := by
    intro r
    induction r with
    | zero => intro _; rfl
    | succ r ih => intro hr; rw [rankN_hit (by have := h.range r (by omega); omega), ih (by omega)]
  rw [rankPerm_yes (isPermB_true h) (by omega) (by omega) (by omega), key _ (Nat.le_refl _)]
end Go.Proofs.Ytjlpplghdhjdfaa
