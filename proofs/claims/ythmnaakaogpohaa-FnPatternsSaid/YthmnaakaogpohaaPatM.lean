/-
  Patterns: a choice that fits is a set of places whose flattened permutation is the pattern (plain lemmas). Conditions: at most seven numbers each.
-/
import Derived.Test.YthmnaakaogpohaaPatS
import Derived.Test.YthmnaakaogpohaaPermImpl
namespace Go.Proofs.Ythmnaakaogpohaa
open Go.RowKit

def nn (is : List Nat) (k : Nat) : Nat := is.getD k 0
theorem nn_get {is : List Nat} {k : Nat} (h : k < is.length) : nn is k = is[k] := by simp [nn, List.getD, h]
theorem nn_take {is : List Nat} {k : Nat} (h : k < is.length) : is.take (k + 1) = is.take k ++ [nn is k] := by
  rw [List.take_succ_eq_append_getElem h, nn_get h]
theorem nn_mem {is : List Nat} {k : Nat} (h : k < is.length) : nn is k ∈ is := by rw [nn_get h]; exact List.getElem_mem h
theorem nth_app_lt {xs ys : List Int} {k : Nat} (h : k < xs.length) : nth (xs ++ ys) k = nth xs k := by simp [nth, List.getD, List.getElem?_append, h]
theorem nth_map_nn {ws : List Int} {is : List Nat} {k : Nat} (h : k < is.length) : nth (is.map (nth ws)) k = nth ws (nn is k) := by
  rw [nth_get (by simpa using h), List.getElem_map, nn_get h]

theorem fitN_iff {ps ch : List Int} {x : Int} : ∀ t, fitN ps ch x t = true ↔ ∀ j, j < t → (nth ch j < x ↔ nth ps j < nth ps ch.length)
  | 0 => by simp [fitN]
  | t + 1 => by
    show ((fitN ps ch x t && (decide (nth ch t < x) == decide (nth ps t < nth ps ch.length))) = true) ↔ _
    rw [Bool.and_eq_true, fitN_iff t, beq_iff_eq, decide_eq_decide]
    constructor
    · rintro ⟨h1, h2⟩ j hj
      rcases Nat.lt_or_ge j t with h | h
      · exact h1 j h
      · obtain rfl : j = t := by omega
        exact h2
    · intro h
      exact ⟨fun j hj => h j (by omega), h t (by omega)⟩

/-- What a choice is that goes on from the chosen ones, from place a. -/
def goesOn (ws ps ch : List Int) (a : Nat) (is : List Nat) : Prop :=
  ch.length + is.length = ps.length ∧ is.Pairwise (· < ·) ∧ (∀ i ∈ is, a ≤ i ∧ i < ws.length) ∧
    ∀ t, t < is.length → ∀ j, j < ch.length + t → (nth (ch ++ is.map (nth ws)) j < nth ws (nn is t) ↔ nth ps j < nth ps (ch.length + t))
theorem goesOn_cons {ws ps ch : List Int} {a i : Nat} {is : List Nat} (h0 : a ≤ i) (h1 : i < ws.length) (h2 : fitN ps ch (nth ws i) ch.length = true) (h : goesOn ws ps (ch ++ [nth ws i]) (i + 1) is) : goesOn ws ps ch a (i :: is) := by
  obtain ⟨g1, g2, g3, g4⟩ := h
  refine ⟨by simp at g1 ⊢; omega, List.pairwise_cons.2 ⟨fun b hb => by have := (g3 b hb).1; omega, g2⟩, ?_, ?_⟩
  · intro b hb
    rcases List.mem_cons.1 hb with rfl | hb
    · exact ⟨h0, h1⟩
    · have := g3 b hb; omega
  · intro t ht j hj
    have e : ch ++ (i :: is).map (nth ws) = (ch ++ [nth ws i]) ++ is.map (nth ws) := by simp
    cases t with
    | zero =>
      have e2 : nn (i :: is) 0 = i := rfl
      rw [e2, nth_app_lt (by omega)]
      exact (fitN_iff ch.length).1 h2 j (by omega)
    | succ t =>
      have e2 : nn (i :: is) (t + 1) = nn is t := rfl
      rw [e2, e]
      have := g4 t (by simpa using ht) j (by simp; omega)
      rw [show (ch ++ [nth ws i]).length + t = ch.length + (t + 1) by simp; omega] at this
      exact this
theorem goesOn_split {ws ps ch : List Int} {a i : Nat} {is : List Nat} (h : goesOn ws ps ch a (i :: is)) : a ≤ i ∧ i < ws.length ∧ fitN ps ch (nth ws i) ch.length = true ∧ goesOn ws ps (ch ++ [nth ws i]) (i + 1) is := by
  obtain ⟨g1, g2, g3, g4⟩ := h
  obtain ⟨p1, p2⟩ := List.pairwise_cons.1 g2
  have gi := g3 i List.mem_cons_self
  have e : ch ++ (i :: is).map (nth ws) = (ch ++ [nth ws i]) ++ is.map (nth ws) := by simp
  refine ⟨gi.1, gi.2, (fitN_iff _).2 fun j hj => ?_, by simp at g1 ⊢; omega, p2, fun b hb => ⟨p1 b hb, (g3 b (List.mem_cons_of_mem _ hb)).2⟩, fun t ht j hj => ?_⟩
  · have := g4 0 (by simp) j (by omega)
    rw [nth_app_lt hj] at this
    exact this
  · have := g4 (t + 1) (by simpa using ht) j (by simp at hj; omega)
    rw [e] at this
    rw [show (ch ++ [nth ws i]).length + t = ch.length + (t + 1) by simp; omega]
    exact this
theorem patB_iff {ws ps : List Int} : ∀ f ch a, ch.length ≤ ps.length → ps.length < f + ch.length → (patB ws ps f ch a = true ↔ ∃ is, goesOn ws ps ch a is)
  | 0, ch, a, h1, h2 => by omega
  | f + 1, ch, a, h1, h2 => by
    by_cases hk : ch.length = ps.length
    · rw [patB_full hk]
      exact ⟨fun _ => ⟨[], by simpa using hk, List.Pairwise.nil, fun i hi => by simp at hi, fun t ht => by simp at ht⟩, fun _ => rfl⟩
    · constructor
      · intro h
        have h' : (decide (ch.length = ps.length) || (List.range ws.length).any fun i => decide (a ≤ i) && (fitN ps ch (nth ws i) ch.length && patB ws ps f (ch ++ [nth ws i]) (i + 1))) = true := h
        rw [decide_eq_false hk, Bool.false_or, List.any_eq_true] at h'
        obtain ⟨i, hi, h'⟩ := h'
        rw [Bool.and_eq_true, Bool.and_eq_true] at h'
        obtain ⟨h3, h4, h5⟩ := h'
        obtain ⟨is, his⟩ := (patB_iff f (ch ++ [nth ws i]) (i + 1) (by simp; omega) (by simp; omega)).1 h5
        exact ⟨i :: is, goesOn_cons (of_decide_eq_true h3) (List.mem_range.1 hi) h4 his⟩
      · rintro ⟨is, his⟩
        cases is with
        | nil => exact absurd his.1 (by simpa using hk)
        | cons i is =>
          obtain ⟨h3, h4, h5, h6⟩ := goesOn_split his
          exact patB_hit h3 h4 h5 ((patB_iff f (ch ++ [nth ws i]) (i + 1) (by simp; omega) (by simp; omega)).2 ⟨is, h6⟩)

/-- The places in a set, among the first i. -/
def posL (m i : Nat) : List Nat := (List.range i).filter (fun j => m.testBit j)
theorem posL_yes {m i : Nat} (h : m.testBit i = true) : posL m (i + 1) = posL m i ++ [i] := by simp [posL, List.range_succ, h]
theorem posL_no {m i : Nat} (h : m.testBit i = false) : posL m (i + 1) = posL m i := by simp [posL, List.range_succ, h]
theorem posL_le (m : Nat) : ∀ i, (posL m i).length ≤ i
  | 0 => by simp [posL]
  | i + 1 => by
    have := posL_le m i
    cases h : m.testBit i with
    | true => rw [posL_yes h]; simp; omega
    | false => rw [posL_no h]; omega
theorem posL_pre (m i : Nat) : ∀ j, i ≤ j → ∃ r, posL m j = posL m i ++ r
  | 0, h => ⟨[], by obtain rfl : i = 0 := by omega
                    simp⟩
  | j + 1, h => by
    by_cases e : i = j + 1
    · subst e; exact ⟨[], by simp⟩
    · obtain ⟨r, hr⟩ := posL_pre m i j (by omega)
      cases hb : m.testBit j with
      | true => exact ⟨r ++ [j], by rw [posL_yes hb, hr]; simp⟩
      | false => exact ⟨r, by rw [posL_no hb, hr]⟩
theorem posL_at {m i : Nat} (h : m.testBit i = true) (h7 : i < 7) : nn (posL m 7) (posL m i).length = i ∧ (posL m i).length < (posL m 7).length := by
  obtain ⟨r, hr⟩ := posL_pre m (i + 1) 7 (by omega)
  rw [posL_yes h] at hr
  rw [hr]
  constructor
  · simp [nn, List.getD]
  · simp
theorem posL_pair (m i : Nat) : (posL m i).Pairwise (· < ·) := List.Pairwise.filter _ List.pairwise_lt_range
theorem posL_lt {m n : Nat} (hm : m < 2 ^ n) {i : Nat} (hi : i ∈ posL m 7) : i < n := by
  have hb := (List.mem_filter.1 hi).2
  rcases Nat.lt_or_ge i n with h | h
  · exact h
  · have : m.testBit i = false := Nat.testBit_lt_two_pow (Nat.lt_of_lt_of_le hm (Nat.pow_le_pow_right (by omega) h))
    rw [this] at hb; cases hb
/-- Among the first j places, those of the set with less than x. -/
def cntAt (l : List Int) (m : Nat) (x : Int) : Nat → Nat
  | 0 => 0
  | j + 1 => cntAt l m x j + (if m.testBit j = true ∧ nth l j < x then 1 else 0)
theorem cntAt_yes {l : List Int} {m j : Nat} {x : Int} (h : m.testBit j = true) (h' : nth l j < x) : cntAt l m x (j + 1) = cntAt l m x j + 1 := by
  show cntAt l m x j + (if m.testBit j = true ∧ nth l j < x then 1 else 0) = _; rw [if_pos ⟨h, h'⟩]
theorem cntAt_no {l : List Int} {m j : Nat} {x : Int} (h : ¬ (m.testBit j = true ∧ nth l j < x)) : cntAt l m x (j + 1) = cntAt l m x j := by
  show cntAt l m x j + (if m.testBit j = true ∧ nth l j < x then 1 else 0) = _; rw [if_neg h]; rfl
theorem cntAt_le (l : List Int) (m : Nat) (x : Int) : ∀ j, cntAt l m x j ≤ j
  | 0 => Nat.le_refl _
  | j + 1 => by have := cntAt_le l m x j; show cntAt l m x j + (if m.testBit j = true ∧ nth l j < x then 1 else 0) ≤ _; split <;> omega
theorem cntAt_pos (l : List Int) (m : Nat) (x : Int) : ∀ j, cntAt l m x j = (posL m j).countP (fun s => decide (nth l s < x))
  | 0 => by simp [posL, cntAt]
  | j + 1 => by
    have ih := cntAt_pos l m x j
    cases hb : m.testBit j with
    | true =>
      rw [posL_yes hb, List.countP_append, ← ih]
      by_cases h : nth l j < x
      · rw [cntAt_yes hb h]; simp [h]
      · rw [cntAt_no (fun e => h e.2)]; simp [h]
    | false => rw [posL_no hb, cntAt_no (fun e => by rw [hb] at e; cases e.1), ih]
/-- The flattened permutation, as far as the first i places give it. -/
def flatL (l : List Int) (m i : Nat) : List Int := (List.range 7).map fun t => if t < (posL m i).length then (cntAt l m (nth l (nn (posL m 7) t)) 7 : Int) else (t : Int)
theorem flatL_len (l : List Int) (m i : Nat) : (flatL l m i).length = 7 := by simp [flatL]
theorem flatL_nth (l : List Int) (m i : Nat) {t : Nat} (ht : t < 7) : nth (flatL l m i) t = if t < (posL m i).length then (cntAt l m (nth l (nn (posL m 7) t)) 7 : Int) else (t : Int) := by
  rw [nth_get (by rw [flatL_len]; exact ht)]
  simp [flatL]
theorem flatL_zero (l : List Int) (m : Nat) : flatL l m 0 = [0, 1, 2, 3, 4, 5, 6] := by
  simp [flatL, posL, List.range_succ]
theorem flatL_no {l : List Int} {m i : Nat} (h : m.testBit i = false) : flatL l m (i + 1) = flatL l m i := by unfold flatL; rw [posL_no h]
theorem flatL_yes {l : List Int} {m i : Nat} (h : m.testBit i = true) (h7 : i < 7) : flatL l m (i + 1) = (flatL l m i).set (posL m i).length (cntAt l m (nth l i) 7 : Int) := by
  have hat := posL_at h h7
  have hle := posL_le m i
  apply List.ext_getElem (by simp [flatL_len])
  intro t h1 h2
  rw [flatL_len] at h1
  rw [List.getElem_set, ← nth_get, flatL_nth l m (i + 1) h1, posL_yes h]
  by_cases e : (posL m i).length = t
  · rw [if_pos e, if_pos (by simp; omega)]
    subst e
    rw [hat.1]
  · rw [if_neg e, ← nth_get, flatL_nth l m i h1]
    by_cases e2 : t < (posL m i).length
    · rw [if_pos e2, if_pos (by simp; omega)]
    · rw [if_neg e2, if_neg (by simp; omega)]

theorem pm_inj {xs : List Int} (h : isPermP xs) {s t : Nat} (hst : s < t) (ht : t < xs.length) : nth xs s ≠ nth xs t := by
  intro e
  have h3 := (h.2.2 t ht).2.2
  rw [← e] at h3
  have := hasB_hit (xs := xs.take t) (k := s) (by rw [List.length_take]; omega)
  rw [nth_take hst] at this
  rw [this] at h3
  cases h3
theorem pm_ne {xs : List Int} (h : isPermP xs) {s t : Nat} (hst : s ≠ t) (hs : s < xs.length) (ht : t < xs.length) : nth xs s ≠ nth xs t := by
  rcases Nat.lt_or_gt_of_ne hst with h1 | h1
  · exact pm_inj h h1 ht
  · exact fun e => pm_inj h h1 hs e.symm
/-- How many of the first r numbers are below c, how many are c. -/
def pmLt (xs : List Int) (c : Int) : Nat → Nat
  | 0 => 0
  | r + 1 => pmLt xs c r + (if nth xs r < c then 1 else 0)
def pmEq (xs : List Int) (c : Int) : Nat → Nat
  | 0 => 0
  | r + 1 => pmEq xs c r + (if nth xs r = c then 1 else 0)
theorem pmEq_zero {xs : List Int} {c : Int} : ∀ r, (∀ t, t < r → nth xs t ≠ c) → pmEq xs c r = 0
  | 0, _ => rfl
  | r + 1, h => by
    show pmEq xs c r + (if nth xs r = c then 1 else 0) = 0
    rw [pmEq_zero r (fun t ht => h t (by omega)), if_neg (h r (by omega))]
theorem pmEq_one {xs : List Int} (h : isPermP xs) (c : Int) : ∀ r, r ≤ xs.length → pmEq xs c r ≤ 1
  | 0, _ => by simp [pmEq]
  | r + 1, hr => by
    have ih := pmEq_one h c r (by omega)
    show pmEq xs c r + (if nth xs r = c then 1 else 0) ≤ 1
    by_cases e : nth xs r = c
    · rw [pmEq_zero r (fun t ht e2 => pm_inj h ht (by omega) (e2.trans e.symm)), if_pos e]; omega
    · rw [if_neg e]; omega
theorem pmLt_col (xs : List Int) (c : Int) : ∀ r, pmLt xs (c + 1) r = pmLt xs c r + pmEq xs c r
  | 0 => rfl
  | r + 1 => by
    have ih := pmLt_col xs c r
    show pmLt xs (c + 1) r + (if nth xs r < c + 1 then 1 else 0) = pmLt xs c r + (if nth xs r < c then 1 else 0) + (pmEq xs c r + (if nth xs r = c then 1 else 0))
    rw [ih]
    by_cases h1 : nth xs r < c
    · rw [if_pos (by omega), if_pos h1, if_neg (by omega)]; omega
    · by_cases h2 : nth xs r = c
      · rw [if_pos (by omega), if_neg h1, if_pos h2]; omega
      · rw [if_neg (by omega), if_neg h1, if_neg h2]; omega
theorem pmLt_zero (xs : List Int) : ∀ r, (∀ t, t < r → 0 ≤ nth xs t) → pmLt xs 0 r = 0
  | 0, _ => rfl
  | r + 1, h => by
    show pmLt xs 0 r + (if nth xs r < 0 then 1 else 0) = 0
    rw [pmLt_zero xs r (fun t ht => h t (by omega)), if_neg (by have := h r (by omega); omega)]
theorem pmLt_full (xs : List Int) (c : Int) : ∀ r, (∀ t, t < r → nth xs t < c) → pmLt xs c r = r
  | 0, _ => rfl
  | r + 1, h => by
    show pmLt xs c r + (if nth xs r < c then 1 else 0) = r + 1
    rw [pmLt_full xs c r (fun t ht => h t (by omega)), if_pos (h r (by omega))]
/-- In a permutation there are x numbers below x. -/
theorem pmLt_perm {xs : List Int} (h : isPermP xs) (x : Nat) (hx : x ≤ xs.length) : pmLt xs x xs.length = x := by
  have up : ∀ x : Nat, pmLt xs x xs.length ≤ x := by
    intro x
    induction x with
    | zero => rw [show ((0 : Nat) : Int) = 0 from rfl, pmLt_zero xs _ (fun t ht => (h.range t ht).1)]; omega
    | succ x ih => rw [show ((x + 1 : Nat) : Int) = (x : Int) + 1 by omega, pmLt_col]; have := pmEq_one h (x : Int) xs.length (Nat.le_refl _); omega
  have dn : ∀ y x : Nat, pmLt xs ((x + y : Nat) : Int) xs.length ≤ pmLt xs x xs.length + y := by
    intro y
    induction y with
    | zero => intro x; simp
    | succ y ih => intro x; rw [show ((x + (y + 1) : Nat) : Int) = ((x + y : Nat) : Int) + 1 by omega, pmLt_col]; have := pmEq_one h ((x + y : Nat) : Int) xs.length (Nat.le_refl _); have := ih x; omega
  have h1 := up x
  have h2 := dn (xs.length - x) x
  rw [show x + (xs.length - x) = xs.length by omega, pmLt_full xs _ _ (fun t ht => (h.range t ht).2)] at h2
  omega

/-- The numbers at these places are in the order of the pattern. -/
def sameO (ws ps : List Int) (is : List Nat) : Prop := ∀ k, k < ps.length → ∀ j, j < k → (nth ws (nn is j) < nth ws (nn is k) ↔ nth ps j < nth ps k)
theorem goesOn_same {ws ps : List Int} {is : List Nat} : goesOn ws ps [] 0 is ↔ is.length = ps.length ∧ is.Pairwise (· < ·) ∧ (∀ i ∈ is, i < ws.length) ∧ sameO ws ps is := by
  unfold goesOn sameO
  simp only [List.length_nil, Nat.zero_add, List.nil_append, Nat.zero_le, true_and]
  constructor
  · rintro ⟨h1, h2, h3, h4⟩
    refine ⟨h1, h2, h3, fun k hk j hj => ?_⟩
    rw [← h4 k (by omega) j hj, nth_map_nn (by omega)]
  · rintro ⟨h1, h2, h3, h4⟩
    refine ⟨h1, h2, h3, fun t ht j hj => ?_⟩
    rw [nth_map_nn (by omega)]
    exact h4 t (by omega) j hj
theorem same_all {ws ps : List Int} {is : List Nat} (hw : isPermP ws) (hp : isPermP ps) (hl : is.length = ps.length) (hpw : is.Pairwise (· < ·)) (hlt : ∀ i ∈ is, i < ws.length) (hs : sameO ws ps is) {j k : Nat} (hj : j < ps.length) (hk : k < ps.length) :
    (nth ws (nn is j) < nth ws (nn is k) ↔ nth ps j < nth ps k) := by
  have inc : ∀ a b, a < b → b < is.length → nn is a < nn is b := fun a b hab hb => by
    rw [nn_get (by omega), nn_get hb]
    exact List.pairwise_iff_getElem.1 hpw a b (by omega) hb hab
  rcases Nat.lt_trichotomy j k with h | h | h
  · exact hs k hk j h
  · subst h; simp
  · have h1 := hs j hj k h
    have h2 := pm_ne hw (s := nn is j) (t := nn is k) (by have := inc k j h (by omega); omega) (hlt _ (nn_mem (by omega))) (hlt _ (nn_mem (by omega)))
    have h3 := pm_ne hp (s := j) (t := k) (by omega) hj hk
    omega
theorem count_same {ws ps : List Int} {is : List Nat} (hw : isPermP ws) (hp : isPermP ps) (hl : is.length = ps.length) (hpw : is.Pairwise (· < ·)) (hlt : ∀ i ∈ is, i < ws.length) (hs : sameO ws ps is) {t : Nat} (ht : t < ps.length) :
    ∀ r, r ≤ ps.length → (is.take r).countP (fun s => decide (nth ws s < nth ws (nn is t))) = pmLt ps (nth ps t) r
  | 0, _ => by simp [pmLt]
  | r + 1, hr => by
    have ih := count_same hw hp hl hpw hlt hs ht r (by omega)
    have ha := same_all hw hp hl hpw hlt hs (j := r) (k := t) (by omega) ht
    rw [nn_take (by omega), List.countP_append, ih]
    show _ = pmLt ps (nth ps t) r + (if nth ps r < nth ps t then 1 else 0)
    by_cases h : nth ps r < nth ps t
    · rw [if_pos h]; simp [ha.2 h]
    · rw [if_neg h]; simp; have := mt ha.1 h; omega
theorem countP_mono {α : Type} {p q : α → Bool} {l : List α} (h : ∀ x ∈ l, p x = true → q x = true) : l.countP p ≤ l.countP q := List.countP_mono_left h
theorem countP_less {p q : Nat → Bool} : ∀ {l : List Nat}, (∀ x ∈ l, p x = true → q x = true) → ∀ {y}, y ∈ l → p y = false → q y = true → l.countP p < l.countP q
  | [], _, _, hy, _, _ => by simp at hy
  | a :: l, h, y, hy, hp, hq => by
    have hm : l.countP p ≤ l.countP q := List.countP_mono_left (fun x hx => h x (List.mem_cons_of_mem _ hx))
    rw [List.countP_cons, List.countP_cons]
    rcases List.mem_cons.1 hy with rfl | hy
    · rw [if_neg (by rw [hp]; simp), if_pos hq]; omega
    · have ih := countP_less (fun x hx => h x (List.mem_cons_of_mem _ hx)) hy hp hq
      have := h a List.mem_cons_self
      by_cases ha : p a = true
      · rw [if_pos ha, if_pos (this ha)]; omega
      · rw [if_neg ha]; split <;> omega
theorem flat_iff {ws ps : List Int} {m : Nat} (hw : isPermP ws) (hp : isPermP ps) (hm : m < 2 ^ ws.length) (hl : (posL m 7).length = ps.length) :
    flatL (fillA ws ws.length) m 7 = fillA ps ps.length ↔ sameO ws ps (posL m 7) := by
  have h7 : ws.length ≤ 7 := hw.2.1
  have h7' : ps.length ≤ 7 := hp.2.1
  have hlt : ∀ i ∈ posL m 7, i < ws.length := fun i hi => posL_lt hm hi
  have hpw := posL_pair m 7
  have fil : ∀ i, i < ws.length → nth (fillA ws ws.length) i = nth ws i := fun i hi => by rw [fillA_nth _ _ _ (by omega), if_pos hi]
  have cnt : ∀ t, t < ps.length → cntAt (fillA ws ws.length) m (nth (fillA ws ws.length) (nn (posL m 7) t)) 7 = (posL m 7).countP (fun s => decide (nth ws s < nth ws (nn (posL m 7) t))) := by
    intro t ht
    rw [cntAt_pos, fil _ (hlt _ (nn_mem (by omega)))]
    apply List.countP_congr
    intro s hs
    rw [fil s (hlt s hs)]
  have key : flatL (fillA ws ws.length) m 7 = fillA ps ps.length ↔ ∀ t, t < ps.length → (((posL m 7).countP (fun s => decide (nth ws s < nth ws (nn (posL m 7) t))) : Nat) : Int) = nth ps t := by
    constructor
    · intro e t ht
      have : nth (flatL (fillA ws ws.length) m 7) t = nth (fillA ps ps.length) t := by rw [e]
      rw [flatL_nth _ _ _ (by omega), if_pos (by omega), cnt t ht, fillA_nth _ _ _ (by omega), if_pos ht] at this
      exact this
    · intro h
      apply List.ext_getElem (by rw [flatL_len, fillA_len])
      intro t h1 h2
      rw [flatL_len] at h1
      rw [← nth_get, ← nth_get, flatL_nth _ _ _ h1, fillA_nth _ _ _ h1, hl]
      by_cases e : t < ps.length
      · rw [if_pos e, if_pos e, cnt t e, h t e]
      · rw [if_neg e, if_neg e]
  rw [key]
  constructor
  · intro h k hk j hj
    have hjk : j < ps.length := by omega
    have hj' := h j hjk
    have hk' := h k hk
    constructor
    · intro hlt2
      have := countP_less (l := posL m 7) (p := fun s => decide (nth ws s < nth ws (nn (posL m 7) j))) (q := fun s => decide (nth ws s < nth ws (nn (posL m 7) k))) (fun x _ hx => by simp at hx ⊢; omega) (nn_mem (k := j) (by omega)) (by simp) (by simpa using hlt2)
      omega
    · intro hps
      rcases Int.lt_or_le (nth ws (nn (posL m 7) j)) (nth ws (nn (posL m 7) k)) with h1 | h1
      · exact h1
      · have := countP_mono (l := posL m 7) (p := fun s => decide (nth ws s < nth ws (nn (posL m 7) k))) (q := fun s => decide (nth ws s < nth ws (nn (posL m 7) j))) (fun x _ hx => by simp at hx ⊢; omega)
        omega
  · intro hs t ht
    have := count_same hw hp hl hpw hlt hs ht ps.length (Nat.le_refl _)
    rw [List.take_of_length_le (by omega)] at this
    rw [this]
    obtain ⟨r0, r1⟩ := hp.range t ht
    have := pmLt_perm hp (nth ps t).toNat (by omega)
    rw [show (((nth ps t).toNat : Nat) : Int) = nth ps t by omega] at this
    omega
theorem set_of7 : ∀ b0 b1 b2 b3 b4 b5 b6 : Bool, ∃ m : Fin 128, (m : Nat).testBit 0 = b0 ∧ (m : Nat).testBit 1 = b1 ∧ (m : Nat).testBit 2 = b2 ∧ (m : Nat).testBit 3 = b3 ∧ (m : Nat).testBit 4 = b4 ∧ (m : Nat).testBit 5 = b5 ∧ (m : Nat).testBit 6 = b6 := by
  intro b0 b1 b2 b3 b4 b5 b6
  cases b0 <;> cases b1 <;> cases b2 <;> cases b3 <;> cases b4 <;> cases b5 <;> cases b6
  all_goals first
    | exact ⟨0, by decide⟩ | exact ⟨1, by decide⟩ | skip
  all_goals decide +kernel
theorem pair_filter : ∀ {n : Nat} {is : List Nat}, is.Pairwise (· < ·) → (∀ i ∈ is, i < n) → (List.range n).filter (fun j => decide (j ∈ is)) = is
  | 0, is, _, h => by
    cases is with
    | nil => rfl
    | cons a is => exact absurd (h a List.mem_cons_self) (by omega)
  | n + 1, is, hp, h => by
    rw [List.range_succ, List.filter_append]
    rcases List.eq_nil_or_concat is with e | ⟨js, x, e⟩
    · subst e; simp
    · rw [List.concat_eq_append] at e
      subst e
      rw [List.pairwise_append] at hp
      obtain ⟨p1, _, p3⟩ := hp
      have hx := h x (by simp)
      have hjs : ∀ j ∈ js, j < x := fun j hj => p3 j hj x (by simp)
      by_cases hxn : x = n
      · subst hxn
        have ih := pair_filter (n := x) (is := js) p1 hjs
        have e1 : (List.range x).filter (fun j => decide (j ∈ js ++ [x])) = (List.range x).filter (fun j => decide (j ∈ js)) := by
          apply List.filter_congr
          intro j hj
          have := List.mem_range.1 hj
          simp; omega
        rw [e1, ih]; simp
      · have ih := pair_filter (n := n) (is := js ++ [x]) (List.pairwise_append.2 ⟨p1, by simp, p3⟩) (fun i hi => by
          rcases List.mem_append.1 hi with hi | hi
          · have := hjs i hi; omega
          · simp at hi; omega)
        rw [ih]
        have : ¬ (n ∈ js ++ [x]) := by
          intro hm
          rcases List.mem_append.1 hm with hm | hm
          · have := hjs n hm; omega
          · simp at hm; omega
        rw [List.filter_cons_of_neg (by simpa using this)]; simp
theorem bits7 : ∀ j, j < 7 → j = 0 ∨ j = 1 ∨ j = 2 ∨ j = 3 ∨ j = 4 ∨ j = 5 ∨ j = 6 := by omega
theorem set_of {n : Nat} {is : List Nat} (hn : n ≤ 7) (hp : is.Pairwise (· < ·)) (h : ∀ i ∈ is, i < n) : ∃ m, m < 2 ^ n ∧ posL m 7 = is := by
  obtain ⟨m, h0, h1, h2, h3, h4, h5, h6⟩ := set_of7 (decide (0 ∈ is)) (decide (1 ∈ is)) (decide (2 ∈ is)) (decide (3 ∈ is)) (decide (4 ∈ is)) (decide (5 ∈ is)) (decide (6 ∈ is))
  have hb : ∀ j, j < 7 → (m : Nat).testBit j = decide (j ∈ is) := by
    intro j hj
    rcases bits7 j hj with rfl | rfl | rfl | rfl | rfl | rfl | rfl <;> assumption
  have hpos : posL m 7 = is := by
    rw [← pair_filter (n := 7) hp (fun i hi => by have := h i hi; omega)]
    apply List.filter_congr
    intro j hj
    have hj := List.mem_range.1 hj
    rw [hb j hj]
  refine ⟨m, ?_, hpos⟩
  apply Nat.lt_pow_two_of_testBit
  intro j hj
  rcases Nat.lt_or_ge j 7 with h' | h'
  · rw [hb j h']
    simp
    intro hm
    have := h j hm; omega
  · exact Nat.testBit_lt_two_pow (Nat.lt_of_lt_of_le m.isLt (Nat.pow_le_pow_right (n := 2) (by omega) h'))
/-- A pattern is found just if there is a set of places whose flattened permutation is the pattern. -/
theorem hasPB_iff {ws ps : List Int} (hw : isPermB ws = true) (hp : isPermB ps = true) :
    hasPB ws ps = true ↔ ∃ m, m < 2 ^ ws.length ∧ (posL m 7).length = ps.length ∧ flatL (fillA ws ws.length) m 7 = fillA ps ps.length := by
  have hw' := isPermB_P hw
  have hp' := isPermB_P hp
  rw [hasPB_3 hw hp, patB_iff _ _ _ (by simp) (by simp)]
  constructor
  · rintro ⟨is, his⟩
    obtain ⟨h1, h2, h3, h4⟩ := goesOn_same.1 his
    obtain ⟨m, hm, e⟩ := set_of hw'.2.1 h2 h3
    subst e
    exact ⟨m, hm, h1, (flat_iff hw' hp' hm h1).2 h4⟩
  · rintro ⟨m, hm, hl, e⟩
    exact ⟨posL m 7, goesOn_same.2 ⟨hl, posL_pair m 7, fun i hi => posL_lt hm hi, (flat_iff hw' hp' hm hl).1 e⟩⟩
end Go.Proofs.Ythmnaakaogpohaa
