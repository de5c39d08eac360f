/-
  Texts CovM to SpaO, merged. Conditions: as each says.
-/
import Derived.Laws.CopyOwn
import Derived.Deep.Cut
import Derived.Deep.RegionHeld3
import Derived.StillTailTactics
import Derived.BigRegion
import Derived.Lib.AppendZerosOnto
import Derived.Test.YtjpoliibljjhnaaPkB1
/-
  What covers a permutation: both orders of looking give one ascending list. No conditions but those named.
-/




namespace Go.Proofs.Ytjpoliibljjhnaa
open Go.RowKit

/-- Exchanging two places makes longer by one. -/
def covB (xs : List Int) (i j : Nat) : Bool := decide (lenL (swapL xs i j) = lenL xs + 1)
theorem swapL_inj {xs : List Int} (h : isPermP xs) {i j i' j' : Nat} (hij : i < j) (hj : j < xs.length) (hij' : i' < j') (hj' : j' < xs.length) (e : swapL xs i j = swapL xs i' j') : i = i' ∧ j = j' := by
  have hi : nth (swapL xs i j) i = nth (swapL xs i' j') i := by rw [e]
  have hk : nth (swapL xs i j) j = nth (swapL xs i' j') j := by rw [e]
  rw [swapL_nth (by omega) hj (by omega), swapL_nth (by omega) hj' (by omega)] at hi hk
  rw [if_neg (by omega), if_pos rfl] at hi
  rw [if_pos rfl] at hk
  have hne : nth xs i ≠ nth xs j := pp_ne h hij hj
  have h1 : i = i' ∨ i = j' := by
    by_cases a : i = j'
    · exact .inr a
    · by_cases b : i = i'
      · exact .inl b
      · rw [if_neg a, if_neg b] at hi; exact absurd hi.symm hne
  have h2 : j = i' ∨ j = j' := by
    by_cases a : j = j'
    · exact .inr a
    · by_cases b : j = i'
      · exact .inl b
      · rw [if_neg a, if_neg b] at hk; exact absurd hk hne
  omega
/-- The program's order: the second place outside, the first one inside. -/
def covR (xs : List Int) (j : Nat) : Nat → List (List Int)
  | 0 => []
  | i + 1 => if covB xs i j = true then covR xs j i ++ [swapL xs i j] else covR xs j i
def covJ (xs : List Int) : Nat → List (List Int)
  | 0 => []
  | j + 1 => covJ xs j ++ covR xs j j
theorem covR_mem {xs : List Int} {j : Nat} {z : List Int} : ∀ i, z ∈ covR xs j i ↔ ∃ s, s < i ∧ covB xs s j = true ∧ z = swapL xs s j
  | 0 => by simp [covR]
  | i + 1 => by
    unfold covR
    by_cases hc : covB xs i j = true
    · rw [if_pos hc, List.mem_append, covR_mem i, List.mem_singleton]
      constructor
      · rintro (⟨s, h1, h2, h3⟩ | h)
        · exact ⟨s, by omega, h2, h3⟩
        · exact ⟨i, by omega, hc, h⟩
      · rintro ⟨s, h1, h2, h3⟩
        by_cases e : s = i
        · subst e; exact .inr h3
        · exact .inl ⟨s, by omega, h2, h3⟩
    · rw [if_neg hc, covR_mem i]
      constructor
      · rintro ⟨s, h1, h2, h3⟩; exact ⟨s, by omega, h2, h3⟩
      · rintro ⟨s, h1, h2, h3⟩
        have : s ≠ i := fun e => hc (e ▸ h2)
        exact ⟨s, by omega, h2, h3⟩
theorem covJ_mem {xs z : List Int} : ∀ j, z ∈ covJ xs j ↔ ∃ s t, s < t ∧ t < j ∧ covB xs s t = true ∧ z = swapL xs s t
  | 0 => by simp [covJ]
  | j + 1 => by
    unfold covJ
    rw [List.mem_append, covJ_mem j, covR_mem]
    constructor
    · rintro (⟨s, t, h1, h2, h3, h4⟩ | ⟨s, h1, h2, h3⟩)
      · exact ⟨s, t, h1, by omega, h3, h4⟩
      · exact ⟨s, j, h1, by omega, h2, h3⟩
    · rintro ⟨s, t, h1, h2, h3, h4⟩
      by_cases e : t = j
      · subst e; exact .inr ⟨s, h1, h3, h4⟩
      · exact .inl ⟨s, t, h1, by omega, h3, h4⟩
theorem covR_nodup {xs : List Int} (h : isPermP xs) {j : Nat} (hj : j < xs.length) : ∀ i, i ≤ j → (covR xs j i).Nodup
  | 0, _ => by simp [covR]
  | i + 1, hi => by
    unfold covR
    split
    · rw [List.nodup_append]
      refine ⟨covR_nodup h hj i (by omega), by simp, fun a ha b hb e => ?_⟩
      rw [List.mem_singleton] at hb
      obtain ⟨s, h1, _, h3⟩ := (covR_mem i).1 ha
      have := swapL_inj h (show s < j by omega) hj (show i < j by omega) hj (by rw [← h3, ← hb, e])
      omega
    · exact covR_nodup h hj i (by omega)
theorem covJ_nodup {xs : List Int} (h : isPermP xs) : ∀ j, j ≤ xs.length → (covJ xs j).Nodup
  | 0, _ => by simp [covJ]
  | j + 1, hj => by
    unfold covJ
    rw [List.nodup_append]
    refine ⟨covJ_nodup h j (by omega), covR_nodup h (by omega) j (Nat.le_refl _), fun a ha b hb e => ?_⟩
    obtain ⟨s, t, h1, h2, _, h4⟩ := (covJ_mem j).1 ha
    obtain ⟨s', h1', _, h3'⟩ := (covR_mem j).1 hb
    have := swapL_inj h h1 (by omega) h1' (by omega) (by rw [← h4, ← h3', e])
    omega
theorem covR_len (xs : List Int) (j : Nat) : ∀ i, (covR xs j i).length ≤ i
  | 0 => by simp [covR]
  | i + 1 => by have := covR_len xs j i; unfold covR; split <;> simp <;> omega
theorem covJ_len (xs : List Int) : ∀ j, (covJ xs j).length ≤ j * j
  | 0 => by simp [covJ]
  | j + 1 => by
    have h1 := covJ_len xs j
    have h2 := covR_len xs j j
    unfold covJ
    rw [List.length_append, Nat.mul_add, Nat.add_mul]
    omega
/-- The document's order: the first place outside, each list put in where it belongs. -/
def covI (xs : List Int) (acc : List (List Int)) (i : Nat) : Nat → List (List Int)
  | 0 => acc
  | t + 1 => if covB xs i (i + 1 + t) = true then insU (covI xs acc i t) (swapL xs i (i + 1 + t)) else covI xs acc i t
def covO (xs : List Int) : Nat → List (List Int)
  | 0 => []
  | i + 1 => covI xs (covO xs i) i (xs.length - (i + 1))
theorem covI_asc {xs : List Int} {acc : List (List Int)} (h : AscL acc) (i : Nat) : ∀ t, AscL (covI xs acc i t)
  | 0 => h
  | t + 1 => by
    unfold covI
    split
    · exact (covI_asc h i t).ins
    · exact covI_asc h i t
theorem covO_asc (xs : List Int) : ∀ i, AscL (covO xs i)
  | 0 => AscL.nil
  | i + 1 => covI_asc (covO_asc xs i) i _
theorem covI_mem {xs : List Int} {acc : List (List Int)} {i : Nat} {z : List Int} : ∀ t, z ∈ covI xs acc i t ↔ z ∈ acc ∨ ∃ s, s < t ∧ covB xs i (i + 1 + s) = true ∧ z = swapL xs i (i + 1 + s)
  | 0 => by simp [covI]
  | t + 1 => by
    unfold covI
    by_cases hc : covB xs i (i + 1 + t) = true
    · rw [if_pos hc, insU_mem, covI_mem t]
      constructor
      · rintro (h | h | ⟨s, h1, h2, h3⟩)
        · exact .inr ⟨t, by omega, hc, h⟩
        · exact .inl h
        · exact .inr ⟨s, by omega, h2, h3⟩
      · rintro (h | ⟨s, h1, h2, h3⟩)
        · exact .inr (.inl h)
        · by_cases e : s = t
          · subst e; exact .inl h3
          · exact .inr (.inr ⟨s, by omega, h2, h3⟩)
    · rw [if_neg hc, covI_mem t]
      constructor
      · rintro (h | ⟨s, h1, h2, h3⟩)
        · exact .inl h
        · exact .inr ⟨s, by omega, h2, h3⟩
      · rintro (h | ⟨s, h1, h2, h3⟩)
        · exact .inl h
        · have : s ≠ t := fun e => hc (e ▸ h2)
          exact .inr ⟨s, by omega, h2, h3⟩
theorem covO_mem {xs z : List Int} : ∀ i, i ≤ xs.length → (z ∈ covO xs i ↔ ∃ s t, s < t ∧ s < i ∧ t < xs.length ∧ covB xs s t = true ∧ z = swapL xs s t)
  | 0, _ => by simp [covO]
  | i + 1, hi => by
    unfold covO
    rw [covI_mem, covO_mem i (by omega)]
    constructor
    · rintro (⟨s, t, h1, h2, h3, h4, h5⟩ | ⟨s, h1, h2, h3⟩)
      · exact ⟨s, t, h1, by omega, h3, h4, h5⟩
      · exact ⟨i, i + 1 + s, by omega, by omega, by omega, h2, h3⟩
    · rintro ⟨s, t, h1, h2, h3, h4, h5⟩
      by_cases e : s = i
      · subst e
        exact .inr ⟨t - (s + 1), by omega, by rw [show s + 1 + (t - (s + 1)) = t by omega]; exact h4, by rw [show s + 1 + (t - (s + 1)) = t by omega]; exact h5⟩
      · exact .inl ⟨s, t, h1, by omega, h3, h4, h5⟩
theorem covI_len (xs : List Int) (acc : List (List Int)) (i : Nat) : ∀ t, (covI xs acc i t).length ≤ acc.length + t
  | 0 => by simp [covI]
  | t + 1 => by
    have := covI_len xs acc i t
    unfold covI
    split
    · have := insU_len (covI xs acc i t) (swapL xs i (i + 1 + t)); omega
    · omega
theorem covO_len (xs : List Int) : ∀ i, (covO xs i).length ≤ i * xs.length
  | 0 => by simp [covO]
  | i + 1 => by
    have h1 := covO_len xs i
    have h2 := covI_len xs (covO xs i) i (xs.length - (i + 1))
    unfold covO
    rw [Nat.add_mul]
    omega
/-- Sorted, the program's list is the document's. -/
theorem cov_sorted {xs : List Int} {us : List (List Int)} (h : isPermP xs) (hp : us.Perm (covJ xs xs.length)) (hs : us.Pairwise fun a b => 0 ≤ cmpL b a) : us = covO xs xs.length := by
  refine AscL.uniq (AscL.sorted hp hs (covJ_nodup h _ (Nat.le_refl _))) (covO_asc xs _) fun z => ?_
  rw [hp.mem_iff, covJ_mem, covO_mem _ (Nat.le_refl _)]
  constructor
  · rintro ⟨s, t, h1, h2, h3, h4⟩; exact ⟨s, t, h1, by omega, h2, h3, h4⟩
  · rintro ⟨s, t, h1, h2, h3, h4, h5⟩; exact ⟨s, t, h1, h3, h4, h5⟩
/-- Each list is as long as the permutation. -/
theorem covJ_row {xs z : List Int} {j : Nat} (h : z ∈ covJ xs j) : z.length = xs.length := by
  obtain ⟨s, t, _, _, _, e⟩ := (covJ_mem j).1 h
  rw [e, swapL_len]
theorem covO_row {xs z : List Int} {i : Nat} (hi : i ≤ xs.length) (h : z ∈ covO xs i) : z.length = xs.length := by
  obtain ⟨s, t, _, _, _, _, e⟩ := (covO_mem i hi).1 h
  rw [e, swapL_len]
theorem covI_row {xs z : List Int} {i t : Nat} (hi : i ≤ xs.length) (h : z ∈ covI xs (covO xs i) i t) : z.length = xs.length := by
  rcases (covI_mem t).1 h with h | ⟨s, _, _, e⟩
  · exact covO_row hi h
  · rw [e, swapL_len]
theorem li_len_of {ls : List (List Int)} {m : Nat} (h : ∀ z ∈ ls, z.length ≤ m) (k : Nat) : (li ls k).length ≤ m := by
  by_cases hk : k < ls.length
  · rw [li_get hk]; exact h _ (List.getElem_mem hk)
  · have : li ls k = [] := by simp [li, List.getD, List.getElem?_eq_none (Nat.le_of_not_lt hk)]
    rw [this]; simp
theorem covO_few {xs : List Int} (h7 : xs.length ≤ 7) {i t : Nat} (hi : i ≤ 7) (ht : t ≤ 7) : (covO xs i).length ≤ 49 ∧ (covI xs (covO xs i) i t).length ≤ 56 := by
  have h1 := covO_len xs i
  have h2 := covI_len xs (covO xs i) i t
  have h3 : i * xs.length ≤ 7 * 7 := Nat.mul_le_mul hi h7
  omega
def covers (xs : List Int) : List (List Int) := if isPermB xs = true then covO xs xs.length else []
/-- Those of one second place (put in one after the other; sorted). -/
def covQ (xs : List Int) (r : Nat) : Nat → List (List Int)
  | 0 => []
  | q + 1 => if covB xs q r = true then insU (covQ xs r q) (swapL xs q r) else covQ xs r q
theorem covQ_asc (xs : List Int) (r : Nat) : ∀ q, AscL (covQ xs r q)
  | 0 => AscL.nil
  | q + 1 => by
    unfold covQ
    split
    · exact (covQ_asc xs r q).ins
    · exact covQ_asc xs r q
theorem covQ_mem {xs : List Int} {r : Nat} {z : List Int} : ∀ i, z ∈ covQ xs r i ↔ z ∈ covR xs r i
  | 0 => by simp [covQ, covR]
  | i + 1 => by
    unfold covQ covR
    split
    · rw [insU_mem, covQ_mem i, List.mem_append, List.mem_singleton]; exact or_comm
    · exact covQ_mem i
theorem covQ_len (xs : List Int) (r : Nat) : ∀ q, (covQ xs r q).length ≤ q
  | 0 => by simp [covQ]
  | q + 1 => by
    have := covQ_len xs r q
    unfold covQ
    split
    · have := insU_len (covQ xs r q) (swapL xs q r); omega
    · omega
theorem covQ_sorted {xs : List Int} {us : List (List Int)} {r : Nat} (h : isPermP xs) (hr : r < xs.length) (hp : us.Perm (covR xs r r)) (hs : us.Pairwise fun a b => 0 ≤ cmpL b a) : us = covQ xs r r := by
  refine AscL.uniq (AscL.sorted hp hs (covR_nodup h hr _ (Nat.le_refl _))) (covQ_asc xs r _) fun z => ?_
  rw [hp.mem_iff, covQ_mem]
theorem covers_no {xs : List Int} (h : isPermB xs = false) : covers xs = [] := by unfold covers; rw [if_neg (by rw [h]; decide)]
theorem covers_yes {xs : List Int} (h : isPermB xs = true) : covers xs = covO xs xs.length := by unfold covers; rw [if_pos h]
theorem covers_short (xs : List Int) : ShortL (covers xs) := by
  cases h : isPermB xs with
  | false => rw [covers_no h]; exact ShortL.of (by simp) (by simp)
  | true =>
    have h7 := (isPermB_P h).2.1
    rw [covers_yes h]
    exact ShortL.of (by have := (covO_few h7 h7 (Nat.zero_le 7)).1; omega) (fun z hz => by rw [covO_row (Nat.le_refl _) hz]; omega)
end Go.Proofs.Ytjpoliibljjhnaa

/-
  A transition of a permutation: the model. No conditions but those named.
-/


namespace Go.Proofs.Ytjpoliibljjhnaa
open Go.RowKit

/-- The last of the first k places with a number below v. -/
def lastLt (xs : List Int) (v : Int) : Nat → Nat
  | 0 => 0
  | k + 1 => if nth xs k < v then k else lastLt xs v k
theorem lastLt_hit {xs : List Int} {v : Int} {k : Nat} (h : nth xs k < v) : lastLt xs v (k + 1) = k := by unfold lastLt; rw [if_pos h]
theorem lastLt_miss {xs : List Int} {v : Int} {k : Nat} (h : ¬ nth xs k < v) : lastLt xs v (k + 1) = lastLt xs v k := by rw [lastLt, if_neg h]
theorem lastLt_ge {xs : List Int} {v : Int} {j : Nat} (h : nth xs j < v) : ∀ k, j < k → j ≤ lastLt xs v k ∧ lastLt xs v k < k
  | 0, hj => absurd hj (by omega)
  | k + 1, hj => by
    by_cases hk : nth xs k < v
    · rw [lastLt_hit hk]; omega
    · rw [lastLt_miss hk]
      have : j ≠ k := fun e => hk (e ▸ h)
      have := lastLt_ge h k (by omega)
      omega
def trR (xs : List Int) : Nat := (nth (descPerm xs) ((descPerm xs).length - 1)).toNat
def trS (xs : List Int) : Nat := lastLt xs (nth xs (trR xs)) xs.length
def trB (xs : List Int) : Bool := !(descPerm xs).isEmpty
def trV (xs : List Int) : List Int := if trB xs = true then swapL xs (trR xs) (trS xs) else []
def trO (xs : List Int) : List (List Int) := if trB xs = true then covQ (swapL xs (trR xs) (trS xs)) (trR xs) (trR xs) else []
def trK (xs : List Int) : Int := if trB xs = true then ((trR xs : Nat) : Int) else 0
theorem tr_no {xs : List Int} (h : trB xs = false) : trV xs = [] ∧ trO xs = [] ∧ trK xs = 0 := by simp [trV, trO, trK, h]
theorem tr_yes {xs : List Int} (h : trB xs = true) : trV xs = swapL xs (trR xs) (trS xs) ∧ trO xs = covQ (swapL xs (trR xs) (trS xs)) (trR xs) (trR xs) ∧ trK xs = ((trR xs : Nat) : Int) := by simp [trV, trO, trK, h]
theorem trB_len {xs : List Int} : trB xs = false ↔ (descPerm xs).length = 0 := by
  unfold trB
  cases descPerm xs <;> simp
theorem tr_facts {xs : List Int} (h : trB xs = true) : isPermP xs ∧ nth (descPerm xs) ((descPerm xs).length - 1) = (trR xs : Int) ∧ trR xs + 1 < xs.length ∧ nth xs (trR xs + 1) < nth xs (trR xs) := by
  have hl : (descPerm xs).length ≠ 0 := fun e => by rw [trB_len.2 e] at h; cases h
  cases hp : isPermB xs with
  | false => rw [descPerm_no hp] at hl; exact absurd rfl hl
  | true =>
    have hm := descL_mem xs (xs.length - 1) ((descPerm xs).length - 1) (by rw [← descPerm_yes hp]; omega)
    rw [← descPerm_yes hp] at hm
    obtain ⟨i, h1, h2, h3⟩ := hm
    have e : trR xs = i := by unfold trR; rw [h2]; omega
    rw [e]
    exact ⟨isPermB_P hp, h2, by omega, h3⟩
theorem trS_facts {xs : List Int} (h : trB xs = true) : trR xs < trS xs ∧ trS xs < xs.length := by
  obtain ⟨_, _, h2, h3⟩ := tr_facts h
  have := lastLt_ge h3 xs.length h2
  unfold trS
  omega
theorem covQ_row {xs z : List Int} {r q : Nat} (h : z ∈ covQ xs r q) : z.length = xs.length := by
  obtain ⟨s, _, _, e⟩ := (covR_mem q).1 ((covQ_mem q).1 h)
  rw [e, swapL_len]
theorem covR_row {xs z : List Int} {r q : Nat} (h : z ∈ covR xs r q) : z.length = xs.length := by
  obtain ⟨s, _, _, e⟩ := (covR_mem q).1 h
  rw [e, swapL_len]
theorem drewN_belowT {w wr : World} (h : Below w.heap.size w wr) (m : Nat) : Below w.heap.size w (wr.drewN m) := h.trans (((Drawn.refl wr).drewN m).below _)
/-- What a call with a number, a list, a list of lists and a yes or no hands back. -/
def FreshKV (w w' : World) (e : Ending) (k : Int) (vs : List Int) (ls : List (List Int)) (b : Bool) : Prop :=
  ∃ A n c A2 n2 c2, e = .returned (.tuple #[.int .i64 k, .slice A n c, .slice A2 n2 c2, .bool b]) ∧ Own w' w.heap.size w'.heap.size A n c vs ∧ OwnL w' w.heap.size w'.heap.size A2 n2 c2 ls ∧ Below w.heap.size w w'
/-- .. the list of lists before the list. -/
def FreshKVD (w w' : World) (e : Ending) (k : Int) (vs : List Int) (ls : List (List Int)) (b : Bool) : Prop :=
  ∃ A n c A2 n2 c2 mid, e = .returned (.tuple #[.int .i64 k, .slice A n c, .slice A2 n2 c2, .bool b]) ∧ OwnL w' w.heap.size mid A2 n2 c2 ls ∧ Own w' mid w'.heap.size A n c vs ∧ w.heap.size ≤ mid ∧ mid ≤ w'.heap.size ∧ Below w.heap.size w w' ∧ vs.length ≤ 7 ∧ ls.length ≤ 7 ∧ ∀ z ∈ ls, z.length ≤ 7
end Go.Proofs.Ytjpoliibljjhnaa

/-
  A number inserted into rows: what comes of it (plain lists); one list of a list replaced in memory. Conditions: as each lemma says.
-/


namespace Go.Proofs.Ytjpoliibljjhnaa
open Go.RowKit

/-- The first place with a number above x. -/
def gtN (xs : List Int) (x : Int) : Nat := (xs.takeWhile fun y => decide (y ≤ x)).length
theorem gtN_le (xs : List Int) (x : Int) : gtN xs x ≤ xs.length := (List.takeWhile_sublist _).length_le
theorem gtN_is {x : Int} : ∀ (xs : List Int) (k : Nat), k ≤ xs.length → (∀ j, j < k → nth xs j ≤ x) → (k = xs.length ∨ ¬ nth xs k ≤ x) → gtN xs x = k
  | [], k, hk, _, _ => by
    have : k = 0 := by simpa using hk
    subst this; rfl
  | y :: r, 0, _, _, h2 => by
    rcases h2 with h | h
    · simp at h
    · have h' : ¬ y ≤ x := h
      simp [gtN, h']
  | y :: r, k + 1, hk, h1, h2 => by
    have h0 : y ≤ x := h1 0 (by omega)
    have hS : ∀ j, nth (y :: r) (j + 1) = nth r j := fun j => by simp [nth, List.getD]
    have ih := gtN_is r k (by simpa using hk) (fun j hj => by have := h1 (j + 1) (by omega); rwa [hS] at this) (by
      rcases h2 with h | h
      · exact .inl (by simpa using h)
      · exact .inr (by rwa [hS] at h))
    have e : gtN (y :: r) x = gtN r x + 1 := by simp [gtN, h0]
    rw [e, ih]
/-- The number that is inserted into row i. -/
def xI (ls : List (List Int)) (x : Int) : Nat → Int
  | 0 => x
  | i + 1 => nth (li ls i) (gtN (li ls i) (xI ls x i))
/-- The rows when i of them have been gone through. -/
def rI (ls : List (List Int)) (x : Int) : Nat → List (List Int)
  | 0 => ls
  | i + 1 => (rI ls x i).set i ((li ls i).set (gtN (li ls i) (xI ls x i)) (xI ls x i))
theorem rI_len (ls : List (List Int)) (x : Int) : ∀ i, (rI ls x i).length = ls.length
  | 0 => rfl
  | i + 1 => by simp [rI, rI_len ls x i]
theorem rI_li {ls : List (List Int)} {x : Int} : ∀ {i j : Nat}, i ≤ j → i ≤ ls.length → li (rI ls x i) j = li ls j
  | 0, j, _, _ => rfl
  | i + 1, j, h, hl => by
    show li ((rI ls x i).set i _) j = _
    rw [li_set (by rw [rI_len]; omega), if_neg (by omega)]
    exact rI_li (by omega) (by omega)
def goesI (ls : List (List Int)) (x : Int) (j : Nat) : Prop := gtN (li ls j) (xI ls x j) < (li ls j).length
/-- What inserting leaves, and the row that has grown. -/
def InsIs (ls : List (List Int)) (x : Int) (out : List (List Int)) (row : Nat) : Prop :=
  (row < ls.length ∧ (∀ j, j < row → goesI ls x j) ∧ ¬ goesI ls x row ∧ out = (rI ls x row).set row (li ls row ++ [xI ls x row])) ∨ (row = ls.length ∧ (∀ j, j < row → goesI ls x j) ∧ out = rI ls x row ++ [[xI ls x row]])
def insK (ls : List (List Int)) (x : Int) : Nat → Nat → Nat
  | 0, i => i
  | f + 1, i => if i < ls.length ∧ gtN (li ls i) (xI ls x i) < (li ls i).length then insK ls x f (i + 1) else i
def insRow (ls : List (List Int)) (x : Int) : Nat := insK ls x ls.length 0
def insOut (ls : List (List Int)) (x : Int) : List (List Int) :=
  if insRow ls x < ls.length then (rI ls x (insRow ls x)).set (insRow ls x) (li ls (insRow ls x) ++ [xI ls x (insRow ls x)]) else rI ls x (insRow ls x) ++ [[xI ls x (insRow ls x)]]
theorem insK_is {ls : List (List Int)} {x : Int} {row : Nat} (hr : row ≤ ls.length) (h1 : ∀ j, j < row → goesI ls x j) (h2 : row = ls.length ∨ ¬ goesI ls x row) : ∀ f i, i ≤ row → row ≤ i + f → insK ls x f i = row
  | 0, i, hi, hf => by show i = row; omega
  | f + 1, i, hi, hf => by
    unfold insK
    by_cases e : i = row
    · subst e
      rw [if_neg]
      rintro ⟨a, b⟩
      rcases h2 with h | h
      · omega
      · exact h b
    · rw [if_pos ⟨by omega, h1 i (by omega)⟩]
      exact insK_is hr h1 h2 f (i + 1) (by omega) (by omega)
theorem ins_is {ls : List (List Int)} {x : Int} {out : List (List Int)} {row : Nat} (h : InsIs ls x out row) : insRow ls x = row ∧ insOut ls x = out := by
  have e : insRow ls x = row := by
    rcases h with ⟨a, b, c, _⟩ | ⟨a, b, _⟩
    · exact insK_is (by omega) b (.inr c) ls.length 0 (by omega) (by omega)
    · exact insK_is (by omega) b (.inl a) ls.length 0 (by omega) (by omega)
  refine ⟨e, ?_⟩
  unfold insOut
  rw [e]
  rcases h with ⟨a, b, c, d⟩ | ⟨a, b, d⟩
  · rw [if_pos a, d]
  · rw [if_neg (by omega), d]
theorem OwnLE.cellAt {E : Nat → Sv} {w : World} {lo hi g n c : Nat} {ls : List (List Int)} (h : OwnLE E w lo hi (some ⟨g, 0, none⟩) n c ls) {k : Nat} (hk : k < n) : w.cell? ⟨g, k, none⟩ = some (sv (E k)) := by
  rw [h.2.1.cellAt k (by omega), heads_get _ hk]
theorem OwnLE.place {E : Nat → Sv} {w : World} {lo hi n c : Nat} {A : Option Addr} {ls : List (List Int)} (h : OwnLE E w lo hi A n c ls) (hn : 0 < n) : ∃ g, A = some ⟨g, 0, none⟩ ∧ lo ≤ g ∧ g < hi :=
  OwnL.place ⟨E, h⟩ hn
theorem Own.row_lt' {w : World} {lo hi n c : Nat} {A : Option Addr} {xs : List Int} (h : Own w lo hi A n c xs) {g : Nat} (hg : rowB A = some g) : lo ≤ g ∧ g < hi := h.lt g (by rw [ownB]; exact hg)
theorem OwnLE.row_lt' {E : Nat → Sv} {w : World} {lo hi n c : Nat} {A : Option Addr} {ls : List (List Int)} (h : OwnLE E w lo hi A n c ls) {g : Nat} (hg : rowB A = some g) : lo ≤ g ∧ g < hi :=
  ⟨(h.2.1.lt g (by rw [ownB]; exact hg)).1, h.2.2.1 g (by rw [ownB]; exact hg)⟩
/-- One of the lists replaced: by one in the same block, or in a new one. -/
theorem OwnLE.repl {E : Nat → Sv} {w w2 : World} {lo hi g n c : Nat} {ls : List (List Int)} (h : OwnLE E w lo hi (some ⟨g, 0, none⟩) n c ls) {k : Nat} (hk : k < n) (hhi : hi ≤ w.heap.size) (hg : w.grownBy w2 (rowB (E k).1)) {A2 : Option Addr} {n2 c2 : Nat} {ys : List Int}
    (hx : Own w2 lo w2.heap.size A2 n2 c2 ys) (hat : rowB A2 = rowB (E k).1 ∨ ∃ q, rowB A2 = some q ∧ w.heap.size ≤ q) :
    OwnL (w2.setCell ⟨g, k, none⟩ (.slice A2 n2 c2)) lo w2.heap.size (some ⟨g, 0, none⟩) n c (ls.set k ys) ∧ w2.grownBy (w2.setCell ⟨g, k, none⟩ (.slice A2 n2 c2)) (some g) := by
  obtain ⟨hl, ho, hh, he, hne, hdd⟩ := h
  have hgl := hh g rfl
  have hs := hg.size
  have hrk : ∀ b, rowB (E k).1 = some b → (sv (E k)).ownBlock = some b := fun b hb => by unfold sv; rw [ownB]; exact hb
  have ho2 : w2.ownsRow lo 22 1 (.slice (some ⟨g, 0, none⟩) n c) n (heads n E) := ho.kept hg (.inr fun e => hne k g hk (hrk g e.symm) rfl)
  have he2 : ∀ j, j < n → j ≠ k → Own w2 lo hi (E j).1 (E j).2.1 (E j).2.2 (li ls j) := fun j hj hjk => (he j hj).kept hg (fun b hb e => by
    rcases Nat.lt_or_gt_of_ne hjk with h | h
    · exact hdd j k b h hk hb (hrk b e)
    · exact hdd k j b h hj (hrk b e) hb)
  have hA2g : ∀ b, (sv ((A2, n2, c2) : Sv)).ownBlock = some b → b ≠ g := fun b hb => by
    have hb' : rowB A2 = some b := by rw [← ownB A2 n2 c2]; exact hb
    rcases hat with e | ⟨q, e, hq⟩
    · intro h; subst h; exact hne k b hk (hrk b (e ▸ hb')) rfl
    · rw [e] at hb'; injection hb' with hb'; omega
  have hA2E : ∀ j b, j < n → j ≠ k → (sv ((A2, n2, c2) : Sv)).ownBlock = some b → (sv (E j)).ownBlock ≠ some b := fun j b hj hjk hb e2 => by
    have hb' : rowB A2 = some b := by rw [← ownB A2 n2 c2]; exact hb
    rcases hat with e | ⟨q, e, hq⟩
    · have h3 := hrk b (e ▸ hb')
      rcases Nat.lt_or_gt_of_ne hjk with h | h
      · exact hdd j k b h hk e2 h3
      · exact hdd k j b h hj h3 e2
    · rw [e] at hb'; injection hb' with hb'
      have := (he j hj).lt b e2
      omega
  obtain ⟨o1, gg⟩ := ho2.stored k (.slice A2 n2 c2)
  refine ⟨⟨fun j => if j = k then (A2, n2, c2) else E j, by simpa using hl, ?_, fun b hb => by have := hh b hb; omega, fun j hj => ?_, fun j b hj hb => ?_, fun i j b hij hj hb => ?_⟩, gg⟩
  · exact row1_eq o1 (heads_set E hk (A2, n2, c2))
  · dsimp only
    rw [li_set (by omega)]
    by_cases e : j = k
    · rw [if_pos e, if_pos e]
      exact hx.kept gg (fun b hb e2 => by injection e2 with e2; exact hA2g b hb e2.symm)
    · rw [if_neg e, if_neg e]
      exact ((he2 j hj e).kept gg (fun b hb e2 => hne j b hj hb e2)).wide (Nat.le_refl _) (by omega)
  · dsimp only at hb
    by_cases e : j = k
    · rw [if_pos e] at hb
      have := hA2g b hb
      intro e2; simp [Value.ownBlock] at e2; omega
    · rw [if_neg e] at hb
      exact hne j b hj hb
  · dsimp only at hb ⊢
    by_cases e : i = k
    · rw [if_pos e] at hb
      rw [if_neg (by omega)]
      exact hA2E j b hj (by omega) hb
    · rw [if_neg e] at hb
      by_cases e' : j = k
      · rw [if_pos e']
        intro e2
        exact hA2E i b (by omega) e e2 hb
      · rw [if_neg e']
        exact hdd i j b hij hj hb
end Go.Proofs.Ytjpoliibljjhnaa

/-
  Rows modulo a number: sums of multiples of rows, the columns at which such sums begin, rows in echelon form. No conditions but p ≥ 2 where it is said.
-/

namespace Go.Proofs.Ytjpoliibljjhnaa

/-- Zero modulo p at the first n columns. -/
def Z0 (p : Int) (n : Nat) (v : Nat → Int) : Prop := ∀ k, k < n → p ∣ v k
/-- v is a sum of multiples of the rows, modulo p, at the first n columns. -/
def Sp (p : Int) (n : Nat) : List (Nat → Int) → (Nat → Int) → Prop
  | [], v => Z0 p n v
  | e :: R, v => ∃ a : Int, Sp p n R (fun k => v k - a * e k)
section
variable {p : Int} {n : Nat}
theorem Sp.congr : ∀ {R : List (Nat → Int)} {u v : Nat → Int}, (∀ k, k < n → p ∣ u k - v k) → Sp p n R u → Sp p n R v
  | [], u, v, h, hu => fun k hk => by
    have h1 := h k hk
    have h2 := hu k hk
    have h3 := Int.dvd_sub h2 h1
    have e : u k - (u k - v k) = v k := by omega
    rwa [e] at h3
  | e :: R, u, v, h, ⟨a, hu⟩ => ⟨a, Sp.congr (fun k hk => by
      have h1 := h k hk
      have e1 : u k - a * e k - (v k - a * e k) = u k - v k := by omega
      rwa [e1]) hu⟩
theorem Sp.of_eq {R : List (Nat → Int)} {u v : Nat → Int} (hu : Sp p n R u) (h : ∀ k, k < n → u k = v k) : Sp p n R v :=
  hu.congr fun k hk => by rw [h k hk, Int.sub_self]; exact Int.dvd_zero _
theorem Sp.zero : ∀ {R : List (Nat → Int)} {v : Nat → Int}, Z0 p n v → Sp p n R v
  | [], _, h => h
  | e :: R, v, h => ⟨0, Sp.zero (R := R) fun k hk => by
      have := h k hk
      simpa using this⟩
theorem Sp.add : ∀ {R : List (Nat → Int)} {u v : Nat → Int}, Sp p n R u → Sp p n R v → Sp p n R (fun k => u k + v k)
  | [], _, _, hu, hv => fun k hk => Int.dvd_add (hu k hk) (hv k hk)
  | e :: R, u, v, ⟨a, hu⟩, ⟨b, hv⟩ => ⟨a + b, (Sp.add hu hv).of_eq fun k _ => by
      show u k - a * e k + (v k - b * e k) = u k + v k - (a + b) * e k
      rw [Int.add_mul]; omega⟩
theorem Sp.mul (c : Int) : ∀ {R : List (Nat → Int)} {v : Nat → Int}, Sp p n R v → Sp p n R (fun k => c * v k)
  | [], _, h => fun k hk => Int.dvd_mul_of_dvd_right (h k hk)
  | e :: R, v, ⟨a, h⟩ => ⟨c * a, (Sp.mul c h).of_eq fun k _ => by
      show c * (v k - a * e k) = c * v k - c * a * e k
      rw [Int.mul_sub, Int.mul_assoc]⟩
theorem Sp.mem : ∀ {R : List (Nat → Int)} {e : Nat → Int}, e ∈ R → Sp p n R e
  | f :: R, e, h => by
    rcases List.mem_cons.1 h with rfl | h'
    · exact ⟨1, Sp.zero fun k _ => by
        show p ∣ e k - 1 * e k
        rw [Int.one_mul, Int.sub_self]; exact Int.dvd_zero _⟩
    · exact ⟨0, (Sp.mem h').of_eq fun k _ => by
        show e k = e k - 0 * f k
        rw [Int.zero_mul]; omega⟩
theorem Sp.trans {R' : List (Nat → Int)} : ∀ {R : List (Nat → Int)} {v : Nat → Int}, (∀ r, r ∈ R → Sp p n R' r) → Sp p n R v → Sp p n R' v
  | [], _, _, h => Sp.zero h
  | e :: R, v, hr, ⟨a, h⟩ => by
    have h1 := Sp.trans (fun r hr' => hr r (List.mem_cons_of_mem _ hr')) h
    have h2 := (hr e (List.mem_cons_self ..)).mul a
    exact (h1.add h2).of_eq fun k _ => by
      show v k - a * e k + a * e k = v k
      omega
theorem Sp.same {R R' : List (Nat → Int)} (h : ∀ r, r ∈ R → Sp p n R' r) (h' : ∀ r, r ∈ R' → Sp p n R r) (v : Nat → Int) : Sp p n R v ↔ Sp p n R' v :=
  ⟨Sp.trans h, Sp.trans h'⟩
theorem Sp.sub {R : List (Nat → Int)} {u v : Nat → Int} (hu : Sp p n R u) (hv : Sp p n R v) : Sp p n R (fun k => u k - v k) :=
  (hu.add (hv.mul (-1))).of_eq fun k _ => by
    show u k + -1 * v k = u k - v k
    omega
theorem Sp.zero_at {c : Nat} (hc : c < n) : ∀ {R : List (Nat → Int)} {v : Nat → Int}, (∀ r, r ∈ R → p ∣ r c) → Sp p n R v → p ∣ v c
  | [], _, _, h => h c hc
  | e :: R, v, hr, ⟨a, h⟩ => by
    have h1 := Sp.zero_at hc (fun r hr' => hr r (List.mem_cons_of_mem _ hr')) h
    have h2 := Int.dvd_add h1 (Int.dvd_mul_of_dvd_right (b := a) (hr e (List.mem_cons_self ..)))
    have e1 : v c - a * e c + a * e c = v c := by omega
    rwa [e1] at h2
theorem Sp.app_left {R R' : List (Nat → Int)} {v : Nat → Int} (h : Sp p n R v) : Sp p n (R ++ R') v :=
  h.trans fun _ hr => Sp.mem (List.mem_append_left _ hr)
theorem Sp.app_right {R R' : List (Nat → Int)} {v : Nat → Int} (h : Sp p n R' v) : Sp p n (R ++ R') v :=
  h.trans fun _ hr => Sp.mem (List.mem_append_right _ hr)

/-- The first column other than 0. -/
def Lead (p : Int) (n : Nat) (v : Nat → Int) (j : Nat) : Prop := j < n ∧ ¬ p ∣ v j ∧ ∀ i, i < j → p ∣ v i
theorem Lead.uniq {v : Nat → Int} {i j : Nat} (h : Lead p n v i) (h' : Lead p n v j) : i = j := by
  rcases Nat.lt_trichotomy i j with hlt | rfl | hlt
  · exact absurd (h'.2.2 i hlt) h.2.1
  · rfl
  · exact absurd (h.2.2 j hlt) h'.2.1
/-- Rows with columns of their own: 1 there, 0 before it, and 0 there in all later rows. -/
def Ech (p : Int) (n : Nat) : List ((Nat → Int) × Nat) → Prop
  | [] => True
  | (e, c) :: R => c < n ∧ p ∣ e c - 1 ∧ (∀ i, i < c → p ∣ e i) ∧ (∀ x, x ∈ R → p ∣ x.1 c) ∧ Ech p n R
theorem Ech.at_ : ∀ {R : List ((Nat → Int) × Nat)}, Ech p n R → ∀ {x}, x ∈ R → x.2 < n ∧ p ∣ x.1 x.2 - 1 ∧ ∀ i, i < x.2 → p ∣ x.1 i
  | (e, c) :: R, h, x, hx => by
    rcases List.mem_cons.1 hx with rfl | hx'
    · exact ⟨h.1, h.2.1, h.2.2.1⟩
    · exact Ech.at_ h.2.2.2.2 hx'
theorem one_not (hp : 2 ≤ p) {x : Int} (h : p ∣ x - 1) : ¬ p ∣ x := fun h' => by
  have h1 := Int.dvd_sub h' h
  have e : x - (x - 1) = 1 := by omega
  rw [e] at h1
  have := Int.le_of_dvd (by decide) h1
  omega
theorem Ech.lead_mem (hp : 2 ≤ p) {R : List ((Nat → Int) × Nat)} (h : Ech p n R) {x : (Nat → Int) × Nat} (hx : x ∈ R) : Lead p n x.1 x.2 := by
  obtain ⟨h1, h2, h3⟩ := h.at_ hx
  exact ⟨h1, one_not hp h2, h3⟩
/-- A sum of multiples of such rows is zero, or begins at one of their columns. -/
theorem Ech.lead (hp : 2 ≤ p) : ∀ {R : List ((Nat → Int) × Nat)}, Ech p n R → ∀ {v}, Sp p n (R.map (·.1)) v → Z0 p n v ∨ ∃ x, x ∈ R ∧ Lead p n v x.2
  | [], _, v, hv => .inl hv
  | (e, c) :: R, h, v, ⟨a, hv⟩ => by
    obtain ⟨hc, he, hbe, hz, hR⟩ := h
    have hwc : p ∣ v c - a * e c := Sp.zero_at hc (v := fun k => v k - a * e k) (fun r hr => by
      obtain ⟨x, hx, rfl⟩ := List.mem_map.1 hr
      exact hz x hx) hv
    have ih := Ech.lead hp hR hv
    by_cases ha : p ∣ a
    · have hk : ∀ k, p ∣ v k ↔ p ∣ v k - a * e k := fun k => by
        have hd : p ∣ a * e k := Int.dvd_mul_of_dvd_left ha
        refine ⟨fun hh => Int.dvd_sub hh hd, fun hh => ?_⟩
        have := Int.dvd_add hh hd
        have e1 : v k - a * e k + a * e k = v k := by omega
        rwa [e1] at this
      rcases ih with hz0 | ⟨x, hx, hl⟩
      · exact .inl fun k hk' => (hk k).2 (hz0 k hk')
      · exact .inr ⟨x, List.mem_cons_of_mem _ hx, hl.1, fun hh => hl.2.1 ((hk _).1 hh), fun i hi => (hk i).2 (hl.2.2 i hi)⟩
    · have hvc : ¬ p ∣ v c := fun hh => by
        have h1 := Int.dvd_sub hh hwc
        have e1 : v c - (v c - a * e c) = a * e c := by omega
        rw [e1] at h1
        have h2 := Int.dvd_mul_of_dvd_right (b := a) he
        have h3 := Int.dvd_sub h1 h2
        have e2 : a * e c - a * (e c - 1) = a := by rw [Int.mul_sub]; omega
        rw [e2] at h3
        exact ha h3
      have hbefore : ∀ k, k < c → (p ∣ v k ↔ p ∣ v k - a * e k) := fun k hk => by
        have hd : p ∣ a * e k := Int.dvd_mul_of_dvd_right (hbe k hk)
        refine ⟨fun hh => Int.dvd_sub hh hd, fun hh => ?_⟩
        have := Int.dvd_add hh hd
        have e1 : v k - a * e k + a * e k = v k := by omega
        rwa [e1] at this
      have hfirst : (∀ i, i < c → p ∣ v i) → ∃ x, x ∈ (e, c) :: R ∧ Lead p n v x.2 := fun hb =>
        ⟨(e, c), List.mem_cons_self .., hc, hvc, hb⟩
      rcases ih with hz0 | ⟨x, hx, hl⟩
      · exact .inr (hfirst fun i hi => (hbefore i hi).2 (hz0 i (by omega)))
      · by_cases hlt : x.2 < c
        · exact .inr ⟨x, List.mem_cons_of_mem _ hx, hl.1, fun hh => hl.2.1 ((hbefore _ hlt).1 hh), fun i hi => (hbefore i (by omega)).2 (hl.2.2 i hi)⟩
        · exact .inr (hfirst fun i hi => (hbefore i hi).2 (hl.2.2 i (by omega)))
theorem Ech.snoc : ∀ {R : List ((Nat → Int) × Nat)} {e : Nat → Int} {c : Nat}, Ech p n R → c < n → p ∣ e c - 1 → (∀ i, i < c → p ∣ e i) → (∀ x, x ∈ R → p ∣ e x.2) → Ech p n (R ++ [(e, c)])
  | [], e, c, _, h1, h2, h3, _ => ⟨h1, h2, h3, fun x hx => absurd hx (List.not_mem_nil), trivial⟩
  | (f, d) :: R, e, c, h, h1, h2, h3, h4 => by
    obtain ⟨a1, a2, a3, a4, a5⟩ := h
    refine ⟨a1, a2, a3, fun x hx => ?_, Ech.snoc a5 h1 h2 h3 fun x hx => h4 x (List.mem_cons_of_mem _ hx)⟩
    rcases List.mem_append.1 hx with hx | hx
    · exact a4 x hx
    · rw [List.mem_singleton] at hx
      subst hx
      exact h4 (f, d) (List.mem_cons_self ..)
theorem Ech.nodup (hp : 2 ≤ p) : ∀ {R : List ((Nat → Int) × Nat)}, Ech p n R → (R.map (·.2)).Nodup
  | [], _ => List.nodup_nil
  | (e, c) :: R, h => by
    obtain ⟨a1, a2, a3, a4, a5⟩ := h
    refine List.nodup_cons.2 ⟨fun hm => ?_, Ech.nodup hp a5⟩
    obtain ⟨x, hx, e1⟩ := List.mem_map.1 hm
    have e1' : x.2 = c := e1
    have h1 := a4 x hx
    have h2 := (Ech.lead_mem hp a5 hx).2.1
    rw [e1'] at h2
    exact h2 h1
/-- The columns are those at which sums of multiples begin. -/
theorem Ech.cols (hp : 2 ≤ p) {R : List ((Nat → Int) × Nat)} (h : Ech p n R) (c : Nat) : c ∈ R.map (·.2) ↔ ∃ v, Sp p n (R.map (·.1)) v ∧ Lead p n v c := by
  constructor
  · intro hm
    obtain ⟨x, hx, rfl⟩ := List.mem_map.1 hm
    exact ⟨x.1, Sp.mem (List.mem_map.2 ⟨x, hx, rfl⟩), h.lead_mem hp hx⟩
  · rintro ⟨v, hv, hl⟩
    rcases h.lead hp hv with hz | ⟨x, hx, hl'⟩
    · exact absurd (hz c hl.1) hl.2.1
    · rw [hl.uniq hl']
      exact List.mem_map.2 ⟨x, hx, rfl⟩
theorem nodup_le : ∀ {l m : List Nat}, l.Nodup → (∀ x, x ∈ l → x ∈ m) → l.length ≤ m.length
  | [], _, _, _ => Nat.zero_le _
  | a :: l, m, hd, hs => by
    have ha := hs a (List.mem_cons_self ..)
    obtain ⟨hn, hd'⟩ := List.nodup_cons.1 hd
    have h1 := nodup_le (m := m.erase a) hd' fun x hx => by
      have hne : x ≠ a := fun e => hn (e ▸ hx)
      exact (List.mem_erase_of_ne hne).2 (hs x (List.mem_cons_of_mem _ hx))
    have h2 := List.length_erase_of_mem ha
    have h3 := List.length_pos_of_mem ha
    simp only [List.length_cons]
    omega
theorem Ech.same_cols (hp : 2 ≤ p) {R S : List ((Nat → Int) × Nat)} (hR : Ech p n R) (hS : Ech p n S) (h : ∀ v, Sp p n (R.map (·.1)) v ↔ Sp p n (S.map (·.1)) v) (c : Nat) :
    c ∈ R.map (·.2) ↔ c ∈ S.map (·.2) := by
  rw [hR.cols hp, hS.cols hp]
  exact ⟨fun ⟨v, a, b⟩ => ⟨v, (h v).1 a, b⟩, fun ⟨v, a, b⟩ => ⟨v, (h v).2 a, b⟩⟩
theorem Ech.same_len (hp : 2 ≤ p) {R S : List ((Nat → Int) × Nat)} (hR : Ech p n R) (hS : Ech p n S) (h : ∀ v, Sp p n (R.map (·.1)) v ↔ Sp p n (S.map (·.1)) v) : R.length = S.length := by
  have h1 := nodup_le (hR.nodup hp) fun c hc => (hR.same_cols hp hS h c).1 hc
  have h2 := nodup_le (hS.nodup hp) fun c hc => (hR.same_cols hp hS h c).2 hc
  simp only [List.length_map] at h1 h2
  omega
/-- Sums of multiples that are alike at the columns are alike. -/
theorem Ech.uniq (hp : 2 ≤ p) {R : List ((Nat → Int) × Nat)} (h : Ech p n R) {u v : Nat → Int} (hu : Sp p n (R.map (·.1)) u) (hv : Sp p n (R.map (·.1)) v) (hc : ∀ x, x ∈ R → p ∣ u x.2 - v x.2) :
    ∀ k, k < n → p ∣ u k - v k := by
  rcases h.lead hp (hu.sub hv) with hz | ⟨x, hx, hl⟩
  · exact hz
  · exact absurd (hc x hx) hl.2.1
end
end Go.Proofs.Ytjpoliibljjhnaa

/-
  Rows taken in one by one, modulo a small prime: the program's way, as plain functions, and what it keeps. Conditions: p is 2, 3, 5 or 7.
-/

namespace Go.Proofs.Ytjpoliibljjhnaa

def P7 (p : Int) : Prop := p = 2 ∨ p = 3 ∨ p = 5 ∨ p = 7
theorem P7.two {p : Int} (h : P7 p) : 2 ≤ p := by unfold P7 at h; omega
theorem P7.le {p : Int} (h : P7 p) : p ≤ 7 := by unfold P7 at h; omega
/-- All numbers of a row are rests modulo p. -/
def Rg (p : Int) (x : List Int) : Prop := ∀ j, 0 ≤ nth x j ∧ nth x j < p
theorem nth_past {x : List Int} {j : Nat} (h : x.length ≤ j) : nth x j = 0 := by simp [nth, List.getD, h]
/-- A row plus a multiple of another one. -/
def addT (p : Int) (x : List Int) (f : Int) (y : List Int) : List Int := (List.range x.length).map fun j => (nth x j + f * nth y j) % p
theorem nth_rangeMap {n j : Nat} (f : Nat → Int) (h : j < n) : nth ((List.range n).map f) j = f j := by simp [nth, List.getD, h]
theorem addT_len (p : Int) (x : List Int) (f : Int) (y : List Int) : (addT p x f y).length = x.length := by simp [addT]
theorem addT_nth {p : Int} {x : List Int} {f : Int} {y : List Int} {j : Nat} (h : j < x.length) : nth (addT p x f y) j = (nth x j + f * nth y j) % p := nth_rangeMap _ h
theorem addT_rg {p : Int} (hp : 0 < p) (x : List Int) (f : Int) (y : List Int) : Rg p (addT p x f y) := fun j => by
  by_cases h : j < x.length
  · rw [addT_nth h]; exact ⟨Int.emod_nonneg _ (by omega), Int.emod_lt_of_pos _ hp⟩
  · rw [nth_past (by rw [addT_len]; omega)]; exact ⟨Int.le_refl _, hp⟩
/-- The same, as far as a place. -/
def addK (p : Int) (x : List Int) (f : Int) (y : List Int) (k : Nat) : List Int := (List.range x.length).map fun j => if j < k then (nth x j + f * nth y j) % p else nth x j
theorem addK_len (p : Int) (x : List Int) (f : Int) (y : List Int) (k : Nat) : (addK p x f y k).length = x.length := by simp [addK]
theorem addK_nth {p : Int} {x : List Int} {f : Int} {y : List Int} {k j : Nat} (h : j < x.length) : nth (addK p x f y k) j = if j < k then (nth x j + f * nth y j) % p else nth x j := nth_rangeMap _ h
theorem nth_ext {x y : List Int} (hl : x.length = y.length) (h : ∀ j, j < x.length → nth x j = nth y j) : x = y := by
  apply List.ext_getElem hl
  intro j h1 h2
  have := h j h1
  rwa [nth_get h1, nth_get h2] at this
theorem addK_zero (p : Int) (x : List Int) (f : Int) (y : List Int) : addK p x f y 0 = x :=
  nth_ext (addK_len ..) fun j hj => by rw [addK_nth (by rwa [addK_len] at hj), if_neg (by omega)]
theorem addK_all (p : Int) (x : List Int) (f : Int) (y : List Int) : addK p x f y x.length = addT p x f y :=
  nth_ext (by rw [addK_len, addT_len]) fun j hj => by
    rw [addK_len] at hj
    rw [addK_nth hj, if_pos hj, addT_nth hj]
theorem nth_set_at {x : List Int} {k : Nat} (h : k < x.length) (v : Int) (j : Nat) : nth (x.set k v) j = if j = k then v else nth x j := by
  unfold nth
  rw [List.getD_eq_getElem?_getD, List.getD_eq_getElem?_getD, List.getElem?_set]
  by_cases e : k = j
  · subst e; simp [h]
  · rw [if_neg e, if_neg (fun hh => e hh.symm)]
theorem addK_succ {p : Int} {x : List Int} {f : Int} {y : List Int} {k : Nat} (h : k < x.length) : (addK p x f y k).set k ((nth x k + f * nth y k) % p) = addK p x f y (k + 1) :=
  nth_ext (by rw [List.length_set, addK_len, addK_len]) fun j hj => by
    rw [List.length_set, addK_len] at hj
    rw [nth_set_at (by rw [addK_len]; exact h), addK_nth hj, addK_nth hj]
    by_cases e : j = k
    · subst e; rw [if_pos rfl, if_pos (by omega)]
    · rw [if_neg e]
      by_cases hlt : j < k
      · rw [if_pos hlt, if_pos (by omega)]
      · rw [if_neg hlt, if_neg (by omega)]
theorem addK_rg {p : Int} (hp : 0 < p) {x : List Int} (hx : Rg p x) (f : Int) (y : List Int) (k : Nat) : Rg p (addK p x f y k) := fun j => by
  by_cases h : j < x.length
  · rw [addK_nth h]
    split
    · exact ⟨Int.emod_nonneg _ (by omega), Int.emod_lt_of_pos _ hp⟩
    · exact hx j
  · rw [nth_past (by rw [addK_len]; omega)]; exact ⟨Int.le_refl _, hp⟩
theorem emod_dvd (p x : Int) : p ∣ x % p - x := by
  refine ⟨-(x / p), ?_⟩
  have := Int.mul_ediv_add_emod x p
  rw [Int.mul_neg]; omega
theorem addT_dvd {p : Int} {x : List Int} {f : Int} {y : List Int} {j : Nat} (h : j < x.length) : p ∣ nth (addT p x f y) j - (nth x j + f * nth y j) := by
  rw [addT_nth h]; exact emod_dvd _ _
theorem dvd_iff0 {p x : Int} (h : 0 ≤ x ∧ x < p) : p ∣ x ↔ x = 0 := by
  refine ⟨fun hd => ?_, fun e => e ▸ Int.dvd_zero _⟩
  by_cases hx : x = 0
  · exact hx
  · have := Int.le_of_dvd (by omega) hd; omega

/-- A row less multiples of others, one after another. -/
def redE (p : Int) (E : List (List Int × Int)) (x : List Int) : List Int := E.foldl (fun x e => addT p x (p - nth x e.2.toNat) e.1) x
theorem redE_cons (p : Int) (e : List Int × Int) (E : List (List Int × Int)) (x : List Int) : redE p (e :: E) x = redE p E (addT p x (p - nth x e.2.toNat) e.1) := rfl
theorem redE_snoc (p : Int) (e : List Int × Int) (E : List (List Int × Int)) (x : List Int) : redE p (E ++ [e]) x = addT p (redE p E x) (p - nth (redE p E x) e.2.toNat) e.1 := by
  simp [redE, List.foldl_append]
theorem redE_len (p : Int) : ∀ (E : List (List Int × Int)) (x : List Int), (redE p E x).length = x.length
  | [], _ => rfl
  | e :: E, x => by rw [redE_cons, redE_len p E, addT_len]
theorem redE_rg {p : Int} (hp : 0 < p) : ∀ (E : List (List Int × Int)) {x : List Int}, Rg p x → Rg p (redE p E x)
  | [], _, h => h
  | e :: E, x, _ => by rw [redE_cons]; exact redE_rg hp E (addT_rg hp _ _ _)
/-- The rows as functions, with their columns. -/
def vec (E : List (List Int × Int)) : List (Nat → Int) := E.map fun e => nth e.1
def prs (E : List (List Int × Int)) : List ((Nat → Int) × Nat) := E.map fun e => (nth e.1, e.2.toNat)
theorem prs_vec (E : List (List Int × Int)) : (prs E).map (·.1) = vec E := by simp [prs, vec, List.map_map, Function.comp_def]
theorem redE_sp {p : Int} {n : Nat} : ∀ (E : List (List Int × Int)) {x : List Int}, x.length = n → Sp p n (vec E) (fun k => nth (redE p E x) k - nth x k)
  | [], x, _ => fun k _ => by
    show p ∣ nth x k - nth x k
    rw [Int.sub_self]; exact Int.dvd_zero _
  | e :: E, x, hl => by
    have ih := redE_sp (p := p) (n := n) E (x := addT p x (p - nth x e.2.toNat) e.1) (by rw [addT_len]; exact hl)
    refine ⟨p - nth x e.2.toNat, ih.congr fun k hk => ?_⟩
    rw [redE_cons]
    have h1 := addT_dvd (p := p) (x := x) (f := p - nth x e.2.toNat) (y := e.1) (j := k) (by omega)
    show p ∣ nth (redE p E (addT p x (p - nth x e.2.toNat) e.1)) k - nth (addT p x (p - nth x e.2.toNat) e.1) k - (nth (redE p E (addT p x (p - nth x e.2.toNat) e.1)) k - nth x k - (p - nth x e.2.toNat) * nth e.1 k)
    generalize nth (addT p x (p - nth x e.2.toNat) e.1) k = a at *
    generalize (p - nth x e.2.toNat) * nth e.1 k = b at *
    generalize nth (redE p E _) k = c at *
    obtain ⟨q, hq⟩ := h1
    exact ⟨-q, by rw [Int.mul_neg]; omega⟩
theorem redE_keep {p : Int} {c : Nat} : ∀ (E : List (List Int × Int)) {x : List Int}, c < x.length → (∀ e, e ∈ E → p ∣ nth e.1 c) → p ∣ nth (redE p E x) c - nth x c
  | [], x, _, _ => by
    show p ∣ nth x c - nth x c
    rw [Int.sub_self]; exact Int.dvd_zero _
  | e :: E, x, hc, h => by
    have ih := redE_keep (p := p) E (x := addT p x (p - nth x e.2.toNat) e.1) (by rw [addT_len]; exact hc) fun e' he' => h e' (List.mem_cons_of_mem _ he')
    rw [redE_cons]
    have h1 := addT_dvd (p := p) (x := x) (f := p - nth x e.2.toNat) (y := e.1) (j := c) hc
    have h2 : p ∣ (p - nth x e.2.toNat) * nth e.1 c := Int.dvd_mul_of_dvd_right (h e (List.mem_cons_self ..))
    have h3 := Int.dvd_add (Int.dvd_add ih h1) h2
    have e1 : nth (redE p E (addT p x (p - nth x e.2.toNat) e.1)) c - nth (addT p x (p - nth x e.2.toNat) e.1) c + (nth (addT p x (p - nth x e.2.toNat) e.1) c - (nth x c + (p - nth x e.2.toNat) * nth e.1 c)) + (p - nth x e.2.toNat) * nth e.1 c = nth (redE p E (addT p x (p - nth x e.2.toNat) e.1)) c - nth x c := by omega
    rwa [e1] at h3
theorem redE_zero {p : Int} {n : Nat} : ∀ (E : List (List Int × Int)) {x : List Int}, x.length = n → Ech p n (prs E) → ∀ e, e ∈ E → p ∣ nth (redE p E x) e.2.toNat
  | e :: E, x, hl, h, d, hd => by
    obtain ⟨hc, h1, _, hz, hE⟩ := h
    have hl' : (addT p x (p - nth x e.2.toNat) e.1).length = n := by rw [addT_len]; exact hl
    rcases List.mem_cons.1 hd with rfl | hd'
    · rw [redE_cons]
      have hk := redE_keep (p := p) (c := d.2.toNat) E (x := addT p x (p - nth x d.2.toNat) d.1) (by omega) fun y hy => hz (nth y.1, y.2.toNat) (List.mem_map.2 ⟨y, hy, rfl⟩)
      have ha := addT_dvd (p := p) (x := x) (f := p - nth x d.2.toNat) (y := d.1) (j := d.2.toNat) (by omega)
      have h2 : p ∣ (p - nth x d.2.toNat) * (nth d.1 d.2.toNat - 1) := Int.dvd_mul_of_dvd_right h1
      rw [Int.mul_sub, Int.mul_one] at h2
      have h3 := Int.dvd_add (Int.dvd_add hk ha) h2
      have h4 := Int.dvd_add h3 (Int.dvd_refl p)
      have e1 : nth (redE p E (addT p x (p - nth x d.2.toNat) d.1)) d.2.toNat - nth (addT p x (p - nth x d.2.toNat) d.1) d.2.toNat + (nth (addT p x (p - nth x d.2.toNat) d.1) d.2.toNat - (nth x d.2.toNat + (p - nth x d.2.toNat) * nth d.1 d.2.toNat)) + ((p - nth x d.2.toNat) * nth d.1 d.2.toNat - (p - nth x d.2.toNat)) + p = nth (redE p E (addT p x (p - nth x d.2.toNat) d.1)) d.2.toNat := by omega
      rwa [e1] at h4
    · rw [redE_cons]
      exact redE_zero E hl' hE d hd'

/-- The first place with another number than 0. -/
def ldN (x : List Int) : Nat := (x.takeWhile (fun y => decide (y = 0))).length
theorem ldN_le (x : List Int) : ldN x ≤ x.length := (List.takeWhile_sublist _).length_le
theorem ldN_is : ∀ (xs : List Int) (k : Nat), k ≤ xs.length → (∀ j, j < k → nth xs j = 0) → (k = xs.length ∨ nth xs k ≠ 0) → ldN xs = k
  | [], k, hk, _, _ => by
    have : k = 0 := by simpa using hk
    subst this; rfl
  | y :: xs, 0, _, _, h => by
    rcases h with h | h
    · simp at h
    · have hy : y ≠ 0 := h
      simp [ldN, List.takeWhile, hy]
  | y :: xs, k + 1, hk, hall, h => by
    have hy : y = 0 := hall 0 (by omega)
    have ih := ldN_is xs k (by simpa using hk) (fun j hj => hall (j + 1) (by omega)) (by
      rcases h with h | h
      · left; simpa using h
      · right; exact h)
    have e : ldN (y :: xs) = ldN xs + 1 := by simp [ldN, List.takeWhile, hy]
    rw [e, ih]
theorem ldN_before : ∀ (xs : List Int) (j : Nat), j < ldN xs → nth xs j = 0
  | [], j, h => by simp [ldN] at h
  | y :: xs, j, h => by
    by_cases hy : y = 0
    · have e : ldN (y :: xs) = ldN xs + 1 := by simp [ldN, List.takeWhile, hy]
      match j with
      | 0 => exact hy
      | j + 1 => exact ldN_before xs j (by omega)
    · have e : ldN (y :: xs) = 0 := by simp [ldN, List.takeWhile, hy]
      omega
theorem ldN_at : ∀ (xs : List Int), ldN xs < xs.length → nth xs (ldN xs) ≠ 0
  | [], h => by simp at h
  | y :: xs, h => by
    by_cases hy : y = 0
    · have e : ldN (y :: xs) = ldN xs + 1 := by simp [ldN, List.takeWhile, hy]
      rw [e] at h ⊢
      exact ldN_at xs (by simpa using h)
    · have e : ldN (y :: xs) = 0 := by simp [ldN, List.takeWhile, hy]
      rw [e]; exact hy
/-- The number whose product with x has the rest 1. -/
def inv7 (p x : Int) : Int := ((((List.range 7).find? fun (y : Nat) => decide (x * (y : Int) % p = 1)).getD 0 : Nat) : Int)
theorem inv7_is {p x y : Int} (hp : P7 p) (hx : 0 < x ∧ x < p) (hy : 0 < y ∧ y < p) (h : x * y % p = 1) : y = inv7 p x := by
  have hx7 : x = 1 ∨ x = 2 ∨ x = 3 ∨ x = 4 ∨ x = 5 ∨ x = 6 := by have := hp.le; omega
  have hy7 : y = 1 ∨ y = 2 ∨ y = 3 ∨ y = 4 ∨ y = 5 ∨ y = 6 := by have := hp.le; omega
  rcases hp with rfl | rfl | rfl | rfl <;> rcases hx7 with rfl | rfl | rfl | rfl | rfl | rfl <;> first | (exfalso; omega) | (rcases hy7 with rfl | rfl | rfl | rfl | rfl | rfl <;> first | (exfalso; omega) | (revert h; decide))
theorem inv7_ok {p x : Int} (hp : P7 p) (hx : 0 < x ∧ x < p) : 0 < inv7 p x ∧ inv7 p x < p ∧ x * inv7 p x % p = 1 := by
  have hx7 : x = 1 ∨ x = 2 ∨ x = 3 ∨ x = 4 ∨ x = 5 ∨ x = 6 := by have := hp.le; omega
  rcases hp with rfl | rfl | rfl | rfl <;> rcases hx7 with rfl | rfl | rfl | rfl | rfl | rfl <;> first | (exfalso; omega) | decide
/-- The row that is kept. -/
def nrm (p : Int) (r : List Int) : List Int := addT p r (inv7 p (nth r (ldN r)) - 1) r
theorem nrm_len (p : Int) (r : List Int) : (nrm p r).length = r.length := addT_len ..
theorem nrm_dvd {p : Int} {r : List Int} {j : Nat} (h : j < r.length) : p ∣ nth (nrm p r) j - inv7 p (nth r (ldN r)) * nth r j := by
  have h1 := addT_dvd (p := p) (x := r) (f := inv7 p (nth r (ldN r)) - 1) (y := r) h
  rw [Int.sub_mul, Int.one_mul] at h1
  have e : nth r j + (inv7 p (nth r (ldN r)) * nth r j - nth r j) = inv7 p (nth r (ldN r)) * nth r j := by omega
  rwa [e] at h1
def addR (p : Int) (E : List (List Int × Int)) (x : List Int) : List (List Int × Int) :=
  if ldN (redE p E x) = x.length then E else E ++ [(nrm p (redE p E x), (ldN (redE p E x) : Int))]
def echel (p : Int) (rows : List (List Int)) : List (List Int × Int) := rows.foldl (addR p) []
/-- What the rows that are kept obey. -/
def EOk (p : Int) (n : Nat) (E : List (List Int × Int)) : Prop := (∀ e, e ∈ E → e.1.length = n ∧ Rg p e.1 ∧ 0 ≤ e.2 ∧ e.2 < n) ∧ Ech p n (prs E)
theorem EOk.nil (p : Int) (n : Nat) : EOk p n [] := ⟨fun _ h => absurd h (List.not_mem_nil), trivial⟩
theorem addR_ok {p : Int} {n : Nat} (hp : P7 p) {E : List (List Int × Int)} {x : List Int} (h : EOk p n E) (hl : x.length = n) (hx : Rg p x) :
    EOk p n (addR p E x) ∧ ∀ v, Sp p n (vec (addR p E x)) v ↔ Sp p n (vec E ++ [nth x]) v := by
  have hp2 := hp.two
  have hrl := redE_len p E x
  have hrg := redE_rg (p := p) (by omega) E hx
  have hsp := redE_sp (p := p) E hl
  have hz := redE_zero (p := p) E hl h.2
  unfold addR
  obtain ⟨r, hr⟩ : ∃ r, r = redE p E x := ⟨_, rfl⟩
  rw [← hr] at hrl hrg hsp hz ⊢
  have hle := ldN_le r
  by_cases hend : ldN r = x.length
  · rw [if_pos hend]
    refine ⟨h, Sp.same (fun e he => Sp.mem (List.mem_append_left _ he)) fun e he => ?_⟩
    rcases List.mem_append.1 he with he | he
    · exact Sp.mem he
    · rw [List.mem_singleton] at he
      subst he
      have h0 : Sp p n (vec E) (nth r) := Sp.zero fun k hk => by rw [ldN_before r k (by omega)]; exact Int.dvd_zero _
      exact (h0.sub hsp).of_eq fun k _ => by
        show nth r k - (nth r k - nth x k) = nth x k
        omega
  · rw [if_neg hend]
    have hlt : ldN r < r.length := by omega
    have hne := ldN_at r hlt
    have hrc := hrg (ldN r)
    have hinv := inv7_ok hp (x := nth r (ldN r)) ⟨by omega, hrc.2⟩
    have hnd := fun {j : Nat} (hj : j < r.length) => nrm_dvd (p := p) hj
    obtain ⟨f, hf⟩ : ∃ f, f = inv7 p (nth r (ldN r)) := ⟨_, rfl⟩
    rw [← hf] at hinv hnd
    obtain ⟨y, hy⟩ : ∃ y, y = nrm p r := ⟨_, rfl⟩
    rw [← hy] at hnd ⊢
    have hyl : y.length = n := by rw [hy, nrm_len]; omega
    have hyr : Rg p y := by rw [hy]; exact addT_rg (by omega) _ _ _
    have h1 : p ∣ nth y (ldN r) - 1 := by
      have a := hnd hlt
      have b := emod_dvd p (nth r (ldN r) * f)
      rw [hinv.2.2] at b
      have c := Int.dvd_sub a b
      have e : nth y (ldN r) - f * nth r (ldN r) - (1 - nth r (ldN r) * f) = nth y (ldN r) - 1 := by rw [Int.mul_comm f]; omega
      rwa [e] at c
    have h0 : ∀ i, i < n → p ∣ nth r i → p ∣ nth y i := fun i hi hd => by
      have a := hnd (j := i) (by omega)
      have b := Int.dvd_mul_of_dvd_right (b := f) hd
      have c := Int.dvd_add a b
      have e : nth y i - f * nth r i + f * nth r i = nth y i := by omega
      rwa [e] at c
    refine ⟨⟨fun e he => ?_, ?_⟩, ?_⟩
    · rcases List.mem_append.1 he with he | he
      · exact h.1 e he
      · rw [List.mem_singleton] at he
        subst he
        exact ⟨hyl, hyr, by omega, by show (ldN r : Int) < n; omega⟩
    · have e : prs (E ++ [(y, (ldN r : Int))]) = prs E ++ [(nth y, ldN r)] := by simp [prs]
      rw [e]
      refine h.2.snoc (by omega) h1 (fun i hi => h0 i (by omega) (by rw [ldN_before r i hi]; exact Int.dvd_zero _)) fun q hq => ?_
      obtain ⟨e', he', rfl⟩ := List.mem_map.1 hq
      exact h0 _ (by have := (h.1 e' he').2.2; show e'.2.toNat < n; omega) (hz e' he')
    · have e : vec (E ++ [(y, (ldN r : Int))]) = vec E ++ [nth y] := by simp [vec]
      rw [e]
      have hr' : Sp p n (vec E ++ [nth x]) (nth r) := by
        have a := (Sp.app_left (R' := [nth x]) hsp).add (Sp.mem (List.mem_append_right (vec E) (List.mem_singleton.2 rfl)))
        exact a.of_eq fun k _ => by
          show nth r k - nth x k + nth x k = nth r k
          omega
      refine Sp.same (fun q hq => ?_) fun q hq => ?_
      · rcases List.mem_append.1 hq with hq | hq
        · exact Sp.mem (List.mem_append_left _ hq)
        · rw [List.mem_singleton] at hq
          subst hq
          refine (hr'.mul f).congr fun k hk => ?_
          have a := hnd (j := k) (by omega)
          have e2 : f * nth r k - nth y k = -(nth y k - f * nth r k) := by omega
          rw [e2]; exact Int.dvd_neg.2 a
      · rcases List.mem_append.1 hq with hq | hq
        · exact Sp.mem (List.mem_append_left _ hq)
        · rw [List.mem_singleton] at hq
          subst hq
          have hy' : Sp p n (vec E ++ [nth y]) (nth y) := Sp.mem (List.mem_append_right _ (List.mem_singleton.2 rfl))
          have hrr : Sp p n (vec E ++ [nth y]) (nth r) := by
            refine (hy'.mul (nth r (ldN r))).congr fun k hk => ?_
            have a := Int.dvd_mul_of_dvd_right (b := nth r (ldN r)) (hnd (j := k) (by omega))
            have b := Int.dvd_mul_of_dvd_left (c := nth r k) (emod_dvd p (nth r (ldN r) * f))
            rw [hinv.2.2] at b
            rw [Int.mul_sub] at a
            rw [Int.sub_mul, Int.one_mul, Int.mul_assoc] at b
            have c := Int.dvd_sub a b
            generalize nth r (ldN r) * nth y k = s at *
            generalize nth r (ldN r) * (f * nth r k) = t at *
            have e3 : s - t - (nth r k - t) = s - nth r k := by omega
            rwa [e3] at c
          exact (hrr.sub (Sp.app_left hsp)).of_eq fun k _ => by
            show nth r k - (nth r k - nth x k) = nth x k
            omega
theorem echel_from {p : Int} {n : Nat} (hp : P7 p) : ∀ (rows : List (List Int)) (E : List (List Int × Int)), (∀ x, x ∈ rows → x.length = n ∧ Rg p x) → EOk p n E →
    EOk p n (rows.foldl (addR p) E) ∧ ∀ v, Sp p n (vec (rows.foldl (addR p) E)) v ↔ Sp p n (vec E ++ rows.map nth) v
  | [], E, _, h => ⟨h, fun v => by simp⟩
  | x :: rows, E, hr, h => by
    obtain ⟨hl, hx⟩ := hr x (List.mem_cons_self ..)
    obtain ⟨h1, h2⟩ := addR_ok hp h hl hx
    obtain ⟨h3, h4⟩ := echel_from hp rows (addR p E x) (fun y hy => hr y (List.mem_cons_of_mem _ hy)) h1
    refine ⟨h3, fun v => ?_⟩
    rw [List.foldl_cons, h4 v]
    have e : vec E ++ (x :: rows).map nth = (vec E ++ [nth x]) ++ rows.map nth := by simp
    rw [e]
    refine Sp.same (fun q hq => ?_) (fun q hq => ?_) v
    · rcases List.mem_append.1 hq with hq | hq
      · exact Sp.app_left ((h2 q).1 (Sp.mem hq))
      · exact Sp.mem (List.mem_append_right _ hq)
    · rcases List.mem_append.1 hq with hq | hq
      · exact Sp.app_left ((h2 q).2 (Sp.mem hq))
      · exact Sp.mem (List.mem_append_right _ hq)
theorem echel_ok {p : Int} {n : Nat} (hp : P7 p) {rows : List (List Int)} (hr : ∀ x, x ∈ rows → x.length = n ∧ Rg p x) :
    EOk p n (echel p rows) ∧ ∀ v, Sp p n (vec (echel p rows)) v ↔ Sp p n (rows.map nth) v := by
  have h := echel_from hp rows [] hr (EOk.nil p n)
  exact ⟨h.1, fun v => h.2 v⟩
end Go.Proofs.Ytjpoliibljjhnaa

/-
  Reduction of a matrix column by column, modulo a small prime: the document's way, on functions of row and column, and what it keeps. Conditions: p is 2, 3, 5 or 7.
-/

namespace Go.Proofs.Ytjpoliibljjhnaa

def rowsM (R : Nat) (M : Nat → Nat → Int) : List (Nat → Int) := (List.range R).map M
theorem rowsM_mem {R : Nat} {M : Nat → Nat → Int} {e : Nat → Int} : e ∈ rowsM R M ↔ ∃ i, i < R ∧ e = M i := by
  unfold rowsM
  rw [List.mem_map]
  constructor
  · rintro ⟨i, hi, rfl⟩; exact ⟨i, List.mem_range.1 hi, rfl⟩
  · rintro ⟨i, hi, rfl⟩; exact ⟨i, List.mem_range.2 hi, rfl⟩
theorem rowsM_sp {p : Int} {n R : Nat} {M : Nat → Nat → Int} {i : Nat} (h : i < R) : Sp p n (rowsM R M) (M i) := Sp.mem (rowsM_mem.2 ⟨i, h, rfl⟩)
/-- The same sums of multiples. -/
def SameSp (p : Int) (n R : Nat) (M N : Nat → Nat → Int) : Prop := ∀ v, Sp p n (rowsM R M) v ↔ Sp p n (rowsM R N) v
theorem SameSp.of {p : Int} {n R : Nat} {M N : Nat → Nat → Int} (h1 : ∀ i, i < R → Sp p n (rowsM R N) (M i)) (h2 : ∀ i, i < R → Sp p n (rowsM R M) (N i)) : SameSp p n R M N :=
  Sp.same (fun e he => by obtain ⟨i, hi, rfl⟩ := rowsM_mem.1 he; exact h1 i hi) (fun e he => by obtain ⟨i, hi, rfl⟩ := rowsM_mem.1 he; exact h2 i hi)
theorem SameSp.trans {p : Int} {n R : Nat} {M N K : Nat → Nat → Int} (h : SameSp p n R M N) (h' : SameSp p n R N K) : SameSp p n R M K := fun v => (h v).trans (h' v)
theorem SameSp.refl {p : Int} {n R : Nat} {M : Nat → Nat → Int} : SameSp p n R M M := fun _ => Iff.rfl
theorem SameSp.symm {p : Int} {n R : Nat} {M N : Nat → Nat → Int} (h : SameSp p n R M N) : SameSp p n R N M := fun v => (h v).symm

def swM (M : Nat → Nat → Int) (a b : Nat) : Nat → Nat → Int := fun i c => if i = a then M b c else if i = b then M a c else M i c
def scM (p : Int) (M : Nat → Nat → Int) (r : Nat) (f : Int) : Nat → Nat → Int := fun i c => if i = r then M r c * f % p else M i c
def clM (p : Int) (M : Nat → Nat → Int) (r j : Nat) : Nat → Nat → Int := fun i c => if i = r then M r c else (M i c + (p - M i j) * M r c) % p
theorem swM_sp {p : Int} {n R : Nat} {M : Nat → Nat → Int} {a b : Nat} (ha : a < R) (hb : b < R) : SameSp p n R M (swM M a b) := by
  have ea : swM M a b a = M b := by funext c; simp [swM]
  have eb : swM M a b b = M a := by
    funext c
    by_cases e : b = a
    · subst e; simp [swM]
    · simp [swM, e]
  have eo : ∀ i, i ≠ a → i ≠ b → swM M a b i = M i := fun i h1 h2 => by funext c; simp [swM, h1, h2]
  refine SameSp.of (fun i hi => ?_) (fun i hi => ?_)
  · by_cases h1 : i = a
    · subst h1; rw [← eb]; exact rowsM_sp hb
    · by_cases h2 : i = b
      · subst h2; rw [← ea]; exact rowsM_sp ha
      · rw [← eo i h1 h2]; exact rowsM_sp hi
  · by_cases h1 : i = a
    · subst h1; rw [ea]; exact rowsM_sp hb
    · by_cases h2 : i = b
      · subst h2; rw [eb]; exact rowsM_sp ha
      · rw [eo i h1 h2]; exact rowsM_sp hi
theorem scM_sp {p : Int} {n R : Nat} {M : Nat → Nat → Int} {r : Nat} {f g : Int} (hr : r < R) (hfg : p ∣ g * f - 1) : SameSp p n R M (scM p M r f) := by
  have er : ∀ c, scM p M r f r c = M r c * f % p := fun c => by simp [scM]
  have eo : ∀ i, i ≠ r → scM p M r f i = M i := fun i h => by funext c; simp [scM, h]
  refine SameSp.of (fun i hi => ?_) (fun i hi => ?_)
  · by_cases h : i = r
    · subst h
      refine ((rowsM_sp (M := scM p M i f) hr).mul g).congr fun k _ => ?_
      rw [er k]
      have a := Int.dvd_mul_of_dvd_right (b := g) (emod_dvd p (M i k * f))
      have b := Int.dvd_mul_of_dvd_left (c := M i k) hfg
      rw [Int.mul_sub] at a
      rw [Int.sub_mul, Int.one_mul] at b
      have c := Int.dvd_add a b
      have e : g * (M i k * f) = g * f * M i k := by rw [Int.mul_comm (M i k), Int.mul_assoc]
      rw [e] at c
      generalize g * (M i k * f % p) = s at *
      generalize g * f * M i k = t at *
      have e2 : s - t + (t - M i k) = s - M i k := by omega
      rwa [e2] at c
    · rw [← eo i h]; exact rowsM_sp hi
  · by_cases h : i = r
    · subst h
      refine ((rowsM_sp (M := M) hr).mul f).congr fun k _ => ?_
      rw [er k]
      have a := emod_dvd p (M i k * f)
      rw [Int.mul_comm f]
      generalize M i k * f % p = s at *
      have e2 : M i k * f - s = -(s - M i k * f) := by omega
      rw [e2]; exact Int.dvd_neg.2 a
    · rw [eo i h]; exact rowsM_sp hi
theorem clM_sp {p : Int} {n R : Nat} {M : Nat → Nat → Int} {r j : Nat} (hr : r < R) : SameSp p n R M (clM p M r j) := by
  have er : clM p M r j r = M r := by funext c; simp [clM]
  have eo : ∀ i c, i ≠ r → clM p M r j i c = (M i c + (p - M i j) * M r c) % p := fun i c h => by simp [clM, h]
  have hrr : Sp p n (rowsM R (clM p M r j)) (M r) := by rw [← er]; exact rowsM_sp hr
  refine SameSp.of (fun i hi => ?_) (fun i hi => ?_)
  · by_cases h : i = r
    · subst h; exact hrr
    · refine ((rowsM_sp (M := clM p M r j) hi).sub (hrr.mul (p - M i j))).congr fun k _ => ?_
      rw [eo i k h]
      have a := emod_dvd p (M i k + (p - M i j) * M r k)
      generalize (p - M i j) * M r k = s at *
      generalize (M i k + s) % p = t at *
      have e2 : t - s - M i k = t - (M i k + s) := by omega
      rwa [e2]
  · by_cases h : i = r
    · subst h; rw [er]; exact rowsM_sp hr
    · refine ((rowsM_sp (M := M) hi).add ((rowsM_sp (M := M) hr).mul (p - M i j))).congr fun k _ => ?_
      rw [eo i k h]
      have a := emod_dvd p (M i k + (p - M i j) * M r k)
      generalize (p - M i j) * M r k = s at *
      generalize (M i k + s) % p = t at *
      have e2 : M i k + s - t = -(t - (M i k + s)) := by omega
      rw [e2]; exact Int.dvd_neg.2 a

/-- What holds before column j, with k rows done. -/
structure RedI (p : Int) (n R : Nat) (M0 M : Nat → Nat → Int) (ps : List Int) (j : Nat) : Prop where
  le : ps.length ≤ R
  rg : ∀ i c, i < R → c < n → 0 ≤ M i c ∧ M i c < p
  col : ∀ i, i < ps.length → 0 ≤ nth ps i ∧ nth ps i < j
  asc : ∀ i i', i < i' → i' < ps.length → nth ps i < nth ps i'
  one : ∀ i, i < ps.length → M i (nth ps i).toNat = 1
  bef : ∀ (i c : Nat), i < ps.length → (c : Int) < nth ps i → M i c = 0
  oth : ∀ i i', i < ps.length → i' < R → i' ≠ i → M i' (nth ps i).toNat = 0
  rest : ∀ i c, ps.length ≤ i → i < R → c < j → M i c = 0
  sp : SameSp p n R M0 M
theorem RedI.start {p : Int} {n R : Nat} {M : Nat → Nat → Int} (h : ∀ i c, i < R → c < n → 0 ≤ M i c ∧ M i c < p) : RedI p n R M M [] 0 :=
  ⟨Nat.zero_le _, h, fun _ hi => absurd hi (Nat.not_lt_zero _), fun _ _ _ hi => absurd hi (Nat.not_lt_zero _), fun _ hi => absurd hi (Nat.not_lt_zero _), fun _ _ hi => absurd hi (Nat.not_lt_zero _), fun _ _ hi => absurd hi (Nat.not_lt_zero _), fun _ _ _ _ hc => absurd hc (Nat.not_lt_zero _), SameSp.refl⟩
theorem RedI.skip {p : Int} {n R : Nat} {M0 M : Nat → Nat → Int} {ps : List Int} {j : Nat} (h : RedI p n R M0 M ps j) (hz : ∀ i, ps.length ≤ i → i < R → M i j = 0) : RedI p n R M0 M ps (j + 1) :=
  ⟨h.le, h.rg, fun i hi => by have := h.col i hi; omega, h.asc, h.one, h.bef, h.oth, fun i c h1 h2 h3 => by
    by_cases e : c = j
    · subst e; exact hz i h1 h2
    · exact h.rest i c h1 h2 (by omega), h.sp⟩
theorem nth_snocX {ps : List Int} {i : Nat} (h : i < ps.length) (v : Int) : nth (ps ++ [v]) i = nth ps i := by
  rw [nth, nth, List.getD_eq_getElem?_getD, List.getD_eq_getElem?_getD, List.getElem?_append_left h]
theorem nth_snoc_at (ps : List Int) (v : Int) : nth (ps ++ [v]) ps.length = v := by simp [nth, List.getD]
theorem RedI.step {p : Int} {n R : Nat} {M0 M : Nat → Nat → Int} {ps : List Int} {j : Nat} (hp : P7 p) (h : RedI p n R M0 M ps j) (hj : j < n) {a : Nat} (ha1 : ps.length ≤ a) (ha2 : a < R) (hne : M a j ≠ 0) :
    RedI p n R M0 (clM p (scM p (swM M a ps.length) ps.length (inv7 p (M a j))) ps.length j) (ps ++ [(j : Int)]) (j + 1) := by
  have hp2 := hp.two
  have hkR : ps.length < R := by omega
  obtain ⟨k, hk⟩ : ∃ k, k = ps.length := ⟨_, rfl⟩
  have hrga := h.rg a j ha2 hj
  have hinv := inv7_ok hp (x := M a j) ⟨by omega, hrga.2⟩
  obtain ⟨f, hf⟩ : ∃ f, f = inv7 p (M a j) := ⟨_, rfl⟩
  rw [← hf] at hinv ⊢
  rw [← hk] at ha1 hkR ⊢
  -- after the exchange
  obtain ⟨N, hN⟩ : ∃ N, N = swM M a k := ⟨_, rfl⟩
  have hNsp : SameSp p n R M N := by rw [hN]; exact swM_sp ha2 hkR
  have hNk : ∀ c, N k c = M a c := fun c => by
    rw [hN]
    by_cases e : k = a
    · subst e; simp [swM]
    · simp [swM, e]
  have hNlt : ∀ i c, i < k → N i c = M i c := fun i c hi => by
    rw [hN]
    have h1 : i ≠ a := by omega
    have h2 : i ≠ k := by omega
    simp [swM, h1, h2]
  have hNany : ∀ i, i < R → ∃ i', i' < R ∧ (k ≤ i → k ≤ i') ∧ (i < k → i' = i) ∧ (∀ c, N i c = M i' c) := fun i hi => by
    rw [hN]
    by_cases h1 : i = a
    · exact ⟨k, hkR, fun _ => Nat.le_refl _, fun hh => by omega, fun c => by simp [swM, h1]⟩
    · by_cases h2 : i = k
      · exact ⟨a, ha2, fun _ => ha1, fun hh => by omega, fun c => by
          have h3 : k ≠ a := fun e => h1 (h2.trans e)
          simp [swM, h2, h3]⟩
      · exact ⟨i, hi, fun hh => hh, fun _ => rfl, fun c => by simp [swM, h1, h2]⟩
  rw [← hN]
  -- after the scaling
  obtain ⟨P, hP⟩ : ∃ P, P = scM p N k f := ⟨_, rfl⟩
  have hPsp : SameSp p n R N P := by
    rw [hP]
    refine scM_sp (g := M a j) hkR ?_
    have := emod_dvd p (M a j * f)
    rw [hinv.2.2] at this
    have e : M a j * f - 1 = -(1 - M a j * f) := by omega
    rw [e]; exact Int.dvd_neg.2 this
  have hPk : ∀ c, P k c = M a c * f % p := fun c => by rw [hP]; simp [scM, hNk]
  have hPo : ∀ i c, i ≠ k → P i c = N i c := fun i c hi => by rw [hP]; simp [scM, hi]
  rw [← hP]
  have hPkj : P k j = 1 := by rw [hPk]; exact hinv.2.2
  have hPk0 : ∀ c, c < j → P k c = 0 := fun c hc => by
    rw [hPk, h.rest a c (by omega) ha2 hc]; simp
  have hPrg : ∀ i c, i < R → c < n → 0 ≤ P i c ∧ P i c < p := fun i c hi hc => by
    by_cases e : i = k
    · subst e; rw [hPk]; exact ⟨Int.emod_nonneg _ (by omega), Int.emod_lt_of_pos _ (by omega)⟩
    · rw [hPo i c e]
      obtain ⟨i', hi', _, _, he⟩ := hNany i hi
      rw [he c]; exact h.rg i' c hi' hc
  -- after the clearing
  obtain ⟨Q, hQ⟩ : ∃ Q, Q = clM p P k j := ⟨_, rfl⟩
  have hQsp : SameSp p n R P Q := by rw [hQ]; exact clM_sp hkR
  have hQk : ∀ c, Q k c = P k c := fun c => by rw [hQ]; simp [clM]
  have hQo : ∀ i c, i ≠ k → Q i c = (P i c + (p - P i j) * P k c) % p := fun i c hi => by rw [hQ]; simp [clM, hi]
  rw [← hQ]
  have hQrg : ∀ i c, i < R → c < n → 0 ≤ Q i c ∧ Q i c < p := fun i c hi hc => by
    by_cases e : i = k
    · subst e; rw [hQk]; exact hPrg i c hi hc
    · rw [hQo i c e]; exact ⟨Int.emod_nonneg _ (by omega), Int.emod_lt_of_pos _ (by omega)⟩
  have hQbef : ∀ i c, i < R → c < j → i ≠ k → Q i c = P i c := fun i c hi hc e => by
    rw [hQo i c e, hPk0 c hc, Int.mul_zero, Int.add_zero]
    have := hPrg i c hi (by omega)
    exact Int.emod_eq_of_lt this.1 this.2
  have hQj : ∀ i, i < R → i ≠ k → Q i j = 0 := fun i hi e => by
    rw [hQo i j e, hPkj, Int.mul_one]
    have e2 : P i j + (p - P i j) = p := by omega
    rw [e2, Int.emod_self]
  have hlen : (ps ++ [(j : Int)]).length = k + 1 := by simp [hk]
  have hat : nth (ps ++ [(j : Int)]) k = j := by rw [hk]; exact nth_snoc_at ps _
  have hlt : ∀ i, i < k → nth (ps ++ [(j : Int)]) i = nth ps i := fun i hi => nth_snocX (by omega) _
  refine ⟨by omega, hQrg, fun i hi => ?_, fun i i' hi hi' => ?_, fun i hi => ?_, fun i c hi hc => ?_, fun i i' hi hi' hne' => ?_, fun i c hi hiR hc => ?_, ((h.sp.trans hNsp).trans hPsp).trans hQsp⟩
  · rw [hlen] at hi
    by_cases e : i = k
    · subst e; rw [hat]; omega
    · rw [hlt i (by omega)]
      have := h.col i (by omega)
      omega
  · rw [hlen] at hi'
    by_cases e : i' = k
    · subst e
      rw [hat, hlt i hi]
      exact (h.col i (by omega)).2
    · rw [hlt i (by omega), hlt i' (by omega)]
      exact h.asc i i' hi (by omega)
  · rw [hlen] at hi
    by_cases e : i = k
    · subst e
      rw [hat, hQk]
      exact hPkj
    · rw [hlt i (by omega)]
      have hc := h.col i (by omega)
      rw [hQbef i _ (by omega) (by omega) e, hPo i _ e, hNlt i _ (by omega)]
      exact h.one i (by omega)
  · rw [hlen] at hi
    by_cases e : i = k
    · subst e
      rw [hat] at hc
      rw [hQk]
      exact hPk0 c (by omega)
    · rw [hlt i (by omega)] at hc
      have hcj := h.col i (by omega)
      rw [hQbef i _ (by omega) (by omega) e, hPo i _ e, hNlt i _ (by omega)]
      exact h.bef i c (by omega) hc
  · rw [hlen] at hi
    by_cases e : i = k
    · subst e
      rw [hat]
      exact hQj i' hi' hne'
    · rw [hlt i (by omega)]
      have hcj := h.col i (by omega)
      by_cases e' : i' = k
      · subst e'
        rw [hQk]
        exact hPk0 _ (by omega)
      · rw [hQbef i' _ hi' (by omega) e', hPo i' _ e']
        obtain ⟨i2, hi2, h2a, h2b, he2⟩ := hNany i' hi'
        rw [he2]
        refine h.oth i i2 (by omega) hi2 fun ee => ?_
        rcases Nat.lt_or_ge i' k with hh | hh
        · have := h2b hh; omega
        · have := h2a hh; omega
  · rw [hlen] at hi
    by_cases ec : c = j
    · subst ec; exact hQj i hiR (by omega)
    · rw [hQbef i c hiR (by omega) (by omega), hPo i c (by omega)]
      obtain ⟨i2, hi2, h2a, h2b, he2⟩ := hNany i hiR
      rw [he2]
      exact h.rest i2 c (by have := h2a (by omega); omega) hi2 (by omega)
/-- The rows that are done, with their columns. -/
def prM (M : Nat → Nat → Int) (ps : List Int) : List ((Nat → Int) × Nat) := (List.range ps.length).map fun i => (M i, (nth ps i).toNat)
theorem prM_fst (M : Nat → Nat → Int) (ps : List Int) : (prM M ps).map (·.1) = rowsM ps.length M := by simp [prM, rowsM, List.map_map, Function.comp_def]
theorem prM_mem {M : Nat → Nat → Int} {ps : List Int} {x : (Nat → Int) × Nat} : x ∈ prM M ps ↔ ∃ i, i < ps.length ∧ x = (M i, (nth ps i).toNat) := by
  unfold prM
  rw [List.mem_map]
  constructor
  · rintro ⟨i, hi, rfl⟩; exact ⟨i, List.mem_range.1 hi, rfl⟩
  · rintro ⟨i, hi, rfl⟩; exact ⟨i, List.mem_range.2 hi, rfl⟩
theorem RedI.ech {p : Int} {n R : Nat} {M0 M : Nat → Nat → Int} {ps : List Int} {j : Nat} (h : RedI p n R M0 M ps j) (hj : j ≤ n) : Ech p n (prM M ps) := by
  have key : ∀ k, k ≤ ps.length → Ech p n ((List.range k).map fun i => (M i, (nth ps i).toNat)) := by
    intro k
    induction k with
    | zero => intro _; exact trivial
    | succ k ih =>
      intro hk
      rw [List.range_succ, List.map_append]
      have hc := h.col k (by omega)
      refine (ih (by omega)).snoc (by omega) (by rw [h.one k (by omega), Int.sub_self]; exact Int.dvd_zero _) (fun i hi => by rw [h.bef k i (by omega) (by omega)]; exact Int.dvd_zero _) fun x hx => ?_
      obtain ⟨i, hi, rfl⟩ := List.mem_map.1 hx
      have hi := List.mem_range.1 hi
      show p ∣ M k (nth ps i).toNat
      rw [h.oth i k (by omega) (by have := h.le; omega) (by omega)]; exact Int.dvd_zero _
  exact key _ (Nat.le_refl _)
theorem RedI.done {p : Int} {n R : Nat} {M0 M : Nat → Nat → Int} {ps : List Int} {j : Nat} (h : RedI p n R M0 M ps j) (hend : j = n ∨ ps.length = R) (v : Nat → Int) :
    Sp p n ((prM M ps).map (·.1)) v ↔ Sp p n (rowsM R M0) v := by
  rw [prM_fst, h.sp v]
  refine Sp.same (fun e he => ?_) (fun e he => ?_) v
  · obtain ⟨i, hi, rfl⟩ := rowsM_mem.1 he
    exact rowsM_sp (by have := h.le; omega)
  · obtain ⟨i, hi, rfl⟩ := rowsM_mem.1 he
    by_cases hlt : i < ps.length
    · exact rowsM_sp hlt
    · rcases hend with rfl | hR
      · exact Sp.zero fun c hc => by rw [h.rest i c (by omega) hi hc]; exact Int.dvd_zero _
      · omega
end Go.Proofs.Ytjpoliibljjhnaa

/-
  Both ways to reduce rows lead to as many rows, at the same columns. Conditions: p is 2, 3, 5 or 7, numbers are rests.
-/


namespace Go.Proofs.Ytjpoliibljjhnaa

/-- A row of a matrix written row by row. -/
def rowX (d : List Int) (n i : Nat) : List Int := (List.range n).map fun c => nth d (i * n + c)
def rowsL (d : List Int) (n R : Nat) : List (List Int) := (List.range R).map (rowX d n)
theorem rowX_len (d : List Int) (n i : Nat) : (rowX d n i).length = n := by simp [rowX]
theorem rowX_nth {d : List Int} {n i c : Nat} (h : c < n) : nth (rowX d n i) c = nth d (i * n + c) := nth_rangeMap _ h
theorem rowX_rg {p : Int} (hp : 0 < p) {d : List Int} (h : Rg p d) (n i : Nat) : Rg p (rowX d n i) := fun j => by
  by_cases hj : j < n
  · rw [rowX_nth hj]; exact h _
  · rw [nth_past (by rw [rowX_len]; omega)]; exact ⟨Int.le_refl _, hp⟩
theorem rowsL_len (d : List Int) (n R : Nat) : (rowsL d n R).length = R := by simp [rowsL]
theorem rowsL_li {d : List Int} {n R i : Nat} (h : i < R) : li (rowsL d n R) i = rowX d n i := by simp [li, rowsL, List.getD, h]
theorem rowsL_ok {p : Int} (hp : 0 < p) {d : List Int} (h : Rg p d) (n R : Nat) : ∀ x, x ∈ rowsL d n R → x.length = n ∧ Rg p x := fun x hx => by
  obtain ⟨i, _, rfl⟩ := List.mem_map.1 hx
  exact ⟨rowX_len .., rowX_rg hp h n i⟩
/-- The same rows as lists and as functions have the same sums of multiples. -/
theorem sp_lists {p : Int} {n : Nat} {rows : List (List Int)} {R : Nat} {M : Nat → Nat → Int} (hl : rows.length = R) (h : ∀ i c, i < R → c < n → nth (li rows i) c = M i c) (v : Nat → Int) :
    Sp p n (rows.map nth) v ↔ Sp p n (rowsM R M) v := by
  refine Sp.same (fun e he => ?_) (fun e he => ?_) v
  · obtain ⟨x, hx, rfl⟩ := List.mem_map.1 he
    obtain ⟨i, hi, rfl⟩ := List.mem_iff_getElem.1 hx
    rw [← li_get hi]
    exact (rowsM_sp (M := M) (i := i) (by omega)).of_eq fun c hc => (h i c (by omega) hc).symm
  · obtain ⟨i, hi, rfl⟩ := rowsM_mem.1 he
    have hm : Sp p n (rows.map nth) (nth (li rows i)) := Sp.mem (List.mem_map.2 ⟨li rows i, by rw [li_get (by omega)]; exact List.getElem_mem _, rfl⟩)
    exact hm.of_eq fun c hc => h i c hi hc
def rnkL (p : Int) (rows : List (List Int)) : Nat := (echel p rows).length
section
variable {p : Int} {n R : Nat} {rows : List (List Int)} {M0 M : Nat → Nat → Int} {ps : List Int} {j : Nat}
theorem red_same (hp : P7 p) (hr : ∀ x, x ∈ rows → x.length = n ∧ Rg p x) (hl : rows.length = R) (h0 : ∀ i c, i < R → c < n → nth (li rows i) c = M0 i c) (h : RedI p n R M0 M ps j) (hend : j = n ∨ ps.length = R) (v : Nat → Int) :
    Sp p n ((prs (echel p rows)).map (·.1)) v ↔ Sp p n ((prM M ps).map (·.1)) v := by
  rw [prs_vec, (echel_ok hp hr).2 v, sp_lists hl h0 v, h.done hend v]
theorem rank_same (hp : P7 p) (hr : ∀ x, x ∈ rows → x.length = n ∧ Rg p x) (hl : rows.length = R) (h0 : ∀ i c, i < R → c < n → nth (li rows i) c = M0 i c) (h : RedI p n R M0 M ps j) (hj : j ≤ n) (hend : j = n ∨ ps.length = R) :
    ps.length = rnkL p rows := by
  have h1 := Ech.same_len hp.two (echel_ok hp hr).1.2 (h.ech hj) (red_same hp hr hl h0 h hend)
  have h2 : (prs (echel p rows)).length = rnkL p rows := by simp [prs, rnkL]
  have h3 : (prM M ps).length = ps.length := by simp [prM]
  omega
end
theorem foldl_addR_len (p : Int) : ∀ (rows : List (List Int)) (E : List (List Int × Int)), (rows.foldl (addR p) E).length ≤ E.length + rows.length
  | [], _ => Nat.le_refl _
  | x :: rows, E => by
    have h1 := foldl_addR_len p rows (addR p E x)
    have h2 : (addR p E x).length ≤ E.length + 1 := by
      unfold addR
      split
      · omega
      · simp
    simp only [List.foldl_cons, List.length_cons]
    omega
theorem rnkL_le (p : Int) (rows : List (List Int)) : rnkL p rows ≤ rows.length := by
  have := foldl_addR_len p rows []
  simpa [rnkL, echel] using this
end Go.Proofs.Ytjpoliibljjhnaa

/-
  Rows reduced among themselves: the program's way, from the last column to the first, and that both ways end at the same rows. Conditions: p is 2, 3, 5 or 7.
-/

namespace Go.Proofs.Ytjpoliibljjhnaa

theorem eq_of_dvd {p a b : Int} (ha : 0 ≤ a ∧ a < p) (hb : 0 ≤ b ∧ b < p) (h : p ∣ a - b) : a = b := by
  by_cases h1 : a - b = 0
  · omega
  · rcases Int.lt_or_gt_of_ne h1 with h2 | h2
    · have h3 : p ∣ b - a := by
        have := Int.dvd_neg.2 h
        have e : -(a - b) = b - a := by omega
        rwa [e] at this
      have := Int.le_of_dvd (by omega) h3; omega
    · have := Int.le_of_dvd (by omega) h; omega
/-- The first place of a number in a list. -/
def ixN (xs : List Int) (v : Int) : Nat := (xs.takeWhile (fun y => decide (y ≠ v))).length
theorem ixN_le (xs : List Int) (v : Int) : ixN xs v ≤ xs.length := (List.takeWhile_sublist _).length_le
theorem ixN_is {v : Int} : ∀ (xs : List Int) (k : Nat), k ≤ xs.length → (∀ j, j < k → nth xs j ≠ v) → (k = xs.length ∨ nth xs k = v) → ixN xs v = k
  | [], k, hk, _, _ => by
    have : k = 0 := by simpa using hk
    subst this; rfl
  | y :: xs, 0, _, _, h => by
    rcases h with h | h
    · simp at h
    · have hy : y = v := h
      simp [ixN, List.takeWhile, hy]
  | y :: xs, k + 1, hk, hall, h => by
    have hy : y ≠ v := hall 0 (by omega)
    have ih := ixN_is xs k (by simpa using hk) (fun j hj => hall (j + 1) (by omega)) (by
      rcases h with h | h
      · left; simpa using h
      · right; exact h)
    have e : ixN (y :: xs) v = ixN xs v + 1 := by simp [ixN, List.takeWhile, hy]
    rw [e, ih]
theorem ixN_at {v : Int} : ∀ (xs : List Int), ixN xs v < xs.length → nth xs (ixN xs v) = v
  | [], h => by simp at h
  | y :: xs, h => by
    by_cases hy : y = v
    · have e : ixN (y :: xs) v = 0 := by simp [ixN, List.takeWhile, hy]
      rw [e]; exact hy
    · have e : ixN (y :: xs) v = ixN xs v + 1 := by simp [ixN, List.takeWhile, hy]
      rw [e] at h ⊢
      exact ixN_at xs (by simpa using h)
theorem ixN_mem {v : Int} : ∀ (xs : List Int), v ∈ xs ↔ ixN xs v < xs.length
  | [] => by simp [ixN]
  | y :: xs => by
    by_cases hy : y = v
    · have e : ixN (y :: xs) v = 0 := by simp [ixN, List.takeWhile, hy]
      rw [e]; simp [hy]
    · have e : ixN (y :: xs) v = ixN xs v + 1 := by simp [ixN, List.takeWhile, hy]
      rw [e, List.mem_cons, ixN_mem xs, List.length_cons]
      constructor
      · rintro (h | h)
        · exact absurd h.symm hy
        · omega
      · intro h; right; omega
/-- The rows, from that with the last column on, as far as t columns. -/
def dscR (E : List (List Int × Int)) (n : Nat) : Nat → List (List Int)
  | 0 => []
  | t + 1 => if ixN (E.map (·.2)) ((n - 1 - t : Nat) : Int) < E.length then dscR E n t ++ [li (E.map (·.1)) (ixN (E.map (·.2)) ((n - 1 - t : Nat) : Int))] else dscR E n t
theorem dscR_hit {E : List (List Int × Int)} {n t : Nat} (h : ixN (E.map (·.2)) ((n - 1 - t : Nat) : Int) < E.length) : dscR E n (t + 1) = dscR E n t ++ [li (E.map (·.1)) (ixN (E.map (·.2)) ((n - 1 - t : Nat) : Int))] := if_pos h
theorem dscR_miss {E : List (List Int × Int)} {n t : Nat} (h : ¬ ixN (E.map (·.2)) ((n - 1 - t : Nat) : Int) < E.length) : dscR E n (t + 1) = dscR E n t := if_neg h
theorem addR_lead {p : Int} {n : Nat} (hp : P7 p) {E : List (List Int × Int)} (h : EOk p n E) {x : List Int} {c : Nat} (hl : x.length = n) (hx : Rg p x) (hc : c < n) (h1 : nth x c ≠ 0) (hb : ∀ i, i < c → nth x i = 0) (hgt : ∀ e, e ∈ E → (c : Int) < e.2) :
    ∃ y, addR p E x = E ++ [(y, (c : Int))] := by
  have hp2 := hp.two
  have hsame : ∀ i, i ≤ c → nth (redE p E x) i = nth x i := fun i hi => by
    have hk := redE_keep (p := p) (c := i) E (x := x) (by omega) fun e he => by
      have h3 := (h.2.at_ (x := (nth e.1, e.2.toNat)) (List.mem_map.2 ⟨e, he, rfl⟩)).2.2
      have := hgt e he
      exact h3 i (by show i < e.2.toNat; omega)
    exact eq_of_dvd (redE_rg (by omega) E hx i) (hx i) hk
  have hld : ldN (redE p E x) = c := ldN_is _ c (by rw [redE_len]; omega) (fun j hj => by rw [hsame j (by omega)]; exact hb j hj) (.inr (by rw [hsame c (Nat.le_refl _)]; exact h1))
  refine ⟨nrm p (redE p E x), ?_⟩
  unfold addR
  rw [hld, if_neg (by omega)]
theorem Ech.pair {p : Int} {n : Nat} : ∀ {R : List ((Nat → Int) × Nat)}, Ech p n R → R.Pairwise fun a b => p ∣ b.1 a.2
  | [], _ => List.Pairwise.nil
  | _ :: _, h => List.Pairwise.cons (fun x hx => h.2.2.2.1 x hx) (Ech.pair h.2.2.2.2)
/-- What the rows from the last column on obey. -/
structure DscI (p : Int) (n : Nat) (E : List (List Int × Int)) (t : Nat) : Prop where
  ok : EOk p n (echel p (dscR E n t))
  lo : ∀ e, e ∈ echel p (dscR E n t) → ((n - t : Nat) : Int) ≤ e.2
  desc : ((echel p (dscR E n t)).map (·.2)).Pairwise fun a b => b < a
  mem : ∀ c : Int, c ∈ (echel p (dscR E n t)).map (·.2) ↔ c ∈ E.map (·.2) ∧ ((n - t : Nat) : Int) ≤ c
  rows : ∀ x, x ∈ dscR E n t → ∃ e, e ∈ E ∧ x = e.1
  has : ∀ e, e ∈ E → ((n - t : Nat) : Int) ≤ e.2 → e.1 ∈ dscR E n t
theorem EOk.row_of {p : Int} {n : Nat} (hp : P7 p) {E : List (List Int × Int)} (h : EOk p n E) {e : List Int × Int} (he : e ∈ E) : li (E.map (·.1)) (ixN (E.map (·.2)) e.2) = e.1 := by
  have hm : e.2 ∈ E.map (·.2) := List.mem_map.2 ⟨e, he, rfl⟩
  have hlt := (ixN_mem _).1 hm
  have hat := ixN_at _ hlt
  simp only [List.length_map] at hlt
  obtain ⟨i, hi, hei⟩ := List.mem_iff_getElem.1 he
  have hnd := List.pairwise_iff_getElem.1 (h.2.nodup hp.two)
  have hcol : ∀ k (hk : k < E.length), ((prs E).map (·.2))[k]'(by simpa [prs] using hk) = E[k].2.toNat := fun k hk => by simp [prs]
  have hix : (E[ixN (E.map (·.2)) e.2]'hlt).2 = e.2 := by
    rw [nth_get (by simpa using hlt)] at hat
    simpa using hat
  have hj : ixN (E.map (·.2)) e.2 = i := by
    rcases Nat.lt_trichotomy (ixN (E.map (·.2)) e.2) i with h1 | h1 | h1
    · have := hnd _ _ (by simpa [prs] using hlt) (by simpa [prs] using hi) h1
      rw [hcol _ hlt, hcol _ hi, hix, hei] at this
      exact absurd rfl this
    · exact h1
    · have := hnd _ _ (by simpa [prs] using hi) (by simpa [prs] using hlt) h1
      rw [hcol _ hlt, hcol _ hi, hix, hei] at this
      exact absurd rfl this
  rw [hj, li_get (by simpa using hi)]
  simp [hei]
theorem echel_snoc (p : Int) (rows : List (List Int)) (x : List Int) : echel p (rows ++ [x]) = addR p (echel p rows) x := by simp [echel, List.foldl_append]
theorem DscI.all {p : Int} {n : Nat} (hp : P7 p) {E : List (List Int × Int)} (h : EOk p n E) : ∀ t, t ≤ n → DscI p n E t
  | 0, _ => ⟨EOk.nil p n, fun e he => absurd he (List.not_mem_nil), List.Pairwise.nil, fun c => by
      constructor
      · intro hc; exact absurd hc (List.not_mem_nil)
      · rintro ⟨h1, h2⟩
        obtain ⟨e, he, rfl⟩ := List.mem_map.1 h1
        have := (h.1 e he).2.2.2; omega, fun x hx => absurd hx (List.not_mem_nil), fun e he h2 => by have := (h.1 e he).2.2.2; omega⟩
  | t + 1, ht => by
    have ih := DscI.all hp h t (by omega)
    have hp2 := hp.two
    by_cases hix : ixN (E.map (·.2)) ((n - 1 - t : Nat) : Int) < E.length
    · have hm : ((n - 1 - t : Nat) : Int) ∈ E.map (·.2) := (ixN_mem _).2 (by simpa using hix)
      obtain ⟨e, he, hec⟩ := List.mem_map.1 hm
      have hec' : e.2 = ((n - 1 - t : Nat) : Int) := hec
      have hrow := h.row_of hp he
      rw [hec'] at hrow
      have e1 : dscR E n (t + 1) = dscR E n t ++ [e.1] := by
        rw [dscR_hit hix, hrow]
      obtain ⟨hel, her, he0, hen⟩ := h.1 e he
      obtain ⟨ha1, ha2, ha3⟩ := h.2.at_ (x := (nth e.1, e.2.toNat)) (List.mem_map.2 ⟨e, he, rfl⟩)
      have hct : e.2.toNat = n - 1 - t := by omega
      simp only [hct] at ha1 ha2 ha3
      obtain ⟨y, hy⟩ := addR_lead hp ih.ok (c := n - 1 - t) hel her (by omega) (fun h0 => one_not hp2 ha2 (by rw [h0]; exact Int.dvd_zero _)) (fun i hi => (dvd_iff0 (her i)).1 (ha3 i hi)) (fun d hd => by have := ih.lo d hd; omega)
      have e2 : echel p (dscR E n (t + 1)) = echel p (dscR E n t) ++ [(y, ((n - 1 - t : Nat) : Int))] := by rw [e1, echel_snoc, hy]
      refine ⟨?_, ?_, ?_, ?_, ?_, ?_⟩
      · rw [e1, echel_snoc]; exact (addR_ok hp ih.ok hel her).1
      · rw [e2]
        intro d hd
        rcases List.mem_append.1 hd with hd | hd
        · have := ih.lo d hd; omega
        · rw [List.mem_singleton] at hd; subst hd; show _ ≤ ((n - 1 - t : Nat) : Int); omega
      · rw [e2, List.map_append]
        refine List.pairwise_append.2 ⟨ih.desc, List.pairwise_singleton _ _, fun a ha b hb => ?_⟩
        obtain ⟨d, hd, rfl⟩ := List.mem_map.1 ha
        simp at hb
        subst hb
        have := ih.lo d hd
        show ((n - 1 - t : Nat) : Int) < d.2
        omega
      · intro c
        rw [e2, List.map_append, List.mem_append, ih.mem c]
        simp only [List.map_cons, List.map_nil, List.mem_singleton]
        constructor
        · rintro (⟨h1, h2⟩ | h1)
          · exact ⟨h1, by omega⟩
          · rw [h1]; exact ⟨hm, by omega⟩
        · rintro ⟨h1, h2⟩
          by_cases hc : c = ((n - 1 - t : Nat) : Int)
          · right; exact hc
          · left; exact ⟨h1, by omega⟩
      · rw [e1]
        intro x hx
        rcases List.mem_append.1 hx with hx | hx
        · exact ih.rows x hx
        · rw [List.mem_singleton] at hx; exact ⟨e, he, hx⟩
      · rw [e1]
        intro d hd hdc
        by_cases hc : d.2 = ((n - 1 - t : Nat) : Int)
        · have h5 := h.row_of hp hd
          rw [hc, hrow] at h5
          rw [← h5]; exact List.mem_append_right _ (List.mem_singleton.2 rfl)
        · exact List.mem_append_left _ (ih.has d hd (by omega))
    · have e1 : dscR E n (t + 1) = dscR E n t := dscR_miss hix
      have hno : ∀ e, e ∈ E → e.2 ≠ ((n - 1 - t : Nat) : Int) := fun e he hc => hix (by
        have := (ixN_mem (v := ((n - 1 - t : Nat) : Int)) (E.map (·.2))).1 (by rw [← hc]; exact List.mem_map.2 ⟨e, he, rfl⟩)
        simpa using this)
      refine ⟨by rw [e1]; exact ih.ok, fun e he => by rw [e1] at he; have := ih.lo e he; omega, by rw [e1]; exact ih.desc, fun c => ?_, by rw [e1]; exact ih.rows, fun e he hc => by
        rw [e1]
        have := hno e he
        exact ih.has e he (by omega)⟩
      rw [e1, ih.mem c]
      constructor
      · rintro ⟨h1, h2⟩; exact ⟨h1, by omega⟩
      · rintro ⟨h1, h2⟩
        obtain ⟨e, he, rfl⟩ := List.mem_map.1 h1
        have h5 := hno e he
        have h6 : ((n - (t + 1) : Nat) : Int) ≤ e.2 := h2
        exact ⟨h1, by show _ ≤ e.2; omega⟩
theorem asc_uniq : ∀ (l m : List Int), l.Pairwise (· < ·) → m.Pairwise (· < ·) → (∀ x, x ∈ l ↔ x ∈ m) → l = m
  | [], [], _, _, _ => rfl
  | [], b :: m, _, _, h => absurd ((h b).2 (List.mem_cons_self ..)) (List.not_mem_nil)
  | a :: l, [], _, _, h => absurd ((h a).1 (List.mem_cons_self ..)) (List.not_mem_nil)
  | a :: l, b :: m, hl, hm, h => by
    obtain ⟨h1, h2⟩ := List.pairwise_cons.1 hl
    obtain ⟨h3, h4⟩ := List.pairwise_cons.1 hm
    have hab : a = b := by
      rcases List.mem_cons.1 ((h a).1 (List.mem_cons_self ..)) with e | e
      · exact e
      · rcases List.mem_cons.1 ((h b).2 (List.mem_cons_self ..)) with e' | e'
        · exact e'.symm
        · have := h3 a e; have := h1 b e'; omega
    subst hab
    rw [asc_uniq l m h2 h4 fun x => by
      constructor
      · intro hx
        rcases List.mem_cons.1 ((h x).1 (List.mem_cons_of_mem _ hx)) with e | e
        · have := h1 x hx; omega
        · exact e
      · intro hx
        rcases List.mem_cons.1 ((h x).2 (List.mem_cons_of_mem _ hx)) with e | e
        · have := h3 x hx; omega
        · exact e]
/-- The reduced rows, the program's way. -/
def redD (p : Int) (n : Nat) (rows : List (List Int)) : List (List Int × Int) := echel p (dscR (echel p rows) n n)
section
variable {p : Int} {n R : Nat} {rows : List (List Int)} {M0 M : Nat → Nat → Int} {ps : List Int} {j : Nat}
theorem red_rows (hp : P7 p) (hr : ∀ x, x ∈ rows → x.length = n ∧ Rg p x) (hl : rows.length = R) (h0 : ∀ i c, i < R → c < n → nth (li rows i) c = M0 i c) (h : RedI p n R M0 M ps j) (hj : j ≤ n) (hend : j = n ∨ ps.length = R) :
    (redD p n rows).length = ps.length ∧ (((redD p n rows).map (·.2)).reverse = ps) ∧ ∀ i c, i < ps.length → c < n → nth (li ((redD p n rows).map (·.1)).reverse i) c = M i c := by
  have hp2 := hp.two
  have hE := echel_ok hp hr
  have hD := DscI.all hp hE.1 n (Nat.le_refl _)
  obtain ⟨E, hEe⟩ : ∃ E, E = echel p rows := ⟨_, rfl⟩
  unfold redD
  rw [← hEe] at hE hD ⊢
  obtain ⟨D, hDe⟩ : ∃ D, D = echel p (dscR E n n) := ⟨_, rfl⟩
  have hdok := hD.ok
  have hdesc := hD.desc
  have hmem := hD.mem
  have hrows := hD.rows
  have hhas := hD.has
  rw [← hDe] at hdok hdesc hmem ⊢
  have hspD : ∀ v, Sp p n (vec D) v ↔ Sp p n (vec E) v := fun v => by
    have h1 := (echel_ok (p := p) (n := n) hp (rows := dscR E n n) fun x hx => by
      obtain ⟨e, he, rfl⟩ := hrows x hx
      exact ⟨(hE.1.1 e he).1, (hE.1.1 e he).2.1⟩).2 v
    rw [← hDe] at h1
    rw [h1]
    refine Sp.same (fun q hq => ?_) (fun q hq => ?_) v
    · obtain ⟨x, hx, rfl⟩ := List.mem_map.1 hq
      obtain ⟨e, he, rfl⟩ := hrows x hx
      exact Sp.mem (List.mem_map.2 ⟨e, he, rfl⟩)
    · obtain ⟨e, he, rfl⟩ := List.mem_map.1 hq
      exact Sp.mem (List.mem_map.2 ⟨e.1, hhas e he (by have := (hE.1.1 e he).2.2.1; omega), rfl⟩)
  have hspM : ∀ v, Sp p n (vec E) v ↔ Sp p n (rowsM ps.length M) v := fun v => by
    have h1 := red_same hp hr hl h0 h hend v
    rw [← hEe, prs_vec, prM_fst] at h1
    exact h1
  have hcols : ∀ c : Int, c ∈ D.map (·.2) ↔ c ∈ ps := fun c => by
    have hs := Ech.same_cols hp2 hE.1.2 (h.ech hj) (fun v => by rw [prs_vec, prM_fst]; exact hspM v)
    rw [hmem c]
    constructor
    · rintro ⟨h1, _⟩
      obtain ⟨e, he, rfl⟩ := List.mem_map.1 h1
      have h2 := (hs e.2.toNat).1 (List.mem_map.2 ⟨(nth e.1, e.2.toNat), List.mem_map.2 ⟨e, he, rfl⟩, rfl⟩)
      obtain ⟨x, hx, hx2⟩ := List.mem_map.1 h2
      obtain ⟨i, hi, rfl⟩ := prM_mem.1 hx
      have hx3 : (nth ps i).toNat = e.2.toNat := hx2
      have h3 := h.col i hi
      have h4 := (hE.1.1 e he).2.2.1
      have h5 : nth ps i = e.2 := by omega
      rw [← h5, nth_get hi]; exact List.getElem_mem hi
    · intro hc
      obtain ⟨i, hi, hie⟩ := List.mem_iff_getElem.1 hc
      rw [← nth_get hi] at hie
      have h3 := h.col i hi
      have h2 := (hs (nth ps i).toNat).2 (List.mem_map.2 ⟨_, prM_mem.2 ⟨i, hi, rfl⟩, rfl⟩)
      obtain ⟨x, hx, hx2⟩ := List.mem_map.1 h2
      obtain ⟨e, he, rfl⟩ := List.mem_map.1 hx
      have hx3 : e.2.toNat = (nth ps i).toNat := hx2
      have h4 := (hE.1.1 e he).2.2.1
      exact ⟨List.mem_map.2 ⟨e, he, by show e.2 = c; omega⟩, by omega⟩
  have hasc : ps.Pairwise (· < ·) := by
    rw [List.pairwise_iff_getElem]
    intro a b ha hb hab
    have := h.asc a b hab hb
    rw [nth_get ha, nth_get hb] at this
    exact this
  have hrev : (D.map (·.2)).reverse = ps := asc_uniq _ _ (List.pairwise_reverse.2 hdesc) hasc fun x => by rw [List.mem_reverse]; exact hcols x
  have hlen : D.length = ps.length := by rw [← hrev]; simp
  refine ⟨hlen, hrev, fun i c hi hc => ?_⟩
  have hiD : D.length - 1 - i < D.length := by omega
  have hx : li (D.map (·.1)).reverse i = D[D.length - 1 - i].1 := by
    rw [li_get (by simp; omega), List.getElem_reverse]
    simp
  have hxc : D[D.length - 1 - i].2 = nth ps i := by
    rw [nth_get hi]
    have h5 : ps[i] = ((D.map (·.2)).reverse)[i]'(by simp; omega) := by simp [hrev]
    rw [h5, List.getElem_reverse]
    simp
  rw [hx]
  have hxm : D[D.length - 1 - i] ∈ D := List.getElem_mem hiD
  have hin := hdok.1 _ hxm
  have hcol := h.col i hi
  have huniq := Ech.uniq hp2 hdok.2 (u := M i) (v := nth D[D.length - 1 - i].1) (by rw [prs_vec, hspD, hspM]; exact rowsM_sp hi) (by rw [prs_vec]; exact Sp.mem (List.mem_map.2 ⟨_, hxm, rfl⟩)) (fun y hy => by
    obtain ⟨e, he, rfl⟩ := List.mem_map.1 hy
    obtain ⟨a, ha, hae⟩ := List.mem_iff_getElem.1 he
    have hec := (hdok.1 e he).2.2
    show p ∣ M i e.2.toNat - nth D[D.length - 1 - i].1 e.2.toNat
    by_cases hsame : a = D.length - 1 - i
    · subst hsame
      rw [hae] at hxc ⊢
      have h6 := (hdok.2.at_ (x := (nth e.1, e.2.toNat)) (List.mem_map.2 ⟨e, he, rfl⟩)).2.1
      have h7 : p ∣ nth e.1 e.2.toNat - 1 := h6
      rw [hxc, h.one i hi]
      rw [hxc] at h7
      have e8 : 1 - nth e.1 (nth ps i).toNat = -(nth e.1 (nth ps i).toNat - 1) := by omega
      rw [e8]; exact Int.dvd_neg.2 h7
    · have hM0 : M i e.2.toNat = 0 := by
        have hmem2 : e.2 ∈ ps := (hcols e.2).1 (List.mem_map.2 ⟨e, he, rfl⟩)
        obtain ⟨i', hi', hie'⟩ := List.mem_iff_getElem.1 hmem2
        rw [← nth_get hi'] at hie'
        have hne : i ≠ i' := fun e9 => by
          subst e9
          have hd2 := List.pairwise_iff_getElem.1 hdesc
          rcases Nat.lt_or_gt_of_ne hsame with h8 | h8
          · have := hd2 a (D.length - 1 - i) (by simpa using ha) (by simpa using hiD) h8
            simp only [List.getElem_map] at this
            rw [hxc, hae, hie'] at this; omega
          · have := hd2 (D.length - 1 - i) a (by simpa using hiD) (by simpa using ha) h8
            simp only [List.getElem_map] at this
            rw [hxc, hae, hie'] at this; omega
        rw [← hie']
        exact h.oth i' i hi' (by have := h.le; omega) hne
      have hv0 : p ∣ nth D[D.length - 1 - i].1 e.2.toNat := by
        rcases Nat.lt_or_gt_of_ne hsame with h8 | h8
        · have h9 := List.pairwise_iff_getElem.1 hdok.2.pair a (D.length - 1 - i) (by simpa [prs] using ha) (by simpa [prs] using hiD) h8
          simp only [prs, List.getElem_map] at h9
          rw [hae] at h9; exact h9
        · have hd2 := List.pairwise_iff_getElem.1 hdesc (D.length - 1 - i) a (by simpa using hiD) (by simpa using ha) h8
          simp only [List.getElem_map] at hd2
          rw [hae] at hd2
          have h9 := (hdok.2.at_ (x := (nth D[D.length - 1 - i].1, D[D.length - 1 - i].2.toNat)) (List.mem_map.2 ⟨_, hxm, rfl⟩)).2.2
          exact h9 e.2.toNat (by show e.2.toNat < D[D.length - 1 - i].2.toNat; omega)
      rw [hM0]
      have e8 : 0 - nth D[D.length - 1 - i].1 e.2.toNat = -(nth D[D.length - 1 - i].1 e.2.toNat) := by omega
      rw [e8]; exact Int.dvd_neg.2 hv0) c hc
  exact (eq_of_dvd (h.rg i c (by have := h.le; omega) hc) (hin.2.1 c) huniq).symm
end
end Go.Proofs.Ytjpoliibljjhnaa

/-
  Copying a slice of numbers into an array. Conditions: the slice is no longer than the array.
-/


namespace Go.Proofs.Ytjpoliibljjhnaa
open Go.RowKit

/-- A list with zeros behind it. -/
def padN (N : Nat) (xs : List Int) : List Int := xs ++ List.replicate (N - xs.length) 0
theorem padN_len {N : Nat} {xs : List Int} (h : xs.length ≤ N) : (padN N xs).length = N := by simp [padN]; omega
theorem padN_nth (N : Nat) (xs : List Int) (k : Nat) : nth (padN N xs) k = nth xs k := by
  unfold padN nth
  rw [List.getD_eq_getElem?_getD, List.getD_eq_getElem?_getD]
  by_cases h : k < xs.length
  · rw [List.getElem?_append_left h]
  · rw [List.getElem?_append_right (by omega), List.getElem?_eq_none (l := xs) (by omega), List.getElem?_replicate]
    split <;> rfl
theorem nth_out {xs : List Int} {k : Nat} (h : xs.length ≤ k) : nth xs k = 0 := by
  unfold nth
  rw [List.getD_eq_getElem?_getD, List.getElem?_eq_none h]; rfl
theorem Try.infoIntA : (Try.prog.info? 3).map (·.size) = some 1 := by kernel_rfl
/-- 'copy(a[:], s)' where the array a holds zeros. -/
theorem wpList_copy_arr {ops : Array Oper} {rest : List Oper} {o : Oper} {a : Act} {w : World} {Q : Exit → Act → World → Prop} (hgd : o.guard = none) (d s : Operand)
    (ho : o.op = .call { callee := .builtin .copy, args := #[d, s], argTypes := #[22, 22] }) (g N : Nat) (A : Option Addr) (n c : Nat) (hd : a.eval d = .slice (some ⟨g, 0, none⟩) N N) (hs : a.eval s = .slice A n c)
    (t : TypeId) (xs : List Int) (hblk : Blk w g t ((List.replicate N (0 : Int)).map (Value.int .i64)).toArray) (hsi : SI w A n xs) (hle : n ≤ N)
    (hK : ∀ w', Blk w' g t ((padN N xs).map (Value.int .i64)).toArray → w.grownBy w' (some g) → wpList Try.prog ops Q rest (a.put o.dst (goInt n)) w') : wpList Try.prog ops Q (o :: rest) a w := by
  have hl := hsi.1
  by_cases h0 : n = 0
  · subst h0
    obtain rfl : xs = [] := List.eq_nil_of_length_eq_zero hl
    exact Go.wpList_copy_nothing hgd d s 22 22 ho 3 Try.underlying22 Try.infoIntA (some ⟨g, 0, none⟩) A N N 0 c hd hs (by simp) (hK w (by simpa [padN] using hblk) (World.grownBy.refl _ _))
  · obtain ⟨b, off, rfl, hb, hc⟩ := hsi.2 (by omega)
    have hE : (((List.replicate N (0 : Int)).map (Value.int .i64)).toArray.toList.take 0 ++ (xs.map (Value.int .i64) ++ ((List.replicate N (0 : Int)).map (Value.int .i64)).toArray.toList.drop (0 + (xs.map (Value.int .i64)).length))).toArray = ((padN N xs).map (Value.int .i64)).toArray := by
      simp [padN, List.drop_replicate]
    refine Go.wpList_copy_own hgd d s 22 22 ho 3 Try.underlying22 Try.infoIntA g 0 N N ⟨b, off, none⟩ n c hd hs _ t hblk (xs.map (Value.int .i64)) (by simp [hl]; exact (Nat.min_eq_left hle).symm) ?_ (by simp [hl]; omega) (ints_oneCell _ _) ?_
    · intro j v hj
      have hjl : j < xs.length := by
        rcases Nat.lt_or_ge j xs.length with h | h
        · exact h
        · rw [List.getElem?_eq_none (by simpa using h)] at hj; cases hj
      rw [List.getElem?_map, nth_get? hjl] at hj
      rw [add_pt, hc j (by omega)]
      exact hj
    · rw [hE]
      have hk := hK (w.setRow g ((padN N xs).map (Value.int .i64)).toArray) (hblk.row _) (grownBy_setRow w g _)
      simpa [hl] using hk
end Go.Proofs.Ytjpoliibljjhnaa

/-
  What a shape is: the tests of both sides. Conditions: the length is at most 2^40.
-/

namespace Go.Proofs.Ytjpoliibljjhnaa
open Go.RowKit

/-- What a place of a shape may be at most: what stands before it, 16 at the first one. -/
def prevS (xs : List Int) : Nat → Int
  | 0 => 16
  | k + 1 => nth xs k
/-- Is place k of a list one that a shape may have. -/
def shapeAt (xs : List Int) (k : Nat) : Prop := 1 ≤ nth xs k ∧ nth xs k ≤ prevS xs k
instance (xs : List Int) (k : Nat) : Decidable (shapeAt xs k) := by unfold shapeAt; infer_instance
def isShapeP (xs : List Int) : Prop := xs.length ≤ 16 ∧ ∀ k, k < xs.length → shapeAt xs k
def isShapeB (xs : List Int) : Bool := decide (xs.length ≤ 16) && (List.range xs.length).all fun k => decide (shapeAt xs k)
theorem isShapeB_iff (xs : List Int) : isShapeB xs = true ↔ isShapeP xs := by simp [isShapeB, isShapeP]
theorem isShapeB_P {xs : List Int} (h : isShapeB xs = true) : isShapeP xs := (isShapeB_iff xs).1 h
theorem isShapeB_true {xs : List Int} (h : isShapeP xs) : isShapeB xs = true := (isShapeB_iff xs).2 h
theorem isShapeB_false {xs : List Int} (h : ¬ isShapeP xs) : isShapeB xs = false := by
  cases hb : isShapeB xs with
  | false => rfl
  | true => exact absurd (isShapeB_P hb) h
theorem prevS_le {xs : List Int} : ∀ {k : Nat}, (∀ j, j < k → shapeAt xs j) → prevS xs k ≤ 16
  | 0, _ => Int.le_refl _
  | k + 1, h => Int.le_trans (h k (by omega)).2 (prevS_le fun j hj => h j (by omega))

set_option maxHeartbeats 800000 in
theorem specIsShape_any (A : Option Addr) (n c : Nat) (xs : List Int) (w : World) (hs : SI w A n xs) (hn : n ≤ 1099511627776) :
    Calls Try.prog 87 #[.slice A n c] w fun e w' => e = .returned (.bool (isShapeB xs)) ∧ Drawn w w' := by
  have HL := Lib.hid hs.1
  by_cases h16 : n ≤ 16
  · go_enter Try.func87, Try.ntmps87
    go_wp2
    go_loopw [3] (fun i wr => ∃ k : Nat, k ≤ n ∧ i = .int .i64 k ∧ Drawn w wr ∧ ∀ j, j < k → shapeAt xs j)
      (fun i _ => n - (intOf i).toNat)
    case atStart => exact ⟨0, Nat.zero_le _, rfl, Drawn.refl _, fun j hj => absurd hj (by omega)⟩
    case round =>
      obtain ⟨k, hk, rfl, hD, hall⟩ := hrel
      have HA := Lib.hid hall
      have HD := Lib.hid hD
      have hs := hD.si hs
      clear hall hD
      by_cases hlt : k < n
      · obtain ⟨b, o, e1, hb, hc⟩ := hs.at_ (by omega)
        subst e1
        have hc1 := hc k hlt
        obtain ⟨x, hx⟩ : ∃ x, x = nth xs k := ⟨_, rfl⟩
        rw [← hx] at hc1
        have HX := Lib.hid hx
        have hlI : (k : Int) < (n : Int) := by omega
        by_cases hr : 1 ≤ x ∧ x ≤ 16
        · obtain ⟨hx0, hx1⟩ := hr
          cases k with
          | zero =>
            have HG : Hid (shapeAt xs 0) := Lib.hid (show 1 ≤ nth xs 0 ∧ nth xs 0 ≤ 16 by omega)
            rw [Nat.add_zero] at hc1
            clear hc hs hx
            go_wp2_with fail
            go_quiet ((go_at_call 88; exact Calls.quiet_of (l1In_yes hx0 hx1 _)))
            go_wp2
            go_roundw
            case rel => exact ⟨1, by omega, by go_num, HD.out.drewN _, fun j hj => by rw [show j = 0 from Nat.lt_one_iff.1 hj]; exact HG.out⟩
            case measure => simp [intOf]; omega
          | succ k =>
            have hc0 := hc k (by omega)
            obtain ⟨y, hy⟩ : ∃ y, y = nth xs k := ⟨_, rfl⟩
            rw [← hy] at hc0
            have HY := Lib.hid hy
            have hwk : IntKind.i64.wrap (((k + 1 : Nat) : Int) - 1) = (k : Int) := by rw [show ((k + 1 : Nat) : Int) - 1 = (k : Int) by omega]; exact IntWalk.i64_in _ (by omega)
            have hkI : (k : Int) < (n : Int) := by omega
            have hk0 : (0 : Int) < ((k + 1 : Nat) : Int) := by omega
            clear hc hs hx hy
            by_cases hyx : y < x
            · have HF := Lib.hid (isShapeB_false (xs := xs) (fun h => by
                have := (h.2 (k + 1) (by have := HL.out; omega)).2
                have e1 : prevS xs (k + 1) = nth xs k := rfl
                have := HX.out; have := HY.out
                omega))
              go_wp2_with fail
              go_quiet ((go_at_call 88; exact Calls.quiet_of (l1In_yes hx0 hx1 _)))
              go_wp2
              go_ret
              exact ⟨ret_bool HF.out.symm, HD.out.drewN _⟩
            · have HG : Hid (shapeAt xs (k + 1)) := Lib.hid (by
                have e1 : prevS xs (k + 1) = nth xs k := rfl
                have := HX.out; have := HY.out
                unfold shapeAt
                omega)
              go_wp2_with fail
              go_quiet ((go_at_call 88; exact Calls.quiet_of (l1In_yes hx0 hx1 _)))
              go_wp2
              go_roundw
              case rel => exact ⟨k + 1 + 1, by omega, by go_num, HD.out.drewN _, fun j hj => by
                rcases Nat.lt_or_ge j (k + 1) with h | h
                · exact HA.out j h
                · obtain rfl : j = k + 1 := by omega
                  exact HG.out⟩
              case measure => simp [intOf]; omega
        · have HF := Lib.hid (isShapeB_false (xs := xs) (fun h => by
            have h1 := h.2 k (by have := HL.out; omega)
            have h2 := prevS_le HA.out
            unfold shapeAt at h1
            have := HX.out
            omega))
          clear hc hs hx
          go_wp2_with fail
          go_quiet ((go_at_call 88; exact Calls.quiet_of (l1In_no (by omega) _)))
          go_wp2
          go_ret
          exact ⟨ret_bool HF.out.symm, HD.out.drewN _⟩
      · have hkn : k = n := by omega
        subst hkn
        go_wp2
        go_ret
        exact ⟨ret_bool (isShapeB_true ⟨by have := HL.out; omega, by rw [HL.out]; exact HA.out⟩).symm, HD.out⟩
  · have HF := Lib.hid (isShapeB_false (xs := xs) (fun h => by have := h.1; have := HL.out; omega))
    have h16' : (16 : Int) < (n : Int) := by omega
    go_enter Try.func87, Try.ntmps87
    go_wp2
    go_ret
    exact ⟨ret_bool HF.out.symm, Drawn.refl _⟩
set_option maxHeartbeats 800000 in
theorem implIsShape_any (A : Option Addr) (n c : Nat) (xs : List Int) (w : World) (hs : SI w A n xs) (hn : n ≤ 1099511627776) :
    Calls Try.prog 90 #[.slice A n c] w fun e w' => e = .returned (.bool (isShapeB xs)) ∧ Drawn w w' := by
  have HL := Lib.hid hs.1
  by_cases h16 : n ≤ 16
  · go_enter Try.func90, Try.ntmps90
    go_wp2
    go_loopw [3, 11] (fun m i wr => ∃ k : Nat, k ≤ n ∧ i = .int .i64 k ∧ m = .int .i64 (prevS xs k) ∧ Drawn w wr ∧ ∀ j, j < k → shapeAt xs j)
      (fun _ i _ => n - (intOf i).toNat)
    case atStart => exact ⟨0, Nat.zero_le _, rfl, rfl, Drawn.refl _, fun j hj => absurd hj (by omega)⟩
    case round =>
      obtain ⟨k, hk, rfl, rfl, hD, hall⟩ := hrel
      have HA := Lib.hid hall
      have HD := Lib.hid hD
      have hs := hD.si hs
      clear hall hD
      by_cases hlt : k < n
      · obtain ⟨b, o, e1, hb, hc⟩ := hs.at_ (by omega)
        subst e1
        have hc1 := hc k hlt
        obtain ⟨x, hx⟩ : ∃ x, x = nth xs k := ⟨_, rfl⟩
        rw [← hx] at hc1
        have HX := Lib.hid hx
        obtain ⟨y, hy⟩ : ∃ y, y = prevS xs k := ⟨_, rfl⟩
        rw [← hy]
        have HY := Lib.hid hy
        have hlI : (k : Int) < (n : Int) := by omega
        clear hc hs hx hy
        by_cases hg : 1 ≤ x ∧ x ≤ y
        · obtain ⟨hg1, hg2⟩ := hg
          have HG : Hid (shapeAt xs k) := Lib.hid (by have := HX.out; have := HY.out; unfold shapeAt; omega)
          go_wp2
          go_roundw
          case rel => exact ⟨k + 1, by omega, by go_num, by rw [HX.out]; rfl, HD.out, fun j hj => by
            rcases Nat.lt_or_ge j k with h | h
            · exact HA.out j h
            · obtain rfl : j = k := by omega
              exact HG.out⟩
          case measure => simp [intOf]; omega
        · have HF := Lib.hid (isShapeB_false (xs := xs) (fun h => by
            have h1 := h.2 k (by have := HL.out; omega)
            unfold shapeAt at h1
            have := HX.out; have := HY.out
            omega))
          by_cases hx1 : x < 1
          · go_wp2
            go_ret
            exact ⟨ret_bool HF.out.symm, HD.out⟩
          · have hyx : y < x := by omega
            clear hg
            go_wp2
            go_ret
            exact ⟨ret_bool HF.out.symm, HD.out⟩
      · have hkn : k = n := by omega
        subst hkn
        go_wp2
        go_ret
        exact ⟨ret_bool (isShapeB_true ⟨by have := HL.out; omega, by rw [HL.out]; exact HA.out⟩).symm, HD.out⟩
  · have HF := Lib.hid (isShapeB_false (xs := xs) (fun h => by have := h.1; have := HL.out; omega))
    have h16' : (16 : Int) < (n : Int) := by omega
    go_enter Try.func90, Try.ntmps90
    go_wp2
    go_ret
    exact ⟨ret_bool HF.out.symm, Drawn.refl _⟩
end Go.Proofs.Ytjpoliibljjhnaa

/-
  The lengths of rows as an array of sixteen numbers, and back. Conditions: lengths below 2^40.
-/



namespace Go.Proofs.Ytjpoliibljjhnaa
open Go.RowKit

abbrev arrD (l : List Int) : Array Value := #[.int .i64 (nth l 0), .int .i64 (nth l 1), .int .i64 (nth l 2), .int .i64 (nth l 3), .int .i64 (nth l 4), .int .i64 (nth l 5), .int .i64 (nth l 6), .int .i64 (nth l 7), .int .i64 (nth l 8), .int .i64 (nth l 9), .int .i64 (nth l 10), .int .i64 (nth l 11), .int .i64 (nth l 12), .int .i64 (nth l 13), .int .i64 (nth l 14), .int .i64 (nth l 15)]
abbrev arr16 (l : List Int) : Value := .agg (arrD l)
theorem lt16 {k : Nat} (h : k < 16) : k = 0 ∨ k = 1 ∨ k = 2 ∨ k = 3 ∨ k = 4 ∨ k = 5 ∨ k = 6 ∨ k = 7 ∨ k = 8 ∨ k = 9 ∨ k = 10 ∨ k = 11 ∨ k = 12 ∨ k = 13 ∨ k = 14 ∨ k = 15 := by omega
theorem arrD_get (l : List Int) (k : Nat) (h : k < 16) : (arrD l)[k]? = some (.int .i64 (nth l k)) := by
  rcases lt16 h with rfl | rfl | rfl | rfl | rfl | rfl | rfl | rfl | rfl | rfl | rfl | rfl | rfl | rfl | rfl | rfl <;> rfl
theorem arrD_of {l : List Int} (h : l.length = 16) : (l.map (Value.int .i64)).toArray = arrD l := by
  apply Array.ext_getElem?
  intro k
  by_cases hk : k < 16
  · rw [arrD_get l k hk]
    simp only [List.getElem?_toArray, List.getElem?_map]
    rw [nth_get? (by omega)]; rfl
  · rw [Array.getElem?_eq_none (by simp [h]; omega), Array.getElem?_eq_none (by simp; omega)]
theorem arrD_set (l : List Int) (k : Nat) (_ : k < 16) (x : Int) (hl : l.length = 16) : (arrD l).setIfInBounds k (.int .i64 x) = arrD (l.set k x) := by
  rw [← arrD_of hl, ← arrD_of (l := l.set k x) (by simpa using hl)]
  simp [List.map_set]
theorem arrD_one (l : List Int) : (arrD l).all (·.oneCell') = true := by simp [Value.oneCell']
theorem Try.infoRows : (Try.prog.info? 98).map (·.size) = some 16 := by kernel_rfl
theorem Try.undRows : Try.prog.underlying 98 = some (.array 16 3) := Try.underlying98
theorem Try.lenRows : Try.prog.arrayLen 98 = 16 := by kernel_rfl
theorem Try.elemRows : Try.prog.elem 98 = 3 := by kernel_rfl
theorem SI.of_rows {w : World} {g t n : Nat} {l : List Int} (h : Blk w g t (arrD l)) (hn : n ≤ 16) (hl : l.length = 16) : SI w (some ⟨g, 0, none⟩) n (l.take n) := by
  refine ⟨by simp; omega, fun _ => ⟨g, 0, rfl, h.lt, fun k hk => ?_⟩⟩
  rw [nth_take hk, Nat.zero_add, h.cell, arrD_get l k (by omega)]
theorem sliceRows_to (a : Addr) (n : Nat) (hn : n ≤ 16) (w : World) : (Instr.sliceAt 98 (.pointer (some a)) none (some (.int .i64 n)) none).run Try.prog w = .ok (.slice (some a) n 16) w := by
  obtain ⟨i0, hi, hz0, hz1, hz2⟩ := info_parts Try.infoInt
  have h := run_sliceAt_array_h (P := Try.prog) w 98 a (by rw [Try.lenRows, Try.elemRows]; exact Try.undRows) .i64 (n : Int) (by omega) (by rw [Try.lenRows]; omega)
  rw [h, Try.lenRows, Try.elemRows]
  simp [sizeOf, typeInfo, hi, slicedAt, Addr.add]
abbrev zero16 : Array Value := #[.int .i64 0, .int .i64 0, .int .i64 0, .int .i64 0, .int .i64 0, .int .i64 0, .int .i64 0, .int .i64 0, .int .i64 0, .int .i64 0, .int .i64 0, .int .i64 0, .int .i64 0, .int .i64 0, .int .i64 0, .int .i64 0]
set_option maxRecDepth 100000 in
set_option maxHeartbeats 800000 in
theorem rowLengthsOf_any (A : Option Addr) (n c : Nat) (xs : List Int) (w : World) (hs : SI w A n xs) (hn : n ≤ 16) :
    Calls Try.prog 92 #[.slice A n c] w fun e w' => e = .returned (arr16 (padN 16 xs)) ∧ Below w.heap.size w w' := by
  have HL := Lib.hid hs.1
  have HS := Lib.hid hs
  clear hs
  obtain ⟨t, ht⟩ : ∃ t, t = 98 := ⟨_, rfl⟩
  have hz : zero16 = ((List.replicate 16 (0 : Int)).map (Value.int .i64)).toArray := rfl
  have hz0 : Blk ((w.alloc (.cells zero16 98)).alloc (.cells zero16 98)) (w.heap.size + 1) 98 ((List.replicate 16 (0 : Int)).map (Value.int .i64)).toArray := by
    rw [← hz]
    have := Blk.new (w.alloc (.cells zero16 98)) 98 zero16
    rwa [show (w.alloc (.cells zero16 98)).heap.size = w.heap.size + 1 from by simp] at this
  have hz1 : Blk ((w.alloc (.cells zero16 98)).alloc (.cells zero16 98)) w.heap.size 98 zero16 := (Blk.new w 98 zero16).alloc _
  have hz2 : Below w.heap.size w ((w.alloc (.cells zero16 98)).alloc (.cells zero16 98)) := ((Below.refl _ _).alloc (Nat.le_refl _) _).alloc (by simp) _
  have hz3 : SI ((w.alloc (.cells zero16 98)).alloc (.cells zero16 98)) A n xs := (HS.out.alloc _).alloc _
  have HZ0 := Lib.hid hz0
  have HZ1 := Lib.hid hz1
  have HZ2 := Lib.hid hz2
  have HZ3 := Lib.hid hz3
  clear hz0 hz1 hz2 hz3 hz ht t
  go_enter Try.func92, Try.ntmps92
  go_wp2_with (first
    | (skip
       refine wpList_copy_arr rfl (.tmp 4) (.tmp 5) rfl (w.heap.size + 1) 16 A n c rfl rfl 98 xs HZ0.out HZ3.out hn ?_
       intro w4 hb4 hg4
       rw [arrD_of (padN_len (by rw [HL.out]; exact hn))] at hb4
       have HB4 := Lib.hid hb4
       have HA4 : Hid (Blk w4 w.heap.size 98 zero16) := Lib.hid (HZ1.out.grown hg4 (by intro e; injection e with e; omega))
       have HW4 : Hid (Below w.heap.size w w4) := Lib.hid (HZ2.out.grown hg4 HZ2.out.size (by rintro q ⟨⟩; omega))
       clear hb4 hg4)
    | (refine wpList_load_blk rfl 98 (.tmp 3) rfl (w.heap.size + 1) rfl 98 (arrD (padN 16 xs)) 16 3 HB4.out Try.undRows Try.infoRows ?_)
    | (refine wpList_store_blk rfl 98 (.tmp 2) (.tmp 7) rfl w.heap.size (arrD (padN 16 xs)) rfl rfl 98 zero16 HA4.out Try.infoRows rfl (arrD_one _) ?_; intro w5 hb5 hg5)
    | fail)
  refine bodyPost_ret (results_blk Try.results92 _ _ _ _ _ 16 3 rfl hb5 Try.undRows Try.infoRows) rfl ?_
  exact ⟨rfl, HW4.out.grown hg5 HW4.out.size (by rintro q ⟨⟩; exact Nat.le_refl _)⟩
end Go.Proofs.Ytjpoliibljjhnaa

/-
  The conjugate shape, on both sides. Conditions: lengths below 2^40.
-/


namespace Go.Proofs.Ytjpoliibljjhnaa
open Go.RowKit

/-- How many of the first k numbers are more than j. -/
def cntN (xs : List Int) (j : Nat) : Nat → Int
  | 0 => 0
  | k + 1 => if (j : Int) < nth xs k then cntN xs j k + 1 else cntN xs j k
theorem cntN_range (xs : List Int) (j : Nat) : ∀ k : Nat, 0 ≤ cntN xs j k ∧ cntN xs j k ≤ (k : Int)
  | 0 => ⟨Int.le_refl _, Int.le_refl _⟩
  | k + 1 => by
    have := cntN_range xs j k
    unfold cntN
    split <;> omega
def conjL (xs : List Int) (m : Nat) : List Int := (List.range m).map fun j => cntN xs j xs.length
theorem conjL_len (xs : List Int) (m : Nat) : (conjL xs m).length = m := by simp [conjL]
theorem conjL_succ (xs : List Int) (m : Nat) : conjL xs (m + 1) = conjL xs m ++ [cntN xs m xs.length] := by simp [conjL, List.range_succ]
/-- What ConjugateShape answers. -/
def conjShape (xs : List Int) : List Int := if isShapeB xs = true then conjL xs (nth xs 0).toNat else []
theorem conj_no {xs : List Int} (h : isShapeB xs = false) : conjShape xs = [] := by unfold conjShape; rw [if_neg (by rw [h]; decide)]
theorem conj_yes {xs : List Int} (h : isShapeB xs = true) : conjShape xs = conjL xs (nth xs 0).toNat := by unfold conjShape; rw [if_pos h]
theorem shape_first {xs : List Int} (h : isShapeP xs) : ∀ k, k < xs.length → nth xs k ≤ nth xs 0 := by
  intro k
  induction k with
  | zero => intro _; exact Int.le_refl _
  | succ k ih => intro hk; have h1 := ih (by omega); have h2 : nth xs (k + 1) ≤ nth xs k := (h.2 (k + 1) hk).2; omega
theorem shape_range {xs : List Int} (h : isShapeP xs) : ∀ k, 0 ≤ nth xs k ∧ nth xs k ≤ 16 := by
  have h0 : nth xs 0 ≤ 16 ∨ xs.length = 0 := by
    by_cases hl : xs.length = 0
    · exact .inr hl
    · exact .inl ((h.2 0 (by omega)).2)
  intro k
  by_cases hk : k < xs.length
  · have h1 := (h.2 k hk).1
    have h2 := shape_first h k hk
    omega
  · rw [nth_out (by omega)]; omega
theorem conj_small (xs : List Int) : (conjShape xs).length ≤ 1099511627775 := by
  unfold conjShape
  split
  · rename_i h
    rw [conjL_len]
    have := shape_range (isShapeB_P h) 0
    omega
  · simp
theorem Fresh.nil_ret' {w w' : World} (h : Below w.heap.size w w') : Fresh w w' (.returned (.slice none 0 0)) [] := ⟨none, 0, 0, rfl, Own.nil _ _ _, h⟩
set_option maxHeartbeats 400000 in
theorem l4At_any (A : Option Addr) (n c : Nat) (xs : List Int) (i : Nat) (w : World) (hs : SI w A n xs) (hn : n ≤ 1099511627776) (hi : i ≤ 1099511627776) :
    Calls Try.prog 180 #[.slice A n c, .int .i64 i] w fun e w' => e = .returned (.int .i64 (nth xs i)) ∧ w = w' := by
  by_cases hlt : i < n
  · obtain ⟨b, o, rfl, hb, hc⟩ := hs.at_ (by omega)
    have hc1 := hc i hlt
    have hlI : (i : Int) < (n : Int) := by omega
    obtain ⟨x, hx⟩ : ∃ x, x = nth xs i := ⟨_, rfl⟩
    rw [← hx] at hc1 ⊢
    clear hc hs hx
    go_enter Try.func180, Try.ntmps180
    go_wp2
    go_ret
    exact ⟨rfl, rfl⟩
  · rw [nth_out (by have := hs.1; omega)]
    have hlI : ¬ (i : Int) < (n : Int) := by omega
    clear hs
    go_enter Try.func180, Try.ntmps180
    go_wp2
    go_ret
    exact ⟨rfl, rfl⟩
end Go.Proofs.Ytjpoliibljjhnaa

/-
  The conjugate shape, the program's side. Conditions: lengths below 2^40.
-/

namespace Go.Proofs.Ytjpoliibljjhnaa
open Go.RowKit

/-- The columns when i rows are counted, and j cells of the next one. -/
def colM (xs : List Int) (m i j : Nat) : List Int := (List.range m).map fun t => if t < j then cntN xs t (i + 1) else cntN xs t i
theorem colM_len (xs : List Int) (m i j : Nat) : (colM xs m i j).length = m := by simp [colM]
theorem colM_nth {xs : List Int} {m i j t : Nat} (h : t < m) : nth (colM xs m i j) t = if t < j then cntN xs t (i + 1) else cntN xs t i := by
  rw [nth_get (by rw [colM_len]; exact h)]; simp [colM]
theorem list_ext_nth {a b : List Int} (hl : a.length = b.length) (h : ∀ k, k < a.length → nth a k = nth b k) : a = b := by
  apply List.ext_getElem hl
  intro j h1 h2
  rw [← nth_get h1, ← nth_get h2]
  exact h j h1
theorem nth_set {l : List Int} {k : Nat} (x : Int) (hk : k < l.length) (j : Nat) : nth (l.set k x) j = if j = k then x else nth l j := by
  unfold nth
  rw [List.getD_eq_getElem?_getD, List.getD_eq_getElem?_getD, List.getElem?_set]
  by_cases h : k = j
  · subst h; simp [hk]
  · rw [if_neg h, if_neg (fun h' => h h'.symm)]
theorem colM_step {xs : List Int} {m i j : Nat} (hj : j < m) (hx : (j : Int) < nth xs i) : (colM xs m i j).set j (cntN xs j i + 1) = colM xs m i (j + 1) := by
  refine list_ext_nth (by simp [colM_len]) fun k hk => ?_
  have hk' : k < m := by simpa [colM_len] using hk
  rw [nth_set _ (by rw [colM_len]; exact hj), colM_nth hk', colM_nth hk']
  by_cases h : k = j
  · subst h
    rw [if_pos rfl, if_pos (by omega)]
    show _ = if (k : Int) < nth xs i then cntN xs k i + 1 else cntN xs k i
    rw [if_pos hx]
  · rw [if_neg h]
    by_cases h2 : k < j
    · rw [if_pos h2, if_pos (by omega)]
    · rw [if_neg h2, if_neg (by omega)]
theorem colM_row {xs : List Int} {m i j : Nat} (hx : nth xs i = (j : Int)) : colM xs m i j = colM xs m (i + 1) 0 := by
  refine list_ext_nth (by simp [colM_len]) fun k hk => ?_
  have hk' : k < m := by simpa [colM_len] using hk
  rw [colM_nth hk', colM_nth hk', if_neg (by omega : ¬ k < 0)]
  by_cases h : k < j
  · rw [if_pos h]
  · rw [if_neg h]
    show _ = if (k : Int) < nth xs i then cntN xs k i + 1 else cntN xs k i
    rw [if_neg (by omega)]
theorem colM_start (xs : List Int) (m : Nat) : colM xs m 0 0 = List.replicate m 0 := by
  refine list_ext_nth (by simp [colM_len]) fun k hk => ?_
  have hk' : k < m := by simpa [colM_len] using hk
  rw [colM_nth hk', if_neg (by omega), nth_get (by simpa using hk')]
  simp [cntN]
theorem colM_all (xs : List Int) (m : Nat) : colM xs m xs.length 0 = conjL xs m := by
  refine list_ext_nth (by simp [colM_len, conjL_len]) fun k hk => ?_
  have hk' : k < m := by simpa [colM_len] using hk
  rw [colM_nth hk', if_neg (by omega), nth_get (by simpa [conjL_len] using hk')]
  simp [conjL]
end Go.Proofs.Ytjpoliibljjhnaa

/-
  Contracts of the program's descents and of reversing a slice. Conditions: lengths below 2^40.
-/

namespace Go.Proofs.Ytjpoliibljjhnaa
open Go.RowKit

theorem descL_fill {xs : List Int} (h : isPermP xs) : ∀ k, k + 1 ≤ xs.length → descL (fillA xs xs.length) k = descL xs k := by
  have h7 := h.2.1
  intro k
  induction k with
  | zero => intro _; rfl
  | succ k ih =>
    intro hk
    unfold descL
    rw [ih (by omega), fillA_lt (by omega) (by omega), fillA_lt (by omega) (by omega)]

set_option maxHeartbeats 2000000 in
theorem implDescents_any (A : Option Addr) (n c : Nat) (xs : List Int) (w : World) (hs : SI w A n xs) (hn : n ≤ 1099511627776) :
    Calls Try.prog 104 #[.slice A n c] w fun e w' => Fresh w w' e (descPerm xs) := by
  have hl := hs.1
  cases hu : isPermB xs with
  | false =>
    have HE := Lib.hid (descPerm_no hu)
    have HU := Lib.hid hu
    clear hu
    go_enter Try.func104, Try.ntmps104
    go_wp2_with fail
    refine (arrayOf_x c HU.out hs hn).mono ?_
    rintro e w1 ⟨l, rfl, -, hb1⟩
    go_wp2
    go_ret
    rw [HE.out]
    exact Fresh.nil_ret (hb1.alloc hb1.size _)
  | true =>
    have HE := Lib.hid (descPerm_yes hu)
    have HU := Lib.hid hu
    have hpos : 1 ≤ n := by have := (isPermB_P hu).1; omega
    have h7 : n ≤ 7 := by have := (isPermB_P hu).2.1; omega
    clear hu
    go_enter Try.func104, Try.ntmps104
    go_wp2_with fail
    refine (arrayOf_x c HU.out hs hn).mono ?_
    rintro e w1 ⟨l, rfl, hlf, hb1⟩
    have HF := Lib.hid (hlf rfl)
    have HL := Lib.hid hl
    clear hlf hl
    have hK := Blk.new w1 107 (arrC l)
    have hb2 : Below w.heap.size w (w1.alloc (.cells (arrC l) 107)) := hb1.alloc hb1.size _
    go_wp2
    obtain ⟨g, hg⟩ : ∃ g, g = w1.heap.size := ⟨_, rfl⟩
    rw [← hg] at hK ⊢
    generalize w1.alloc (.cells (arrC l) 107) = w2 at *
    have hgl := hK.lt
    clear hg
    go_loopw [5, 17] (fun v i wr => ∃ (k m : Nat) (A : Option Addr) (c : Nat), k + 1 ≤ n ∧ i = .int .i64 k ∧ v = .slice A m c ∧ Blk wr g 107 (arrC l) ∧ Own wr w2.heap.size wr.heap.size A m c (descL l k) ∧ Below w2.heap.size w2 wr)
      (fun _ i _ => n - (intOf i).toNat)
    case atStart => exact ⟨0, 0, none, 0, by omega, rfl, rfl, hK, Own.nil _ _ _, Below.refl _ _⟩
    case round =>
      obtain ⟨k, m, A0, c0, hk, rfl, rfl, hA, hown, hbel⟩ := hrel
      have hm : m ≤ 1099511627775 := by
        have h1 := hown.len
        have h2 := descL_len l k
        omega
      have HA := Lib.hid hA
      have HO := Lib.hid hown
      have HB := Lib.hid hbel
      clear hA hown hbel hK
      by_cases hlt : k + 1 < n
      · have hlI : (k : Int) < (n : Int) - 1 := by omega
        go_wp2_with (first | (refine wpList_load_blk rfl 107 (.tmp 3) rfl g rfl 107 (arrC l) 7 3 HA.out Try.undArr Try.infoArr ?_) | fail)
        refine (isDescent_any l k wr (by omega)).mono ?_
        rintro e w4 ⟨rfl, hb4⟩
        have HA4 := Lib.hid (HA.out.below hb4 HA.out.lt)
        have HO4 := Lib.hid ((HO.out.below hb4 (Nat.le_refl _)).wide (Nat.le_refl _) hb4.size)
        have HB4 := Lib.hid (HB.out.trans (hb4.mono HB.out.size))
        clear hb4
        by_cases hd : nth l (k + 1) < nth l k
        · have hdd : decide (nth l (k + 1) < nth l k) = true := by simpa using hd
          rw [hdd]
          have HD := Lib.hid hd
          clear hd hdd
          go_wp2_with (at_builtin; refine wpList_append1 rfl (.tmp 23) (.tmp 25) rfl w2.heap.size A0 m c0 (descL l k) (k : Int) rfl rfl HO4.out HB4.out.size (by omega) ?_; intro A' c' w5 ho5 _ hb5)
          go_roundw
          case rel => exact ⟨k + 1, _, _, _, by omega, by go_num, rfl, HA4.out.below hb5 hgl, by rw [descL_hit HD.out]; exact ho5, HB4.out.trans hb5⟩
          case measure => simp [intOf]; omega
        · have hdd : decide (nth l (k + 1) < nth l k) = false := by simpa using hd
          rw [hdd]
          have HD := Lib.hid hd
          clear hd hdd
          go_wp2
          go_roundw
          case rel => exact ⟨k + 1, _, _, _, by omega, by go_num, rfl, HA4.out, by rw [descL_miss (by have := HD.out; omega)]; exact HO4.out, HB4.out⟩
          case measure => simp [intOf]; omega
      · have hkn : n = k + 1 := by omega
        subst hkn
        go_wp2
        go_ret
        have e1 := HF.out
        have e2 := HL.out
        have e3 := descL_fill (isPermB_P HU.out) k (by omega)
        have ho := HO.out
        rw [e2] at e3
        rw [e1, e3] at ho
        rw [HE.out, e2, Nat.add_sub_cancel]
        exact Fresh.after hb2 ⟨A0, _, c0, rfl, ho, HB.out⟩

/-- Reversing, k places exchanged from both ends. -/
def revM (xs : List Int) (n k : Nat) : List Int := (List.range n).map fun t => if t < k ∨ n ≤ t + k then nth xs (n - 1 - t) else nth xs t
theorem revM_len (xs : List Int) (n k : Nat) : (revM xs n k).length = n := by simp [revM]
theorem revM_nth (xs : List Int) (n k t : Nat) (h : t < n) : nth (revM xs n k) t = if t < k ∨ n ≤ t + k then nth xs (n - 1 - t) else nth xs t := by
  rw [nth_get (by rw [revM_len]; exact h)]; simp [revM]
theorem revM_zero (xs : List Int) : revM xs xs.length 0 = xs := by
  apply List.ext_getElem (by simp [revM])
  intro j h1 h2
  simp only [revM, List.getElem_map, List.getElem_range]
  rw [if_neg (by omega), nth_get h2]
theorem revM_done (xs : List Int) (k : Nat) (h : xs.length ≤ 2 * k + 1) : revM xs xs.length k = xs.reverse := by
  apply List.ext_getElem (by simp [revM])
  intro j h1 h2
  have hj : j < xs.length := by rw [revM_len] at h1; exact h1
  simp only [revM, List.getElem_map, List.getElem_range, List.getElem_reverse]
  split
  · rw [nth_get (by omega)]
  · rename_i hc
    have e : xs.length - 1 - j = j := by omega
    simp only [e]
    rw [nth_get hj]
theorem revM_step (xs : List Int) (n k : Nat) (h : 2 * k + 1 < n) :
    ((revM xs n k).set k (nth xs (n - 1 - k))).set (n - 1 - k) (nth xs k) = revM xs n (k + 1) := by
  apply List.ext_getElem (by simp [revM])
  intro j h1 h2
  have hj : j < n := by rw [revM_len] at h2; exact h2
  rw [List.getElem_set]
  simp only [revM, List.getElem_map, List.getElem_range]
  by_cases e : n - 1 - k = j
  · rw [if_pos e, if_pos (by omega)]
    rw [show n - 1 - j = k from by omega]
  · rw [if_neg e, List.getElem_set]
    simp only [List.getElem_map, List.getElem_range]
    by_cases e2 : k = j
    · rw [if_pos e2, if_pos (by omega), e2]
    · rw [if_neg e2]
      by_cases h3 : j < k ∨ n ≤ j + k
      · rw [if_pos h3, if_pos (by omega)]
      · rw [if_neg h3, if_neg (by omega)]

theorem idL_reverse (n : Nat) : (idL n).reverse = downL n n := by
  apply List.ext_getElem (by simp [idL, downL])
  intro j h1 h2
  simp only [List.getElem_reverse, idL, downL, List.getElem_map, List.getElem_range, List.length_map, List.length_range]
  have : j < n := by simpa [idL] using h1
  omega

end Go.Proofs.Ytjpoliibljjhnaa

/-
  The shape of a permutation with one descent, on both sides. Conditions: lengths below 2^40.
-/




namespace Go.Proofs.Ytjpoliibljjhnaa
open Go.RowKit

/-- Where the zeros at the end of a list begin. -/
def bareN (xs : List Int) : Nat → Nat
  | 0 => 0
  | k + 1 => if nth xs k = 0 then bareN xs k else k + 1
theorem bareN_le (xs : List Int) : ∀ k, bareN xs k ≤ k
  | 0 => Nat.le_refl _
  | k + 1 => by have := bareN_le xs k; unfold bareN; split <;> omega
theorem bareN_out (xs : List Int) : ∀ k j, bareN xs k ≤ j → j < k → nth xs j = 0
  | 0, j, _, h => absurd h (by omega)
  | k + 1, j, h1, h2 => by
    unfold bareN at h1
    split at h1
    · by_cases hj : j = k
      · subst hj; assumption
      · exact bareN_out xs k j h1 (by omega)
    · omega
theorem bareN_last (xs : List Int) : ∀ k, bareN xs k = 0 ∨ nth xs (bareN xs k - 1) ≠ 0
  | 0 => .inl rfl
  | k + 1 => by
    unfold bareN
    split
    · exact bareN_last xs k
    · right; assumption
set_option maxHeartbeats 800000 in
theorem l4Bare_any (A : Option Addr) (n c : Nat) (xs : List Int) (w : World) (hs : SI w A n xs) (hnc : n ≤ c) (hA : A ≠ none) (hn : n ≤ 1099511627776) :
    Calls Try.prog 181 #[.slice A n c] w fun e w' => Fresh w w' e (xs.take (bareN xs n)) := by
  obtain ⟨a, rfl⟩ : ∃ a, A = some a := by cases A with | none => exact absurd rfl hA | some a => exact ⟨a, rfl⟩
  have HS := Lib.hid hs
  clear hs hA
  go_enter Try.func181, Try.ntmps181
  go_wp2
  go_loopw [3] (fun i wr => ∃ k : Nat, k ≤ n ∧ i = .int .i64 k ∧ Drawn w wr ∧ bareN xs n = bareN xs k)
    (fun i _ => (intOf i).toNat)
  case atStart => exact ⟨n, Nat.le_refl _, rfl, Drawn.refl _, rfl⟩
  case round =>
    obtain ⟨k, hk, rfl, hD, hb⟩ := hrel
    have HB := Lib.hid hb
    have HD := Lib.hid hD
    clear hb hD
    cases k with
    | zero =>
      have HT := Lib.hid (l1Ints_any (some a) 0 c [] wr ⟨rfl, fun h => absurd h (by omega)⟩ (by omega))
      have hc0 : (0 : Int) ≤ (c : Int) := by omega
      go_wp2_with (go_at_call 173; refine HT.out.mono ?_; rintro e w2 ⟨A2, n2, c2, rfl, ho, hb2⟩; have HO := Lib.hid ho; have HB2 := Lib.hid hb2; clear ho hb2)
      go_ret
      rw [HB.out]
      exact ⟨A2, n2, c2, rfl, by show Own _ _ _ _ _ _ (xs.take 0); rw [List.take_zero]; exact HO.out.wide (HD.out.below w.heap.size).size (Nat.le_refl _), (HD.out.below _).trans (HB2.out.mono (HD.out.below w.heap.size).size)⟩
    | succ k =>
      obtain ⟨b, o, e1, hb, hc⟩ := (HD.out.si HS.out).at_ (by omega)
      obtain rfl : a = ⟨b, o, none⟩ := by simpa using e1
      have hc1 := hc k (by omega)
      have e : bareN xs (k + 1) = if nth xs k = 0 then bareN xs k else k + 1 := rfl
      obtain ⟨x, hx⟩ : ∃ x, x = nth xs k := ⟨_, rfl⟩
      rw [← hx] at hc1 e
      have hkI : (k : Int) < (n : Int) := by omega
      have hk0 : (0 : Int) < ((k + 1 : Nat) : Int) := by omega
      have hwk : IntKind.i64.wrap (((k + 1 : Nat) : Int) - 1) = (k : Int) := by rw [show ((k + 1 : Nat) : Int) - 1 = (k : Int) by omega]; exact IntWalk.i64_in _ (by omega)
      clear hc hx e1
      by_cases h0 : x = 0
      · rw [if_pos h0] at e
        have HE := Lib.hid e
        have hb0 : (x == 0) = true := by simpa using h0
        clear e
        go_wp2
        go_roundw
        case rel => exact ⟨k, by omega, by go_num, HD.out, by rw [HB.out, HE.out]⟩
        case measure => simp [intOf]
      · rw [if_neg h0] at e
        have HE := Lib.hid e
        have hb0 : (x == 0) = false := by simpa using h0
        have hic : ((k + 1 : Nat) : Int) ≤ (c : Int) := by omega
        have hi0 : (0 : Int) ≤ ((k + 1 : Nat) : Int) := by omega
        have HT := Lib.hid (l1Ints_any (some ⟨b, o, none⟩) (k + 1) c (xs.take (k + 1)) wr ((HD.out.si HS.out).take (by omega)) (by omega))
        obtain ⟨q, hq⟩ : ∃ q, q = k + 1 := ⟨_, rfl⟩
        rw [← hq] at hk0 hic hi0 hwk hk HE HT HB ⊢
        clear e hq
        go_wp2_with (go_at_call 173; refine HT.out.mono ?_; rintro e w2 ⟨A2, n2, c2, rfl, ho, hb2⟩; have HO := Lib.hid ho; have HB2 := Lib.hid hb2; clear ho hb2)
        go_ret
        rw [HB.out, HE.out]
        exact ⟨A2, n2, c2, rfl, HO.out.wide (HD.out.below w.heap.size).size (Nat.le_refl _), (HD.out.below _).trans (HB2.out.mono (HD.out.below w.heap.size).size)⟩
set_option maxRecDepth 100000 in
set_option maxHeartbeats 800000 in
/-- The rows of an array, up to the first one that is not above 0. -/
theorem rowsShape_any (l : List Int) (w : World) (hl : l.length = 16) :
    Calls Try.prog 185 #[arr16 l] w fun e w' => ∃ q, q ≤ 16 ∧ (∀ j, j < q → 0 < nth l j) ∧ (q = 16 ∨ ¬ 0 < nth l q) ∧ Fresh w w' e (l.take q) := by
  have HL := Lib.hid hl
  obtain ⟨w0, hw0⟩ : ∃ w0, w0 = w.alloc (.cells (arrD l) 98) := ⟨_, rfl⟩
  obtain ⟨g, hg⟩ : ∃ g, g = w.heap.size := ⟨_, rfl⟩
  have HB0 : Hid (Below w.heap.size w w0) := Lib.hid (by rw [hw0]; exact Below.alloc_self _ _)
  have HK0 : Hid (Blk w0 g 98 (arrD l)) := Lib.hid (by rw [hw0, hg]; exact Blk.new _ _ _)
  clear hl
  go_enter Try.func185, Try.ntmps185
  go_upto_region 1 with fail
  rw [← hw0, ← hg]
  clear hw0 hg
  generalize arr16 l = va
  go_wp2
  go_loopw [3] (fun i wr => ∃ k : Nat, k ≤ 16 ∧ i = .int .i64 k ∧ Drawn w0 wr ∧ ∀ j, j < k → 0 < nth l j)
    (fun i _ => 16 - (intOf i).toNat)
  case atStart => exact ⟨0, Nat.zero_le _, rfl, Drawn.refl _, fun j hj => absurd hj (by omega)⟩
  case round =>
    obtain ⟨k, hk, rfl, hD, hall⟩ := hrel
    have HA := Lib.hid hall
    have HD := Lib.hid hD
    have HK := Lib.hid (HK0.out.drawn hD)
    have HBR : Hid (Below w.heap.size w wr) := Lib.hid (HB0.out.trans ((hD.below _).mono HB0.out.size))
    have hcl := clone_any (some ⟨g, 0, none⟩) k 16 (l.take k) wr (SI.of_rows HK.out hk HL.out) (by intro h; cases h) (by omega)
    have HCL := Lib.hid hcl
    have hsl := fun wx => sliceRows_to ⟨g, 0, none⟩ k hk wx
    clear hall hD hcl
    by_cases hlt : k < 16
    · have hkI : (k : Int) < 16 := by omega
      have hc1 : wr.cell? ⟨g, k, none⟩ = some (.int .i64 (nth l k)) := by rw [HK.out.cell, arrD_get _ _ hlt]
      obtain ⟨x, hx⟩ : ∃ x, x = nth l k := ⟨_, rfl⟩
      rw [← hx] at hc1
      have HX := Lib.hid hx
      clear hx
      by_cases h0 : 0 < x
      · clear hsl
        go_wp2
        go_roundw
        case rel => exact ⟨k + 1, by omega, by go_num, HD.out, fun j hj => by
          rcases Nat.lt_or_ge j k with h | h
          · exact HA.out j h
          · obtain rfl : j = k := by omega
            rw [← HX.out]; exact h0⟩
        case measure => simp [intOf]; omega
      · go_wp2_with (go_at_call 190; refine HCL.out.mono ?_; rintro e w2 ⟨A2, n2, c2, rfl, ho, hb2⟩; have HO := Lib.hid ho; have HB2 := Lib.hid hb2; clear ho hb2)
        go_ret
        exact ⟨k, hk, HA.out, .inr (by rw [← HX.out]; exact h0), A2, n2, c2, rfl, HO.out.wide HBR.out.size (Nat.le_refl _), HBR.out.trans (HB2.out.mono HBR.out.size)⟩
    · have hk16 : k = 16 := by omega
      subst hk16
      go_wp2_with (go_at_call 190; refine HCL.out.mono ?_; rintro e w2 ⟨A2, n2, c2, rfl, ho, hb2⟩; have HO := Lib.hid ho; have HB2 := Lib.hid hb2; clear ho hb2)
      go_ret
      exact ⟨16, hk, HA.out, .inl rfl, A2, n2, c2, rfl, HO.out.wide HBR.out.size (Nat.le_refl _), HBR.out.trans (HB2.out.mono HBR.out.size)⟩
/-- A list that nowhere rises and is nowhere below 0: both ways to strike its zeros are one. -/
theorem bare_one {l : List Int} {n q : Nat} (hn : l.length = n) (h0 : ∀ j, 0 ≤ nth l j) (hd : ∀ i j, i ≤ j → nth l j ≤ nth l i) (hq : ∀ j, j < q → 0 < nth l j) (hq' : ¬ 0 < nth l q) : q = bareN l n := by
  have h1 := bareN_le l n
  rcases Nat.lt_trichotomy q (bareN l n) with h | h | h
  · rcases bareN_last l n with h2 | h2
    · omega
    · have := hd q (bareN l n - 1) (by omega)
      have := h0 (bareN l n - 1)
      omega
  · exact h
  · have := hq (bareN l n) h
    by_cases hb : bareN l n < n
    · rw [bareN_out l n _ (Nat.le_refl _) hb] at this; omega
    · rw [nth_out (by omega)] at this; omega
end Go.Proofs.Ytjpoliibljjhnaa

/-
  ShapeOfPerm on both sides. Conditions: lengths below 2^40.
-/


namespace Go.Proofs.Ytjpoliibljjhnaa
open Go.RowKit

/-- The lengths of the rows, of which there are j, of a permutation whose descent is at d. -/
def sopN (xs : List Int) (d j : Nat) : List Int := (List.range j).map fun (t : Nat) => nth xs (d - t) - ((d - t : Nat) : Int)
theorem sopN_len (xs : List Int) (d j : Nat) : (sopN xs d j).length = j := by simp [sopN]
theorem sopN_succ (xs : List Int) (d j : Nat) : sopN xs d (j + 1) = sopN xs d j ++ [nth xs (d - j) - ((d - j : Nat) : Int)] := by simp [sopN, List.range_succ]
theorem sopN_nth {xs : List Int} {d j t : Nat} (h : t < j) : nth (sopN xs d j) t = nth xs (d - t) - ((d - t : Nat) : Int) := by
  rw [nth_get (by rw [sopN_len]; exact h)]; simp [sopN]
def sopOk (xs : List Int) : Bool := decide ((descPerm xs).length = 1)
def sopD (xs : List Int) : Nat := (nth (descPerm xs) 0).toNat
def sopK (xs : List Int) : Int := if sopOk xs = true then (sopD xs : Int) + 1 else 0
def sopS (xs : List Int) : List Int := if sopOk xs = true then (sopN xs (sopD xs) (sopD xs + 1)).take (bareN (sopN xs (sopD xs) (sopD xs + 1)) (sopD xs + 1)) else []
theorem sop_no {xs : List Int} (h : sopOk xs = false) : sopK xs = 0 ∧ sopS xs = [] := by unfold sopK sopS; rw [h]; exact ⟨rfl, rfl⟩
theorem sop_yes {xs : List Int} (h : sopOk xs = true) {d : Nat} (hd : sopD xs = d) : sopK xs = (d : Int) + 1 ∧ sopS xs = (sopN xs d (d + 1)).take (bareN (sopN xs d (d + 1)) (d + 1)) := by subst hd; unfold sopK sopS; rw [h]; exact ⟨rfl, rfl⟩
theorem descL_inS {xs : List Int} : ∀ {n : Nat} {x : Int}, x ∈ descL xs n → ∃ k : Nat, k < n ∧ x = k ∧ nth xs (k + 1) < nth xs k
  | 0, x, h => by simp [descL] at h
  | n + 1, x, h => by
    by_cases hc : nth xs (n + 1) < nth xs n
    · rw [descL_hit hc] at h
      rcases List.mem_append.1 h with h | h
      · obtain ⟨k, h1, h2⟩ := descL_inS h; exact ⟨k, by omega, h2⟩
      · exact ⟨n, by omega, List.mem_singleton.1 h, hc⟩
    · rw [descL_miss hc] at h
      obtain ⟨k, h1, h2⟩ := descL_inS h; exact ⟨k, by omega, h2⟩
theorem descL_all {xs : List Int} : ∀ {n k : Nat}, k < n → nth xs (k + 1) < nth xs k → (k : Int) ∈ descL xs n
  | 0, k, h, _ => absurd h (by omega)
  | n + 1, k, h, hk => by
    by_cases hkn : k = n
    · subst hkn; rw [descL_hit hk]; simp
    · have := descL_all (n := n) (by omega) hk
      by_cases hc : nth xs (n + 1) < nth xs n
      · rw [descL_hit hc]; exact List.mem_append.2 (.inl this)
      · rw [descL_miss hc]; exact this
structure SopF (xs : List Int) (d : Nat) : Prop where
  perm : isPermP xs
  desc : descPerm xs = [(d : Int)]
  lt : d + 1 < xs.length
  up : ∀ i, i < d → nth xs i < nth xs (i + 1)
theorem sop_facts {xs : List Int} (h : sopOk xs = true) : ∃ d, sopD xs = d ∧ SopF xs d := by
  unfold sopOk at h
  have h1 : (descPerm xs).length = 1 := of_decide_eq_true h
  obtain ⟨x, hx⟩ : ∃ x, descPerm xs = [x] := by
    match hd : descPerm xs, h1 with
    | [x], _ => exact ⟨x, rfl⟩
  have hb : isPermB xs = true := by
    cases hb : isPermB xs with
    | true => rfl
    | false => rw [descPerm_no hb] at hx; cases hx
  have hp := isPermB_P hb
  have hdl := hx
  rw [descPerm_yes hb] at hdl
  obtain ⟨d, h2, rfl, h4⟩ := descL_inS (xs := xs) (n := xs.length - 1) (x := x) (by rw [hdl]; simp)
  refine ⟨d, by unfold sopD; rw [hx]; simp [nth], hp, hx, by omega, fun i hi => ?_⟩
  have hne : ¬ nth xs (i + 1) < nth xs i := fun hlt => by
    have := descL_all (xs := xs) (n := xs.length - 1) (k := i) (by omega) hlt
    rw [hdl] at this
    have := List.mem_singleton.1 this
    omega
  have hd : nth xs i ≠ nth xs (i + 1) := fun e => by
    have h5 := (hp.2.2 (i + 1) (by omega)).2.2
    simp only [hasB, decide_eq_false_iff_not] at h5
    apply h5
    rw [← e, ← nth_take (show i < i + 1 by omega), nth_get (by rw [List.length_take]; omega)]
    exact List.getElem_mem _
  omega
theorem sopS_small (xs : List Int) : (sopS xs).length ≤ 1099511627775 := by
  cases hu : sopOk xs with
  | false => rw [(sop_no hu).2]; simp
  | true =>
    obtain ⟨d, hd, hf⟩ := sop_facts hu
    rw [(sop_yes hu hd).2, List.length_take, sopN_len]
    have := hf.lt; have := hf.perm.2.1
    omega
theorem SopF.ge {xs : List Int} {d : Nat} (h : SopF xs d) : ∀ i, i ≤ d → (i : Int) ≤ nth xs i
  | 0, _ => (h.perm.range 0 (by have := h.lt; omega)).1
  | i + 1, hi => by have := h.ge i (by omega); have := h.up i (by omega); omega
theorem SopF.le7 {xs : List Int} {d : Nat} (h : SopF xs d) : d ≤ 5 ∧ ∀ i, i ≤ d → 0 ≤ nth xs i ∧ nth xs i ≤ 6 := by
  have := h.lt; have := h.perm.2.1
  exact ⟨by omega, fun i hi => by have := h.perm.range i (by omega); omega⟩
theorem SopF.nonneg {xs : List Int} {d : Nat} (h : SopF xs d) (j : Nat) : 0 ≤ nth (sopN xs d (d + 1)) j := by
  by_cases hj : j < d + 1
  · rw [sopN_nth hj]; have := h.ge (d - j) (by omega); omega
  · rw [nth_out (by rw [sopN_len]; omega)]; exact Int.le_refl _
theorem SopF.down {xs : List Int} {d : Nat} (h : SopF xs d) : ∀ i j, i ≤ j → nth (sopN xs d (d + 1)) j ≤ nth (sopN xs d (d + 1)) i := by
  have step : ∀ i, nth (sopN xs d (d + 1)) (i + 1) ≤ nth (sopN xs d (d + 1)) i := fun i => by
    by_cases hi : i + 1 < d + 1
    · rw [sopN_nth hi, sopN_nth (by omega)]
      have := h.up (d - (i + 1)) (by omega)
      rw [show d - (i + 1) + 1 = d - i by omega] at this
      omega
    · rw [nth_out (by rw [sopN_len]; omega)]; exact h.nonneg i
  intro i j hij
  induction j with
  | zero => obtain rfl : i = 0 := by omega
            exact Int.le_refl _
  | succ j ih =>
    by_cases hi : i = j + 1
    · subst hi; exact Int.le_refl _
    · exact Int.le_trans (step j) (ih (by omega))
/-- What a call that answers a list, a number and a Bool hands back. -/
def FreshIB (w w' : World) (e : Ending) (ys : List Int) (k : Int) (b : Bool) : Prop :=
  ∃ A n c, e = .returned (.tuple #[.slice A n c, .int .i64 k, .bool b]) ∧ Own w' w.heap.size w'.heap.size A n c ys ∧ Below w.heap.size w w'
theorem FreshIB.nil_ret {w w' : World} (h : Below w.heap.size w w') : FreshIB w w' (.returned (.tuple #[.slice none 0 0, .int .i64 0, .bool false])) [] 0 false := ⟨none, 0, 0, rfl, Own.nil _ _ _, h⟩
/-- The rows when i numbers are taken. -/
def rowP (xs : List Int) (d i : Nat) : List Int := (List.range 16).map fun (t : Nat) => if d < t + i ∧ t ≤ d then nth xs (d - t) - ((d - t : Nat) : Int) else 0
theorem rowP_len (xs : List Int) (d i : Nat) : (rowP xs d i).length = 16 := by simp [rowP]
theorem rowP_nth {xs : List Int} {d i t : Nat} (h : t < 16) : nth (rowP xs d i) t = if d < t + i ∧ t ≤ d then nth xs (d - t) - ((d - t : Nat) : Int) else 0 := by
  rw [nth_get (by rw [rowP_len]; exact h)]; simp [rowP]
theorem rowP_step {xs : List Int} {d i : Nat} (hd : d ≤ 15) (hi : i ≤ d) : (rowP xs d i).set (d - i) (nth xs i - (i : Int)) = rowP xs d (i + 1) := by
  refine list_ext_nth (by simp [rowP_len]) fun k hk => ?_
  have hk' : k < 16 := by simpa [rowP_len] using hk
  rw [nth_set _ (by rw [rowP_len]; omega), rowP_nth hk', rowP_nth hk']
  by_cases h : k = d - i
  · rw [if_pos h, if_pos (by omega), h, show d - (d - i) = i by omega]
  · rw [if_neg h]
    by_cases h2 : d < k + i ∧ k ≤ d
    · rw [if_pos h2, if_pos (by omega)]
    · rw [if_neg h2, if_neg (by omega)]
theorem rowP_zero (xs : List Int) (d : Nat) : arrD (rowP xs d 0) = zero16 := by
  have h : ∀ k, k < 16 → nth (rowP xs d 0) k = 0 := fun k hk => by rw [rowP_nth hk, if_neg (by omega)]
  simp only [arrD, h 0 (by omega), h 1 (by omega), h 2 (by omega), h 3 (by omega), h 4 (by omega), h 5 (by omega), h 6 (by omega), h 7 (by omega), h 8 (by omega), h 9 (by omega), h 10 (by omega), h 11 (by omega), h 12 (by omega), h 13 (by omega), h 14 (by omega), h 15 (by omega)]
theorem rowP_all {xs : List Int} {d : Nat} (hd : d ≤ 15) (k : Nat) : nth (rowP xs d (d + 1)) k = nth (sopN xs d (d + 1)) k := by
  by_cases hk : k < d + 1
  · rw [rowP_nth (by omega), sopN_nth hk, if_pos (by omega)]
  · rw [nth_out (xs := sopN xs d (d + 1)) (by rw [sopN_len]; omega)]
    by_cases h16 : k < 16
    · rw [rowP_nth h16, if_neg (by omega)]
    · rw [nth_out (by rw [rowP_len]; omega)]
theorem load_rows {w : World} {g : Nat} {l : List Int} (h : Blk w g 98 (arrD l)) : (loadVar 98 ⟨g, 0, none⟩).run Try.prog w = .ok (arr16 l) w :=
  run_loadVar_row w g 98 98 (arrD l) (0, 0) _ h Try.undRows rfl (by rw [Try.infoRows]; rfl)
end Go.Proofs.Ytjpoliibljjhnaa

/-
  Shapes in a box and their permutations, on both sides. Conditions: lengths below 2^40.
-/

namespace Go.Proofs.Ytjpoliibljjhnaa
open Go.RowKit

/-- Is the list a shape in the box of k and m. -/
def boxP (xs : List Int) (k m : Int) : Prop := 1 ≤ m ∧ m ≤ 7 ∧ 0 ≤ k ∧ k ≤ m ∧ isShapeP xs ∧ (xs.length : Int) ≤ k ∧ nth xs 0 ≤ m - k
def boxB (xs : List Int) (k m : Int) : Bool := decide (1 ≤ m) && decide (m ≤ 7) && decide (0 ≤ k) && decide (k ≤ m) && isShapeB xs && decide ((xs.length : Int) ≤ k) && decide (nth xs 0 ≤ m - k)
theorem boxB_iff (xs : List Int) (k m : Int) : boxB xs k m = true ↔ boxP xs k m := by simp [boxB, boxP, and_assoc, isShapeB_iff]
theorem boxB_P {xs : List Int} {k m : Int} (h : boxB xs k m = true) : boxP xs k m := (boxB_iff _ _ _).1 h
theorem boxB_true {xs : List Int} {k m : Int} (h : boxP xs k m) : boxB xs k m = true := (boxB_iff _ _ _).2 h
theorem boxB_false {xs : List Int} {k m : Int} (h : ¬ boxP xs k m) : boxB xs k m = false := by
  cases hb : boxB xs k m with
  | false => rfl
  | true => exact absurd (boxB_P hb) h
theorem isBox_any (k m : Int) (w : World) :
    Calls Try.prog 91 #[.int .i64 k, .int .i64 m] w fun e w' => e = .returned (.bool (decide (1 ≤ m ∧ m ≤ 7 ∧ 0 ≤ k ∧ k ≤ m))) ∧ w = w' := by
  by_cases h1 : 1 ≤ m ∧ m ≤ 7
  · have H1 := Lib.hid (fun w => isPermSize_yes h1.1 h1.2 w)
    by_cases h2 : 0 ≤ k
    · rw [show decide (1 ≤ m ∧ m ≤ 7 ∧ 0 ≤ k ∧ k ≤ m) = decide (k ≤ m) by simp [h1.1, h1.2, h2]]
      clear h1
      go_enter Try.func91, Try.ntmps91
      go_wp2_with (go_at_call 182; refine (H1.out _).mono ?_; rintro e w1 ⟨rfl, rfl⟩)
      go_ret
      exact ⟨rfl, rfl⟩
    · rw [decide_eq_false (fun h => h2 h.2.2.1)]
      have h2' : k < 0 := by omega
      clear h1
      go_enter Try.func91, Try.ntmps91
      go_wp2_with (go_at_call 182; refine (H1.out _).mono ?_; rintro e w1 ⟨rfl, rfl⟩)
      go_ret
      exact ⟨rfl, rfl⟩
  · rw [decide_eq_false (fun h => h1 ⟨h.1, h.2.1⟩)]
    have H1 := Lib.hid (fun w => isPermSize_no (a := m) (by omega) w)
    clear h1
    go_enter Try.func91, Try.ntmps91
    go_wp2_with (go_at_call 182; refine (H1.out _).mono ?_; rintro e w1 ⟨rfl, rfl⟩)
    go_ret
    exact ⟨rfl, rfl⟩
end Go.Proofs.Ytjpoliibljjhnaa

/-
  The permutation of a shape in a box, on both sides. Conditions: lengths below 2^40.
-/

namespace Go.Proofs.Ytjpoliibljjhnaa
open Go.RowKit

/-- The first i numbers of the permutation. -/
def gF (xs : List Int) (k i : Nat) : List Int := (List.range i).map fun (j : Nat) => (j : Int) + nth xs (k - 1 - j)
theorem gF_len (xs : List Int) (k i : Nat) : (gF xs k i).length = i := by simp [gF]
theorem gF_succ (xs : List Int) (k i : Nat) : gF xs k (i + 1) = gF xs k i ++ [(i : Int) + nth xs (k - 1 - i)] := by simp [gF, List.range_succ]
/-- Those below v that are not among them. -/
def gR (F : List Int) : Nat → List Int
  | 0 => []
  | v + 1 => if hasB F (v : Int) = true then gR F v else gR F v ++ [(v : Int)]
theorem gR_len (F : List Int) : ∀ v, (gR F v).length ≤ v
  | 0 => Nat.le_refl _
  | v + 1 => by
    have := gR_len F v
    unfold gR
    split
    · omega
    · rw [List.length_append]; simp; omega
theorem gR_lt (F : List Int) : ∀ v : Nat, ∀ x ∈ gR F v, x < (v : Int)
  | 0, x, hx => by simp [gR] at hx
  | v + 1, x, hx => by
    unfold gR at hx
    split at hx
    · have := gR_lt F v x hx; omega
    · rcases List.mem_append.1 hx with hx | hx
      · have := gR_lt F v x hx; omega
      · rw [List.mem_singleton.1 hx]; omega
theorem gR_has (F : List Int) (v : Nat) : hasB (F ++ gR F v) (v : Int) = hasB F (v : Int) := by
  unfold hasB
  have h : (v : Int) ∉ gR F v := fun h => absurd (gR_lt F v _ h) (by omega)
  exact decide_eq_decide.2 ⟨fun h' => (List.mem_append.1 h').resolve_right h, fun h' => List.mem_append.2 (.inl h')⟩
def gL (xs : List Int) (k m : Nat) : List Int := gF xs k k ++ gR (gF xs k k) m
/-- What GrassmannianPerm answers. -/
def graPerm (xs : List Int) (k m : Int) : List Int := if boxB xs k m = true then gL xs k.toNat m.toNat else []
theorem graPerm_no {xs : List Int} {k m : Int} (h : boxB xs k m = false) : graPerm xs k m = [] := by unfold graPerm; rw [if_neg (by rw [h]; decide)]
theorem graPerm_yes {xs : List Int} {k m : Nat} (h : boxB xs (k : Int) (m : Int) = true) : graPerm xs (k : Int) (m : Int) = gL xs k m := by unfold graPerm; rw [if_pos h, Int.toNat_natCast, Int.toNat_natCast]
theorem graPerm_small (xs : List Int) (k m : Int) : (graPerm xs k m).length ≤ 1099511627775 := by
  unfold graPerm
  split
  · rename_i h
    have hp := boxB_P h
    have := gR_len (gF xs k.toNat k.toNat) m.toNat
    unfold gL
    rw [List.length_append, gF_len]
    have h1 := hp.2.1; have h2 := hp.2.2.2.1
    omega
  · simp
theorem l4At_at {j : Int} (A : Option Addr) (n c : Nat) (xs : List Int) (i : Nat) (hj : j = (i : Int)) (w : World) (hs : SI w A n xs) (hn : n ≤ 1099511627776) (hi : i ≤ 1099511627776) {x : Int} (hx : x = nth xs i) :
    Calls Try.prog 180 #[.slice A n c, .int .i64 j] w fun e w' => e = .returned (.int .i64 x) ∧ w = w' := by
  subst hj; subst hx; exact l4At_any A n c xs i w hs hn hi
/-- 'make([]int, 0, n)'. -/
theorem wpList_make_cap {ops : Array Oper} {rest : List Oper} {o : Oper} {a : Act} {w : World} {Q : Exit → Act → World → Prop} (hgd : o.guard = none) (l c : Operand) (ho : o.op = .makeSlice 22 l c)
    (n : Nat) (hl : a.eval l = .int .i64 0) (hc : a.eval c = .int .i64 n) (hn : n ≤ 1099511627776)
    (hK : ∀ w', Own w' w.heap.size w'.heap.size (some ⟨w.heap.size, 0, none⟩) 0 n [] → Below w.heap.size w w' → wpList Try.prog ops Q rest (a.put o.dst (.slice (some ⟨w.heap.size, 0, none⟩) 0 n)) w') :
    wpList Try.prog ops Q (o :: rest) a w := by
  obtain ⟨i0, hi, hz0, hz1, hz2⟩ := info_parts Try.infoInt
  refine wpList_make_own w hgd l c 22 ho w.heap.size 3 i0 (.int .i64 0) 1 Try.underlying22 hi hz0 hz1 .i64 .i64 n n hl hc rfl (by rw [hz2]; omega) (by unfold maxLen; omega) (Nat.le_refl _) ?_
  intro w1 ho1 hg1
  exact hK w1 (Own.of (by simpa using ho1)) (grow_below hg1 (Nat.le_refl _) (by intro k hk; cases hk))
set_option maxHeartbeats 800000 in
theorem indexInts_any (A : Option Addr) (n c : Nat) (xs : List Int) (x : Int) (w : World) (hs : SI w A n xs) (hn : n ≤ 1099511627776) :
    Calls Try.prog 221 #[.slice A n c, .int .i64 x] w fun r w' => ∃ i : Int, r = .returned (.int .i64 i) ∧ (0 ≤ i ↔ hasB xs x = true) ∧ Drawn w w' := by
  have HL := Lib.hid hs.1
  go_enter Try.func221, Try.ntmps221
  go_wp2
  go_loopw [8] (fun i wr => ∃ k : Nat, k ≤ n ∧ i = .int .i64 k ∧ Drawn w wr ∧ ∀ j, j < k → nth xs j ≠ x)
    (fun i _ => n - (intOf i).toNat)
  case atStart => exact ⟨0, Nat.zero_le _, rfl, Drawn.refl _, fun j hj => absurd hj (by omega)⟩
  case round =>
    obtain ⟨k, hk, rfl, hD, hall⟩ := hrel
    have HA := Lib.hid hall
    have HDR := Lib.hid hD
    have hs := hD.si hs
    clear hall hD
    by_cases hlt : k < n
    · have hlI : (k : Int) < (n : Int) := by omega
      obtain ⟨b, o, rfl, hb, hc⟩ := hs.at_ (by omega)
      have hc1 := hc k hlt
      obtain ⟨y, hy⟩ : ∃ y, y = nth xs k := ⟨_, rfl⟩
      rw [← hy] at hc1
      have HY := Lib.hid hy
      clear hc hs hy
      by_cases heq : x = y
      · subst heq
        go_wp2
        go_ret
        exact ⟨(k : Int), rfl, ⟨fun _ => by rw [HY.out]; exact hasB_hit (by rw [HL.out]; exact hlt), fun _ => by omega⟩, HDR.out⟩
      · have hb : (x == y) = false := by simpa using heq
        have HN := Lib.hid heq
        clear heq
        go_wp2
        go_roundw
        case rel => exact ⟨k + 1, by omega, by go_num, HDR.out, fun j hj => by
          rcases Nat.lt_or_ge j k with h | h
          · exact HA.out j h
          · obtain rfl : j = k := by omega
            exact fun h => HN.out (by rw [HY.out, h])⟩
        case measure => simp [intOf]; omega
    · have hkn : k = n := by omega
      subst hkn
      go_wp2
      go_ret
      exact ⟨-1, rfl, ⟨fun h => absurd h (by decide), fun h => by rw [hasB_all (by rw [HL.out]; exact HA.out)] at h; cases h⟩, HDR.out⟩
set_option maxHeartbeats 400000 in
theorem containsInts_any (A : Option Addr) (n c : Nat) (xs : List Int) (x : Int) (w : World) (hs : SI w A n xs) (hn : n ≤ 1099511627776) :
    Calls Try.prog 168 #[.slice A n c, .int .i64 x] w fun r w' => r = .returned (.bool (hasB xs x)) ∧ Drawn w w' := by
  have HC := Lib.hid (indexInts_any A n c xs x w hs hn)
  clear hs
  go_enter Try.func168, Try.ntmps168
  go_wp2_with (go_at_call 221; refine HC.out.mono ?_; rintro r w2 ⟨i, rfl, hi, hd⟩; have HI := Lib.hid hi; have HD := Lib.hid hd; clear hi hd)
  go_ret
  refine ⟨ret_bool ?_, HD.out⟩
  have := HI.out
  cases hu : hasB xs x with
  | true => rw [hu] at this; simpa using this.2 rfl
  | false => rw [hu] at this; simp at this ⊢; omega
end Go.Proofs.Ytjpoliibljjhnaa

/-
  Strings of zeros and ones and their shapes: the model of both sides. No conditions.
-/


namespace Go.Proofs.Ytjpoliibljjhnaa
open Go.RowKit

/-- Is the list a string. -/
def strP (xs : List Int) : Prop := 1 ≤ xs.length ∧ xs.length ≤ 7 ∧ ∀ k, k < xs.length → 0 ≤ nth xs k ∧ nth xs k ≤ 1
def strB (xs : List Int) : Bool := decide (1 ≤ xs.length) && decide (xs.length ≤ 7) && (List.range xs.length).all fun k => decide (0 ≤ nth xs k ∧ nth xs k ≤ 1)
theorem strB_iff (xs : List Int) : strB xs = true ↔ strP xs := by simp [strB, strP, and_assoc]
theorem strB_P {xs : List Int} (h : strB xs = true) : strP xs := (strB_iff xs).1 h
theorem strB_true {xs : List Int} (h : strP xs) : strB xs = true := (strB_iff xs).2 h
theorem strB_false {xs : List Int} (h : ¬ strP xs) : strB xs = false := by
  cases hb : strB xs with
  | false => rfl
  | true => exact absurd (strB_P hb) h
/-- How many zeros, how many others there are among the first k numbers. -/
def zerN (xs : List Int) : Nat → Nat
  | 0 => 0
  | k + 1 => if nth xs k = 0 then zerN xs k + 1 else zerN xs k
def oneN (xs : List Int) : Nat → Nat
  | 0 => 0
  | k + 1 => if nth xs k = 0 then oneN xs k else oneN xs k + 1
theorem zer_one (xs : List Int) : ∀ k, zerN xs k + oneN xs k = k
  | 0 => rfl
  | k + 1 => by have := zer_one xs k; unfold zerN oneN; split <;> omega
theorem one_le (xs : List Int) : ∀ {j k : Nat}, j ≤ k → oneN xs j ≤ oneN xs k
  | j, 0, h => by obtain rfl : j = 0 := by omega
                  exact Nat.le_refl _
  | j, k + 1, h => by
    by_cases e : j = k + 1
    · subst e; exact Nat.le_refl _
    · have := one_le xs (j := j) (k := k) (by omega)
      have e2 : oneN xs (k + 1) = if nth xs k = 0 then oneN xs k else oneN xs k + 1 := rfl
      rw [e2]
      split <;> omega
theorem sum_one {xs : List Int} : ∀ {k : Nat}, (∀ j, j < k → 0 ≤ nth xs j ∧ nth xs j ≤ 1) → sumN xs k = (oneN xs k : Int)
  | 0, _ => rfl
  | k + 1, h => by
    have h1 := sum_one (k := k) fun j hj => h j (by omega)
    have h2 := h k (by omega)
    have e : sumN xs (k + 1) = sumN xs k + nth xs k := rfl
    have e2 : oneN xs (k + 1) = if nth xs k = 0 then oneN xs k else oneN xs k + 1 := rfl
    rw [e, e2, h1]
    split <;> omega
/-- A row for each one, the last one's first. -/
def shpL (xs : List Int) : Nat → List Int
  | 0 => []
  | k + 1 => if nth xs k = 0 then shpL xs k else (zerN xs k : Int) :: shpL xs k
theorem shpL_zero {xs : List Int} {k : Nat} (h : nth xs k = 0) : shpL xs (k + 1) = shpL xs k := if_pos h
theorem shpL_one {xs : List Int} {k : Nat} (h : nth xs k ≠ 0) : shpL xs (k + 1) = (zerN xs k : Int) :: shpL xs k := if_neg h
theorem zerN_zero {xs : List Int} {k : Nat} (h : nth xs k = 0) : zerN xs (k + 1) = zerN xs k + 1 := if_pos h
theorem zerN_one {xs : List Int} {k : Nat} (h : nth xs k ≠ 0) : zerN xs (k + 1) = zerN xs k := if_neg h
theorem oneN_zero {xs : List Int} {k : Nat} (h : nth xs k = 0) : oneN xs (k + 1) = oneN xs k := if_pos h
theorem oneN_one {xs : List Int} {k : Nat} (h : nth xs k ≠ 0) : oneN xs (k + 1) = oneN xs k + 1 := if_neg h
theorem shpL_len (xs : List Int) : ∀ k, (shpL xs k).length = oneN xs k
  | 0 => rfl
  | k + 1 => by
    by_cases h : nth xs k = 0
    · rw [shpL_zero h, oneN_zero h, shpL_len xs k]
    · rw [shpL_one h, oneN_one h, List.length_cons, shpL_len xs k]
theorem nth_cons0 (x : Int) (l : List Int) : nth (x :: l) 0 = x := rfl
theorem nth_consS (x : Int) (l : List Int) (j : Nat) : nth (x :: l) (j + 1) = nth l j := by simp [nth, List.getD]
theorem shpL_range (xs : List Int) : ∀ k j, 0 ≤ nth (shpL xs k) j ∧ nth (shpL xs k) j ≤ (zerN xs k : Int)
  | 0, j => by simp [shpL, nth, zerN]
  | k + 1, j => by
    have ih := shpL_range xs k
    by_cases h : nth xs k = 0
    · rw [shpL_zero h, zerN_zero h]
      have := ih j
      omega
    · rw [shpL_one h, zerN_one h]
      cases j with
      | zero => rw [nth_cons0]; omega
      | succ j => rw [nth_consS]; exact ih j
theorem shpL_down (xs : List Int) : ∀ k i j, i ≤ j → nth (shpL xs k) j ≤ nth (shpL xs k) i
  | 0, i, j, _ => by simp [shpL, nth]
  | k + 1, i, j, hij => by
    have ih := shpL_down xs k
    by_cases h : nth xs k = 0
    · rw [shpL_zero h]; exact ih i j hij
    · rw [shpL_one h]
      cases i with
      | zero =>
        rw [nth_cons0]
        cases j with
        | zero => rw [nth_cons0]; exact Int.le_refl _
        | succ j => rw [nth_consS]; exact (shpL_range xs k j).2
      | succ i =>
        cases j with
        | zero => omega
        | succ j => rw [nth_consS, nth_consS]; exact ih i j (by omega)
/-- The sixteen places when j numbers are read: n numbers in all. -/
def rowL (xs : List Int) (n j : Nat) : List Int := List.replicate (oneN xs n - oneN xs j) 0 ++ (shpL xs j ++ List.replicate (16 - oneN xs n) 0)
theorem rowL_len {xs : List Int} {n j : Nat} (hj : j ≤ n) (hn : n ≤ 16) : (rowL xs n j).length = 16 := by
  have h1 := one_le xs hj
  have h2 := zer_one xs n
  unfold rowL
  rw [List.length_append, List.length_append, List.length_replicate, List.length_replicate, shpL_len]
  omega
theorem rowL_start {xs : List Int} {n : Nat} (hn : n ≤ 16) : rowL xs n 0 = List.replicate 16 0 := by
  have h2 := zer_one xs n
  show List.replicate (oneN xs n - 0) 0 ++ ([] ++ List.replicate (16 - oneN xs n) 0) = _
  rw [List.nil_append, List.replicate_append_replicate]
  congr 1; omega
theorem rowL_same {xs : List Int} {n j : Nat} (h : nth xs j = 0) : rowL xs n (j + 1) = rowL xs n j := by
  unfold rowL; rw [shpL_zero h, oneN_zero h]
theorem rowL_set {xs : List Int} {n j : Nat} (hj : j < n) (h : nth xs j ≠ 0) : (rowL xs n j).set (oneN xs n - oneN xs j - 1) (zerN xs j : Int) = rowL xs n (j + 1) := by
  have h1 := one_le xs (j := j + 1) (k := n) hj
  rw [oneN_one h] at h1
  unfold rowL
  rw [shpL_one h, oneN_one h]
  have e : oneN xs n - oneN xs j = (oneN xs n - (oneN xs j + 1)) + 1 := by omega
  rw [e, List.replicate_succ', Nat.add_sub_cancel, List.append_assoc, List.set_append_right _ _ (by simp)]
  simp
theorem rowL_end (xs : List Int) (n : Nat) : rowL xs n n = shpL xs n ++ List.replicate (16 - oneN xs n) 0 := by unfold rowL; simp
theorem rowL_nth (xs : List Int) (n k : Nat) : nth (rowL xs n n) k = nth (shpL xs n) k := by
  rw [rowL_end]
  by_cases h : k < (shpL xs n).length
  · simp [nth, List.getD, List.getElem?_append, h]
  · rw [nth_out (xs := shpL xs n) (by omega)]
    unfold nth
    rw [List.getD_eq_getElem?_getD, List.getElem?_append_right (by omega), List.getElem?_replicate]
    split <;> rfl
/-- The rows of a string. -/
def bareS (xs : List Int) (n : Nat) : List Int := (shpL xs n).take (bareN (shpL xs n) (oneN xs n))
/-- What ShapeOfString answers. -/
def sosS (xs : List Int) : List Int := if strB xs = true then bareS xs xs.length else []
def sosK (xs : List Int) : Int := if strB xs = true then (oneN xs xs.length : Int) else 0
theorem sos_no {xs : List Int} (h : strB xs = false) : sosS xs = [] ∧ sosK xs = 0 := by unfold sosS sosK; rw [if_neg (by rw [h]; decide), if_neg (by rw [h]; decide)]; exact ⟨rfl, rfl⟩
theorem sos_yes {xs : List Int} (h : strB xs = true) : sosS xs = bareS xs xs.length ∧ sosK xs = (oneN xs xs.length : Int) := by unfold sosS sosK; rw [if_pos h, if_pos h]; exact ⟨rfl, rfl⟩
theorem sosS_small (xs : List Int) : (sosS xs).length ≤ 1099511627775 := by
  unfold sosS
  split
  · rename_i h
    have h7 := (strB_P h).2.1
    have h1 := zer_one xs xs.length
    unfold bareS
    rw [List.length_take, shpL_len]
    omega
  · simp
/-- The string of a shape when i ones are written. -/
def soF (xs : List Int) (k m : Nat) : Nat → List Int
  | 0 => List.replicate m 0
  | i + 1 => (soF xs k m i).set ((i : Int) + nth xs (k - 1 - i)).toNat 1
theorem soF_len (xs : List Int) (k m : Nat) : ∀ i, (soF xs k m i).length = m
  | 0 => by simp [soF]
  | i + 1 => by unfold soF; rw [List.length_set]; exact soF_len xs k m i
/-- What StringOfShape answers. -/
def strOf (xs : List Int) (k m : Int) : List Int := if boxB xs k m = true then soF xs k.toNat m.toNat k.toNat else []
theorem strOf_no {xs : List Int} {k m : Int} (h : boxB xs k m = false) : strOf xs k m = [] := by unfold strOf; rw [if_neg (by rw [h]; decide)]
theorem strOf_yes {xs : List Int} {k m : Nat} (h : boxB xs (k : Int) (m : Int) = true) : strOf xs (k : Int) (m : Int) = soF xs k m k := by unfold strOf; rw [if_pos h, Int.toNat_natCast, Int.toNat_natCast]
theorem strOf_small (xs : List Int) (k m : Int) : (strOf xs k m).length ≤ 1099511627775 := by
  unfold strOf
  split
  · rename_i h
    have hp := boxB_P h
    rw [soF_len]
    have := hp.2.1
    omega
  · simp
theorem box_place {xs : List Int} {k m i : Nat} (hp : boxP xs (k : Int) (m : Int)) (hi : i < k) : 0 ≤ (i : Int) + nth xs (k - 1 - i) ∧ (i : Int) + nth xs (k - 1 - i) < (m : Int) := by
  have hs := hp.2.2.2.2.1
  have h0 := (shape_range hs (k - 1 - i)).1
  have h1 : ∀ t, nth xs t ≤ (m : Int) - (k : Int) := by
    intro t
    induction t with
    | zero => exact hp.2.2.2.2.2.2
    | succ t ih =>
      by_cases h : t + 1 < xs.length
      · have h2 := (hs.2 (t + 1) h).2
        have e : prevS xs (t + 1) = nth xs t := rfl
        omega
      · rw [nth_out (by omega)]
        have := hp.2.2.2.1
        omega
  have := h1 (k - 1 - i)
  omega
end Go.Proofs.Ytjpoliibljjhnaa

/-
  Puzzles: the model of both sides. No conditions.
-/

namespace Go.Proofs.Ytjpoliibljjhnaa
open Go.RowKit

/-- The number of small triangles above a row. -/
def tri : Nat → Nat
  | 0 => 0
  | r + 1 => tri r + (r + 1)
theorem tri_succ (r : Nat) : tri (r + 1) = tri r + (r + 1) := rfl
theorem tri_le : ∀ {a b : Nat}, a ≤ b → tri a ≤ tri b
  | a, 0, h => by obtain rfl : a = 0 := by omega
                  exact Nat.le_refl _
  | a, b + 1, h => by
    by_cases e : a = b + 1
    · subst e; exact Nat.le_refl _
    · have := tri_le (a := a) (b := b) (by omega)
      rw [tri_succ]; omega
theorem tri_lt {a b k : Nat} (h : a < b) (hk : k ≤ a) : tri a + k < tri b := by
  have := tri_le (a := a + 1) (b := b) h
  rw [tri_succ] at this
  omega
theorem tri_small {r : Nat} (h : r ≤ 8) : tri r ≤ 36 := by
  have := tri_le (a := r) (b := 8) h
  have e : tri 8 = 36 := rfl
  omega
abbrev Tr := Int × Int × Int
/-- The right triples, in ascending order. -/
def rightL (wt : Bool) : List Tr := if wt then [(0, 0, 0), (0, 1, 2), (1, 0, 3), (1, 1, 1), (1, 2, 0), (2, 0, 1)] else [(0, 0, 0), (0, 1, 2), (1, 1, 1), (1, 2, 0), (2, 0, 1)]
/-- The small triangle k of a row, and the one on its tip ahead of it. -/
def triA (x1 x2 x3 : List Int) (r k : Nat) : Tr := (nth x1 (tri r + k), nth x2 (tri r + k), nth x3 (tri r + k))
def tipA (x1 x2 x3 : List Int) (r k : Nat) : Tr := (nth x1 (tri r + k), nth x2 (tri r + k - 1), nth x3 (tri (r - 1) + (k - 1)))
/-- The lists have the right lengths. -/
def lensP (s : Int) (x1 x2 x3 : List Int) : Prop := 1 ≤ s ∧ s ≤ 7 ∧ x1.length = tri s.toNat ∧ x2.length = tri s.toNat ∧ x3.length = tri s.toNat
def lensB (s : Int) (x1 x2 x3 : List Int) : Bool := decide (1 ≤ s) && decide (s ≤ 7) && decide (x1.length = tri s.toNat) && decide (x2.length = tri s.toNat) && decide (x3.length = tri s.toNat)
theorem lensB_iff (s : Int) (x1 x2 x3 : List Int) : lensB s x1 x2 x3 = true ↔ lensP s x1 x2 x3 := by simp [lensB, lensP, and_assoc]
/-- The sides of the whole triangle have no label but 0 and 1 in row r. -/
def sideP (m : Nat) (x1 x2 x3 : List Int) (r : Nat) : Prop :=
  (0 ≤ nth x1 (tri r) ∧ nth x1 (tri r) ≤ 1) ∧ (0 ≤ nth x2 (tri r + r) ∧ nth x2 (tri r + r) ≤ 1) ∧ (0 ≤ nth x3 (tri (m - 1) + r) ∧ nth x3 (tri (m - 1) + r) ≤ 1)
/-- Is it a puzzle (a weighted one). -/
def pzP (wt : Bool) (s : Int) (x1 x2 x3 : List Int) : Prop :=
  lensP s x1 x2 x3 ∧ (∀ r, r < s.toNat → ∀ k, k ≤ r → triA x1 x2 x3 r k ∈ rightL wt ∧ (0 < k → tipA x1 x2 x3 r k ∈ rightL wt)) ∧ ∀ r, r < s.toNat → sideP s.toNat x1 x2 x3 r
instance (m : Nat) (x1 x2 x3 : List Int) (r : Nat) : Decidable (sideP m x1 x2 x3 r) := by unfold sideP; infer_instance
def pzB (wt : Bool) (s : Int) (x1 x2 x3 : List Int) : Bool :=
  lensB s x1 x2 x3 && ((List.range s.toNat).all fun r => (List.range (r + 1)).all fun k => decide (triA x1 x2 x3 r k ∈ rightL wt) && (decide (k = 0) || decide (tipA x1 x2 x3 r k ∈ rightL wt))) && (List.range s.toNat).all fun r => decide (sideP s.toNat x1 x2 x3 r)
theorem pzB_iff (wt : Bool) (s : Int) (x1 x2 x3 : List Int) : pzB wt s x1 x2 x3 = true ↔ pzP wt s x1 x2 x3 := by
  unfold pzB pzP
  rw [Bool.and_eq_true, Bool.and_eq_true, lensB_iff, and_assoc]
  refine and_congr_right fun _ => and_congr ?_ (by simp)
  simp only [List.all_eq_true, List.mem_range, Bool.and_eq_true, Bool.or_eq_true, decide_eq_true_eq]
  constructor
  · intro h r hr k hk
    obtain ⟨h1, h2⟩ := h r hr k (by omega)
    exact ⟨h1, fun hk0 => h2.resolve_left (by omega)⟩
  · intro h r hr k hk
    obtain ⟨h1, h2⟩ := h r hr k (by omega)
    refine ⟨h1, ?_⟩
    by_cases e : k = 0
    · exact .inl e
    · exact .inr (h2 (by omega))
theorem pzB_true {wt : Bool} {s : Int} {x1 x2 x3 : List Int} (h : pzP wt s x1 x2 x3) : pzB wt s x1 x2 x3 = true := (pzB_iff _ _ _ _ _).2 h
theorem pzB_false {wt : Bool} {s : Int} {x1 x2 x3 : List Int} (h : ¬ pzP wt s x1 x2 x3) : pzB wt s x1 x2 x3 = false := by
  cases hb : pzB wt s x1 x2 x3 with
  | false => rfl
  | true => exact absurd ((pzB_iff _ _ _ _ _).1 hb) h
/-- The label below two others, and that at the right side of a small triangle on its tip. -/
def upF (l r : Int) (wt : Bool) : Int :=
  if l = r ∧ l ≤ 1 then l else if l = 0 ∧ r = 1 then 2 else if l = 1 ∧ r = 2 then 0 else if l = 2 ∧ r = 0 then 1 else if l = 1 ∧ r = 0 ∧ wt = true then 3 else -1
def dnF (l t : Int) : Int :=
  if l = t ∧ l ≤ 1 then l else if l = 1 ∧ t = 2 then 0 else if l = 2 ∧ t = 0 then 1 else if l = 0 ∧ t = 1 then 2 else if l = 0 ∧ t = 3 then 1 else -1
theorem right_mem {wt : Bool} {l r b : Int} : (l, r, b) ∈ rightL wt ↔ (l = 0 ∧ r = 0 ∧ b = 0 ∨ l = 0 ∧ r = 1 ∧ b = 2 ∨ (wt = true ∧ l = 1 ∧ r = 0 ∧ b = 3) ∨ l = 1 ∧ r = 1 ∧ b = 1 ∨ l = 1 ∧ r = 2 ∧ b = 0 ∨ l = 2 ∧ r = 0 ∧ b = 1) := by
  cases wt <;> simp [rightL]
theorem mem_right {wt : Bool} {l r b : Int} (h : (l, r, b) ∈ rightL wt) : (0 ≤ l ∧ l ≤ 2) ∧ (0 ≤ r ∧ r ≤ 2) ∧ (0 ≤ b ∧ b ≤ 3) ∧ upF l r wt = b := by
  rcases right_mem.1 h with ⟨rfl, rfl, rfl⟩ | ⟨rfl, rfl, rfl⟩ | ⟨rfl, rfl, rfl, rfl⟩ | ⟨rfl, rfl, rfl⟩ | ⟨rfl, rfl, rfl⟩ | ⟨rfl, rfl, rfl⟩ <;> simp [upF]
theorem up_right {wt : Bool} {l r b : Int} (hl : 0 ≤ l ∧ l ≤ 2) (hr : 0 ≤ r ∧ r ≤ 2) (hb : 0 ≤ b) (h : upF l r wt = b) : (l, r, b) ∈ rightL wt := by
  have h1 : l = 0 ∨ l = 1 ∨ l = 2 := by omega
  have h2 : r = 0 ∨ r = 1 ∨ r = 2 := by omega
  rw [right_mem]
  rcases h1 with rfl | rfl | rfl <;> rcases h2 with rfl | rfl | rfl <;> cases wt <;> simp [upF] at h <;> simp <;> omega
theorem tip_right {wt : Bool} {l r b : Int} (h : (l, r, b) ∈ rightL wt) : dnF r b = l := by
  rcases right_mem.1 h with ⟨rfl, rfl, rfl⟩ | ⟨rfl, rfl, rfl⟩ | ⟨rfl, rfl, rfl, rfl⟩ | ⟨rfl, rfl, rfl⟩ | ⟨rfl, rfl, rfl⟩ | ⟨rfl, rfl, rfl⟩ <;> simp [dnF]
theorem right_tip {wt : Bool} {l r b : Int} (hl : 0 ≤ l ∧ l ≤ 2) (hr : 0 ≤ r ∧ r ≤ 2) (hb : 0 ≤ b ∧ b ≤ 3) (hw : b = 3 → wt = true) (h : dnF r b = l) : (l, r, b) ∈ rightL wt := by
  have h1 : r = 0 ∨ r = 1 ∨ r = 2 := by omega
  have h2 : b = 0 ∨ b = 1 ∨ b = 2 ∨ b = 3 := by omega
  rw [right_mem]
  rcases h1 with rfl | rfl | rfl <;> rcases h2 with rfl | rfl | rfl | rfl <;> simp [dnF] at h <;> simp <;> first | omega | (have := hw rfl; simp_all; done) | (simp_all; done)
theorem mem_three {wt : Bool} {l r b : Int} (h : (l, r, b) ∈ rightL wt) (h3 : b = 3) : wt = true := by
  subst h3
  rcases right_mem.1 h with ⟨_, _, h⟩ | ⟨_, _, h⟩ | ⟨h, _⟩ | ⟨_, _, h⟩ | ⟨_, _, h⟩ | ⟨_, _, h⟩ <;> first | exact h | omega
/-- What the document asks at a small triangle. -/
def atP (wt : Bool) (m : Nat) (x1 x2 x3 : List Int) (r k : Nat) : Prop :=
  (0 ≤ nth x1 (tri r + k) ∧ nth x1 (tri r + k) ≤ 2) ∧ (0 ≤ nth x2 (tri r + k) ∧ nth x2 (tri r + k) ≤ 2) ∧ 0 ≤ nth x3 (tri r + k) ∧ upF (nth x1 (tri r + k)) (nth x2 (tri r + k)) wt = nth x3 (tri r + k) ∧
  (k < r → dnF (nth x2 (tri r + k)) (nth x3 (tri (r - 1) + k)) = nth x1 (tri r + (k + 1))) ∧
  (r = m - 1 → nth x3 (tri r + k) ≤ 1) ∧ (k = 0 → nth x1 (tri r + k) ≤ 1) ∧ (k = r → nth x2 (tri r + k) ≤ 1)
theorem at_of_pz {wt : Bool} {s : Int} {x1 x2 x3 : List Int} (h : pzP wt s x1 x2 x3) {r k : Nat} (hr : r < s.toNat) (hk : k ≤ r) : atP wt s.toNat x1 x2 x3 r k := by
  obtain ⟨_, ht, hs⟩ := h
  obtain ⟨h1, h2, h3, h4⟩ := mem_right (ht r hr k hk).1
  refine ⟨h1, h2, h3.1, h4, fun hkr => ?_, fun e => ?_, fun e => ?_, fun e => ?_⟩
  · have h5 := tip_right ((ht r hr (k + 1) (by omega)).2 (by omega))
    have e1 : tri r + (k + 1) - 1 = tri r + k := by omega
    have e2 : k + 1 - 1 = k := by omega
    rw [e1, e2] at h5
    exact h5
  · have h5 := (hs k (by omega)).2.2.2
    rw [e]; exact h5
  · subst e; exact (hs r hr).1.2
  · subst e; exact (hs k hr).2.1.2
theorem pz_of_at {wt : Bool} {s : Int} {x1 x2 x3 : List Int} (hl : lensP s x1 x2 x3) (h : ∀ r, r < s.toNat → ∀ k, k ≤ r → atP wt s.toNat x1 x2 x3 r k) : pzP wt s x1 x2 x3 := by
  have hT : ∀ r, r < s.toNat → ∀ k, k ≤ r → triA x1 x2 x3 r k ∈ rightL wt := fun r hr k hk => by
    obtain ⟨h1, h2, h3, h4, _⟩ := h r hr k hk
    exact up_right h1 h2 h3 h4
  refine ⟨hl, fun r hr k hk => ⟨hT r hr k hk, fun hk0 => ?_⟩, fun r hr => ⟨?_, ?_, ?_⟩⟩
  · obtain ⟨k, rfl⟩ : ∃ j, k = j + 1 := ⟨k - 1, by omega⟩
    have h5 := (h r hr k (by omega)).2.2.2.2.1 (by omega)
    have h6 := hT (r - 1) (by omega) k (by omega)
    obtain ⟨_, _, h7, _⟩ := mem_right h6
    have h8 := h r hr k (by omega)
    have h9 := h r hr (k + 1) hk
    have e1 : tri r + (k + 1) - 1 = tri r + k := by omega
    have e2 : k + 1 - 1 = k := by omega
    unfold tipA
    rw [e1, e2]
    exact right_tip h9.1 h8.2.1 h7 (fun e => mem_three h6 e) h5
  · have h1 := h r hr 0 (by omega)
    exact ⟨h1.1.1, h1.2.2.2.2.2.2.1 rfl⟩
  · have h1 := h r hr r (Nat.le_refl _)
    exact ⟨h1.2.1.1, h1.2.2.2.2.2.2.2 rfl⟩
  · have h1 := h (s.toNat - 1) (by omega) r (by omega)
    exact ⟨h1.2.2.1, h1.2.2.2.2.2.1 rfl⟩
/-- The three sides. -/
def sdA (m : Nat) (x1 : List Int) : List Int := (List.range m).map fun j => nth x1 (tri (m - 1 - j))
def sdB (m : Nat) (x2 : List Int) : List Int := (List.range m).map fun j => nth x2 (tri j + j)
def sdC (m : Nat) (x3 : List Int) : List Int := (List.range m).map fun j => nth x3 (tri (m - 1) + j)
theorem sdA_len (m : Nat) (x : List Int) : (sdA m x).length = m := by simp [sdA]
theorem sdB_len (m : Nat) (x : List Int) : (sdB m x).length = m := by simp [sdB]
theorem sdC_len (m : Nat) (x : List Int) : (sdC m x).length = m := by simp [sdC]
theorem sdA_nth {m : Nat} {x : List Int} {j : Nat} (h : j < m) : nth (sdA m x) j = nth x (tri (m - 1 - j)) := by rw [nth_get (by rw [sdA_len]; exact h)]; simp [sdA]
theorem sdB_nth {m : Nat} {x : List Int} {j : Nat} (h : j < m) : nth (sdB m x) j = nth x (tri j + j) := by rw [nth_get (by rw [sdB_len]; exact h)]; simp [sdB]
theorem sdC_nth {m : Nat} {x : List Int} {j : Nat} (h : j < m) : nth (sdC m x) j = nth x (tri (m - 1) + j) := by rw [nth_get (by rw [sdC_len]; exact h)]; simp [sdC]
theorem side_strings {s : Int} {x1 x2 x3 : List Int} (hl : lensP s x1 x2 x3) : (strP (sdA s.toNat x1) ∧ strP (sdB s.toNat x2) ∧ strP (sdC s.toNat x3)) ↔ ∀ r, r < s.toNat → sideP s.toNat x1 x2 x3 r := by
  have h1 := hl.1
  have h7 := hl.2.1
  constructor
  · rintro ⟨ha, hb, hc⟩ r hr
    have a := ha.2.2 (s.toNat - 1 - r) (by rw [sdA_len]; omega)
    have b := hb.2.2 r (by rw [sdB_len]; omega)
    have c := hc.2.2 r (by rw [sdC_len]; omega)
    rw [sdA_nth (by omega), show s.toNat - 1 - (s.toNat - 1 - r) = r by omega] at a
    rw [sdB_nth hr] at b
    rw [sdC_nth hr] at c
    exact ⟨a, b, c⟩
  · intro h
    refine ⟨⟨by rw [sdA_len]; omega, by rw [sdA_len]; omega, fun k hk => ?_⟩, ⟨by rw [sdB_len]; omega, by rw [sdB_len]; omega, fun k hk => ?_⟩, ⟨by rw [sdC_len]; omega, by rw [sdC_len]; omega, fun k hk => ?_⟩⟩
    · rw [sdA_len] at hk; rw [sdA_nth hk]; exact (h _ (by omega)).1
    · rw [sdB_len] at hk; rw [sdB_nth hk]; exact (h _ hk).2.1
    · rw [sdC_len] at hk; rw [sdC_nth hk]; exact (h _ hk).2.2
end Go.Proofs.Ytjpoliibljjhnaa

/-
  Puzzles as values: copying, measuring, comparing, marking, holding. Conditions: lengths below 2^40.
-/



namespace Go.Proofs.Ytjpoliibljjhnaa
open Go.RowKit

/-- Three slices of the call's own, one behind another. -/
def OwnP (w : World) (lo hi : Nat) (A1 A2 A3 : Option Addr) (n1 c1 n2 c2 n3 c3 : Nat) (x1 x2 x3 : List Int) : Prop :=
  ∃ p q, lo ≤ p ∧ p ≤ q ∧ q ≤ hi ∧ Own w lo p A1 n1 c1 x1 ∧ Own w p q A2 n2 c2 x2 ∧ Own w q hi A3 n3 c3 x3
section
variable {w w' : World} {lo hi n1 c1 n2 c2 n3 c3 : Nat} {A1 A2 A3 : Option Addr} {x1 x2 x3 : List Int}
theorem OwnP.si (h : OwnP w lo hi A1 A2 A3 n1 c1 n2 c2 n3 c3 x1 x2 x3) : SI w A1 n1 x1 ∧ SI w A2 n2 x2 ∧ SI w A3 n3 x3 := by
  obtain ⟨p, q, _, _, _, h1, h2, h3⟩ := h; exact ⟨h1.si, h2.si, h3.si⟩
theorem OwnP.lens (h : OwnP w lo hi A1 A2 A3 n1 c1 n2 c2 n3 c3 x1 x2 x3) : x1.length = n1 ∧ x2.length = n2 ∧ x3.length = n3 := by
  obtain ⟨p, q, _, _, _, h1, h2, h3⟩ := h; exact ⟨h1.len, h2.len, h3.len⟩
theorem OwnP.below {B : Nat} (h : OwnP w lo hi A1 A2 A3 n1 c1 n2 c2 n3 c3 x1 x2 x3) (hb : Below B w w') (hB : hi ≤ B) : OwnP w' lo hi A1 A2 A3 n1 c1 n2 c2 n3 c3 x1 x2 x3 := by
  obtain ⟨p, q, a, b, c, h1, h2, h3⟩ := h
  exact ⟨p, q, a, b, c, h1.below hb (by omega), h2.below hb (by omega), h3.below hb hB⟩
theorem OwnP.drawn (h : OwnP w lo hi A1 A2 A3 n1 c1 n2 c2 n3 c3 x1 x2 x3) (hd : Drawn w w') : OwnP w' lo hi A1 A2 A3 n1 c1 n2 c2 n3 c3 x1 x2 x3 := h.below (hd.below hi) (Nat.le_refl _)
theorem Own.within_ {lo hi n c lo' hi' : Nat} {A : Option Addr} {xs : List Int} (h : Own w lo hi A n c xs) (hw : Within lo' hi' w w') (hd : hi ≤ lo' ∨ hi' ≤ lo) : Own w' lo hi A n c xs := by
  refine ⟨⟨h.1.1, ?_⟩, h.2⟩
  rcases h.1.2 with hn | ⟨g, cap, cur, e, hl, hg, rest⟩
  · exact .inl hn
  · have hlt := h.2 g (by rw [e]; rfl)
    have hsz := (h.1.lt g (by rw [e]; rfl)).2
    exact .inr ⟨g, cap, cur, e, hl, (hw.2.2.2.2 g hsz (by omega)).trans hg, rest⟩
theorem OwnP.within {lo' hi' : Nat} (h : OwnP w lo hi A1 A2 A3 n1 c1 n2 c2 n3 c3 x1 x2 x3) (hw : Within lo' hi' w w') (hd : hi ≤ lo' ∨ hi' ≤ lo) : OwnP w' lo hi A1 A2 A3 n1 c1 n2 c2 n3 c3 x1 x2 x3 := by
  obtain ⟨p, q, a, b, c, h1, h2, h3⟩ := h
  exact ⟨p, q, a, b, c, h1.within_ hw (by omega), h2.within_ hw (by omega), h3.within_ hw (by omega)⟩
theorem OwnP.wide {lo' hi' : Nat} (h : OwnP w lo hi A1 A2 A3 n1 c1 n2 c2 n3 c3 x1 x2 x3) (h1 : lo' ≤ lo) (h2 : hi ≤ hi') : OwnP w lo' hi' A1 A2 A3 n1 c1 n2 c2 n3 c3 x1 x2 x3 := by
  obtain ⟨p, q, a, b, c, k1, k2, k3⟩ := h
  exact ⟨p, q, by omega, b, by omega, k1.wide h1 (Nat.le_refl _), k2, k3.wide (Nat.le_refl _) h2⟩
theorem OwnP.nil (w : World) {lo hi : Nat} (h : lo ≤ hi) : OwnP w lo hi none none none 0 0 0 0 0 0 [] [] [] := ⟨lo, lo, Nat.le_refl _, Nat.le_refl _, h, Own.nil _ _ _, Own.nil _ _ _, Own.nil _ _ _⟩
end
/-- What a call that makes a puzzle hands back. -/
def FreshP (w w' : World) (e : Ending) (s : Int) (x1 x2 x3 : List Int) : Prop :=
  ∃ A1 A2 A3 n1 c1 n2 c2 n3 c3, e = .returned (.agg #[.int .i64 s, .slice A1 n1 c1, .slice A2 n2 c2, .slice A3 n3 c3]) ∧ OwnP w' w.heap.size w'.heap.size A1 A2 A3 n1 c1 n2 c2 n3 c3 x1 x2 x3 ∧ Below w.heap.size w w'
theorem grown_setP (w : World) (a : Addr) (u : Value) : w.grownBy (w.setCell a u) (some a.block) :=
  ⟨rfl, rfl, rfl, by simp [World.setCell], fun k _ hk => Below.heap_setCell w a u k (fun e => hk (by rw [e]))⟩
theorem results_rowP {P : Program} {fn : Func} {p : Tmp} {ty : TypeId} (h : fn.results = #[.cell p ty]) (tmps : Array Value) (w : World) (g : Nat) (t : TypeId) (cs : Array Value) (d : TypeDesc)
    (hp : tmps.getD p undef = .pointer (some ⟨g, 0, none⟩)) (hg : Blk w g t cs) (hu : P.underlying ty = some d) (hd : (match d with | .struct _ | .array _ _ => true | _ => false) = true) (hi : (P.info? ty).map (·.size) = some cs.size) :
    (results fn tmps).run P w = .ok (.agg cs) w :=
  results_cell_row h tmps w g t cs (0, 0) d hp hg hu hd hi

theorem SI.old {w : World} {A : Option Addr} {n g : Nat} {xs : List Int} (h : SI w A n xs) (hg : w.heap.size ≤ g) : 0 < n → ∀ b o, A = some ⟨b, o, none⟩ → b ≠ g := fun hn b o e => by
  obtain ⟨b', o', e', hb, _⟩ := h.2 hn
  rw [e'] at e
  injection e with e
  injection e with e1 e2
  omega
theorem SI.kept_ {w w' : World} {A : Option Addr} {n g : Nat} {xs : List Int} (h : SI w A n xs) (hg : w.grownBy w' (some g)) (hr : 0 < n → ∀ b o, A = some ⟨b, o, none⟩ → b ≠ g) : SI w' A n xs :=
  ⟨h.1, fun hn => by
    obtain ⟨b, o, e, hb, hc⟩ := h.2 hn
    have hs := hg.size
    exact ⟨b, o, e, by omega, fun k hk => hg.cell (hc k hk) (fun e' => by injection e' with e'; exact hr hn b o e e')⟩⟩
/-- A whole struct read out of a block that is known, and stored into one. -/
theorem wpList_load_rowP {P : Program} {ops : Array Oper} {rest : List Oper} {o : Oper} {a : Act} {w : World} {Q : Exit → Act → World → Prop} (hgd : o.guard = none) (ty : TypeId) (x : Operand) (ho : o.op = .load ty x)
    (g : Nat) (hx : a.eval x = .pointer (some ⟨g, 0, none⟩)) (t : TypeId) (cs : Array Value) (d : TypeDesc) (hg : Blk w g t cs)
    (hu : P.underlying ty = some d) (hd : (match d with | .struct _ | .array _ _ => true | _ => false) = true) (hi : (P.info? ty).map (·.size) = some cs.size)
    (h : wpList P ops Q rest (a.put o.dst (.agg cs)) w) : wpList P ops Q (o :: rest) a w :=
  wpList_load_row hgd ty x ho g hx t cs (0, 0) d hg hu hd hi h
theorem wpList_store_rowP {P : Program} {ops : Array Oper} {rest : List Oper} {o : Oper} {a : Act} {w : World} {Q : Exit → Act → World → Prop} (hgd : o.guard = none) (ty : TypeId) (x y : Operand) (ho : o.op = .store ty x y)
    (g : Nat) (cs : Array Value) (hx : a.eval x = .pointer (some ⟨g, 0, none⟩)) (hy : a.eval y = .agg cs) (t : TypeId) (old : Array Value) (hg : Blk w g t old)
    (hi : (P.info? ty).map (·.size) = some cs.size) (hsz : old.size = cs.size) (h1 : cs.all (·.oneCell') = true)
    (hK : ∀ w', Blk w' g t cs → w.grownBy w' (some g) → wpList P ops Q rest (a.put o.dst undef) w') : wpList P ops Q (o :: rest) a w :=
  wpList_store_blk hgd ty x y ho g cs hx hy t old hg hi hsz h1 hK
theorem Within.of_below_ {lo hi : Nat} {w w' : World} (h : Below w.heap.size w w') : Within lo hi w w' := ⟨h.os, h.tape, h.output, h.size, fun k hk _ => h.block k hk⟩
/-- The cells of a puzzle in a block, told one by one. -/
theorem cells4 {w : World} {g : Nat} {t : TypeId} {a b c d : Value} (h : Blk w g t #[a, b, c, d]) : w.cell? ⟨g, 0, none⟩ = some a ∧ w.cell? ⟨g, 1, none⟩ = some b ∧ w.cell? ⟨g, 2, none⟩ = some c ∧ w.cell? ⟨g, 3, none⟩ = some d := ⟨h.cell 0, h.cell 1, h.cell 2, h.cell 3⟩
/-- The three lists marked from q on. -/
abbrev mk1 (x1 : List Int) (q : Int) : List Int := marks x1.length q
abbrev mk2 (x1 x2 : List Int) (q : Int) : List Int := marks x2.length (q + x1.length)
abbrev mk3 (x1 x2 x3 : List Int) (q : Int) : List Int := marks x3.length (q + x1.length + x2.length)
end Go.Proofs.Ytjpoliibljjhnaa

/-
  Matrices as values: copying, measuring, comparing, marking, holding. Conditions: lengths below 2^40.
-/



namespace Go.Proofs.Ytjpoliibljjhnaa
open Go.RowKit

theorem Try.infoMx : (Try.prog.info? 67).map (·.size) = some 4 := by kernel_rfl
/-- What a call that makes a matrix hands back. -/
def FreshMx (w w' : World) (e : Ending) (p r c : Int) (xs : List Int) : Prop :=
  ∃ A n k, e = .returned (.agg #[.int .i64 p, .int .i64 r, .int .i64 c, .slice A n k]) ∧ Own w' w.heap.size w'.heap.size A n k xs ∧ Below w.heap.size w w'
set_option maxRecDepth 100000 in
set_option maxHeartbeats 1000000 in
theorem eqMatrix_yes (p r c : Int) (A B : Option Addr) (n k m d : Nat) (xs : List Int) (w : World) (h1 : SI w A n xs) (k1 : SI w B m xs) (hn : xs.length ≤ 1099511627776) :
    Calls Try.prog 131 #[.agg #[.int .i64 p, .int .i64 r, .int .i64 c, .slice A n k], .agg #[.int .i64 p, .int .i64 r, .int .i64 c, .slice B m d]] w fun e w' => e = .returned (.bool true) ∧ Below w.heap.size w w' := by
  obtain ⟨w1, hw1⟩ : ∃ w1, w1 = (w.alloc (.cells #[.int .i64 p, .int .i64 r, .int .i64 c, .slice A n k] 67)).alloc (.cells #[.int .i64 p, .int .i64 r, .int .i64 c, .slice B m d] 67) := ⟨_, rfl⟩
  obtain ⟨g, hg⟩ : ∃ g, g = w.heap.size := ⟨_, rfl⟩
  have hk : Blk w1 g 67 #[.int .i64 p, .int .i64 r, .int .i64 c, .slice A n k] := by rw [hw1, hg]; exact (Blk.new _ _ _).alloc _
  have hk2 : Blk w1 (g + 1) 67 #[.int .i64 p, .int .i64 r, .int .i64 c, .slice B m d] := by
    rw [hw1, hg]
    have := Blk.new (w.alloc (.cells #[.int .i64 p, .int .i64 r, .int .i64 c, .slice A n k] 67)) 67 #[.int .i64 p, .int .i64 r, .int .i64 c, .slice B m d]
    simpa using this
  have hb : Below w.heap.size w w1 := by rw [hw1]; go_grown
  have HB := Lib.hid hb
  have HW := Lib.hid hw1
  have HG := Lib.hid hg
  have HS := Lib.hid (And.intro (h1.below hb (Nat.le_refl _)) (k1.below hb (Nat.le_refl _)))
  have HN := Lib.hid (show n ≤ 1099511627776 ∧ m ≤ 1099511627776 by have := h1.1; have := k1.1; omega)
  obtain ⟨q0, q1, q2, q3⟩ := cells4 hk
  obtain ⟨r0, r1, r2, r3⟩ := cells4 hk2
  clear hk hk2 hb hw1 hg h1 k1 hn
  go_enter Try.func131, Try.ntmps131
  go_upto_region 1 with fail
  rw [← HW.out, ← HG.out]
  go_wp2_with (first
    | (go_at_call 19
       refine (eqIntS_any _ _ _ _ _ _ xs xs _ HS.out.1 HS.out.2 HN.out.1 HN.out.2).mono ?_
       rintro e w2 ⟨rfl, hd⟩
       rw [eqL_self]
       have HD2 := Lib.hid hd
       clear hd))
  go_ret
  exact ⟨rfl, HB.out.trans (HD2.out.below _)⟩
end Go.Proofs.Ytjpoliibljjhnaa

/-
  Whether a matrix is one: both sides. Conditions: lengths below 2^40.
-/



namespace Go.Proofs.Ytjpoliibljjhnaa
open Go.RowKit

instance P7.dec (p : Int) : Decidable (P7 p) := by unfold P7; exact inferInstance
def matP (p r c : Int) (xs : List Int) : Prop := P7 p ∧ (0 ≤ r ∧ r ≤ 7) ∧ (1 ≤ c ∧ c ≤ 7) ∧ (xs.length : Int) = r * c ∧ ∀ k, k < xs.length → 0 ≤ nth xs k ∧ nth xs k < p
instance matP.dec (p r c : Int) (xs : List Int) : Decidable (matP p r c xs) := by unfold matP; exact inferInstance
def matB (p r c : Int) (xs : List Int) : Bool := decide (matP p r c xs)
theorem matB_false {p r c : Int} {xs : List Int} (h : ¬ matP p r c xs) : matB p r c xs = false := decide_eq_false h
theorem matB_true {p r c : Int} {xs : List Int} (h : matP p r c xs) : matB p r c xs = true := decide_eq_true h
theorem matB_P {p r c : Int} {xs : List Int} (h : matB p r c xs = true) : matP p r c xs := of_decide_eq_true h
theorem mul_small {r c : Int} (hr : 0 ≤ r ∧ r ≤ 7) (hc : 0 ≤ c ∧ c ≤ 7) : 0 ≤ r * c ∧ r * c ≤ 49 := by
  have h1 : 0 ≤ r * c := Int.mul_nonneg hr.1 hc.1
  have h2 : r * c ≤ 7 * 7 := Int.mul_le_mul hr.2 hc.2 hc.1 (by decide)
  omega
theorem l7Prime_yes {p : Int} (h : P7 p) (w : World) : Calls Try.prog 122 #[.int .i64 p] w fun e w' => e = .returned (.bool true) ∧ w = w' := by
  rcases h with rfl | rfl | rfl | rfl <;>
  · go_enter Try.func122, Try.ntmps122
    go_wp2
    go_ret
    exact ⟨rfl, rfl⟩
theorem l7Prime_no {p : Int} (h : ¬ P7 p) (w : World) : Calls Try.prog 122 #[.int .i64 p] w fun e w' => e = .returned (.bool false) ∧ w = w' := by
  unfold P7 at h
  have h2 : (p == 2) = false := by simp; omega
  have h3 : (p == 3) = false := by simp; omega
  have h5 : (p == 5) = false := by simp; omega
  have h7 : (p == 7) = false := by simp; omega
  clear h
  go_enter Try.func122, Try.ntmps122
  go_wp2
  go_ret
  exact ⟨rfl, rfl⟩
theorem isModulus_yes {p : Int} (h : P7 p) (w : World) : Calls Try.prog 127 #[.int .i64 p] w fun e w' => e = .returned (.bool true) ∧ w = w' := by
  rcases h with rfl | rfl | rfl | rfl <;>
  · go_enter Try.func127, Try.ntmps127
    go_wp2
    go_ret
    exact ⟨rfl, rfl⟩
theorem isModulus_no {p : Int} (h : ¬ P7 p) (w : World) : Calls Try.prog 127 #[.int .i64 p] w fun e w' => e = .returned (.bool false) ∧ w = w' := by
  unfold P7 at h
  have h2 : (p == 2) = false := by simp; omega
  have h3 : (p == 3) = false := by simp; omega
  have h5 : (p == 5) = false := by simp; omega
  have h7 : (p == 7) = false := by simp; omega
  clear h
  go_enter Try.func127, Try.ntmps127
  go_wp2
  go_ret
  exact ⟨rfl, rfl⟩
theorem isNone_any (p x : Int) (g : Nat) (w : World) (hk : w.cell? ⟨g, 0, none⟩ = some (.int .i64 p)) :
    Calls Try.prog 215 #[.int .i64 x, .pointer (some ⟨g, 0, none⟩)] w fun e w' => e = .returned (.bool (decide (¬ (0 ≤ x ∧ x < p)))) ∧ w = w' := by
  by_cases h0 : x < 0
  · have HE : Hid (true = decide (¬ (0 ≤ x ∧ x < p))) := Lib.hid (decide_eq_true (by omega)).symm
    go_enter Try.func215, Try.ntmps215
    go_wp2
    go_ret
    first | exact ⟨ret_bool HE.out, rfl⟩ | exact ⟨rfl, rfl⟩
  · by_cases h1 : x ≥ p
    · have HE : Hid (true = decide (¬ (0 ≤ x ∧ x < p))) := Lib.hid (decide_eq_true (by omega)).symm
      go_enter Try.func215, Try.ntmps215
      go_wp2
      go_ret
      first | exact ⟨ret_bool HE.out, rfl⟩ | exact ⟨rfl, rfl⟩
    · have HE : Hid (false = decide (¬ (0 ≤ x ∧ x < p))) := Lib.hid (decide_eq_false (by omega)).symm
      go_enter Try.func215, Try.ntmps215
      go_wp2
      go_ret
      first | exact ⟨ret_bool HE.out, rfl⟩ | exact ⟨rfl, rfl⟩
set_option maxHeartbeats 800000 in
theorem indexNone_any (A : Option Addr) (n c : Nat) (xs : List Int) (p : Int) (g : Nat) (w : World) (hs : SI w A n xs) (hn : n ≤ 1099511627776) (hk : w.cell? ⟨g, 0, none⟩ = some (.int .i64 p)) :
    Calls Try.prog 212 #[.slice A n c, .func (.func 215) #[] #[.pointer (some ⟨g, 0, none⟩)]] w fun r w' =>
      ∃ i : Int, r = .returned (.int .i64 i) ∧ (i < 0 ∧ (∀ k, k < n → 0 ≤ nth xs k ∧ nth xs k < p) ∨ 0 ≤ i ∧ ∃ k, k < n ∧ ¬ (0 ≤ nth xs k ∧ nth xs k < p)) ∧ Drawn w w' := by
  have HF : Hid (∀ w', Drawn w w' → ∀ y, Calls Try.prog 215 #[.int .i64 y, .pointer (some ⟨g, 0, none⟩)] w' fun e w2 => e = .returned (.bool (decide (¬ (0 ≤ y ∧ y < p)))) ∧ w' = w2) := Lib.hid (fun w' hd y => isNone_any p y g w' (by obtain ⟨m, rfl⟩ := hd; exact hk))
  clear hk
  go_enter Try.func212, Try.ntmps212
  go_wp2
  go_loopw [8] (fun i wr => ∃ k : Nat, k ≤ n ∧ i = .int .i64 k ∧ Drawn w wr ∧ ∀ j, j < k → 0 ≤ nth xs j ∧ nth xs j < p)
    (fun i _ => n - (intOf i).toNat)
  case atStart => exact ⟨0, Nat.zero_le _, rfl, Drawn.refl _, fun j hj => absurd hj (by omega)⟩
  case round =>
    obtain ⟨k, hk, rfl, hD, hall⟩ := hrel
    have HA := Lib.hid hall
    have HDR := Lib.hid hD
    have hs := hD.si hs
    clear hall hD
    by_cases hlt : k < n
    · have hlI : (k : Int) < (n : Int) := by omega
      obtain ⟨b, o, rfl, hb, hc⟩ := hs.at_ (by omega)
      have hc1 := hc k hlt
      obtain ⟨y, hy⟩ : ∃ y, y = nth xs k := ⟨_, rfl⟩
      rw [← hy] at hc1
      have HY := Lib.hid hy
      clear hc hy hs
      by_cases hg : 0 ≤ y ∧ y < p
      · have HG := Lib.hid hg
        have HF2 := Lib.hid (HF.out wr HDR.out y)
        rw [decide_eq_false (fun h => h hg)] at HF2
        clear hg
        go_wp2_with (go_at_call 215; refine HF2.out.mono ?_; rintro r w2 ⟨rfl, rfl⟩)
        go_roundw
        case rel => exact ⟨k + 1, by omega, by go_num, HDR.out, fun j hj => by
          rcases Nat.lt_or_ge j k with h | h
          · exact HA.out j h
          · obtain rfl : j = k := by omega
            rw [← HY.out]; exact HG.out⟩
        case measure => simp [intOf]; omega
      · have HG := Lib.hid hg
        have HF2 := Lib.hid (HF.out wr HDR.out y)
        rw [decide_eq_true hg] at HF2
        clear hg
        go_wp2_with (go_at_call 215; refine HF2.out.mono ?_; rintro r w2 ⟨rfl, rfl⟩)
        go_ret
        exact ⟨(k : Int), rfl, .inr ⟨by omega, k, hlt, by rw [← HY.out]; exact HG.out⟩, HDR.out⟩
    · have hkn : k = n := by omega
      subst hkn
      go_wp2
      go_ret
      exact ⟨-1, rfl, .inl ⟨by omega, HA.out⟩, HDR.out⟩
set_option maxHeartbeats 400000 in
theorem containsNone_is (b : Bool) (A : Option Addr) (n c : Nat) (xs : List Int) (p : Int) (g : Nat) (w : World) (hs : SI w A n xs) (hn : n ≤ 1099511627776) (hk : w.cell? ⟨g, 0, none⟩ = some (.int .i64 p)) (hb : b = false ↔ ∀ k, k < n → 0 ≤ nth xs k ∧ nth xs k < p) :
    Calls Try.prog 177 #[.slice A n c, .func (.func 215) #[] #[.pointer (some ⟨g, 0, none⟩)]] w fun r w' => r = .returned (.bool b) ∧ Drawn w w' := by
  have HC := Lib.hid (indexNone_any A n c xs p g w hs hn hk)
  have HBB := Lib.hid hb
  clear hs hk hb
  go_enter Try.func177, Try.ntmps177
  go_wp2_with (go_at_call 212; refine HC.out.mono ?_; rintro r w2 ⟨i, rfl, hi, hd⟩; have HI := Lib.hid hi; have HD := Lib.hid hd; clear hi hd)
  go_ret
  refine ⟨ret_bool ?_, HD.out⟩
  rcases HI.out with ⟨h1, h2⟩ | ⟨h1, k, hk, h2⟩
  · rw [HBB.out.2 h2]
    simp only [decide_eq_false_iff_not]; omega
  · have hbt : b = true := by
      cases b with
      | true => rfl
      | false => exact absurd (HBB.out.1 rfl k hk) h2
    rw [hbt]
    simp only [decide_eq_true_eq]; omega
end Go.Proofs.Ytjpoliibljjhnaa

/-
  Whether a matrix is one: the document's function and the program's. Conditions: lengths below 2^40.
-/

namespace Go.Proofs.Ytjpoliibljjhnaa
open Go.RowKit

set_option maxRecDepth 100000 in
set_option maxHeartbeats 4000000 in
theorem implMatrixOk_any (p r c : Int) (A : Option Addr) (n k : Nat) (xs : List Int) (w : World) (hs : SI w A n xs) (hn : n ≤ 1099511627776) :
    Calls Try.prog 146 #[.agg #[.int .i64 p, .int .i64 r, .int .i64 c, .slice A n k]] w fun e w' => e = .returned (.bool (matB p r c xs)) ∧ Below w.heap.size w w' := by
  obtain ⟨w1, hw1⟩ : ∃ w1, w1 = w.alloc (.cells #[.int .i64 p, .int .i64 r, .int .i64 c, .slice A n k] 67) := ⟨_, rfl⟩
  obtain ⟨g, hg⟩ : ∃ g, g = w.heap.size := ⟨_, rfl⟩
  have hk : Blk w1 g 67 #[.int .i64 p, .int .i64 r, .int .i64 c, .slice A n k] := by rw [hw1, hg]; exact Blk.new _ _ _
  have hb : Below w.heap.size w w1 := by rw [hw1]; exact Below.alloc_self _ _
  have HB := Lib.hid hb
  have HW := Lib.hid hw1
  have HG := Lib.hid hg
  have HK := Lib.hid hk
  have HL := Lib.hid hs.1
  have HS := Lib.hid (hs.below hb (Nat.le_refl _))
  obtain ⟨q0, q1, q2, q3⟩ := cells4 hk
  clear hb hw1 hg hk hs
  by_cases hneg : P7 p
  case neg =>
    have HP := Lib.hid (fun w => isModulus_no hneg w)
    have HF := Lib.hid (matB_false (p := p) (r := r) (c := c) (xs := xs) (fun h => hneg h.1))
    clear hneg
    go_enter Try.func146, Try.ntmps146
    go_upto_region 1 with fail
    rw [← HW.out, ← HG.out]
    go_wp2_with (first | (go_at_call 127; with_reducible refine (HP.out _).mono ?_; rintro e w2 ⟨rfl, rfl⟩))
    go_ret
    exact ⟨ret_bool HF.out.symm, HB.out⟩
  case pos =>
    have HP := Lib.hid (fun w => isModulus_yes hneg w)
    have HP7 := Lib.hid hneg
    clear hneg
    by_cases hneg : r < 0
    case pos =>
      have hr0 := hneg
      have HF := Lib.hid (matB_false (p := p) (r := r) (c := c) (xs := xs) (fun h => by have := h.2.1; omega))
      clear hneg
      go_enter Try.func146, Try.ntmps146
      go_upto_region 1 with fail
      rw [← HW.out, ← HG.out]
      go_wp2_with (first | (go_at_call 127; with_reducible refine (HP.out _).mono ?_; rintro e w2 ⟨rfl, rfl⟩))
      go_ret
      exact ⟨ret_bool HF.out.symm, HB.out⟩
    case neg =>
    by_cases hneg2 : r ≤ 7
    case neg =>
      have hr0 := hneg
      clear hneg
      have hneg := hneg2
      clear hneg2
      have hr7 : r > 7 := by omega
      have HF := Lib.hid (matB_false (p := p) (r := r) (c := c) (xs := xs) (fun h => by have := h.2.1; omega))
      clear hneg
      go_enter Try.func146, Try.ntmps146
      go_upto_region 1 with fail
      rw [← HW.out, ← HG.out]
      go_wp2_with (first | (go_at_call 127; with_reducible refine (HP.out _).mono ?_; rintro e w2 ⟨rfl, rfl⟩))
      go_ret
      exact ⟨ret_bool HF.out.symm, HB.out⟩
    case pos =>
      have HRB : Hid (0 ≤ r ∧ r ≤ 7) := Lib.hid (by omega)
      have hr0 := hneg
      clear hneg
      have hr7 : ¬ r > 7 := by omega
      clear hneg2
      by_cases hneg : 1 ≤ c ∧ c ≤ 7
      case neg =>
        have HC := Lib.hid (fun w => isPermSize_no (a := c) (by omega) w)
        have HF := Lib.hid (matB_false (p := p) (r := r) (c := c) (xs := xs) (fun h => hneg h.2.2.1))
        clear hneg
        go_enter Try.func146, Try.ntmps146
        go_upto_region 1 with fail
        rw [← HW.out, ← HG.out]
        go_wp2_with (first | (go_at_call 127; with_reducible refine (HP.out _).mono ?_; rintro e w2 ⟨rfl, rfl⟩) | (go_at_call 182; with_reducible refine (HC.out _).mono ?_; rintro e w2 ⟨rfl, rfl⟩))
        go_ret
        exact ⟨ret_bool HF.out.symm, HB.out⟩
      case pos =>
        have HC := Lib.hid (fun w => isPermSize_yes (a := c) hneg.1 hneg.2 w)
        have HCB := Lib.hid hneg
        clear hneg
        obtain ⟨rc, hrc⟩ : ∃ rc, rc = r * c := ⟨_, rfl⟩
        have hrcb := mul_small HRB.out ⟨by have := HCB.out; omega, HCB.out.2⟩
        rw [← hrc] at hrcb
        have hwr : IntKind.i64.wrap (r * c) = rc := by rw [← hrc]; exact IntWalk.i64_in _ (by omega)
        have HRC := Lib.hid hrc
        clear hrc
        by_cases hneg : (n : Int) = rc
        case neg =>
          have hb1 : ((n : Int) != rc) = true := by simpa using hneg
          have HF := Lib.hid (matB_false (p := p) (r := r) (c := c) (xs := xs) (fun h => hneg (by have := h.2.2.2.1; rw [HL.out, ← HRC.out] at this; exact this)))
          clear hneg
          go_enter Try.func146, Try.ntmps146
          go_upto_region 1 with fail
          rw [← HW.out, ← HG.out]
          go_wp2_with (first | (go_at_call 127; with_reducible refine (HP.out _).mono ?_; rintro e w2 ⟨rfl, rfl⟩) | (go_at_call 182; with_reducible refine (HC.out _).mono ?_; rintro e w2 ⟨rfl, rfl⟩))
          go_ret
          exact ⟨ret_bool HF.out.symm, HB.out⟩
        case pos =>
          have hb1 : ((n : Int) != rc) = false := by simpa using hneg
          have HN := Lib.hid hneg
          clear hneg
          have hn49 : n ≤ 49 := by have := HN.out; omega
          obtain ⟨bb, hbb⟩ : ∃ bb, bb = matB p r c xs := ⟨_, rfl⟩
          have HBB : Hid ((!bb) = false ↔ ∀ k, k < n → 0 ≤ nth xs k ∧ nth xs k < p) := Lib.hid (by
            rw [hbb]
            constructor
            · intro h
              have h2 : matB p r c xs = true := by simpa using h
              have h3 := (matB_P h2).2.2.2.2
              rw [HL.out] at h3; exact h3
            · intro h
              rw [matB_true ⟨HP7.out, HRB.out, HCB.out, by rw [HL.out, ← HRC.out]; exact HN.out, by rw [HL.out]; exact h⟩]; rfl)
          rw [← hbb]
          have HCN := Lib.hid (containsNone_is (!bb) A n k xs p g w1 HS.out hn q0 HBB.out)
          have hmf : ∀ (fn : Fn) (first cap : Array Value) (w : World), (Instr.makeFunc fn first cap).run Try.prog w = .ok (.func fn first cap) w := fun _ _ _ _ => rfl
          clear hbb HBB
          go_enter Try.func146, Try.ntmps146
          go_upto_region 1 with fail
          rw [← HW.out, ← HG.out]
          go_wp2_with (first | (go_at_call 127; with_reducible refine (HP.out _).mono ?_; rintro e w2 ⟨rfl, rfl⟩) | (go_at_call 182; with_reducible refine (HC.out _).mono ?_; rintro e w2 ⟨rfl, rfl⟩) | (go_at_call 177; with_reducible refine HCN.out.mono ?_; rintro e w2 ⟨rfl, hd⟩; have HD := Lib.hid hd; clear hd))
          go_ret
          exact ⟨ret_bool (by simp), HB.out.trans (HD.out.below _)⟩
end Go.Proofs.Ytjpoliibljjhnaa

/-
  New matrices and rows of matrices, on the program's side. Conditions: sizes at most 14.
-/


namespace Go.Proofs.Ytjpoliibljjhnaa
open Go.RowKit

theorem nat_mul_small {r c : Nat} (hr : r ≤ 14) (hc : c ≤ 14) : r * c ≤ 196 := by
  have h : r * c ≤ 14 * 14 := Nat.mul_le_mul hr hc
  omega
theorem wrap_mul_nat {r c N : Nat} (hN : N = r * c) (h : N ≤ 1099511627776) : IntKind.i64.wrap ((r : Int) * (c : Int)) = (N : Int) := by
  rw [show (r : Int) * (c : Int) = (N : Int) by rw [hN]; simp]
  exact IntWalk.i64_in _ (by omega)
set_option maxHeartbeats 1000000 in
theorem zeroMatrix_any (p : Int) (r c : Nat) (w : World) (hr : r ≤ 14) (hc : c ≤ 14) :
    Calls Try.prog 219 #[.int .i64 p, .int .i64 r, .int .i64 c] w fun e w' => FreshMx w w' e p r c (List.replicate (r * c) 0) := by
  obtain ⟨w1, hw1⟩ : ∃ w1, w1 = w.alloc (.cells #[.int .i64 0, .int .i64 0, .int .i64 0, .slice none 0 0] 67) := ⟨_, rfl⟩
  obtain ⟨g, hg⟩ : ∃ g, g = w.heap.size := ⟨_, rfl⟩
  have hk : Blk w1 g 67 #[.int .i64 0, .int .i64 0, .int .i64 0, .slice none 0 0] := by rw [hw1, hg]; exact Blk.new _ _ _
  have HB : Hid (Below w.heap.size w w1) := Lib.hid (by rw [hw1]; exact Below.alloc_self _ _)
  have HW := Lib.hid hw1
  have HG := Lib.hid hg
  have HK := Lib.hid hk
  obtain ⟨N, hN⟩ : ∃ N, N = r * c := ⟨_, rfl⟩
  have hN1 : N ≤ 1099511627776 := by have := nat_mul_small hr hc; omega
  have hwr := wrap_mul_nat hN hN1
  rw [← hN]
  clear hw1 hg hk hN
  go_enter Try.func219, Try.ntmps219
  go_upto_region 1 with fail
  rw [← HW.out, ← HG.out]
  go_wp2_with (first
    | (at_make; refine wpList_make_zero rfl (.tmp 12) (.tmp 12) rfl N rfl rfl hN1 ?_; intro w2 ho2 hb2; have HO2 := Lib.hid ho2; have HB2 := Lib.hid hb2; obtain ⟨g2, hg2⟩ : ∃ g2, g2 = w1.heap.size := ⟨_, rfl⟩; have HG2 := Lib.hid hg2; rw [← hg2]; clear ho2 hb2 hg2)
    | (refine wpList_store_rowP rfl 67 (.tmp 6) (.tmp 14) rfl g #[.int .i64 p, .int .i64 r, .int .i64 c, .slice (some ⟨g2, 0, none⟩) N N] rfl rfl 67 #[.int .i64 0, .int .i64 0, .int .i64 0, .slice none 0 0] (HK.out.below HB2.out HK.out.lt) Try.infoMx rfl (by simp [Value.oneCell']) ?_; intro w5 hb5 hg5)
    | fail)
  refine bodyPost_ret (results_rowP Try.results219 _ _ _ 67 #[.int .i64 p, .int .i64 r, .int .i64 c, .slice (some ⟨g2, 0, none⟩) N N] _ rfl hb5 Try.underlying67 rfl Try.infoMx) rfl ?_
  have l1 := HG.out
  have l2 := HG2.out
  have l3 := HK.out.lt
  have l4 := HB.out.size
  have l5 := hg5.size
  have l6 := HB2.out.size
  have ho := HO2.out
  rw [← l2] at ho
  refine ⟨some ⟨g2, 0, none⟩, N, N, rfl, ?_, ?_⟩
  · exact (ho.grown hg5 (fun k hk => by injection hk with hk; omega)).wide (by omega) (by omega)
  · exact (HB.out.trans (HB2.out.mono (by omega))).grown hg5 (by omega) (by rintro k ⟨⟩; omega)
set_option maxHeartbeats 1000000 in
/-- A row of a matrix: a part of its Data. -/
theorem matRow_any (p r : Int) (b o n k c i : Nat) (w : World) (hc : c ≤ 14) (hi : i ≤ 14) (h : (i + 1) * c ≤ n) (hnk : n ≤ k) (hn : n ≤ 1099511627776) (hc0 : 0 < c) :
    Calls Try.prog 220 #[.agg #[.int .i64 p, .int .i64 r, .int .i64 c, .slice (some ⟨b, o, none⟩) n k], .int .i64 i] w fun e w' => e = .returned (.slice (some ⟨b, o + i * c, none⟩) c (k - i * c)) ∧ Below w.heap.size w w' := by
  obtain ⟨w1, hw1⟩ : ∃ w1, w1 = w.alloc (.cells #[.int .i64 p, .int .i64 r, .int .i64 c, .slice (some ⟨b, o, none⟩) n k] 67) := ⟨_, rfl⟩
  obtain ⟨g, hg⟩ : ∃ g, g = w.heap.size := ⟨_, rfl⟩
  have hk : Blk w1 g 67 #[.int .i64 p, .int .i64 r, .int .i64 c, .slice (some ⟨b, o, none⟩) n k] := by rw [hw1, hg]; exact Blk.new _ _ _
  have HB : Hid (Below w.heap.size w w1) := Lib.hid (by rw [hw1]; exact Below.alloc_self _ _)
  have HW := Lib.hid hw1
  have HG := Lib.hid hg
  obtain ⟨q0, q1, q2, q3⟩ := cells4 hk
  obtain ⟨N, hN⟩ : ∃ N, N = i * c := ⟨_, rfl⟩
  obtain ⟨M, hM⟩ : ∃ M, M = (i + 1) * c := ⟨_, rfl⟩
  have hMN : M = N + c := by rw [hM, hN, Nat.add_mul, Nat.one_mul]
  have hM1 : M ≤ 1099511627776 := by omega
  have hwr := wrap_mul_nat hN (by omega)
  have hwr2 : IntKind.i64.wrap (((i : Int) + 1) * (c : Int)) = (M : Int) := by
    have := wrap_mul_nat hM hM1
    rwa [Int.natCast_add] at this
  rw [← hM] at h
  rw [← hN]
  have hkN : ¬ k = N := by omega
  have HMN := Lib.hid hMN
  have hd : (M : Int) - (N : Int) = (c : Int) := by omega
  clear hw1 hg hk hN hM
  go_enter Try.func220, Try.ntmps220
  go_upto_region 1 with fail
  rw [← HW.out, ← HG.out]
  go_wp2
  go_ret
  refine ⟨?_, HB.out⟩
  simp
end Go.Proofs.Ytjpoliibljjhnaa

/-
  The first rows of a matrix as slices of its Data, on the program's side. Conditions: sizes at most 14.
-/



namespace Go.Proofs.Ytjpoliibljjhnaa
open Go.RowKit

/-- A block of its own with these heads of slices. -/
def OwnH (w : World) (lo g n : Nat) (E : Nat → Sv) : Prop := w.ownsRow lo 22 1 (.slice (some ⟨g, 0, none⟩) n n) n (heads n E)
section
variable {w w' : World} {lo g n : Nat} {E : Nat → Sv}
theorem OwnH.at_ (h : OwnH w lo g n E) : lo ≤ g ∧ g < w.heap.size := h.lt g rfl
theorem OwnH.below {B : Nat} (h : OwnH w lo g n E) (hb : Below B w w') (hB : g < B) : OwnH w' lo g n E := by
  refine ⟨h.1, ?_⟩
  rcases h.2 with hn | ⟨g', cap, cur, e, hl, hg, rest⟩
  · exact .inl hn
  · have hlt : g' = g := by injection e with e1; injection e1 with e1; injection e1 with e1; exact e1.symm
    subst hlt
    exact .inr ⟨g', cap, cur, e, hl, (hb.block g' (by omega)).trans hg, rest⟩
theorem OwnH.cellAt (h : OwnH w lo g n E) {k : Nat} (hk : k < n) : w.cell? ⟨g, k, none⟩ = some (sv (E k)) := by
  rw [World.ownsRow.cellAt h k (by omega), heads_get _ hk]
theorem OwnH.set_ (h : OwnH w lo g n E) {k : Nat} (hk : k < n) (a : Sv) : OwnH (w.setCell ⟨g, k, none⟩ (sv a)) lo g n (fun j => if j = k then a else E j) ∧ w.grownBy (w.setCell ⟨g, k, none⟩ (sv a)) (some g) := by
  have hst := World.ownsRow.stored h k (sv a)
  rw [heads_set E hk a] at hst
  exact hst
theorem OwnH.ls {ls : List (List Int)} (h : OwnH w lo g n E) (hl : ls.length = n) (hs : ∀ k, k < n → SI w (E k).1 (E k).2.1 (li ls k) ∧ (E k).2.1 ≤ (E k).2.2 ∧ ((E k).1 = none → (E k).2.1 = 0 ∧ (E k).2.2 = 0)) : LS w (some ⟨g, 0, none⟩) n ls :=
  ⟨hl, fun _ => ⟨g, 0, rfl, h.at_.2, fun k hk => ⟨(E k).1, (E k).2.1, (E k).2.2, by rw [Nat.zero_add]; exact h.cellAt hk, (hs k hk).1, (hs k hk).2.1, (hs k hk).2.2⟩⟩⟩
theorem OwnH.congr {F : Nat → Sv} (h : OwnH w lo g n E) (e : ∀ k, k < n → E k = F k) : OwnH w lo g n F := by
  unfold OwnH at h ⊢
  rwa [heads_congr e] at h
end
/-- 'make([][]int, n)'. -/
theorem wpList_make_heads {ops : Array Oper} {rest : List Oper} {o : Oper} {a : Act} {w : World} {Q : Exit → Act → World → Prop} (hgd : o.guard = none) (l c : Operand) (ho : o.op = .makeSlice 23 l c)
    (n : Nat) (hl : a.eval l = .int .i64 n) (hc : a.eval c = .int .i64 n) (hn : n ≤ 1099511627776)
    (hK : ∀ w', OwnH w' w.heap.size w.heap.size n (fun _ => (none, 0, 0)) → Below w.heap.size w w' → wpList Try.prog ops Q rest (a.put o.dst (.slice (some ⟨w.heap.size, 0, none⟩) n n)) w') :
    wpList Try.prog ops Q (o :: rest) a w := by
  obtain ⟨i0, hi, hz0, hz1, hz2⟩ := info_parts Try.infoLs
  refine wpList_make_full w hgd l c 23 ho w.heap.size 22 i0 (.slice none 0 0) 1 Try.underlying23 hi hz0 hz1 .i64 .i64 n n n hl hc rfl rfl (by rw [hz2]; omega) (by unfold maxLen; omega) (Nat.le_refl _) ?_
  intro w1 ho1 hg1
  have e : (madeCells (Value.slice none 0 0).cells (n * 1)).toList = heads n (fun _ => (none, 0, 0)) := by
    rw [show (Value.slice none 0 0).cells = #[Value.slice none 0 0] from rfl, Nat.mul_one, toList_madeCells_one]
    apply List.ext_getElem (by simp [heads])
    intro j h1 h2
    simp [heads, sv]
  rw [e] at ho1
  exact hK w1 ho1 (grow_below hg1 (Nat.le_refl _) (by intro k hk; cases hk))
set_option maxRecDepth 100000 in
set_option maxHeartbeats 1000000 in
theorem firstRows_any (p r : Int) (A : Option Addr) (b o n k c R : Nat) (w : World) (hA : 0 < R → A = some ⟨b, o, none⟩) (hc : 0 < c ∧ c ≤ 14) (hR : R ≤ 14) (h : R * c ≤ n) (hnk : n ≤ k) (hn : n ≤ 1099511627776) :
    Calls Try.prog 158 #[.agg #[.int .i64 p, .int .i64 r, .int .i64 c, .slice A n k], .int .i64 R] w fun e w' => ∃ g, e = .returned (.slice (some ⟨g, 0, none⟩) R R) ∧ OwnH w' w.heap.size g R (fun i => (some ⟨b, o + i * c, none⟩, c, k - i * c)) ∧ Below w.heap.size w w' := by
  obtain ⟨w1, hw1⟩ : ∃ w1, w1 = w.alloc (.cells #[.int .i64 p, .int .i64 r, .int .i64 c, .slice A n k] 67) := ⟨_, rfl⟩
  obtain ⟨g, hg⟩ : ∃ g, g = w.heap.size := ⟨_, rfl⟩
  have hk : Blk w1 g 67 #[.int .i64 p, .int .i64 r, .int .i64 c, .slice A n k] := by rw [hw1, hg]; exact Blk.new _ _ _
  have HB : Hid (Below w.heap.size w w1) := Lib.hid (by rw [hw1]; exact Below.alloc_self _ _)
  have HSZ : Hid (w1.heap.size = g + 1) := Lib.hid (by rw [hw1, hg]; simp)
  have HW := Lib.hid hw1
  have HG := Lib.hid hg
  have HK := Lib.hid hk
  have HC := Lib.hid hc
  have HRn := Lib.hid h
  have HA := Lib.hid hA
  clear hA
  obtain ⟨q0, q1, q2, q3⟩ := cells4 hk
  clear hw1 hg hk hc h
  go_enter Try.func158, Try.ntmps158
  go_upto_region 1 with fail
  rw [← HW.out, ← HG.out]
  go_wp2_with (at_make; refine wpList_make_heads rfl (.tmp 7) (.tmp 7) rfl R rfl rfl (by omega) ?_; intro w2 ho2 hb2; have HO2 := Lib.hid ho2; have HB2 := Lib.hid hb2; obtain ⟨g2, hg2⟩ : ∃ g2, g2 = w1.heap.size := ⟨_, rfl⟩; have HG2 := Lib.hid hg2; rw [← hg2]; clear ho2 hb2 hg2)
  clear q0 q1 q2 q3
  go_loopw [11] (fun iv wr => ∃ i : Nat, i ≤ R ∧ iv = .int .i64 i ∧ OwnH wr w1.heap.size g2 R (fun j => if j < i then (some ⟨b, o + j * c, none⟩, c, k - j * c) else (none, 0, 0)) ∧ Below w1.heap.size w1 wr)
    (fun iv _ => R - (intOf iv).toNat)
  case atStart => exact ⟨0, Nat.zero_le _, rfl, by have := HO2.out; rw [← HG2.out] at this ⊢; exact this.congr fun k _ => by simp, HB2.out⟩
  case round =>
    obtain ⟨i, hi, rfl, ho, hb⟩ := hrel
    clear HO2 HB2
    have HO := Lib.hid ho
    have HBR := Lib.hid hb
    clear ho hb
    by_cases hlt : i < R
    case neg =>
      have hin : i = R := by omega
      subst hin
      go_wp2
      go_ret
      exact ⟨g2, rfl, by
        have := HO.out
        have h2 : OwnH wr w1.heap.size g2 i (fun i => (some ⟨b, o + i * c, none⟩, c, k - i * c)) := this.congr fun j hj => by simp [hj]
        refine ⟨h2.1, ?_⟩
        rcases h2.2 with hn | ⟨g', cap, cur, e, hl, rest⟩
        · exact .inl hn
        · exact .inr ⟨g', cap, cur, e, by have := HSZ.out; have := HG.out; omega, rest⟩, HB.out.trans (HBR.out.mono (by have := HSZ.out; have := HG.out; omega))⟩
    case pos =>
      have hlI : (i : Int) < (R : Int) := by omega
      obtain rfl := HA.out (by omega)
      have HKr := Lib.hid (HK.out.below HBR.out HK.out.lt)
      have HCR := Lib.hid (matRow_any p r b o n k c i wr HC.out.2 (by omega) (by have h1 := HRn.out; have h2 : (i + 1) * c ≤ R * c := Nat.mul_le_mul (by omega) (Nat.le_refl _); omega) hnk hn HC.out.1)
      go_wp2_with (first
        | (refine wpList_load_rowP rfl 67 (.tmp 2) rfl g rfl 67 #[.int .i64 p, .int .i64 r, .int .i64 c, .slice (some ⟨b, o, none⟩) n k] _ HKr.out Try.underlying67 rfl Try.infoMx ?_)
        | (go_at_call 220
           with_reducible refine HCR.out.mono ?_
           rintro e w3 ⟨rfl, hb3⟩
           have ho3 := HO.out.below hb3 HO.out.at_.2
           have hc3 := ho3.cellAt hlt
           have hf3 : w3.frozen? ⟨g2, i, none⟩ = false := World.ownsRow.frozenAt ho3 i
           have hst := ho3.set_ hlt (some ⟨b, o + i * c, none⟩, c, k - i * c)
           have HST := Lib.hid hst
           have HB3 : Hid (Below w1.heap.size w1 w3) := Lib.hid (HBR.out.trans (hb3.mono HBR.out.size))
           have HL3 : Hid (w1.heap.size ≤ g2 ∧ g2 < w3.heap.size) := Lib.hid ho3.at_
           simp only [Nat.lt_irrefl, if_false, sv] at hc3
           clear hst ho3 hb3)
        | fail)
      go_roundw
      case rel => exact ⟨i + 1, by omega, by go_num, HST.out.1.congr fun j hj => by
          by_cases e : j = i
          · subst e; simp
          · by_cases e2 : j < i
            · simp [e, e2, Nat.lt_succ_of_lt e2]
            · have e3 : ¬ j < i + 1 := by omega
              simp [e, e2, e3], HB3.out.grown HST.out.2 HB3.out.size (by rintro q ⟨⟩; exact HL3.out.1)⟩
      case measure => simp [intOf]; omega
end Go.Proofs.Ytjpoliibljjhnaa

/-
  A row plus a multiple of another one, in memory, on the program's side. Conditions: the modulus at most 7, numbers are rests, lengths at most 1000.
-/

namespace Go.Proofs.Ytjpoliibljjhnaa
open Go.RowKit

/-- The numbers of d from o on, as many as k, plus multiples of those of y. -/
def addO (p : Int) (d : List Int) (o : Nat) (f : Int) (y : List Int) (k : Nat) : List Int := (List.range d.length).map fun q => if o ≤ q ∧ q < o + k then (nth d q + f * nth y (q - o)) % p else nth d q
theorem addO_len (p : Int) (d : List Int) (o : Nat) (f : Int) (y : List Int) (k : Nat) : (addO p d o f y k).length = d.length := by simp [addO]
theorem addO_nth {p : Int} {d : List Int} {o : Nat} {f : Int} {y : List Int} {k q : Nat} (h : q < d.length) : nth (addO p d o f y k) q = if o ≤ q ∧ q < o + k then (nth d q + f * nth y (q - o)) % p else nth d q := nth_rangeMap _ h
theorem addO_zero (p : Int) (d : List Int) (o : Nat) (f : Int) (y : List Int) : addO p d o f y 0 = d :=
  nth_ext (addO_len ..) fun j hj => by rw [addO_nth (by rwa [addO_len] at hj), if_neg (by omega)]
theorem addO_succ {p : Int} {d : List Int} {o : Nat} {f : Int} {y : List Int} {k : Nat} (h : o + k < d.length) : (addO p d o f y k).set (o + k) ((nth d (o + k) + f * nth y k) % p) = addO p d o f y (k + 1) :=
  nth_ext (by rw [List.length_set, addO_len, addO_len]) fun j hj => by
    rw [List.length_set, addO_len] at hj
    rw [nth_set_at (by rw [addO_len]; exact h), addO_nth hj, addO_nth hj]
    by_cases e : j = o + k
    · subst e; rw [if_pos rfl, if_pos (by omega), show o + k - o = k by omega]
    · rw [if_neg e]
      by_cases hlt : o ≤ j ∧ j < o + k
      · rw [if_pos hlt, if_pos (by omega)]
      · rw [if_neg hlt, if_neg (by omega)]
theorem addO_rg {p : Int} (hp : 0 < p) {d : List Int} (hx : Rg p d) (o : Nat) (f : Int) (y : List Int) (k : Nat) : Rg p (addO p d o f y k) := fun j => by
  by_cases h : j < d.length
  · rw [addO_nth h]
    split
    · exact ⟨Int.emod_nonneg _ (by omega), Int.emod_lt_of_pos _ hp⟩
    · exact hx j
  · rw [nth_past (by rw [addO_len]; omega)]; exact ⟨Int.le_refl _, hp⟩
theorem addO_whole (p : Int) (d : List Int) (f : Int) (y : List Int) : addO p d 0 f y d.length = addT p d f y :=
  nth_ext (by rw [addO_len, addT_len]) fun j hj => by
    rw [addO_len] at hj
    rw [addO_nth hj, if_pos (by omega), addT_nth hj, Nat.sub_zero]
set_option maxRecDepth 100000 in
set_option maxHeartbeats 1000000 in
theorem rowTimes_any (p f : Int) (g N K lo hi o n cr : Nat) (d y : List Int) (A2 : Option Addr) (c2 : Nat) (w : World) (hp : 2 ≤ p ∧ p ≤ 7) (hf : 0 ≤ f ∧ f ≤ 7) (hd : Rg p d) (hy : Rg p y)
    (ho : Own w lo hi (some ⟨g, 0, none⟩) N K d) (hon : o + n ≤ N) (hN : N ≤ 1000)
    (hs2 : SI w A2 n y) (hfar : (∀ b o', A2 = some ⟨b, o', none⟩ → b ≠ g) ∨ A2 = some ⟨g, o, none⟩) :
    Calls Try.prog 211 #[.int .i64 p, .slice (some ⟨g, o, none⟩) n cr, .int .i64 f, .slice A2 n c2] w fun e w' => e = .returned (.tuple #[]) ∧ Own w' lo hi (some ⟨g, 0, none⟩) N K (addO p d o f y n) ∧ ∃ wm, Drawn w wm ∧ wm.grownBy w' (some g) := by
  have HL := Lib.hid ho.len
  have HP := Lib.hid hp
  have HF := Lib.hid hf
  have HD := Lib.hid hd
  have HY := Lib.hid hy
  have HS2 := Lib.hid hs2
  have HFAR := Lib.hid hfar
  have hself : (A2 = some ⟨g, o, none⟩) → ∀ j, j < n → nth d (o + j) = nth y j := fun e j hj => by
    have h1 := hs2.2 (by omega)
    obtain ⟨b, o', e', _, hc⟩ := h1
    rw [e] at e'
    injection e' with e'
    injection e' with e1 e2
    subst e1 e2
    have h2 := hc j hj
    rw [ho.cellAt (by omega)] at h2
    injection h2 with h2
    injection h2
  have HSELF := Lib.hid hself
  have hpnz : p ≠ 0 := by omega
  clear hself hs2 hfar hd hy hp hf
  go_enter Try.func211, Try.ntmps211
  go_wp2
  go_loopw [12] (fun iv wr => ∃ j : Nat, j ≤ n ∧ iv = .int .i64 j ∧ Own wr lo hi (some ⟨g, 0, none⟩) N K (addO p d o f y j) ∧ w.grownBy wr (some g))
    (fun iv _ => n - (intOf iv).toNat)
  case atStart => exact ⟨0, Nat.zero_le _, rfl, by rw [addO_zero]; exact ho, World.grownBy.refl _ _⟩
  case round =>
    obtain ⟨j, hj, rfl, hown, hgr⟩ := hrel
    have HO := Lib.hid hown
    have HG := Lib.hid hgr
    clear hown hgr ho
    by_cases hlt : j < n
    case neg =>
      have hjn : j = n := by omega
      subst hjn
      go_wp2
      go_returns
      exact ⟨rfl, HO.out, w, Drawn.refl _, HG.out⟩
    case pos =>
      have hlI : (j : Int) < (n : Int) := by omega
      obtain ⟨b2, o2, he2, hb2, hc2⟩ := HS2.out.at_ (by omega)
      subst he2
      have hcy : wr.cell? ⟨b2, o2 + j, none⟩ = some (.int .i64 (nth y j)) := by
        rcases HFAR.out with h | h
        · exact HG.out.cell (hc2 j hlt) (fun e => by injection e with e; exact h b2 o2 rfl e)
        · injection h with h
          injection h with h1 h2
          subst h1 h2
          rw [HO.out.cellAt (by omega), addO_nth (by rw [HL.out]; omega), if_neg (by omega), HSELF.out rfl j hlt]
      have hcx : wr.cell? ⟨g, o + j, none⟩ = some (.int .i64 (nth d (o + j))) := by
        rw [HO.out.cellAt (by omega), addO_nth (by rw [HL.out]; omega), if_neg (by omega)]
      have hfx : wr.frozen? ⟨g, o + j, none⟩ = false := HO.out.frozenAt (o + j)
      obtain ⟨X, hX⟩ : ∃ X, X = nth d (o + j) := ⟨_, rfl⟩
      obtain ⟨Y, hY⟩ : ∃ Y, Y = nth y j := ⟨_, rfl⟩
      have hXb := HD.out (o + j)
      have hYb := HY.out j
      rw [← hX] at hcx hXb
      rw [← hY] at hcy hYb
      obtain ⟨FY, hFY⟩ : ∃ FY, FY = f * Y := ⟨_, rfl⟩
      have hFY0 : 0 ≤ FY := by rw [hFY]; exact Int.mul_nonneg HF.out.1 hYb.1
      have hFY1 : FY ≤ 49 := by rw [hFY]; exact Int.le_trans (Int.mul_le_mul HF.out.2 (show Y ≤ 7 by have := HP.out; omega) hYb.1 (by decide)) (by decide)
      have hw1 : IntKind.i64.wrap (f * Y) = FY := by rw [← hFY]; exact IntWalk.i64_in _ (by omega)
      have hw2 : IntKind.i64.wrap (X + FY) = X + FY := IntWalk.i64_in _ (by have := HP.out; omega)
      obtain ⟨V, hV⟩ : ∃ V, V = (X + FY) % p := ⟨_, rfl⟩
      have hw3 : (X + FY).tmod p = V := by rw [hV]; exact Int.tmod_eq_emod_of_nonneg (by omega)
      have hVb : 0 ≤ V ∧ V < p := by rw [hV]; exact ⟨Int.emod_nonneg _ hpnz, Int.emod_lt_of_pos _ (by have := HP.out; omega)⟩
      have hw4 : IntKind.i64.wrap V = V := IntWalk.i64_in _ (by have := HP.out; omega)
      have hst := HO.out.set_ (k := o + j) V
      have HST : Hid (Own (wr.setCell ⟨g, o + j, none⟩ (.int .i64 V)) lo hi (some ⟨g, 0, none⟩) N K (addO p d o f y (j + 1)) ∧ w.grownBy (wr.setCell ⟨g, o + j, none⟩ (.int .i64 V)) (some g)) := Lib.hid ⟨by
        rw [← addO_succ (by rw [HL.out]; omega), ← hX, ← hY, ← hFY, ← hV]; exact hst.1, HG.out.trans hst.2⟩
      clear hst hc2 hX hY hFY hV hXb hYb hVb hFY0 hFY1
      go_wp2
      go_roundw
      case rel => exact ⟨j + 1, by omega, by go_num, HST.out.1, HST.out.2⟩
      case measure => simp [intOf]; omega
end Go.Proofs.Ytjpoliibljjhnaa

/-
  A slice copied into a slice of the call's own; the first number other than 0. Conditions: lengths below 2^40.
-/


namespace Go.Proofs.Ytjpoliibljjhnaa
open Go.RowKit

theorem Try.infoIntR : (Try.prog.info? 3).map (·.size) = some 1 := by kernel_rfl
/-- 'copy(d, s)' into a slice of the call's own that is at least as long. -/
theorem wpList_copyR {ops : Array Oper} {rest : List Oper} {o : Oper} {a : Act} {w : World} {Q : Exit → Act → World → Prop} (hgd : o.guard = none) (d s : Operand)
    (ho : o.op = .call { callee := .builtin .copy, args := #[d, s], argTypes := #[22, 22] }) (g n' : Nat) (A : Option Addr) (n c : Nat) (hd : a.eval d = .slice (some ⟨g, 0, none⟩) n' n') (hs : a.eval s = .slice A n c)
    (lo hi : Nat) (ys e : List Int) (hown : Own w lo hi (some ⟨g, 0, none⟩) n' n' ys) (hsi : SI w A n e) (hle : n ≤ n')
    (hK : ∀ w', Own w' lo hi (some ⟨g, 0, none⟩) n' n' (e ++ ys.drop n) → w.grownBy w' (some g) → wpList Try.prog ops Q rest (a.put o.dst (goInt n)) w') : wpList Try.prog ops Q (o :: rest) a w := by
  have hl := hsi.1
  by_cases h0 : n = 0
  · subst h0
    obtain rfl : e = [] := List.eq_nil_of_length_eq_zero hl
    exact Go.wpList_copy_nothing hgd d s 22 22 ho 3 Try.underlying22 Try.infoIntR (some ⟨g, 0, none⟩) A n' n' 0 c hd hs (by simp) (hK w (by simpa using hown) (World.grownBy.refl _ _))
  · obtain ⟨b, off, rfl, hb, hc⟩ := hsi.2 (by omega)
    rcases hown.1.2 with ⟨hx, _⟩ | ⟨g', cap, cur, hv, hlo, hg, hnc, hcm, hcs, htake⟩
    · cases hx
    · have hv' := hv
      simp only [Value.slice.injEq, Option.some.injEq, Addr.mk.injEq, and_true, true_and] at hv'
      obtain ⟨rfl, rfl⟩ := hv'
      have hyl := hown.len
      have hcur : cur.toList = ys.map (Value.int .i64) := by rw [← htake, List.take_of_length_le (by simp; omega)]
      have hE : (cur.toList.take 0 ++ (e.map (Value.int .i64) ++ cur.toList.drop (0 + (e.map (Value.int .i64)).length))).toArray = ((e ++ ys.drop n).map (Value.int .i64)).toArray := by
        rw [hcur]; simp [hl, List.map_drop]
      refine Go.wpList_copy_own hgd d s 22 22 ho 3 Try.underlying22 Try.infoIntR g 0 n' n' ⟨b, off, none⟩ n c hd hs cur 3 hg (e.map (Value.int .i64)) (by simp [hl]; exact (Nat.min_eq_left hle).symm) ?_ (by simp [hl]; omega) (ints_oneCell _ _) ?_
      · intro j v hj
        have hjl : j < e.length := by
          rcases Nat.lt_or_ge j e.length with h | h
          · exact h
          · rw [List.getElem?_eq_none (by simpa using h)] at hj; cases hj
        rw [List.getElem?_map, nth_get? hjl] at hj
        rw [add_pt, hc j (by omega)]
        exact hj
      · rw [hE]
        have hk := hK (w.setRow g ((e ++ ys.drop n).map (Value.int .i64)).toArray) ⟨⟨by simp; omega, .inr ⟨g, n', _, rfl, hlo, setRow_heap w g cur _ _ (0, 0) hg, Nat.le_refl _, hcm, by simp; omega, List.take_of_length_le (by simp; omega)⟩⟩, hown.2⟩ (grownBy_setRow w g _)
        simpa [hl] using hk

theorem nonzFn_any (x : Int) (w : World) : Calls Try.prog 213 #[.int .i64 x] w fun r w' => r = .returned (.bool (decide (x ≠ 0))) ∧ w = w' := by
  by_cases h0 : x = 0
  · subst h0
    go_enter Try.func213, Try.ntmps213
    go_wp2
    go_ret
    exact ⟨ret_bool (by decide), rfl⟩
  · have HE : Hid (true = decide (x ≠ 0)) := Lib.hid (decide_eq_true h0).symm
    have hb0 : (x != 0) = true := by simpa using h0
    clear h0
    go_enter Try.func213, Try.ntmps213
    go_wp2
    go_ret
    exact ⟨ret_bool HE.out, rfl⟩
set_option maxHeartbeats 800000 in
theorem indexNonz_any (A : Option Addr) (n c : Nat) (xs : List Int) (w : World) (hs : SI w A n xs) (hn : n ≤ 1099511627776) :
    Calls Try.prog 212 #[.slice A n c, .func (.func 213) #[] #[]] w fun r w' =>
      ∃ i : Int, r = .returned (.int .i64 i) ∧ (ldN xs = n ∧ i = -1 ∨ ldN xs < n ∧ i = (ldN xs : Int)) ∧ Drawn w w' := by
  have HL := Lib.hid hs.1
  go_enter Try.func212, Try.ntmps212
  go_wp2
  go_loopw [8] (fun i wr => ∃ k : Nat, k ≤ n ∧ i = .int .i64 k ∧ Drawn w wr ∧ ∀ j, j < k → nth xs j = 0)
    (fun i _ => n - (intOf i).toNat)
  case atStart => exact ⟨0, Nat.zero_le _, rfl, Drawn.refl _, fun j hj => absurd hj (by omega)⟩
  case round =>
    obtain ⟨k, hk, rfl, hD, hall⟩ := hrel
    have HA := Lib.hid hall
    have HDR := Lib.hid hD
    have hs := hD.si hs
    clear hall hD
    by_cases hlt : k < n
    · have hlI : (k : Int) < (n : Int) := by omega
      obtain ⟨b, o, rfl, hb, hc⟩ := hs.at_ (by omega)
      have hc1 := hc k hlt
      obtain ⟨y, hy⟩ : ∃ y, y = nth xs k := ⟨_, rfl⟩
      rw [← hy] at hc1
      have HY := Lib.hid hy
      clear hc hy hs
      by_cases hg : y ≠ 0
      · have HG := Lib.hid hg
        have HF2 := Lib.hid (nonzFn_any y wr)
        rw [decide_eq_true hg] at HF2
        clear hg
        go_wp2_with (go_at_call 213; refine HF2.out.mono ?_; rintro r w2 ⟨rfl, rfl⟩)
        go_ret
        have hgt : ldN xs = k := ldN_is xs k (by rw [HL.out]; omega) HA.out (.inr (by rw [← HY.out]; exact HG.out))
        exact ⟨(k : Int), rfl, .inr ⟨by omega, by rw [hgt]⟩, HDR.out⟩
      · have HG := Lib.hid hg
        have HF2 := Lib.hid (nonzFn_any y wr)
        rw [decide_eq_false hg] at HF2
        clear hg
        go_wp2_with (go_at_call 213; refine HF2.out.mono ?_; rintro r w2 ⟨rfl, rfl⟩)
        go_roundw
        case rel => exact ⟨k + 1, by omega, by go_num, HDR.out, fun j hj => by
          rcases Nat.lt_or_ge j k with h | h
          · exact HA.out j h
          · obtain rfl : j = k := by omega
            rw [← HY.out]; have := HG.out; omega⟩
        case measure => simp [intOf]; omega
    · have hkn : k = n := by omega
      subst hkn
      go_wp2
      go_ret
      exact ⟨-1, rfl, .inl ⟨ldN_is xs k (by rw [HL.out]; exact Nat.le_refl _) HA.out (.inl HL.out.symm), rfl⟩, HDR.out⟩
end Go.Proofs.Ytjpoliibljjhnaa

/-
  Rows taken in one by one, in memory, on the program's side. Conditions: the modulus is 2, 3, 5 or 7; lengths at most 1000.
-/




namespace Go.Proofs.Ytjpoliibljjhnaa
open Go.RowKit

/-- The rows that are kept, in memory. -/
structure EchD (w : World) (lo ge : Nat) (p : Int) (E : List (List Int × Int)) (AR : Option Addr) (nR cR : Nat) (AC : Option Addr) (nC cC : Nat) (Ev : Nat → Sv) : Prop where
  blk : Blk w ge 149 #[.int .i64 p, .slice AR nR cR, .slice AC nC cC]
  glo : lo ≤ ge
  rows : OwnLE Ev w lo w.heap.size AR nR cR (E.map (·.1))
  cols : Own w lo w.heap.size AC nC cC (E.map (·.2))
  ap1 : Apart Ev AR nR ge
  ap2 : rowB AC ≠ some ge
  ap3 : ∀ q, rowB AC = some q → Apart Ev AR nR q
def EchS (w : World) (lo ge : Nat) (p : Int) (E : List (List Int × Int)) : Prop := ∃ AR nR cR AC nC cC Ev, EchD w lo ge p E AR nR cR AC nC cC Ev
theorem OwnLE.belowE {E : Nat → Sv} {w w' : World} {lo hi n c B : Nat} {A : Option Addr} {ls : List (List Int)} (h : OwnLE E w lo hi A n c ls) (hb : Below B w w') (hB : hi ≤ B) : OwnLE E w' lo hi A n c ls := h.below hb hB
section
variable {w w' : World} {lo ge : Nat} {p : Int} {E : List (List Int × Int)} {AR : Option Addr} {nR cR : Nat} {AC : Option Addr} {nC cC : Nat} {Ev : Nat → Sv}
theorem EchD.below {B : Nat} (h : EchD w lo ge p E AR nR cR AC nC cC Ev) (hb : Below B w w') (hB : w.heap.size ≤ B) : EchD w' lo ge p E AR nR cR AC nC cC Ev :=
  ⟨h.blk.below hb (Nat.lt_of_lt_of_le h.blk.lt hB), h.glo, (h.rows.belowE hb hB).wide hb.size, (h.cols.below hb hB).wide (Nat.le_refl _) hb.size, h.ap1, h.ap2, h.ap3⟩
theorem EchD.lenR (h : EchD w lo ge p E AR nR cR AC nC cC Ev) : E.length = nR := by have := h.rows.1; simpa using this
theorem EchD.lenC (h : EchD w lo ge p E AR nR cR AC nC cC Ev) : E.length = nC := by have := h.cols.len; simpa using this
theorem EchD.cells (h : EchD w lo ge p E AR nR cR AC nC cC Ev) : w.cell? ⟨ge, 0, none⟩ = some (.int .i64 p) ∧ w.cell? ⟨ge, 1, none⟩ = some (.slice AR nR cR) ∧ w.cell? ⟨ge, 2, none⟩ = some (.slice AC nC cC) := ⟨h.blk.cell 0, h.blk.cell 1, h.blk.cell 2⟩
end
theorem redE_take {p : Int} {E : List (List Int × Int)} {x : List Int} {i : Nat} (h : i < E.length) :
    redE p (E.take (i + 1)) x = addT p (redE p (E.take i) x) (p - nth (redE p (E.take i) x) (nth (E.map (·.2)) i).toNat) (li (E.map (·.1)) i) := by
  rw [List.take_succ_eq_append_getElem h, redE_snoc]
  have e1 : nth (E.map (·.2)) i = E[i].2 := by rw [nth_get (by simpa using h)]; simp
  have e2 : li (E.map (·.1)) i = E[i].1 := by rw [li_get (by simpa using h)]; simp
  rw [e1, e2]
set_option maxRecDepth 100000 in
set_option maxHeartbeats 8000000 in
theorem echAdd_any (p : Int) (lo ge n c : Nat) (A : Option Addr) (E : List (List Int × Int)) (x : List Int) (w : World) (hp : P7 p) (hE : EchS w lo ge p E) (hok : EOk p n E) (hEl : E.length ≤ 1000) (hs : SI w A n x) (hx : Rg p x) (hn : n ≤ 1000) :
    Calls Try.prog 144 #[.pointer (some ⟨ge, 0, none⟩), .slice A n c] w fun e w' => e = .returned (.tuple #[]) ∧ EchS w' lo ge p (addR p E x) ∧ Below lo w w' := by
  obtain ⟨AR, nR, cR, AC, nC, cC, Ev, hD⟩ := hE
  have hp2 := hp.two
  have hp7 := hp.le
  have HP := Lib.hid hp
  have HOK := Lib.hid hok
  have HX := Lib.hid hx
  have HXL := Lib.hid hs.1
  have HLR := Lib.hid hD.lenR
  have HLC := Lib.hid hD.lenC
  have hnC : nC ≤ 1000 := by have := hD.lenC; omega
  have hnR : nR ≤ 1000 := by have := hD.lenR; omega
  obtain ⟨B, hB⟩ : ∃ B, B = w.heap.size := ⟨_, rfl⟩
  have HB0 : Hid (B = w.heap.size) := hB
  have HGE : Hid (lo ≤ ge ∧ ge < B) := Lib.hid ⟨hD.glo, by rw [hB]; exact hD.blk.lt⟩
  have HD0 := Lib.hid hD
  have HS0 := Lib.hid hs
  clear hp hok hx hD hs hEl
  go_enter Try.func144, Try.ntmps144
  go_upto_region 1 with (at_make; refine wpList_make_zero rfl (.tmp 10) (.tmp 10) rfl n rfl rfl (by omega) ?_; intro w1 ho1 hb1; have HO1 := Lib.hid ho1; have HB1 := Lib.hid hb1; clear ho1 hb1)
  rw [← hB] at HO1 HB1 ⊢
  clear hB
  go_upto_region 2 with (first
    | (refine wpList_copyR rfl (.tmp 12) (.tmp 13) rfl B n A n c rfl rfl B w1.heap.size (List.replicate n 0) x HO1.out (HS0.out.below HB1.out (Nat.le_of_eq HB0.out.symm)) (Nat.le_refl _) ?_
       intro w2 ho2 hg2
       have HO2 : Hid (Own w2 B w2.heap.size (some ⟨B, 0, none⟩) n n x) := Lib.hid (by
         have e : x ++ (List.replicate n (0 : Int)).drop n = x := by simp
         rw [e] at ho2; exact ho2.wide (Nat.le_refl _) hg2.size)
       have HB2 : Hid (Below B w w2) := Lib.hid (HB1.out.grown hg2 (by have := HB1.out.size; have := HB0.out; omega) (by rintro q ⟨⟩; exact Nat.le_refl _))
       clear ho2 hg2))
  have HD2 := Lib.hid (HD0.out.below HB2.out (Nat.le_of_eq HB0.out.symm))
  obtain ⟨q0, q1, q2⟩ := HD2.out.cells
  go_upto_region 3 with fail
  clear q0 q1 q2
  go_loopw [20] (fun iv wr => ∃ i : Nat, i ≤ nC ∧ iv = .int .i64 i ∧ Own wr B wr.heap.size (some ⟨B, 0, none⟩) n n (redE p (E.take i) x) ∧ Below B w wr)
    (fun iv _ => nC - (intOf iv).toNat)
  case atStart => exact ⟨0, Nat.zero_le _, rfl, by simpa [redE] using HO2.out, HB2.out⟩
  case round =>
    obtain ⟨i, hi, rfl, ho, hb⟩ := hrel
    clear HO2 HB2 HD2 HO1 HB1
    have HO := Lib.hid ho
    have HB := Lib.hid hb
    have HDr := Lib.hid (HD0.out.below hb (Nat.le_of_eq HB0.out.symm))
    clear ho hb
    by_cases hlt : i < nC
    case pos =>
      have hlI : (i : Int) < (nC : Int) := by omega
      obtain ⟨gc, rfl, hgc1, hgc2⟩ := HDr.out.cols.place (by omega)
      have hiE : i < E.length := by rw [HLC.out]; exact hlt
      have hiR : i < nR := by have := HLC.out; have := HLR.out; omega
      obtain ⟨gr, rfl, hgr1, hgr2⟩ := HDr.out.rows.place (by omega)
      have hcc := HDr.out.cols.cellAt hlt
      have hcr := HDr.out.rows.cellAt hiR
      have hei := HOK.out.1 E[i] (List.getElem_mem hiE)
      have hcol : nth (E.map (·.2)) i = E[i].2 := by rw [nth_get (by simpa using hiE)]; simp
      have hrow : li (E.map (·.1)) i = E[i].1 := by rw [li_get (by simpa using hiE)]; simp
      obtain ⟨y, hy⟩ : ∃ y, y = E[i].1 := ⟨_, rfl⟩
      rw [← hy] at hei hrow
      obtain ⟨j, hj⟩ : ∃ j : Nat, (j : Int) = nth (E.map (·.2)) i := ⟨(nth (E.map (·.2)) i).toNat, by rw [hcol]; omega⟩
      have hjn : j < n := by rw [hcol] at hj; omega
      rw [← hj] at hcc
      obtain ⟨⟨A', n', c'⟩, hEv⟩ : ∃ a, a = Ev i := ⟨_, rfl⟩
      have hown := HDr.out.rows.2.2.2.1 i hiR
      rw [← hEv] at hcr hown
      have hcr' : wr.cell? ⟨gr, i, none⟩ = some (.slice A' n' c') := hcr
      have hown' : Own wr lo wr.heap.size A' n' c' (li (E.map (·.1)) i) := hown
      rw [hrow] at hown'
      obtain rfl : n' = n := by have := hown'.len; have := hei.1; omega
      have hcx := HO.out.cellAt hjn
      obtain ⟨d, hd⟩ : ∃ d, d = redE p (E.take i) x := ⟨_, rfl⟩
      rw [← hd] at hcx HO
      have hdr : Rg p d := by rw [hd]; exact redE_rg (by omega) _ HX.out
      have hdl : d.length = n' := by rw [hd, redE_len, HXL.out]
      obtain ⟨v, hv⟩ : ∃ v, v = nth d j := ⟨_, rfl⟩
      have hvb := hdr j
      rw [← hv] at hcx hvb
      have hw1 : IntKind.i64.wrap (p - v) = p - v := IntWalk.i64_in _ (by omega)
      have HSTEP : Hid (redE p (E.take (i + 1)) x = addO p d 0 (p - v) y n') := Lib.hid (by
        rw [redE_take hiE, ← hd, ← hj, Int.toNat_natCast, ← hv, hrow, ← hdl, addO_whole])
      have HCALL := Lib.hid (rowTimes_any p (p - v) B n' n' B wr.heap.size 0 n' n' d y A' c' wr.drew ⟨hp2, hp7⟩ ⟨by omega, by omega⟩ hdr hei.2.1 (HO.out.drawn ⟨1, rfl⟩) (by omega) hn ((hown'.drawn ⟨1, rfl⟩).si)
        (.inl fun b o' e => by
          have h1 := (HD0.out.rows.2.2.2.1 i hiR).lt
          rw [← hEv] at h1
          have h2 : rowB A' = some b := by rw [e]; rfl
          have h3 := h1 b (by rw [ownB]; exact h2)
          have := HB0.out
          omega))
      have hS0 : wr.cell? ⟨ge, 0, none⟩ = some (.int .i64 p) ∧ wr.cell? ⟨ge, 1, none⟩ = some (.slice (some ⟨gr, 0, none⟩) nR cR) ∧ wr.cell? ⟨B, j, none⟩ = some (.int .i64 v) ∧ wr.cell? ⟨gr, i, none⟩ = some (.slice A' n' c') := ⟨HDr.out.cells.1, HDr.out.cells.2.1, hcx, hcr'⟩
      have hSD : wr.drew.cell? ⟨ge, 0, none⟩ = some (.int .i64 p) ∧ wr.drew.cell? ⟨ge, 1, none⟩ = some (.slice (some ⟨gr, 0, none⟩) nR cR) ∧ wr.drew.cell? ⟨B, j, none⟩ = some (.int .i64 v) ∧ wr.drew.cell? ⟨gr, i, none⟩ = some (.slice A' n' c') := hS0
      have HS1 := Lib.hid hS0
      have HS2 := Lib.hid hSD
      have hjI : (j : Int) < (n' : Int) := by omega
      have hiI : (i : Int) < (nR : Int) := by omega
      clear hS0 hSD hcx hcr hcr' hown hown' hEv hei hcol hrow hj hd hdr hdl hv hvb hgc1 hgc2 hgr1 hgr2 hy hiE
      have hcc' : wr.cell? ⟨gc, i, none⟩ = some (.int .i64 (j : Int)) := hcc
      clear hcc
      go_wp2_with fail
      obtain ⟨s0, s1, s2, s3⟩ := HS1.out
      refine wp_region_still_tail 21 (by kernel_rfl) (by kernel_rfl) ?_
      simp only [List.take_succ_cons, List.take_zero, List.drop_succ_cons, List.drop_zero]
      repeat still_step
      refine wpStill_nil ?_
      change wpList _ _ _ _ _ wr.drew
      go_wp2_with (go_at_call 211
                   with_reducible refine HCALL.out.mono ?_
                   rintro e w3 ⟨rfl, ho3, wm, hdm, hgm⟩
                   have hsz3 : wr.heap.size ≤ w3.heap.size := by
                     have h1 := (hdm.below wr.heap.size).size
                     have h2 := hgm.size
                     exact Nat.le_trans h1 h2
                   have HO3 := Lib.hid (ho3.wide (Nat.le_refl _) hsz3)
                   have HB3 : Hid (Below B w w3) := Lib.hid ((HB.out.drew.trans (hdm.below B)).grown hgm (by have h1 := HB.out.size; have h2 := HB0.out; have h3 : wr.heap.size ≤ wm.heap.size := (hdm.below wr.heap.size).size; omega) (by rintro q ⟨⟩; exact Nat.le_refl _))
                   clear ho3 hdm hgm hsz3)
      go_wp2
      go_roundw
      case rel => exact ⟨i + 1, by omega, by go_num, by rw [HSTEP.out]; exact HO3.out, HB3.out⟩
      case measure => simp [intOf]; omega
    case neg =>
      obtain rfl : i = nC := by omega
      obtain ⟨d, hd⟩ : ∃ d, d = redE p E x := ⟨_, rfl⟩
      have hOd : Own wr B wr.heap.size (some ⟨B, 0, none⟩) n n d := by
        have := HO.out
        rw [List.take_of_length_le (by have := HLC.out; omega), ← hd] at this; exact this
      clear HO
      have HO := Lib.hid hOd
      have hdr : Rg p d := by rw [hd]; exact redE_rg (by omega) _ HX.out
      have hdl : d.length = n := hOd.len
      have HIX := Lib.hid (indexNonz_any (some ⟨B, 0, none⟩) n n d wr hOd.si (by omega))
      have HDR := Lib.hid hdr
      have HDL := Lib.hid hdl
      have HDE := Lib.hid hd
      clear hOd hdr hdl hd
      by_cases hend : ldN d = n
      case pos =>
        have HRES : Hid (addR p E x = E) := Lib.hid (by unfold addR; rw [← HDE.out, if_pos (by rw [HXL.out]; exact hend)])
        go_upto_region 8 with (go_at_call 212; with_reducible refine HIX.out.mono ?_; rintro e w2 ⟨iv, rfl, hiv, hdr2⟩; obtain rfl : iv = -1 := (by omega); have HD2 := Lib.hid hdr2; clear hiv hdr2)
        go_wp2
        go_returns
        exact ⟨rfl, by rw [HRES.out]; exact ⟨AR, nR, cR, AC, i, cC, Ev, HDr.out.below (HD2.out.below wr.heap.size) (Nat.le_refl _)⟩, (HB.out.mono (by have := HGE.out; omega)).trans (HD2.out.below lo)⟩
      case neg =>
        have hcl := ldN_le d
        obtain ⟨j, hj⟩ : ∃ j, j = ldN d := ⟨_, rfl⟩
        have hjn : j < n := by have := HDL.out; omega
        have HJ := Lib.hid hj
        have hvr := HDR.out j
        have hvne : nth d j ≠ 0 := by rw [hj]; exact ldN_at d (by have := HDL.out; omega)
        obtain ⟨v, hv⟩ : ∃ v, v = nth d j := ⟨_, rfl⟩
        rw [← hv] at hvr hvne
        have hinv := inv7_ok HP.out (x := v) ⟨by omega, hvr.2⟩
        obtain ⟨F, hF⟩ : ∃ F : Nat, (F : Int) = inv7 p v := ⟨(inv7 p v).toNat, by omega⟩
        rw [← hF] at hinv
        have HUQ : Hid (∀ f : Nat, 0 < f → f < F → v * (f : Int) % p ≠ 1) := Lib.hid (fun f h1 h2 h3 => by
          have := inv7_is HP.out (x := v) (y := (f : Int)) ⟨by omega, hvr.2⟩ ⟨by omega, by omega⟩ h3
          omega)
        have HINV := Lib.hid hinv
        have HVR : Hid (0 < v ∧ v < p) := Lib.hid ⟨by omega, hvr.2⟩
        have HNRM : Hid (addO p d 0 ((F : Int) - 1) d n = nrm p d) := Lib.hid (by rw [← HDL.out, addO_whole]; unfold nrm; rw [← HJ.out, ← hv, hF])
        have HRES : Hid (addR p E x = E ++ [(nrm p d, (j : Int))]) := Lib.hid (by unfold addR; rw [← HDE.out, if_neg (by rw [HXL.out]; exact hend), ← HJ.out])
        have HV := Lib.hid hv
        have hpnz : p ≠ 0 := by omega
        clear hcl hj hvr hvne hv hinv hF
        have hjI : (j : Int) < (n : Int) := by omega
        have hj0 : ¬ (j : Int) < 0 := by omega
        go_upto_region 8 with (go_at_call 212; with_reducible refine HIX.out.mono ?_; rintro e w2 ⟨iv, rfl, hiv, hdr2⟩; obtain rfl : iv = (j : Int) := (by have := HJ.out; omega); have HD2 := Lib.hid hdr2; clear hiv hdr2)
        go_wp2_with fail
        obtain ⟨wo, rfl⟩ : ∃ wo, wo = wr := ⟨wr, rfl⟩
        go_loopw [8] (fun fv wr => ∃ f : Nat, 0 < f ∧ f ≤ F ∧ fv = .int .i64 f ∧ Drawn wo wr)
          (fun fv _ => F - (intOf fv).toNat)
        case atStart => exact ⟨1, by omega, by have := HINV.out.1; omega, rfl, HD2.out⟩
        case round =>
          obtain ⟨f, hf0, hf1, rfl, hdx⟩ := hrel
          clear HD2
          have HDX := Lib.hid hdx
          have hOx := HO.out.drawn hdx
          have hcx := hOx.cellAt hjn
          rw [← HV.out] at hcx
          have hq0 : wr.cell? ⟨ge, 0, none⟩ = some (.int .i64 p) := (HDr.out.below (hdx.below wo.heap.size) (Nat.le_refl _)).cells.1
          have hvf0 : 0 ≤ v * (f : Int) := Int.mul_nonneg (by have := HVR.out; omega) (by omega)
          have hvf1 : v * (f : Int) ≤ 7 * 7 := Int.mul_le_mul (by have := HVR.out; omega) (by have := HINV.out; omega) (by omega) (by decide)
          obtain ⟨S, hS⟩ : ∃ S, S = v * (f : Int) := ⟨_, rfl⟩
          have hw1 : IntKind.i64.wrap (v * (f : Int)) = S := by rw [← hS]; exact IntWalk.i64_in _ (by omega)
          obtain ⟨R, hR⟩ : ∃ R, R = S % p := ⟨_, rfl⟩
          have hw2 : S.tmod p = R := by rw [hR]; exact Int.tmod_eq_emod_of_nonneg (by omega)
          have hRb : 0 ≤ R ∧ R < p := by rw [hR]; exact ⟨Int.emod_nonneg _ hpnz, Int.emod_lt_of_pos _ (by omega)⟩
          have hw3 : IntKind.i64.wrap R = R := IntWalk.i64_in _ (by omega)
          clear hdx hOx hvf0 hvf1
          by_cases hfF : f = F
          case neg =>
            have hb : (R != 1) = true := by
              have := HUQ.out f hf0 (by omega)
              rw [hR, hS]; simpa using this
            have hf7 : f ≤ 7 := by have := HINV.out; omega
            clear hS hR hRb
            go_wp2_with fail
            go_quiet (fail)
            go_wp2
            go_roundw
            case rel => exact ⟨f + 1, by omega, by omega, by go_num, HDX.out.drewN _⟩
            case measure => simp [intOf]; omega
          case pos =>
            subst hfF
            have hb : (R != 1) = false := by
              have := HINV.out.2.2
              rw [hR, hS, this]; rfl
            have hf7 : (f : Int) ≤ 7 := by have := HINV.out; omega
            clear hS hR hRb
            have hw4 : IntKind.i64.wrap ((f : Int) - 1) = (f : Int) - 1 := IntWalk.i64_in _ (by omega)
            have HCALL := Lib.hid (fun m : Nat => rowTimes_any p ((f : Int) - 1) B n n B wo.heap.size 0 n n d d (some ⟨B, 0, none⟩) n (wr.drewN m) ⟨hp2, hp7⟩ ⟨by omega, by omega⟩ HDR.out HDR.out (HO.out.drawn (HDX.out.drewN m)) (by omega) hn (HO.out.drawn (HDX.out.drewN m)).si (.inr rfl))
            go_wp2_with fail
            go_quiet (fail)
            go_upto_region 13 with (first
               | (go_at_call 211
                  with_reducible refine (HCALL.out _).mono ?_
                  rintro e w3 ⟨rfl, ho3, wm, hdm, hgm⟩
                  have hwm : Drawn wo wm := (HDX.out.drewN _).trans hdm
                  have hsz3 : wo.heap.size ≤ w3.heap.size := Nat.le_trans (hwm.below wo.heap.size).size hgm.size
                  have HO3 : Hid (Own w3 B wo.heap.size (some ⟨B, 0, none⟩) n n (nrm p d)) := Lib.hid (by rw [HNRM.out] at ho3; exact ho3)
                  have HB3 : Hid (Below B w w3) := Lib.hid ((HB.out.trans (hwm.below B)).grown hgm (by have h1 := HB.out.size; have h2 := HB0.out; have h3 := (hwm.below wo.heap.size).size; omega) (by rintro q ⟨⟩; exact Nat.le_refl _))
                  have HZ3 := Lib.hid hsz3
                  clear ho3 hdm hgm hsz3 hwm))
            have HD3 := Lib.hid (HD0.out.below HB3.out (Nat.le_of_eq HB0.out.symm))
            have HBZ : Hid (B ≤ w3.heap.size) := Lib.hid (by have := HB3.out.size; have := HB0.out; omega)
            have HLE := Lib.hid HD0.out.rows
            have HAPB : Hid (Apart Ev AR nR B ∧ ∀ q, rowB AC = some q → q < B) := Lib.hid ⟨⟨fun e => by have := HD0.out.rows.2.2.1 B (by rw [ownB]; exact e); have := HB0.out; omega, fun j hj e => by have := (HD0.out.rows.2.2.2.1 j hj).lt B e; have := HB0.out; omega⟩, fun q hq => by have := (HD0.out.cols.row_lt' hq).2; have := HB0.out; omega⟩
            obtain ⟨c0, c1, c2⟩ := HD3.out.cells
            clear hb hw1 hw2 hw3 hw4 hcx hq0
            go_upto_region 14 with (first
               | (at_builtin
                  refine wpList_appendLE rfl (.tmp 79) (.tmp 81) rfl lo w3.heap.size AR nR cR (E.map (·.1)) B wo.heap.size (some ⟨B, 0, none⟩) n n (nrm p d) rfl (by show Act.eval _ _ = _; simp [Act.eval]) HD3.out.rows HO3.out (by have := HGE.out; omega) (fun b hb => by rw [ownB] at hb; injection hb with hb; subst hb; exact ⟨by rw [ownB]; exact HAPB.out.1.1, HAPB.out.1.2⟩) HZ3.out (Nat.le_refl _) (by have := HBZ.out; have := HGE.out; omega) (by omega) ?_
                  intro AR' cR' w4 hE4 hat4 hgr4 hb4
                  have HE4 := Lib.hid hE4
                  have HAT4 := Lib.hid hat4
                  have HGR4 := Lib.hid hgr4
                  have HB4 := Lib.hid hb4
                  have HK4 := Lib.hid (HD3.out.blk.grown hgr4 (fun e => HD3.out.ap1.1 e.symm))
                  have c1' : w4.cell? ⟨ge, 1, none⟩ = some (.slice AR nR cR) := HK4.out.cell 1
                  have f1' := HK4.out.frozen 1
                  clear hE4 hat4 hgr4 hb4))
            have hg4 : w4.grownBy (w4.setCell ⟨ge, 1, none⟩ (.slice AR' (nR + 1) cR')) (some ge) := grown_setP _ _ _
            have HKv : Hid (Blk (w4.setCell ⟨ge, 1, none⟩ (.slice AR' (nR + 1) cR')) ge 149 #[.int .i64 p, .slice AR' (nR + 1) cR', .slice AC i cC]) := Lib.hid (HK4.out.set_ 1 _)
            obtain ⟨v4, hv4⟩ : ∃ v4, v4 = w4.setCell ⟨ge, 1, none⟩ (.slice AR' (nR + 1) cR') := ⟨_, rfl⟩
            rw [← hv4] at hg4 HKv ⊢
            have HAPN : Hid (∀ q, (rowB AC = some q ∨ q = ge) → Apart (snE Ev nR (some ⟨B, 0, none⟩, n, n)) AR' (nR + 1) q) := Lib.hid (fun q hq => by
              have hqB : q < B := by
                rcases hq with h | h
                · exact HAPB.out.2 q h
                · have := HGE.out; omega
              have hap : Apart Ev AR nR q := by
                rcases hq with h | h
                · exact HD0.out.ap3 q h
                · rw [h]; exact HD0.out.ap1
              refine ⟨fun e => ?_, fun j hj e => ?_⟩
              · rcases HAT4.out with h | ⟨z, h, hz⟩
                · exact hap.1 (by rw [← h]; exact e)
                · rw [h] at e; injection e with e; have := HBZ.out; omega
              · by_cases hjn : j < nR
                · rw [snE_lt _ _ hjn] at e; exact hap.2 j hjn e
                · rw [show j = nR by omega, snE_at] at e
                  have e' : some B = some q := e
                  injection e' with e'; omega)
            have HEv : Hid (OwnLE (snE Ev nR (some ⟨B, 0, none⟩, n, n)) v4 lo v4.heap.size AR' (nR + 1) cR' (E.map (·.1) ++ [nrm p d])) := Lib.hid ((HE4.out.apart hg4 (fun q hq => by injection hq with hq; exact HAPN.out q (.inr hq.symm))).wide hg4.size)
            have HCv : Hid (Own v4 lo v4.heap.size AC i cC (E.map (·.2))) := Lib.hid ((((HD3.out.cols.kept HGR4.out (fun q hq e => (HD3.out.ap3 q (by rw [← ownB AC i cC]; exact hq)).1 e)).kept hg4 (fun q hq e => HD3.out.ap2 (by rw [← ownB AC i cC, hq, e]))).wide (Nat.le_refl _) (Nat.le_trans HGR4.out.size hg4.size)))
            have HBv : Hid (Below lo w v4) := Lib.hid (((HB3.out.mono (by have := HGE.out; omega)).trans HB4.out).grown hg4 (by have := HB4.out.size; have := HBZ.out; have := HGE.out; omega) (by rintro q ⟨⟩; exact HGE.out.1))
            have HLOv : Hid (lo ≤ v4.heap.size) := Lib.hid (by have := HB4.out.size; have := HBZ.out; have := HGE.out; have := hg4.size; omega)
            have d2 : v4.cell? ⟨ge, 2, none⟩ = some (.slice AC i cC) := HKv.out.cell 2
            clear hv4 hg4 c0 c1 c2 c1' f1'
            go_wp2_with (first
               | (at_builtin
                  refine wpList_append_keep rfl (.tmp 89) (.tmp 91) rfl lo v4.heap.size AC i cC (E.map (·.2)) (j : Int) rfl (by show Act.eval _ _ = _; simp [Act.eval]) HCv.out HLOv.out (by omega) ?_
                  intro AC' cC' w5 ho5 hgr5 hat5
                  have HO5 := Lib.hid ho5
                  have HGR5 := Lib.hid hgr5
                  have HAT5 := Lib.hid hat5
                  have HK5 := Lib.hid (HKv.out.grown hgr5 (fun e => HD0.out.ap2 e.symm))
                  have d2' : w5.cell? ⟨ge, 2, none⟩ = some (.slice AC i cC) := HK5.out.cell 2
                  have g2' := HK5.out.frozen 2
                  clear ho5 hgr5 hat5))
            go_returns
            have hg5 : w5.grownBy (w5.setCell ⟨ge, 2, none⟩ (.slice AC' (i + 1) cC')) (some ge) := grown_setP _ _ _
            have hne5 : rowB AC' ≠ some ge := fun e => by
              rcases HAT5.out with ⟨h, _⟩ | ⟨z, h, hz, _⟩
              · rw [h] at e; exact HD0.out.ap2 e
              · rw [h, rowB_some] at e
                injection e with e
                have := HKv.out.lt; omega
            refine ⟨rfl, ?_, ?_⟩
            · rw [HRES.out]
              refine ⟨AR', nR + 1, cR', AC', i + 1, cC', snE Ev nR (some ⟨B, 0, none⟩, n, n), HK5.out.set_ 2 _, HGE.out.1, ?_, ?_, HAPN.out ge (.inr rfl), hne5, fun q hq => ?_⟩
              · rw [List.map_append]
                exact ((HEv.out.apart HGR5.out (fun q hq => HAPN.out q (.inl hq))).apart hg5 (fun q hq => by injection hq with hq; exact HAPN.out q (.inr hq.symm))).wide (Nat.le_trans HGR5.out.size hg5.size)
              · rw [List.map_append]
                exact ((HO5.out.kept hg5 (fun q hq e => hne5 (by rw [← ownB AC' (i + 1) cC', hq, e]))).wide (Nat.le_refl _) hg5.size)
              · rcases HAT5.out with ⟨h, _⟩ | ⟨z, h, hz, _⟩
                · rw [h] at hq; exact HAPN.out q (.inl hq)
                · rw [h, rowB_some] at hq
                  injection hq with hq
                  subst hq
                  exact ⟨fun e => by have := HEv.out.row_lt' e; omega, fun j hj e => by have := (HEv.out.2.2.2.1 j hj).lt _ e; omega⟩
            · exact (HBv.out.grown HGR5.out HLOv.out (fun q hq => (HCv.out.row_lt' hq).1)).grown hg5 (by have := HGR5.out.size; have := HLOv.out; omega) (by rintro q ⟨⟩; exact HGE.out.1)
end Go.Proofs.Ytjpoliibljjhnaa

/-
  All rows of a list taken in, on the program's side. Conditions: the modulus is 2, 3, 5 or 7; lengths at most 1000.
-/

namespace Go.Proofs.Ytjpoliibljjhnaa
open Go.RowKit

theorem Try.infoEc : (Try.prog.info? 149).map (·.size) = some 3 := by kernel_rfl
/-- What a call that makes an echelon hands back. -/
def FreshEc (w w' : World) (e : Ending) (p : Int) (E : List (List Int × Int)) : Prop :=
  ∃ AR nR cR AC nC cC, e = .returned (.agg #[.int .i64 p, .slice AR nR cR, .slice AC nC cC]) ∧ OwnL w' w.heap.size w'.heap.size AR nR cR (E.map (·.1)) ∧ Own w' w.heap.size w'.heap.size AC nC cC (E.map (·.2)) ∧ Below w.heap.size w w'
theorem take_li' {ls : List (List Int)} {k : Nat} (h : k < ls.length) : ls.take (k + 1) = ls.take k ++ [li ls k] := by
  rw [List.take_succ_eq_append_getElem h, li_get h]
set_option maxRecDepth 100000 in
set_option maxHeartbeats 2000000 in
theorem echelonOf_any (p : Int) (n : Nat) (A : Option Addr) (R c : Nat) (ls : List (List Int)) (w : World) (hp : P7 p) (hs : LS w A R ls) (hR : R ≤ 1000) (hl : ∀ x, x ∈ ls → x.length = n ∧ Rg p x) (hn : n ≤ 1000) :
    Calls Try.prog 159 #[.int .i64 p, .slice A R c] w fun e w' => FreshEc w w' e p (echel p ls) := by
  obtain ⟨w1, hw1⟩ : ∃ w1, w1 = w.alloc (.cells #[.int .i64 0, .slice none 0 0, .slice none 0 0] 149) := ⟨_, rfl⟩
  obtain ⟨g, hg⟩ : ∃ g, g = w.heap.size := ⟨_, rfl⟩
  have hk : Blk w1 g 149 #[.int .i64 0, .slice none 0 0, .slice none 0 0] := by rw [hw1, hg]; exact Blk.new _ _ _
  have hb : Below w.heap.size w w1 := by rw [hw1]; exact Below.alloc_self _ _
  have HB := Lib.hid hb
  have HSZ : Hid (w1.heap.size = g + 1) := Lib.hid (by rw [hw1, hg]; simp)
  have HW := Lib.hid hw1
  have HG := Lib.hid hg
  have HK := Lib.hid hk
  have HP := Lib.hid hp
  have HL := Lib.hid hl
  have HLS := Lib.hid (hs.below hb (Nat.le_refl _))
  have HLN := Lib.hid hs.1
  clear hw1 hg hk hb hp hl hs
  go_enter Try.func159, Try.ntmps159
  go_upto_region 1 with fail
  rw [← HW.out, ← HG.out]
  go_upto_region 2 with (first
    | (refine wpList_store_rowP rfl 149 (.tmp 5) (.tmp 9) rfl w1.heap.size #[.int .i64 p, .slice none 0 0, .slice none 0 0] rfl rfl 149 #[.int .i64 0, .slice none 0 0, .slice none 0 0] (Blk.new _ _ _) Try.infoEc rfl (by simp [Value.oneCell']) ?_
       intro w2 hb2 hg2
       have HK2 := Lib.hid hb2
       have HG2 := Lib.hid hg2
       clear hb2 hg2))
  obtain ⟨ge, hge⟩ : ∃ ge, ge = w1.heap.size := ⟨_, rfl⟩
  rw [← hge] at HK2 HG2 ⊢
  have HGE : Hid (ge = w1.heap.size) := Lib.hid hge
  have HB2 : Hid (Below ge w1 w2) := Lib.hid (((Below.refl ge w1).alloc (Nat.le_of_eq hge) _).grown HG2.out (by simp; omega) (by rintro q ⟨⟩; exact Nat.le_refl _))
  have HE0 : Hid (EchS w2 ge ge p []) := Lib.hid ⟨none, 0, 0, none, 0, 0, fun _ => (none, 0, 0), HK2.out, Nat.le_refl _, ⟨rfl, by simpa [heads] using World.ownsRow_nil _ _ _ _, fun k hk => by simp [Value.ownBlock] at hk, fun j hj => absurd hj (by omega), fun j g hj => absurd hj (by omega), fun i j g _ hj => absurd hj (by omega)⟩, Own.nil _ _ _, ⟨fun e => by simp [rowB, Value.ownBlock] at e, fun j hj => absurd hj (by omega)⟩, fun e => by simp [rowB, Value.ownBlock] at e, fun q hq => by simp [rowB, Value.ownBlock] at hq⟩
  clear hge
  go_wp2_with fail
  go_loopw [12] (fun iv wr => ∃ i : Nat, i ≤ R ∧ iv = .int .i64 i ∧ EchS wr ge ge p (echel p (ls.take i)) ∧ Below ge w1 wr)
    (fun iv _ => R - (intOf iv).toNat)
  case atStart => exact ⟨0, Nat.zero_le _, rfl, by simpa [echel] using HE0.out, HB2.out⟩
  case round =>
    obtain ⟨i, hi, rfl, hE, hbr⟩ := hrel
    clear HE0 HB2 HK2 HG2
    have HE := Lib.hid hE
    have HBR := Lib.hid hbr
    have HOK := Lib.hid (echel_ok (p := p) (n := n) HP.out (rows := ls.take i) (fun x hx => HL.out x (List.mem_of_mem_take hx))).1
    have HLE : Hid ((echel p (ls.take i)).length ≤ 1000) := Lib.hid (by
      have h1 := rnkL_le p (ls.take i)
      unfold rnkL at h1
      have h2 : (ls.take i).length ≤ i := by simp; omega
      omega)
    clear hE hbr
    by_cases hlt : i < R
    case pos =>
      have hlI : (i : Int) < (R : Int) := by omega
      have hil : i < ls.length := by rw [HLN.out]; exact hlt
      obtain ⟨b, o, A', n', c', rfl, hbb, hc0, hsi, _, _⟩ := (HLS.out.below HBR.out (Nat.le_of_eq HGE.out.symm)).at_ hlt
      obtain ⟨x, hx⟩ : ∃ x, x = li ls i := ⟨_, rfl⟩
      rw [← hx] at hsi
      have hxm : x ∈ ls := by rw [hx, li_get hil]; exact List.getElem_mem hil
      have hxo := HL.out x hxm
      have HSTEP : Hid (echel p (ls.take (i + 1)) = addR p (echel p (ls.take i)) x) := Lib.hid (by
        rw [take_li' hil, ← hx]; simp [echel, List.foldl_append])
      obtain rfl : n' = n := by have := hsi.1; have := hxo.1; omega
      have HADD := Lib.hid (echAdd_any p ge ge n' c' A' (echel p (ls.take i)) x wr HP.out HE.out HOK.out HLE.out hsi hxo.2 hn)
      clear hx hxm hxo hsi hil
      go_wp2_with (go_at_call 144; with_reducible refine HADD.out.mono ?_; rintro e w3 ⟨rfl, hE3, hb3⟩; have HE3 := Lib.hid hE3; have HB3 : Hid (Below ge w1 w3) := Lib.hid (HBR.out.trans hb3); clear hE3 hb3)
      go_roundw
      case rel => exact ⟨i + 1, by omega, by go_num, by rw [HSTEP.out]; exact HE3.out, HB3.out⟩
      case measure => simp [intOf]; omega
    case neg =>
      obtain rfl : i = R := by omega
      obtain ⟨AR, nR, cR, AC, nC, cC, Ev, hD⟩ := HE.out
      have HD := Lib.hid hD
      have HKr := Lib.hid (HK.out.below HBR.out (by have := HSZ.out; have := HGE.out; omega))
      clear hD
      go_wp2_with (first
        | (refine wpList_load_rowP rfl 149 (.tmp 5) rfl ge rfl 149 #[.int .i64 p, .slice AR nR cR, .slice AC nC cC] _ HD.out.blk Try.underlying149 rfl Try.infoEc ?_)
        | (refine wpList_store_rowP rfl 149 (.tmp 4) (.tmp 19) rfl g #[.int .i64 p, .slice AR nR cR, .slice AC nC cC] rfl rfl 149 #[.int .i64 0, .slice none 0 0, .slice none 0 0] HKr.out Try.infoEc rfl (by simp [Value.oneCell']) ?_; intro w5 hb5 hg5)
        | fail)
      refine bodyPost_ret (results_rowP Try.results159 _ _ _ 149 #[.int .i64 p, .slice AR nR cR, .slice AC nC cC] _ rfl hb5 Try.underlying149 rfl Try.infoEc) rfl ?_
      have l1 := HSZ.out
      have l2 := HGE.out
      have l3 := HG.out
      have l4 := hg5.size
      have l5 := HBR.out.size
      have hE : echel p (ls.take i) = echel p ls := by rw [List.take_of_length_le (by rw [HLN.out]; exact Nat.le_refl _)]
      have hO := HD.out.rows
      have hC := HD.out.cols
      rw [hE] at hO hC
      refine ⟨AR, nR, cR, AC, nC, cC, rfl, ⟨Ev, ?_⟩, ?_, ?_⟩
      · have h5 := (hO.apart hg5 (fun q hq => by injection hq with hq; subst hq; exact ⟨fun e => by have := (hO.row_lt' e).1; omega, fun j hj e => by have := ((hO.2.2.2.1 j hj).lt _ e).1; omega⟩)).wide l4
        obtain ⟨a1, a2, a3, a4, a5, a6⟩ := h5
        refine ⟨a1, ⟨a2.1, ?_⟩, a3, fun j hj => (a4 j hj).wide (by omega) (Nat.le_refl _), a5, a6⟩
        rcases a2.2 with hn | ⟨g', cap, cur, e, hl, rest⟩
        · exact .inl hn
        · exact .inr ⟨g', cap, cur, e, by omega, rest⟩
      · exact (hC.kept hg5 (fun q hq e => by injection e with e; have := (hC.lt q hq).1; omega)).wide (by omega) l4
      · exact (HB.out.trans (HBR.out.mono (by omega))).grown hg5 (by omega) (by rintro q ⟨⟩; omega)
theorem ecRank_any (p : Int) (AR AC : Option Addr) (nR cR nC cC : Nat) (w : World) :
    Calls Try.prog 160 #[.agg #[.int .i64 p, .slice AR nR cR, .slice AC nC cC]] w fun e w' => e = .returned (.int .i64 nR) ∧ Below w.heap.size w w' := by
  obtain ⟨w1, hw1⟩ : ∃ w1, w1 = w.alloc (.cells #[.int .i64 p, .slice AR nR cR, .slice AC nC cC] 149) := ⟨_, rfl⟩
  obtain ⟨g, hg⟩ : ∃ g, g = w.heap.size := ⟨_, rfl⟩
  have hk : Blk w1 g 149 #[.int .i64 p, .slice AR nR cR, .slice AC nC cC] := by rw [hw1, hg]; exact Blk.new _ _ _
  have HB : Hid (Below w.heap.size w w1) := Lib.hid (by rw [hw1]; exact Below.alloc_self _ _)
  have HW := Lib.hid hw1
  have HG := Lib.hid hg
  have q1 : w1.cell? ⟨g, 1, none⟩ = some (.slice AR nR cR) := hk.cell 1
  clear hw1 hg hk
  go_enter Try.func160, Try.ntmps160
  go_upto_region 1 with fail
  rw [← HW.out, ← HG.out]
  go_wp2
  go_ret
  exact ⟨rfl, HB.out⟩
end Go.Proofs.Ytjpoliibljjhnaa

/-
  Pieces of spans on the program's side: the place of a number, rows turned round, a matrix of copied rows. Conditions: lengths below 2^40, sizes at most 14.
-/



namespace Go.Proofs.Ytjpoliibljjhnaa
open Go.RowKit

set_option maxHeartbeats 800000 in
theorem indexV_any (A : Option Addr) (n c : Nat) (xs : List Int) (v : Int) (w : World) (hs : SI w A n xs) (hn : n ≤ 1099511627776) :
    Calls Try.prog 221 #[.slice A n c, .int .i64 v] w fun r w' =>
      ∃ i : Int, r = .returned (.int .i64 i) ∧ (ixN xs v = n ∧ i = -1 ∨ ixN xs v < n ∧ i = (ixN xs v : Int)) ∧ Drawn w w' := by
  have HL := Lib.hid hs.1
  go_enter Try.func221, Try.ntmps221
  go_wp2
  go_loopw [8] (fun i wr => ∃ k : Nat, k ≤ n ∧ i = .int .i64 k ∧ Drawn w wr ∧ ∀ j, j < k → nth xs j ≠ v)
    (fun i _ => n - (intOf i).toNat)
  case atStart => exact ⟨0, Nat.zero_le _, rfl, Drawn.refl _, fun j hj => absurd hj (by omega)⟩
  case round =>
    obtain ⟨k, hk, rfl, hD, hall⟩ := hrel
    have HA := Lib.hid hall
    have HDR := Lib.hid hD
    have hs := hD.si hs
    clear hall hD
    by_cases hlt : k < n
    · have hlI : (k : Int) < (n : Int) := by omega
      obtain ⟨b, o, rfl, hb, hc⟩ := hs.at_ (by omega)
      have hc1 := hc k hlt
      obtain ⟨y, hy⟩ : ∃ y, y = nth xs k := ⟨_, rfl⟩
      rw [← hy] at hc1
      have HY := Lib.hid hy
      clear hc hy hs
      by_cases hg : v = y
      · have hgb : (v == y) = true := by simpa using hg
        have HG := Lib.hid hg
        clear hg
        go_wp2
        go_ret
        have hgt : ixN xs v = k := ixN_is xs k (by rw [HL.out]; omega) HA.out (.inr (by rw [← HY.out]; exact HG.out.symm))
        exact ⟨(k : Int), rfl, .inr ⟨by omega, by rw [hgt]⟩, HDR.out⟩
      · have hgb : (v == y) = false := by simpa using hg
        have HG := Lib.hid hg
        clear hg
        go_wp2
        go_roundw
        case rel => exact ⟨k + 1, by omega, by go_num, HDR.out, fun j hj => by
          rcases Nat.lt_or_ge j k with h | h
          · exact HA.out j h
          · obtain rfl : j = k := by omega
            rw [← HY.out]; exact fun e => HG.out e.symm⟩
        case measure => simp [intOf]; omega
    · have hkn : k = n := by omega
      subst hkn
      go_wp2
      go_ret
      exact ⟨-1, rfl, .inl ⟨ixN_is xs k (by rw [HL.out]; exact Nat.le_refl _) HA.out (.inl HL.out.symm), rfl⟩, HDR.out⟩

/-- A row of heads of slices in a block of its own, with room. -/
def OwnG (w : World) (lo g n c : Nat) (E : Nat → Sv) : Prop := w.ownsRow lo 22 1 (.slice (some ⟨g, 0, none⟩) n c) n (heads n E)
theorem OwnG.cellAt {w : World} {lo g n c : Nat} {E : Nat → Sv} (h : OwnG w lo g n c E) {k : Nat} (hk : k < n) : w.cell? ⟨g, k, none⟩ = some (sv (E k)) := by
  rw [World.ownsRow.cellAt h k (by omega), heads_get _ hk]
theorem OwnG.set_ {w : World} {lo g n c : Nat} {E : Nat → Sv} (h : OwnG w lo g n c E) {k : Nat} (hk : k < n) (a : Sv) : OwnG (w.setCell ⟨g, k, none⟩ (sv a)) lo g n c (fun j => if j = k then a else E j) := by
  have hst := (World.ownsRow.stored h k (sv a)).1
  rw [heads_set E hk a] at hst
  exact hst
theorem OwnG.congr {w : World} {lo g n c : Nat} {E F : Nat → Sv} (h : OwnG w lo g n c E) (e : ∀ k, k < n → E k = F k) : OwnG w lo g n c F := by
  unfold OwnG at h ⊢
  rwa [heads_congr e] at h
def revE (E : Nat → Sv) (n k : Nat) : Nat → Sv := fun t => if t < k ∨ n ≤ t + k then E (n - 1 - t) else E t
set_option maxHeartbeats 2000000 in
theorem reverseRows_any (g n c lo : Nat) (E : Nat → Sv) (w : World) (hs : OwnG w lo g n c E) (h1 : 1 ≤ n) (hn : n ≤ 1099511627776) :
    Calls Try.prog 255 #[.slice (some ⟨g, 0, none⟩) n c] w fun e w' => e = .returned (.tuple #[]) ∧ OwnG w' lo g n c (fun t => E (n - 1 - t)) ∧ Within g (g + 1) w w' := by
  go_enter Try.func255, Try.ntmps255
  go_wp2
  go_loopw [2, 3] (fun i j wr => ∃ k j0 : Nat, 2 * k ≤ n ∧ j0 + k + 1 = n ∧ i = .int .i64 k ∧ j = .int .i64 j0 ∧ OwnG wr lo g n c (revE E n k) ∧ Within g (g + 1) w wr)
    (fun i _ _ => n - (intOf i).toNat)
  case atStart => exact ⟨0, n - 1, by omega, by omega, rfl, by go_num, hs.congr fun t ht => by unfold revE; rw [if_neg (by omega)], Within.of_below_ (Below.refl _ _)⟩
  case round =>
    obtain ⟨k, j, hk, hj, rfl, rfl, hown, hgr⟩ := hrel
    have HO := Lib.hid hown
    have HGR := Lib.hid hgr
    have HJ := Lib.hid hj
    clear hown hs hj hgr
    by_cases hlt : k < j
    · have hck := HO.out.cellAt (k := k) (by have := HJ.out; omega)
      have hcj := HO.out.cellAt (k := j) (by have := HJ.out; omega)
      have e1 : revE E n k k = E k := by unfold revE; rw [if_neg (by have := HJ.out; omega)]
      have e2 : revE E n k j = E j := by unfold revE; rw [if_neg (by have := HJ.out; omega)]
      rw [e1] at hck
      rw [e2] at hcj
      have hfk : wr.frozen? ⟨g, k, none⟩ = false := World.ownsRow.frozenAt HO.out k
      have hfj : wr.frozen? ⟨g, j, none⟩ = false := World.ownsRow.frozenAt HO.out j
      obtain ⟨⟨xa, xn, xc⟩, hx⟩ : ∃ x, x = E k := ⟨_, rfl⟩
      obtain ⟨⟨ya, yn, yc⟩, hy⟩ : ∃ y, y = E j := ⟨_, rfl⟩
      rw [← hx] at hck
      rw [← hy] at hcj
      have hck' : wr.cell? ⟨g, k, none⟩ = some (.slice xa xn xc) := hck
      have hcj' : wr.cell? ⟨g, j, none⟩ = some (.slice ya yn yc) := hcj
      have HX := Lib.hid hx
      have HY := Lib.hid hy
      have hlI : (k : Int) < (j : Int) := by omega
      have hkI : (k : Int) < (n : Int) := by have := HJ.out; omega
      have hjI : (j : Int) < (n : Int) := by have := HJ.out; omega
      have hne : ¬ k = j := by omega
      have hne' : ¬ j = k := by omega
      have hs1 := HO.out.set_ (k := k) (by have := HJ.out; omega) (ya, yn, yc)
      have hs2 := hs1.set_ (k := j) (by have := HJ.out; omega) (xa, xn, xc)
      have HS := Lib.hid hs2
      have hcj2 : (wr.setCell ⟨g, k, none⟩ (.slice ya yn yc)).cell? ⟨g, j, none⟩ = some (.slice ya yn yc) := (World.cell?_setCell_other wr _ _ _ (by intro e; injection e with _ e2; exact hne e2)).trans hcj'
      have hfj2 : (wr.setCell ⟨g, k, none⟩ (.slice ya yn yc)).frozen? ⟨g, j, none⟩ = false := World.ownsRow.frozenAt hs1 j
      clear hs1 hs2 hx hy hck hcj e1 e2
      go_wp2
      go_region
      go_wp2
      go_roundw
      case rel =>
        have e3 := HJ.out
        refine ⟨k + 1, j - 1, by omega, by omega, by go_num, by go_num, ?_, ?_⟩
        · have h5 : OwnG ((wr.setCell ⟨g, k, none⟩ (.slice ya yn yc)).setCell ⟨g, j, none⟩ (.slice xa xn xc)) lo g n c (revE E n (k + 1)) := HS.out.congr fun t ht => by
            unfold revE
            by_cases h6 : t = j
            · subst h6; rw [if_pos rfl, if_pos (by omega), HX.out, show n - 1 - t = k by omega]
            · rw [if_neg h6]
              by_cases h7 : t = k
              · subst h7; rw [if_pos rfl, if_pos (by omega), HY.out, show n - 1 - t = j by omega]
              · rw [if_neg h7]
                by_cases h8 : t < k ∨ n ≤ t + k
                · rw [if_pos h8, if_pos (by omega)]
                · rw [if_neg h8, if_neg (by omega)]
          exact h5
        · have g1 := grown_setP wr ⟨g, k, none⟩ (.slice ya yn yc)
          have g2 := grown_setP (wr.setCell ⟨g, k, none⟩ (.slice ya yn yc)) ⟨g, j, none⟩ (.slice xa xn xc)
          have w1 : Within g (g + 1) wr (wr.setCell ⟨g, k, none⟩ (.slice ya yn yc)) := Within.of_grown g1 (by rintro q ⟨⟩; exact ⟨Nat.le_refl _, Nat.lt_succ_self _⟩)
          have w2 : Within g (g + 1) (wr.setCell ⟨g, k, none⟩ (.slice ya yn yc)) ((wr.setCell ⟨g, k, none⟩ (.slice ya yn yc)).setCell ⟨g, j, none⟩ (.slice xa xn xc)) := Within.of_grown g2 (by rintro q ⟨⟩; exact ⟨Nat.le_refl _, Nat.lt_succ_self _⟩)
          exact ((HGR.out.trans w1).trans w2).trans (Within.of_below_ ((Below.refl _ _).drew))
      case measure => have := HJ.out; simp [intOf]; omega
    · go_wp2
      go_returns
      refine ⟨rfl, HO.out.congr fun t ht => by
        have := HJ.out
        unfold revE
        by_cases h8 : t < k ∨ n ≤ t + k
        · rw [if_pos h8]
        · rw [if_neg h8, show n - 1 - t = t by omega], HGR.out⟩
end Go.Proofs.Ytjpoliibljjhnaa

/-
  slices.Concat at two slices of rows. Conditions: lengths at most 1000.
-/



namespace Go.Proofs.Ytjpoliibljjhnaa
open Go.RowKit

set_option maxHeartbeats 800000 in
/-- slices.Grow at the nil slice of rows. -/
theorem growNilR_any (m : Nat) (w : World) (hm : m ≤ 2000) :
    Calls Try.prog 210 #[.slice none 0 0, .int .i64 m] w fun e w' => ∃ A c, e = .returned (.slice A 0 c) ∧ w'.ownsRow w.heap.size 22 1 (.slice A 0 c) 0 [] ∧ Below w.heap.size w w' := by
  cases m with
  | zero =>
    go_enter Try.func210, Try.ntmps210
    go_wp2
    go_ret
    exact ⟨none, 0, rfl, World.ownsRow_nil _ _ _ _, Below.refl _ _⟩
  | succ k =>
    obtain ⟨m, hk⟩ : ∃ m, m = k + 1 := ⟨_, rfl⟩
    rw [← hk] at hm ⊢
    have hm1 : 0 < m := by omega
    clear hk
    obtain ⟨i0, hi, hz0, hz1, hz2⟩ := info_parts Try.infoLs
    have hold : (Builtin.firstCells i0.size 0 (.slice none 0 0)).run Try.prog w.drew = .ok #[] w.drew := run_firstCells_none w.drew i0.size 0 0 0
    have hrz : ∀ ty, (Builtin.append_ #[23, 3] ty #[.slice none 0 0, .int .i64 (m : Int)]).run Try.prog w =
        .ok (.slice (some ⟨w.heap.size, 0, none⟩) (0 + m) (grownCap w (0 + m) 0 22)) (w.drew.alloc (.cells (#[] ++ Builtin.zeroCells (Value.slice none 0 0).cells m ++ Builtin.zeroCells (Value.slice none 0 0).cells (grownCap w (0 + m) 0 22 - (0 + m))) 22)) := fun ty =>
      Lib.run_append_grow_zeros w 23 3 ty 22 i0 (.slice none 0 0) .i64 .i64 Try.underlying23 Try.underlying3 hi hz0 none 0 0 [] hold m hm1 (by omega) (by omega) (by omega)
        (by rw [hz2]; omega) (growslice_fits (by omega) (by rw [hz2]; omega))
    have hGn : 0 + m ≤ grownCap w (0 + m) 0 22 := grownCap_ge w _ _ _
    have hGm := grownCap_le_maxLen w (0 + m) 0 22 (by unfold maxLen; omega)
    have hc1 : (Value.slice none 0 0).cells.size = 1 := rfl
    obtain ⟨G, hG⟩ : ∃ G, G = grownCap w (0 + m) 0 22 := ⟨_, rfl⟩
    rw [← hG] at hrz hGn hGm
    have hO := World.ownsRow_made (base := w.heap.size) (e := 22) (size := 1) w.drew (#[] ++ Builtin.zeroCells (Value.slice none 0 0).cells m ++ Builtin.zeroCells (Value.slice none 0 0).cells (G - (0 + m))) G (Nat.le_refl _) hGm (by rw [Array.size_append, Array.size_append, size_zeroCells, size_zeroCells, hc1]; simp; omega)
    generalize (#[] ++ Builtin.zeroCells (Value.slice none 0 0).cells m ++ Builtin.zeroCells (Value.slice none 0 0).cells (G - (0 + m))) = cs at hrz hO
    have hb : Below w.heap.size w (w.drew.alloc (.cells cs 22)) := (Below.refl w.heap.size w).drew.alloc (Nat.le_refl _) _
    have HO := Lib.hid hO
    have HB := Lib.hid hb
    have h1 : ¬ ((m : Int) < 0) := by omega
    have h4 : (m : Int) > 0 := by omega
    have hm63 : wrap64 (m : Int) = (m : Int) := by unfold wrap64; omega
    have hG0 : (0 : Int) ≤ (G : Int) := by omega
    clear hO hb hold hG hi hz0 hz1 hz2 hGn hGm hc1
    go_enter Try.func210, Try.ntmps210
    go_wp2_with (at_builtin; refine Lib.wpList_append_run _ rfl _ _ _ _ rfl _ _ rfl rfl _ _ (hrz _) ?_)
    all_goals (go_ret; exact ⟨_, G, rfl, HO.out, HB.out⟩)
/-- What the cells of a slice of rows hold. -/
def HdL (w : World) (A : Option Addr) (n : Nat) (ls : List (List Int)) (H : List Value) : Prop :=
  H.length = n ∧ (0 < n → ∃ b o, A = some ⟨b, o, none⟩ ∧ ∀ k, k < n → w.cell? ⟨b, o + k, none⟩ = H[k]?) ∧ ∀ k, k < n → ∃ A' n' c', H[k]? = some (.slice A' n' c') ∧ SI w A' n' (li ls k) ∧ n' ≤ c' ∧ (A' = none → n' = 0 ∧ c' = 0)
theorem LS.hdl {w : World} {A : Option Addr} {n : Nat} {ls : List (List Int)} (h : LS w A n ls) : ∃ H, HdL w A n ls H := by
  by_cases h0 : 0 < n
  · obtain ⟨b, o, rfl, hb, hk⟩ := h.2 h0
    refine ⟨(List.range n).map fun k => (w.cell? ⟨b, o + k, none⟩).getD undef, by simp, fun _ => ⟨b, o, rfl, fun k hkn => ?_⟩, fun k hkn => ?_⟩
    · obtain ⟨A', n', c', e, _⟩ := hk k hkn
      simp [hkn, e]
    · obtain ⟨A', n', c', e, hs, hc, hn⟩ := hk k hkn
      exact ⟨A', n', c', by simp [hkn, e], hs, hc, hn⟩
  · have : n = 0 := by omega
    subst this
    exact ⟨[], rfl, fun h1 => absurd h1 (by omega), fun k hk => absurd hk (by omega)⟩
theorem HdL.below {w w' : World} {A : Option Addr} {n : Nat} {ls : List (List Int)} {H : List Value} (h : HdL w A n ls H) (hl : LS w A n ls) (hb : Below w.heap.size w w') : HdL w' A n ls H := by
  refine ⟨h.1, fun h0 => ?_, fun k hk => ?_⟩
  · obtain ⟨b, o, e, hc⟩ := h.2.1 h0
    obtain ⟨b', o', e', hb', _⟩ := hl.2 h0
    rw [e] at e'
    injection e' with e'
    injection e' with e1 e2
    subst e1
    exact ⟨b, o, e, fun k hk => by rw [Below.cell hb (p := ⟨b, o + k, none⟩) hb']; exact hc k hk⟩
  · obtain ⟨A', n', c', e, hs, hc, hn⟩ := h.2.2 k hk
    exact ⟨A', n', c', e, hs.below hb (Nat.le_refl _), hc, hn⟩
theorem HdL.one {w : World} {A : Option Addr} {n : Nat} {ls : List (List Int)} {H : List Value} (h : HdL w A n ls H) : ∀ u ∈ H, u.oneCell' = true := fun u hu => by
  obtain ⟨k, hk, rfl⟩ := List.mem_iff_getElem.1 hu
  obtain ⟨A', n', c', e, _⟩ := h.2.2 k (by rw [← h.1]; exact hk)
  rw [List.getElem?_eq_getElem hk] at e
  injection e with e
  rw [e]; rfl
/-- An owned slice whose cells are the headers of two slices of rows reads as both lists. -/
theorem HdL.cat {w : World} {A1 A2 A : Option Addr} {n1 n2 lo c : Nat} {ls us : List (List Int)} {H1 H2 : List Value} (h1 : HdL w A1 n1 ls H1) (h2 : HdL w A2 n2 us H2) (hl1 : ls.length = n1) (hl2 : us.length = n2) (ho : w.ownsRow lo 22 1 (.slice A (n1 + n2) c) (n1 + n2) (H1 ++ H2)) : LS w A (n1 + n2) (ls ++ us) := by
  refine ⟨by simp [hl1, hl2], fun h0 => ?_⟩
  obtain ⟨g, cap, e, _, _⟩ := ho.form h0
  injection e with e1 e2 e3
  subst e1
  have hlt := (ho.lt g rfl).2
  refine ⟨g, 0, rfl, hlt, fun k hk => ?_⟩
  have hcell : w.cell? ⟨g, 0 + k, none⟩ = (H1 ++ H2)[k]? := by
    rw [Nat.zero_add]
    exact World.ownsRow.cellAt ho k (by omega)
  by_cases hk1 : k < n1
  · obtain ⟨A', n', c', e, hs, hc, hn⟩ := h1.2.2 k hk1
    refine ⟨A', n', c', by rw [hcell, List.getElem?_append_left (by rw [h1.1]; exact hk1)]; exact e, ?_, hc, hn⟩
    rw [li_get (by simp [hl1, hl2]; omega), List.getElem_append_left (by omega)]
    rw [li_get (by omega)] at hs
    exact hs
  · obtain ⟨A', n', c', e, hs, hc, hn⟩ := h2.2.2 (k - n1) (by omega)
    refine ⟨A', n', c', by rw [hcell, List.getElem?_append_right (by rw [h1.1]; omega), h1.1]; exact e, ?_, hc, hn⟩
    rw [li_get (by simp [hl1, hl2]; omega), List.getElem_append_right (by omega)]
    rw [li_get (by omega)] at hs
    simpa only [hl1] using hs
theorem World.ownsRow.mono_ {w : World} {lo lo' n : Nat} {v : Value} {L : List Value} (h : w.ownsRow lo 22 1 v n L) (hl : lo' ≤ lo) : w.ownsRow lo' 22 1 v n L := by
  refine ⟨h.1, ?_⟩
  rcases h.2 with h' | ⟨g, cap, cur, e, hlo, rest⟩
  · exact Or.inl h'
  · exact Or.inr ⟨g, cap, cur, e, by omega, rest⟩
set_option maxRecDepth 100000 in
set_option maxHeartbeats 1000000 in
theorem wpList_append_hd {ops : Array Oper} {rest : List Oper} {o : Oper} {a : Act} {w : World} {Q : Exit → Act → World → Prop} (hgd : o.guard = none) (s x : Operand)
    (ho : o.op = .call { callee := .builtin .append, args := #[s, x], argTypes := #[23, 23] })
    (lo : Nat) (A : Option Addr) (n c : Nat) (L : List Value) (A2 : Option Addr) (m c2 : Nat) (ls : List (List Int)) (H : List Value) (hs : a.eval s = .slice A n c) (hx : a.eval x = .slice A2 m c2)
    (hown : w.ownsRow lo 22 1 (.slice A n c) n L) (hhd : HdL w A2 m ls H) (hlo : lo ≤ w.heap.size) (hn : n ≤ 100000) (hm : m ≤ 100000)
    (hK : ∀ A' c' w', w'.ownsRow lo 22 1 (.slice A' (n + m) c') (n + m) (L ++ H) → Below lo w w' → wpList Try.prog ops Q rest (a.put o.dst (.slice A' (n + m) c')) w') :
    wpList Try.prog ops Q (o :: rest) a w := by
  obtain ⟨i0, hi, hz0, hz1, hz2⟩ := info_parts Try.infoLs
  by_cases h0 : 0 < m
  · obtain ⟨b, off, rfl, hc⟩ := hhd.2.1 h0
    refine wpList_append_own _ hgd s x 23 ho lo 22 i0 (.slice none 0 0) 1 24 Try.underlying23 hi hz0 hz1 hz2 rfl (by decide) _ _ _ hs hown ⟨b, off, none⟩ m c2 H hx (by simp [hhd.1]) ?_ hhd.one (by unfold maxLen; omega) (by omega) hlo ?_
    · intro j u hj
      have hjl : j < H.length := by
        rcases Nat.lt_or_ge j H.length with h | h
        · exact h
        · rw [List.getElem?_eq_none h] at hj; cases hj
      rw [add_pt, hc j (by have := hhd.1; omega)]
      exact hj
    · intro v' w1 ho1 hg1 _
      obtain ⟨g, cap, rfl, _, _⟩ := ho1.form (by omega)
      exact hK _ _ w1 ho1 (grow_below hg1 hlo (fun k hk => (hown.lt k hk).1))
  · have hm0 : m = 0 := by omega
    subst hm0
    have hy : H = [] := List.eq_nil_of_length_eq_zero hhd.1
    subst hy
    have hk0 := hK A c w (by simpa using hown) (Below.refl _ _)
    refine wpList_plain hgd fun K hK' => ?_
    have hrun : (Builtin.append_ #[23, 23] o.type #[.slice A n c, .slice A2 0 c2]).run Try.prog w = .ok (.slice A n c) w := by
      have hg := hown
      have hl0 : ∀ v, (loadCells v 0).run Try.prog w = .ok #[] w := fun v => by simp [loadCells, loadCellsFrom]
      rcases hg.2 with ⟨e, h0⟩ | ⟨g, cap, cur, e, _, hgg, hnc, _⟩
      · injection e with e1 e2 e3
        subst e1; subst e3; subst h0
        cases A2 <;> simp [Builtin.append_, run_underlying Try.underlying23, sizeOf, typeInfo, hi, Builtin.lenOf, Builtin.firstCells, hl0]
      · injection e with e1 e2 e3
        subst e1; subst e3
        cases A2 <;> simp [Builtin.append_, run_underlying Try.underlying23, sizeOf, typeInfo, hi, Builtin.lenOf, Builtin.firstCells, hnc, storeCells, hl0]
    unfold Oper.wp
    simp [execOp, ho, resolve, invoke, builtin, hs, hx, hrun, Result.andThen]
    exact hK' _ _ (by simpa using hk0)
/-- The first i of two lists of headers, one behind the other. -/
def catH (H1 H2 : List Value) : Nat → List Value
  | 0 => []
  | 1 => H1
  | _ => H1 ++ H2
set_option maxHeartbeats 1600000 in
theorem concat2R_any (g cap n1 c1 n2 c2 : Nat) (A1 A2 : Option Addr) (ls us : List (List Int)) (w : World) (hb : Blk w g 23 #[.slice A1 n1 c1, .slice A2 n2 c2]) (hs1 : LS w A1 n1 ls) (hs2 : LS w A2 n2 us) (hn1 : n1 ≤ 1000) (hn2 : n2 ≤ 1000) :
    Calls Try.prog 142 #[.slice (some ⟨g, 0, none⟩) 2 cap] w fun e w' => ∃ A c, e = .returned (.slice A (n1 + n2) c) ∧ LS w' A (n1 + n2) (ls ++ us) ∧ Below w.heap.size w w' := by
  have HK := Lib.hid hb
  have HS1 := Lib.hid hs1
  have HS2 := Lib.hid hs2
  have hgl := hb.lt
  have HG := Lib.hid hgl
  obtain ⟨S, hS⟩ : ∃ S, S = n1 + n2 := ⟨_, rfl⟩
  have hz0 : ¬ ((n1 : Int) < 0) := by omega
  have hz1 : ¬ ((S : Int) < 0) := by omega
  have hw1 : IntKind.i64.wrap (n1 : Int) = (n1 : Int) := IntWalk.i64_in _ (by omega)
  have hw2 : IntKind.i64.wrap ((n1 : Int) + (n2 : Int)) = (S : Int) := by rw [show (n1 : Int) + (n2 : Int) = (S : Int) by omega]; exact IntWalk.i64_in _ (by omega)
  obtain ⟨H1, hh1⟩ := hs1.hdl
  obtain ⟨H2, hh2⟩ := hs2.hdl
  have HH1 := Lib.hid hh1
  have HH2 := Lib.hid hh2
  have HGR := Lib.hid (fun w' => growNilR_any S w' (by omega))
  have HSS := Lib.hid hS
  clear hb hs1 hs2 hgl hS hh1 hh2
  go_enter Try.func142, Try.ntmps142
  go_wp2_with fail
  go_loopw [3, 11] (fun sv iv wr => ∃ i : Nat, i ≤ 2 ∧ iv = .int .i64 i ∧ ((i = 0 ∧ sv = .int .i64 0) ∨ (i = 1 ∧ sv = .int .i64 n1) ∨ (i = 2 ∧ sv = .int .i64 S)) ∧ Drawn w wr)
    (fun _ iv _ => 2 - (intOf iv).toNat)
  case atStart => exact ⟨0, by omega, rfl, .inl ⟨rfl, rfl⟩, Drawn.refl _⟩
  case round =>
    obtain ⟨i, hi, rfl, hsv, hD⟩ := hrel
    have HD := Lib.hid hD
    have HKR := Lib.hid (HK.out.drawn hD)
    clear hD
    rcases hsv with ⟨rfl, rfl⟩ | ⟨rfl, rfl⟩ | ⟨rfl, rfl⟩
    · have hc : wr.cell? ⟨g, 0, none⟩ = some (.slice A1 n1 c1) := by rw [HKR.out.cell]; rfl
      go_wp2
      go_roundw
      case rel => exact ⟨1, by omega, by go_num, .inr (.inl ⟨rfl, rfl⟩), HD.out⟩
      case measure => simp [intOf]
    · have hc : wr.cell? ⟨g, 1, none⟩ = some (.slice A2 n2 c2) := by rw [HKR.out.cell]; rfl
      go_wp2
      go_roundw
      case rel => exact ⟨2, by omega, by go_num, .inr (.inr ⟨rfl, by first | rfl | (have := HSS.out; subst this; go_num)⟩), HD.out⟩
      case measure => simp [intOf]
    · go_wp2_with (go_at_call 210; refine (HGR.out _).mono ?_
                   rintro e w2 ⟨A4, c4, rfl, ho3, hb3⟩
                   have HO3 : Hid (w2.ownsRow w.heap.size 22 1 (.slice A4 0 c4) 0 []) := Lib.hid (World.ownsRow.mono_ ho3 (HD.out.below w.heap.size).size)
                   have HB3 : Hid (Below w.heap.size w w2) := Lib.hid ((HD.out.below _).trans (hb3.mono (HD.out.below w.heap.size).size))
                   clear ho3 hb3)
      go_loopw [6, 27] (fun ov iv wx => ∃ (i : Nat) (Ao : Option Addr) (no co : Nat), i ≤ 2 ∧ iv = .int .i64 i ∧ ov = .slice Ao no co ∧ wx.ownsRow w.heap.size 22 1 (.slice Ao no co) no (catH H1 H2 i) ∧ no = (catH H1 H2 i).length ∧ Below w.heap.size w wx)
        (fun _ iv _ => 2 - (intOf iv).toNat)
      case atStart => exact ⟨0, A4, 0, c4, by omega, rfl, rfl, HO3.out, rfl, HB3.out⟩
      case round =>
        obtain ⟨i, Ao, no, co, hi, rfl, rfl, hown, hnl, hbw⟩ := hrel
        have HO := Lib.hid hown
        have HB := Lib.hid hbw
        have HKX := Lib.hid (HK.out.below hbw HG.out)
        have HNO := Lib.hid hnl
        have HL1 := Lib.hid HH1.out.1
        have HL2 := Lib.hid HH2.out.1
        clear hown hnl hbw HO3 HB3
        have h3 : i = 0 ∨ i = 1 ∨ i = 2 := by omega
        rcases h3 with rfl | rfl | rfl
        · have hc : wr.cell? ⟨g, 0, none⟩ = some (.slice A1 n1 c1) := by rw [HKX.out.cell]; rfl
          have hno : no = 0 := HNO.out
          go_wp2_with (at_builtin; refine wpList_append_hd rfl (.tmp 31) (.tmp 32) rfl w.heap.size Ao no co [] A1 n1 c1 ls H1 rfl rfl HO.out (HH1.out.below HS1.out HB.out) HB.out.size (by omega) (by omega) ?_; intro A' c' w5 ho5 hb5)
          go_roundw
          case rel => exact ⟨1, A', n1, c', by omega, by go_num, rfl, by rw [hno, Nat.zero_add] at ho5; exact ho5, HL1.out.symm, HB.out.trans hb5⟩
          case measure => simp [intOf]
        · have hc : wr.cell? ⟨g, 1, none⟩ = some (.slice A2 n2 c2) := by rw [HKX.out.cell]; rfl
          have hno : no = n1 := by rw [HNO.out]; exact HL1.out
          go_wp2_with (at_builtin; refine wpList_append_hd rfl (.tmp 31) (.tmp 32) rfl w.heap.size Ao no co H1 A2 n2 c2 us H2 rfl rfl HO.out (HH2.out.below HS2.out HB.out) HB.out.size (by omega) (by omega) ?_; intro A' c' w5 ho5 hb5)
          go_roundw
          case rel => exact ⟨2, A', n1 + n2, c', by omega, by go_num, rfl, by rw [hno] at ho5; exact ho5, by rw [← HL1.out, ← HL2.out]; simp [catH], HB.out.trans hb5⟩
          case measure => simp [intOf]
        · go_wp2
          go_ret
          obtain rfl : no = n1 + n2 := by rw [HNO.out, ← HL1.out, ← HL2.out]; simp [catH]
          exact ⟨Ao, co, rfl, (HH1.out.below HS1.out HB.out).cat (HH2.out.below HS2.out HB.out) HS1.out.1 HS2.out.1 HO.out, HB.out⟩
end Go.Proofs.Ytjpoliibljjhnaa
