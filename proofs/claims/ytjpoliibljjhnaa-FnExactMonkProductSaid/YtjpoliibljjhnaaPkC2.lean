/-
  Texts CovM to Frame, merged. Conditions: as each says.
-/
import Derived.Laws.CopyOwn
import Derived.Deep.AppendLies
import Derived.Deep.MidRow
import Derived.Deep.RegionHeld3
import Derived.Deep.Cut
import Derived.Shelf.SlSortCmp.WholeK
import Derived.Test.YtjpoliibljjhnaaLayL
import Derived.Shelf.SlSortCmp.NoneTotal
import Derived.Test.YtjpoliibljjhnaaLayC
import Derived.RegionTactic
import Derived.BigRegion
import Derived.ProofKit
import Derived.OpenShut
import Derived.ChangeOld
import Derived.Test.YtjpoliibljjhnaaPkC1
/-
  What covers a permutation: both orders of looking give one ascending list. No conditions but those named.
-/




namespace Go.Proofs.Ytjpoliibljjhnaa
open Go.RowKit

/-- Exchanging two places makes longer by one. -/
def covB (xs : List Int) (i j : Nat) : Bool := decide (lenL (swapL xs i j) = lenL xs + 1)
theorem swapL_inj {xs : List Int} (h : isPermP xs) {i j i' j' : Nat} (hij : i < j) (hj : j < xs.length) (hij' : i' < j') (hj' : j' < xs.length) (e : swapL xs i j = swapL xs i' j') : i = i' ∧ j = j' := by
  have hi : nth (swapL xs i j) i = nth (swapL xs i' j') i := by rw [e]
  have hk : nth (swapL xs i j) j = nth (swapL xs i' j') j := by rw [e]
  rw [swapL_nth (by omega) hj (by omega), swapL_nth (by omega) hj' (by omega)] at hi hk
  rw [if_neg (by omega), if_pos rfl] at hi
  rw [if_pos rfl] at hk
  have hne : nth xs i ≠ nth xs j := pp_ne h hij hj
  have h1 : i = i' ∨ i = j' := by
    by_cases a : i = j'
    · exact .inr a
    · by_cases b : i = i'
      · exact .inl b
      · rw [if_neg a, if_neg b] at hi; exact absurd hi.symm hne
  have h2 : j = i' ∨ j = j' := by
    by_cases a : j = j'
    · exact .inr a
    · by_cases b : j = i'
      · exact .inl b
      · rw [if_neg a, if_neg b] at hk; exact absurd hk hne
  omega
/-- The program's order: the second place outside, the first one inside. -/
def covR (xs : List Int) (j : Nat) : Nat → List (List Int)
  | 0 => []
  | i + 1 => if covB xs i j = true then covR xs j i ++ [swapL xs i j] else covR xs j i
def covJ (xs : List Int) : Nat → List (List Int)
  | 0 => []
  | j + 1 => covJ xs j ++ covR xs j j
theorem covR_mem {xs : List Int} {j : Nat} {z : List Int} : ∀ i, z ∈ covR xs j i ↔ ∃ s, s < i ∧ covB xs s j = true ∧ z = swapL xs s j
  | 0 => by simp [covR]
  | i + 1 => by
    unfold covR
    by_cases hc : covB xs i j = true
    · rw [if_pos hc, List.mem_append, covR_mem i, List.mem_singleton]
      constructor
      · rintro (⟨s, h1, h2, h3⟩ | h)
        · exact ⟨s, by omega, h2, h3⟩
        · exact ⟨i, by omega, hc, h⟩
      · rintro ⟨s, h1, h2, h3⟩
        by_cases e : s = i
        · subst e; exact .inr h3
        · exact .inl ⟨s, by omega, h2, h3⟩
    · rw [if_neg hc, covR_mem i]
      constructor
      · rintro ⟨s, h1, h2, h3⟩; exact ⟨s, by omega, h2, h3⟩
      · rintro ⟨s, h1, h2, h3⟩
        have : s ≠ i := fun e => hc (e ▸ h2)
        exact ⟨s, by omega, h2, h3⟩
theorem covJ_mem {xs z : List Int} : ∀ j, z ∈ covJ xs j ↔ ∃ s t, s < t ∧ t < j ∧ covB xs s t = true ∧ z = swapL xs s t
  | 0 => by simp [covJ]
  | j + 1 => by
    unfold covJ
    rw [List.mem_append, covJ_mem j, covR_mem]
    constructor
    · rintro (⟨s, t, h1, h2, h3, h4⟩ | ⟨s, h1, h2, h3⟩)
      · exact ⟨s, t, h1, by omega, h3, h4⟩
      · exact ⟨s, j, h1, by omega, h2, h3⟩
    · rintro ⟨s, t, h1, h2, h3, h4⟩
      by_cases e : t = j
      · subst e; exact .inr ⟨s, h1, h3, h4⟩
      · exact .inl ⟨s, t, h1, by omega, h3, h4⟩
theorem covR_nodup {xs : List Int} (h : isPermP xs) {j : Nat} (hj : j < xs.length) : ∀ i, i ≤ j → (covR xs j i).Nodup
  | 0, _ => by simp [covR]
  | i + 1, hi => by
    unfold covR
    split
    · rw [List.nodup_append]
      refine ⟨covR_nodup h hj i (by omega), by simp, fun a ha b hb e => ?_⟩
      rw [List.mem_singleton] at hb
      obtain ⟨s, h1, _, h3⟩ := (covR_mem i).1 ha
      have := swapL_inj h (show s < j by omega) hj (show i < j by omega) hj (by rw [← h3, ← hb, e])
      omega
    · exact covR_nodup h hj i (by omega)
theorem covJ_nodup {xs : List Int} (h : isPermP xs) : ∀ j, j ≤ xs.length → (covJ xs j).Nodup
  | 0, _ => by simp [covJ]
  | j + 1, hj => by
    unfold covJ
    rw [List.nodup_append]
    refine ⟨covJ_nodup h j (by omega), covR_nodup h (by omega) j (Nat.le_refl _), fun a ha b hb e => ?_⟩
    obtain ⟨s, t, h1, h2, _, h4⟩ := (covJ_mem j).1 ha
    obtain ⟨s', h1', _, h3'⟩ := (covR_mem j).1 hb
    have := swapL_inj h h1 (by omega) h1' (by omega) (by rw [← h4, ← h3', e])
    omega
theorem covR_len (xs : List Int) (j : Nat) : ∀ i, (covR xs j i).length ≤ i
  | 0 => by simp [covR]
  | i + 1 => by have := covR_len xs j i; unfold covR; split <;> simp <;> omega
theorem covJ_len (xs : List Int) : ∀ j, (covJ xs j).length ≤ j * j
  | 0 => by simp [covJ]
  | j + 1 => by
    have h1 := covJ_len xs j
    have h2 := covR_len xs j j
    unfold covJ
    rw [List.length_append, Nat.mul_add, Nat.add_mul]
    omega
/-- The document's order: the first place outside, each list put in where it belongs. -/
def covI (xs : List Int) (acc : List (List Int)) (i : Nat) : Nat → List (List Int)
  | 0 => acc
  | t + 1 => if covB xs i (i + 1 + t) = true then insU (covI xs acc i t) (swapL xs i (i + 1 + t)) else covI xs acc i t
def covO (xs : List Int) : Nat → List (List Int)
  | 0 => []
  | i + 1 => covI xs (covO xs i) i (xs.length - (i + 1))
theorem covI_asc {xs : List Int} {acc : List (List Int)} (h : AscL acc) (i : Nat) : ∀ t, AscL (covI xs acc i t)
  | 0 => h
  | t + 1 => by
    unfold covI
    split
    · exact (covI_asc h i t).ins
    · exact covI_asc h i t
theorem covO_asc (xs : List Int) : ∀ i, AscL (covO xs i)
  | 0 => AscL.nil
  | i + 1 => covI_asc (covO_asc xs i) i _
theorem covI_mem {xs : List Int} {acc : List (List Int)} {i : Nat} {z : List Int} : ∀ t, z ∈ covI xs acc i t ↔ z ∈ acc ∨ ∃ s, s < t ∧ covB xs i (i + 1 + s) = true ∧ z = swapL xs i (i + 1 + s)
  | 0 => by simp [covI]
  | t + 1 => by
    unfold covI
    by_cases hc : covB xs i (i + 1 + t) = true
    · rw [if_pos hc, insU_mem, covI_mem t]
      constructor
      · rintro (h | h | ⟨s, h1, h2, h3⟩)
        · exact .inr ⟨t, by omega, hc, h⟩
        · exact .inl h
        · exact .inr ⟨s, by omega, h2, h3⟩
      · rintro (h | ⟨s, h1, h2, h3⟩)
        · exact .inr (.inl h)
        · by_cases e : s = t
          · subst e; exact .inl h3
          · exact .inr (.inr ⟨s, by omega, h2, h3⟩)
    · rw [if_neg hc, covI_mem t]
      constructor
      · rintro (h | ⟨s, h1, h2, h3⟩)
        · exact .inl h
        · exact .inr ⟨s, by omega, h2, h3⟩
      · rintro (h | ⟨s, h1, h2, h3⟩)
        · exact .inl h
        · have : s ≠ t := fun e => hc (e ▸ h2)
          exact .inr ⟨s, by omega, h2, h3⟩
theorem covO_mem {xs z : List Int} : ∀ i, i ≤ xs.length → (z ∈ covO xs i ↔ ∃ s t, s < t ∧ s < i ∧ t < xs.length ∧ covB xs s t = true ∧ z = swapL xs s t)
  | 0, _ => by simp [covO]
  | i + 1, hi => by
    unfold covO
    rw [covI_mem, covO_mem i (by omega)]
    constructor
    · rintro (⟨s, t, h1, h2, h3, h4, h5⟩ | ⟨s, h1, h2, h3⟩)
      · exact ⟨s, t, h1, by omega, h3, h4, h5⟩
      · exact ⟨i, i + 1 + s, by omega, by omega, by omega, h2, h3⟩
    · rintro ⟨s, t, h1, h2, h3, h4, h5⟩
      by_cases e : s = i
      · subst e
        exact .inr ⟨t - (s + 1), by omega, by rw [show s + 1 + (t - (s + 1)) = t by omega]; exact h4, by rw [show s + 1 + (t - (s + 1)) = t by omega]; exact h5⟩
      · exact .inl ⟨s, t, h1, by omega, h3, h4, h5⟩
theorem covI_len (xs : List Int) (acc : List (List Int)) (i : Nat) : ∀ t, (covI xs acc i t).length ≤ acc.length + t
  | 0 => by simp [covI]
  | t + 1 => by
    have := covI_len xs acc i t
    unfold covI
    split
    · have := insU_len (covI xs acc i t) (swapL xs i (i + 1 + t)); omega
    · omega
theorem covO_len (xs : List Int) : ∀ i, (covO xs i).length ≤ i * xs.length
  | 0 => by simp [covO]
  | i + 1 => by
    have h1 := covO_len xs i
    have h2 := covI_len xs (covO xs i) i (xs.length - (i + 1))
    unfold covO
    rw [Nat.add_mul]
    omega
/-- Sorted, the program's list is the document's. -/
theorem cov_sorted {xs : List Int} {us : List (List Int)} (h : isPermP xs) (hp : us.Perm (covJ xs xs.length)) (hs : us.Pairwise fun a b => 0 ≤ cmpL b a) : us = covO xs xs.length := by
  refine AscL.uniq (AscL.sorted hp hs (covJ_nodup h _ (Nat.le_refl _))) (covO_asc xs _) fun z => ?_
  rw [hp.mem_iff, covJ_mem, covO_mem _ (Nat.le_refl _)]
  constructor
  · rintro ⟨s, t, h1, h2, h3, h4⟩; exact ⟨s, t, h1, by omega, h2, h3, h4⟩
  · rintro ⟨s, t, h1, h2, h3, h4, h5⟩; exact ⟨s, t, h1, h3, h4, h5⟩
/-- Each list is as long as the permutation. -/
theorem covJ_row {xs z : List Int} {j : Nat} (h : z ∈ covJ xs j) : z.length = xs.length := by
  obtain ⟨s, t, _, _, _, e⟩ := (covJ_mem j).1 h
  rw [e, swapL_len]
theorem covO_row {xs z : List Int} {i : Nat} (hi : i ≤ xs.length) (h : z ∈ covO xs i) : z.length = xs.length := by
  obtain ⟨s, t, _, _, _, _, e⟩ := (covO_mem i hi).1 h
  rw [e, swapL_len]
theorem covI_row {xs z : List Int} {i t : Nat} (hi : i ≤ xs.length) (h : z ∈ covI xs (covO xs i) i t) : z.length = xs.length := by
  rcases (covI_mem t).1 h with h | ⟨s, _, _, e⟩
  · exact covO_row hi h
  · rw [e, swapL_len]
theorem li_len_of {ls : List (List Int)} {m : Nat} (h : ∀ z ∈ ls, z.length ≤ m) (k : Nat) : (li ls k).length ≤ m := by
  by_cases hk : k < ls.length
  · rw [li_get hk]; exact h _ (List.getElem_mem hk)
  · have : li ls k = [] := by simp [li, List.getD, List.getElem?_eq_none (Nat.le_of_not_lt hk)]
    rw [this]; simp
theorem covO_few {xs : List Int} (h7 : xs.length ≤ 7) {i t : Nat} (hi : i ≤ 7) (ht : t ≤ 7) : (covO xs i).length ≤ 49 ∧ (covI xs (covO xs i) i t).length ≤ 56 := by
  have h1 := covO_len xs i
  have h2 := covI_len xs (covO xs i) i t
  have h3 : i * xs.length ≤ 7 * 7 := Nat.mul_le_mul hi h7
  omega
def covers (xs : List Int) : List (List Int) := if isPermB xs = true then covO xs xs.length else []
/-- Those of one second place (put in one after the other; sorted). -/
def covQ (xs : List Int) (r : Nat) : Nat → List (List Int)
  | 0 => []
  | q + 1 => if covB xs q r = true then insU (covQ xs r q) (swapL xs q r) else covQ xs r q
theorem covQ_asc (xs : List Int) (r : Nat) : ∀ q, AscL (covQ xs r q)
  | 0 => AscL.nil
  | q + 1 => by
    unfold covQ
    split
    · exact (covQ_asc xs r q).ins
    · exact covQ_asc xs r q
theorem covQ_mem {xs : List Int} {r : Nat} {z : List Int} : ∀ i, z ∈ covQ xs r i ↔ z ∈ covR xs r i
  | 0 => by simp [covQ, covR]
  | i + 1 => by
    unfold covQ covR
    split
    · rw [insU_mem, covQ_mem i, List.mem_append, List.mem_singleton]; exact or_comm
    · exact covQ_mem i
theorem covQ_len (xs : List Int) (r : Nat) : ∀ q, (covQ xs r q).length ≤ q
  | 0 => by simp [covQ]
  | q + 1 => by
    have := covQ_len xs r q
    unfold covQ
    split
    · have := insU_len (covQ xs r q) (swapL xs q r); omega
    · omega
theorem covQ_sorted {xs : List Int} {us : List (List Int)} {r : Nat} (h : isPermP xs) (hr : r < xs.length) (hp : us.Perm (covR xs r r)) (hs : us.Pairwise fun a b => 0 ≤ cmpL b a) : us = covQ xs r r := by
  refine AscL.uniq (AscL.sorted hp hs (covR_nodup h hr _ (Nat.le_refl _))) (covQ_asc xs r _) fun z => ?_
  rw [hp.mem_iff, covQ_mem]
theorem covers_no {xs : List Int} (h : isPermB xs = false) : covers xs = [] := by unfold covers; rw [if_neg (by rw [h]; decide)]
theorem covers_yes {xs : List Int} (h : isPermB xs = true) : covers xs = covO xs xs.length := by unfold covers; rw [if_pos h]
theorem covers_short (xs : List Int) : ShortL (covers xs) := by
  cases h : isPermB xs with
  | false => rw [covers_no h]; exact ShortL.of (by simp) (by simp)
  | true =>
    have h7 := (isPermB_P h).2.1
    rw [covers_yes h]
    exact ShortL.of (by have := (covO_few h7 h7 (Nat.zero_le 7)).1; omega) (fun z hz => by rw [covO_row (Nat.le_refl _) hz]; omega)
end Go.Proofs.Ytjpoliibljjhnaa

/-
  Is a list of terms a polynomial: both sides answer polyB. Conditions: lengths below 2^40.
-/

namespace Go.Proofs.Ytjpoliibljjhnaa
open Go.RowKit

end Go.Proofs.Ytjpoliibljjhnaa

/-
  Is a list of terms a polynomial: the program's side answers polyB. Conditions: lengths below 2^40.
-/

namespace Go.Proofs.Ytjpoliibljjhnaa
open Go.RowKit

theorem quiet_loadmid {P : Program} {C : World → Prop} {a : Act} {o : Oper} {K : Act → Prop} (ty : TypeId) (x : Operand) (ho : o.op = .load ty x) (b off : Nat) (hx : a.eval x = .pointer (some ⟨b, off, none⟩)) (cs : List Value) (d : TypeDesc)
    (hb : ∀ w, C w → w.rangeAt b off cs) (hu : P.underlying ty = some d) (hd : d.isRow = true) (hi : (P.info? ty).map (·.size) = some cs.length) (hk : K (a.put o.dst (.agg cs.toArray))) : o.quiet P a C K :=
  ⟨_, fun w hw => by
    unfold Oper.quietAt execOp
    simp only [ho, hx, Instr.loadAt, Instr.sureAddr, Sem.run_bind, Sem.run_pure, Result.andThen_ok, run_loadVar_mid w b off ty cs d (hb w hw) hu hd hi]
    exact ⟨rfl, rfl⟩, hk⟩

end Go.Proofs.Ytjpoliibljjhnaa

/-
  The helpers of the exact laws at terms: marking, holding. Conditions: lengths below 2^40.
-/

namespace Go.Proofs.Ytjpoliibljjhnaa
open Go.RowKit

/-- What marking writes, from q on. -/
def marksT : List Tm → Int → List Tm
  | [], _ => []
  | t :: r, q => (marks t.1.length q, q + (t.1.length : Int)) :: marksT r (q + (t.1.length : Int) + 1)
/-- The number behind the last mark. -/
def endT : List Tm → Int → Int
  | [], q => q
  | t :: r, q => endT r (q + (t.1.length : Int) + 1)
theorem marksT_len : ∀ (ts : List Tm) (q : Int), (marksT ts q).length = ts.length
  | [], _ => rfl
  | t :: r, q => by simp [marksT, marksT_len r]
theorem endT_app : ∀ (ts us : List Tm) (q : Int), endT (ts ++ us) q = endT us (endT ts q)
  | [], _, _ => rfl
  | _ :: r, us, _ => endT_app r us _
theorem marksT_app : ∀ (ts us : List Tm) (q : Int), marksT (ts ++ us) q = marksT ts q ++ marksT us (endT ts q)
  | [], _, _ => rfl
  | t :: r, us, q => by show _ :: marksT (r ++ us) _ = _ :: (_ ++ _); rw [marksT_app r us]; rfl
def mixT (ts : List Tm) (q : Int) (k : Nat) : List Tm := marksT (ts.take k) q ++ ts.drop k
theorem mixT_zero (ts : List Tm) (q : Int) : mixT ts q 0 = ts := by simp [mixT, marksT]
theorem mixT_all (ts : List Tm) (q : Int) : mixT ts q ts.length = marksT ts q := by simp [mixT]
theorem mixT_tm {ts : List Tm} {q : Int} {k : Nat} (h : k < ts.length) : tm (mixT ts q k) k = tm ts k := by
  unfold mixT tm
  rw [List.getD_eq_getElem?_getD, List.getD_eq_getElem?_getD, List.getElem?_append_right (by rw [marksT_len]; simp; omega), marksT_len]
  simp [Nat.min_eq_left (Nat.le_of_lt h)]
theorem endT_succ {ts : List Tm} {q : Int} {k : Nat} (h : k < ts.length) : endT (ts.take (k + 1)) q = endT (ts.take k) q + ((tm ts k).1.length : Int) + 1 := by
  rw [take_tm h, endT_app]; rfl
theorem mixT_succ {ts : List Tm} {q : Int} {k : Nat} (h : k < ts.length) :
    (mixT ts q k).set k (marks (tm ts k).1.length (endT (ts.take k) q), endT (ts.take k) q + ((tm ts k).1.length : Int)) = mixT ts q (k + 1) := by
  unfold mixT
  have hl : (marksT (ts.take k) q).length = k := by rw [marksT_len]; simp; omega
  rw [List.set_append_right _ _ (by omega), hl, Nat.sub_self, List.drop_eq_getElem_cons h, List.set_cons_zero, take_tm h, marksT_app, List.append_assoc]
  rfl
theorem marksT_tm {ts : List Tm} {q : Int} {k : Nat} (h : k < ts.length) : tm (marksT ts q) k = (marks (tm ts k).1.length (endT (ts.take k) q), endT (ts.take k) q + ((tm ts k).1.length : Int)) := by
  have e : marksT ts q = marksT (ts.take k) q ++ marksT (ts.drop k) (endT (ts.take k) q) := by rw [← marksT_app, List.take_append_drop]
  rw [e]
  unfold tm
  rw [List.getD_eq_getElem?_getD, List.getElem?_append_right (by rw [marksT_len]; simp; omega), marksT_len]
  rw [List.drop_eq_getElem_cons h]
  simp [marksT, Nat.min_eq_left (Nat.le_of_lt h), List.getD, h]

end Go.Proofs.Ytjpoliibljjhnaa

/-
  Constants and monomials, on both sides. Conditions: lengths below 2^40.
-/



namespace Go.Proofs.Ytjpoliibljjhnaa
open Go.RowKit

/-- The polynomial k. -/
def constPoly (k : Int) : List Tm := if k ≠ 0 ∧ -1000000 ≤ k ∧ k ≤ 1000000 then [(List.replicate 7 0, k)] else []
theorem constPoly_no {k : Int} (h : ¬ (k ≠ 0 ∧ -1000000 ≤ k ∧ k ≤ 1000000)) : constPoly k = [] := by unfold constPoly; rw [if_neg h]
theorem constPoly_yes {k : Int} (h : k ≠ 0 ∧ -1000000 ≤ k ∧ k ≤ 1000000) : constPoly k = [(List.replicate 7 0, k)] := by unfold constPoly; rw [if_pos h]
/-- What is short: at most one term of seven exponents. -/
def shortT (ts : List Tm) : Prop := ts = [] ∨ ∃ e x, ts = [(e, x)] ∧ e.length = 7
theorem shortT.le {ts : List Tm} (h : shortT ts) : ts.length ≤ 1099511627776 := by
  rcases h with rfl | ⟨e, x, rfl, _⟩ <;> simp
theorem shortT.lens {ts : List Tm} (h : shortT ts) (k : Nat) : (tm ts k).1.length ≤ 1099511627776 := by
  rcases h with rfl | ⟨e, x, rfl, h7⟩
  · simp [tm]
  · match k with
    | 0 => show e.length ≤ _; omega
    | k + 1 => simp [tm, List.getD]
theorem shortT.ends {ts : List Tm} (h : shortT ts) (k : Nat) : 0 ≤ endT (ts.take k) 1 ∧ endT (ts.take k) 1 ≤ 1099511627776 := by
  rcases h with rfl | ⟨e, x, rfl, h7⟩
  · simp [endT]
  · match k with
    | 0 => simp [endT]
    | k + 1 => simp [endT, h7]
theorem constPoly_short (k : Int) : shortT (constPoly k) := by
  by_cases h : k ≠ 0 ∧ -1000000 ≤ k ∧ k ≤ 1000000
  · exact .inr ⟨_, _, constPoly_yes h, by simp⟩
  · exact .inl (constPoly_no h)

/-- Exponents with zeros behind them, seven in all: the first k of e. -/
def fillE (e : List Int) (k : Nat) : List Int := e.take k ++ List.replicate (7 - k) 0
theorem fillE_len {e : List Int} {k : Nat} (h : k ≤ e.length) (h7 : k ≤ 7) : (fillE e k).length = 7 := by simp [fillE]; omega
theorem fillE_succ {e : List Int} {k : Nat} (h : k < e.length) (h7 : k < 7) : (fillE e k).set k (nth e k) = fillE e (k + 1) := by
  unfold fillE
  have hl : (e.take k).length = k := by simp; omega
  rw [List.set_append_right _ _ (by omega), hl, Nat.sub_self, show 7 - k = (7 - (k + 1)) + 1 by omega, List.replicate_succ, List.set_cons_zero, take_nth h, List.append_assoc]
  rfl
/-- The polynomial of one term. -/
def monoPoly (e : List Int) : List Tm := if e.length ≤ 7 ∧ smallE e = true then [(fillE e e.length, 1)] else []
theorem monoPoly_no {e : List Int} (h : ¬ (e.length ≤ 7 ∧ smallE e = true)) : monoPoly e = [] := by unfold monoPoly; rw [if_neg h]
theorem monoPoly_yes {e : List Int} (h : e.length ≤ 7 ∧ smallE e = true) : monoPoly e = [(fillE e e.length, 1)] := by unfold monoPoly; rw [if_pos h]
theorem monoPoly_short (e : List Int) : shortT (monoPoly e) := by
  by_cases h : e.length ≤ 7 ∧ smallE e = true
  · exact .inr ⟨_, _, monoPoly_yes h, fillE_len (Nat.le_refl _) h.1⟩
  · exact .inl (monoPoly_no h)
theorem smallE_fill {e : List Int} (_h7 : e.length ≤ 7) : smallE (fillE e e.length) = smallE e := by
  unfold fillE smallE
  rw [List.take_of_length_le (Nat.le_refl _), List.all_append]
  have : (List.replicate (7 - e.length) (0 : Int)).all (fun x => decide (0 ≤ x ∧ x ≤ 24)) = true := by
    rw [List.all_eq_true]; intro x hx; rw [List.eq_of_mem_replicate hx]; decide
  rw [this, Bool.and_true]

theorem Try.infoIntS : (Try.prog.info? 3).map (·.size) = some 1 := by kernel_rfl
/-- 'copy(d, s)' into a slice of the call's own that is at least as long. -/
theorem wpList_copy_ints {ops : Array Oper} {rest : List Oper} {o : Oper} {a : Act} {w : World} {Q : Exit → Act → World → Prop} (hgd : o.guard = none) (d s : Operand)
    (ho : o.op = .call { callee := .builtin .copy, args := #[d, s], argTypes := #[22, 22] }) (g n' : Nat) (A : Option Addr) (n c : Nat) (hd : a.eval d = .slice (some ⟨g, 0, none⟩) n' n') (hs : a.eval s = .slice A n c)
    (lo hi : Nat) (ys e : List Int) (hown : Own w lo hi (some ⟨g, 0, none⟩) n' n' ys) (hsi : SI w A n e) (hle : n ≤ n')
    (hK : ∀ w', Own w' lo hi (some ⟨g, 0, none⟩) n' n' (e ++ ys.drop n) → w.grownBy w' (some g) → wpList Try.prog ops Q rest (a.put o.dst (goInt n)) w') : wpList Try.prog ops Q (o :: rest) a w := by
  have hl := hsi.1
  by_cases h0 : n = 0
  · subst h0
    obtain rfl : e = [] := List.eq_nil_of_length_eq_zero hl
    exact Go.wpList_copy_nothing hgd d s 22 22 ho 3 Try.underlying22 Try.infoIntS (some ⟨g, 0, none⟩) A n' n' 0 c hd hs (by simp) (hK w (by simpa using hown) (World.grownBy.refl _ _))
  · obtain ⟨b, off, rfl, hb, hc⟩ := hsi.2 (by omega)
    rcases hown.1.2 with ⟨hx, _⟩ | ⟨g', cap, cur, hv, hlo, hg, hnc, hcm, hcs, htake⟩
    · cases hx
    · have hv' := hv
      simp only [Value.slice.injEq, Option.some.injEq, Addr.mk.injEq, and_true, true_and] at hv'
      obtain ⟨rfl, rfl⟩ := hv'
      have hyl := hown.len
      have hcur : cur.toList = ys.map (Value.int .i64) := by rw [← htake, List.take_of_length_le (by simp; omega)]
      have hE : (cur.toList.take 0 ++ (e.map (Value.int .i64) ++ cur.toList.drop (0 + (e.map (Value.int .i64)).length))).toArray = ((e ++ ys.drop n).map (Value.int .i64)).toArray := by
        rw [hcur]; simp [hl, List.map_drop]
      refine Go.wpList_copy_own hgd d s 22 22 ho 3 Try.underlying22 Try.infoIntS g 0 n' n' ⟨b, off, none⟩ n c hd hs cur 3 hg (e.map (Value.int .i64)) (by simp [hl]; exact (Nat.min_eq_left hle).symm) ?_ (by simp [hl]; omega) (ints_oneCell _ _) ?_
      · intro j v hj
        have hjl : j < e.length := by
          rcases Nat.lt_or_ge j e.length with h | h
          · exact h
          · rw [List.getElem?_eq_none (by simpa using h)] at hj; cases hj
        rw [List.getElem?_map, nth_get? hjl] at hj
        rw [add_pt, hc j (by omega)]
        exact hj
      · rw [hE]
        have hk := hK (w.setRow g ((e ++ ys.drop n).map (Value.int .i64)).toArray) ⟨⟨by simp; omega, .inr ⟨g, n', _, rfl, hlo, setRow_heap w g cur _ _ (0, 0) hg, Nat.le_refl _, hcm, by simp; omega, List.take_of_length_le (by simp; omega)⟩⟩, hown.2⟩ (grownBy_setRow w g _)
        simpa [hl] using hk

end Go.Proofs.Ytjpoliibljjhnaa

/-
  Slices of terms that a call owns: the empty one, a wider frame, a term more behind them. Plain lemmas. No conditions.
-/


namespace Go.Proofs.Ytjpoliibljjhnaa
open Go.RowKit

end Go.Proofs.Ytjpoliibljjhnaa

/-
  TermMem, for values of type Class instead of terms (made by wip/gen/gen_cls.py). Conditions: lengths below 2^40.
-/



namespace Go.Proofs.Ytjpoliibljjhnaa.Cls
open Go.RowKit
section
variable {w w' : World} {A : Option Addr} {n : Nat} {ts : List Tm}
end

/-- The slice (A, n, c) holds the terms ts: its block, and a block for the exponents of each term, all the call's own between lo and hi, no two of them one. -/
def OwnTC (w : World) (lo hi : Nat) (A : Option Addr) (n c : Nat) (ts : List Tm) : Prop :=
  ∃ E : Nat → Sv, ts.length = n ∧ w.ownsRow lo 117 2 (.slice A n c) n (cells2 n fun k => (sv (E k), .int .i64 (tm ts k).2)) ∧ (∀ k, (Value.slice A n c).ownBlock = some k → k < hi) ∧
    (∀ j, j < n → Own w lo hi (E j).1 (E j).2.1 (E j).2.2 (tm ts j).1) ∧ (∀ j g, j < n → (sv (E j)).ownBlock = some g → (Value.slice A n c).ownBlock ≠ some g) ∧
    (∀ i j g, i < j → j < n → (sv (E i)).ownBlock = some g → (sv (E j)).ownBlock ≠ some g)
section
variable {w w' : World} {lo hi n c : Nat} {A : Option Addr} {ts : List Tm}
theorem OwnTC.len (h : OwnTC w lo hi A n c ts) : ts.length = n := by obtain ⟨_, h1, _⟩ := h; exact h1
theorem OwnTC.nil (w : World) (lo hi : Nat) : OwnTC w lo hi none 0 0 [] :=
  ⟨fun _ => (none, 0, 0), rfl, by simpa [cells2] using World.ownsRow_nil _ _ _ _, fun k hk => by simp [Value.ownBlock] at hk, fun j hj => absurd hj (by omega), fun j g hj => absurd hj (by omega), fun i j g _ hj => absurd hj (by omega)⟩
theorem OwnTC.place (h : OwnTC w lo hi A n c ts) (hn : 0 < n) : ∃ g, A = some ⟨g, 0, none⟩ ∧ lo ≤ g ∧ g < hi := by
  obtain ⟨E, _, ho, hh, _⟩ := h
  obtain ⟨g, cap, e, h1, _⟩ := ho.form hn
  have hA : A = some ⟨g, 0, none⟩ := by injection e
  subst hA
  exact ⟨g, rfl, h1, hh g rfl⟩
theorem OwnTC.rd (h : OwnTC w lo hi A n c ts) : TS w A n ts := by
  refine ⟨h.len, fun hn => ?_⟩
  obtain ⟨g, rfl, _, _⟩ := h.place hn
  obtain ⟨E, hl, ho, hh, he, _⟩ := h
  refine ⟨g, 0, rfl, ?_, fun k hk => ?_⟩
  · obtain ⟨g', cap, e, _, h2⟩ := ho.form hn
    injection e with e1; injection e1 with e1; injection e1 with e1
    subst e1; exact h2
  · refine ⟨(E k).1, (E k).2.1, (E k).2.2, ?_, ?_, (he k hk).si, (he k hk).cap, ?_⟩
    · rw [Nat.zero_add, ho.cellAt (k * 2) (by omega), cells2_get0 _ hk]; rfl
    · rw [Nat.zero_add, ho.cellAt (k * 2 + 1) (by omega), cells2_get1 _ hk]
    · intro e
      have := he k hk
      rw [e] at this
      exact this.nilcap
theorem OwnTC.si (h : OwnTC w lo hi A n c ts) : TS w A n ts := h.rd
theorem OwnTC.below {B : Nat} (h : OwnTC w lo hi A n c ts) (hb : Below B w w') (hB : hi ≤ B) : OwnTC w' lo hi A n c ts := by
  obtain ⟨E, h1, h2, h3, h4, h5, h6⟩ := h
  refine ⟨E, h1, ⟨h2.1, ?_⟩, h3, fun j hj => (h4 j hj).below hb hB, h5, h6⟩
  rcases h2.2 with hn | ⟨g, cap, cur, e, hl, hg, rest⟩
  · exact .inl hn
  · have hlt := h3 g (by rw [e]; rfl)
    exact .inr ⟨g, cap, cur, e, hl, (hb.block g (by omega)).trans hg, rest⟩
theorem OwnTC.drawn (h : OwnTC w lo hi A n c ts) (hd : Drawn w w') : OwnTC w' lo hi A n c ts := h.below (hd.below hi) (Nat.le_refl _)
theorem OwnTC.cap (h : OwnTC w lo hi A n c ts) : n ≤ c := by
  obtain ⟨E, _, h2, _⟩ := h
  rcases h2.2 with ⟨e, h0⟩ | ⟨g, cap, cur, e, _, _, hc, _⟩
  · omega
  · injection e with _ _ e3; omega
end
theorem OwnTC.within {w w' : World} {lo hi n c lo' hi' : Nat} {A : Option Addr} {ts : List Tm} (h : OwnTC w lo hi A n c ts) (hw : Within lo' hi' w w') (hd : hi ≤ lo' ∨ hi' ≤ lo) : OwnTC w' lo hi A n c ts := by
  obtain ⟨E, h1, h2, h3, h4, h5, h6⟩ := h
  refine ⟨E, h1, ⟨h2.1, ?_⟩, h3, fun j hj => (h4 j hj).within hw hd, h5, h6⟩
  rcases h2.2 with hn | ⟨g, cap, cur, e, hl, hg, rest⟩
  · exact .inl hn
  · have hlt := h3 g (by rw [e]; rfl)
    have hsz := (h2.lt g (by rw [e]; rfl)).2
    exact .inr ⟨g, cap, cur, e, hl, (hw.2.2.2.2 g hsz (by omega)).trans hg, rest⟩
/-- What a call that makes a slice of terms hands back. -/
def FreshTC (w w' : World) (e : Ending) (ts : List Tm) : Prop :=
  ∃ A n c, e = .returned (.slice A n c) ∧ OwnTC w' w.heap.size w'.heap.size A n c ts ∧ Below w.heap.size w w'

theorem row_eqC {w : World} {lo : Nat} {v : Value} {n : Nat} {xs ys : List Value} (h : w.ownsRow lo 117 2 v n xs) (e : xs = ys) : w.ownsRow lo 117 2 v n ys := e ▸ h
/-- One term stored: its exponents lie in a newer block of the call's own. -/
theorem OwnTC.put {w : World} {lo hi g n c : Nat} {ts : List Tm} (h : OwnTC w lo hi (some ⟨g, 0, none⟩) n c ts) {k : Nat} (hk : k < n) {lo' hi' n' c' : Nat} {A' : Option Addr} {xs : List Int} (hx : Own w lo' hi' A' n' c' xs)
    (h1 : hi ≤ lo') (h2 : lo ≤ lo') (h3 : hi ≤ hi') (x : Int) :
    OwnTC ((w.setCell ⟨g, k * 2, none⟩ (.slice A' n' c')).setCell ⟨g, k * 2 + 1, none⟩ (.int .i64 x)) lo hi' (some ⟨g, 0, none⟩) n c (ts.set k (xs, x)) ∧
      w.grownBy ((w.setCell ⟨g, k * 2, none⟩ (.slice A' n' c')).setCell ⟨g, k * 2 + 1, none⟩ (.int .i64 x)) (some g) := by
  obtain ⟨E, hl, ho, hh, he, hne, hdd⟩ := h
  have hgl := hh g rfl
  obtain ⟨o1, g1⟩ := ho.stored (k * 2) (.slice A' n' c')
  obtain ⟨o2, g2⟩ := o1.stored (k * 2 + 1) (.int .i64 x)
  have gg := g1.trans g2
  refine ⟨⟨fun j => if j = k then (A', n', c') else E j, by simpa using hl, ?_, fun b hb => by have := hh b hb; omega, fun j hj => ?_, fun j b hj hb => ?_, fun i j b hij hj hb => ?_⟩, gg⟩
  · rw [cells2_set0 _ hk, cells2_set1 _ hk] at o2
    refine row_eqC o2 ?_
    apply cells2_congr
    intro j hj
    dsimp only
    rw [tm_set (by omega)]
    by_cases e : j = k
    · subst e; simp [sv]
    · simp [e]
  · dsimp only
    rw [tm_set (by omega)]
    by_cases e : j = k
    · rw [if_pos e, if_pos e]
      exact (hx.grown gg (fun b hb => .inl (by injection hb with hb; omega))).wide h2 (Nat.le_refl _)
    · rw [if_neg e, if_neg e]
      exact ((he j hj).kept gg (fun b hb => hne j b hj hb)).wide (Nat.le_refl _) h3
  · dsimp only at hb
    by_cases e : j = k
    · rw [if_pos e] at hb
      have := hx.lt b hb
      intro e2; injection e2 with e2; dsimp only at e2; omega
    · rw [if_neg e] at hb
      exact hne j b hj hb
  · dsimp only at hb ⊢
    by_cases e : i = k
    · rw [if_pos e] at hb
      rw [if_neg (by omega)]
      intro e2
      have := hx.lt b hb
      have := (he j hj).2 b e2
      omega
    · rw [if_neg e] at hb
      by_cases e' : j = k
      · rw [if_pos e']
        intro e2
        have := hx.lt b e2
        have := (he i (by omega)).2 b hb
        omega
      · rw [if_neg e']
        exact hdd i j b hij hj hb
/-- Only the number of a term stored. -/
theorem OwnTC.put2 {w : World} {lo hi g n c : Nat} {ts : List Tm} (h : OwnTC w lo hi (some ⟨g, 0, none⟩) n c ts) {k : Nat} (hk : k < n) (x : Int) :
    OwnTC (w.setCell ⟨g, k * 2 + 1, none⟩ (.int .i64 x)) lo hi (some ⟨g, 0, none⟩) n c (ts.set k ((tm ts k).1, x)) ∧ w.grownBy (w.setCell ⟨g, k * 2 + 1, none⟩ (.int .i64 x)) (some g) := by
  obtain ⟨E, hl, ho, hh, he, hne, hdd⟩ := h
  obtain ⟨o2, gg⟩ := ho.stored (k * 2 + 1) (.int .i64 x)
  refine ⟨⟨E, by simpa using hl, ?_, hh, fun j hj => ?_, hne, hdd⟩, gg⟩
  · rw [cells2_set1 _ hk] at o2
    refine row_eqC o2 ?_
    apply cells2_congr
    intro j hj
    dsimp only
    rw [tm_set (by omega)]
    by_cases e : j = k
    · subst e; simp
    · simp [e]
  · rw [tm_set (by omega)]
    have := (he j hj).kept gg (fun b hb => hne j b hj hb)
    by_cases e : j = k
    · subst e; rw [if_pos rfl]; exact this
    · rw [if_neg e]; exact this
/-- The exponents of one term, at its place. -/
theorem OwnTC.exp {w : World} {lo hi g n c : Nat} {ts : List Tm} (h : OwnTC w lo hi (some ⟨g, 0, none⟩) n c ts) {k : Nat} (hk : k < n) :
    ∃ A' n' c', w.cell? ⟨g, k * 2, none⟩ = some (.slice A' n' c') ∧ w.cell? ⟨g, k * 2 + 1, none⟩ = some (.int .i64 (tm ts k).2) ∧ (∀ j, w.frozen? ⟨g, j, none⟩ = false) ∧ Own w lo hi A' n' c' (tm ts k).1 ∧
      ∀ w' ys, Own w' lo hi A' n' c' ys → w.grownBy w' (Value.slice A' n' c').ownBlock → OwnTC w' lo hi (some ⟨g, 0, none⟩) n c (ts.set k (ys, (tm ts k).2)) := by
  obtain ⟨E, hl, ho, hh, he, hne, hdd⟩ := h
  refine ⟨(E k).1, (E k).2.1, (E k).2.2, ?_, ?_, fun j => ho.frozenAt j, he k hk, ?_⟩
  · rw [ho.cellAt (k * 2) (by omega), cells2_get0 _ hk]; rfl
  · rw [ho.cellAt (k * 2 + 1) (by omega), cells2_get1 _ hk]
  · intro w' ys hy hg
    refine ⟨E, by simpa using hl, ?_, hh, fun j hj => ?_, hne, hdd⟩
    · have o2 := ho.kept hg (.inr fun e => hne k g hk e.symm rfl)
      refine row_eqC o2 ?_
      apply cells2_congr
      intro j hj
      rw [tm_set (by omega)]
      by_cases e : j = k
      · subst e; simp
      · simp [e]
    · rw [tm_set (by omega)]
      by_cases e : j = k
      · subst e; rw [if_pos rfl]; exact hy
      · rw [if_neg e]
        refine (he j hj).kept hg (fun b hb e2 => ?_)
        rcases Nat.lt_or_ge j k with h | h
        · exact hdd j k b h hk hb e2
        · exact hdd k j b (by omega) hj e2 hb
theorem OwnTC.zeros {w : World} {lo g n c : Nat} (h : w.ownsRow lo 117 2 (.slice (some ⟨g, 0, none⟩) n c) n (madeCells #[.slice none 0 0, .int .i64 0] (n * 2)).toList) (hg : g < w.heap.size) : OwnTC w lo w.heap.size (some ⟨g, 0, none⟩) n c (zeroT n) := by
  refine ⟨fun _ => (none, 0, 0), by simp [zeroT], ?_, fun b hb => by simp [Value.ownBlock] at hb; omega, fun j hj => ?_, fun j b hj hb => by simp [sv, Value.ownBlock] at hb, fun i j b _ hj hb => by simp [sv, Value.ownBlock] at hb⟩
  · refine row_eqC h ?_
    apply List.ext_getElem?
    intro j
    by_cases hj : j < n * 2
    · rw [cells2_get _ hj, zeroT_tm]
      rcases Nat.mod_two_eq_zero_or_one j with e | e
      · simp [madeCells, hj, e, sv]
      · simp [madeCells, hj, e]
    · rw [List.getElem?_eq_none (by simp [madeCells]; omega), List.getElem?_eq_none (by rw [cells2_len]; omega)]
  · rw [zeroT_tm]; exact Own.nil _ _ _
end Go.Proofs.Ytjpoliibljjhnaa.Cls

/-
  TermHelp, for values of type Class instead of terms (made by wip/gen/gen_cls.py). Conditions: lengths below 2^40.
-/


namespace Go.Proofs.Ytjpoliibljjhnaa.Cls
open Go.RowKit
theorem Try.infoTermC : (Try.prog.info? 117).map (·.size) = some 2 := by kernel_rfl
theorem Try.infoTermZC : (Try.prog.info? 117).map (fun i => (i.zero, i.size, i.bytes)) = some (some (.agg #[.slice none 0 0, .int .i64 0]), 2, 32) := by kernel_rfl
/-- 'make([]Term, n)'. -/
theorem wpList_make_termsC {ops : Array Oper} {rest : List Oper} {o : Oper} {a : Act} {w : World} {Q : Exit → Act → World → Prop} (hgd : o.guard = none) (l c : Operand) (ho : o.op = .makeSlice 44 l c)
    (n : Nat) (hl : a.eval l = .int .i64 n) (hc : a.eval c = .int .i64 n) (hn : n ≤ 1099511627776)
    (hK : ∀ w', OwnTC w' w.heap.size w'.heap.size (some ⟨w.heap.size, 0, none⟩) n n (zeroT n) → Below w.heap.size w w' → wpList Try.prog ops Q rest (a.put o.dst (.slice (some ⟨w.heap.size, 0, none⟩) n n)) w') :
    wpList Try.prog ops Q (o :: rest) a w := by
  obtain ⟨i0, hi, hz0, hz1, hz2⟩ := info_parts Try.infoTermZC
  refine wpList_make_full w hgd l c 44 ho w.heap.size 117 i0 (.agg #[.slice none 0 0, .int .i64 0]) 2 Try.underlying44 hi hz0 hz1 .i64 .i64 n n n hl hc rfl rfl (by rw [hz2]; omega) (by unfold maxLen; omega) (Nat.le_refl _) ?_
  intro w1 ho1 hg1
  refine hK w1 (OwnTC.zeros ho1 ?_) (grow_below hg1 (Nat.le_refl _) (by intro k hk; cases hk))
  exact (ho1.lt w.heap.size rfl).2
end Go.Proofs.Ytjpoliibljjhnaa.Cls

/-
  OwnE, for values of type Class instead of terms (made by wip/gen/gen_cls.py). Conditions: lengths below 2^40.
-/




namespace Go.Proofs.Ytjpoliibljjhnaa.Cls
open Go.RowKit
theorem OwnTC.empty (w : World) : OwnTC (w.alloc (.cells #[] 117)) w.heap.size (w.heap.size + 1) (some ⟨w.heap.size, 0, none⟩) 0 0 [] :=
  ⟨fun _ => (none, 0, 0), rfl, World.ownsRow_lit w #[] 0 (Nat.le_refl _) (Nat.zero_le _) rfl, fun k hk => by simp [Value.ownBlock] at hk; omega, fun j hj => absurd hj (by omega), fun j g hj => absurd hj (by omega), fun i j g _ hj => absurd hj (by omega)⟩
theorem OwnTC.wide {w : World} {lo hi lo' hi' n c : Nat} {A : Option Addr} {ts : List Tm} (h : OwnTC w lo hi A n c ts) (h1 : lo' ≤ lo) (h2 : hi ≤ hi') : OwnTC w lo' hi' A n c ts := by
  obtain ⟨E, e1, e2, e3, e4, e5, e6⟩ := h
  refine ⟨E, e1, ⟨e2.1, ?_⟩, fun k hk => Nat.lt_of_lt_of_le (e3 k hk) h2, fun j hj => (e4 j hj).wide h1 h2, e5, e6⟩
  rcases e2.2 with hn | ⟨g, cap, cur, e, hl, rest⟩
  · exact .inl hn
  · exact .inr ⟨g, cap, cur, e, Nat.le_trans h1 hl, rest⟩
/-- The same, the blocks of the exponents named. -/
def OwnEC (E : Nat → Sv) (w : World) (lo hi : Nat) (A : Option Addr) (n c : Nat) (ts : List Tm) : Prop :=
  ts.length = n ∧ w.ownsRow lo 117 2 (.slice A n c) n (cells2 n fun k => (sv (E k), .int .i64 (tm ts k).2)) ∧ (∀ k, (Value.slice A n c).ownBlock = some k → k < hi) ∧
    (∀ j, j < n → Own w lo hi (E j).1 (E j).2.1 (E j).2.2 (tm ts j).1) ∧ (∀ j g, j < n → (sv (E j)).ownBlock = some g → (Value.slice A n c).ownBlock ≠ some g) ∧
    (∀ i j g, i < j → j < n → (sv (E i)).ownBlock = some g → (sv (E j)).ownBlock ≠ some g)
theorem OwnEC.below {E : Nat → Sv} {w w' : World} {lo hi n c B : Nat} {A : Option Addr} {ts : List Tm} (h : OwnEC E w lo hi A n c ts) (hb : Below B w w') (hB : hi ≤ B) : OwnEC E w' lo hi A n c ts := by
  obtain ⟨h1, h2, h3, h4, h5, h6⟩ := h
  refine ⟨h1, ⟨h2.1, ?_⟩, h3, fun j hj => (h4 j hj).below hb hB, h5, h6⟩
  rcases h2.2 with hn | ⟨g, cap, cur, e, hl, hg, rest⟩
  · exact .inl hn
  · have hlt := h3 g (by rw [e]; rfl)
    exact .inr ⟨g, cap, cur, e, hl, (hb.block g (by omega)).trans hg, rest⟩
theorem OwnTC.named {w : World} {lo hi n c : Nat} {A : Option Addr} {ts : List Tm} (h : OwnTC w lo hi A n c ts) : ∃ E, OwnEC E w lo hi A n c ts := h
/-- A term more behind them. -/
theorem OwnEC.app {E : Nat → Sv} {w w' : World} {lo hi n c : Nat} {A : Option Addr} {ts : List Tm} (h : OwnEC E w lo hi A n c ts) {lo2 hi2 n2 c2 : Nat} {A2 : Option Addr} {xs : List Int} (x : Int) (hx : Own w lo2 hi2 A2 n2 c2 xs)
    (hlo : lo ≤ lo2) (hd : hi ≤ lo2) {H g cap : Nat} (hH : hi2 ≤ H) (hHh : hi ≤ H) (hHw : H ≤ w.heap.size)
    (ho : w'.ownsRow lo 117 2 (.slice (some ⟨g, 0, none⟩) (n + 1) cap) (n + 1) (cells2 n (fun k => (sv (E k), .int .i64 (tm ts k).2)) ++ [.slice A2 n2 c2, .int .i64 x]))
    (hg : w.grownBy w' (Value.slice A n c).ownBlock) (hat : (Value.slice A n c).ownBlock = some g ∨ H ≤ g) (hlt : g < w'.heap.size) : OwnTC w' lo w'.heap.size (some ⟨g, 0, none⟩) (n + 1) cap (ts ++ [(xs, x)]) := by
  obtain ⟨h1, h2, h3, h4, h5, h6⟩ := h
  have hsz := hg.size
  rw [cells2_app] at ho
  have eE : ∀ j, j < n → (if j = n then ((A2, n2, c2) : Sv) else E j) = E j := fun j hj => by rw [if_neg (by omega)]
  have eN : (if n = n then ((A2, n2, c2) : Sv) else E n) = (A2, n2, c2) := if_pos rfl
  refine ⟨fun j => if j = n then (A2, n2, c2) else E j, by simp [h1], row_eqC ho (cells2_congr fun j hj => ?_), ?_, ?_, ?_, ?_⟩
  · by_cases e : j = n
    · subst e
      have := @tm_app_at ts (xs, x)
      rw [h1] at this
      rw [if_pos rfl]
      show (Value.slice A2 n2 c2, Value.int .i64 x) = (sv (if j = j then ((A2, n2, c2) : Sv) else E j), Value.int .i64 (tm (ts ++ [(xs, x)]) j).2)
      rw [eN, this]; rfl
    · rw [if_neg e]
      show _ = (sv (if j = n then ((A2, n2, c2) : Sv) else E j), Value.int .i64 (tm (ts ++ [(xs, x)]) j).2)
      rw [eE j (by omega), tm_app_lt (by rw [h1]; omega)]
  · intro k hk
    simp [Value.ownBlock] at hk
    omega
  · intro j hj
    by_cases e : j = n
    · subst e
      have := @tm_app_at ts (xs, x)
      rw [h1] at this
      rw [this]
      show Own w' lo w'.heap.size (if j = j then ((A2, n2, c2) : Sv) else E j).1 (if j = j then ((A2, n2, c2) : Sv) else E j).2.1 (if j = j then ((A2, n2, c2) : Sv) else E j).2.2 xs
      rw [eN]
      exact (hx.kept hg (fun b hb e => by have h7 := hx.lt b hb; have h8 := h3 b e; omega)).wide hlo (by omega)
    · rw [tm_app_lt (by rw [h1]; omega)]
      show Own w' lo w'.heap.size (if j = n then ((A2, n2, c2) : Sv) else E j).1 (if j = n then ((A2, n2, c2) : Sv) else E j).2.1 (if j = n then ((A2, n2, c2) : Sv) else E j).2.2 _
      rw [eE j (by omega)]
      exact ((h4 j (by omega)).kept hg (fun b hb e => h5 j b (by omega) hb e)).wide (Nat.le_refl _) (by omega)
  · intro j b hj hb e2
    have hbg : b = g := by simp [Value.ownBlock] at e2; omega
    subst hbg
    have hb' : (sv (if j = n then ((A2, n2, c2) : Sv) else E j)).ownBlock = some b := hb
    by_cases e : j = n
    · subst e
      rw [eN] at hb'
      have h7 := hx.lt b hb'
      rcases hat with ha | ha
      · have := h3 b ha; omega
      · omega
    · rw [eE j (by omega)] at hb'
      rcases hat with ha | ha
      · exact h5 j b (by omega) hb' ha
      · have := (h4 j (by omega)).lt b hb'; omega
  · intro i j b hij hj hb hb2
    have hb' : (sv (if i = n then ((A2, n2, c2) : Sv) else E i)).ownBlock = some b := hb
    have hb2' : (sv (if j = n then ((A2, n2, c2) : Sv) else E j)).ownBlock = some b := hb2
    rw [eE i (by omega)] at hb'
    by_cases e : j = n
    · subst e
      rw [eN] at hb2'
      have h7 := hx.lt b hb2'
      have h8 := (h4 i (by omega)).lt b hb'
      omega
    · rw [eE j (by omega)] at hb2'
      exact h6 i j b hij (by omega) hb' hb2'

/-- 'out = append(out, Term{..})' in a region that draws. -/
theorem step_appendTC (w : World) {ops : Array Oper} {o : Oper} {a : Act} {K : Act → World → Prop} {Q : Exit → Act → World → Prop} {E0 : Prop} (hgd : o.guard = none) (s x : Operand)
    (ho : o.op = .call { callee := .builtin .append, args := #[s, x], argTypes := #[44, 44] })
    (lo hi : Nat) (A : Option Addr) (n c : Nat) (ts : List Tm) (lo2 hi2 : Nat) (A3 : Option Addr) (n3 c3 : Nat) (xs : List Int) (z : Int) (nb : Nat) (hs : a.eval s = .slice A n c) (hx : a.eval x = .slice (some ⟨nb, 0, none⟩) 1 1) (hblk : Blk w nb 117 #[.slice A3 n3 c3, .int .i64 z])
    (hown : OwnTC w lo hi A n c ts) (hxs : Own w lo2 hi2 A3 n3 c3 xs) (hlo : lo ≤ lo2) (hd : hi ≤ lo2) (h1 : hi2 ≤ w.heap.size) (h2 : hi ≤ w.heap.size) (h3 : lo ≤ w.heap.size) (hn : n ≤ 1099511627776)
    (h : ∀ A' c' w', OwnTC w' lo w'.heap.size A' (n + 1) c' (ts ++ [(xs, z)]) → Below lo w w' → K (a.put o.dst (.slice A' (n + 1) c')) w') :
    if Region.wanted o (yielded ops a.tmps) = true then Oper.wp Try.prog o a w K Q else E0 := by
  obtain ⟨i0, hi0, hz0, hz1, hz2⟩ := info_parts Try.infoTermZC
  obtain ⟨E, hE⟩ := hown.named
  refine step_append_lies w hgd s x 44 ho lo 117 i0 _ 2 32 Try.underlying44 hi0 hz0 hz1 hz2 rfl (by decide) _ n _ hs hE.2.1 ⟨nb, 0, none⟩ 1 1 [.slice A3 n3 c3, .int .i64 z] hx rfl
    (World.news_of_block hblk) (by intro u hu; simp at hu; rcases hu with rfl | rfl <;> rfl) (by omega) (by unfold maxLen; omega) (by omega) h3 w.heap.size rfl ?_
  intro g cap w1 ho1 hg1 hat hlt
  exact h _ _ w1 (hE.app z hxs hlo hd (H := w.heap.size) h1 h2 (Nat.le_refl _) ho1 hg1 (hat.imp id (fun h => by omega)) hlt) (grow_below hg1 h3 (fun k hk => (hE.2.1.lt k hk).1))
end Go.Proofs.Ytjpoliibljjhnaa.Cls

/-
  The coefficient at given exponents, on both sides. Conditions: lengths below 2^40.
-/

namespace Go.Proofs.Ytjpoliibljjhnaa
open Go.RowKit

set_option maxHeartbeats 400000 in
/-- l1Same: are the two lists one. -/
theorem l1Same_any (A A' : Option Addr) (n c n' c' : Nat) (xs ys : List Int) (w : World) (hs : SI w A n xs) (hs' : SI w A' n' ys) (hn : n ≤ 1099511627776) (hn' : n' ≤ 1099511627776) :
    Calls Try.prog 187 #[.slice A n c, .slice A' n' c'] w fun e w' => e = .returned (.bool (eqL xs ys)) ∧ Drawn w w' := by
  have hl := hs.1
  have hl' := hs'.1
  by_cases hne : n = n'
  · subst hne
    go_enter Try.func187, Try.ntmps187
    go_wp2
    go_loopw [5] (fun i wr => ∃ k : Nat, k ≤ n ∧ i = .int .i64 k ∧ Drawn w wr ∧ ∀ j, j < k → nth xs j = nth ys j)
      (fun i _ => n - (intOf i).toNat)
    case atStart => exact ⟨0, Nat.zero_le _, rfl, Drawn.refl _, fun j hj => absurd hj (by omega)⟩
    case round =>
      obtain ⟨k, hk, rfl, hD, hall⟩ := hrel
      have HA := Lib.hid hall
      have hs := hD.si hs
      have hs' := hD.si hs'
      have HD := Lib.hid hD
      clear hall hD
      by_cases hlt : k < n
      · obtain ⟨b, o, rfl, hb, hc⟩ := hs.at_ (by omega)
        obtain ⟨b', o', rfl, hb', hc'⟩ := hs'.at_ (by omega)
        have hc1 := hc k hlt
        have hc1' := hc' k hlt
        clear hc hc' hs hs' hl hl'
        by_cases heq : nth xs k = nth ys k
        · have HE := Lib.hid heq
          rw [← heq] at hc1'
          clear heq
          obtain ⟨x, hx⟩ : ∃ x, x = nth xs k := ⟨_, rfl⟩
          rw [← hx] at hc1 hc1'
          clear hx
          have hlI : (k : Int) < (n : Int) := by omega
          go_wp2_with fail
          go_quiet (fail)
          go_wp2
          go_roundw
          case rel => exact ⟨k + 1, by omega, by go_num, HD.out.drewN _, fun j hj => by
            rcases Nat.lt_or_ge j k with h | h
            · exact HA.out j h
            · obtain rfl : j = k := by omega
              exact HE.out⟩
          case measure => simp [intOf]; omega
        · have HE := Lib.hid heq
          obtain ⟨x, hx⟩ : ∃ x, x = nth xs k := ⟨_, rfl⟩
          obtain ⟨y, hy⟩ : ∃ y, y = nth ys k := ⟨_, rfl⟩
          rw [← hx] at hc1 heq
          rw [← hy] at hc1' heq
          clear hx hy
          have hlI : (k : Int) < (n : Int) := by omega
          have hb : (x != y) = true := by simpa using heq
          clear heq
          go_wp2_with fail
          go_quiet (fail)
          go_wp2
          go_ret
          exact ⟨ret_bool (eqL_ne HE.out).symm, HD.out.drewN _⟩
      · have hkn : k = n := by omega
        subst hkn
        go_wp2
        go_ret
        exact ⟨ret_bool (eqL_all (by omega) (by rw [hl]; exact HA.out)).symm, HD.out⟩
  · have hne' : ¬ (n : Int) = (n' : Int) := by omega
    go_enter Try.func187, Try.ntmps187
    go_wp2
    go_ret
    exact ⟨ret_bool (eqL_len (by omega)).symm, Drawn.refl _⟩

set_option maxHeartbeats 400000 in
/-- slices.Equal: are the two lists one. -/
theorem slicesEqual_any (A A' : Option Addr) (n c n' c' : Nat) (xs ys : List Int) (w : World) (hs : SI w A n xs) (hs' : SI w A' n' ys) (hn : n ≤ 1099511627776) (hn' : n' ≤ 1099511627776) :
    Calls Try.prog 147 #[.slice A n c, .slice A' n' c'] w fun e w' => e = .returned (.bool (eqL xs ys)) ∧ Drawn w w' := by
  have hl := hs.1
  have hl' := hs'.1
  by_cases hne : n = n'
  · subst hne
    go_enter Try.func147, Try.ntmps147
    go_wp2
    go_loopw [13] (fun i wr => ∃ k : Nat, k ≤ n ∧ i = .int .i64 k ∧ Drawn w wr ∧ ∀ j, j < k → nth xs j = nth ys j)
      (fun i _ => n - (intOf i).toNat)
    case atStart => exact ⟨0, Nat.zero_le _, rfl, Drawn.refl _, fun j hj => absurd hj (by omega)⟩
    case round =>
      obtain ⟨k, hk, rfl, hD, hall⟩ := hrel
      have HA := Lib.hid hall
      have hs := hD.si hs
      have hs' := hD.si hs'
      have HD := Lib.hid hD
      clear hall hD
      by_cases hlt : k < n
      · obtain ⟨b, o, rfl, hb, hc⟩ := hs.at_ (by omega)
        obtain ⟨b', o', rfl, hb', hc'⟩ := hs'.at_ (by omega)
        have hc1 := hc k hlt
        have hc1' := hc' k hlt
        clear hc hc' hs hs' hl hl'
        by_cases heq : nth xs k = nth ys k
        · have HE := Lib.hid heq
          rw [← heq] at hc1'
          clear heq
          obtain ⟨x, hx⟩ : ∃ x, x = nth xs k := ⟨_, rfl⟩
          rw [← hx] at hc1 hc1'
          clear hx
          have hlI : (k : Int) < (n : Int) := by omega
          go_wp2_with fail
          go_quiet (fail)
          go_wp2
          go_roundw
          case rel => exact ⟨k + 1, by omega, by go_num, HD.out.drewN _, fun j hj => by
            rcases Nat.lt_or_ge j k with h | h
            · exact HA.out j h
            · obtain rfl : j = k := by omega
              exact HE.out⟩
          case measure => simp [intOf]; omega
        · have HE := Lib.hid heq
          obtain ⟨x, hx⟩ : ∃ x, x = nth xs k := ⟨_, rfl⟩
          obtain ⟨y, hy⟩ : ∃ y, y = nth ys k := ⟨_, rfl⟩
          rw [← hx] at hc1 heq
          rw [← hy] at hc1' heq
          clear hx hy
          have hlI : (k : Int) < (n : Int) := by omega
          have hb : (x != y) = true := by simpa using heq
          clear heq
          go_wp2_with fail
          go_quiet (fail)
          go_wp2
          go_ret
          exact ⟨ret_bool (eqL_ne HE.out).symm, HD.out.drewN _⟩
      · have hkn : k = n := by omega
        subst hkn
        go_wp2
        go_ret
        exact ⟨ret_bool (eqL_all (by omega) (by rw [hl]; exact HA.out)).symm, HD.out⟩
  · have hne' : ¬ (n : Int) = (n' : Int) := by omega
    go_enter Try.func147, Try.ntmps147
    go_wp2
    go_ret
    exact ⟨ret_bool (eqL_len (by omega)).symm, Drawn.refl _⟩


/-- The number of the first term with the exponents e. -/
def coefOf : List Tm → List Int → Int
  | [], _ => 0
  | t :: r, e => if t.1 = e then t.2 else coefOf r e
theorem tm_zero (t : Tm) (r : List Tm) : tm (t :: r) 0 = t := rfl
theorem tm_succ (t : Tm) (r : List Tm) (k : Nat) : tm (t :: r) (k + 1) = tm r k := by simp [tm, List.getD]
theorem coef_none {e : List Int} : ∀ {ts : List Tm}, (∀ j, j < ts.length → ¬ (tm ts j).1 = e) → coefOf ts e = 0
  | [], _ => rfl
  | t :: r, h => by
    have h0 := h 0 (by simp)
    rw [tm_zero] at h0
    unfold coefOf
    rw [if_neg h0]
    exact coef_none fun j hj => by have := h (j + 1) (by simp; omega); rwa [tm_succ] at this
theorem coef_hit {e : List Int} : ∀ {ts : List Tm} {k : Nat}, k < ts.length → (∀ j, j < k → ¬ (tm ts j).1 = e) → (tm ts k).1 = e → coefOf ts e = (tm ts k).2
  | [], k, hk, _, _ => absurd hk (by simp)
  | t :: r, 0, _, _, he => by
    rw [tm_zero] at he ⊢
    unfold coefOf
    rw [if_pos he]
  | t :: r, k + 1, hk, h, he => by
    have h0 := h 0 (by omega)
    rw [tm_zero] at h0
    rw [tm_succ] at he ⊢
    unfold coefOf
    rw [if_neg h0]
    exact coef_hit (by simpa using hk) (fun j hj => by have := h (j + 1) (by omega); rwa [tm_succ] at this) he

end Go.Proofs.Ytjpoliibljjhnaa

/-
  The degree of a polynomial, on both sides. Conditions: lengths below 2^40.
-/

namespace Go.Proofs.Ytjpoliibljjhnaa
open Go.RowKit

theorem sumN_small {e : List Int} (h7 : e.length = 7) (hs : smallE e = true) : ∀ k, k ≤ 7 → 0 ≤ sumN e k ∧ sumN e k ≤ 24 * (k : Int) := by
  intro k
  induction k with
  | zero => intro _; exact ⟨Int.le_refl _, by simp [sumN]⟩
  | succ k ih =>
    intro hk
    obtain ⟨h1, h2⟩ := ih (by omega)
    have := smallE_nth hs (k := k) (by omega)
    have e : sumN e (k + 1) = sumN e k + nth e k := rfl
    rw [e]
    omega
/-- The greatest degree among the first k terms; -1 if there is none. -/
def degN (ts : List Tm) : Nat → Int
  | 0 => -1
  | k + 1 => if degN ts k < sumN (tm ts k).1 7 then sumN (tm ts k).1 7 else degN ts k
def degPoly (ts : List Tm) : Int := if polyB ts = true then degN ts ts.length else -1
theorem degPoly_no {ts : List Tm} (h : polyB ts = false) : degPoly ts = -1 := by unfold degPoly; rw [if_neg (by rw [h]; decide)]
theorem degPoly_yes {ts : List Tm} (h : polyB ts = true) : degPoly ts = degN ts ts.length := by unfold degPoly; rw [if_pos h]

end Go.Proofs.Ytjpoliibljjhnaa

/-
  The part of a degree, by the document's side: a list of terms that grows by a copy of a term. Conditions: lengths below 2^40.
-/






namespace Go.Proofs.Ytjpoliibljjhnaa
open Go.RowKit

/-- The terms of degree d among the first k. -/
def partL (ts : List Tm) (d : Int) : Nat → List Tm
  | 0 => []
  | k + 1 => if sumN (tm ts k).1 7 = d then partL ts d k ++ [((tm ts k).1, (tm ts k).2)] else partL ts d k
def partPoly (ts : List Tm) (d : Int) : List Tm := if polyB ts = true then partL ts d ts.length else []
theorem partPoly_no {ts : List Tm} {d : Int} (h : polyB ts = false) : partPoly ts d = [] := by unfold partPoly; rw [if_neg (by rw [h]; decide)]
theorem partPoly_yes {ts : List Tm} {d : Int} (h : polyB ts = true) : partPoly ts d = partL ts d ts.length := by unfold partPoly; rw [if_pos h]
theorem partL_len (ts : List Tm) (d : Int) : ∀ k, (partL ts d k).length ≤ k
  | 0 => Nat.le_refl _
  | k + 1 => by
    have := partL_len ts d k
    unfold partL
    split
    · rw [List.length_append]; simp; omega
    · omega
end Go.Proofs.Ytjpoliibljjhnaa

/-
  A number of times added to a class of a list: the model and the document's l3Add. Conditions: at most 1000 classes, short permutations, counts of at most 10^12.
-/






namespace Go.Proofs.Ytjpoliibljjhnaa
open Go.RowKit Cls

def addC (v : List Int) (m : Int) : List Tm → List Tm
  | [] => [(v, m)]
  | t :: r => if lessL t.1 v = true then t :: addC v m r else if t.1 = v then (if t.2 + m = 0 then r else (v, t.2 + m) :: r) else (v, m) :: t :: r
theorem addC_take {v : List Int} {m : Int} : ∀ (ts : List Tm) (i : Nat), i ≤ ts.length → (∀ j, j < i → lessL (tm ts j).1 v = true) → addC v m ts = ts.take i ++ addC v m (ts.drop i)
  | ts, 0, _, _ => by simp
  | [], i + 1, h, _ => by simp at h
  | t :: r, i + 1, h, h1 => by
    have h0 : lessL t.1 v = true := h1 0 (by omega)
    have ih := addC_take (v := v) (m := m) r i (by simpa using h) (fun j hj => h1 (j + 1) (by omega))
    show (if lessL t.1 v = true then t :: addC v m r else _) = _
    rw [if_pos h0, ih]; rfl
theorem tm_drop {ts : List Tm} {i : Nat} (h : i < ts.length) : ts.drop i = tm ts i :: ts.drop (i + 1) := by
  rw [List.drop_eq_getElem_cons h]
  congr 1
  simp [tm, List.getD, h]
theorem tm_take {ts : List Tm} {i : Nat} (h : i < ts.length) : ts.take (i + 1) = ts.take i ++ [tm ts i] := by
  rw [List.take_succ_eq_append_getElem h]
  simp [tm, List.getD, h]
theorem addC_same {v : List Int} {m : Int} {t : Tm} {r : List Tm} (h1 : lessL t.1 v = false) (h2 : t.1 = v) : addC v m (t :: r) = if t.2 + m = 0 then r else (v, t.2 + m) :: r := by
  rw [addC, if_neg (by rw [h1]; decide), if_pos h2]
theorem addC_new {v : List Int} {m : Int} {t : Tm} {r : List Tm} (h1 : lessL t.1 v = false) (h2 : ¬ t.1 = v) : addC v m (t :: r) = (v, m) :: t :: r := by
  rw [addC, if_neg (by rw [h1]; decide), if_neg h2]
theorem less_next {ts : List Tm} {v : List Int} {k : Nat} (h : ∀ j, j < k → lessL (tm ts j).1 v = true) (hk : lessL (tm ts k).1 v = true) : ∀ j, j < k + 1 → lessL (tm ts j).1 v = true := fun j hj => by
  rcases Nat.lt_or_ge j k with h' | h'
  · exact h j h'
  · obtain rfl : j = k := by omega
    exact hk
/-- A class more behind them, its permutation in a block of its own. -/
theorem Cls.OwnEC.appB {E : Nat → Sv} {w w' : World} {lo hi n c : Nat} {A : Option Addr} {ts : List Tm} (h : OwnEC E w lo hi A n c ts) {lo2 hi2 n2 c2 : Nat} {A2 : Option Addr} {xs : List Int} (x : Int) (hx : Own w lo2 hi2 A2 n2 c2 xs)
    (hlo : lo2 ≤ lo) (hd : hi2 ≤ lo) {H g cap : Nat} (hH : hi2 ≤ H) (hHh : hi ≤ H) (hHw : H ≤ w.heap.size)
    (ho : w'.ownsRow lo 117 2 (.slice (some ⟨g, 0, none⟩) (n + 1) cap) (n + 1) (cells2 n (fun k => (sv (E k), .int .i64 (tm ts k).2)) ++ [.slice A2 n2 c2, .int .i64 x]))
    (hg : w.grownBy w' (Value.slice A n c).ownBlock) (hat : (Value.slice A n c).ownBlock = some g ∨ H ≤ g) (hlt : g < w'.heap.size) : OwnTC w' lo2 w'.heap.size (some ⟨g, 0, none⟩) (n + 1) cap (ts ++ [(xs, x)]) := by
  obtain ⟨h1, h2, h3, h4, h5, h6⟩ := h
  have hsz := hg.size
  have hAlo : ∀ b, (Value.slice A n c).ownBlock = some b → lo ≤ b := fun b hb => (h2.lt b hb).1
  rw [cells2_app] at ho
  have eE : ∀ j, j < n → (if j = n then ((A2, n2, c2) : Sv) else E j) = E j := fun j hj => by rw [if_neg (by omega)]
  have eN : (if n = n then ((A2, n2, c2) : Sv) else E n) = (A2, n2, c2) := if_pos rfl
  have ho2 : w'.ownsRow lo2 117 2 (.slice (some ⟨g, 0, none⟩) (n + 1) cap) (n + 1) (cells2 (n + 1) (fun j => if j = n then (.slice A2 n2 c2, .int .i64 x) else (sv (E j), .int .i64 (tm ts j).2))) := by
    refine ⟨ho.1, ?_⟩
    rcases ho.2 with h' | ⟨g, cap, cur, e, hlo', rest⟩
    · exact Or.inl h'
    · exact Or.inr ⟨g, cap, cur, e, by omega, rest⟩
  refine ⟨fun j => if j = n then (A2, n2, c2) else E j, by simp [h1], row_eqC ho2 (cells2_congr fun j hj => ?_), ?_, ?_, ?_, ?_⟩
  · by_cases e : j = n
    · subst e
      have := @tm_app_at ts (xs, x)
      rw [h1] at this
      rw [if_pos rfl]
      show (Value.slice A2 n2 c2, Value.int .i64 x) = (sv (if j = j then ((A2, n2, c2) : Sv) else E j), Value.int .i64 (tm (ts ++ [(xs, x)]) j).2)
      rw [eN, this]; rfl
    · rw [if_neg e]
      show _ = (sv (if j = n then ((A2, n2, c2) : Sv) else E j), Value.int .i64 (tm (ts ++ [(xs, x)]) j).2)
      rw [eE j (by omega), tm_app_lt (by rw [h1]; omega)]
  · intro k hk
    simp [Value.ownBlock] at hk
    omega
  · intro j hj
    by_cases e : j = n
    · subst e
      have := @tm_app_at ts (xs, x)
      rw [h1] at this
      rw [this]
      show Own w' lo2 w'.heap.size (if j = j then ((A2, n2, c2) : Sv) else E j).1 (if j = j then ((A2, n2, c2) : Sv) else E j).2.1 (if j = j then ((A2, n2, c2) : Sv) else E j).2.2 xs
      rw [eN]
      exact (hx.kept hg (fun b hb e => by have h7 := hx.lt b hb; have h8 := hAlo b e; omega)).wide (Nat.le_refl _) (by omega)
    · rw [tm_app_lt (by rw [h1]; omega)]
      show Own w' lo2 w'.heap.size (if j = n then ((A2, n2, c2) : Sv) else E j).1 (if j = n then ((A2, n2, c2) : Sv) else E j).2.1 (if j = n then ((A2, n2, c2) : Sv) else E j).2.2 _
      rw [eE j (by omega)]
      exact ((h4 j (by omega)).kept hg (fun b hb e => h5 j b (by omega) hb e)).wide hlo (by omega)
  · intro j b hj hb e2
    have hbg : b = g := by simp [Value.ownBlock] at e2; omega
    subst hbg
    have hb' : (sv (if j = n then ((A2, n2, c2) : Sv) else E j)).ownBlock = some b := hb
    by_cases e : j = n
    · subst e
      rw [eN] at hb'
      have h7 := hx.lt b hb'
      rcases hat with ha | ha
      · have := hAlo b ha; omega
      · omega
    · rw [eE j (by omega)] at hb'
      rcases hat with ha | ha
      · exact h5 j b (by omega) hb' ha
      · have := (h4 j (by omega)).lt b hb'; omega
  · intro i j b hij hj hb hb2
    have hb' : (sv (if i = n then ((A2, n2, c2) : Sv) else E i)).ownBlock = some b := hb
    have hb2' : (sv (if j = n then ((A2, n2, c2) : Sv) else E j)).ownBlock = some b := hb2
    rw [eE i (by omega)] at hb'
    by_cases e : j = n
    · subst e
      rw [eN] at hb2'
      have h7 := hx.lt b hb2'
      have h8 := (h4 i (by omega)).lt b hb'
      omega
    · rw [eE j (by omega)] at hb2'
      exact h6 i j b hij (by omega) hb' hb2'
/-- 'out = append(out, Class{..})', the permutation's block below the list's. -/
theorem wpList_appendCB {ops : Array Oper} {rest : List Oper} {o : Oper} {a : Act} {w : World} {Q : Exit → Act → World → Prop} (hgd : o.guard = none) (s x : Operand)
    (ho : o.op = .call { callee := .builtin .append, args := #[s, x], argTypes := #[44, 44] })
    (lo hi : Nat) (A : Option Addr) (n c : Nat) (ts : List Tm) (lo2 hi2 : Nat) (A3 : Option Addr) (n3 c3 : Nat) (xs : List Int) (z : Int) (hs : a.eval s = .slice A n c) (hx : a.eval x = .slice (some ⟨w.heap.size, 0, none⟩) 1 1)
    (hown : OwnTC w lo hi A n c ts) (hxs : Own w lo2 hi2 A3 n3 c3 xs) (hlo : lo2 ≤ lo) (hd : hi2 ≤ lo) (h1 : hi2 ≤ w.heap.size) (h2 : hi ≤ w.heap.size) (h3 : lo ≤ w.heap.size) (hn : n ≤ 1099511627776)
    (hK : ∀ A' c' w', OwnTC w' lo2 w'.heap.size A' (n + 1) c' (ts ++ [(xs, z)]) → Below lo w w' → wpList Try.prog ops Q rest (a.put o.dst (.slice A' (n + 1) c')) w') :
    wpList Try.prog ops Q (o :: rest) a (w.alloc (.cells #[.slice A3 n3 c3, .int .i64 z] 117)) := by
  obtain ⟨i0, hi0, hz0, hz1, hz2⟩ := info_parts Cls.Try.infoTermZC
  obtain ⟨E, hE⟩ := hown.named
  have hb0 : Below w.heap.size w (w.alloc (.cells #[.slice A3 n3 c3, .int .i64 z] 117)) := (Below.refl w.heap.size w).alloc (Nat.le_refl _) _
  have hE' := hE.below hb0 h2
  have hx' := hxs.below hb0 h1
  refine Go.wpList_append_own_at _ hgd s x 44 ho lo 117 i0 _ 2 32 Try.underlying44 hi0 hz0 hz1 hz2 rfl (by decide) _ _ _ hs hE'.2.1 ⟨w.heap.size, 0, none⟩ 1 1 [.slice A3 n3 c3, .int .i64 z] hx rfl ?_ ?_ (by unfold maxLen; omega) (by omega) (by simp; omega) ?_
  · exact World.news_of_block (cs := #[.slice A3 n3 c3, .int .i64 z]) (t := 117) (fr := (0, 0)) (heap_alloc_new w _)
  · intro u hu
    simp at hu
    rcases hu with rfl | rfl <;> rfl
  · intro v' w1 ho1 hg1 _ hat
    obtain ⟨g, cap, rfl, _, hlt⟩ := ho1.form (by omega)
    have hh := hE'.appB z hx' hlo hd (H := w.heap.size) h1 h2 (by simp) ho1 hg1 (by
      rcases hat with h | h
      · exact .inl (by rw [← h]; rfl)
      · right
        simp [Value.ownBlock] at h
        omega) hlt
    exact hK _ _ w1 hh ((hb0.mono h3).trans (grow_below hg1 (by simp; omega) (fun k hk => (hE'.2.1.lt k hk).1)))
set_option maxRecDepth 100000 in
set_option maxHeartbeats 8000000 in
theorem l3Add_any (A B : Option Addr) (n c nv cv : Nat) (ts : List Tm) (v0 : List Int) (mm : Int) (w : World) (hs : TS w A n ts) (hv : SI w B nv v0) (hnv : 1 ≤ nv ∧ nv ≤ 7) (hcv : nv ≤ cv) (hn : n ≤ 1000) (hne : ∀ k, k < n → (tm ts k).1.length ≤ 1000) (hct : ∀ k, k < n → -1000000000000 ≤ (tm ts k).2 ∧ (tm ts k).2 ≤ 1000000000000) (hm : ¬ mm = 0) (hmb : -1000000000000 ≤ mm ∧ mm ≤ 1000000000000) :
    Calls Try.prog 106 #[.slice A n c, .slice B nv cv, .int .i64 mm] w fun e w' => FreshTC w w' e (addC (v0.take (trimN v0 nv)) mm ts) := by
  have HTR := Lib.hid (l1Trim_any B nv cv v0 w hv hcv hnv.1 (by omega))
  have HVL : Hid ((v0.take (trimN v0 nv)).length ≤ 7) := Lib.hid (by rw [List.length_take]; have := hv.1; omega)
  obtain ⟨v, hve⟩ : ∃ v, v = v0.take (trimN v0 nv) := ⟨_, rfl⟩
  rw [← hve] at HTR HVL ⊢
  have HL := Lib.hid hs.1
  have HS := Lib.hid hs
  have HNE := Lib.hid hne
  have HCT := Lib.hid hct
  have hmI : (mm == 0) = false := by simpa using hm
  obtain ⟨i0, hi0, hz0, hz1, hz2⟩ := info_parts Cls.Try.infoTermZC
  have HI := Lib.hid (And.intro hi0 (And.intro hz0 (And.intro hz1 hz2)))
  clear hs hv hve hne hct hi0 hz0 hz1 hz2
  go_enter Try.func106, Try.ntmps106
  go_upto_region 3 with (first
    | (go_at_call 194; (with_reducible refine HTR.out.mono ?_); rintro e w1 ⟨Bv, nw, cw, rfl, hov, hbv⟩
       have HOV := Lib.hid hov
       have HBV := Lib.hid hbv
       have HNW : Hid (nw ≤ 7) := Lib.hid (by rw [← hov.len]; exact HVL.out)
       clear hov hbv))
  obtain ⟨wz, hwz⟩ : ∃ wz, wz = w1.alloc (.cells #[] 117) := ⟨_, rfl⟩
  have HBZ : Hid (Below w.heap.size w wz) := Lib.hid (by rw [hwz]; exact HBV.out.alloc HBV.out.size _)
  have HB1Z : Hid (Below w1.heap.size w1 wz) := Lib.hid (by rw [hwz]; exact Below.alloc_self _ _)
  have HOZ : Hid (OwnTC wz w1.heap.size wz.heap.size (some ⟨w1.heap.size, 0, none⟩) 0 0 []) := Lib.hid (by rw [hwz]; exact (OwnTC.empty w1).wide (Nat.le_refl _) (by simp))
  have HWW : Hid (w.heap.size ≤ w1.heap.size) := Lib.hid HBV.out.size
  rw [← hwz]
  clear hwz
  go_wp2_with fail
  go_loopw [8, 9, 10] (fun ov dv iv wr => ∃ (k m : Nat) (A' : Option Addr) (c' : Nat) (dn : Bool) (zs : List Tm), k ≤ n ∧ iv = .int .i64 k ∧ dv = .bool dn ∧ ov = .slice A' m c' ∧ (dn = false → zs = ts.take k ∧ (∀ j, j < k → lessL (tm ts j).1 v = true) ∧ OwnTC wr w1.heap.size wr.heap.size A' m c' zs ∧ Below w1.heap.size w1 wr) ∧ (dn = true → zs ++ ts.drop k = addC v mm ts ∧ OwnTC wr w.heap.size wr.heap.size A' m c' zs) ∧ m ≤ k + 1 ∧ Below w.heap.size w wr)
    (fun _ _ iv _ => n - (intOf iv).toNat)
  case atStart => exact ⟨0, 0, _, 0, false, [], Nat.zero_le _, rfl, rfl, rfl, fun _ => ⟨by simp, fun j hj => absurd hj (by omega), HOZ.out, HB1Z.out⟩, (fun h => by cases h), by omega, HBZ.out⟩
  case round =>
    obtain ⟨k, m, A', c', dn, zs, hk, rfl, rfl, rfl, hF, hT, hmk, hb⟩ := hrel
    clear HOZ HBZ HB1Z
    have HB := Lib.hid hb
    clear hb
    have HMK := Lib.hid hmk
    by_cases hlt : k < n
    · have hlI : (k : Int) < (n : Int) := by omega
      have HKN := Lib.hid hlt
      obtain ⟨b, o, A2, n2, c2, rfl, hbw, hw0, hw1, hsw, _, _⟩ := HS.out.at_ hlt
      have HSX : Hid (∀ u, Below w.heap.size w u → SI u A2 n2 (tm ts k).1) := Lib.hid (fun u hu => hsw.below hu (Nat.le_refl _))
      have hc0 : wr.cell? ⟨b, o + k * 2, none⟩ = some (.slice A2 n2 c2) := (Below.cell HB.out (p := ⟨b, o + k * 2, none⟩) hbw).trans hw0
      have hc1 : wr.cell? ⟨b, o + k * 2 + 1, none⟩ = some (.int .i64 (tm ts k).2) := (Below.cell HB.out (p := ⟨b, o + k * 2 + 1, none⟩) hbw).trans hw1
      have hsi := HSX.out wr HB.out
      have hn2 : n2 ≤ 1000 := by rw [← hsi.1]; exact HNE.out k hlt
      clear hw0 hw1 hsw
      obtain ⟨z, hz⟩ : ∃ z, z = (tm ts k).2 := ⟨_, rfl⟩
      rw [← hz] at hc1
      have HZ := Lib.hid hz
      have hzb := HCT.out k hlt
      rw [← hz] at hzb
      have HTM : Hid (ts.drop k = ((tm ts k).1, z) :: ts.drop (k + 1)) := Lib.hid (by rw [tm_drop (by rw [HL.out]; exact hlt), HZ.out])
      have HSI := Lib.hid hsi
      have HCC := Lib.hid (And.intro hc0 hc1)
      have HBL := Lib.hid hbw
      clear hsi hz hbw
      cases dn with
      | true =>
        obtain ⟨hq, ho⟩ := hT rfl
        have HQE := Lib.hid hq
        have HOQ := Lib.hid ho
        clear hF hT hq ho
        obtain ⟨wq, rfl⟩ : ∃ wq, wq = wr := ⟨wr, rfl⟩
        have HQ := HCC
        have HSQ := HSI
        have HLOQ : Hid (w.heap.size ≤ wq.heap.size) := Lib.hid HB.out.size
        have HBQ : Hid (b < wq.heap.size) := Lib.hid (Nat.lt_of_lt_of_le HBL.out HB.out.size)
        have HBLO : Hid (b < w.heap.size) := HBL
        clear hc0 hc1
        go_upto_region 13 with fail
        have q0 : wq.cell? ⟨b, o + k * 2, none⟩ = some (.slice A2 n2 c2) := HQ.out.1
        have q1 : wq.cell? ⟨b, o + k * 2 + 1, none⟩ = some (.int .i64 z) := HQ.out.2
        have HSD : Hid (SI wq.drew A2 n2 (tm ts k).1) := Lib.hid (HSQ.out.below ((Below.refl wq.heap.size wq).drew) (Nat.le_refl _))
        have HOD : Hid (OwnTC wq.drew w.heap.size wq.heap.size A' m c' (zs)) := Lib.hid (HOQ.out.below ((Below.refl wq.heap.size wq).drew) (Nat.le_refl _))
        go_wp2_with fail
        go_region_held3 (fun w' => w'.cell? ⟨b, o + k * 2, none⟩ = some (.slice A2 n2 c2) ∧ w'.cell? ⟨b, o + k * 2 + 1, none⟩ = some (.int .i64 z))
          (first | go_keep | exact K3 | exact K5)
          (first
            | (refine (l1Ints_any A2 n2 c2 (tm ts k).1 wq.drew HSD.out (by omega)).mono ?_
               rintro r3 w3 ⟨A3, n3, c3, rfl, ho3, hb3⟩
               have K3 : w3.cell? ⟨b, o + k * 2, none⟩ = some (.slice A2 n2 c2) ∧ w3.cell? ⟨b, o + k * 2 + 1, none⟩ = some (.int .i64 z) :=
                 ⟨by rw [Below.cell hb3 (p := ⟨b, o + k * 2, none⟩) (by show b < wq.heap.size; have := HBQ.out; omega)]; exact q0, by rw [Below.cell hb3 (p := ⟨b, o + k * 2 + 1, none⟩) (by show b < wq.heap.size; have := HBQ.out; omega)]; exact q1⟩
               obtain ⟨E, hE3⟩ := (HOD.out.below hb3 (Nat.le_refl _)).named
               obtain rfl : n2 = n3 := by have := ho3.len; have := HSD.out.1; omega
               have HE3 := Lib.hid hE3
               have HO3 := Lib.hid ho3
               have HB3 := Lib.hid hb3
               have hw3 : wq.heap.size ≤ w3.heap.size := hb3.size
               clear hE3 ho3 hb3)
            | (refine step_append_lies _ (by rfl) (.tmp 67) (.tmp 80) 44 (by rfl) w.heap.size 117 i0 _ 2 32 Try.underlying44 HI.out.1 HI.out.2.1 HI.out.2.2.1 HI.out.2.2.2 rfl (by omega) (.slice A' m c') m _ (by rfl) (HE3.out.2.1.alloc _)
                 ⟨w3.heap.size, 0, none⟩ 1 1 [.slice A3 n2 c3, .int .i64 z] (by rfl) (by rfl) (World.news_of_block (cs := #[.slice A3 n2 c3, .int .i64 z]) (t := 117) (fr := (0, 0)) (heap_alloc_new w3 _)) (by simp [Value.oneCell'])
                 (by omega) (by unfold maxLen; omega) (by omega) (by have := HLOQ.out; simp; omega) (w3.heap.size + 1) (by simp) ?_
               intro g cap w5 hrow5 hgrow hat hlt5
               have HR5 := Lib.hid hrow5
               have HG5 := Lib.hid hgrow
               have HA5 := Lib.hid hat
               have K5 : w5.cell? ⟨b, o + k * 2, none⟩ = some (.slice A2 n2 c2) ∧ w5.cell? ⟨b, o + k * 2 + 1, none⟩ = some (.int .i64 z) := by
                 have hbq := HBQ.out
                 have hne : some b ≠ (Value.slice A' m c').ownBlock := fun e => by have := HE3.out.2.1.lt b e.symm; have := HBLO.out; omega
                 exact ⟨by rw [hgrow.cell_far ⟨b, o + k * 2, none⟩ (by simp; omega) hne]; exact (Below.cell ((Below.refl w3.heap.size w3).alloc (Nat.le_refl _) _) (p := ⟨b, o + k * 2, none⟩) (by show b < w3.heap.size; omega)).trans K3.1, by rw [hgrow.cell_far ⟨b, o + k * 2 + 1, none⟩ (by simp; omega) hne]; exact (Below.cell ((Below.refl w3.heap.size w3).alloc (Nat.le_refl _) _) (p := ⟨b, o + k * 2 + 1, none⟩) (by show b < w3.heap.size; omega)).trans K3.2⟩
               clear hrow5 hgrow hat))
        have hE4 := HE3.out.below ((Below.refl w3.heap.size w3).alloc (Nat.le_refl _) (.cells #[.slice A3 n2 c3, .int .i64 z] 117)) (by have := hw3; show wq.heap.size ≤ w3.heap.size; omega)
        have hx4 := HO3.out.below ((Below.refl w3.heap.size w3).alloc (Nat.le_refl _) (.cells #[.slice A3 n2 c3, .int .i64 z] 117)) (Nat.le_refl _)
        have h5 := hE4.app z hx4 (by have := HLOQ.out; show w.heap.size ≤ wq.heap.size; omega) (by show wq.heap.size ≤ wq.heap.size; omega) (H := w3.heap.size) (Nat.le_refl _) (by show wq.heap.size ≤ w3.heap.size; omega) (by simp) HR5.out HG5.out (HA5.out.imp id (fun h => by omega)) hlt5
        have HO5 := Lib.hid h5
        have hb5 : Below w.heap.size wq w5 := by
          have hlq := HLOQ.out
          have g2 : Below w.heap.size wq w3 := ((Below.refl w.heap.size wq).drew).trans (HB3.out.mono (by show w.heap.size ≤ wq.heap.size; omega))
          have g3 := g2.alloc (by omega) (.cells #[.slice A3 n2 c3, .int .i64 z] 117)
          exact g3.trans (grow_below HG5.out (by simp; omega) (fun b hb => (HE3.out.2.1.lt b hb).1))
        have HB5 := Lib.hid hb5
        clear hE4 hx4 h5 hb5 K3 K5
        go_wp2
        go_roundw
        case rel => exact ⟨k + 1, m + 1, _, cap, true, _, by have := HKN.out; omega, by go_num, rfl, rfl, (fun h => by cases h), fun _ => ⟨by rw [List.append_assoc, List.singleton_append, ← HTM.out]; exact HQE.out, HO5.out⟩, by have := HMK.out; omega, HB.out.trans HB5.out⟩
        case measure => have := HKN.out; simp [intOf]; omega
      | false =>
        obtain ⟨hq, hall, ho, hb1⟩ := hF rfl
        have HB1 := Lib.hid hb1
        have HMK0 : Hid (m = k) := Lib.hid (by rw [← ho.len, hq, List.length_take, HL.out]; omega)
        have HQE := Lib.hid hq
        have HALL := Lib.hid hall
        have HO := Lib.hid ho
        clear hF hT hq hall ho hb1
        have HOVr : Hid (Own wr w.heap.size w1.heap.size Bv nw cw v) := Lib.hid (HOV.out.below HB1.out (Nat.le_refl _))
        have HLE := Lib.hid (l1Less_any A2 Bv n2 c2 nw cw (tm ts k).1 v wr HSI.out HOVr.out.si (by omega) (by have := HNW.out; omega))
        by_cases hls : lessL (tm ts k).1 v = true
        · have HLS := Lib.hid hls
          rw [hls] at HLE
          clear hls
          go_upto_region 13 with (go_at_call 186; (with_reducible refine HLE.out.mono ?_); rintro e wq ⟨rfl, hd1⟩; have HD1 := Lib.hid hd1; clear hd1)
          have HQ : Hid (wq.cell? ⟨b, o + k * 2, none⟩ = some (.slice A2 n2 c2) ∧ wq.cell? ⟨b, o + k * 2 + 1, none⟩ = some (.int .i64 z)) := Lib.hid ⟨(Below.cell (HD1.out.below wr.heap.size) (p := ⟨b, o + k * 2, none⟩) (Nat.lt_of_lt_of_le HBL.out HB.out.size)).trans HCC.out.1, (Below.cell (HD1.out.below wr.heap.size) (p := ⟨b, o + k * 2 + 1, none⟩) (Nat.lt_of_lt_of_le HBL.out HB.out.size)).trans HCC.out.2⟩
          have HSQ : Hid (SI wq A2 n2 (tm ts k).1) := Lib.hid (HD1.out.si HSI.out)
          have hzq : wq.heap.size = wr.heap.size := by rw [HD1.out.heap]
          have HOQ : Hid (OwnTC wq w1.heap.size wq.heap.size A' m c' zs) := Lib.hid (by rw [hzq]; exact HO.out.drawn HD1.out)
          have HLOQ : Hid (w1.heap.size ≤ wq.heap.size) := Lib.hid (by rw [hzq]; exact HB1.out.size)
          have HBQ : Hid (b < wq.heap.size) := Lib.hid (by rw [hzq]; exact Nat.lt_of_lt_of_le HBL.out HB.out.size)
          have HBLO : Hid (b < w1.heap.size) := Lib.hid (Nat.lt_of_lt_of_le HBL.out HWW.out)
          have HDB : Hid (Below wr.heap.size wr wq) := Lib.hid (HD1.out.below _)
          clear hc0 hc1 hzq
          have q0 : wq.cell? ⟨b, o + k * 2, none⟩ = some (.slice A2 n2 c2) := HQ.out.1
          have q1 : wq.cell? ⟨b, o + k * 2 + 1, none⟩ = some (.int .i64 z) := HQ.out.2
          have HSD : Hid (SI wq.drew A2 n2 (tm ts k).1) := Lib.hid (HSQ.out.below ((Below.refl wq.heap.size wq).drew) (Nat.le_refl _))
          have HOD : Hid (OwnTC wq.drew w1.heap.size wq.heap.size A' m c' (zs)) := Lib.hid (HOQ.out.below ((Below.refl wq.heap.size wq).drew) (Nat.le_refl _))
          go_wp2_with fail
          go_region_held3 (fun w' => w'.cell? ⟨b, o + k * 2, none⟩ = some (.slice A2 n2 c2) ∧ w'.cell? ⟨b, o + k * 2 + 1, none⟩ = some (.int .i64 z))
            (first | go_keep | exact K3 | exact K5)
            (first
              | (refine (l1Ints_any A2 n2 c2 (tm ts k).1 wq.drew HSD.out (by omega)).mono ?_
                 rintro r3 w3 ⟨A3, n3, c3, rfl, ho3, hb3⟩
                 have K3 : w3.cell? ⟨b, o + k * 2, none⟩ = some (.slice A2 n2 c2) ∧ w3.cell? ⟨b, o + k * 2 + 1, none⟩ = some (.int .i64 z) :=
                   ⟨by rw [Below.cell hb3 (p := ⟨b, o + k * 2, none⟩) (by show b < wq.heap.size; have := HBQ.out; omega)]; exact q0, by rw [Below.cell hb3 (p := ⟨b, o + k * 2 + 1, none⟩) (by show b < wq.heap.size; have := HBQ.out; omega)]; exact q1⟩
                 obtain ⟨E, hE3⟩ := (HOD.out.below hb3 (Nat.le_refl _)).named
                 obtain rfl : n2 = n3 := by have := ho3.len; have := HSD.out.1; omega
                 have HE3 := Lib.hid hE3
                 have HO3 := Lib.hid ho3
                 have HB3 := Lib.hid hb3
                 have hw3 : wq.heap.size ≤ w3.heap.size := hb3.size
                 clear hE3 ho3 hb3)
              | (refine step_append_lies _ (by rfl) (.tmp 67) (.tmp 80) 44 (by rfl) w1.heap.size 117 i0 _ 2 32 Try.underlying44 HI.out.1 HI.out.2.1 HI.out.2.2.1 HI.out.2.2.2 rfl (by omega) (.slice A' m c') m _ (by rfl) (HE3.out.2.1.alloc _)
                   ⟨w3.heap.size, 0, none⟩ 1 1 [.slice A3 n2 c3, .int .i64 z] (by rfl) (by rfl) (World.news_of_block (cs := #[.slice A3 n2 c3, .int .i64 z]) (t := 117) (fr := (0, 0)) (heap_alloc_new w3 _)) (by simp [Value.oneCell'])
                   (by omega) (by unfold maxLen; omega) (by omega) (by have := HLOQ.out; simp; omega) (w3.heap.size + 1) (by simp) ?_
                 intro g cap w5 hrow5 hgrow hat hlt5
                 have HR5 := Lib.hid hrow5
                 have HG5 := Lib.hid hgrow
                 have HA5 := Lib.hid hat
                 have K5 : w5.cell? ⟨b, o + k * 2, none⟩ = some (.slice A2 n2 c2) ∧ w5.cell? ⟨b, o + k * 2 + 1, none⟩ = some (.int .i64 z) := by
                   have hbq := HBQ.out
                   have hne : some b ≠ (Value.slice A' m c').ownBlock := fun e => by have := HE3.out.2.1.lt b e.symm; have := HBLO.out; omega
                   exact ⟨by rw [hgrow.cell_far ⟨b, o + k * 2, none⟩ (by simp; omega) hne]; exact (Below.cell ((Below.refl w3.heap.size w3).alloc (Nat.le_refl _) _) (p := ⟨b, o + k * 2, none⟩) (by show b < w3.heap.size; omega)).trans K3.1, by rw [hgrow.cell_far ⟨b, o + k * 2 + 1, none⟩ (by simp; omega) hne]; exact (Below.cell ((Below.refl w3.heap.size w3).alloc (Nat.le_refl _) _) (p := ⟨b, o + k * 2 + 1, none⟩) (by show b < w3.heap.size; omega)).trans K3.2⟩
                 clear hrow5 hgrow hat))
          have hE4 := HE3.out.below ((Below.refl w3.heap.size w3).alloc (Nat.le_refl _) (.cells #[.slice A3 n2 c3, .int .i64 z] 117)) (by have := hw3; show wq.heap.size ≤ w3.heap.size; omega)
          have hx4 := HO3.out.below ((Below.refl w3.heap.size w3).alloc (Nat.le_refl _) (.cells #[.slice A3 n2 c3, .int .i64 z] 117)) (Nat.le_refl _)
          have h5 := hE4.app z hx4 (by have := HLOQ.out; show w1.heap.size ≤ wq.heap.size; omega) (by show wq.heap.size ≤ wq.heap.size; omega) (H := w3.heap.size) (Nat.le_refl _) (by show wq.heap.size ≤ w3.heap.size; omega) (by simp) HR5.out HG5.out (HA5.out.imp id (fun h => by omega)) hlt5
          have HO5 := Lib.hid h5
          have hb5 : Below w1.heap.size wq w5 := by
            have hlq := HLOQ.out
            have g2 : Below w1.heap.size wq w3 := ((Below.refl w1.heap.size wq).drew).trans (HB3.out.mono (by show w1.heap.size ≤ wq.heap.size; omega))
            have g3 := g2.alloc (by omega) (.cells #[.slice A3 n2 c3, .int .i64 z] 117)
            exact g3.trans (grow_below HG5.out (by simp; omega) (fun b hb => (HE3.out.2.1.lt b hb).1))
          have HB5 := Lib.hid hb5
          clear hE4 hx4 h5 hb5 K3 K5
          go_wp2
          go_roundw
          case rel => exact ⟨k + 1, m + 1, _, cap, false, zs ++ [((tm ts k).1, z)], by have := HKN.out; omega, by go_num, rfl, rfl, fun _ => ⟨by rw [HQE.out, tm_take (by rw [HL.out]; exact HKN.out), HZ.out], less_next HALL.out HLS.out, HO5.out, HB1.out.trans ((HDB.out.mono HB1.out.size).trans HB5.out)⟩, (fun h => by cases h), by have := HMK.out; omega, HB.out.trans ((HDB.out.mono HB.out.size).trans (HB5.out.mono HWW.out))⟩
          case measure => have := HKN.out; simp [intOf]; omega
        · have hls' : lessL (tm ts k).1 v = false := by simpa using hls
          have HLF := Lib.hid hls'
          rw [hls'] at HLE
          have HAC : Hid (addC v mm ts = zs ++ addC v mm (((tm ts k).1, z) :: ts.drop (k + 1))) := Lib.hid (by
            rw [HQE.out, addC_take ts k (by rw [HL.out]; exact hk) HALL.out, HTM.out])
          clear hls hls'
          have HSM := Lib.hid (fun u (hd : Drawn wr u) => l1Same_any A2 Bv n2 c2 nw cw (tm ts k).1 v u (hd.si HSI.out) (hd.si HOVr.out.si) (by omega) (by have := HNW.out; omega))
          by_cases hsm : (tm ts k).1 = v
          · rw [show eqL (tm ts k).1 v = true from by rw [hsm]; exact eqL_self _] at HSM
            obtain ⟨sm, hsmm⟩ : ∃ sm, sm = z + mm := ⟨_, rfl⟩
            have hws : IntKind.i64.wrap (z + mm) = sm := by rw [hsmm]; exact IntWalk.i64_in _ (by omega)
            have HAC2 : Hid (addC v mm ts = zs ++ (if sm = 0 then ts.drop (k + 1) else (v, sm) :: ts.drop (k + 1))) := Lib.hid (by rw [HAC.out, addC_same (t := ((tm ts k).1, z)) HLF.out hsm, hsmm])
            clear hsm hsmm
            go_upto_region 10 with (first
              | (go_at_call 186; (with_reducible refine HLE.out.mono ?_); rintro e w2 ⟨rfl, hd1⟩; have HD1 := Lib.hid hd1
                 have q0 : w2.cell? ⟨b, o + k * 2, none⟩ = some (.slice A2 n2 c2) := (Below.cell (hd1.below wr.heap.size) (p := ⟨b, o + k * 2, none⟩) (Nat.lt_of_lt_of_le HBL.out HB.out.size)).trans HCC.out.1
                 clear hd1)
              | (go_at_call 187; (with_reducible refine (HSM.out _ HD1.out).mono ?_); rintro e w3 ⟨rfl, hd2⟩; have HD2 := Lib.hid (HD1.out.trans hd2)
                 have q1 : w3.cell? ⟨b, o + k * 2 + 1, none⟩ = some (.int .i64 z) := (Below.cell ((HD1.out.trans hd2).below wr.heap.size) (p := ⟨b, o + k * 2 + 1, none⟩) (Nat.lt_of_lt_of_le HBL.out HB.out.size)).trans HCC.out.2
                 clear hd2))
            have hz3 : w3.heap.size = wr.heap.size := by rw [HD2.out.heap]
            have HO3 : Hid (OwnTC w3 w1.heap.size w3.heap.size A' m c' zs) := Lib.hid (by rw [hz3]; exact HO.out.drawn HD2.out)
            have HV3 : Hid (Own w3 w.heap.size w1.heap.size Bv nw cw v) := Lib.hid (HOVr.out.drawn HD2.out)
            have HZ3 : Hid (w1.heap.size ≤ w3.heap.size) := Lib.hid (by rw [hz3]; exact HB1.out.size)
            clear hz3
            by_cases hs0 : sm = 0
            · have hki : (sm != 0) = false := by simp [hs0]
              have HFIN : Hid (zs ++ ts.drop (k + 1) = addC v mm ts) := Lib.hid (by rw [HAC2.out, if_pos hs0])
              clear hs0
              go_wp2
              go_roundw
              case rel => exact ⟨k + 1, m, A', c', true, zs, by have := HKN.out; omega, by go_num, rfl, rfl, (fun h => by cases h), fun _ => ⟨HFIN.out, HO3.out.wide HWW.out (Nat.le_refl _)⟩, by have := HMK.out; omega, HB.out.trans (HD2.out.below _)⟩
              case measure => have := HKN.out; simp [intOf]; omega
            · have hki : (sm != 0) = true := by simpa using hs0
              have HFIN : Hid ((zs ++ [(v, sm)]) ++ ts.drop (k + 1) = addC v mm ts) := Lib.hid (by rw [HAC2.out, if_neg hs0, List.append_assoc]; rfl)
              clear hs0
              go_wp2_with (at_builtin; refine wpList_appendCB rfl (.tmp 49) (.tmp 59) rfl w1.heap.size w3.heap.size A' m c' zs w.heap.size w1.heap.size Bv nw cw v sm rfl rfl HO3.out HV3.out HWW.out (Nat.le_refl _) HZ3.out (Nat.le_refl _) HZ3.out (by omega) ?_
                           intro A5 c5 w5 ho5 hb5
                           have HO5 := Lib.hid ho5
                           have HB5 := Lib.hid hb5
                           clear ho5 hb5)
              go_roundw
              case rel => exact ⟨k + 1, m + 1, A5, c5, true, _, by have := HKN.out; omega, by go_num, rfl, rfl, (fun h => by cases h), fun _ => ⟨HFIN.out, HO5.out⟩, by have := HMK.out; omega, HB.out.trans ((HD2.out.below _).trans (HB5.out.mono HWW.out))⟩
              case measure => have := HKN.out; simp [intOf]; omega
          · rw [show eqL (tm ts k).1 v = false from by simp [eqL]; exact hsm] at HSM
            have HAC2 : Hid ((zs ++ [(v, mm)]) ++ ts.drop k = addC v mm ts) := Lib.hid (by rw [HAC.out, addC_new (t := ((tm ts k).1, z)) HLF.out hsm, HTM.out, List.append_assoc]; rfl)
            clear hsm
            go_upto_region 12 with (first
              | (go_at_call 186; (with_reducible refine HLE.out.mono ?_); rintro e w2 ⟨rfl, hd1⟩; have HD1 := Lib.hid hd1
                 have q0 : w2.cell? ⟨b, o + k * 2, none⟩ = some (.slice A2 n2 c2) := (Below.cell (hd1.below wr.heap.size) (p := ⟨b, o + k * 2, none⟩) (Nat.lt_of_lt_of_le HBL.out HB.out.size)).trans HCC.out.1
                 clear hd1)
              | (go_at_call 187; (with_reducible refine (HSM.out _ HD1.out).mono ?_); rintro e w3 ⟨rfl, hd2⟩; have HD2 := Lib.hid (HD1.out.trans hd2); clear hd2))
            have hz3 : w3.heap.size = wr.heap.size := by rw [HD2.out.heap]
            have HO3 : Hid (OwnTC w3 w1.heap.size w3.heap.size A' m c' zs) := Lib.hid (by rw [hz3]; exact HO.out.drawn HD2.out)
            have HV3 : Hid (Own w3 w.heap.size w1.heap.size Bv nw cw v) := Lib.hid (HOVr.out.drawn HD2.out)
            have HZ3 : Hid (w1.heap.size ≤ w3.heap.size) := Lib.hid (by rw [hz3]; exact HB1.out.size)
            clear hz3 hc0 hc1
            go_upto_region 13 with (first
              | (at_builtin; refine wpList_appendCB rfl (.tmp 61) (.tmp 65) rfl w1.heap.size w3.heap.size A' m c' zs w.heap.size w1.heap.size Bv nw cw v mm rfl rfl HO3.out HV3.out HWW.out (Nat.le_refl _) HZ3.out (Nat.le_refl _) HZ3.out (by omega) ?_
                 intro A5 c5 wq ho5 hb5
                 have HO5 := Lib.hid ho5
                 have HB5 : Hid (Below w1.heap.size wr wq) := Lib.hid (((HD2.out.below _)).trans hb5)
                 clear ho5 hb5))
            obtain ⟨A', rfl⟩ : ∃ A', A' = A5 := ⟨A5, rfl⟩
            obtain ⟨c', rfl⟩ : ∃ c', c' = c5 := ⟨c5, rfl⟩
            obtain ⟨m, hm9⟩ : ∃ m9, m9 = m + 1 := ⟨m + 1, rfl⟩
            rw [← hm9] at HO5 ⊢
            have HMK : Hid (m ≤ k + 1) := Lib.hid (by have := HMK0.out; omega)
            clear hm9
            have hm5 : m ≤ 1001 := by have := HMK.out; omega
            obtain ⟨zz, hzz⟩ : ∃ zz, zz = zs ++ [(v, mm)] := ⟨_, rfl⟩
            rw [← hzz] at HO5 HAC2
            clear hzz
            have HOQ := HO5
            have HQE := HAC2
            have HLOQ : Hid (w.heap.size ≤ wq.heap.size) := Lib.hid (by have := HB5.out.size; have := HB.out.size; omega)
            have HBQ : Hid (b < wq.heap.size) := Lib.hid (Nat.lt_of_lt_of_le HBL.out HLOQ.out)
            have HBLO : Hid (b < w.heap.size) := HBL
            have HWQ : Hid (Below w.heap.size wr wq) := Lib.hid (HB5.out.mono HWW.out)
            have HQ : Hid (wq.cell? ⟨b, o + k * 2, none⟩ = some (.slice A2 n2 c2) ∧ wq.cell? ⟨b, o + k * 2 + 1, none⟩ = some (.int .i64 z)) := Lib.hid ⟨(Below.cell HWQ.out (p := ⟨b, o + k * 2, none⟩) HBL.out).trans HCC.out.1, (Below.cell HWQ.out (p := ⟨b, o + k * 2 + 1, none⟩) HBL.out).trans HCC.out.2⟩
            have HSQ : Hid (SI wq A2 n2 (tm ts k).1) := Lib.hid (HSX.out _ (HB.out.trans HWQ.out))
            have q0 : wq.cell? ⟨b, o + k * 2, none⟩ = some (.slice A2 n2 c2) := HQ.out.1
            have q1 : wq.cell? ⟨b, o + k * 2 + 1, none⟩ = some (.int .i64 z) := HQ.out.2
            have HSD : Hid (SI wq.drew A2 n2 (tm ts k).1) := Lib.hid (HSQ.out.below ((Below.refl wq.heap.size wq).drew) (Nat.le_refl _))
            have HOD : Hid (OwnTC wq.drew w.heap.size wq.heap.size A' m c' (zz)) := Lib.hid (HOQ.out.below ((Below.refl wq.heap.size wq).drew) (Nat.le_refl _))
            go_wp2_with fail
            go_region_held3 (fun w' => w'.cell? ⟨b, o + k * 2, none⟩ = some (.slice A2 n2 c2) ∧ w'.cell? ⟨b, o + k * 2 + 1, none⟩ = some (.int .i64 z))
              (first | go_keep | exact K3 | exact K5)
              (first
                | (refine (l1Ints_any A2 n2 c2 (tm ts k).1 wq.drew HSD.out (by omega)).mono ?_
                   rintro r3 w3 ⟨A3, n3, c3, rfl, ho3, hb3⟩
                   have K3 : w3.cell? ⟨b, o + k * 2, none⟩ = some (.slice A2 n2 c2) ∧ w3.cell? ⟨b, o + k * 2 + 1, none⟩ = some (.int .i64 z) :=
                     ⟨by rw [Below.cell hb3 (p := ⟨b, o + k * 2, none⟩) (by show b < wq.heap.size; have := HBQ.out; omega)]; exact q0, by rw [Below.cell hb3 (p := ⟨b, o + k * 2 + 1, none⟩) (by show b < wq.heap.size; have := HBQ.out; omega)]; exact q1⟩
                   obtain ⟨E, hE3⟩ := (HOD.out.below hb3 (Nat.le_refl _)).named
                   obtain rfl : n2 = n3 := by have := ho3.len; have := HSD.out.1; omega
                   have HE3 := Lib.hid hE3
                   have HO3 := Lib.hid ho3
                   have HB3 := Lib.hid hb3
                   have hw3 : wq.heap.size ≤ w3.heap.size := hb3.size
                   clear hE3 ho3 hb3)
                | (refine step_append_lies _ (by rfl) (.tmp 67) (.tmp 80) 44 (by rfl) w.heap.size 117 i0 _ 2 32 Try.underlying44 HI.out.1 HI.out.2.1 HI.out.2.2.1 HI.out.2.2.2 rfl (by omega) (.slice A' m c') m _ (by rfl) (HE3.out.2.1.alloc _)
                     ⟨w3.heap.size, 0, none⟩ 1 1 [.slice A3 n2 c3, .int .i64 z] (by rfl) (by rfl) (World.news_of_block (cs := #[.slice A3 n2 c3, .int .i64 z]) (t := 117) (fr := (0, 0)) (heap_alloc_new w3 _)) (by simp [Value.oneCell'])
                     (by omega) (by unfold maxLen; omega) (by omega) (by have := HLOQ.out; simp; omega) (w3.heap.size + 1) (by simp) ?_
                   intro g cap w5 hrow5 hgrow hat hlt5
                   have HR5 := Lib.hid hrow5
                   have HG5 := Lib.hid hgrow
                   have HA5 := Lib.hid hat
                   have K5 : w5.cell? ⟨b, o + k * 2, none⟩ = some (.slice A2 n2 c2) ∧ w5.cell? ⟨b, o + k * 2 + 1, none⟩ = some (.int .i64 z) := by
                     have hbq := HBQ.out
                     have hne : some b ≠ (Value.slice A' m c').ownBlock := fun e => by have := HE3.out.2.1.lt b e.symm; have := HBLO.out; omega
                     exact ⟨by rw [hgrow.cell_far ⟨b, o + k * 2, none⟩ (by simp; omega) hne]; exact (Below.cell ((Below.refl w3.heap.size w3).alloc (Nat.le_refl _) _) (p := ⟨b, o + k * 2, none⟩) (by show b < w3.heap.size; omega)).trans K3.1, by rw [hgrow.cell_far ⟨b, o + k * 2 + 1, none⟩ (by simp; omega) hne]; exact (Below.cell ((Below.refl w3.heap.size w3).alloc (Nat.le_refl _) _) (p := ⟨b, o + k * 2 + 1, none⟩) (by show b < w3.heap.size; omega)).trans K3.2⟩
                   clear hrow5 hgrow hat))
            have hE4 := HE3.out.below ((Below.refl w3.heap.size w3).alloc (Nat.le_refl _) (.cells #[.slice A3 n2 c3, .int .i64 z] 117)) (by have := hw3; show wq.heap.size ≤ w3.heap.size; omega)
            have hx4 := HO3.out.below ((Below.refl w3.heap.size w3).alloc (Nat.le_refl _) (.cells #[.slice A3 n2 c3, .int .i64 z] 117)) (Nat.le_refl _)
            have h5 := hE4.app z hx4 (by have := HLOQ.out; show w.heap.size ≤ wq.heap.size; omega) (by show wq.heap.size ≤ wq.heap.size; omega) (H := w3.heap.size) (Nat.le_refl _) (by show wq.heap.size ≤ w3.heap.size; omega) (by simp) HR5.out HG5.out (HA5.out.imp id (fun h => by omega)) hlt5
            have HO5 := Lib.hid h5
            have hb5 : Below w.heap.size wq w5 := by
              have hlq := HLOQ.out
              have g2 : Below w.heap.size wq w3 := ((Below.refl w.heap.size wq).drew).trans (HB3.out.mono (by show w.heap.size ≤ wq.heap.size; omega))
              have g3 := g2.alloc (by omega) (.cells #[.slice A3 n2 c3, .int .i64 z] 117)
              exact g3.trans (grow_below HG5.out (by simp; omega) (fun b hb => (HE3.out.2.1.lt b hb).1))
            have HB5 := Lib.hid hb5
            clear hE4 hx4 h5 hb5 K3 K5
            go_wp2
            go_roundw
            case rel => exact ⟨k + 1, m + 1, _, cap, true, _, by have := HKN.out; omega, by go_num, rfl, rfl, (fun h => by cases h), fun _ => ⟨by rw [List.append_assoc, List.singleton_append, ← HTM.out]; exact HQE.out, HO5.out⟩, by have := HMK.out; omega, HB.out.trans (HWQ.out.trans HB5.out)⟩
            case measure => have := HKN.out; simp [intOf]; omega
    · have hlI : ¬ (k : Int) < (n : Int) := by omega
      obtain rfl : k = n := by omega
      cases dn with
      | true =>
        obtain ⟨hq, ho⟩ := hT rfl
        have HFIN : Hid (addC v mm ts = zs) := Lib.hid (by rw [← hq, List.drop_of_length_le (by rw [HL.out]; exact Nat.le_refl _), List.append_nil])
        have HO := Lib.hid ho
        clear hF hT hq ho
        go_wp2
        go_ret
        rw [HFIN.out]
        exact ⟨A', m, c', rfl, HO.out, HB.out⟩
      | false =>
        obtain ⟨hq, hall, ho, hb1⟩ := hF rfl
        have HB1 := Lib.hid hb1
        have HFIN : Hid (addC v mm ts = zs ++ [(v, mm)]) := Lib.hid (by rw [hq, addC_take ts k (by rw [HL.out]; exact Nat.le_refl _) hall, List.drop_of_length_le (by rw [HL.out]; exact Nat.le_refl _)]; rfl)
        have HO := Lib.hid ho
        have HOVr : Hid (Own wr w.heap.size w1.heap.size Bv nw cw v) := Lib.hid (HOV.out.below HB1.out (Nat.le_refl _))
        clear hF hT hq hall ho hb1
        go_wp2_with (at_builtin; refine wpList_appendCB rfl (.tmp 84) (.tmp 88) rfl w1.heap.size wr.heap.size A' m c' zs w.heap.size w1.heap.size Bv nw cw v mm rfl rfl HO.out HOVr.out HWW.out (Nat.le_refl _) HB1.out.size (Nat.le_refl _) HB1.out.size (by omega) ?_
                     intro A5 c5 w5 ho5 hb5
                     have HO5 := Lib.hid ho5
                     have HB5 := Lib.hid hb5
                     clear ho5 hb5)
        go_ret
        rw [HFIN.out]
        exact ⟨A5, m + 1, c5, rfl, HO5.out, HB.out.trans (HB5.out.mono HWW.out)⟩
end Go.Proofs.Ytjpoliibljjhnaa

/-
  Contracts of the program's EmbedPerm, TrimPerm, RankAt. Conditions: lengths below 2^40.
-/


namespace Go.Proofs.Ytjpoliibljjhnaa
open Go.RowKit

theorem trimN_fill {xs : List Int} (h7 : xs.length ≤ 7) : ∀ k, k ≤ xs.length → trimN (fillA xs xs.length) k = trimN xs k := by
  intro k
  induction k with
  | zero => intro _; rfl
  | succ k ih => intro hk; unfold trimN; rw [ih (by omega), fillA_lt (by omega) (by omega)]

set_option maxHeartbeats 1000000 in
theorem implTrim_any (A : Option Addr) (n c : Nat) (xs : List Int) (w : World) (hs : SI w A n xs) (hn : n ≤ 1099511627776) :
    Calls Try.prog 107 #[.slice A n c] w fun e w' => Fresh w w' e (trimPerm xs) := by
  have hl := hs.1
  cases hu : isPermB xs with
  | false =>
    have HE := Lib.hid (trimPerm_no hu)
    have HU := Lib.hid hu
    clear hu
    go_enter Try.func107, Try.ntmps107
    go_wp2_with fail
    refine (arrayOf_x c HU.out hs hn).mono ?_
    rintro e w1 ⟨l, rfl, -, hb1⟩
    go_wp2
    go_ret
    rw [HE.out]
    exact Fresh.nil_ret (hb1.alloc hb1.size _)
  | true =>
    have HE := Lib.hid (trimPerm_yes hu)
    have HU := Lib.hid hu
    have HL := Lib.hid hl
    have hpos : 1 ≤ n := by have := (isPermB_P hu).1; omega
    have h7 : n ≤ 7 := by have := (isPermB_P hu).2.1; omega
    clear hu hl
    go_enter Try.func107, Try.ntmps107
    go_wp2_with fail
    refine (arrayOf_x c HU.out hs hn).mono ?_
    rintro e w1 ⟨l, rfl, hlf, hb1⟩
    have HF := Lib.hid (hlf rfl)
    clear hlf
    have hK := Blk.new w1 107 (arrC l)
    have hb2 : Below w.heap.size w (w1.alloc (.cells (arrC l) 107)) := hb1.alloc hb1.size _
    go_wp2
    obtain ⟨g, hg⟩ : ∃ g, g = w1.heap.size := ⟨_, rfl⟩
    rw [← hg] at hK ⊢
    generalize w1.alloc (.cells (arrC l) 107) = w2 at *
    clear hg
    have HK := Lib.hid hK
    clear hK
    go_loop [5] (fun v => ∃ k : Nat, k + 1 ≤ n ∧ v = .int .i64 ((k : Int) + 1) ∧ trimN l (k + 1) = trimN l n)
      (fun v => (intOf v).toNat)
    case atStart => exact ⟨n - 1, by omega, by go_num, by rw [show n - 1 + 1 = n from by omega]⟩
    case round =>
      obtain ⟨k, hk, rfl, htr⟩ := hrel
      have HT := Lib.hid htr
      have hck : w2.cell? ⟨g, k, none⟩ = some (.int .i64 (nth l k)) := (HK.out.cell _).trans (arrC_get l k (by omega))
      obtain ⟨x, hx⟩ : ∃ x, x = nth l k := ⟨_, rfl⟩
      rw [← hx] at hck
      have HX := Lib.hid hx
      clear htr hx
      have stop : ∀ (w4 : World) (e : Ending), trimN l (k + 1) = k + 1 → Fresh w2 w4 e (l.take (k + 1)) → Fresh w w4 e (trimPerm xs) := by
        intro w4 e h1 h2
        have e2 := HT.out
        have e1 := HF.out
        have e3 := HL.out
        have e4 := trimN_fill (xs := xs) (by omega) n (by omega)
        rw [e3, ← e1, ← e2, h1] at e4
        rw [HE.out, e3, ← e4]
        have e5 := fill_take_short (xs := xs) (k := k + 1) (by omega) (by omega)
        rw [e3, ← e1] at e5
        rw [← e5]
        exact Fresh.after hb2 h2
      have STOP := Lib.hid stop
      clear stop
      by_cases h0 : 0 < k
      · by_cases hxk : x = (k : Int)
        · subst hxk
          go_wp2
          go_round
          case rel =>
            have e1 := HX.out
            have e2 := HT.out
            rw [trimN_hit h0 e1.symm] at e2
            exact ⟨k - 1, by omega, by go_num, by rw [show k - 1 + 1 = k from by omega]; exact e2⟩
          case measure => simp only [intOf]; omega
        · have hxb : (x == (k : Int)) = false := by simpa using hxk
          have HX2 := Lib.hid hxk
          clear hxk
          have hsl : Calls Try.prog 100 #[arr l, .int .i64 ((k : Int) + 1)] w2 (fun e w' => Fresh w2 w' e (l.take (k + 1))) := list_any l (k + 1) w2 (by rw [HF.out, fillA_len]) (by omega)
          go_wp2_with (refine wpList_load_blk rfl 107 (.tmp 3) rfl g rfl 107 (arrC l) 7 3 HK.out Try.undArr Try.infoArr ?_)
          refine hsl.mono ?_
          intro e w4 hfr
          obtain ⟨A4, n4, c4, rfl, ho4, hb4⟩ := hfr
          go_wp2
          go_ret
          exact STOP.out _ _ (trimN_miss (by have := HX.out; have := HX2.out; rintro ⟨_, h⟩; omega)) ⟨A4, n4, c4, rfl, ho4, hb4⟩
      · have hk0 : k = 0 := by omega
        subst hk0
        have hsl : Calls Try.prog 100 #[arr l, .int .i64 1] w2 (fun e w' => Fresh w2 w' e (l.take 1)) := list_any l 1 w2 (by rw [HF.out, fillA_len]) (by omega)
        go_wp2_with (refine wpList_load_blk rfl 107 (.tmp 3) rfl g rfl 107 (arrC l) 7 3 HK.out Try.undArr Try.infoArr ?_)
        refine hsl.mono ?_
        intro e w4 hfr
        obtain ⟨A4, n4, c4, rfl, ho4, hb4⟩ := hfr
        go_wp2
        go_ret
        exact STOP.out _ _ (trimN_miss (by rintro ⟨h, _⟩; omega)) ⟨A4, n4, c4, rfl, ho4, hb4⟩

set_option maxHeartbeats 1000000 in
theorem rank_any (l : List Int) (r : Nat) (x : Int) (w : World) (hr : r ≤ 7) (_hl : l.length = 7) :
    Calls Try.prog 161 #[arr l, .int .i64 r, .int .i64 x] w fun e w' => e = .returned (.int .i64 (rankN l x r : Int)) ∧ Below w.heap.size w w' := by
  have hb := Blk.new w 107 (arrC l)
  have HBk := Lib.hid hb
  clear hb _hl
  have hsl := fun wx => sliceArr_to ⟨w.heap.size, 0, none⟩ r hr wx
  go_enter Try.func161, Try.ntmps161
  go_wp2
  go_loop [7, 13] (fun v i => ∃ k : Nat, k ≤ r ∧ i = .int .i64 k ∧ v = .int .i64 (rankN l x k : Int))
    (fun _ i => r - (intOf i).toNat)
  case atStart => exact ⟨0, Nat.zero_le _, rfl, rfl⟩
  case round =>
    obtain ⟨k, hk, rfl, rfl⟩ := hrel
    by_cases hlt : k < r
    · have hck : (w.alloc (.cells (arrC l) 107)).cell? ⟨w.heap.size, k, none⟩ = some (.int .i64 (nth l k)) := (HBk.out.cell _).trans (arrC_get l k (by omega))
      obtain ⟨y, hy⟩ : ∃ y, y = nth l k := ⟨_, rfl⟩
      rw [← hy] at hck
      have HY := Lib.hid hy
      have hq := rankN_le l x k
      obtain ⟨q, hqe⟩ : ∃ q, q = rankN l x k := ⟨_, rfl⟩
      rw [← hqe] at hq ⊢
      have HQ := Lib.hid hqe
      clear hy hqe
      by_cases hxy : y < x
      · go_wp2
        go_round
        case rel =>
          have e1 := HY.out
          have e2 := HQ.out
          exact ⟨k + 1, by omega, by go_num, by rw [rankN_hit (by omega), ← e2]; go_num⟩
        case measure => simp [intOf]; omega
      · go_wp2
        go_round
        case rel =>
          have e1 := HY.out
          have e2 := HQ.out
          exact ⟨k + 1, by omega, by go_num, by rw [rankN_miss (by omega), ← e2]⟩
        case measure => simp [intOf]; omega
    · have hkr : k = r := by omega
      subst hkr
      go_wp2
      go_ret
      exact ⟨rfl, Below.alloc_self _ _⟩

set_option maxHeartbeats 2000000 in
theorem implRank_any (A : Option Addr) (n c : Nat) (xs : List Int) (r x : Int) (w : World) (hs : SI w A n xs) (hn : n ≤ 1099511627776) :
    Calls Try.prog 216 #[.slice A n c, .int .i64 r, .int .i64 x] w fun e w' => e = .returned (.int .i64 (rankPerm xs r x)) ∧ Below w.heap.size w w' := by
  have hl := hs.1
  cases hu : isPermB xs with
  | false =>
    have HE := Lib.hid (rankPerm_no (xs := xs) (r := r) (c := x) (by rintro ⟨h, _⟩; rw [hu] at h; cases h))
    have HU := Lib.hid hu
    clear hu
    go_enter Try.func216, Try.ntmps216
    go_wp2_with fail
    refine (arrayOf_x c HU.out hs hn).mono ?_
    rintro e w1 ⟨l, rfl, -, hb1⟩
    go_wp2
    go_ret
    exact ⟨ret_int HE.out.symm, hb1.alloc hb1.size _⟩
  | true =>
    have HU := Lib.hid hu
    have HL := Lib.hid hl
    have h7 : n ≤ 7 := by have := (isPermB_P hu).2.1; omega
    clear hu hl
    by_cases hr0 : r < 0
    · have HE := Lib.hid (rankPerm_no (xs := xs) (r := r) (c := x) (by rintro ⟨_, h1, h2, _⟩; omega))
      go_enter Try.func216, Try.ntmps216
      go_wp2_with fail
      refine (arrayOf_x c HU.out hs hn).mono ?_
      rintro e w1 ⟨l, rfl, -, hb1⟩
      go_wp2
      go_ret
      exact ⟨ret_int HE.out.symm, hb1.alloc hb1.size _⟩
    · by_cases hr1 : (n : Int) < r
      · have HE := Lib.hid (rankPerm_no (xs := xs) (r := r) (c := x) (by have := HL.out; rintro ⟨_, h1, h2, _⟩; omega))
        go_enter Try.func216, Try.ntmps216
        go_wp2_with fail
        refine (arrayOf_x c HU.out hs hn).mono ?_
        rintro e w1 ⟨l, rfl, -, hb1⟩
        go_wp2
        go_ret
        exact ⟨ret_int HE.out.symm, hb1.alloc hb1.size _⟩
      · obtain ⟨m, rfl⟩ : ∃ m : Nat, r = (m : Int) := ⟨r.toNat, by omega⟩
        by_cases hx0 : x < 0
        · have HE := Lib.hid (rankPerm_no (xs := xs) (r := (m : Int)) (c := x) (by rintro ⟨_, _, _, h, _⟩; omega))
          go_enter Try.func216, Try.ntmps216
          go_wp2_with fail
          refine (arrayOf_x c HU.out hs hn).mono ?_
          rintro e w1 ⟨l, rfl, -, hb1⟩
          go_wp2
          go_ret
          exact ⟨ret_int HE.out.symm, hb1.alloc hb1.size _⟩
        · by_cases hx1 : (n : Int) < x
          · have HE := Lib.hid (rankPerm_no (xs := xs) (r := (m : Int)) (c := x) (by have := HL.out; rintro ⟨_, _, _, _, h⟩; omega))
            go_enter Try.func216, Try.ntmps216
            go_wp2_with fail
            refine (arrayOf_x c HU.out hs hn).mono ?_
            rintro e w1 ⟨l, rfl, -, hb1⟩
            go_wp2
            go_ret
            exact ⟨ret_int HE.out.symm, hb1.alloc hb1.size _⟩
          · have HE := Lib.hid (rankPerm_yes (r := m) (c := x) HU.out (by have := HL.out; omega) (by omega) (by have := HL.out; omega))
            go_enter Try.func216, Try.ntmps216
            go_wp2_with fail
            refine (arrayOf_x c HU.out hs hn).mono ?_
            rintro e w1 ⟨l, rfl, hlf, hb1⟩
            have HF := Lib.hid (hlf rfl)
            clear hlf
            have hK := Blk.new w1 107 (arrC l)
            go_wp2_with (refine wpList_load_blk rfl 107 (.tmp 7) rfl w1.heap.size rfl 107 (arrC l) 7 3 hK Try.undArr Try.infoArr ?_)
            have hb2 : Below w.heap.size w (w1.alloc (.cells (arrC l) 107)) := hb1.alloc hb1.size _
            generalize w1.alloc (.cells (arrC l) 107) = w2 at *
            refine (rank_any l m x w2 (by omega) (by rw [HF.out, fillA_len])).mono ?_
            rintro e w4 ⟨rfl, hb4⟩
            have HB4 := Lib.hid (hb2.trans (hb4.mono hb2.size))
            clear hb4 hb2 hK
            have e1 : rankN l x m = rankN xs x m := rankN_congr x m (fun t ht => by
              rw [HF.out]; exact fillA_lt (by omega) (by omega))
            rw [e1]
            clear e1
            go_wp2
            go_ret
            exact ⟨ret_int HE.out.symm, HB4.out⟩
end Go.Proofs.Ytjpoliibljjhnaa

/-
  Monk's product: both sides' model. No conditions but those named.
-/



namespace Go.Proofs.Ytjpoliibljjhnaa
open Go.RowKit Cls

theorem trimN_fx {xs : List Int} : ∀ {n k : Nat}, trimN xs n ≤ k → k < n → nth xs k = (k : Int)
  | 0, k, _, hk => absurd hk (by omega)
  | n + 1, k, h, hk => by
    by_cases hc : 0 < n ∧ nth xs n = (n : Int)
    · rw [trimN, if_pos hc] at h
      by_cases e : k = n
      · subst e; exact hc.2
      · exact trimN_fx h (by omega)
    · rw [trimN, if_neg hc] at h
      omega
def trL (z : List Int) : List Int := z.take (trimN z z.length)
theorem trL_len (z : List Int) : (trL z).length = trimN z z.length := by
  unfold trL
  rw [List.length_take]
  have := trimN_le z z.length
  omega
theorem trL_inj {a b : List Int} (hl : a.length = b.length) (h : trL a = trL b) : a = b := by
  have ht : trimN a a.length = trimN b b.length := by rw [← trL_len, ← trL_len, h]
  apply List.ext_getElem hl
  intro j h1 h2
  rw [← nth_get h1, ← nth_get h2]
  by_cases hj : j < trimN a a.length
  · have e : nth (trL a) j = nth (trL b) j := by rw [h]
    unfold trL at e
    rwa [nth_take hj, nth_take (by omega)] at e
  · rw [trimN_fx (n := a.length) (by omega) h1, trimN_fx (n := b.length) (by omega) h2]
/-- The permutation with one more place. -/
def vsM (xs : List Int) : List Int := (fillA xs xs.length).take (xs.length + 1)
theorem vsM_len {xs : List Int} (h : xs.length ≤ 6) : (vsM xs).length = xs.length + 1 := by
  unfold vsM; rw [List.length_take, fillA_len]; omega
theorem vsM_nth {xs : List Int} (h : xs.length ≤ 6) {j : Nat} (hj : j < xs.length + 1) : nth (vsM xs) j = if j < xs.length then nth xs j else (j : Int) := by
  unfold vsM
  rw [nth_take hj, fillA_nth _ _ _ (by omega)]
theorem vsM_fill {xs : List Int} (h : xs.length ≤ 6) : fillA (vsM xs) (vsM xs).length = fillA xs xs.length := by
  apply List.ext_getElem (by rw [fillA_len, fillA_len])
  intro j h1 h2
  rw [fillA_len] at h1
  rw [← nth_get (by rw [fillA_len]; exact h1), ← nth_get (by rw [fillA_len]; exact h1), fillA_nth _ _ _ h1, fillA_nth _ _ _ h1, vsM_len h]
  by_cases hj : j < xs.length + 1
  · rw [if_pos hj, vsM_nth h hj]
  · rw [if_neg hj, if_neg (by omega)]
theorem vsM_perm {xs : List Int} (hp : isPermP xs) (h : xs.length ≤ 6) : isPermP (vsM xs) := by
  have hl := vsM_len h
  refine pp_of (by omega) (by omega) (fun k hk => ?_) (fun j k hjk hk => ?_)
  · rw [hl] at hk ⊢
    rw [vsM_nth h hk]
    split
    · rename_i h'
      have h1 := (hp.2.2 k h').1
      have h2 := (hp.2.2 k h').2.1
      omega
    · omega
  · rw [hl] at hk
    rw [vsM_nth h (by omega), vsM_nth h hk, if_pos (by omega)]
    split
    · exact pp_ne hp hjk (by omega)
    · have := (hp.2.2 j (by omega)).2.1
      omega
/-- The permutations that cover it by an exchange over the place k, trimmed, in the order of looking. -/
def monT (vs : List Int) (k i : Nat) : Nat → List (List Int)
  | 0 => []
  | t + 1 => if covB vs i (k + 1 + t) = true then monT vs k i t ++ [trL (swapL vs i (k + 1 + t))] else monT vs k i t
def monO (vs : List Int) (k : Nat) : Nat → List (List Int)
  | 0 => []
  | i + 1 => monO vs k i ++ monT vs k i (vs.length - (k + 1))
theorem monT_mem {vs : List Int} {k i : Nat} {z : List Int} : ∀ t, z ∈ monT vs k i t → ∃ s, s < t ∧ z = trL (swapL vs i (k + 1 + s))
  | 0, h => by simp [monT] at h
  | t + 1, h => by
    unfold monT at h
    split at h
    · rcases List.mem_append.1 h with h | h
      · obtain ⟨s, h1, h2⟩ := monT_mem t h; exact ⟨s, by omega, h2⟩
      · rw [List.mem_singleton] at h; exact ⟨t, by omega, h⟩
    · obtain ⟨s, h1, h2⟩ := monT_mem t h; exact ⟨s, by omega, h2⟩
theorem monO_mem {vs : List Int} {k : Nat} {z : List Int} : ∀ i, z ∈ monO vs k i → ∃ s t, s < i ∧ t < vs.length - (k + 1) ∧ z = trL (swapL vs s (k + 1 + t))
  | 0, h => by simp [monO] at h
  | i + 1, h => by
    unfold monO at h
    rcases List.mem_append.1 h with h | h
    · obtain ⟨s, t, h1, h2, h3⟩ := monO_mem i h; exact ⟨s, t, by omega, h2, h3⟩
    · obtain ⟨s, h1, h2⟩ := monT_mem _ h; exact ⟨i, s, by omega, h1, h2⟩
theorem mon_inj {vs : List Int} (hp : isPermP vs) {k i t i' t' : Nat} (hi : i ≤ k) (ht : t < vs.length - (k + 1)) (hi' : i' ≤ k) (ht' : t' < vs.length - (k + 1)) (e : trL (swapL vs i (k + 1 + t)) = trL (swapL vs i' (k + 1 + t'))) : i = i' ∧ t = t' := by
  have h1 := trL_inj (by rw [swapL_len, swapL_len]) e
  have h2 := swapL_inj hp (show i < k + 1 + t by omega) (by omega) (show i' < k + 1 + t' by omega) (by omega) h1
  omega
/-- What comes next is not there yet. -/
theorem mon_fresh {vs : List Int} (hp : isPermP vs) {k i t : Nat} (hi : i ≤ k) (ht : t < vs.length - (k + 1)) : trL (swapL vs i (k + 1 + t)) ∉ monO vs k i ++ monT vs k i t := fun h => by
  rcases List.mem_append.1 h with h | h
  · obtain ⟨s, t', h1, h2, h3⟩ := monO_mem i h
    have := mon_inj hp hi ht (by omega) h2 h3
    omega
  · obtain ⟨s, h1, h2⟩ := monT_mem t h
    have := mon_inj hp hi ht hi (by omega) h2
    omega
theorem monT_nodup {vs : List Int} (hp : isPermP vs) {k i : Nat} (hi : i ≤ k) : ∀ t, t ≤ vs.length - (k + 1) → (monO vs k i).Nodup → (monO vs k i ++ monT vs k i t).Nodup
  | 0, _, h => by simpa [monT] using h
  | t + 1, ht, h => by
    have ih := monT_nodup hp hi t (by omega) h
    unfold monT
    split
    · rw [← List.append_assoc, List.nodup_append]
      refine ⟨ih, by simp, fun a ha b hb e => ?_⟩
      rw [List.mem_singleton] at hb
      exact mon_fresh hp hi (show t < vs.length - (k + 1) by omega) (by rw [← hb, ← e]; exact ha)
    · exact ih
theorem monO_nodup {vs : List Int} (hp : isPermP vs) {k : Nat} : ∀ i, i ≤ k + 1 → (monO vs k i).Nodup
  | 0, _ => by simp [monO]
  | i + 1, hi => by
    unfold monO
    exact monT_nodup hp (by omega) _ (Nat.le_refl _) (monO_nodup hp i (by omega))
theorem monT_len (vs : List Int) (k i : Nat) : ∀ t, (monT vs k i t).length ≤ t
  | 0 => by simp [monT]
  | t + 1 => by have := monT_len vs k i t; unfold monT; split <;> simp <;> omega
theorem monO_len (vs : List Int) (k : Nat) : ∀ i, (monO vs k i).length ≤ i * vs.length
  | 0 => by simp [monO]
  | i + 1 => by
    have h1 := monO_len vs k i
    have h2 := monT_len vs k i (vs.length - (k + 1))
    unfold monO
    rw [List.length_append, Nat.add_mul]
    omega
theorem mon_few {vs : List Int} (h7 : vs.length ≤ 7) {k i t : Nat} (hi : i ≤ 7) (ht : t ≤ 7) : (monO vs k i ++ monT vs k i t).length ≤ 56 := by
  have h1 := monO_len vs k i
  have h2 := monT_len vs k i t
  have h3 : i * vs.length ≤ 7 * 7 := Nat.mul_le_mul hi h7
  rw [List.length_append]
  omega
/-- All of a list put in, one after the other. -/
def insF (L : List (List Int)) : List (List Int) := L.foldl insU []
theorem insF_app (L : List (List Int)) (z : List Int) : insF (L ++ [z]) = insU (insF L) z := by simp [insF, List.foldl_append]
theorem insF_gen : ∀ (L acc : List (List Int)), AscL acc → AscL (L.foldl insU acc) ∧ (∀ z, z ∈ L.foldl insU acc ↔ z ∈ acc ∨ z ∈ L) ∧ (L.foldl insU acc).length ≤ acc.length + L.length
  | [], acc, h => ⟨h, fun z => by simp, by simp⟩
  | x :: r, acc, h => by
    obtain ⟨h1, h2, h3⟩ := insF_gen r (insU acc x) h.ins
    refine ⟨h1, fun z => ?_, ?_⟩
    · show z ∈ r.foldl insU (insU acc x) ↔ _
      rw [h2, insU_mem, List.mem_cons]
      exact ⟨fun h => by rcases h with (h | h) | h <;> simp [h], fun h => by rcases h with h | h | h <;> simp [h]⟩
    · show (r.foldl insU (insU acc x)).length ≤ _
      have := insU_len acc x
      simp only [List.length_cons]
      omega
theorem insF_asc (L : List (List Int)) : AscL (insF L) := (insF_gen L [] AscL.nil).1
theorem insF_mem {L : List (List Int)} {z : List Int} : z ∈ insF L ↔ z ∈ L := by
  have := (insF_gen L [] AscL.nil).2.1 z
  unfold insF
  simpa using this
theorem insF_len (L : List (List Int)) : (insF L).length ≤ L.length := by
  have := (insF_gen L [] AscL.nil).2.2
  unfold insF
  simpa using this
def oneC (z : List Int) : Tm := (z, 1)
theorem addC_one {v : List Int} : ∀ (ls : List (List Int)), v ∉ ls → addC v 1 (ls.map oneC) = (insU ls v).map oneC
  | [], _ => by simp [addC, insU, plcU, oneC]
  | y :: r, h => by
    have hy : y ≠ v := fun e => h (by rw [e]; exact List.mem_cons_self ..)
    have hr : v ∉ r := fun e => h (List.mem_cons_of_mem _ e)
    show (if lessL y v = true then oneC y :: addC v 1 (r.map oneC) else if y = v then _ else (v, 1) :: oneC y :: r.map oneC) = _
    by_cases hl : lessL y v = true
    · rw [if_pos hl, insU_cons_lt hl, addC_one r hr]; rfl
    · rw [if_neg hl, if_neg hy, insU_cons_gt (by simpa using hl) hy]; rfl
/-- Sorted, the program's classes are the document's. -/
theorem mon_sorted {L : List (List Int)} {us : List Tm} (hn : L.Nodup) (hp : us.Perm (L.map oneC)) (hs : us.Pairwise fun a b => 0 ≤ cmpL b.1 a.1) : us = (insF L).map oneC := by
  have h1 : ∀ u ∈ us, u.2 = 1 := fun u hu => by
    obtain ⟨z, _, e⟩ := List.mem_map.1 (hp.mem_iff.1 hu)
    rw [← e]; rfl
  have h2 : us = (us.map Prod.fst).map oneC := by
    rw [List.map_map]
    conv => lhs; rw [← List.map_id us]
    apply List.map_congr_left
    intro u hu
    show u = (u.1, 1)
    rw [← h1 u hu]
  have h3 : (us.map Prod.fst).Perm L := by
    have := hp.map Prod.fst
    rw [List.map_map] at this
    have e : (Prod.fst ∘ oneC) = (id : List Int → List Int) := rfl
    rwa [e, List.map_id] at this
  have h4 : (us.map Prod.fst).Pairwise fun a b => 0 ≤ cmpL b a := by rw [List.pairwise_map]; exact hs
  have h5 : us.map Prod.fst = insF L := AscL.uniq (AscL.sorted h3 h4 hn) (insF_asc L) fun z => by rw [h3.mem_iff, insF_mem]
  rw [h2, h5]
theorem tm_one {ls : List (List Int)} {j : Nat} (h : j < ls.length) : tm (ls.map oneC) j = (li ls j, 1) := by
  simp [tm, li, List.getD, h, oneC]
def mnkB (xs : List Int) (a : Int) : Bool := isPermB xs && decide (xs.length ≤ 6 ∧ 0 ≤ a ∧ a < xs.length)
def mnkL (xs : List Int) (k : Nat) : List (List Int) := insF (monO (vsM xs) k (k + 1))
def mnkC (xs : List Int) (a : Int) : List Tm := if mnkB xs a = true then (mnkL xs a.toNat).map oneC else []
theorem mnk_no {xs : List Int} {a : Int} (h : mnkB xs a = false) : mnkC xs a = [] := by unfold mnkC; rw [if_neg (by rw [h]; decide)]
theorem mnk_yes {xs : List Int} {a : Int} (h : mnkB xs a = true) : mnkC xs a = (mnkL xs a.toNat).map oneC := by unfold mnkC; rw [if_pos h]
theorem mnkB_iff {xs : List Int} {a : Int} : mnkB xs a = true ↔ isPermB xs = true ∧ xs.length ≤ 6 ∧ 0 ≤ a ∧ a < xs.length := by
  simp only [mnkB, Bool.and_eq_true, decide_eq_true_eq]
theorem mon_row {vs : List Int} {k i t : Nat} {z : List Int} (h : z ∈ monO vs k i ++ monT vs k i t) : z.length ≤ vs.length := by
  have key : ∀ s j, (trL (swapL vs s j)).length ≤ vs.length := fun s j => by rw [trL_len]; have := trimN_le (swapL vs s j) (swapL vs s j).length; rw [swapL_len] at *; omega
  rcases List.mem_append.1 h with h | h
  · obtain ⟨s, t, _, _, e⟩ := monO_mem i h; rw [e]; exact key _ _
  · obtain ⟨s, _, e⟩ := monT_mem t h; rw [e]; exact key _ _
end Go.Proofs.Ytjpoliibljjhnaa

/-
  The document's MonkProduct. Conditions: lengths below 2^40.
-/




namespace Go.Proofs.Ytjpoliibljjhnaa
open Go.RowKit Cls

def FreshCB (w w' : World) (e : Ending) (ts : List Tm) (b : Bool) : Prop :=
  ∃ A n c, e = .returned (.tuple #[.slice A n c, .bool b]) ∧ OwnTC w' w.heap.size w'.heap.size A n c ts ∧ Below w.heap.size w w'
theorem FreshCB.nil_ret {w w' : World} (h : Below w.heap.size w w') : FreshCB w w' (.returned (.tuple #[.slice none 0 0, .bool false])) [] false := ⟨none, 0, 0, rfl, OwnTC.nil _ _ _, h⟩

set_option maxRecDepth 100000 in
set_option maxHeartbeats 4000000 in
theorem specMonk_any (A : Option Addr) (n c : Nat) (xs : List Int) (a : Int) (w : World) (hs : SI w A n xs) (hnc : n ≤ c) (hn : n ≤ 1099511627776) :
    Calls Try.prog 35 #[.slice A n c, .int .i64 a] w fun e w' => FreshCB w w' e (mnkC xs a) (mnkB xs a) := by
  have HL := Lib.hid hs.1
  have hp := specIsPerm_any A n c xs w hs hnc hn
  cases hu : isPermB xs with
  | false =>
    rw [hu] at hp
    have HP := Lib.hid hp
    have HB0 : Hid (mnkB xs a = false) := Lib.hid (by unfold mnkB; rw [hu]; rfl)
    clear hs hp hu
    go_enter Try.func35, Try.ntmps35
    go_wp2_with (go_at_call 95; (with_reducible refine HP.out.mono ?_); rintro e w1 ⟨rfl, hd1⟩; have HD1 := Lib.hid hd1; clear hd1)
    go_returns
    rw [mnk_no HB0.out, HB0.out]
    exact FreshCB.nil_ret (HD1.out.below _)
  | true =>
    rw [hu] at hp
    have HP := Lib.hid hp
    have HU := Lib.hid hu
    have HPP := Lib.hid (isPermB_P hu)
    have HN7 : Hid (n ≤ 7) := Lib.hid (by have := (isPermB_P hu).2.1; have := HL.out; omega)
    have HN0 : Hid (1 ≤ n) := Lib.hid (by have := (isPermB_P hu).1; have := HL.out; omega)
    clear hp hu
    by_cases h7 : n = 7
    · have HB0 : Hid (mnkB xs a = false) := Lib.hid (by
        cases e : mnkB xs a with
        | false => rfl
        | true => have := (mnkB_iff.1 e).2.1; have := HL.out; omega)
      subst h7
      clear hs
      go_enter Try.func35, Try.ntmps35
      go_wp2_with (go_at_call 95; (with_reducible refine HP.out.mono ?_); rintro e w1 ⟨rfl, hd1⟩; have HD1 := Lib.hid hd1; clear hd1)
      go_returns
      rw [mnk_no HB0.out, HB0.out]
      exact FreshCB.nil_ret (HD1.out.below _)
    · have h7I : ((n : Int) == 7) = false := by simp; omega
      have H6 : Hid (n ≤ 6) := Lib.hid (by have := HN7.out; omega)
      have hwn : IntKind.i64.wrap ((n : Int) - 1) = (n : Int) - 1 := IntWalk.i64_in _ (by omega)
      by_cases hk : 0 ≤ a ∧ a ≤ (n : Int) - 1
      · obtain ⟨k, rfl⟩ : ∃ k : Nat, a = k := ⟨a.toNat, by omega⟩
        have HIN := Lib.hid (fun w => l1In_yes' hk.1 hk.2 w)
        have HBT : Hid (mnkB xs k = true) := Lib.hid (mnkB_iff.2 ⟨HU.out, by have := HL.out; have := H6.out; omega, hk.1, by have := HL.out; omega⟩)
        have HE := Lib.hid (mnk_yes HBT.out)
        have HKN : Hid (k < n) := Lib.hid (by omega)
        obtain ⟨N, hN⟩ : ∃ N, N = n + 1 := ⟨_, rfl⟩
        have HNE := Lib.hid hN
        have HGR : Hid (∀ w', Below w.heap.size w w' → Calls Try.prog 105 #[.slice A n c, .int .i64 ((n : Int) + 1)] w' fun e w2 => Fresh w' w2 e (vsM xs)) := Lib.hid (fun w' hb => by
          have h := l1Grow_any A n c (n + 1) xs w' (hs.below hb (Nat.le_refl _)) (by omega) (by have := H6.out; omega)
          rw [show ((n + 1 : Nat) : Int) = (n : Int) + 1 by omega] at h
          unfold vsM
          rw [HL.out]
          rw [HL.out] at h
          exact h)
        have HPV := Lib.hid (vsM_perm HPP.out (by rw [HL.out]; exact H6.out))
        have HLV : Hid ((vsM xs).length = N) := Lib.hid (by rw [vsM_len (by rw [HL.out]; exact H6.out), HL.out, hN])
        have HEM : Hid (mnkC xs k = (insF (monO (vsM xs) k (k + 1))).map oneC) := Lib.hid (by rw [HE.out]; rfl)
        obtain ⟨vs, hvs⟩ : ∃ vs, vs = vsM xs := ⟨_, rfl⟩
        rw [← hvs] at HGR HPV HLV HEM
        have HN7 : Hid (N ≤ 7) := Lib.hid (by have := H6.out; omega)
        have hn7 := HN7.out
        have HKN : Hid (k + 1 < N) := Lib.hid (by omega)
        have hkn := HKN.out
        clear hs hk hvs hN HE HL
        go_enter Try.func35, Try.ntmps35
        go_upto_region 5 with (first
          | (go_at_call 95; (with_reducible refine HP.out.mono ?_); rintro e w1 ⟨rfl, hd1⟩; have HD1 := Lib.hid hd1; clear hd1)
          | (go_at_call 88; (with_reducible refine (HIN.out _).mono ?_); rintro e w1 ⟨rfl, rfl⟩)
          | (go_at_call 105; (with_reducible refine (HGR.out _ (HD1.out.below _)).mono ?_); rintro e wv ⟨Av, nv, cv, rfl, hov, hbv⟩; have HOV := Lib.hid hov; have HBV := Lib.hid hbv; clear hov hbv))
        obtain rfl : nv = N := by rw [← HOV.out.len]; exact HLV.out
        obtain ⟨wz, hwz⟩ : ∃ wz, wz = wv.alloc (.cells #[] 117) := ⟨_, rfl⟩
        have HBV2 : Hid (Below w.heap.size w wv) := Lib.hid ((HD1.out.below _).trans (HBV.out.mono ((HD1.out.below w.heap.size).size)))
        have HBz : Hid (Below w.heap.size w wz) := Lib.hid (by rw [hwz]; exact HBV2.out.alloc HBV2.out.size _)
        have HOz : Hid (OwnTC wz w.heap.size wz.heap.size (some ⟨wv.heap.size, 0, none⟩) 0 0 []) := Lib.hid (by rw [hwz]; exact (OwnTC.empty wv).wide HBV2.out.size (by simp))
        have HVz : Hid (Own wz w.heap.size wv.heap.size Av nv cv vs) := Lib.hid (by
          rw [hwz]
          exact (HOV.out.below (Below.alloc_self _ _) (Nat.le_refl _)).wide (HD1.out.below w.heap.size).size (Nat.le_refl _))
        have HZz : Hid (wv.heap.size ≤ wz.heap.size) := Lib.hid (by rw [hwz]; simp)
        rw [← hwz]
        clear hwz
        obtain ⟨N, rfl⟩ : ∃ N, N = nv := ⟨nv, rfl⟩
        go_wp2_with fail
        go_loopw [7, 8] (fun ov iv wr => ∃ (i : Nat) (A1 : Option Addr) (n1 c1 : Nat), i ≤ k + 1 ∧ iv = .int .i64 i ∧ ov = .slice A1 n1 c1 ∧ OwnTC wr w.heap.size wr.heap.size A1 n1 c1 ((insF (monO vs k i)).map oneC) ∧ Below w.heap.size w wr ∧ Below wz.heap.size wz wr)
          (fun _ iv _ => k + 1 - (intOf iv).toNat)
        case atStart => exact ⟨0, _, 0, 0, Nat.zero_le _, rfl, rfl, HOz.out, HBz.out, Below.refl _ _⟩
        case round =>
          obtain ⟨i, A1, n1, c1, hi, rfl, rfl, ho, hb, hbb⟩ := hrel
          have HO := Lib.hid ho
          have HB := Lib.hid hb
          have HBB := Lib.hid hbb
          clear ho hb hbb
          by_cases hlt : i ≤ k
          · have hlI : (i : Int) ≤ (k : Int) := by omega
            have HLT := Lib.hid hlt
            go_wp2_with fail
            go_loopw [7, 9] (fun ov jv wr => ∃ (t : Nat) (j : Nat) (A1 : Option Addr) (n1 c1 : Nat), j = k + 1 + t ∧ j ≤ N ∧ jv = .int .i64 j ∧ ov = .slice A1 n1 c1 ∧ OwnTC wr w.heap.size wr.heap.size A1 n1 c1 ((insF (monO vs k i ++ monT vs k i t)).map oneC) ∧ Below w.heap.size w wr ∧ Below wz.heap.size wz wr)
              (fun _ jv _ => N - (intOf jv).toNat)
            case atStart => exact ⟨0, k + 1, A1, n1, c1, rfl, by have := HKN.out; omega, by go_num, rfl, by rw [show monT vs k i 0 = [] from rfl, List.append_nil]; exact HO.out, HB.out, HBB.out⟩
            case round =>
              obtain ⟨t, j, A1, n1, c1, hj, hjn, rfl, rfl, ho, hb, hbb⟩ := hrel
              clear HO HB HBB
              have HJ := Lib.hid hj
              have HO := Lib.hid ho
              have HB := Lib.hid hb
              have HBB := Lib.hid hbb
              have HVW : Hid (Own wr w.heap.size wv.heap.size Av N cv vs) := Lib.hid (HVz.out.below HBB.out HZz.out)
              have HZW : Hid (wv.heap.size ≤ wr.heap.size) := Lib.hid (Nat.le_trans HZz.out HBB.out.size)
              clear ho hb hbb hj
              by_cases hjl : j < N
              · have hjI : (j : Int) < (N : Int) := by omega
                have HJL := Lib.hid hjl
                have HT := Lib.hid (show t < vs.length - (k + 1) by rw [HLV.out]; have := HJ.out; omega)
                have HSWP := Lib.hid (l1Swap_any Av N cv i j vs wr HVW.out.si (by have := HLT.out; have := HKN.out; omega) hjl (by have := HJ.out; have := HLT.out; omega) (by have := HN7.out; omega))
                obtain ⟨z, hz⟩ : ∃ z, z = lenL (swapL vs i j) := ⟨_, rfl⟩
                obtain ⟨q, hq⟩ : ∃ q, q = lenL vs := ⟨_, rfl⟩
                have hqb : 0 ≤ q ∧ q ≤ 49 := by have := lenL_bounds (xs := vs) (by have := HN7.out; have := HLV.out; omega); rw [← hq] at this; exact this
                have HZ := Lib.hid hz.symm
                have HQ := Lib.hid hq.symm
                have hwq : IntKind.i64.wrap (q + 1) = q + 1 := IntWalk.i64_in _ (by omega)
                clear hz hq
                by_cases hcv : z = q + 1
                · have HCV : Hid (covB vs i j = true) := Lib.hid (by unfold covB; rw [HZ.out, HQ.out]; simp [hcv])
                  have HFR := Lib.hid (mon_fresh HPV.out HLT.out HT.out)
                  have HNX : Hid ((insF (monO vs k i ++ monT vs k i (t + 1))).map oneC = addC ((swapL vs i j).take (trimN (swapL vs i j) N)) 1 ((insF (monO vs k i ++ monT vs k i t)).map oneC)) := Lib.hid (by
                    have e1 : monT vs k i (t + 1) = monT vs k i t ++ [trL (swapL vs i j)] := by
                      show (if covB vs i (k + 1 + t) = true then _ else _) = _
                      rw [← HJ.out, if_pos HCV.out]
                    have e2 : (swapL vs i j).take (trimN (swapL vs i j) N) = trL (swapL vs i j) := by unfold trL; rw [swapL_len, HLV.out]
                    rw [e2, e1, ← List.append_assoc, insF_app, addC_one]
                    rw [insF_mem, HJ.out]
                    exact HFR.out)
                  have HFEW : Hid (n1 ≤ 1000) := Lib.hid (by
                    have h1 := HO.out.len
                    have h2 := insF_len (monO vs k i ++ monT vs k i t)
                    have h3 := mon_few (vs := vs) (by rw [HLV.out]; exact HN7.out) (k := k) (i := i) (t := t) (by have := HLT.out; have := HKN.out; have := HN7.out; omega) (by have := HJ.out; have := HN7.out; omega)
                    rw [List.length_map] at h1
                    omega)
                  have HTM : Hid (∀ u, u < n1 → tm ((insF (monO vs k i ++ monT vs k i t)).map oneC) u = (li (insF (monO vs k i ++ monT vs k i t)) u, 1)) := Lib.hid (fun u hu => tm_one (by have h1 := HO.out.len; rw [List.length_map] at h1; omega))
                  have HRW : Hid (∀ u, u < n1 → (tm ((insF (monO vs k i ++ monT vs k i t)).map oneC) u).1.length ≤ 1000) := Lib.hid (fun u hu => by
                    rw [HTM.out u hu]
                    exact li_len_of (m := 1000) (fun z hz => by have h := mon_row (insF_mem.1 hz); rw [HLV.out] at h; have := HN7.out; omega) u)
                  have HCT : Hid (∀ u, u < n1 → -1000000000000 ≤ (tm ((insF (monO vs k i ++ monT vs k i t)).map oneC) u).2 ∧ (tm ((insF (monO vs k i ++ monT vs k i t)).map oneC) u).2 ≤ 1000000000000) := Lib.hid (fun u hu => by
                    rw [HTM.out u hu]
                    exact (by decide : (-1000000000000 : Int) ≤ 1 ∧ (1 : Int) ≤ 1000000000000))
                  have HPOS : Hid (1 ≤ N) := Lib.hid (by have := HKN.out; omega)
                  obtain ⟨ts, hts⟩ : ∃ ts, ts = (insF (monO vs k i ++ monT vs k i t)).map oneC := ⟨_, rfl⟩
                  rw [← hts] at HO HNX HRW HCT
                  clear hts HTM
                  subst hcv
                  go_wp2_with (first
                    | (go_at_call 83; (with_reducible refine HSWP.out.mono ?_); rintro e w3 ⟨A3, n3, c3, rfl, ho3, hb3⟩
                       obtain rfl : n3 = N := by rw [← ho3.len, swapL_len]; exact HLV.out
                       have HO3 := Lib.hid ho3
                       have HB3 := Lib.hid hb3
                       have HL3 := Lib.hid (l1Length_any A3 n3 c3 (swapL vs i j) w3 ho3.si HN7.out)
                       clear ho3 hb3)
                    | (go_at_call 72; (with_reducible refine HL3.out.mono ?_); rintro e w4 ⟨rfl, hb4⟩; rw [HZ.out]; have HB4 : Hid (Below wr.heap.size wr w4) := Lib.hid (HB3.out.trans (hb4.mono HB3.out.size)); have HX4 := Lib.hid (HO3.out.below hb4 (Nat.le_refl _)); have HZ4 := Lib.hid hb4.size
                       have HL4 := Lib.hid (l1Length_any Av n3 cv vs w4 (HVW.out.below HB4.out HZW.out).si HN7.out); clear hb4)
                    | (go_at_call 72; (with_reducible refine HL4.out.mono ?_); rintro e w5 ⟨rfl, hb5⟩; rw [HQ.out]; have HB5 : Hid (Below wr.heap.size wr w5) := Lib.hid (HB4.out.trans (hb5.mono HB4.out.size)); have HX5 : Hid (Own w5 wr.heap.size w5.heap.size A3 n3 c3 (swapL vs i j)) := Lib.hid ((HX4.out.below (hb5.mono HZ4.out) (Nat.le_refl _)).wide (Nat.le_refl _) (Nat.le_trans HZ4.out hb5.size))
                       have HT5 := Lib.hid ((HO.out.below HB5.out (Nat.le_refl _)).si)
                       have HADD := Lib.hid (l3Add_any A1 A3 n1 c1 n3 c3 ts (swapL vs i j) 1 w5 HT5.out HX5.out.si ⟨HPOS.out, HN7.out⟩ HX5.out.cap HFEW.out HRW.out HCT.out (by decide) ⟨by decide, by decide⟩)
                       clear hb5)
                    | (go_at_call 106; (with_reducible refine HADD.out.mono ?_); rintro e w6 ⟨A6, n6, c6, rfl, ho6, hb6⟩; have HO6 := Lib.hid ho6; have HB6 := Lib.hid hb6; clear ho6 hb6)
                    | fail)
                  go_roundw
                  case rel => exact ⟨t + 1, j + 1, A6, n6, c6, by have := HJ.out; omega, by have := HJL.out; omega, by go_num, rfl, by rw [HNX.out]; exact HO6.out.wide (Nat.le_trans HB.out.size HB5.out.size) (Nat.le_refl _), HB.out.trans ((HB5.out.trans (HB6.out.mono HB5.out.size)).mono HB.out.size), HBB.out.trans ((HB5.out.trans (HB6.out.mono HB5.out.size)).mono HBB.out.size)⟩
                  case measure => have := HJL.out; simp [intOf]; omega
                · have HCV : Hid (covB vs i j = false) := Lib.hid (by unfold covB; rw [HZ.out, HQ.out]; simpa using hcv)
                  have HNX : Hid (monT vs k i (t + 1) = monT vs k i t) := Lib.hid (by
                    show (if covB vs i (k + 1 + t) = true then _ else _) = _
                    rw [← HJ.out, if_neg (by rw [HCV.out]; decide)])
                  go_wp2_with (first
                    | (go_at_call 83; (with_reducible refine HSWP.out.mono ?_); rintro e w3 ⟨A3, n3, c3, rfl, ho3, hb3⟩
                       obtain rfl : n3 = N := by rw [← ho3.len, swapL_len]; exact HLV.out
                       have HO3 := Lib.hid ho3
                       have HB3 := Lib.hid hb3
                       have HL3 := Lib.hid (l1Length_any A3 n3 c3 (swapL vs i j) w3 ho3.si HN7.out)
                       clear ho3 hb3)
                    | (go_at_call 72; (with_reducible refine HL3.out.mono ?_); rintro e w4 ⟨rfl, hb4⟩; rw [HZ.out]; have HB4 : Hid (Below wr.heap.size wr w4) := Lib.hid (HB3.out.trans (hb4.mono HB3.out.size))
                       have HL4 := Lib.hid (l1Length_any Av n3 cv vs w4 (HVW.out.below HB4.out HZW.out).si HN7.out); clear hb4)
                    | (go_at_call 72; (with_reducible refine HL4.out.mono ?_); rintro e w5 ⟨rfl, hb5⟩; rw [HQ.out]; have HB5 : Hid (Below wr.heap.size wr w5) := Lib.hid (HB4.out.trans (hb5.mono HB4.out.size)); clear hb5)
                    | fail)
                  go_roundw
                  case rel => exact ⟨t + 1, j + 1, A1, n1, c1, by have := HJ.out; omega, by have := HJL.out; omega, by go_num, rfl, by rw [HNX.out]; exact (HO.out.below HB5.out (Nat.le_refl _)).wide (Nat.le_refl _) HB5.out.size, HB.out.trans (HB5.out.mono HB.out.size), HBB.out.trans (HB5.out.mono HBB.out.size)⟩
                  case measure => have := HJL.out; simp [intOf]; omega
              · have hjI : ¬ (j : Int) < (N : Int) := by omega
                have HNX : Hid (monO vs k i ++ monT vs k i t = monO vs k (i + 1)) := Lib.hid (by
                  show _ = monO vs k i ++ monT vs k i (vs.length - (k + 1))
                  rw [HLV.out, show N - (k + 1) = t by have := HJ.out; omega])
                go_wp2
                go_roundw
                case rel => exact ⟨i + 1, A1, n1, c1, by have := HLT.out; omega, by go_num, rfl, by rw [← HNX.out]; exact HO.out, HB.out, HBB.out⟩
                case measure => have := HLT.out; simp [intOf]; omega
          · have hlI : ¬ (i : Int) ≤ (k : Int) := by omega
            obtain rfl : i = k + 1 := by omega
            go_wp2
            go_returns
            rw [HEM.out, HBT.out]
            exact ⟨A1, n1, c1, rfl, HO.out, HB.out⟩
      · have HB0 : Hid (mnkB xs a = false) := Lib.hid (by
          cases e : mnkB xs a with
          | false => rfl
          | true => have := (mnkB_iff.1 e).2.2; have := HL.out; omega)
        have HIN := Lib.hid (fun w => l1In_no' (a := a) (lo := 0) (hi := (n : Int) - 1) (by omega) w)
        clear hs
        go_enter Try.func35, Try.ntmps35
        go_wp2_with (first
          | (go_at_call 95; (with_reducible refine HP.out.mono ?_); rintro e w1 ⟨rfl, hd1⟩; have HD1 := Lib.hid hd1; clear hd1)
          | (go_at_call 88; (with_reducible refine (HIN.out _).mono ?_); rintro e w1 ⟨rfl, rfl⟩))
        go_returns
        rw [mnk_no HB0.out, HB0.out]
        exact FreshCB.nil_ret (HD1.out.below _)
end Go.Proofs.Ytjpoliibljjhnaa

/-
  The order of permutations: the specification's side. Conditions: lengths below 2^40.
-/

namespace Go.Proofs.Ytjpoliibljjhnaa
open Go.RowKit

/-- Does the first list keep the ranks of the second. -/
def belowP (us vs : List Int) (n : Nat) : Prop := ∀ r, r ≤ n → ∀ c : Nat, c ≤ n → rankN vs (c : Int) r ≤ rankN us (c : Int) r
def belowB (us vs : List Int) (n : Nat) : Bool := (List.range (n + 1)).all fun r => (List.range (n + 1)).all fun (c : Nat) => decide (rankN vs (c : Int) r ≤ rankN us (c : Int) r)
theorem belowB_iff (us vs : List Int) (n : Nat) : belowB us vs n = true ↔ belowP us vs n := by
  simp [belowB, belowP, Nat.lt_succ_iff]
theorem belowB_true {us vs : List Int} {n : Nat} (h : belowP us vs n) : belowB us vs n = true := (belowB_iff us vs n).2 h
theorem belowB_false {us vs : List Int} {n : Nat} (h : ¬ belowP us vs n) : belowB us vs n = false := by
  cases hb : belowB us vs n with
  | false => rfl
  | true => exact absurd ((belowB_iff us vs n).1 hb) h

/-- What IsBelowPerm answers. -/
def belowPerm (us vs : List Int) : Bool := isPermB us && (isPermB vs && (decide (us.length = vs.length) && belowB us vs us.length))
theorem belowPerm_1 {us vs : List Int} (h : isPermB us = false) : belowPerm us vs = false := by unfold belowPerm; rw [h]; rfl
theorem belowPerm_2 {us vs : List Int} (h : isPermB vs = false) : belowPerm us vs = false := by unfold belowPerm; rw [h]; simp
theorem belowPerm_3 {us vs : List Int} (h : us.length ≠ vs.length) : belowPerm us vs = false := by unfold belowPerm; simp [h]
theorem belowPerm_4 {us vs : List Int} (h1 : isPermB us = true) (h2 : isPermB vs = true) (h3 : us.length = vs.length) : belowPerm us vs = belowB us vs us.length := by unfold belowPerm; simp [h1, h2, h3]
end Go.Proofs.Ytjpoliibljjhnaa

/-
  The order of permutations: the program's side. A test that draws its order and holds two calls that make memory. Conditions: lengths below 2^40.
-/


namespace Go.Proofs.Ytjpoliibljjhnaa
open Go.RowKit

section
variable {P : Program} {ops : Array Oper} {C : World → Prop} {Q : Act → Prop} {a : Act} {o : Oper} {rest : List Oper}
theorem wp_region_class {id : Nat} {Q : Exit → Act → World → Prop} {w : World} {l : List Oper} (C : World → Prop) (hm : P.follows .mixedOrders = true) (hB : Region.lexB .any l.toArray = true) (hC : C w.drew)
    (h : wpQuiet P l.toArray C (fun a' => ∀ w', C w' → Q .normal a' w') l a) : (Code.region id l.toArray true).wp P Q a w :=
  wp_region_quiet hm hB hC (by simpa using h)
theorem q_move (hg : o.guard = none) (x : Operand) (ho : o.op = .move x) (h : wpQuiet P ops C Q rest (a.put o.dst (a.eval x))) : wpQuiet P ops C Q (o :: rest) a := by
  refine wpQuiet_step fun K hK => ?_
  simp only [Region.wanted, hg, if_true]
  refine ⟨a.eval x, fun w _ => ?_, hK _ h⟩
  unfold Oper.quietAt execOp
  simp only [ho]
  exact ⟨rfl, rfl⟩
theorem q_load (hg : o.guard = none) (ty : TypeId) (x : Operand) (ho : o.op = .load ty x) (g : Nat) (hx : a.eval x = .pointer (some ⟨g, 0, none⟩)) (t : TypeId) (cs : Array Value) (n : Nat) (e : TypeId)
    (hb : ∀ w, C w → Blk w g t cs) (hu : P.underlying ty = some (.array n e)) (hi : (P.info? ty).map (·.size) = some cs.size) (h : wpQuiet P ops C Q rest (a.put o.dst (.agg cs))) : wpQuiet P ops C Q (o :: rest) a := by
  refine wpQuiet_step fun K hK => ?_
  simp only [Region.wanted, hg, if_true]
  refine ⟨.agg cs, fun w hw => ?_, hK _ h⟩
  unfold Oper.quietAt execOp
  simp only [ho, hx, Instr.loadAt, Instr.sureAddr, Sem.run_bind, Sem.run_pure, Result.andThen_ok, run_loadVar_row w g t ty cs (0, 0) _ (hb w hw) hu rfl hi]
  exact ⟨rfl, rfl⟩
end
/-- Worlds in which nothing has turned that was there. -/
def After (wr w' : World) : Prop := Below wr.heap.size wr w'
theorem After.blk {wr w' : World} {g t : Nat} {cs : Array Value} (h : Blk wr g t cs) (ha : After wr w') : Blk w' g t cs := h.below ha h.lt

set_option maxHeartbeats 4000000 in
theorem implBelow_in (A A' : Option Addr) (n c c' : Nat) (us vs : List Int) (w : World) (hs : SI w A n us) (hs' : SI w A' n vs) (hn : n ≤ 1099511627776) (hu : isPermB us = true) (hv : isPermB vs = true) :
    Calls Try.prog 70 #[.slice A n c, .slice A' n c'] w fun e w' => e = .returned (.bool (belowB us vs n)) ∧ Below w.heap.size w w' := by
  have HU := Lib.hid hu
  have HV := Lib.hid hv
  have hl := hs.1
  have hl' := hs'.1
  have HL := Lib.hid (And.intro hl hl')
  have h7 : n ≤ 7 := by have := (isPermB_P hu).2.1; omega
  clear hu hv hl hl'
  go_enter Try.func70, Try.ntmps70
  go_wp2_with fail
  refine (arrayOf_x c HU.out hs hn).mono ?_
  rintro e w1 ⟨l, rfl, hlf, hb1⟩
  have HF := Lib.hid (hlf rfl)
  have hbx : Below w.heap.size w (w1.alloc (.cells (arrC l) 107)) := hb1.alloc hb1.size _
  have hK := Blk.new w1 107 (arrC l)
  clear hlf
  go_wp2_with fail
  obtain ⟨g1, hg1⟩ : ∃ g1, g1 = w1.heap.size := ⟨_, rfl⟩
  rw [← hg1] at hK ⊢
  clear hg1
  generalize w1.alloc (.cells (arrC l) 107) = w2 at *
  refine (arrayOf_x c' HV.out (hs'.below hbx (Nat.le_refl _)) hn).mono ?_
  rintro e w3 ⟨l', rfl, hlf', hb3⟩
  have HF' := Lib.hid (hlf' rfl)
  have hK3 := (hK.below hb3 hK.lt).alloc (.cells (arrC l') 107)
  have hK' := Blk.new w3 107 (arrC l')
  have hby : Below w.heap.size w (w3.alloc (.cells (arrC l') 107)) := (hbx.trans (hb3.mono hbx.size)).alloc ((hbx.trans (hb3.mono hbx.size)).size) _
  clear hlf' hK
  go_wp2
  obtain ⟨g2, hg2⟩ : ∃ g2, g2 = w3.heap.size := ⟨_, rfl⟩
  rw [← hg2] at hK' ⊢
  clear hg2
  generalize w3.alloc (.cells (arrC l') 107) = w4 at *
  clear hbx hb3 hb1 hs hs'
  have e1 : ∀ (x : Int) (r : Nat), r ≤ n → rankN l x r = rankN us x r := fun x r hr => rankN_congr x r (fun t ht => by rw [HF.out]; exact fillA_lt (by omega) (by omega))
  have e2 : ∀ (x : Int) (r : Nat), r ≤ n → rankN l' x r = rankN vs x r := fun x r hr => rankN_congr x r (fun t ht => by rw [HF'.out]; exact fillA_lt (by omega) (by omega))
  have E1 := Lib.hid e1
  have E2 := Lib.hid e2
  have HL7 : Hid (l.length = 7 ∧ l'.length = 7) := Lib.hid ⟨by rw [HF.out, fillA_len], by rw [HF'.out, fillA_len]⟩
  clear e1 e2
  go_loopw [37] (fun i wr => ∃ r : Nat, r ≤ n + 1 ∧ i = .int .i64 r ∧ (∀ r', r' < r → ∀ x : Nat, x ≤ n → rankN vs (x : Int) r' ≤ rankN us (x : Int) r') ∧ Blk wr g1 107 (arrC l) ∧ Blk wr g2 107 (arrC l') ∧ Below w.heap.size w wr)
    (fun i _ => n + 1 - (intOf i).toNat)
  case atStart => exact ⟨0, Nat.zero_le _, rfl, fun r' h => absurd h (by omega), hK3, hK', hby⟩
  case round =>
    obtain ⟨r, hr, rfl, hall, hb1, hb2, hbel⟩ := hrel
    have HA := Lib.hid hall
    have HB1 := Lib.hid hb1
    have HB2 := Lib.hid hb2
    have HB := Lib.hid hbel
    clear hall hb1 hb2 hbel hK3 hK' hby
    by_cases hlt : r ≤ n
    · have hrI : (r : Int) < (n : Int) + 1 := by omega
      go_wp2
      go_loopw [43] (fun i wr => ∃ x : Nat, x ≤ n + 1 ∧ i = .int .i64 x ∧ (∀ x' : Nat, x' < x → rankN vs (x' : Int) r ≤ rankN us (x' : Int) r) ∧ Blk wr g1 107 (arrC l) ∧ Blk wr g2 107 (arrC l') ∧ Below w.heap.size w wr)
        (fun i _ => n + 1 - (intOf i).toNat)
      case atStart => exact ⟨0, Nat.zero_le _, rfl, fun x' h => absurd h (by omega), HB1.out, HB2.out, HB.out⟩
      case round =>
        obtain ⟨x, hx, rfl, hall2, hc1, hc2, hbel2⟩ := hrel
        have HA2 := Lib.hid hall2
        have HC1 := Lib.hid hc1
        have HC2 := Lib.hid hc2
        have HBB := Lib.hid hbel2
        clear hall2 hc1 hc2 hbel2
        by_cases hxl : x ≤ n
        · have hxI : (x : Int) < (n : Int) + 1 := by omega
          obtain ⟨p, hp⟩ : ∃ p, p = rankN us (x : Int) r := ⟨_, rfl⟩
          obtain ⟨q, hq⟩ : ∃ q, q = rankN vs (x : Int) r := ⟨_, rfl⟩
          have call1 : ∀ w', After wr w' → Calls Try.prog 161 #[arr l, .int .i64 r, .int .i64 x] w' (fun e w'' => e = .returned (.int .i64 p) ∧ After wr w'') := fun w' hw' =>
            (rank_any l r x w' (by omega) HL7.out.1).mono fun e w'' ⟨he, hb⟩ => ⟨by rw [he, E1.out _ _ hlt, ← hp], hw'.trans (hb.mono hw'.size)⟩
          have call2 : ∀ w', After wr w' → Calls Try.prog 161 #[arr l', .int .i64 r, .int .i64 x] w' (fun e w'' => e = .returned (.int .i64 q) ∧ After wr w'') := fun w' hw' =>
            (rank_any l' r x w' (by omega) HL7.out.2).mono fun e w'' ⟨he, hb⟩ => ⟨by rw [he, E2.out _ _ hlt, ← hq], hw'.trans (hb.mono hw'.size)⟩
          have HP := Lib.hid hp
          have HQ := Lib.hid hq
          have CA1 := Lib.hid call1
          have CA2 := Lib.hid call2
          clear hp hq call1 call2
          go_wp2_with fail
          refine wp_region_class (After wr) (by kernel_rfl) (by kernel_rfl) (Below.refl _ _).drew ?_
          refine q_load rfl 107 (.tmp 5) rfl g1 rfl 107 (arrC l) 7 3 (fun w' h => After.blk HC1.out h) Try.undArr Try.infoArr ?_
          refine q_move rfl _ rfl ?_
          refine q_move rfl _ rfl ?_
          refine wpQuiet_step (fun K hK => ?_)
          go_simp
          refine ⟨.int .i64 p, fun w' hw' => ?_, hK _ ?_⟩
          · exact CA1.out w' hw'
          · clear hK K
            refine q_load rfl 107 (.tmp 7) rfl g2 rfl 107 (arrC l') 7 3 (fun w' h => After.blk HC2.out h) Try.undArr Try.infoArr ?_
            refine q_move rfl _ rfl ?_
            refine q_move rfl _ rfl ?_
            refine wpQuiet_step (fun K hK => ?_)
            go_simp
            refine ⟨.int .i64 q, fun w' hw' => ?_, hK _ ?_⟩
            · exact CA2.out w' hw'
            · clear hK K
              refine wpQuiet_step (fun K hK => ?_)
              go_simp
              refine ⟨.bool (decide (p < q)), fun w' _ => rfl, hK _ ?_⟩
              clear hK K
              refine wpQuiet_nil ?_
              intro w5 hw5
              have HC15 := Lib.hid (After.blk HC1.out hw5)
              have HC25 := Lib.hid (After.blk HC2.out hw5)
              have HB5 := Lib.hid (HBB.out.trans (Below.mono hw5 HBB.out.size))
              clear hw5
              by_cases hpq : p < q
              · have hd : decide (p < q) = true := by simpa using hpq
                rw [hd]
                have HPQ := Lib.hid hpq
                clear hd hpq
                go_wp2
                go_ret
                refine ⟨ret_bool (belowB_false (fun h => ?_)).symm, HB5.out⟩
                have := h r hlt x hxl
                have e1 := HP.out
                have e2 := HQ.out
                have e3 := HPQ.out
                omega
              · have hd : decide (p < q) = false := by simpa using hpq
                rw [hd]
                have HPQ := Lib.hid hpq
                clear hd hpq
                go_wp2
                go_roundw
                case rel => exact ⟨x + 1, by omega, by go_num, fun x' h => by
                  rcases Nat.lt_or_ge x' x with h1 | h1
                  · exact HA2.out x' h1
                  · obtain rfl : x' = x := by omega
                    have e1 := HP.out
                    have e2 := HQ.out
                    have e3 := HPQ.out
                    omega, HC15.out, HC25.out, HB5.out⟩
                case measure => simp [intOf]; omega
        · have hxn : x = n + 1 := by omega
          subst hxn
          go_wp2
          go_roundw
          case rel => exact ⟨r + 1, by omega, by go_num, fun r' h x' hx' => by
            rcases Nat.lt_or_ge r' r with h1 | h1
            · exact HA.out r' h1 x' hx'
            · obtain rfl : r' = r := by omega
              exact HA2.out x' (by omega), HC1.out, HC2.out, HBB.out⟩
          case measure => simp [intOf]; omega
    · have hrn : r = n + 1 := by omega
      subst hrn
      go_wp2
      go_ret
      exact ⟨ret_bool (belowB_true (fun r' h x hx => HA.out r' (by omega) x hx)).symm, HB.out⟩

set_option maxHeartbeats 2000000 in
theorem implBelow_any (A A' : Option Addr) (n c n' c' : Nat) (us vs : List Int) (w : World) (hs : SI w A n us) (hs' : SI w A' n' vs) (hn : n ≤ 1099511627776) (hn' : n' ≤ 1099511627776) :
    Calls Try.prog 70 #[.slice A n c, .slice A' n' c'] w fun e w' => e = .returned (.bool (belowPerm us vs)) ∧ Below w.heap.size w w' := by
  have hl := hs.1
  have hl' := hs'.1
  cases hu : isPermB us with
  | true =>
    cases hv : isPermB vs with
    | true =>
      by_cases hnn : n = n'
      · subst hnn
        rw [belowPerm_4 hu hv (by omega), hl]
        exact implBelow_in A A' n c c' us vs w hs hs' hn hu hv
      · have hne' : ¬ (n : Int) = (n' : Int) := by omega
        have HE := Lib.hid (belowPerm_3 (us := us) (vs := vs) (by omega))
        have HU := Lib.hid hu
        have HV := Lib.hid hv
        clear hu hv hl hl'
        go_enter Try.func70, Try.ntmps70
        go_wp2_with fail
        refine (arrayOf_x c HU.out hs hn).mono ?_
        rintro e w1 ⟨l, rfl, -, hb1⟩
        have hbx : Below w.heap.size w (w1.alloc (.cells (arrC l) 107)) := hb1.alloc hb1.size _
        go_wp2_with fail
        generalize w1.alloc (.cells (arrC l) 107) = w2 at *
        refine (arrayOf_x c' HV.out (hs'.below hbx (Nat.le_refl _)) hn').mono ?_
        rintro e w3 ⟨l', rfl, -, hb3⟩
        go_wp2
        go_ret
        exact ⟨ret_bool HE.out.symm, ((hbx.trans (hb3.mono hbx.size)).alloc ((hbx.trans (hb3.mono hbx.size)).size) _)⟩
    | false =>
      have HE := Lib.hid (belowPerm_2 (us := us) hv)
      have HU := Lib.hid hu
      have HV := Lib.hid hv
      clear hu hv hl hl'
      go_enter Try.func70, Try.ntmps70
      go_wp2_with fail
      refine (arrayOf_x c HU.out hs hn).mono ?_
      rintro e w1 ⟨l, rfl, -, hb1⟩
      have hbx : Below w.heap.size w (w1.alloc (.cells (arrC l) 107)) := hb1.alloc hb1.size _
      go_wp2_with fail
      generalize w1.alloc (.cells (arrC l) 107) = w2 at *
      refine (arrayOf_x c' HV.out (hs'.below hbx (Nat.le_refl _)) hn').mono ?_
      rintro e w3 ⟨l', rfl, -, hb3⟩
      go_wp2
      go_ret
      exact ⟨ret_bool HE.out.symm, ((hbx.trans (hb3.mono hbx.size)).alloc ((hbx.trans (hb3.mono hbx.size)).size) _)⟩
  | false =>
    obtain ⟨b, hv⟩ : ∃ b, isPermB vs = b := ⟨_, rfl⟩
    have HE := Lib.hid (belowPerm_1 (vs := vs) hu)
    have HU := Lib.hid hu
    have HV := Lib.hid hv
    clear hu hv hl hl'
    go_enter Try.func70, Try.ntmps70
    go_wp2_with fail
    refine (arrayOf_x c HU.out hs hn).mono ?_
    rintro e w1 ⟨l, rfl, -, hb1⟩
    have hbx : Below w.heap.size w (w1.alloc (.cells (arrC l) 107)) := hb1.alloc hb1.size _
    go_wp2_with fail
    generalize w1.alloc (.cells (arrC l) 107) = w2 at *
    refine (arrayOf_x c' HV.out (hs'.below hbx (Nat.le_refl _)) hn').mono ?_
    rintro e w3 ⟨l', rfl, -, hb3⟩
    go_wp2
    go_ret
    exact ⟨ret_bool HE.out.symm, ((hbx.trans (hb3.mono hbx.size)).alloc ((hbx.trans (hb3.mono hbx.size)).size) _)⟩
end Go.Proofs.Ytjpoliibljjhnaa

/-
  The program's test of a cover. Conditions: places below the permutation's size.
-/




namespace Go.Proofs.Ytjpoliibljjhnaa
open Go.RowKit

theorem fill_swap {xs : List Int} {i j : Nat} (hij : i < j) (hj : j < xs.length) (h7 : xs.length ≤ 7) : swapL (fillA xs xs.length) i j = fillA (swapL xs i j) xs.length := by
  apply List.ext_getElem (by rw [swapL_len, fillA_len, fillA_len])
  intro t h1 h2
  rw [swapL_len, fillA_len] at h1
  rw [← nth_get (by rw [swapL_len, fillA_len]; exact h1), ← nth_get (by rw [fillA_len]; exact h1), swapL_nth (by rw [fillA_len]; omega) (by rw [fillA_len]; omega) (by rw [fillA_len]; exact h1), fillA_lt (show i < xs.length by omega) (by omega), fillA_lt hj (by omega), fillA_nth xs _ t h1, fillA_nth (swapL xs i j) _ t h1]
  by_cases ht : t < xs.length
  · rw [if_pos ht, if_pos ht, swapL_nth (by omega) hj ht]
  · rw [if_neg ht, if_neg ht, if_neg (by omega), if_neg (by omega)]
theorem cov_fill {xs : List Int} (h : isPermP xs) {i j : Nat} (hij : i < j) (hj : j < xs.length) : covB xs i j = decide (invSum (swapL (fillA xs xs.length) i j) 7 = invSum (fillA xs xs.length) 7 + 1) := by
  have h7 := h.2.1
  have e := invSum_fill (swap_pp h hij hj)
  rw [swapL_len] at e
  rw [fill_swap hij hj h7, invSum_fill h, e]
  rfl

set_option maxHeartbeats 2000000 in
theorem isCovered_any (xs : List Int) (h : isPermP xs) (i j : Nat) (w : World) (hij : i < j) (hj : j < xs.length) :
    Calls Try.prog 98 #[arr (fillA xs xs.length), .int .i64 i, .int .i64 j] w fun e w' => e = .returned (.bool (covB xs i j)) ∧ Below w.heap.size w w' := by
  rw [cov_fill h hij hj]
  have h7 := h.2.1
  obtain ⟨l, hl⟩ : ∃ l, l = fillA xs xs.length := ⟨_, rfl⟩
  have hll : l.length = 7 := by rw [hl, fillA_len]
  rw [← hl]
  obtain ⟨p, hp⟩ : ∃ p, p = invSum (swapL l i j) 7 := ⟨_, rfl⟩
  obtain ⟨q, hq⟩ : ∃ q, q = invSum l 7 := ⟨_, rfl⟩
  have hqb : 0 ≤ q ∧ q ≤ 1000 := by have := invSum_bounds l 7; rw [← hq] at this; omega
  obtain ⟨w1, hw1⟩ : ∃ w1, w1 = w.alloc (.cells (arrC l) 107) := ⟨_, rfl⟩
  have HK : Hid (Blk w1 w.heap.size 107 (arrC l)) := Lib.hid (by rw [hw1]; exact Blk.new w _ _)
  have HB1 : Hid (Below w.heap.size w w1) := Lib.hid (by rw [hw1]; exact Below.alloc_self _ _)
  have HW := Lib.hid hw1
  have call1 : ∀ w', After w1 w' → Calls Try.prog 99 #[arr l, .int .i64 i, .int .i64 j] w' (fun e w'' => e = .returned (arr (swapL l i j)) ∧ After w1 w'') := fun w' hw' =>
    (exchanged_any l i j w' (by omega) (by omega) (by omega) hll).mono fun e w'' ⟨he, hb⟩ => ⟨he, hw'.trans (hb.mono hw'.size)⟩
  have call2 : ∀ w', After w1 w' → Calls Try.prog 189 #[arr (swapL l i j)] w' (fun e w'' => e = .returned (.int .i64 p) ∧ After w1 w'') := fun w' hw' =>
    (length_any (swapL l i j) w').mono fun e w'' ⟨he, hb⟩ => ⟨by rw [he, ← hp], hw'.trans (hb.mono hw'.size)⟩
  have call3 : ∀ w', After w1 w' → Calls Try.prog 189 #[arr l] w' (fun e w'' => e = .returned (.int .i64 q) ∧ After w1 w'') := fun w' hw' =>
    (length_any l w').mono fun e w'' ⟨he, hb⟩ => ⟨by rw [he, ← hq], hw'.trans (hb.mono hw'.size)⟩
  rw [← hp, ← hq]
  have CA1 := Lib.hid call1
  have CA2 := Lib.hid call2
  have CA3 := Lib.hid call3
  have hwq : IntKind.i64.wrap (q + 1) = q + 1 := IntWalk.i64_in _ (by omega)
  have HWQ := Lib.hid hwq
  clear hp hq call1 call2 call3 hl hll hwq hw1 h h7
  obtain ⟨r, hr⟩ : ∃ r, r = swapL l i j := ⟨_, rfl⟩
  rw [← hr] at CA1 CA2
  clear hr
  go_enter Try.func98, Try.ntmps98
  go_upto_region 1 with fail
  rw [← HW.out]
  refine wp_region_class (After w1) (by kernel_rfl) (by kernel_rfl) (Below.refl _ _).drew ?_
  refine q_load rfl 107 (.tmp 3) rfl w.heap.size rfl 107 (arrC l) 7 3 (fun w' h => After.blk HK.out h) Try.undArr Try.infoArr ?_
  refine q_move rfl _ rfl ?_
  refine q_move rfl _ rfl ?_
  refine wpQuiet_step (fun K hK => ?_)
  go_simp
  refine ⟨arr r, fun w' hw' => ?_, hK _ ?_⟩
  · exact CA1.out w' hw'
  clear hK K
  refine wpQuiet_step (fun K hK => ?_)
  go_simp
  refine ⟨.int .i64 p, fun w' hw' => ?_, hK _ ?_⟩
  · exact CA2.out w' hw'
  clear hK K
  refine q_load rfl 107 (.tmp 3) rfl w.heap.size rfl 107 (arrC l) 7 3 (fun w' h => After.blk HK.out h) Try.undArr Try.infoArr ?_
  refine wpQuiet_step (fun K hK => ?_)
  go_simp
  refine ⟨.int .i64 q, fun w' hw' => ?_, hK _ ?_⟩
  · exact CA3.out w' hw'
  clear hK K
  refine wpQuiet_step (fun K hK => ?_)
  go_simp
  refine ⟨_, fun w' _ => rfl, hK _ ?_⟩
  clear hK K
  refine wpQuiet_step (fun K hK => ?_)
  go_simp
  refine ⟨_, fun w' _ => rfl, hK _ ?_⟩
  clear hK K
  refine wpQuiet_step (fun K hK => ?_)
  go_simp
  refine ⟨_, fun w' _ => rfl, hK _ ?_⟩
  clear hK K
  refine wpQuiet_nil ?_
  intro w5 hw5
  have HB5 := Lib.hid (HB1.out.trans (Below.mono hw5 HB1.out.size))
  clear hw5
  go_wp2
  go_ret
  exact ⟨ret_bool (by rw [HWQ.out]; rfl), HB5.out⟩
end Go.Proofs.Ytjpoliibljjhnaa

/-
  The library's sort: the worlds that it passes through, in the words of slices that a call owns. Plain lemmas. No conditions.
-/



namespace Go.Proofs.Ytjpoliibljjhnaa
open Go.RowKit

theorem ix_lt {n : Nat} (h : 0 < n) (i : Nat) : (if i < n then i else 0) < n := by split <;> omega
/-- A number as a place among the first n. -/
def ix (n i : Nat) : Nat := if i < n then i else 0
theorem ix_of {n i : Nat} (h : i < n) : ix n i = i := if_pos h
theorem ix_in {n : Nat} (h : 0 < n) (i : Nat) : ix n i < n := ix_lt h i

theorem sortWorld_block (enc : Nat → List Value) (size : Nat) (w : World) (g m : Nat) (dk : Array Nat) (os : Array Obj) {cur : Array Value} {e : TypeId} {fr : Nat × Nat} (h : w.heap[g]? = some (.cells cur e fr)) :
    (sortWorldK enc size w g 0 m dk os).heap[g]? = some (.cells (Go.Sort.putCells id 0 (Go.Sort.flatK enc size dk) cur) e fr) := by
  have hlt : g < w.heap.size := by
    rcases Nat.lt_or_ge g w.heap.size with h1 | h1
    · exact h1
    · rw [Array.getElem?_eq_none h1] at h; cases h
  unfold sortWorldK
  rw [Go.Sort.heap_grow_old _ _ (by rw [show (Go.Sort.putRowK enc size (Go.Sort.ahead w m) g 0 dk).heap.size = w.heap.size by simp [Go.Sort.putRowK, Go.Sort.ahead]]; exact hlt)]
  simp [Go.Sort.putRowK, Go.Sort.putRow, Go.Sort.mapBlock, Go.Sort.ahead, Array.getElem?_modify, h, Go.Sort.onCells]
theorem sortWorld_grown (enc : Nat → List Value) (size : Nat) (w : World) (g m : Nat) (dk : Array Nat) (os : Array Obj) : w.grownBy (sortWorldK enc size w g 0 m dk os) (some g) := by
  refine ⟨rfl, rfl, rfl, by simp [sortWorldK, Go.Sort.putRowK, Go.Sort.ahead], fun k hk hne => ?_⟩
  unfold sortWorldK
  rw [Go.Sort.heap_grow_old _ _ (by rw [show (Go.Sort.putRowK enc size (Go.Sort.ahead w m) g 0 dk).heap.size = w.heap.size by simp [Go.Sort.putRowK, Go.Sort.ahead]]; exact hk)]
  have hgk : g ≠ k := fun e => hne (by rw [e])
  simp [Go.Sort.putRowK, Go.Sort.putRow, Go.Sort.mapBlock, Go.Sort.ahead, Array.getElem?_modify, hgk]
/-- The row that the sort leaves is owned as the one that came. -/
theorem sortWorld_owns {w : World} {base size n c g : Nat} {e : TypeId} {xs : List Value} {enc : Nat → List Value} (h : w.ownsRow base e size (.slice (some ⟨g, 0, none⟩) n c) n xs) (m : Nat) (dk : Array Nat) (os : Array Obj) (hd : dk.size = n) :
    (sortWorldK enc size w g 0 m dk os).ownsRow base e size (.slice (some ⟨g, 0, none⟩) n c) n (Go.Sort.flatK enc size dk).toList := by
  obtain ⟨_, h2⟩ := h
  rcases h2 with ⟨hx, _⟩ | ⟨g', cap, cur, hv, hlo, hg, hnc, hcm, hcs, htake⟩
  · cases hx
  · simp only [Value.slice.injEq, Option.some.injEq, Addr.mk.injEq, and_true, true_and] at hv
    obtain ⟨rfl, rfl⟩ := hv
    refine ⟨by simp [hd], .inr ⟨g, c, _, rfl, hlo, sortWorld_block enc size w g m dk os hg, hnc, hcm, by simp [Go.Sort.putCells, hcs], ?_⟩⟩
    apply List.ext_getElem?
    intro j
    have hle : n * size ≤ cur.size := by rw [hcs]; exact Nat.mul_le_mul_right _ hnc
    by_cases hj : j < n * size
    · rw [List.getElem?_take_of_lt hj]
      simp only [Array.getElem?_toList, Go.Sort.putCells, Array.getElem?_mapIdx]
      rw [Array.getElem?_eq_getElem (show j < cur.size by omega), Option.map_some, if_pos ⟨Nat.zero_le _, by simp [hd]; omega⟩, Array.getElem?_eq_getElem (show j < (Go.Sort.flatK enc size dk).size by simp [hd]; omega), Nat.sub_zero, getElem!_pos (Go.Sort.flatK enc size dk) j (by simp [hd]; omega)]
      rfl
    · rw [List.getElem?_eq_none (by simp; omega), List.getElem?_eq_none (by simp [hd]; omega)]
/-- What an owned row holds, in the sort's words. -/
theorem holds_of_owns {w : World} {base size n c g : Nat} {e : TypeId} {xs : List Value} {enc : Nat → List Value} (h : w.ownsRow base e size (.slice (some ⟨g, 0, none⟩) n c) n xs) (d : Array Nat) (hx : xs = (Go.Sort.flatK enc size d).toList) : Go.Sort.HoldsK enc size w g 0 d := by
  intro j hj
  subst hx
  refine ⟨?_, h.frozenAt _⟩
  have hl := h.1
  simp at hl
  rw [Nat.zero_add, h.cellAt j (by rw [← hl]; simpa using hj)]
  simp only [Array.getElem?_toList]
  rw [Array.getElem?_eq_getElem hj, getElem!_pos (Go.Sort.flatK enc size d) j hj]
  rfl
/-- What was sorted, as lists: the places of the numbers in their new order. -/
theorem sorted_lists {n : Nat} {lt : Nat → Nat → Bool} {dk : Array Nat} (hp : Go.Sort.PermIn 0 (Array.range n).size (Array.range n) dk) (hs : Go.Sort.SortedIn lt 0 (Array.range n).size dk) :
    dk.size = n ∧ dk.toList.Perm (List.range n) ∧ dk.toList.Pairwise (fun i j => lt j i = false) := by
  obtain ⟨h1, _, h3⟩ := hp
  have hsz : dk.size = n := by simpa using h1
  refine ⟨hsz, ?_, ?_⟩
  · have e1 : dk.extract 0 (Array.range n).size = dk := by
      rw [Array.size_range, ← hsz]; simp
    have e2 : (Array.range n).extract 0 (Array.range n).size = Array.range n := by simp
    rw [e1, e2] at h3
    simpa using h3
  · rw [List.pairwise_iff_getElem]
    intro i j hi hj hij
    simp at hi hj
    have := hs i j (Nat.zero_le _) hij (by rw [Array.size_range]; omega)
    rw [getElem!_pos dk i (by omega), getElem!_pos dk j (by omega)] at this
    simpa using this
end Go.Proofs.Ytjpoliibljjhnaa

/-
  A number inserted into rows: what comes of it (plain lists); one list of a list replaced in memory. Conditions: as each lemma says.
-/


namespace Go.Proofs.Ytjpoliibljjhnaa
open Go.RowKit

/-- The first place with a number above x. -/
def gtN (xs : List Int) (x : Int) : Nat := (xs.takeWhile fun y => decide (y ≤ x)).length
theorem gtN_le (xs : List Int) (x : Int) : gtN xs x ≤ xs.length := (List.takeWhile_sublist _).length_le
theorem gtN_is {x : Int} : ∀ (xs : List Int) (k : Nat), k ≤ xs.length → (∀ j, j < k → nth xs j ≤ x) → (k = xs.length ∨ ¬ nth xs k ≤ x) → gtN xs x = k
  | [], k, hk, _, _ => by
    have : k = 0 := by simpa using hk
    subst this; rfl
  | y :: r, 0, _, _, h2 => by
    rcases h2 with h | h
    · simp at h
    · have h' : ¬ y ≤ x := h
      simp [gtN, h']
  | y :: r, k + 1, hk, h1, h2 => by
    have h0 : y ≤ x := h1 0 (by omega)
    have hS : ∀ j, nth (y :: r) (j + 1) = nth r j := fun j => by simp [nth, List.getD]
    have ih := gtN_is r k (by simpa using hk) (fun j hj => by have := h1 (j + 1) (by omega); rwa [hS] at this) (by
      rcases h2 with h | h
      · exact .inl (by simpa using h)
      · exact .inr (by rwa [hS] at h))
    have e : gtN (y :: r) x = gtN r x + 1 := by simp [gtN, h0]
    rw [e, ih]
/-- The number that is inserted into row i. -/
def xI (ls : List (List Int)) (x : Int) : Nat → Int
  | 0 => x
  | i + 1 => nth (li ls i) (gtN (li ls i) (xI ls x i))
/-- The rows when i of them have been gone through. -/
def rI (ls : List (List Int)) (x : Int) : Nat → List (List Int)
  | 0 => ls
  | i + 1 => (rI ls x i).set i ((li ls i).set (gtN (li ls i) (xI ls x i)) (xI ls x i))
theorem rI_len (ls : List (List Int)) (x : Int) : ∀ i, (rI ls x i).length = ls.length
  | 0 => rfl
  | i + 1 => by simp [rI, rI_len ls x i]
theorem rI_li {ls : List (List Int)} {x : Int} : ∀ {i j : Nat}, i ≤ j → i ≤ ls.length → li (rI ls x i) j = li ls j
  | 0, j, _, _ => rfl
  | i + 1, j, h, hl => by
    show li ((rI ls x i).set i _) j = _
    rw [li_set (by rw [rI_len]; omega), if_neg (by omega)]
    exact rI_li (by omega) (by omega)
def goesI (ls : List (List Int)) (x : Int) (j : Nat) : Prop := gtN (li ls j) (xI ls x j) < (li ls j).length
/-- What inserting leaves, and the row that has grown. -/
def InsIs (ls : List (List Int)) (x : Int) (out : List (List Int)) (row : Nat) : Prop :=
  (row < ls.length ∧ (∀ j, j < row → goesI ls x j) ∧ ¬ goesI ls x row ∧ out = (rI ls x row).set row (li ls row ++ [xI ls x row])) ∨ (row = ls.length ∧ (∀ j, j < row → goesI ls x j) ∧ out = rI ls x row ++ [[xI ls x row]])
def insK (ls : List (List Int)) (x : Int) : Nat → Nat → Nat
  | 0, i => i
  | f + 1, i => if i < ls.length ∧ gtN (li ls i) (xI ls x i) < (li ls i).length then insK ls x f (i + 1) else i
def insRow (ls : List (List Int)) (x : Int) : Nat := insK ls x ls.length 0
def insOut (ls : List (List Int)) (x : Int) : List (List Int) :=
  if insRow ls x < ls.length then (rI ls x (insRow ls x)).set (insRow ls x) (li ls (insRow ls x) ++ [xI ls x (insRow ls x)]) else rI ls x (insRow ls x) ++ [[xI ls x (insRow ls x)]]
theorem insK_is {ls : List (List Int)} {x : Int} {row : Nat} (hr : row ≤ ls.length) (h1 : ∀ j, j < row → goesI ls x j) (h2 : row = ls.length ∨ ¬ goesI ls x row) : ∀ f i, i ≤ row → row ≤ i + f → insK ls x f i = row
  | 0, i, hi, hf => by show i = row; omega
  | f + 1, i, hi, hf => by
    unfold insK
    by_cases e : i = row
    · subst e
      rw [if_neg]
      rintro ⟨a, b⟩
      rcases h2 with h | h
      · omega
      · exact h b
    · rw [if_pos ⟨by omega, h1 i (by omega)⟩]
      exact insK_is hr h1 h2 f (i + 1) (by omega) (by omega)
theorem ins_is {ls : List (List Int)} {x : Int} {out : List (List Int)} {row : Nat} (h : InsIs ls x out row) : insRow ls x = row ∧ insOut ls x = out := by
  have e : insRow ls x = row := by
    rcases h with ⟨a, b, c, _⟩ | ⟨a, b, _⟩
    · exact insK_is (by omega) b (.inr c) ls.length 0 (by omega) (by omega)
    · exact insK_is (by omega) b (.inl a) ls.length 0 (by omega) (by omega)
  refine ⟨e, ?_⟩
  unfold insOut
  rw [e]
  rcases h with ⟨a, b, c, d⟩ | ⟨a, b, d⟩
  · rw [if_pos a, d]
  · rw [if_neg (by omega), d]
theorem OwnLE.cellAt {E : Nat → Sv} {w : World} {lo hi g n c : Nat} {ls : List (List Int)} (h : OwnLE E w lo hi (some ⟨g, 0, none⟩) n c ls) {k : Nat} (hk : k < n) : w.cell? ⟨g, k, none⟩ = some (sv (E k)) := by
  rw [h.2.1.cellAt k (by omega), heads_get _ hk]
theorem OwnLE.place {E : Nat → Sv} {w : World} {lo hi n c : Nat} {A : Option Addr} {ls : List (List Int)} (h : OwnLE E w lo hi A n c ls) (hn : 0 < n) : ∃ g, A = some ⟨g, 0, none⟩ ∧ lo ≤ g ∧ g < hi :=
  OwnL.place ⟨E, h⟩ hn
theorem Own.row_lt' {w : World} {lo hi n c : Nat} {A : Option Addr} {xs : List Int} (h : Own w lo hi A n c xs) {g : Nat} (hg : rowB A = some g) : lo ≤ g ∧ g < hi := h.lt g (by rw [ownB]; exact hg)
theorem OwnLE.row_lt' {E : Nat → Sv} {w : World} {lo hi n c : Nat} {A : Option Addr} {ls : List (List Int)} (h : OwnLE E w lo hi A n c ls) {g : Nat} (hg : rowB A = some g) : lo ≤ g ∧ g < hi :=
  ⟨(h.2.1.lt g (by rw [ownB]; exact hg)).1, h.2.2.1 g (by rw [ownB]; exact hg)⟩
/-- One of the lists replaced: by one in the same block, or in a new one. -/
theorem OwnLE.repl {E : Nat → Sv} {w w2 : World} {lo hi g n c : Nat} {ls : List (List Int)} (h : OwnLE E w lo hi (some ⟨g, 0, none⟩) n c ls) {k : Nat} (hk : k < n) (hhi : hi ≤ w.heap.size) (hg : w.grownBy w2 (rowB (E k).1)) {A2 : Option Addr} {n2 c2 : Nat} {ys : List Int}
    (hx : Own w2 lo w2.heap.size A2 n2 c2 ys) (hat : rowB A2 = rowB (E k).1 ∨ ∃ q, rowB A2 = some q ∧ w.heap.size ≤ q) :
    OwnL (w2.setCell ⟨g, k, none⟩ (.slice A2 n2 c2)) lo w2.heap.size (some ⟨g, 0, none⟩) n c (ls.set k ys) ∧ w2.grownBy (w2.setCell ⟨g, k, none⟩ (.slice A2 n2 c2)) (some g) := by
  obtain ⟨hl, ho, hh, he, hne, hdd⟩ := h
  have hgl := hh g rfl
  have hs := hg.size
  have hrk : ∀ b, rowB (E k).1 = some b → (sv (E k)).ownBlock = some b := fun b hb => by unfold sv; rw [ownB]; exact hb
  have ho2 : w2.ownsRow lo 22 1 (.slice (some ⟨g, 0, none⟩) n c) n (heads n E) := ho.kept hg (.inr fun e => hne k g hk (hrk g e.symm) rfl)
  have he2 : ∀ j, j < n → j ≠ k → Own w2 lo hi (E j).1 (E j).2.1 (E j).2.2 (li ls j) := fun j hj hjk => (he j hj).kept hg (fun b hb e => by
    rcases Nat.lt_or_gt_of_ne hjk with h | h
    · exact hdd j k b h hk hb (hrk b e)
    · exact hdd k j b h hj (hrk b e) hb)
  have hA2g : ∀ b, (sv ((A2, n2, c2) : Sv)).ownBlock = some b → b ≠ g := fun b hb => by
    have hb' : rowB A2 = some b := by rw [← ownB A2 n2 c2]; exact hb
    rcases hat with e | ⟨q, e, hq⟩
    · intro h; subst h; exact hne k b hk (hrk b (e ▸ hb')) rfl
    · rw [e] at hb'; injection hb' with hb'; omega
  have hA2E : ∀ j b, j < n → j ≠ k → (sv ((A2, n2, c2) : Sv)).ownBlock = some b → (sv (E j)).ownBlock ≠ some b := fun j b hj hjk hb e2 => by
    have hb' : rowB A2 = some b := by rw [← ownB A2 n2 c2]; exact hb
    rcases hat with e | ⟨q, e, hq⟩
    · have h3 := hrk b (e ▸ hb')
      rcases Nat.lt_or_gt_of_ne hjk with h | h
      · exact hdd j k b h hk e2 h3
      · exact hdd k j b h hj h3 e2
    · rw [e] at hb'; injection hb' with hb'
      have := (he j hj).lt b e2
      omega
  obtain ⟨o1, gg⟩ := ho2.stored k (.slice A2 n2 c2)
  refine ⟨⟨fun j => if j = k then (A2, n2, c2) else E j, by simpa using hl, ?_, fun b hb => by have := hh b hb; omega, fun j hj => ?_, fun j b hj hb => ?_, fun i j b hij hj hb => ?_⟩, gg⟩
  · exact row1_eq o1 (heads_set E hk (A2, n2, c2))
  · dsimp only
    rw [li_set (by omega)]
    by_cases e : j = k
    · rw [if_pos e, if_pos e]
      exact hx.kept gg (fun b hb e2 => by injection e2 with e2; exact hA2g b hb e2.symm)
    · rw [if_neg e, if_neg e]
      exact ((he2 j hj e).kept gg (fun b hb e2 => hne j b hj hb e2)).wide (Nat.le_refl _) (by omega)
  · dsimp only at hb
    by_cases e : j = k
    · rw [if_pos e] at hb
      have := hA2g b hb
      intro e2; simp [Value.ownBlock] at e2; omega
    · rw [if_neg e] at hb
      exact hne j b hj hb
  · dsimp only at hb ⊢
    by_cases e : i = k
    · rw [if_pos e] at hb
      rw [if_neg (by omega)]
      exact hA2E j b hj (by omega) hb
    · rw [if_neg e] at hb
      by_cases e' : j = k
      · rw [if_pos e']
        intro e2
        exact hA2E i b (by omega) e e2 hb
      · rw [if_neg e']
        exact hdd i j b hij hj hb
end Go.Proofs.Ytjpoliibljjhnaa

/-
  slices.SortFunc over lists of numbers by slices.Compare: a permutation in ascending order, in the slice's own blocks. Conditions: lengths below 2^40.
-/






namespace Go.Proofs.Ytjpoliibljjhnaa
open Go.RowKit

/-- The order as the library's sort wants it. -/
theorem swo_cmpL (f : Nat → List Int) : Go.Sort.SWO (ltOf fun i j : Nat => cmpL (f i) (f j)) where
  irrefl i := by
    show decide (cmpL (f i) (f i) < 0) = false
    rw [cmpL_self]; rfl
  trans i j k h1 h2 := by
    have h1 : cmpL (f i) (f j) < 0 := of_decide_eq_true h1
    have h2 : cmpL (f j) (f k) < 0 := of_decide_eq_true h2
    exact decide_eq_true (cmpL_tr h1 h2)
  ntrans i j k h1 h2 := by
    have h1 : ¬ cmpL (f i) (f j) < 0 := of_decide_eq_false h1
    have h2 : ¬ cmpL (f j) (f k) < 0 := of_decide_eq_false h2
    refine decide_eq_false (fun h3 : cmpL (f i) (f k) < 0 => ?_)
    by_cases e : cmpL (f i) (f j) = 0
    · rw [cmpL_eq e] at h3; exact h2 h3
    · have h4 : cmpL (f j) (f i) < 0 := by rw [cmpL_swap (f i) (f j)]; omega
      exact h2 (cmpL_tr h4 h3)
theorem sortWorld_one (enc : Nat → Value) (w : World) (b off m : Nat) (dk : Array Nat) (os : Array Obj) : sortWorld enc w b off m dk os = sortWorldK (fun x => [enc x]) 1 w b off m dk os := by
  unfold sortWorld sortWorldK Go.Sort.putRowK Go.Sort.putRow
  have e : Go.Sort.putCells enc off dk = Go.Sort.putCells id off (Go.Sort.flatK (fun x => [enc x]) 1 dk) := by
    funext c
    unfold Go.Sort.putCells
    apply Array.ext
    · simp
    · intro i h1 h2
      simp only [Array.getElem_mapIdx]
      have hs : (Go.Sort.flatK (fun x => [enc x]) 1 dk).size = dk.size := by simp
      by_cases h : off ≤ i ∧ i < off + dk.size
      · rw [if_pos h, if_pos (by rw [hs]; exact h), Go.Sort.get_flatK (fun x => [enc x]) 1 dk (i - off) (by omega)]
        simp [Nat.mod_one]
      · rw [if_neg h, if_neg (by rw [hs]; exact h)]
  rw [e]
theorem holds_one {enc : Nat → Value} {w : World} {b off : Nat} {d : Array Nat} (h : Go.Sort.HoldsK (fun x => [enc x]) 1 w b off d) : Go.Sort.Holds enc w b off d := by
  intro j hj
  have := h j (by simpa using hj)
  rw [Go.Sort.get_flatK (fun x => [enc x]) 1 d j (by omega)] at this
  simpa [Nat.mod_one] using this
theorem flat1 (dk : Array Nat) (enc : Nat → Value) (f : Nat → Value) (henc : ∀ k, k < dk.size → enc dk[k]! = f k) : (Go.Sort.flatK (fun x => [enc x]) 1 dk).toList = (List.range dk.size).map f := by
  apply List.ext_getElem?
  intro j
  by_cases hj : j < dk.size * 1
  · rw [Array.getElem?_toList, Array.getElem?_eq_getElem (by simpa using hj), ← getElem!_pos (Go.Sort.flatK (fun x => [enc x]) 1 dk) j (by simpa using hj), Go.Sort.get_flatK (fun x => [enc x]) 1 dk j hj]
    have hj' : j < dk.size := by omega
    have h2 := henc j hj'
    rw [getElem!_pos dk j hj'] at h2
    simp [Nat.mod_one, hj', h2]
  · rw [List.getElem?_eq_none (by simp; omega), List.getElem?_eq_none (by simp; omega)]
theorem row1_eq' {w : World} {base n c : Nat} {A : Option Addr} {e : TypeId} {xs ys : List Value} (h : w.ownsRow base e 1 (.slice A n c) n xs) (hx : xs = ys) : w.ownsRow base e 1 (.slice A n c) n ys := hx ▸ h

set_option maxHeartbeats 1000000 in
/-- At least one list. -/
theorem sortLists_own (E : Nat → Sv) (g n c lo hi : Nat) (ts : List (List Int)) (w : World) (h : OwnLE E w lo hi (some ⟨g, 0, none⟩) n c ts) (h0 : 0 < n) (hn : n ≤ 1099511627776) (hlen : ∀ k, k < n → (li ts k).length ≤ 1099511627776) :
    Calls Try.prog 101 #[.slice (some ⟨g, 0, none⟩) n c, .func (.func 102) #[] #[]] w fun e w' => e = .returned (.tuple #[]) ∧
      ∃ us : List (List Int), us.Perm ts ∧ us.Pairwise (fun a b => 0 ≤ cmpL b a) ∧ OwnL w' lo hi (some ⟨g, 0, none⟩) n c us ∧ w.grownBy w' (some g) := by
  obtain ⟨hl, ho, hh, he, hne, hdd⟩ := h
  have hg : g < w.heap.size := (ho.lt g rfl).2
  obtain ⟨enc, henc⟩ : ∃ enc : Nat → Value, enc = fun i => sv (E (ix n i)) := ⟨_, rfl⟩
  have h1 : OneCell enc := fun x => by rw [henc]; rfl
  have hcells : heads n E = (Go.Sort.flatK (fun x => [enc x]) 1 (Array.range n)).toList := by
    rw [flat1 (Array.range n) enc (fun k => sv (E k)) (fun k hk => by
      rw [Array.size_range] at hk
      rw [getElem!_pos _ k (by simpa using hk), henc]
      simp [ix_of hk]), Array.size_range]
    rfl
  have hH := holds_one (holds_of_owns (enc := fun x => [enc x]) ho (Array.range n) hcells)
  have hcmp : CmpLays1 Try.prog 102 #[] enc (fun i j => cmpL (li ts (ix n i)) (li ts (ix n j))) g 0 (Array.range n).size w := fun m os dk hd x y => by
    rw [sortWorld_one]
    have gg := sortWorld_grown (fun x => [enc x]) 1 w g m dk os
    have own : ∀ k, k < n → Own (sortWorldK (fun x => [enc x]) 1 w g 0 m dk os) lo hi (E k).1 (E k).2.1 (E k).2.2 (li ts k) := fun k hk => (he k hk).kept gg (fun b hb e2 => hne k b hk hb e2)
    have s1 := (own _ (ix_in h0 x))
    have s2 := (own _ (ix_in h0 y))
    have hc := sliceCompare_any (E (ix n x)).1 (E (ix n y)).1 (E (ix n x)).2.1 (E (ix n x)).2.2 (E (ix n y)).2.1 (E (ix n y)).2.2 _ _ _ s1.si s2.si (by rw [← s1.len]; exact hlen _ (ix_in h0 x)) (by rw [← s2.len]; exact hlen _ (ix_in h0 y))
    simp only [Array.append_empty]
    have e1 : enc x = .slice (E (ix n x)).1 (E (ix n x)).2.1 (E (ix n x)).2.2 := by rw [henc]; rfl
    have e2 : enc y = .slice (E (ix n y)).1 (E (ix n y)).2.1 (E (ix n y)).2.2 := by rw [henc]; rfl
    rw [e1, e2]
    refine hc.mono ?_
    rintro e w' ⟨e1, e2⟩
    exact ⟨e1, Grew.of_drawn e2⟩
  have eg : ∀ args w, (callFunc 102 args).run Try.prog w = .ok (.enter 102 args) w := enters_of Try.func102 (by kernel_rfl) rfl
  have hcon := Any.slices_SortFunc Try.sortL enc h1 (fun i j => cmpL (li ts (ix n i)) (li ts (ix n j))) (swo_cmpL fun i => li ts (ix n i)) 102 #[] g 0 c (Array.range n) w eg hcmp hH hg (by rw [Array.size_range]; omega)
  change Calls Try.prog 101 _ _ _ at hcon
  rw [Array.size_range] at hcon
  refine hcon.mono ?_
  rintro e w' ⟨rfl, dk, m, os, hp, hs, rfl⟩
  rw [sortWorld_one]
  obtain ⟨hsz, hperm, hsort⟩ := sorted_lists (by rw [Array.size_range]; exact hp) (by rw [Array.size_range]; exact hs)
  have gg := sortWorld_grown (fun x => [enc x]) 1 w g m dk os
  have hin : ∀ k, k < n → dk[k]! < n := fun k hk => by
    have : dk[k]! ∈ dk.toList := by
      rw [getElem!_pos dk k (by omega)]
      exact Array.getElem_mem_toList _
    have := hperm.mem_iff.1 this
    simpa using this
  have hinj : ∀ i j, i < j → j < n → dk[i]! ≠ dk[j]! := fun i j hij hj e => by
    have hnd : dk.toList.Nodup := hperm.nodup_iff.2 List.nodup_range
    rw [getElem!_pos dk i (by omega), getElem!_pos dk j (by omega)] at e
    have := (List.nodup_iff_pairwise_ne.1 hnd)
    rw [List.pairwise_iff_getElem] at this
    exact this i j (by simp; omega) (by simp; omega) hij (by simpa using e)
  obtain ⟨us, hus⟩ : ∃ us, us = dk.toList.map (li ts) := ⟨_, rfl⟩
  have hul : us.length = n := by rw [hus]; simp [hsz]
  have htm : ∀ k, k < n → li us k = li ts dk[k]! := fun k hk => by
    rw [hus, getElem!_pos dk k (by omega)]
    rw [li_get (by simp; omega)]
    simp
  refine ⟨rfl, us, ?_, ?_, ⟨fun k => E dk[k]!, hul, ?_, hh, fun j hj => ?_, fun j b hj hb => hne _ b (hin j hj) hb, fun i j b hij hj hb e2 => ?_⟩, gg⟩
  · have e1 : ts = (List.range n).map (li ts) := by
      apply List.ext_getElem (by simp [hl])
      intro k hk1 hk2
      simp [li_get hk1]
    rw [hus]
    have := hperm.map (li ts)
    rwa [← e1] at this
  · rw [hus, List.pairwise_map]
    refine hsort.imp_of_mem ?_
    intro i j hi hj hlt
    have hi := hperm.mem_iff.1 hi
    have hj := hperm.mem_iff.1 hj
    simp at hi hj
    have hlt : ¬ cmpL (li ts (ix n j)) (li ts (ix n i)) < 0 := of_decide_eq_false hlt
    rw [ix_of hi, ix_of hj] at hlt
    omega
  · have o2 := sortWorld_owns (enc := fun x => [enc x]) ho m dk os hsz
    refine row1_eq' o2 ?_
    rw [flat1 dk enc (fun k => sv (E dk[k]!)) (fun k hk => by
      rw [henc]
      simp only [ix_of (hin k (by omega))]), hsz]
    rfl
  · rw [htm j hj]
    exact (he _ (hin j hj)).kept gg (fun b hb e2 => hne _ b (hin j hj) hb e2)
  · have hd := hinj i j hij hj
    rcases Nat.lt_or_ge dk[i]! dk[j]! with hlt | hge
    · exact hdd _ _ b hlt (hin j hj) hb e2
    · exact hdd _ _ b (by omega) (hin i (by omega)) e2 hb
/-- At no list. -/
theorem sortLists_none (A : Option Addr) (c : Nat) (fv : Value) (w : World) :
    Calls Try.prog 101 #[.slice A 0 c, fv] w fun e w' => e = .returned (.tuple #[]) ∧ w' = w :=
  AnyF.slices_SortFunc_none { Try.sortL with } A c fv w
/-- Whatever their number. -/
theorem sortLists_any (E : Nat → Sv) (A : Option Addr) (n c lo : Nat) (ts : List (List Int)) (w : World) (h : OwnLE E w lo w.heap.size A n c ts) (hlo : lo ≤ w.heap.size) (hn : n ≤ 1099511627776) (hlen : ∀ k, k < n → (li ts k).length ≤ 1099511627776) :
    Calls Try.prog 101 #[.slice A n c, .func (.func 102) #[] #[]] w fun e w' => e = .returned (.tuple #[]) ∧
      ∃ us : List (List Int), us.Perm ts ∧ us.Pairwise (fun a b => 0 ≤ cmpL b a) ∧ OwnL w' lo w'.heap.size A n c us ∧ Below lo w w' := by
  by_cases h0 : 0 < n
  · obtain ⟨g, rfl, hg1, hg2⟩ := h.place h0
    refine (sortLists_own E g n c lo w.heap.size ts w h h0 hn hlen).mono ?_
    rintro e w' ⟨rfl, us, hp, hs, ho, hg⟩
    exact ⟨rfl, us, hp, hs, ho.wide (Nat.le_refl _) hg.size, (Below.refl w.heap.size w |>.mono hlo).grown hg hlo (by rintro q ⟨⟩; exact hg1)⟩
  · obtain rfl : n = 0 := by omega
    refine (sortLists_none A c _ w).mono ?_
    rintro e w' ⟨rfl, rfl⟩
    obtain rfl : ts = [] := List.eq_nil_of_length_eq_zero h.1
    exact ⟨rfl, [], List.Perm.refl _, List.Pairwise.nil, ⟨E, h⟩, Below.refl _ _ |>.mono hlo⟩
end Go.Proofs.Ytjpoliibljjhnaa

/-
  What a list of classes is, and comparing two. Conditions: lengths below 2^40.
-/


namespace Go.Proofs.Ytjpoliibljjhnaa
open Go.RowKit

def classAt (ts : List Tm) (k : Nat) : Prop := isPermB (tm ts k).1 = true ∧ trimN (tm ts k).1 (tm ts k).1.length = (tm ts k).1.length ∧ ((tm ts k).2 ≠ 0 ∧ -1000000 ≤ (tm ts k).2 ∧ (tm ts k).2 ≤ 1000000) ∧ (0 < k → lessL (tm ts (k - 1)).1 (tm ts k).1 = true)
instance (ts : List Tm) (k : Nat) : Decidable (classAt ts k) := by unfold classAt; infer_instance
def classesB (ts : List Tm) : Bool := decide (ts.length ≤ 100) && (List.range ts.length).all fun k => decide (classAt ts k)
theorem classesB_iff (ts : List Tm) : classesB ts = true ↔ ts.length ≤ 100 ∧ ∀ k, k < ts.length → classAt ts k := by simp [classesB]
theorem classesB_yes {ts : List Tm} (h0 : ts.length ≤ 100) (h : ∀ k, k < ts.length → classAt ts k) : classesB ts = true := (classesB_iff ts).2 ⟨h0, h⟩
theorem classesB_no {ts : List Tm} {k : Nat} (hk : k < ts.length) (h : ¬ classAt ts k) : classesB ts = false := by
  cases hb : classesB ts with
  | false => rfl
  | true => exact absurd (((classesB_iff ts).1 hb).2 k hk) h
theorem classesB_big {ts : List Tm} (h : 100 < ts.length) : classesB ts = false := by
  cases hb : classesB ts with
  | false => rfl
  | true => have := ((classesB_iff ts).1 hb).1; omega

set_option maxHeartbeats 1600000 in
theorem compareClasses_any (A A2 : Option Addr) (n c n2 c2 : Nat) (xs ys : List Int) (x y : Int) (w : World) (hs : SI w A n xs) (hs2 : SI w A2 n2 ys) (hn : n ≤ 1099511627776) (hn2 : n2 ≤ 1099511627776) :
    Calls Try.prog 109 #[.agg #[.slice A n c, .int .i64 x], .agg #[.slice A2 n2 c2, .int .i64 y]] w fun e w' => e = .returned (.int .i64 (cmpL xs ys)) ∧ Below w.heap.size w w' := by
  have HC := Lib.hid (fun (w1 : World) (hb : Below w.heap.size w w1) => sliceCompare_any A A2 n c n2 c2 xs ys w1 (hs.below hb (Nat.le_refl _)) (hs2.below hb (Nat.le_refl _)) hn hn2)
  clear hs hs2
  go_enter Try.func109, Try.ntmps109
  go_wp2_with (go_at_call 102; refine (HC.out _ (by go_grown)).mono ?_; rintro e w1 ⟨rfl, hd⟩; have HD := Lib.hid hd; clear hd)
  go_ret
  exact ⟨rfl, Below.trans (by go_grown) (HD.out.below _)⟩

end Go.Proofs.Ytjpoliibljjhnaa

/-
  slices.SortFunc over classes by their permutations: a permutation in ascending order, in the slice's own blocks. Conditions: lengths below 2^40.
-/





namespace Go.Proofs.Ytjpoliibljjhnaa
open Go.RowKit Cls

theorem flat2 (dk : Array Nat) (enc : Nat → List Value) (f : Nat → Value × Value) (henc : ∀ k, k < dk.size → enc dk[k]! = [(f k).1, (f k).2]) : (Go.Sort.flatK enc 2 dk).toList = cells2 dk.size f := by
  apply List.ext_getElem?
  intro j
  by_cases hj : j < dk.size * 2
  · rw [cells2_get f hj, Array.getElem?_toList, Array.getElem?_eq_getElem (by simpa using hj), ← getElem!_pos (Go.Sort.flatK enc 2 dk) j (by simpa using hj), Go.Sort.get_flatK enc 2 dk j hj, henc (j / 2) (by omega)]
    rcases Nat.mod_two_eq_zero_or_one j with e | e <;> rw [e] <;> simp
  · rw [List.getElem?_eq_none (by simp; omega), List.getElem?_eq_none (by simp [cells2_len]; omega)]
theorem Try.isAggClass (w : World) : (isAgg 117).run Try.prog w = .ok true w := by kernel_rfl
theorem Try.sizeClass (w : World) : (sizeOf 117).run Try.prog w = .ok 2 w := by kernel_rfl
set_option maxHeartbeats 1600000 in
theorem compareClassesG_any (A A2 : Option Addr) (n c n2 c2 : Nat) (xs ys : List Int) (x y : Int) (w : World) (hs : SI w A n xs) (hs2 : SI w A2 n2 ys) (hn : n ≤ 1099511627776) (hn2 : n2 ≤ 1099511627776) :
    Calls Try.prog 109 #[.agg #[.slice A n c, .int .i64 x], .agg #[.slice A2 n2 c2, .int .i64 y]] w fun e w' => e = .returned (.int .i64 (cmpL xs ys)) ∧ Grew w w' := by
  have hb0 : Grew w ((w.alloc (.cells #[.slice A n c, .int .i64 x] 117)).alloc (.cells #[.slice A2 n2 c2, .int .i64 y] 117)) := ((Grew.refl w).alloc _).alloc _
  have HC := Lib.hid (fun (w1 : World) (hb : Grew w w1) => sliceCompare_any A A2 n c n2 c2 xs ys w1 (hs.below hb.below (Nat.le_refl _)) (hs2.below hb.below (Nat.le_refl _)) hn hn2)
  have HB0 := Lib.hid hb0
  clear hs hs2 hb0
  go_enter Try.func109, Try.ntmps109
  go_wp2_with (go_at_call 102; refine (HC.out _ (by first | exact HB0.out | exact HB0.out.drew | exact ((Grew.refl w).drew.alloc _).alloc _)).mono ?_; rintro e w1 ⟨rfl, hd⟩; have HD := Lib.hid hd; clear hd)
  go_ret
  exact ⟨rfl, by first | exact HB0.out.trans (Grew.of_drawn HD.out) | exact HB0.out.drew.trans (Grew.of_drawn HD.out)⟩

set_option maxHeartbeats 1000000 in
/-- At least one class. -/
theorem sortClasses_own (g n c lo hi : Nat) (ts : List Tm) (w : World) (h : OwnTC w lo hi (some ⟨g, 0, none⟩) n c ts) (h0 : 0 < n) (hn : n ≤ 1099511627776) (h7 : ∀ k, k < n → (tm ts k).1.length ≤ 1099511627776) :
    Calls Try.prog 108 #[.slice (some ⟨g, 0, none⟩) n c, .func (.func 109) #[] #[]] w fun e w' => e = .returned (.tuple #[]) ∧
      ∃ us : List Tm, us.Perm ts ∧ us.Pairwise (fun a b => 0 ≤ cmpL b.1 a.1) ∧ OwnTC w' lo hi (some ⟨g, 0, none⟩) n c us ∧ w.grownBy w' (some g) := by
  obtain ⟨E, hl, ho, hh, he, hne, hdd⟩ := h
  have hg : g < w.heap.size := (ho.lt g rfl).2
  have hE : ∀ k, k < n → (E k).2.1 ≤ 1099511627776 := fun k hk => by rw [← (he k hk).len]; exact h7 k hk
  obtain ⟨enc, henc⟩ : ∃ enc : Nat → List Value, enc = fun i => [sv (E (ix n i)), .int .i64 (tm ts (ix n i)).2] := ⟨_, rfl⟩
  have hk : ∀ x, (enc x).length = 2 := fun x => by rw [henc]; rfl
  have h1 : ∀ x, ∀ v ∈ enc x, v.oneCell' = true := fun x v hv => by
    rw [henc] at hv
    simp at hv
    rcases hv with rfl | rfl <;> rfl
  have hcells : cells2 n (fun k => (sv (E k), .int .i64 (tm ts k).2)) = (Go.Sort.flatK enc 2 (Array.range n)).toList := by
    rw [flat2 (Array.range n) enc (fun k => (sv (E k), .int .i64 (tm ts k).2)) (fun k hk => by
      rw [Array.size_range] at hk
      rw [getElem!_pos _ k (by simpa using hk), henc]
      simp [ix_of hk]), Array.size_range]
  have hH := holds_of_owns (enc := enc) ho (Array.range n) hcells
  have hcmp : CmpLays Try.prog 109 #[] enc 2 (fun i j => cmpL (tm ts (ix n i)).1 (tm ts (ix n j)).1) g 0 (Array.range n).size w := fun m os dk hd x y => by
    have gg := sortWorld_grown enc 2 w g m dk os
    have own : ∀ k, k < n → Own (sortWorldK enc 2 w g 0 m dk os) lo hi (E k).1 (E k).2.1 (E k).2.2 (tm ts k).1 := fun k hk => (he k hk).kept gg (fun b hb e2 => hne k b hk hb e2)
    have s1 := (own _ (ix_in h0 x)).si
    have s2 := (own _ (ix_in h0 y)).si
    have hc := compareClassesG_any (E (ix n x)).1 (E (ix n y)).1 (E (ix n x)).2.1 (E (ix n x)).2.2 (E (ix n y)).2.1 (E (ix n y)).2.2 _ _ (tm ts (ix n x)).2 (tm ts (ix n y)).2 _ s1 s2 (hE _ (ix_in h0 x)) (hE _ (ix_in h0 y))
    have e1 : (enc x).toArray = #[.slice (E (ix n x)).1 (E (ix n x)).2.1 (E (ix n x)).2.2, .int .i64 (tm ts (ix n x)).2] := by rw [henc]; rfl
    have e2 : (enc y).toArray = #[.slice (E (ix n y)).1 (E (ix n y)).2.1 (E (ix n y)).2.2, .int .i64 (tm ts (ix n y)).2] := by rw [henc]; rfl
    rw [e1, e2]
    exact hc
  have eg : ∀ args w, (callFunc 109 args).run Try.prog w = .ok (.enter 109 args) w := enters_of Try.func109 (by kernel_rfl) rfl
  have hcon := AnyQ.slices_SortFunc Try.sortC 2 Try.isAggClass Try.sizeClass enc hk h1 (fun i j => cmpL (tm ts (ix n i)).1 (tm ts (ix n j)).1) (swo_cmpL fun i => (tm ts (ix n i)).1) 109 #[] g 0 c (Array.range n) w eg hcmp hH hg (by rw [Array.size_range]; omega)
  change Calls Try.prog 108 _ _ _ at hcon
  rw [Array.size_range] at hcon
  refine hcon.mono ?_
  rintro e w' ⟨rfl, dk, m, os, hp, hs, rfl⟩
  obtain ⟨hsz, hperm, hsort⟩ := sorted_lists (by rw [Array.size_range]; exact hp) (by rw [Array.size_range]; exact hs)
  have gg := sortWorld_grown enc 2 w g m dk os
  have hin : ∀ k, k < n → dk[k]! < n := fun k hk => by
    have : dk[k]! ∈ dk.toList := by
      rw [getElem!_pos dk k (by omega)]
      exact Array.getElem_mem_toList _
    have := hperm.mem_iff.1 this
    simpa using this
  have hinj : ∀ i j, i < j → j < n → dk[i]! ≠ dk[j]! := fun i j hij hj e => by
    have hnd : dk.toList.Nodup := hperm.nodup_iff.2 List.nodup_range
    rw [getElem!_pos dk i (by omega), getElem!_pos dk j (by omega)] at e
    have := (List.nodup_iff_pairwise_ne.1 hnd)
    rw [List.pairwise_iff_getElem] at this
    exact this i j (by simp; omega) (by simp; omega) hij (by simpa using e)
  obtain ⟨us, hus⟩ : ∃ us, us = dk.toList.map (tm ts) := ⟨_, rfl⟩
  have hul : us.length = n := by rw [hus]; simp [hsz]
  have htm : ∀ k, k < n → tm us k = tm ts dk[k]! := fun k hk => by
    rw [hus, getElem!_pos dk k (by omega)]
    unfold tm
    simp [List.getD, show k < dk.size by omega]
  refine ⟨rfl, us, ?_, ?_, ?_, gg⟩
  · have e1 : ts = (List.range n).map (tm ts) := by
      apply List.ext_getElem (by simp [hl])
      intro k hk1 hk2
      simp [tm, List.getD, hk1]
    rw [hus]
    have := hperm.map (tm ts)
    rwa [← e1] at this
  · rw [hus, List.pairwise_map]
    refine hsort.imp_of_mem ?_
    intro i j hi hj hlt
    have hi := hperm.mem_iff.1 hi
    have hj := hperm.mem_iff.1 hj
    simp at hi hj
    have hlt : ¬ cmpL (tm ts (ix n j)).1 (tm ts (ix n i)).1 < 0 := of_decide_eq_false hlt
    rw [ix_of hi, ix_of hj] at hlt
    omega
  · refine ⟨fun k => E dk[k]!, hul, ?_, hh, fun j hj => ?_, fun j b hj hb => hne _ b (hin j hj) hb, fun i j b hij hj hb e2 => ?_⟩
    · have o2 := sortWorld_owns (enc := enc) ho m dk os hsz
      refine row_eqC o2 ?_
      rw [flat2 dk enc (fun k => (sv (E dk[k]!), .int .i64 (tm us k).2)) (fun k hk => by
        rw [henc]
        simp only [ix_of (hin k (by omega))]
        rw [htm k (by omega)]), hsz]
    · rw [htm j hj]
      exact (he _ (hin j hj)).kept gg (fun b hb e2 => hne _ b (hin j hj) hb e2)
    · have hd := hinj i j hij hj
      rcases Nat.lt_or_ge dk[i]! dk[j]! with hlt | hge
      · exact hdd _ _ b hlt (hin j hj) hb e2
      · exact hdd _ _ b (by omega) (hin i (by omega)) e2 hb
/-- At no class. -/
theorem sortClasses_none (A : Option Addr) (c : Nat) (fv : Value) (w : World) :
    Calls Try.prog 108 #[.slice A 0 c, fv] w fun e w' => e = .returned (.tuple #[]) ∧ w' = w :=
  AnyF.slices_SortFunc_none Try.sortC A c fv w
end Go.Proofs.Ytjpoliibljjhnaa

/-
  Lists of at most 600 terms: their bounds, and the whole length of a list of terms that is within the bulk. Conditions: as each lemma says.
-/

namespace Go.Proofs.Ytjpoliibljjhnaa
open Go.RowKit

/-- At most 600 terms, at most 7 exponents each. -/
def smallT (ts : List Tm) : Prop := ts.length ≤ 600 ∧ ∀ t ∈ ts, t.1.length ≤ 7
theorem smallT.le {ts : List Tm} (h : smallT ts) : ts.length ≤ 1099511627776 := by have := h.1; omega
theorem smallT.lens {ts : List Tm} (h : smallT ts) (k : Nat) : (tm ts k).1.length ≤ 1099511627776 := by
  by_cases hk : k < ts.length
  · rw [tm_get hk]; have := h.2 _ (List.getElem_mem hk); omega
  · have e : tm ts k = ([], 0) := by simp [tm, List.getD, List.getElem?_eq_none (Nat.le_of_not_lt hk)]
    rw [e]; simp
theorem endT_bound : ∀ (us : List Tm) (q : Int), (∀ t ∈ us, t.1.length ≤ 7) → q ≤ endT us q ∧ endT us q ≤ q + 8 * (us.length : Int)
  | [], q, _ => by simp [endT]
  | t :: r, q, h => by
    have ih := endT_bound r (q + (t.1.length : Int) + 1) (fun s hs => h s (List.mem_cons_of_mem _ hs))
    have h7 := h t List.mem_cons_self
    show q ≤ endT r _ ∧ endT r _ ≤ _
    rw [List.length_cons]
    omega
theorem smallT.ends {ts : List Tm} (h : smallT ts) (k : Nat) : 0 ≤ endT (ts.take k) 1 ∧ endT (ts.take k) 1 ≤ 1099511627776 := by
  have := endT_bound (ts.take k) 1 (fun t ht => h.2 t (List.mem_of_mem_take ht))
  have h1 := h.1
  have h2 : (ts.take k).length ≤ ts.length := by rw [List.length_take]; omega
  omega
end Go.Proofs.Ytjpoliibljjhnaa

/-
  The program's MonkProduct. Conditions: lengths below 2^40.
-/







namespace Go.Proofs.Ytjpoliibljjhnaa
open Go.RowKit Cls

theorem mnkC_small (xs : List Int) (a : Int) : smallT (mnkC xs a) := by
  cases h : mnkB xs a with
  | false => rw [mnk_no h]; exact ⟨by simp, fun t ht => by simp at ht⟩
  | true =>
    obtain ⟨h1, h2, h3, h4⟩ := mnkB_iff.1 h
    rw [mnk_yes h]
    have hl := vsM_len h2
    have e0 : monO (vsM xs) a.toNat (a.toNat + 1) = monO (vsM xs) a.toNat (a.toNat + 1) ++ monT (vsM xs) a.toNat (a.toNat + 1) 0 := by simp [monT]
    have hf := mon_few (vs := vsM xs) (by omega) (k := a.toNat) (i := a.toNat + 1) (t := 0) (by omega) (by omega)
    rw [← e0] at hf
    refine ⟨?_, fun t ht => ?_⟩
    · have := insF_len (monO (vsM xs) a.toNat (a.toNat + 1))
      rw [List.length_map]
      show (insF _).length ≤ 600
      omega
    · obtain ⟨z, hz, rfl⟩ := List.mem_map.1 ht
      have h5 := mon_row (vs := vsM xs) (k := a.toNat) (i := a.toNat + 1) (t := 0) (by rw [← e0]; exact insF_mem.1 hz)
      show z.length ≤ 7
      omega

/-- 'out = append(out, Class{..})', the permutation's block above the list's. -/
theorem wpList_appendCU {ops : Array Oper} {rest : List Oper} {o : Oper} {a : Act} {w : World} {Q : Exit → Act → World → Prop} (hgd : o.guard = none) (s x : Operand)
    (ho : o.op = .call { callee := .builtin .append, args := #[s, x], argTypes := #[44, 44] })
    (lo hi : Nat) (A : Option Addr) (n c : Nat) (ts : List Tm) (lo2 hi2 : Nat) (A3 : Option Addr) (n3 c3 : Nat) (xs : List Int) (z : Int) (hs : a.eval s = .slice A n c) (hx : a.eval x = .slice (some ⟨w.heap.size, 0, none⟩) 1 1)
    (hown : OwnTC w lo hi A n c ts) (hxs : Own w lo2 hi2 A3 n3 c3 xs) (hlo : lo ≤ lo2) (hd : hi ≤ lo2) (h1 : hi2 ≤ w.heap.size) (h2 : hi ≤ w.heap.size) (h3 : lo ≤ w.heap.size) (hn : n ≤ 1099511627776)
    (hK : ∀ A' c' w', OwnTC w' lo w'.heap.size A' (n + 1) c' (ts ++ [(xs, z)]) → Below lo w w' → wpList Try.prog ops Q rest (a.put o.dst (.slice A' (n + 1) c')) w') :
    wpList Try.prog ops Q (o :: rest) a (w.alloc (.cells #[.slice A3 n3 c3, .int .i64 z] 117)) := by
  obtain ⟨i0, hi0, hz0, hz1, hz2⟩ := info_parts Cls.Try.infoTermZC
  obtain ⟨E, hE⟩ := hown.named
  have hb0 : Below w.heap.size w (w.alloc (.cells #[.slice A3 n3 c3, .int .i64 z] 117)) := (Below.refl w.heap.size w).alloc (Nat.le_refl _) _
  have hE' := hE.below hb0 h2
  have hx' := hxs.below hb0 h1
  refine Go.wpList_append_own_at _ hgd s x 44 ho lo 117 i0 _ 2 32 Try.underlying44 hi0 hz0 hz1 hz2 rfl (by decide) _ _ _ hs hE'.2.1 ⟨w.heap.size, 0, none⟩ 1 1 [.slice A3 n3 c3, .int .i64 z] hx rfl ?_ ?_ (by unfold maxLen; omega) (by omega) (by simp; omega) ?_
  · exact World.news_of_block (cs := #[.slice A3 n3 c3, .int .i64 z]) (t := 117) (fr := (0, 0)) (heap_alloc_new w _)
  · intro u hu
    simp at hu
    rcases hu with rfl | rfl <;> rfl
  · intro v' w1 ho1 hg1 _ hat
    obtain ⟨g, cap, rfl, _, hlt⟩ := ho1.form (by omega)
    have hh := hE'.app z hx' hlo hd (H := w.heap.size) h1 h2 (by simp) ho1 hg1 (by
      rcases hat with h | h
      · exact .inl (by rw [← h]; rfl)
      · right
        simp [Value.ownBlock] at h
        omega) hlt
    exact hK _ _ w1 hh ((hb0.mono h3).trans (grow_below hg1 (by simp; omega) (fun k hk => (hE'.2.1.lt k hk).1)))

theorem sortClasses_any (A : Option Addr) (n c lo : Nat) (ts : List Tm) (w : World) (h : OwnTC w lo w.heap.size A n c ts) (hlo : lo ≤ w.heap.size) (hn : n ≤ 1099511627776) (h7 : ∀ k, k < n → (tm ts k).1.length ≤ 1099511627776) :
    Calls Try.prog 108 #[.slice A n c, .func (.func 109) #[] #[]] w fun e w' => e = .returned (.tuple #[]) ∧
      ∃ us : List Tm, us.Perm ts ∧ us.Pairwise (fun a b => 0 ≤ cmpL b.1 a.1) ∧ OwnTC w' lo w'.heap.size A n c us ∧ Below lo w w' := by
  by_cases h0 : 0 < n
  · obtain ⟨g, rfl, hg1, hg2⟩ := h.place h0
    refine (sortClasses_own g n c lo w.heap.size ts w h h0 hn h7).mono ?_
    rintro e w' ⟨rfl, us, hp, hs, ho, hg⟩
    exact ⟨rfl, us, hp, hs, ho.wide (Nat.le_refl _) hg.size, (Below.refl w.heap.size w |>.mono hlo).grown hg hlo (by rintro q ⟨⟩; exact hg1)⟩
  · obtain rfl : n = 0 := by omega
    refine (sortClasses_none A c _ w).mono ?_
    rintro e w' ⟨rfl, rfl⟩
    obtain rfl : ts = [] := List.eq_nil_of_length_eq_zero h.len
    exact ⟨rfl, [], List.Perm.refl _, List.Pairwise.nil, h, Below.refl _ _ |>.mono hlo⟩

set_option maxRecDepth 100000 in
set_option maxHeartbeats 4000000 in
theorem implMonk_any (A : Option Addr) (n c : Nat) (xs : List Int) (a : Int) (w : World) (hs : SI w A n xs) (hn : n ≤ 1099511627776) :
    Calls Try.prog 36 #[.slice A n c, .int .i64 a] w fun e w' => FreshCB w w' e (mnkC xs a) (mnkB xs a) := by
  have HL := Lib.hid hs.1
  cases hu : isPermB xs with
  | false =>
    have HU := Lib.hid hu
    have HB0 : Hid (mnkB xs a = false) := Lib.hid (by unfold mnkB; rw [hu]; rfl)
    clear hu
    go_enter Try.func36, Try.ntmps36
    go_wp2_with fail
    refine (arrayOf_x c HU.out hs hn).mono ?_
    rintro e w1 ⟨l, rfl, -, hb1⟩
    go_wp2
    go_returns
    rw [mnk_no HB0.out, HB0.out]
    exact FreshCB.nil_ret (hb1.alloc hb1.size _)
  | true =>
    have HU := Lib.hid hu
    have HPP := Lib.hid (isPermB_P hu)
    have HN7 : Hid (n ≤ 7) := Lib.hid (by have := (isPermB_P hu).2.1; have := HL.out; omega)
    clear hu
    have hno : ∀ {P : Prop}, (mnkB xs a = true → ¬ P) → P → mnkB xs a = false := fun h p => by
      cases e : mnkB xs a with
      | false => rfl
      | true => exact absurd p (h e)
    by_cases h7 : n = 7
    · have HB0 : Hid (mnkB xs a = false) := Lib.hid (hno (fun e h => by have := (mnkB_iff.1 e).2.1; have := HL.out; omega) h7)
      clear hno
      subst h7
      go_enter Try.func36, Try.ntmps36
      go_wp2_with fail
      refine (arrayOf_x c HU.out hs hn).mono ?_
      rintro e w1 ⟨l, rfl, -, hb1⟩
      go_wp2
      go_returns
      rw [mnk_no HB0.out, HB0.out]
      exact FreshCB.nil_ret (hb1.alloc hb1.size _)
    · have h7I : ((n : Int) == 7) = false := by simp; omega
      have H6 : Hid (n ≤ 6) := Lib.hid (by have := HN7.out; omega)
      by_cases ha : a < 0
      · have HB0 : Hid (mnkB xs a = false) := Lib.hid (hno (fun e h => by have := (mnkB_iff.1 e).2.2; omega) ha)
        clear hno
        go_enter Try.func36, Try.ntmps36
        go_wp2_with fail
        refine (arrayOf_x c HU.out hs hn).mono ?_
        rintro e w1 ⟨l, rfl, -, hb1⟩
        go_wp2
        go_returns
        rw [mnk_no HB0.out, HB0.out]
        exact FreshCB.nil_ret (hb1.alloc hb1.size _)
      · by_cases hk : (n : Int) ≤ a
        · have HB0 : Hid (mnkB xs a = false) := Lib.hid (hno (fun e h => by have := (mnkB_iff.1 e).2.2; have := HL.out; omega) hk)
          clear hno
          go_enter Try.func36, Try.ntmps36
          go_wp2_with fail
          refine (arrayOf_x c HU.out hs hn).mono ?_
          rintro e w1 ⟨l, rfl, -, hb1⟩
          go_wp2
          go_returns
          rw [mnk_no HB0.out, HB0.out]
          exact FreshCB.nil_ret (hb1.alloc hb1.size _)
        · obtain ⟨k, rfl⟩ : ∃ k : Nat, a = k := ⟨a.toNat, by omega⟩
          clear hno
          have HBT : Hid (mnkB xs k = true) := Lib.hid (mnkB_iff.2 ⟨HU.out, by have := HL.out; have := H6.out; omega, by omega, by have := HL.out; omega⟩)
          have HE := Lib.hid (mnk_yes HBT.out)
          have hkI : ¬ (n : Int) ≤ (k : Int) := hk
          have haI : ¬ (k : Int) < 0 := ha
          obtain ⟨N, hN⟩ : ∃ N, N = n + 1 := ⟨_, rfl⟩
          have HNE := Lib.hid hN
          have HPV := Lib.hid (vsM_perm HPP.out (by rw [HL.out]; exact H6.out))
          have HLV : Hid ((vsM xs).length = N) := Lib.hid (by rw [vsM_len (by rw [HL.out]; exact H6.out), HL.out, hN])
          have HVF : Hid (fillA xs n = fillA (vsM xs) (vsM xs).length) := Lib.hid (by rw [vsM_fill (by rw [HL.out]; exact H6.out), HL.out])
          have HEM : Hid (mnkC xs k = (insF (monO (vsM xs) k (k + 1))).map oneC) := Lib.hid (by rw [HE.out]; rfl)
          obtain ⟨vs, hvs⟩ : ∃ vs, vs = vsM xs := ⟨_, rfl⟩
          rw [← hvs] at HPV HLV HEM HVF
          have HN7' : Hid (N ≤ 7) := Lib.hid (by have := H6.out; omega)
          have HKN : Hid (k + 1 < N) := Lib.hid (by omega)
          have hkn : k < n := by omega
          have hn6 := H6.out
          clear hvs hN HE hk ha
          go_enter Try.func36, Try.ntmps36
          go_wp2_with fail
          refine (arrayOf_x c HU.out hs hn).mono ?_
          rintro e w1 ⟨l, rfl, hlf, hb1⟩
          have hb2 : Below w.heap.size w (w1.alloc (.cells (arrC l) 107)) := hb1.alloc hb1.size _
          have hK := Blk.new w1 107 (arrC l)
          have hFl : l = fillA vs vs.length := by rw [← HVF.out]; exact hlf rfl
          have HCV : Hid (∀ (i j : Nat) u, i < j → j < N → Calls Try.prog 98 #[arr l, .int .i64 i, .int .i64 j] u fun e w' => e = .returned (.bool (covB vs i j)) ∧ Below u.heap.size u w') := Lib.hid (fun i j u hij hj => by rw [hFl]; exact isCovered_any vs HPV.out i j u hij (by rw [HLV.out]; exact hj))
          have HEX : Hid (∀ (i j : Nat) u, i < j → j < N → Calls Try.prog 99 #[arr l, .int .i64 i, .int .i64 j] u fun e w' => e = .returned (arr (swapL l i j)) ∧ Below u.heap.size u w') := Lib.hid (fun i j u hij hj => exchanged_any l i j u (by have := HN7'.out; omega) (by have := HN7'.out; omega) (by omega) (by rw [hFl, fillA_len]))
          have HLI : Hid (∀ (i j : Nat) u, i < j → j < N → Calls Try.prog 100 #[arr (swapL l i j), .int .i64 ((n : Int) + 1)] u fun e w' => Fresh u w' e (swapL vs i j)) := Lib.hid (fun i j u hij hj => by
            have h := list_any (swapL l i j) N u (by rw [swapL_len, hFl, fillA_len]) HN7'.out
            have e : (swapL l i j).take N = swapL vs i j := by
              rw [hFl, fill_swap hij (by rw [HLV.out]; exact hj) (by rw [HLV.out]; exact HN7'.out), ← HLV.out]
              have := fill_take_len (xs := swapL vs i j) (by rw [swapL_len, HLV.out]; exact HN7'.out)
              rwa [swapL_len] at this
            rw [show (N : Int) = (n : Int) + 1 by have := HNE.out; omega] at h
            rwa [e] at h)
          have HTI : Hid (∀ (i j : Nat) A3 n3 c3 u, i < j → j < N → SI u A3 n3 (swapL vs i j) → Calls Try.prog 107 #[.slice A3 n3 c3] u fun e w' => Fresh u w' e (trL (swapL vs i j))) := Lib.hid (fun i j A3 n3 c3 u hij hj hsi => by
            have h := implTrim_any A3 n3 c3 (swapL vs i j) u hsi (by have h1 := hsi.1; rw [swapL_len, HLV.out] at h1; have := HN7'.out; omega)
            rw [trimPerm_yes (isPermB_true (swap_pp HPV.out hij (by rw [HLV.out]; exact hj)))] at h
            exact h)
          clear hlf hFl hs hn HVF
          go_wp2_with fail
          obtain ⟨g, hg⟩ : ∃ g, g = w1.heap.size := ⟨_, rfl⟩
          have hgs : g < (w1.alloc (.cells (arrC l) 107)).heap.size := by rw [hg]; simp
          rw [← hg] at hK ⊢
          clear hg hb1
          generalize w1.alloc (.cells (arrC l) 107) = w2 at *
          have HK2 := Lib.hid hK
          have HB2 := Lib.hid hb2
          have HGS := Lib.hid hgs
          clear hK hb2 hgs
          have hd1 : decide (n ≤ k) = false := by simp; omega
          have hd2 : decide ((k : Int) < 0) = false := by simp
          simp only [hd1, hd2, Bool.or_false]
          clear hd1 hd2
          go_loopw [8, 36] (fun sv iv wr => ∃ (i : Nat) (A1 : Option Addr) (n1 c1 : Nat), i ≤ k + 1 ∧ iv = .int .i64 i ∧ sv = .slice A1 n1 c1 ∧ OwnTC wr w2.heap.size wr.heap.size A1 n1 c1 ((monO vs k i).map oneC) ∧ Below w2.heap.size w2 wr)
            (fun _ iv _ => k + 1 - (intOf iv).toNat)
          case atStart => exact ⟨0, none, 0, 0, Nat.zero_le _, rfl, rfl, OwnTC.nil _ _ _, Below.refl _ _⟩
          case round =>
            obtain ⟨i, A1, n1, c1, hi, rfl, rfl, ho, hb⟩ := hrel
            have HO := Lib.hid ho
            have HB := Lib.hid hb
            clear ho hb
            by_cases hlt : i < k + 1
            · have hiI : (i : Int) < (k : Int) + 1 := by omega
              have HLT := Lib.hid hlt
              go_wp2_with fail
              go_loopw [8, 10] (fun sv jv wr => ∃ (t : Nat) (j : Nat) (A1 : Option Addr) (n1 c1 : Nat), j = k + 1 + t ∧ j ≤ n + 1 ∧ jv = .int .i64 j ∧ sv = .slice A1 n1 c1 ∧ OwnTC wr w2.heap.size wr.heap.size A1 n1 c1 ((monO vs k i ++ monT vs k i t).map oneC) ∧ Below w2.heap.size w2 wr)
                (fun _ jv _ => n + 1 - (intOf jv).toNat)
              case atStart => exact ⟨0, k + 1, A1, n1, c1, rfl, by have := HKN.out; have := HNE.out; omega, by go_num, rfl, by rw [show monT vs k i 0 = [] from rfl, List.append_nil]; exact HO.out, HB.out⟩
              case round =>
                obtain ⟨t, j, A1, n1, c1, hj, hjn, rfl, rfl, ho, hb⟩ := hrel
                clear HO HB
                have HJ := Lib.hid hj
                have HO := Lib.hid ho
                have HB := Lib.hid hb
                have HK := Lib.hid (HK2.out.below hb HGS.out)
                have HGR : Hid (g < wr.heap.size) := Lib.hid (Nat.lt_of_lt_of_le HGS.out hb.size)
                clear ho hb hj
                by_cases hjl : j ≤ n
                · have hjI : (j : Int) ≤ (n : Int) := by omega
                  have HJL := Lib.hid hjl
                  have HIJ : Hid (i < j) := Lib.hid (by have := HJ.out; have := HLT.out; omega)
                  have HJN : Hid (j < N) := Lib.hid (by have := HNE.out; omega)
                  have HCC := Lib.hid (fun u => HCV.out i j u HIJ.out HJN.out)
                  have HXC := Lib.hid (fun u => HEX.out i j u HIJ.out HJN.out)
                  have HLC := Lib.hid (fun u => HLI.out i j u HIJ.out HJN.out)
                  have HTC := Lib.hid (fun A3 n3 c3 u h => HTI.out i j A3 n3 c3 u HIJ.out HJN.out h)
                  cases hcv : covB vs i j with
                  | true =>
                    rw [hcv] at HCC
                    have HNX : Hid ((monO vs k i ++ monT vs k i (t + 1)).map oneC = (monO vs k i ++ monT vs k i t).map oneC ++ [(trL (swapL vs i j), 1)]) := Lib.hid (by
                      have e1 : monT vs k i (t + 1) = monT vs k i t ++ [trL (swapL vs i j)] := by
                        show (if covB vs i (k + 1 + t) = true then _ else _) = _
                        rw [← HJ.out, if_pos hcv]
                      rw [e1, ← List.append_assoc, List.map_append]
                      rfl)
                    have HN1 : Hid (n1 ≤ 1099511627776) := Lib.hid (by
                      have h1 := HO.out.len
                      have h3 := mon_few (vs := vs) (by rw [HLV.out]; exact HN7'.out) (k := k) (i := i) (t := t) (by have := HLT.out; have := HKN.out; have := HN7'.out; omega) (by have := HJ.out; have := HN7'.out; have := HJN.out; omega)
                      rw [List.length_map] at h1
                      omega)
                    clear hcv
                    go_upto_region 12 with (first
                      | (refine wpList_load_blk rfl 107 (.tmp 6) rfl g rfl 107 (arrC l) 7 3 HK.out Try.undArr Try.infoArr ?_)
                      | (go_at_call 98; (with_reducible refine (HCC.out _).mono ?_); rintro e w3 ⟨rfl, hb3⟩; have HK3 := Lib.hid (HK.out.below hb3 HGR.out); have HB3 := Lib.hid hb3; clear hb3))
                    go_wp2_with (first
                      | (refine wpList_load_blk rfl 107 (.tmp 6) rfl g rfl 107 (arrC l) 7 3 HK3.out Try.undArr Try.infoArr ?_)
                      | (go_at_call 99; (with_reducible refine (HXC.out _).mono ?_); rintro e w4 ⟨rfl, hb4⟩; have HB4 : Hid (Below wr.heap.size wr w4) := Lib.hid (HB3.out.trans (hb4.mono HB3.out.size)); clear hb4)
                      | (go_at_call 100; (with_reducible refine (HLC.out _).mono ?_); rintro e w5 ⟨A5, n5, c5, rfl, ho5, hb5⟩
                         have HB5 : Hid (Below wr.heap.size wr w5) := Lib.hid (HB4.out.trans (hb5.mono HB4.out.size))
                         have HT5 := Lib.hid (HTC.out A5 n5 c5 w5 ho5.si)
                         clear ho5 hb5)
                      | (go_at_call 107; (with_reducible refine HT5.out.mono ?_); rintro e w6 ⟨A6, n6, c6, rfl, ho6, hb6⟩
                         have HO6 := Lib.hid ho6
                         have HB6 : Hid (Below wr.heap.size wr w6) := Lib.hid (HB5.out.trans (hb6.mono HB5.out.size))
                         have HS6 : Hid (w2.heap.size ≤ wr.heap.size ∧ wr.heap.size ≤ w5.heap.size ∧ w5.heap.size ≤ w6.heap.size) := Lib.hid ⟨HB.out.size, HB5.out.size, hb6.size⟩
                         clear ho6 hb6)
                      | (at_builtin; refine wpList_appendCU rfl (.tmp 60) (.tmp 63) rfl w2.heap.size wr.heap.size A1 n1 c1 ((monO vs k i ++ monT vs k i t).map oneC) w5.heap.size w6.heap.size A6 n6 c6 (trL (swapL vs i j)) 1 rfl rfl (HO.out.below HB6.out (Nat.le_refl _)) HO6.out (by have := HS6.out; omega) HS6.out.2.1 (Nat.le_refl _) HB6.out.size (by have := HS6.out; omega) HN1.out ?_
                         intro A7 c7 w7 ho7 hb7
                         have HO7 := Lib.hid ho7
                         have HB7 : Hid (Below w2.heap.size w2 w7) := Lib.hid ((HB.out.trans (HB6.out.mono HB.out.size)).trans hb7)
                         clear ho7 hb7))
                    go_roundw
                    case rel => exact ⟨t + 1, j + 1, A7, n1 + 1, c7, by have := HJ.out; omega, by have := HJL.out; omega, by go_num, rfl, by rw [HNX.out]; exact HO7.out, HB7.out⟩
                    case measure => have := HJL.out; simp [intOf]; omega
                  | false =>
                    rw [hcv] at HCC
                    have HNX : Hid (monT vs k i (t + 1) = monT vs k i t) := Lib.hid (by
                      show (if covB vs i (k + 1 + t) = true then _ else _) = _
                      rw [← HJ.out, if_neg (by rw [hcv]; decide)])
                    clear hcv
                    go_wp2_with (first
                      | (refine wpList_load_blk rfl 107 (.tmp 6) rfl g rfl 107 (arrC l) 7 3 HK.out Try.undArr Try.infoArr ?_)
                      | (go_at_call 98; (with_reducible refine (HCC.out _).mono ?_); rintro e w3 ⟨rfl, hb3⟩; have HB3 := Lib.hid hb3; clear hb3))
                    go_roundw
                    case rel => exact ⟨t + 1, j + 1, A1, n1, c1, by have := HJ.out; omega, by have := HJL.out; omega, by go_num, rfl, by rw [HNX.out]; exact (HO.out.below HB3.out (Nat.le_refl _)).wide (Nat.le_refl _) HB3.out.size, HB.out.trans (HB3.out.mono HB.out.size)⟩
                    case measure => have := HJL.out; simp [intOf]; omega
                · have hjI : ¬ (j : Int) ≤ (n : Int) := by omega
                  have HNX : Hid (monO vs k i ++ monT vs k i t = monO vs k (i + 1)) := Lib.hid (by
                    show _ = monO vs k i ++ monT vs k i (vs.length - (k + 1))
                    rw [HLV.out, show N - (k + 1) = t by have := HJ.out; have := HNE.out; omega])
                  go_wp2
                  go_roundw
                  case rel => exact ⟨i + 1, A1, n1, c1, by have := HLT.out; omega, by go_num, rfl, by rw [← HNX.out]; exact HO.out, HB.out⟩
                  case measure => have := HLT.out; simp [intOf]; omega
            · have hiI : ¬ (i : Int) < (k : Int) + 1 := by omega
              obtain rfl : i = k + 1 := by omega
              have HLN : Hid ((monO vs k (k + 1)).length ≤ 56) := Lib.hid (by
                have h3 := mon_few (vs := vs) (by rw [HLV.out]; exact HN7'.out) (k := k) (i := k + 1) (t := 0) (by have := HKN.out; have := HN7'.out; omega) (by omega)
                rw [List.length_append] at h3
                omega)
              have HN1 : Hid (n1 = (monO vs k (k + 1)).length) := Lib.hid (by have h1 := HO.out.len; rw [List.length_map] at h1; exact h1.symm)
              have HRW : Hid (∀ u, u < n1 → (tm ((monO vs k (k + 1)).map oneC) u).1.length ≤ 1099511627776) := Lib.hid (fun u hu => by
                rw [tm_one (by rw [← HN1.out]; exact hu)]
                exact li_len_of (m := 1099511627776) (fun z hz => by have h := mon_row (vs := vs) (k := k) (i := k + 1) (t := 0) (List.mem_append_left _ hz); rw [HLV.out] at h; have := HN7'.out; omega) u)
              have HSRT := Lib.hid (sortClasses_any A1 n1 c1 w2.heap.size ((monO vs k (k + 1)).map oneC) wr HO.out HB.out.size (by have := HN1.out; have := HLN.out; omega) HRW.out)
              have HND := Lib.hid (monO_nodup HPV.out (k := k) (k + 1) (Nat.le_refl _))
              go_wp2_with fail
              (with_reducible refine HSRT.out.mono ?_)
              rintro e w3 ⟨rfl, us, hp3, hs3, ho3, hb3⟩
              have HP3 := Lib.hid hp3
              have HS3 := Lib.hid hs3
              have HO3 := Lib.hid ho3
              have HB3 := Lib.hid hb3
              clear hp3 hs3 ho3 hb3
              go_wp2
              go_returns
              rw [HEM.out, HBT.out, ← mon_sorted HND.out HP3.out HS3.out]
              exact ⟨A1, n1, c1, rfl, HO3.out.wide HB2.out.size (Nat.le_refl _), HB2.out.trans ((HB.out.trans HB3.out).mono HB2.out.size)⟩
end Go.Proofs.Ytjpoliibljjhnaa

/-
  TermEq, for values of type Class instead of terms (made by wip/gen/gen_cls.py). Conditions: lengths below 2^40.
-/





namespace Go.Proofs.Ytjpoliibljjhnaa.Cls
open Go.RowKit
section
variable {P : Program} {ops : Array Oper} {C : World → Prop} {Q : Act → Prop} {a : Act} {o : Oper} {rest : List Oper}
end
set_option maxHeartbeats 400000 in
theorem eqTerm_anyC (A A' : Option Addr) (n c n' c' : Nat) (xs ys : List Int) (x y : Int) (w : World) (hs : SI w A n xs) (hs' : SI w A' n' ys) (hn : n ≤ 1099511627776) (hn' : n' ≤ 1099511627776) :
    Calls Try.prog 110 #[.agg #[.slice A n c, .int .i64 x], .agg #[.slice A' n' c', .int .i64 y]] w fun e w' => e = .returned (.bool (decide ((xs, x) = (ys, y)))) ∧ Below w.heap.size w w' := by
  have hE := eqIntS_any A A' n c n' c' xs ys ((w.alloc (.cells #[.slice A n c, .int .i64 x] 117)).alloc (.cells #[.slice A' n' c', .int .i64 y] 117)) ((hs.alloc _).alloc _) ((hs'.alloc _).alloc _) hn hn'
  have HE := Lib.hid hE
  clear hE hs hs'
  cases hb : eqL xs ys with
  | false =>
    have hne : ¬ xs = ys := by simpa [eqL] using hb
    rw [hb] at HE
    have HN := Lib.hid hne
    clear hne hb
    go_enter Try.func110, Try.ntmps110
    go_wp2_with fail
    refine HE.out.mono ?_
    rintro e w1 ⟨rfl, m, rfl⟩
    go_wp2
    go_ret
    exact ⟨ret_bool (by simp [HN.out]), Below.drawnN (by go_grown) m⟩
  | true =>
    have he : xs = ys := by simpa [eqL] using hb
    rw [hb] at HE
    have HN := Lib.hid he
    clear he hb
    by_cases hxy : x = y
    · subst hxy
      go_enter Try.func110, Try.ntmps110
      go_wp2_with fail
      refine HE.out.mono ?_
      rintro e w1 ⟨rfl, m, rfl⟩
      go_wp2
      go_ret
      exact ⟨ret_bool (by simp [HN.out]), Below.drawnN (by go_grown) m⟩
    · have hb : (x != y) = true := by simpa using hxy
      have HXY := Lib.hid hxy
      clear hxy
      go_enter Try.func110, Try.ntmps110
      go_wp2_with fail
      refine HE.out.mono ?_
      rintro e w1 ⟨rfl, m, rfl⟩
      go_wp2
      go_ret
      exact ⟨ret_bool (by simp [HXY.out]), Below.drawnN (by go_grown) m⟩

set_option maxHeartbeats 1600000 in
theorem eqTermS_anyC (A A' : Option Addr) (n c n' c' : Nat) (ts us : List Tm) (w : World) (hs : TS w A n ts) (hs' : TS w A' n' us) (hn : n ≤ 1099511627776) (hn' : n' ≤ 1099511627776)
    (hne : ∀ k, k < n → (tm ts k).1.length ≤ 1099511627776) (hne' : ∀ k, k < n' → (tm us k).1.length ≤ 1099511627776) :
    Calls Try.prog 37 #[.slice A n c, .slice A' n' c'] w fun e w' => e = .returned (.bool (eqTs ts us)) ∧ Below w.heap.size w w' := by
  have HNE := Lib.hid (And.intro hne hne')
  have HL := Lib.hid (And.intro hs.1 hs'.1)
  clear hne hne'
  by_cases hnn : n = n'
  · subst hnn
    go_enter Try.func37, Try.ntmps37
    go_wp2
    go_loopw [5] (fun i wr => ∃ k : Nat, k ≤ n ∧ i = .int .i64 k ∧ (∀ j, j < k → tm ts j = tm us j) ∧ Below w.heap.size w wr)
      (fun i _ => n - (intOf i).toNat)
    case atStart => exact ⟨0, Nat.zero_le _, rfl, fun j hj => absurd hj (by omega), Below.refl _ _⟩
    case round =>
      obtain ⟨k, hk, rfl, hall, hbel⟩ := hrel
      have HA := Lib.hid hall
      have HB := Lib.hid hbel
      clear hall
      by_cases hlt : k < n
      · obtain ⟨b, o, A1, n1, c1, rfl, hb, hc0, hc1, hsi, hnc, hnil⟩ := (hs.below hbel (by omega)).at_ hlt
        obtain ⟨b', o', A2, n2, c2, rfl, hb', hc0', hc1', hsi', hnc', hnil'⟩ := (hs'.below hbel (by omega)).at_ hlt
        have hl1 : n1 ≤ 1099511627776 := by have := HNE.out.1 k hlt; have := hsi.1; omega
        have hl2 : n2 ≤ 1099511627776 := by have := HNE.out.2 k hlt; have := hsi'.1; omega
        have hlI : (k : Int) < (n : Int) := by omega
        have R1 := TS.range hc0 hc1
        have R2 := TS.range hc0' hc1'
        have call : ∀ w', AfterT wr w' → Calls Try.prog 110 #[.agg #[.slice A1 n1 c1, .int .i64 (tm ts k).2], .agg #[.slice A2 n2 c2, .int .i64 (tm us k).2]] w' (fun e w'' => e = .returned (.bool (decide (tm ts k = tm us k))) ∧ AfterT wr w'') := fun w' hw' =>
          (eqTerm_anyC A1 A2 n1 c1 n2 c2 _ _ _ _ w' (hsi.below hw' (Nat.le_refl _)) (hsi'.below hw' (Nat.le_refl _)) hl1 hl2).mono fun e w'' ⟨he, hb⟩ => ⟨he, Below.trans hw' (hb.mono hw'.size)⟩
        have LD1 : ∀ w', AfterT wr w' → w'.rangeAt b (o + k * 2) [.slice A1 n1 c1, .int .i64 (tm ts k).2] := fun w' hw' j v hj => by
          rw [Below.cell hw' (p := ⟨b, o + k * 2 + j, none⟩) hb]; exact R1 j v hj
        have LD2 : ∀ w', AfterT wr w' → w'.rangeAt b' (o' + k * 2) [.slice A2 n2 c2, .int .i64 (tm us k).2] := fun w' hw' j v hj => by
          rw [Below.cell hw' (p := ⟨b', o' + k * 2 + j, none⟩) hb']; exact R2 j v hj
        obtain ⟨x, hx⟩ : ∃ x, x = (tm ts k).2 := ⟨_, rfl⟩
        obtain ⟨y, hy⟩ : ∃ y, y = (tm us k).2 := ⟨_, rfl⟩
        obtain ⟨q, hq⟩ : ∃ q, q = decide (tm ts k = tm us k) := ⟨_, rfl⟩
        rw [← hx] at LD1 call
        rw [← hy] at LD2 call
        rw [← hq] at call
        have HQ := Lib.hid hq
        have CA := Lib.hid call
        have L1 := Lib.hid LD1
        have L2 := Lib.hid LD2
        clear hc0 hc1 hc0' hc1' hsi hsi' hs hs' hbel R1 R2 call LD1 LD2 hx hy hq hnil hnil'
        go_wp2_with fail
        refine tq_class (AfterT wr) (by kernel_rfl) (by kernel_rfl) (Below.refl _ _).drew ?_
        refine tq_move rfl _ rfl ?_
        refine tq_move rfl _ rfl ?_
        refine wpQuiet_step (fun K hK => ?_)
        go_simp
        refine ⟨.pointer (some ⟨b, o + k * 2, none⟩), fun w' _ => rfl, hK _ ?_⟩
        clear hK K
        refine tq_load rfl 117 (.tmp 19) rfl b (o + k * 2) rfl [.slice A1 n1 c1, .int .i64 x] _ L1.out Try.underlying117 rfl Try.infoTermC ?_
        refine tq_move rfl _ rfl ?_
        refine tq_move rfl _ rfl ?_
        refine wpQuiet_step (fun K hK => ?_)
        go_simp
        refine ⟨.pointer (some ⟨b', o' + k * 2, none⟩), fun w' _ => rfl, hK _ ?_⟩
        clear hK K
        refine tq_load rfl 117 (.tmp 23) rfl b' (o' + k * 2) rfl [.slice A2 n2 c2, .int .i64 y] _ L2.out Try.underlying117 rfl Try.infoTermC ?_
        refine wpQuiet_step (fun K hK => ?_)
        go_simp
        refine ⟨.bool q, fun w' hw' => CA.out w' hw', hK _ ?_⟩
        clear hK K
        refine wpQuiet_step (fun K hK => ?_)
        go_simp
        refine ⟨.bool (!q), fun w' _ => rfl, hK _ ?_⟩
        clear hK K
        refine wpQuiet_nil ?_
        intro w5 hw5
        have HB5 := Lib.hid (HB.out.trans (Below.mono hw5 HB.out.size))
        clear hw5 L1 L2 CA
        cases q with
        | true =>
          go_wp2
          go_roundw
          case rel => exact ⟨k + 1, by omega, by go_num, fun j hj => by
            rcases Nat.lt_or_ge j k with h | h
            · exact HA.out j h
            · obtain rfl : j = k := by omega
              exact of_decide_eq_true HQ.out.symm, HB5.out⟩
          case measure => simp [intOf]; omega
        | false =>
          go_wp2
          go_ret
          exact ⟨ret_bool (eqTs_ne (k := k) (of_decide_eq_false HQ.out.symm)).symm, HB5.out⟩
      · have hkn : k = n := by omega
        subst hkn
        go_wp2
        go_ret
        exact ⟨ret_bool (eqTs_all (by have := HL.out; omega) (by rw [HL.out.1]; exact HA.out)).symm, HB.out⟩
  · have hne' : ¬ (n : Int) = (n' : Int) := by omega
    go_enter Try.func37, Try.ntmps37
    go_wp2
    go_ret
    exact ⟨ret_bool (eqTs_len (by have := HL.out; omega)).symm, Below.refl _ _⟩
end Go.Proofs.Ytjpoliibljjhnaa.Cls

/-
  TermMark, for values of type Class instead of terms (made by wip/gen/gen_cls.py). Conditions: lengths below 2^40.
-/


namespace Go.Proofs.Ytjpoliibljjhnaa.Cls
open Go.RowKit
set_option maxHeartbeats 800000 in
theorem markTermS_ownC (g n c lo hi : Nat) (ts : List Tm) (q : Int) (w : World) (hs : OwnTC w lo hi (some ⟨g, 0, none⟩) n c ts) (hn : n ≤ 1099511627776) (hne : ∀ k, k < n → (tm ts k).1.length ≤ 1099511627776)
    (hq : ∀ k, k ≤ n → 0 ≤ endT (ts.take k) q ∧ endT (ts.take k) q ≤ 1099511627776) (hg : lo ≤ g ∧ g < hi) :
    Calls Try.prog 38 #[.slice (some ⟨g, 0, none⟩) n c, .int .i64 q] w fun e w' => e = .returned (.int .i64 (endT ts q)) ∧ OwnTC w' lo hi (some ⟨g, 0, none⟩) n c (marksT ts q) ∧ Within lo hi w w' := by
  have HL := Lib.hid hs.len
  have HNE := Lib.hid hne
  have HQ := Lib.hid hq
  clear hne hq
  go_enter Try.func38, Try.ntmps38
  go_wp2
  go_loopw [1, 5] (fun p i wr => ∃ k : Nat, k ≤ n ∧ i = .int .i64 k ∧ p = .int .i64 (endT (ts.take k) q) ∧ OwnTC wr lo hi (some ⟨g, 0, none⟩) n c (mixT ts q k) ∧ Within lo hi w wr)
    (fun _ i _ => n - (intOf i).toNat)
  case atStart => exact ⟨0, Nat.zero_le _, rfl, rfl, by rw [mixT_zero]; exact hs, Within.refl _ _ _⟩
  case round =>
    obtain ⟨k, hk, rfl, rfl, hown, hwi⟩ := hrel
    clear hs
    by_cases hlt : k < n
    · have hlI : (k : Int) < (n : Int) := by omega
      obtain ⟨A', n', c', hc0, hc1, hfz, hx, hback⟩ := hown.exp hlt
      rw [mixT_tm (by rw [HL.out]; exact hlt)] at hx hback
      have hq0 := HQ.out k hk
      have hq1 := HQ.out (k + 1) (by omega)
      have es := endT_succ (ts := ts) (q := q) (k := k) (by rw [HL.out]; exact hlt)
      have em := mixT_succ (ts := ts) (q := q) (k := k) (by rw [HL.out]; exact hlt)
      have hl' := hx.len
      rw [hl'] at es em
      have hn' : n' ≤ 1099511627776 := by have := HNE.out k hlt; omega
      obtain ⟨z, hz⟩ : ∃ z, z = endT (ts.take k) q := ⟨_, rfl⟩
      rw [← hz] at hq0 es em ⊢
      rw [es] at hq1
      have hM := markIntS_any A' n' c' lo hi (tm ts k).1 z wr hx hn' hq0.1 hq0.2
      have HM := Lib.hid hM
      have HBK := Lib.hid hback
      have HX := Lib.hid hx
      have HW := Lib.hid hwi
      have HES := Lib.hid es
      have HEM := Lib.hid em
      have HZ := Lib.hid hz
      clear hown hc1 hfz hx hback hM hwi es em hz hl'
      go_wp2_with fail
      refine HM.out.mono ?_
      rintro e w2 ⟨rfl, ho2, hg2⟩
      have hO2 := HBK.out w2 _ ho2 hg2
      have hW2 := HW.out.trans (Within.of_grown hg2 (fun b hb => HX.out.lt b hb))
      obtain ⟨hO3, hg3⟩ := hO2.put2 hlt (z + (n' : Int))
      obtain ⟨_, _, _, hd0, hd1, hfz, _, _⟩ := hO2.exp hlt
      have hf1 := hfz (k * 2 + 1)
      have hW3 := hW2.trans (Within.of_grown hg3 (fun b hb => by injection hb with hb; subst hb; exact hg))
      rw [tm_set (by have := hO2.len; simp at this ⊢; omega), if_pos rfl, List.set_set, HEM.out] at hO3
      have HO3 := Lib.hid hO3
      have HW3 := Lib.hid hW3
      clear hO2 hO3 hW2 hW3 ho2 hg2 hg3 hd0 hfz HBK HX HM HW hc0
      go_wp2
      go_roundw
      case rel => exact ⟨k + 1, by omega, by go_num, by rw [HES.out], HO3.out, HW3.out⟩
      case measure => simp [intOf]; omega
    · have hkn : k = n := by omega
      subst hkn
      have e1 : ts.take k = ts := List.take_of_length_le (by rw [HL.out]; omega)
      rw [e1]
      have e2 := mixT_all ts q
      rw [HL.out] at e2
      rw [e2] at hown
      go_wp2
      go_ret
      exact ⟨rfl, hown, hwi⟩
set_option maxHeartbeats 400000 in
theorem markTermS_anyC (A : Option Addr) (n c lo hi : Nat) (ts : List Tm) (q : Int) (w : World) (hs : OwnTC w lo hi A n c ts) (hn : n ≤ 1099511627776) (hne : ∀ k, k < n → (tm ts k).1.length ≤ 1099511627776)
    (hq : ∀ k, k ≤ n → 0 ≤ endT (ts.take k) q ∧ endT (ts.take k) q ≤ 1099511627776) :
    Calls Try.prog 38 #[.slice A n c, .int .i64 q] w fun e w' => e = .returned (.int .i64 (endT ts q)) ∧ OwnTC w' lo hi A n c (marksT ts q) ∧ Within lo hi w w' := by
  by_cases h0 : 0 < n
  · obtain ⟨g, rfl, h1, h2⟩ := hs.place h0
    exact markTermS_ownC g n c lo hi ts q w hs hn hne hq ⟨h1, h2⟩
  · have hz : n = 0 := by omega
    subst hz
    have hx : ts = [] := List.eq_nil_of_length_eq_zero hs.len
    subst hx
    have HS := Lib.hid hs
    clear hs hq hne
    go_enter Try.func38, Try.ntmps38
    go_wp2
    refine wp_loop_rounds 1 ?_
    rw [rounds_succ]
    go_wp2
    go_ret
    exact ⟨rfl, HS.out, Within.refl _ _ _⟩
set_option maxHeartbeats 800000 in
theorem heldTermS_yesC (A : Option Addr) (n c : Nat) (ts : List Tm) (q : Int) (w : World) (hs : TS w A n (marksT ts q)) (hn : n ≤ 1099511627776) (hne : ∀ k, k < n → (tm ts k).1.length ≤ 1099511627776)
    (hq : ∀ k, k ≤ n → 0 ≤ endT (ts.take k) q ∧ endT (ts.take k) q ≤ 1099511627776) :
    Calls Try.prog 39 #[.slice A n c, .int .i64 q] w fun e w' => e = .returned (.int .i64 (endT ts q)) ∧ Drawn w w' := by
  have HL : Hid (ts.length = n) := Lib.hid (by rw [← marksT_len ts q]; exact hs.1)
  have HNE := Lib.hid hne
  have HQ := Lib.hid hq
  clear hne hq
  go_enter Try.func39, Try.ntmps39
  go_wp2
  go_loopw [1, 5] (fun p i wr => ∃ k : Nat, k ≤ n ∧ i = .int .i64 k ∧ p = .int .i64 (endT (ts.take k) q) ∧ Drawn w wr)
    (fun _ i _ => n - (intOf i).toNat)
  case atStart => exact ⟨0, Nat.zero_le _, rfl, rfl, Drawn.refl _⟩
  case round =>
    obtain ⟨k, hk, rfl, rfl, hD⟩ := hrel
    have HD := Lib.hid hD
    have hts := hs.drawn hD
    clear hs hD
    by_cases hlt : k < n
    · have hlI : (k : Int) < (n : Int) := by omega
      obtain ⟨b, o, A', n', c', rfl, hb, hc0, hc1, hsi, hnc, hnil⟩ := hts.at_ hlt
      rw [marksT_tm (by rw [HL.out]; exact hlt)] at hc1 hsi
      have hq0 := HQ.out k hk
      have hq1 := HQ.out (k + 1) (by omega)
      have es := endT_succ (ts := ts) (q := q) (k := k) (by rw [HL.out]; exact hlt)
      have hl' : n' = (tm ts k).1.length := by rw [← hsi.1]; simp [marks_len]
      have hn' : n' ≤ 1099511627776 := by have := HNE.out k hlt; omega
      dsimp only at hc1 hsi
      rw [← hl'] at es hc1 hsi
      obtain ⟨z, hz⟩ : ∃ z, z = endT (ts.take k) q := ⟨_, rfl⟩
      rw [← hz] at hq0 es hc1 hsi ⊢
      rw [es] at hq1
      have hM := heldIntS_yes A' n' c' z wr hsi hn' hq0.1 hq0.2
      have HM := Lib.hid hM
      have HES := Lib.hid es
      clear hts hsi hM es hz hl' hnil
      have hzn : ¬ z + (n' : Int) < 0 := by omega
      go_wp2_with fail
      refine HM.out.mono ?_
      rintro e w2 ⟨rfl, hD2⟩
      have hcx : w2.cell? ⟨b, o + k * 2 + 1, none⟩ = some (.int .i64 (z + (n' : Int))) := by obtain ⟨m, rfl⟩ := hD2; exact hc1
      have HD2 := Lib.hid (HD.out.trans hD2)
      clear hD2 hc0 hc1 HM
      go_wp2
      go_roundw
      case rel => exact ⟨k + 1, by omega, by go_num, by rw [HES.out], HD2.out⟩
      case measure => simp [intOf]; omega
    · have hkn : k = n := by omega
      subst hkn
      have e1 : ts.take k = ts := List.take_of_length_le (by rw [HL.out]; omega)
      rw [e1]
      go_wp2
      go_ret
      exact ⟨rfl, HD.out⟩
end Go.Proofs.Ytjpoliibljjhnaa.Cls

/-
  SmallT, for values of type Class instead of terms (made by wip/gen/gen_cls.py). Conditions: lengths below 2^40.
-/



namespace Go.Proofs.Ytjpoliibljjhnaa.Cls
open Go.RowKit
end Go.Proofs.Ytjpoliibljjhnaa.Cls

/-
  Opening a slice of integers that came in; closed facts of this dump. No conditions.
-/




namespace Go.Proofs.Ytjpoliibljjhnaa
open Go.ChangeShapes Go.WideShapes Go.ChangeAt Go.RowKit

theorem own : ownKnob Try.prog.godebug = none := by kernel_rfl
theorem laidOut : laidOutB Try.prog = true := by kernel_rfl

/-- What an opened slice of integers gives: it reads as its numbers. -/
theorem SI.of_cells {w : World} {a : Addr} {n : Nat} {zs : List Int} (hl : n ≤ zs.length) (hc : ∀ i, i < zs.length → w.cell? (a.add i) = some (.int .i64 (zs.getD i 0))) : SI w (some a) n (zs.take n) := by
  refine ⟨by simp; omega, fun hn => ?_⟩
  obtain ⟨b, o, s⟩ := a
  have h0 := hc 0 (by omega)
  have hs : s = none := by simpa [Addr.add] using World.cell?_spot h0
  subst hs
  refine ⟨b, o, rfl, block_lt_of_cell (a := ⟨b, o, none⟩) (by simpa [Addr.add] using h0), fun k hk => ?_⟩
  rw [nth_take hk, ← add_pt]
  exact hc k (by omega)

/-- Every number fits an int. -/
def Fits (xs : List Int) : Prop := ∀ x ∈ xs, -9223372036854775808 ≤ x ∧ x ≤ 9223372036854775807
theorem SI.of_trod {H : Type} {enc : TypeId × Value → H} {W : World} {q : Nat} {f : Nat → Bool} {a0 : Option Addr} {len0 cap0 : Nat} {d : DataW H} {p : List MemPlace}
    (h0 : DataW.Trod enc Try.prog W q f true 22 (.slice a0 len0 cap0) d p) : ∃ xs, SI W a0 len0 xs ∧ Fits xs := by
  obtain ⟨fuel, hf⟩ := h0
  rcases open_ints Try.underlying22 Try.underlying3 (by kernel_rfl) hf with ⟨hcs, _⟩ | ⟨x, l, c, zs, hcs, _, hl, hm, hz, _, hcell, hwz⟩
  · simp [Value.cells] at hcs
    obtain ⟨rfl, rfl, rfl⟩ := hcs
    exact ⟨[], SI.nil _ _, fun x hx => by cases hx⟩
  · simp [Value.cells] at hcs
    obtain ⟨rfl, rfl, rfl⟩ := hcs
    exact ⟨_, SI.of_cells (by rw [hz]; split <;> omega) hcell, fun n hn => bounds_i64 (hwz n (List.mem_of_mem_take hn))⟩
end Go.Proofs.Ytjpoliibljjhnaa
