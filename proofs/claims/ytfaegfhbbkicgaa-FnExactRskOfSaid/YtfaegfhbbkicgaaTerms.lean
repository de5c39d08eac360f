/-
  Terms and polynomials as lists: keys, their order, when a list of terms is a polynomial. Plain lemmas. No conditions.
-/
import Derived.Test.YtfaegfhbbkicgaaSpecC
namespace Go.Proofs.Ytfaegfhbbkicgaa
open Go.RowKit

/-- A term: its exponents and its number. -/
abbrev Tm := List Int × Int
def tm (ts : List Tm) (k : Nat) : Tm := ts.getD k ([], 0)
theorem tm_get {ts : List Tm} {k : Nat} (h : k < ts.length) : tm ts k = ts[k] := by simp [tm, List.getD, h]
theorem tm_get? {ts : List Tm} {k : Nat} (h : k < ts.length) : ts[k]? = some (tm ts k) := by simp [tm, List.getD, h]
theorem take_tm {ts : List Tm} {k : Nat} (h : k < ts.length) : ts.take (k + 1) = ts.take k ++ [tm ts k] := by
  rw [List.take_succ_eq_append_getElem h, tm_get h]
theorem tm_app_lt {ts us : List Tm} {k : Nat} (h : k < ts.length) : tm (ts ++ us) k = tm ts k := by simp [tm, List.getD, List.getElem?_append, h]
theorem tm_app_at {ts : List Tm} {t : Tm} : tm (ts ++ [t]) ts.length = t := by simp [tm, List.getD]
theorem tm_ext {ts us : List Tm} (hl : ts.length = us.length) (h : ∀ j, j < ts.length → tm ts j = tm us j) : ts = us := by
  apply List.ext_getElem hl
  intro j h1 h2
  have := h j h1
  rwa [tm_get h1, tm_get h2] at this

/-- The key of exponents: seven bits for each, the last in front. -/
def key7 (e : List Int) : Int := e.foldr (fun x k => k * 128 + x) 0
theorem key7_drop {e : List Int} {i : Nat} (h : i < e.length) : key7 (e.drop i) = key7 (e.drop (i + 1)) * 128 + nth e i := by
  rw [List.drop_eq_getElem_cons h, nth_get h]; rfl
/-- All exponents are from 0 to 24. -/
def smallE (e : List Int) : Bool := e.all fun x => decide (0 ≤ x ∧ x ≤ 24)
theorem smallE_nth {e : List Int} (h : smallE e = true) {k : Nat} (hk : k < e.length) : 0 ≤ nth e k ∧ nth e k ≤ 24 := by
  rw [nth_get hk]
  have := List.all_eq_true.1 h _ (List.getElem_mem hk)
  simpa using this
theorem smallE_all {e : List Int} (h : ∀ k, k < e.length → 0 ≤ nth e k ∧ nth e k ≤ 24) : smallE e = true := by
  apply List.all_eq_true.2
  intro x hx
  obtain ⟨k, hk, rfl⟩ := List.getElem_of_mem hx
  have := h k hk
  rw [nth_get hk] at this
  simpa using this
theorem smallE_no {e : List Int} {k : Nat} (hk : k < e.length) (h : nth e k < 0 ∨ 24 < nth e k) : smallE e = false := by
  cases hb : smallE e with
  | false => rfl
  | true => have := smallE_nth hb hk; omega
theorem key7_bound : ∀ (e : List Int), (∀ k, k < e.length → 0 ≤ nth e k ∧ nth e k ≤ 24) → 0 ≤ key7 e ∧ key7 e < 128 ^ e.length
  | [], _ => by simp [key7]
  | x :: e, h => by
    have ih := key7_bound e (fun k hk => by have := h (k + 1) (by simp; omega); simpa [nth] using this)
    have h0 := h 0 (by simp)
    have h1 : nth (x :: e) 0 = x := by simp [nth]
    rw [h1] at h0
    have e1 : key7 (x :: e) = key7 e * 128 + x := rfl
    rw [e1, List.length_cons, Int.pow_succ]
    omega
theorem key7_lt : ∀ (a b : List Int) (i : Nat), a.length = b.length → (∀ k, k < a.length → 0 ≤ nth a k ∧ nth a k ≤ 127) → (∀ k, k < b.length → 0 ≤ nth b k ∧ nth b k ≤ 127) → i < a.length →
    (∀ j, i < j → j < a.length → nth a j = nth b j) → nth a i < nth b i → key7 a < key7 b
  | [], _, i, _, _, _, hi, _, _ => absurd hi (by simp)
  | x :: a, [], i, hl, _, _, _, _, _ => absurd hl (by simp)
  | x :: a, y :: b, 0, hl, ha, hb, hi, he, hx => by
    have e1 : key7 (x :: a) = key7 a * 128 + x := rfl
    have e2 : key7 (y :: b) = key7 b * 128 + y := rfl
    have e3 : a = b := by
      apply List.ext_getElem (by simpa using hl)
      intro j h1 h2
      have := he (j + 1) (by omega) (by simp; omega)
      simpa [nth, h1, h2] using this
    have h0 : x < y := by simpa [nth] using hx
    rw [e1, e2, e3]
    omega
  | x :: a, y :: b, i + 1, hl, ha, hb, hi, he, hx => by
    have e1 : key7 (x :: a) = key7 a * 128 + x := rfl
    have e2 : key7 (y :: b) = key7 b * 128 + y := rfl
    have ih := key7_lt a b i (by simpa using hl) (fun k hk => by have := ha (k + 1) (by simp; omega); simpa [nth] using this) (fun k hk => by have := hb (k + 1) (by simp; omega); simpa [nth] using this) (by simpa using hi)
      (fun j h1 h2 => by have := he (j + 1) (by omega) (by simp; omega); simpa [nth] using this) (by simpa [nth] using hx)
    have ha0 := ha 0 (by simp)
    have hb0 := hb 0 (by simp)
    have h1 : nth (x :: a) 0 = x := by simp [nth]
    have h2 : nth (y :: b) 0 = y := by simp [nth]
    rw [h1] at ha0
    rw [h2] at hb0
    rw [e1, e2]
    omega

/-- A term with seven exponents from 0 to 24 and a number other than 0 of at most a million. -/
def goodT (t : Tm) : Bool := decide (t.1.length = 7) && smallE t.1 && decide (t.2 ≠ 0 ∧ -1000000 ≤ t.2 ∧ t.2 ≤ 1000000)
theorem goodT_iff (t : Tm) : goodT t = true ↔ t.1.length = 7 ∧ smallE t.1 = true ∧ t.2 ≠ 0 ∧ -1000000 ≤ t.2 ∧ t.2 ≤ 1000000 := by
  simp [goodT, and_assoc]
theorem goodT_no {t : Tm} (h : ¬ (t.1.length = 7 ∧ smallE t.1 = true ∧ t.2 ≠ 0 ∧ -1000000 ≤ t.2 ∧ t.2 ≤ 1000000)) : goodT t = false := by
  cases hb : goodT t with
  | false => rfl
  | true => exact absurd ((goodT_iff t).1 hb) h
/-- Term k is good and stands behind the one ahead of it. -/
def okAt (ts : List Tm) (k : Nat) : Bool := goodT (tm ts k) && (decide (k = 0) || decide (key7 (tm ts k).1 < key7 (tm ts (k - 1)).1))
def polyB (ts : List Tm) : Bool := decide (ts.length ≤ 600) && (List.range ts.length).all fun k => okAt ts k
theorem polyB_big {ts : List Tm} (h : 600 < ts.length) : polyB ts = false := by simp [polyB]; omega
theorem polyB_all {ts : List Tm} (h : ts.length ≤ 600) (hk : ∀ k, k < ts.length → okAt ts k = true) : polyB ts = true := by
  simp only [polyB, Bool.and_eq_true, decide_eq_true_eq, List.all_eq_true, List.mem_range]
  exact ⟨h, hk⟩
theorem polyB_len {ts : List Tm} (h : polyB ts = true) : ts.length ≤ 600 := by
  simp only [polyB, Bool.and_eq_true, decide_eq_true_eq] at h
  exact h.1
theorem polyB_ok {ts : List Tm} (h : polyB ts = true) {k : Nat} (hk : k < ts.length) : okAt ts k = true := by
  simp only [polyB, Bool.and_eq_true, decide_eq_true_eq, List.all_eq_true, List.mem_range] at h
  exact h.2 k hk
theorem polyB_good {ts : List Tm} (h : polyB ts = true) {k : Nat} (hk : k < ts.length) : goodT (tm ts k) = true := by
  have := polyB_ok h hk
  simp only [okAt, Bool.and_eq_true] at this
  exact this.1
theorem polyB_no {ts : List Tm} {k : Nat} (hk : k < ts.length) (h : okAt ts k = false) : polyB ts = false := by
  cases hb : polyB ts with
  | false => rfl
  | true => have := polyB_ok hb hk; rw [h] at this; cases this
theorem okAt_good {ts : List Tm} {k : Nat} (h : okAt ts k = true) : goodT (tm ts k) = true := by
  simp only [okAt, Bool.and_eq_true] at h
  exact h.1
theorem okAt_bad {ts : List Tm} {k : Nat} (h : goodT (tm ts k) = false) : okAt ts k = false := by simp [okAt, h]
theorem okAt_zero {ts : List Tm} (h : goodT (tm ts 0) = true) : okAt ts 0 = true := by simp [okAt, h]
theorem okAt_step {ts : List Tm} {k : Nat} (h : goodT (tm ts k) = true) (hk : key7 (tm ts k).1 < key7 (tm ts (k - 1)).1) : okAt ts k = true := by simp [okAt, h, hk]
theorem okAt_wrong {ts : List Tm} {k : Nat} (h0 : 0 < k) (hk : ¬ key7 (tm ts k).1 < key7 (tm ts (k - 1)).1) : okAt ts k = false := by
  have : k ≠ 0 := by omega
  simp [okAt, hk, this]
end Go.Proofs.Ytfaegfhbbkicgaa
