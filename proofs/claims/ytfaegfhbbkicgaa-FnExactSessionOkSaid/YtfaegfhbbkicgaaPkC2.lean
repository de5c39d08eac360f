/-
  Texts Spn to ClassM, merged. Conditions: as each says.
-/
import Derived.Deep.Cut
import Derived.Sort.Grow
import Derived.Deep.MidRow
import Derived.Test.YtfaegfhbbkicgaaPkC1
/-
  Rows modulo a number: sums of multiples of rows, the columns at which such sums begin, rows in echelon form. No conditions but p ≥ 2 where it is said.
-/

namespace Go.Proofs.Ytfaegfhbbkicgaa

/-- Zero modulo p at the first n columns. -/
def Z0 (p : Int) (n : Nat) (v : Nat → Int) : Prop := ∀ k, k < n → p ∣ v k
/-- v is a sum of multiples of the rows, modulo p, at the first n columns. -/
def Sp (p : Int) (n : Nat) : List (Nat → Int) → (Nat → Int) → Prop
  | [], v => Z0 p n v
  | e :: R, v => ∃ a : Int, Sp p n R (fun k => v k - a * e k)
section
variable {p : Int} {n : Nat}
theorem Sp.congr : ∀ {R : List (Nat → Int)} {u v : Nat → Int}, (∀ k, k < n → p ∣ u k - v k) → Sp p n R u → Sp p n R v
  | [], u, v, h, hu => fun k hk => by
    have h1 := h k hk
    have h2 := hu k hk
    have h3 := Int.dvd_sub h2 h1
    have e : u k - (u k - v k) = v k := by omega
    rwa [e] at h3
  | e :: R, u, v, h, ⟨a, hu⟩ => ⟨a, Sp.congr (fun k hk => by
      have h1 := h k hk
      have e1 : u k - a * e k - (v k - a * e k) = u k - v k := by omega
      rwa [e1]) hu⟩
theorem Sp.of_eq {R : List (Nat → Int)} {u v : Nat → Int} (hu : Sp p n R u) (h : ∀ k, k < n → u k = v k) : Sp p n R v :=
  hu.congr fun k hk => by rw [h k hk, Int.sub_self]; exact Int.dvd_zero _
theorem Sp.zero : ∀ {R : List (Nat → Int)} {v : Nat → Int}, Z0 p n v → Sp p n R v
  | [], _, h => h
  | e :: R, v, h => ⟨0, Sp.zero (R := R) fun k hk => by
      have := h k hk
      simpa using this⟩
theorem Sp.add : ∀ {R : List (Nat → Int)} {u v : Nat → Int}, Sp p n R u → Sp p n R v → Sp p n R (fun k => u k + v k)
  | [], _, _, hu, hv => fun k hk => Int.dvd_add (hu k hk) (hv k hk)
  | e :: R, u, v, ⟨a, hu⟩, ⟨b, hv⟩ => ⟨a + b, (Sp.add hu hv).of_eq fun k _ => by
      show u k - a * e k + (v k - b * e k) = u k + v k - (a + b) * e k
      rw [Int.add_mul]; omega⟩
theorem Sp.mul (c : Int) : ∀ {R : List (Nat → Int)} {v : Nat → Int}, Sp p n R v → Sp p n R (fun k => c * v k)
  | [], _, h => fun k hk => Int.dvd_mul_of_dvd_right (h k hk)
  | e :: R, v, ⟨a, h⟩ => ⟨c * a, (Sp.mul c h).of_eq fun k _ => by
      show c * (v k - a * e k) = c * v k - c * a * e k
      rw [Int.mul_sub, Int.mul_assoc]⟩
theorem Sp.mem : ∀ {R : List (Nat → Int)} {e : Nat → Int}, e ∈ R → Sp p n R e
  | f :: R, e, h => by
    rcases List.mem_cons.1 h with rfl | h'
    · exact ⟨1, Sp.zero fun k _ => by
        show p ∣ e k - 1 * e k
        rw [Int.one_mul, Int.sub_self]; exact Int.dvd_zero _⟩
    · exact ⟨0, (Sp.mem h').of_eq fun k _ => by
        show e k = e k - 0 * f k
        rw [Int.zero_mul]; omega⟩
theorem Sp.trans {R' : List (Nat → Int)} : ∀ {R : List (Nat → Int)} {v : Nat → Int}, (∀ r, r ∈ R → Sp p n R' r) → Sp p n R v → Sp p n R' v
  | [], _, _, h => Sp.zero h
  | e :: R, v, hr, ⟨a, h⟩ => by
    have h1 := Sp.trans (fun r hr' => hr r (List.mem_cons_of_mem _ hr')) h
    have h2 := (hr e (List.mem_cons_self ..)).mul a
    exact (h1.add h2).of_eq fun k _ => by
      show v k - a * e k + a * e k = v k
      omega
theorem Sp.same {R R' : List (Nat → Int)} (h : ∀ r, r ∈ R → Sp p n R' r) (h' : ∀ r, r ∈ R' → Sp p n R r) (v : Nat → Int) : Sp p n R v ↔ Sp p n R' v :=
  ⟨Sp.trans h, Sp.trans h'⟩
theorem Sp.sub {R : List (Nat → Int)} {u v : Nat → Int} (hu : Sp p n R u) (hv : Sp p n R v) : Sp p n R (fun k => u k - v k) :=
  (hu.add (hv.mul (-1))).of_eq fun k _ => by
    show u k + -1 * v k = u k - v k
    omega
theorem Sp.zero_at {c : Nat} (hc : c < n) : ∀ {R : List (Nat → Int)} {v : Nat → Int}, (∀ r, r ∈ R → p ∣ r c) → Sp p n R v → p ∣ v c
  | [], _, _, h => h c hc
  | e :: R, v, hr, ⟨a, h⟩ => by
    have h1 := Sp.zero_at hc (fun r hr' => hr r (List.mem_cons_of_mem _ hr')) h
    have h2 := Int.dvd_add h1 (Int.dvd_mul_of_dvd_right (b := a) (hr e (List.mem_cons_self ..)))
    have e1 : v c - a * e c + a * e c = v c := by omega
    rwa [e1] at h2
theorem Sp.app_left {R R' : List (Nat → Int)} {v : Nat → Int} (h : Sp p n R v) : Sp p n (R ++ R') v :=
  h.trans fun _ hr => Sp.mem (List.mem_append_left _ hr)
theorem Sp.app_right {R R' : List (Nat → Int)} {v : Nat → Int} (h : Sp p n R' v) : Sp p n (R ++ R') v :=
  h.trans fun _ hr => Sp.mem (List.mem_append_right _ hr)

/-- The first column other than 0. -/
def Lead (p : Int) (n : Nat) (v : Nat → Int) (j : Nat) : Prop := j < n ∧ ¬ p ∣ v j ∧ ∀ i, i < j → p ∣ v i
theorem Lead.uniq {v : Nat → Int} {i j : Nat} (h : Lead p n v i) (h' : Lead p n v j) : i = j := by
  rcases Nat.lt_trichotomy i j with hlt | rfl | hlt
  · exact absurd (h'.2.2 i hlt) h.2.1
  · rfl
  · exact absurd (h.2.2 j hlt) h'.2.1
/-- Rows with columns of their own: 1 there, 0 before it, and 0 there in all later rows. -/
def Ech (p : Int) (n : Nat) : List ((Nat → Int) × Nat) → Prop
  | [] => True
  | (e, c) :: R => c < n ∧ p ∣ e c - 1 ∧ (∀ i, i < c → p ∣ e i) ∧ (∀ x, x ∈ R → p ∣ x.1 c) ∧ Ech p n R
theorem Ech.at_ : ∀ {R : List ((Nat → Int) × Nat)}, Ech p n R → ∀ {x}, x ∈ R → x.2 < n ∧ p ∣ x.1 x.2 - 1 ∧ ∀ i, i < x.2 → p ∣ x.1 i
  | (e, c) :: R, h, x, hx => by
    rcases List.mem_cons.1 hx with rfl | hx'
    · exact ⟨h.1, h.2.1, h.2.2.1⟩
    · exact Ech.at_ h.2.2.2.2 hx'
theorem one_not (hp : 2 ≤ p) {x : Int} (h : p ∣ x - 1) : ¬ p ∣ x := fun h' => by
  have h1 := Int.dvd_sub h' h
  have e : x - (x - 1) = 1 := by omega
  rw [e] at h1
  have := Int.le_of_dvd (by decide) h1
  omega
theorem Ech.lead_mem (hp : 2 ≤ p) {R : List ((Nat → Int) × Nat)} (h : Ech p n R) {x : (Nat → Int) × Nat} (hx : x ∈ R) : Lead p n x.1 x.2 := by
  obtain ⟨h1, h2, h3⟩ := h.at_ hx
  exact ⟨h1, one_not hp h2, h3⟩
/-- A sum of multiples of such rows is zero, or begins at one of their columns. -/
theorem Ech.lead (hp : 2 ≤ p) : ∀ {R : List ((Nat → Int) × Nat)}, Ech p n R → ∀ {v}, Sp p n (R.map (·.1)) v → Z0 p n v ∨ ∃ x, x ∈ R ∧ Lead p n v x.2
  | [], _, v, hv => .inl hv
  | (e, c) :: R, h, v, ⟨a, hv⟩ => by
    obtain ⟨hc, he, hbe, hz, hR⟩ := h
    have hwc : p ∣ v c - a * e c := Sp.zero_at hc (v := fun k => v k - a * e k) (fun r hr => by
      obtain ⟨x, hx, rfl⟩ := List.mem_map.1 hr
      exact hz x hx) hv
    have ih := Ech.lead hp hR hv
    by_cases ha : p ∣ a
    · have hk : ∀ k, p ∣ v k ↔ p ∣ v k - a * e k := fun k => by
        have hd : p ∣ a * e k := Int.dvd_mul_of_dvd_left ha
        refine ⟨fun hh => Int.dvd_sub hh hd, fun hh => ?_⟩
        have := Int.dvd_add hh hd
        have e1 : v k - a * e k + a * e k = v k := by omega
        rwa [e1] at this
      rcases ih with hz0 | ⟨x, hx, hl⟩
      · exact .inl fun k hk' => (hk k).2 (hz0 k hk')
      · exact .inr ⟨x, List.mem_cons_of_mem _ hx, hl.1, fun hh => hl.2.1 ((hk _).1 hh), fun i hi => (hk i).2 (hl.2.2 i hi)⟩
    · have hvc : ¬ p ∣ v c := fun hh => by
        have h1 := Int.dvd_sub hh hwc
        have e1 : v c - (v c - a * e c) = a * e c := by omega
        rw [e1] at h1
        have h2 := Int.dvd_mul_of_dvd_right (b := a) he
        have h3 := Int.dvd_sub h1 h2
        have e2 : a * e c - a * (e c - 1) = a := by rw [Int.mul_sub]; omega
        rw [e2] at h3
        exact ha h3
      have hbefore : ∀ k, k < c → (p ∣ v k ↔ p ∣ v k - a * e k) := fun k hk => by
        have hd : p ∣ a * e k := Int.dvd_mul_of_dvd_right (hbe k hk)
        refine ⟨fun hh => Int.dvd_sub hh hd, fun hh => ?_⟩
        have := Int.dvd_add hh hd
        have e1 : v k - a * e k + a * e k = v k := by omega
        rwa [e1] at this
      have hfirst : (∀ i, i < c → p ∣ v i) → ∃ x, x ∈ (e, c) :: R ∧ Lead p n v x.2 := fun hb =>
        ⟨(e, c), List.mem_cons_self .., hc, hvc, hb⟩
      rcases ih with hz0 | ⟨x, hx, hl⟩
      · exact .inr (hfirst fun i hi => (hbefore i hi).2 (hz0 i (by omega)))
      · by_cases hlt : x.2 < c
        · exact .inr ⟨x, List.mem_cons_of_mem _ hx, hl.1, fun hh => hl.2.1 ((hbefore _ hlt).1 hh), fun i hi => (hbefore i (by omega)).2 (hl.2.2 i hi)⟩
        · exact .inr (hfirst fun i hi => (hbefore i hi).2 (hl.2.2 i (by omega)))
theorem Ech.snoc : ∀ {R : List ((Nat → Int) × Nat)} {e : Nat → Int} {c : Nat}, Ech p n R → c < n → p ∣ e c - 1 → (∀ i, i < c → p ∣ e i) → (∀ x, x ∈ R → p ∣ e x.2) → Ech p n (R ++ [(e, c)])
  | [], e, c, _, h1, h2, h3, _ => ⟨h1, h2, h3, fun x hx => absurd hx (List.not_mem_nil), trivial⟩
  | (f, d) :: R, e, c, h, h1, h2, h3, h4 => by
    obtain ⟨a1, a2, a3, a4, a5⟩ := h
    refine ⟨a1, a2, a3, fun x hx => ?_, Ech.snoc a5 h1 h2 h3 fun x hx => h4 x (List.mem_cons_of_mem _ hx)⟩
    rcases List.mem_append.1 hx with hx | hx
    · exact a4 x hx
    · rw [List.mem_singleton] at hx
      subst hx
      exact h4 (f, d) (List.mem_cons_self ..)
theorem Ech.nodup (hp : 2 ≤ p) : ∀ {R : List ((Nat → Int) × Nat)}, Ech p n R → (R.map (·.2)).Nodup
  | [], _ => List.nodup_nil
  | (e, c) :: R, h => by
    obtain ⟨a1, a2, a3, a4, a5⟩ := h
    refine List.nodup_cons.2 ⟨fun hm => ?_, Ech.nodup hp a5⟩
    obtain ⟨x, hx, e1⟩ := List.mem_map.1 hm
    have e1' : x.2 = c := e1
    have h1 := a4 x hx
    have h2 := (Ech.lead_mem hp a5 hx).2.1
    rw [e1'] at h2
    exact h2 h1
/-- The columns are those at which sums of multiples begin. -/
theorem Ech.cols (hp : 2 ≤ p) {R : List ((Nat → Int) × Nat)} (h : Ech p n R) (c : Nat) : c ∈ R.map (·.2) ↔ ∃ v, Sp p n (R.map (·.1)) v ∧ Lead p n v c := by
  constructor
  · intro hm
    obtain ⟨x, hx, rfl⟩ := List.mem_map.1 hm
    exact ⟨x.1, Sp.mem (List.mem_map.2 ⟨x, hx, rfl⟩), h.lead_mem hp hx⟩
  · rintro ⟨v, hv, hl⟩
    rcases h.lead hp hv with hz | ⟨x, hx, hl'⟩
    · exact absurd (hz c hl.1) hl.2.1
    · rw [hl.uniq hl']
      exact List.mem_map.2 ⟨x, hx, rfl⟩
theorem nodup_le : ∀ {l m : List Nat}, l.Nodup → (∀ x, x ∈ l → x ∈ m) → l.length ≤ m.length
  | [], _, _, _ => Nat.zero_le _
  | a :: l, m, hd, hs => by
    have ha := hs a (List.mem_cons_self ..)
    obtain ⟨hn, hd'⟩ := List.nodup_cons.1 hd
    have h1 := nodup_le (m := m.erase a) hd' fun x hx => by
      have hne : x ≠ a := fun e => hn (e ▸ hx)
      exact (List.mem_erase_of_ne hne).2 (hs x (List.mem_cons_of_mem _ hx))
    have h2 := List.length_erase_of_mem ha
    have h3 := List.length_pos_of_mem ha
    simp only [List.length_cons]
    omega
theorem Ech.same_cols (hp : 2 ≤ p) {R S : List ((Nat → Int) × Nat)} (hR : Ech p n R) (hS : Ech p n S) (h : ∀ v, Sp p n (R.map (·.1)) v ↔ Sp p n (S.map (·.1)) v) (c : Nat) :
    c ∈ R.map (·.2) ↔ c ∈ S.map (·.2) := by
  rw [hR.cols hp, hS.cols hp]
  exact ⟨fun ⟨v, a, b⟩ => ⟨v, (h v).1 a, b⟩, fun ⟨v, a, b⟩ => ⟨v, (h v).2 a, b⟩⟩
theorem Ech.same_len (hp : 2 ≤ p) {R S : List ((Nat → Int) × Nat)} (hR : Ech p n R) (hS : Ech p n S) (h : ∀ v, Sp p n (R.map (·.1)) v ↔ Sp p n (S.map (·.1)) v) : R.length = S.length := by
  have h1 := nodup_le (hR.nodup hp) fun c hc => (hR.same_cols hp hS h c).1 hc
  have h2 := nodup_le (hS.nodup hp) fun c hc => (hR.same_cols hp hS h c).2 hc
  simp only [List.length_map] at h1 h2
  omega
/-- Sums of multiples that are alike at the columns are alike. -/
theorem Ech.uniq (hp : 2 ≤ p) {R : List ((Nat → Int) × Nat)} (h : Ech p n R) {u v : Nat → Int} (hu : Sp p n (R.map (·.1)) u) (hv : Sp p n (R.map (·.1)) v) (hc : ∀ x, x ∈ R → p ∣ u x.2 - v x.2) :
    ∀ k, k < n → p ∣ u k - v k := by
  rcases h.lead hp (hu.sub hv) with hz | ⟨x, hx, hl⟩
  · exact hz
  · exact absurd (hc x hx) hl.2.1
end
end Go.Proofs.Ytfaegfhbbkicgaa

/-
  Rows taken in one by one, modulo a small prime: the program's way, as plain functions, and what it keeps. Conditions: p is 2, 3, 5 or 7.
-/

namespace Go.Proofs.Ytfaegfhbbkicgaa

def P7 (p : Int) : Prop := p = 2 ∨ p = 3 ∨ p = 5 ∨ p = 7
theorem P7.two {p : Int} (h : P7 p) : 2 ≤ p := by unfold P7 at h; omega
theorem P7.le {p : Int} (h : P7 p) : p ≤ 7 := by unfold P7 at h; omega
/-- All numbers of a row are rests modulo p. -/
def Rg (p : Int) (x : List Int) : Prop := ∀ j, 0 ≤ nth x j ∧ nth x j < p
theorem nth_past {x : List Int} {j : Nat} (h : x.length ≤ j) : nth x j = 0 := by simp [nth, List.getD, h]
/-- A row plus a multiple of another one. -/
def addT (p : Int) (x : List Int) (f : Int) (y : List Int) : List Int := (List.range x.length).map fun j => (nth x j + f * nth y j) % p
theorem nth_rangeMap {n j : Nat} (f : Nat → Int) (h : j < n) : nth ((List.range n).map f) j = f j := by simp [nth, List.getD, h]
theorem addT_len (p : Int) (x : List Int) (f : Int) (y : List Int) : (addT p x f y).length = x.length := by simp [addT]
theorem addT_nth {p : Int} {x : List Int} {f : Int} {y : List Int} {j : Nat} (h : j < x.length) : nth (addT p x f y) j = (nth x j + f * nth y j) % p := nth_rangeMap _ h
theorem addT_rg {p : Int} (hp : 0 < p) (x : List Int) (f : Int) (y : List Int) : Rg p (addT p x f y) := fun j => by
  by_cases h : j < x.length
  · rw [addT_nth h]; exact ⟨Int.emod_nonneg _ (by omega), Int.emod_lt_of_pos _ hp⟩
  · rw [nth_past (by rw [addT_len]; omega)]; exact ⟨Int.le_refl _, hp⟩
/-- The same, as far as a place. -/
def addK (p : Int) (x : List Int) (f : Int) (y : List Int) (k : Nat) : List Int := (List.range x.length).map fun j => if j < k then (nth x j + f * nth y j) % p else nth x j
theorem addK_len (p : Int) (x : List Int) (f : Int) (y : List Int) (k : Nat) : (addK p x f y k).length = x.length := by simp [addK]
theorem addK_nth {p : Int} {x : List Int} {f : Int} {y : List Int} {k j : Nat} (h : j < x.length) : nth (addK p x f y k) j = if j < k then (nth x j + f * nth y j) % p else nth x j := nth_rangeMap _ h
theorem nth_ext {x y : List Int} (hl : x.length = y.length) (h : ∀ j, j < x.length → nth x j = nth y j) : x = y := by
  apply List.ext_getElem hl
  intro j h1 h2
  have := h j h1
  rwa [nth_get h1, nth_get h2] at this
theorem addK_zero (p : Int) (x : List Int) (f : Int) (y : List Int) : addK p x f y 0 = x :=
  nth_ext (addK_len ..) fun j hj => by rw [addK_nth (by rwa [addK_len] at hj), if_neg (by omega)]
theorem addK_all (p : Int) (x : List Int) (f : Int) (y : List Int) : addK p x f y x.length = addT p x f y :=
  nth_ext (by rw [addK_len, addT_len]) fun j hj => by
    rw [addK_len] at hj
    rw [addK_nth hj, if_pos hj, addT_nth hj]
theorem nth_set_at {x : List Int} {k : Nat} (h : k < x.length) (v : Int) (j : Nat) : nth (x.set k v) j = if j = k then v else nth x j := by
  unfold nth
  rw [List.getD_eq_getElem?_getD, List.getD_eq_getElem?_getD, List.getElem?_set]
  by_cases e : k = j
  · subst e; simp [h]
  · rw [if_neg e, if_neg (fun hh => e hh.symm)]
theorem addK_succ {p : Int} {x : List Int} {f : Int} {y : List Int} {k : Nat} (h : k < x.length) : (addK p x f y k).set k ((nth x k + f * nth y k) % p) = addK p x f y (k + 1) :=
  nth_ext (by rw [List.length_set, addK_len, addK_len]) fun j hj => by
    rw [List.length_set, addK_len] at hj
    rw [nth_set_at (by rw [addK_len]; exact h), addK_nth hj, addK_nth hj]
    by_cases e : j = k
    · subst e; rw [if_pos rfl, if_pos (by omega)]
    · rw [if_neg e]
      by_cases hlt : j < k
      · rw [if_pos hlt, if_pos (by omega)]
      · rw [if_neg hlt, if_neg (by omega)]
theorem addK_rg {p : Int} (hp : 0 < p) {x : List Int} (hx : Rg p x) (f : Int) (y : List Int) (k : Nat) : Rg p (addK p x f y k) := fun j => by
  by_cases h : j < x.length
  · rw [addK_nth h]
    split
    · exact ⟨Int.emod_nonneg _ (by omega), Int.emod_lt_of_pos _ hp⟩
    · exact hx j
  · rw [nth_past (by rw [addK_len]; omega)]; exact ⟨Int.le_refl _, hp⟩
theorem emod_dvd (p x : Int) : p ∣ x % p - x := by
  refine ⟨-(x / p), ?_⟩
  have := Int.mul_ediv_add_emod x p
  rw [Int.mul_neg]; omega
theorem addT_dvd {p : Int} {x : List Int} {f : Int} {y : List Int} {j : Nat} (h : j < x.length) : p ∣ nth (addT p x f y) j - (nth x j + f * nth y j) := by
  rw [addT_nth h]; exact emod_dvd _ _
theorem dvd_iff0 {p x : Int} (h : 0 ≤ x ∧ x < p) : p ∣ x ↔ x = 0 := by
  refine ⟨fun hd => ?_, fun e => e ▸ Int.dvd_zero _⟩
  by_cases hx : x = 0
  · exact hx
  · have := Int.le_of_dvd (by omega) hd; omega

/-- A row less multiples of others, one after another. -/
def redE (p : Int) (E : List (List Int × Int)) (x : List Int) : List Int := E.foldl (fun x e => addT p x (p - nth x e.2.toNat) e.1) x
theorem redE_cons (p : Int) (e : List Int × Int) (E : List (List Int × Int)) (x : List Int) : redE p (e :: E) x = redE p E (addT p x (p - nth x e.2.toNat) e.1) := rfl
theorem redE_snoc (p : Int) (e : List Int × Int) (E : List (List Int × Int)) (x : List Int) : redE p (E ++ [e]) x = addT p (redE p E x) (p - nth (redE p E x) e.2.toNat) e.1 := by
  simp [redE, List.foldl_append]
theorem redE_len (p : Int) : ∀ (E : List (List Int × Int)) (x : List Int), (redE p E x).length = x.length
  | [], _ => rfl
  | e :: E, x => by rw [redE_cons, redE_len p E, addT_len]
theorem redE_rg {p : Int} (hp : 0 < p) : ∀ (E : List (List Int × Int)) {x : List Int}, Rg p x → Rg p (redE p E x)
  | [], _, h => h
  | e :: E, x, _ => by rw [redE_cons]; exact redE_rg hp E (addT_rg hp _ _ _)
/-- The rows as functions, with their columns. -/
def vec (E : List (List Int × Int)) : List (Nat → Int) := E.map fun e => nth e.1
def prs (E : List (List Int × Int)) : List ((Nat → Int) × Nat) := E.map fun e => (nth e.1, e.2.toNat)
theorem prs_vec (E : List (List Int × Int)) : (prs E).map (·.1) = vec E := by simp [prs, vec, List.map_map, Function.comp_def]
theorem redE_sp {p : Int} {n : Nat} : ∀ (E : List (List Int × Int)) {x : List Int}, x.length = n → Sp p n (vec E) (fun k => nth (redE p E x) k - nth x k)
  | [], x, _ => fun k _ => by
    show p ∣ nth x k - nth x k
    rw [Int.sub_self]; exact Int.dvd_zero _
  | e :: E, x, hl => by
    have ih := redE_sp (p := p) (n := n) E (x := addT p x (p - nth x e.2.toNat) e.1) (by rw [addT_len]; exact hl)
    refine ⟨p - nth x e.2.toNat, ih.congr fun k hk => ?_⟩
    rw [redE_cons]
    have h1 := addT_dvd (p := p) (x := x) (f := p - nth x e.2.toNat) (y := e.1) (j := k) (by omega)
    show p ∣ nth (redE p E (addT p x (p - nth x e.2.toNat) e.1)) k - nth (addT p x (p - nth x e.2.toNat) e.1) k - (nth (redE p E (addT p x (p - nth x e.2.toNat) e.1)) k - nth x k - (p - nth x e.2.toNat) * nth e.1 k)
    generalize nth (addT p x (p - nth x e.2.toNat) e.1) k = a at *
    generalize (p - nth x e.2.toNat) * nth e.1 k = b at *
    generalize nth (redE p E _) k = c at *
    obtain ⟨q, hq⟩ := h1
    exact ⟨-q, by rw [Int.mul_neg]; omega⟩
theorem redE_keep {p : Int} {c : Nat} : ∀ (E : List (List Int × Int)) {x : List Int}, c < x.length → (∀ e, e ∈ E → p ∣ nth e.1 c) → p ∣ nth (redE p E x) c - nth x c
  | [], x, _, _ => by
    show p ∣ nth x c - nth x c
    rw [Int.sub_self]; exact Int.dvd_zero _
  | e :: E, x, hc, h => by
    have ih := redE_keep (p := p) E (x := addT p x (p - nth x e.2.toNat) e.1) (by rw [addT_len]; exact hc) fun e' he' => h e' (List.mem_cons_of_mem _ he')
    rw [redE_cons]
    have h1 := addT_dvd (p := p) (x := x) (f := p - nth x e.2.toNat) (y := e.1) (j := c) hc
    have h2 : p ∣ (p - nth x e.2.toNat) * nth e.1 c := Int.dvd_mul_of_dvd_right (h e (List.mem_cons_self ..))
    have h3 := Int.dvd_add (Int.dvd_add ih h1) h2
    have e1 : nth (redE p E (addT p x (p - nth x e.2.toNat) e.1)) c - nth (addT p x (p - nth x e.2.toNat) e.1) c + (nth (addT p x (p - nth x e.2.toNat) e.1) c - (nth x c + (p - nth x e.2.toNat) * nth e.1 c)) + (p - nth x e.2.toNat) * nth e.1 c = nth (redE p E (addT p x (p - nth x e.2.toNat) e.1)) c - nth x c := by omega
    rwa [e1] at h3
theorem redE_zero {p : Int} {n : Nat} : ∀ (E : List (List Int × Int)) {x : List Int}, x.length = n → Ech p n (prs E) → ∀ e, e ∈ E → p ∣ nth (redE p E x) e.2.toNat
  | e :: E, x, hl, h, d, hd => by
    obtain ⟨hc, h1, _, hz, hE⟩ := h
    have hl' : (addT p x (p - nth x e.2.toNat) e.1).length = n := by rw [addT_len]; exact hl
    rcases List.mem_cons.1 hd with rfl | hd'
    · rw [redE_cons]
      have hk := redE_keep (p := p) (c := d.2.toNat) E (x := addT p x (p - nth x d.2.toNat) d.1) (by omega) fun y hy => hz (nth y.1, y.2.toNat) (List.mem_map.2 ⟨y, hy, rfl⟩)
      have ha := addT_dvd (p := p) (x := x) (f := p - nth x d.2.toNat) (y := d.1) (j := d.2.toNat) (by omega)
      have h2 : p ∣ (p - nth x d.2.toNat) * (nth d.1 d.2.toNat - 1) := Int.dvd_mul_of_dvd_right h1
      rw [Int.mul_sub, Int.mul_one] at h2
      have h3 := Int.dvd_add (Int.dvd_add hk ha) h2
      have h4 := Int.dvd_add h3 (Int.dvd_refl p)
      have e1 : nth (redE p E (addT p x (p - nth x d.2.toNat) d.1)) d.2.toNat - nth (addT p x (p - nth x d.2.toNat) d.1) d.2.toNat + (nth (addT p x (p - nth x d.2.toNat) d.1) d.2.toNat - (nth x d.2.toNat + (p - nth x d.2.toNat) * nth d.1 d.2.toNat)) + ((p - nth x d.2.toNat) * nth d.1 d.2.toNat - (p - nth x d.2.toNat)) + p = nth (redE p E (addT p x (p - nth x d.2.toNat) d.1)) d.2.toNat := by omega
      rwa [e1] at h4
    · rw [redE_cons]
      exact redE_zero E hl' hE d hd'

/-- The first place with another number than 0. -/
def ldN (x : List Int) : Nat := (x.takeWhile (fun y => decide (y = 0))).length
theorem ldN_le (x : List Int) : ldN x ≤ x.length := (List.takeWhile_sublist _).length_le
theorem ldN_is : ∀ (xs : List Int) (k : Nat), k ≤ xs.length → (∀ j, j < k → nth xs j = 0) → (k = xs.length ∨ nth xs k ≠ 0) → ldN xs = k
  | [], k, hk, _, _ => by
    have : k = 0 := by simpa using hk
    subst this; rfl
  | y :: xs, 0, _, _, h => by
    rcases h with h | h
    · simp at h
    · have hy : y ≠ 0 := h
      simp [ldN, List.takeWhile, hy]
  | y :: xs, k + 1, hk, hall, h => by
    have hy : y = 0 := hall 0 (by omega)
    have ih := ldN_is xs k (by simpa using hk) (fun j hj => hall (j + 1) (by omega)) (by
      rcases h with h | h
      · left; simpa using h
      · right; exact h)
    have e : ldN (y :: xs) = ldN xs + 1 := by simp [ldN, List.takeWhile, hy]
    rw [e, ih]
theorem ldN_before : ∀ (xs : List Int) (j : Nat), j < ldN xs → nth xs j = 0
  | [], j, h => by simp [ldN] at h
  | y :: xs, j, h => by
    by_cases hy : y = 0
    · have e : ldN (y :: xs) = ldN xs + 1 := by simp [ldN, List.takeWhile, hy]
      match j with
      | 0 => exact hy
      | j + 1 => exact ldN_before xs j (by omega)
    · have e : ldN (y :: xs) = 0 := by simp [ldN, List.takeWhile, hy]
      omega
theorem ldN_at : ∀ (xs : List Int), ldN xs < xs.length → nth xs (ldN xs) ≠ 0
  | [], h => by simp at h
  | y :: xs, h => by
    by_cases hy : y = 0
    · have e : ldN (y :: xs) = ldN xs + 1 := by simp [ldN, List.takeWhile, hy]
      rw [e] at h ⊢
      exact ldN_at xs (by simpa using h)
    · have e : ldN (y :: xs) = 0 := by simp [ldN, List.takeWhile, hy]
      rw [e]; exact hy
/-- The number whose product with x has the rest 1. -/
def inv7 (p x : Int) : Int := ((((List.range 7).find? fun (y : Nat) => decide (x * (y : Int) % p = 1)).getD 0 : Nat) : Int)
theorem inv7_is {p x y : Int} (hp : P7 p) (hx : 0 < x ∧ x < p) (hy : 0 < y ∧ y < p) (h : x * y % p = 1) : y = inv7 p x := by
  have hx7 : x = 1 ∨ x = 2 ∨ x = 3 ∨ x = 4 ∨ x = 5 ∨ x = 6 := by have := hp.le; omega
  have hy7 : y = 1 ∨ y = 2 ∨ y = 3 ∨ y = 4 ∨ y = 5 ∨ y = 6 := by have := hp.le; omega
  rcases hp with rfl | rfl | rfl | rfl <;> rcases hx7 with rfl | rfl | rfl | rfl | rfl | rfl <;> first | (exfalso; omega) | (rcases hy7 with rfl | rfl | rfl | rfl | rfl | rfl <;> first | (exfalso; omega) | (revert h; decide))
theorem inv7_ok {p x : Int} (hp : P7 p) (hx : 0 < x ∧ x < p) : 0 < inv7 p x ∧ inv7 p x < p ∧ x * inv7 p x % p = 1 := by
  have hx7 : x = 1 ∨ x = 2 ∨ x = 3 ∨ x = 4 ∨ x = 5 ∨ x = 6 := by have := hp.le; omega
  rcases hp with rfl | rfl | rfl | rfl <;> rcases hx7 with rfl | rfl | rfl | rfl | rfl | rfl <;> first | (exfalso; omega) | decide
/-- The row that is kept. -/
def nrm (p : Int) (r : List Int) : List Int := addT p r (inv7 p (nth r (ldN r)) - 1) r
theorem nrm_len (p : Int) (r : List Int) : (nrm p r).length = r.length := addT_len ..
theorem nrm_dvd {p : Int} {r : List Int} {j : Nat} (h : j < r.length) : p ∣ nth (nrm p r) j - inv7 p (nth r (ldN r)) * nth r j := by
  have h1 := addT_dvd (p := p) (x := r) (f := inv7 p (nth r (ldN r)) - 1) (y := r) h
  rw [Int.sub_mul, Int.one_mul] at h1
  have e : nth r j + (inv7 p (nth r (ldN r)) * nth r j - nth r j) = inv7 p (nth r (ldN r)) * nth r j := by omega
  rwa [e] at h1
def addR (p : Int) (E : List (List Int × Int)) (x : List Int) : List (List Int × Int) :=
  if ldN (redE p E x) = x.length then E else E ++ [(nrm p (redE p E x), (ldN (redE p E x) : Int))]
def echel (p : Int) (rows : List (List Int)) : List (List Int × Int) := rows.foldl (addR p) []
/-- What the rows that are kept obey. -/
def EOk (p : Int) (n : Nat) (E : List (List Int × Int)) : Prop := (∀ e, e ∈ E → e.1.length = n ∧ Rg p e.1 ∧ 0 ≤ e.2 ∧ e.2 < n) ∧ Ech p n (prs E)
theorem EOk.nil (p : Int) (n : Nat) : EOk p n [] := ⟨fun _ h => absurd h (List.not_mem_nil), trivial⟩
theorem addR_ok {p : Int} {n : Nat} (hp : P7 p) {E : List (List Int × Int)} {x : List Int} (h : EOk p n E) (hl : x.length = n) (hx : Rg p x) :
    EOk p n (addR p E x) ∧ ∀ v, Sp p n (vec (addR p E x)) v ↔ Sp p n (vec E ++ [nth x]) v := by
  have hp2 := hp.two
  have hrl := redE_len p E x
  have hrg := redE_rg (p := p) (by omega) E hx
  have hsp := redE_sp (p := p) E hl
  have hz := redE_zero (p := p) E hl h.2
  unfold addR
  obtain ⟨r, hr⟩ : ∃ r, r = redE p E x := ⟨_, rfl⟩
  rw [← hr] at hrl hrg hsp hz ⊢
  have hle := ldN_le r
  by_cases hend : ldN r = x.length
  · rw [if_pos hend]
    refine ⟨h, Sp.same (fun e he => Sp.mem (List.mem_append_left _ he)) fun e he => ?_⟩
    rcases List.mem_append.1 he with he | he
    · exact Sp.mem he
    · rw [List.mem_singleton] at he
      subst he
      have h0 : Sp p n (vec E) (nth r) := Sp.zero fun k hk => by rw [ldN_before r k (by omega)]; exact Int.dvd_zero _
      exact (h0.sub hsp).of_eq fun k _ => by
        show nth r k - (nth r k - nth x k) = nth x k
        omega
  · rw [if_neg hend]
    have hlt : ldN r < r.length := by omega
    have hne := ldN_at r hlt
    have hrc := hrg (ldN r)
    have hinv := inv7_ok hp (x := nth r (ldN r)) ⟨by omega, hrc.2⟩
    have hnd := fun {j : Nat} (hj : j < r.length) => nrm_dvd (p := p) hj
    obtain ⟨f, hf⟩ : ∃ f, f = inv7 p (nth r (ldN r)) := ⟨_, rfl⟩
    rw [← hf] at hinv hnd
    obtain ⟨y, hy⟩ : ∃ y, y = nrm p r := ⟨_, rfl⟩
    rw [← hy] at hnd ⊢
    have hyl : y.length = n := by rw [hy, nrm_len]; omega
    have hyr : Rg p y := by rw [hy]; exact addT_rg (by omega) _ _ _
    have h1 : p ∣ nth y (ldN r) - 1 := by
      have a := hnd hlt
      have b := emod_dvd p (nth r (ldN r) * f)
      rw [hinv.2.2] at b
      have c := Int.dvd_sub a b
      have e : nth y (ldN r) - f * nth r (ldN r) - (1 - nth r (ldN r) * f) = nth y (ldN r) - 1 := by rw [Int.mul_comm f]; omega
      rwa [e] at c
    have h0 : ∀ i, i < n → p ∣ nth r i → p ∣ nth y i := fun i hi hd => by
      have a := hnd (j := i) (by omega)
      have b := Int.dvd_mul_of_dvd_right (b := f) hd
      have c := Int.dvd_add a b
      have e : nth y i - f * nth r i + f * nth r i = nth y i := by omega
      rwa [e] at c
    refine ⟨⟨fun e he => ?_, ?_⟩, ?_⟩
    · rcases List.mem_append.1 he with he | he
      · exact h.1 e he
      · rw [List.mem_singleton] at he
        subst he
        exact ⟨hyl, hyr, by omega, by show (ldN r : Int) < n; omega⟩
    · have e : prs (E ++ [(y, (ldN r : Int))]) = prs E ++ [(nth y, ldN r)] := by simp [prs]
      rw [e]
      refine h.2.snoc (by omega) h1 (fun i hi => h0 i (by omega) (by rw [ldN_before r i hi]; exact Int.dvd_zero _)) fun q hq => ?_
      obtain ⟨e', he', rfl⟩ := List.mem_map.1 hq
      exact h0 _ (by have := (h.1 e' he').2.2; show e'.2.toNat < n; omega) (hz e' he')
    · have e : vec (E ++ [(y, (ldN r : Int))]) = vec E ++ [nth y] := by simp [vec]
      rw [e]
      have hr' : Sp p n (vec E ++ [nth x]) (nth r) := by
        have a := (Sp.app_left (R' := [nth x]) hsp).add (Sp.mem (List.mem_append_right (vec E) (List.mem_singleton.2 rfl)))
        exact a.of_eq fun k _ => by
          show nth r k - nth x k + nth x k = nth r k
          omega
      refine Sp.same (fun q hq => ?_) fun q hq => ?_
      · rcases List.mem_append.1 hq with hq | hq
        · exact Sp.mem (List.mem_append_left _ hq)
        · rw [List.mem_singleton] at hq
          subst hq
          refine (hr'.mul f).congr fun k hk => ?_
          have a := hnd (j := k) (by omega)
          have e2 : f * nth r k - nth y k = -(nth y k - f * nth r k) := by omega
          rw [e2]; exact Int.dvd_neg.2 a
      · rcases List.mem_append.1 hq with hq | hq
        · exact Sp.mem (List.mem_append_left _ hq)
        · rw [List.mem_singleton] at hq
          subst hq
          have hy' : Sp p n (vec E ++ [nth y]) (nth y) := Sp.mem (List.mem_append_right _ (List.mem_singleton.2 rfl))
          have hrr : Sp p n (vec E ++ [nth y]) (nth r) := by
            refine (hy'.mul (nth r (ldN r))).congr fun k hk => ?_
            have a := Int.dvd_mul_of_dvd_right (b := nth r (ldN r)) (hnd (j := k) (by omega))
            have b := Int.dvd_mul_of_dvd_left (c := nth r k) (emod_dvd p (nth r (ldN r) * f))
            rw [hinv.2.2] at b
            rw [Int.mul_sub] at a
            rw [Int.sub_mul, Int.one_mul, Int.mul_assoc] at b
            have c := Int.dvd_sub a b
            generalize nth r (ldN r) * nth y k = s at *
            generalize nth r (ldN r) * (f * nth r k) = t at *
            have e3 : s - t - (nth r k - t) = s - nth r k := by omega
            rwa [e3] at c
          exact (hrr.sub (Sp.app_left hsp)).of_eq fun k _ => by
            show nth r k - (nth r k - nth x k) = nth x k
            omega
theorem echel_from {p : Int} {n : Nat} (hp : P7 p) : ∀ (rows : List (List Int)) (E : List (List Int × Int)), (∀ x, x ∈ rows → x.length = n ∧ Rg p x) → EOk p n E →
    EOk p n (rows.foldl (addR p) E) ∧ ∀ v, Sp p n (vec (rows.foldl (addR p) E)) v ↔ Sp p n (vec E ++ rows.map nth) v
  | [], E, _, h => ⟨h, fun v => by simp⟩
  | x :: rows, E, hr, h => by
    obtain ⟨hl, hx⟩ := hr x (List.mem_cons_self ..)
    obtain ⟨h1, h2⟩ := addR_ok hp h hl hx
    obtain ⟨h3, h4⟩ := echel_from hp rows (addR p E x) (fun y hy => hr y (List.mem_cons_of_mem _ hy)) h1
    refine ⟨h3, fun v => ?_⟩
    rw [List.foldl_cons, h4 v]
    have e : vec E ++ (x :: rows).map nth = (vec E ++ [nth x]) ++ rows.map nth := by simp
    rw [e]
    refine Sp.same (fun q hq => ?_) (fun q hq => ?_) v
    · rcases List.mem_append.1 hq with hq | hq
      · exact Sp.app_left ((h2 q).1 (Sp.mem hq))
      · exact Sp.mem (List.mem_append_right _ hq)
    · rcases List.mem_append.1 hq with hq | hq
      · exact Sp.app_left ((h2 q).2 (Sp.mem hq))
      · exact Sp.mem (List.mem_append_right _ hq)
theorem echel_ok {p : Int} {n : Nat} (hp : P7 p) {rows : List (List Int)} (hr : ∀ x, x ∈ rows → x.length = n ∧ Rg p x) :
    EOk p n (echel p rows) ∧ ∀ v, Sp p n (vec (echel p rows)) v ↔ Sp p n (rows.map nth) v := by
  have h := echel_from hp rows [] hr (EOk.nil p n)
  exact ⟨h.1, fun v => h.2 v⟩
end Go.Proofs.Ytfaegfhbbkicgaa

/-
  Matrices as values: copying, measuring, comparing, marking, holding. Conditions: lengths below 2^40.
-/



namespace Go.Proofs.Ytfaegfhbbkicgaa
open Go.RowKit

theorem Try.infoMx : (Try.prog.info? 27).map (·.size) = some 4 := by kernel_rfl
/-- What a call that makes a matrix hands back. -/
def FreshMx (w w' : World) (e : Ending) (p r c : Int) (xs : List Int) : Prop :=
  ∃ A n k, e = .returned (.agg #[.int .i64 p, .int .i64 r, .int .i64 c, .slice A n k]) ∧ Own w' w.heap.size w'.heap.size A n k xs ∧ Below w.heap.size w w'
set_option maxHeartbeats 1000000 in
theorem toMatrix_any (p r c : Int) (A : Option Addr) (n k : Nat) (xs : List Int) (w : World) (hs : SI w A n xs) (hn : n ≤ 1099511627776) :
    Calls Try.prog 16 #[.agg #[.int .i64 p, .int .i64 r, .int .i64 c, .slice A n k]] w fun e w' => FreshMx w w' e p r c xs := by
  obtain ⟨w1, hw1⟩ : ∃ w1, w1 = ((w.alloc (.cells #[.int .i64 p, .int .i64 r, .int .i64 c, .slice A n k] 24)).alloc (.cells #[.int .i64 0, .int .i64 0, .int .i64 0, .slice none 0 0] 27)).alloc (.cells #[.int .i64 0, .int .i64 0, .int .i64 0, .slice none 0 0] 27) := ⟨_, rfl⟩
  obtain ⟨g1, hg1⟩ : ∃ g1, g1 = w.heap.size := ⟨_, rfl⟩
  have k1 : Blk w1 g1 24 #[.int .i64 p, .int .i64 r, .int .i64 c, .slice A n k] := by rw [hw1, hg1]; exact ((Blk.new w _ _).alloc _).alloc _
  have k2 : Blk w1 (g1 + 1) 27 #[.int .i64 0, .int .i64 0, .int .i64 0, .slice none 0 0] := by
    rw [hw1, hg1]
    have := (Blk.new (w.alloc (.cells #[.int .i64 p, .int .i64 r, .int .i64 c, .slice A n k] 24)) 27 #[.int .i64 0, .int .i64 0, .int .i64 0, .slice none 0 0]).alloc (.cells #[.int .i64 0, .int .i64 0, .int .i64 0, .slice none 0 0] 27)
    simpa using this
  have k3 : Blk w1 (g1 + 1 + 1) 27 #[.int .i64 0, .int .i64 0, .int .i64 0, .slice none 0 0] := by
    rw [hw1, hg1]
    have := (Blk.new ((w.alloc (.cells #[.int .i64 p, .int .i64 r, .int .i64 c, .slice A n k] 24)).alloc (.cells #[.int .i64 0, .int .i64 0, .int .i64 0, .slice none 0 0] 27)) 27 #[.int .i64 0, .int .i64 0, .int .i64 0, .slice none 0 0])
    simpa using this
  have hb1 : Below w.heap.size w w1 := by rw [hw1]; go_grown
  have HS_0 := Lib.hid (hs.below hb1 (Nat.le_refl _))
  have HSB := Lib.hid (SI.old hs (show w.heap.size ≤ g1 + 1 + 1 by omega))
  have HW1 := Lib.hid hw1
  have HG1 := Lib.hid hg1
  have HK_0 := Lib.hid (And.intro k1 (And.intro k2 k3))
  have HB_0 := Lib.hid hb1
  clear k1 k2 k3 hb1 hs hw1 hg1
  go_enter Try.func16, Try.ntmps16
  go_upto_region 2 with fail
  rw [← HW1.out, ← HG1.out]
  have hc1 : w1.cell? ⟨g1, 0, none⟩ = some (.int .i64 p) := HK_0.out.1.cell 0
  have hc2 : w1.cell? ⟨g1 + 1 + 1, 0, none⟩ = some (.int .i64 0) := HK_0.out.2.2.cell 0
  have hf2 := HK_0.out.2.2.frozen 0
  go_upto_region 3 with fail
  clear hc1 hc2 hf2
  obtain ⟨v1, hv⟩ : ∃ v, v = w1.setCell ⟨g1 + 1 + 1, 0, none⟩ (.int .i64 p) := ⟨_, rfl⟩
  have HK_1 : Hid (Blk v1 g1 24 #[.int .i64 p, .int .i64 r, .int .i64 c, .slice A n k] ∧ Blk v1 (g1 + 1) 27 #[.int .i64 0, .int .i64 0, .int .i64 0, .slice none 0 0] ∧ Blk v1 (g1 + 1 + 1) 27 #[.int .i64 p, .int .i64 0, .int .i64 0, .slice none 0 0]) := Lib.hid (by
    rw [hv]
    exact ⟨HK_0.out.1.far (by show g1 ≠ g1 + 1 + 1; omega) _, HK_0.out.2.1.far (by show g1 + 1 ≠ g1 + 1 + 1; omega) _, HK_0.out.2.2.set_ 0 _⟩)
  have hbs : Below w.heap.size w1 v1 := by rw [hv]; exact (Below.refl _ _).setCell (by have := HG1.out; show w.heap.size ≤ g1 + 1 + 1; omega) _
  have HB_1 : Hid (Below w.heap.size w v1) := Lib.hid (HB_0.out.trans hbs)
  have HS_1 : Hid (SI v1 A n xs) := Lib.hid (by
    rw [hv]
    have hg : w1.grownBy (w1.setCell ⟨g1 + 1 + 1, 0, none⟩ (.int .i64 p)) (some (g1 + 1 + 1)) := grown_setP _ _ _
    exact SI.kept_ HS_0.out hg HSB.out)
  rw [← hv]
  clear hv hbs HK_0 HB_0 HS_0
  have hc1 : v1.cell? ⟨g1, 1, none⟩ = some (.int .i64 r) := HK_1.out.1.cell 1
  have hc2 : v1.cell? ⟨g1 + 1 + 1, 1, none⟩ = some (.int .i64 0) := HK_1.out.2.2.cell 1
  have hf2 := HK_1.out.2.2.frozen 1
  go_upto_region 4 with fail
  clear hc1 hc2 hf2
  obtain ⟨v2, hv⟩ : ∃ v, v = v1.setCell ⟨g1 + 1 + 1, 1, none⟩ (.int .i64 r) := ⟨_, rfl⟩
  have HK_2 : Hid (Blk v2 g1 24 #[.int .i64 p, .int .i64 r, .int .i64 c, .slice A n k] ∧ Blk v2 (g1 + 1) 27 #[.int .i64 0, .int .i64 0, .int .i64 0, .slice none 0 0] ∧ Blk v2 (g1 + 1 + 1) 27 #[.int .i64 p, .int .i64 r, .int .i64 0, .slice none 0 0]) := Lib.hid (by
    rw [hv]
    exact ⟨HK_1.out.1.far (by show g1 ≠ g1 + 1 + 1; omega) _, HK_1.out.2.1.far (by show g1 + 1 ≠ g1 + 1 + 1; omega) _, HK_1.out.2.2.set_ 1 _⟩)
  have hbs : Below w.heap.size v1 v2 := by rw [hv]; exact (Below.refl _ _).setCell (by have := HG1.out; show w.heap.size ≤ g1 + 1 + 1; omega) _
  have HB_2 : Hid (Below w.heap.size w v2) := Lib.hid (HB_1.out.trans hbs)
  have HS_2 : Hid (SI v2 A n xs) := Lib.hid (by
    rw [hv]
    have hg : v1.grownBy (v1.setCell ⟨g1 + 1 + 1, 1, none⟩ (.int .i64 r)) (some (g1 + 1 + 1)) := grown_setP _ _ _
    exact SI.kept_ HS_1.out hg HSB.out)
  rw [← hv]
  clear hv hbs HK_1 HB_1 HS_1
  have hc1 : v2.cell? ⟨g1, 2, none⟩ = some (.int .i64 c) := HK_2.out.1.cell 2
  have hc2 : v2.cell? ⟨g1 + 1 + 1, 2, none⟩ = some (.int .i64 0) := HK_2.out.2.2.cell 2
  have hf2 := HK_2.out.2.2.frozen 2
  go_upto_region 5 with fail
  clear hc1 hc2 hf2
  obtain ⟨v3, hv⟩ : ∃ v, v = v2.setCell ⟨g1 + 1 + 1, 2, none⟩ (.int .i64 c) := ⟨_, rfl⟩
  have HK_3 : Hid (Blk v3 g1 24 #[.int .i64 p, .int .i64 r, .int .i64 c, .slice A n k] ∧ Blk v3 (g1 + 1) 27 #[.int .i64 0, .int .i64 0, .int .i64 0, .slice none 0 0] ∧ Blk v3 (g1 + 1 + 1) 27 #[.int .i64 p, .int .i64 r, .int .i64 c, .slice none 0 0]) := Lib.hid (by
    rw [hv]
    exact ⟨HK_2.out.1.far (by show g1 ≠ g1 + 1 + 1; omega) _, HK_2.out.2.1.far (by show g1 + 1 ≠ g1 + 1 + 1; omega) _, HK_2.out.2.2.set_ 2 _⟩)
  have hbs : Below w.heap.size v2 v3 := by rw [hv]; exact (Below.refl _ _).setCell (by have := HG1.out; show w.heap.size ≤ g1 + 1 + 1; omega) _
  have HB_3 : Hid (Below w.heap.size w v3) := Lib.hid (HB_2.out.trans hbs)
  have HS_3 : Hid (SI v3 A n xs) := Lib.hid (by
    rw [hv]
    have hg : v2.grownBy (v2.setCell ⟨g1 + 1 + 1, 2, none⟩ (.int .i64 c)) (some (g1 + 1 + 1)) := grown_setP _ _ _
    exact SI.kept_ HS_2.out hg HSB.out)
  rw [← hv]
  clear hv hbs HK_2 HB_2 HS_2
  have hcl1 : v3.cell? ⟨g1, 3, none⟩ = some (.slice A n k) := HK_3.out.1.cell 3
  have HLa : Hid (g1 + 1 + 1 < v3.heap.size) := Lib.hid HK_3.out.2.2.lt
  go_upto_region 6 with (first
    | (go_at_call 24
       refine (toIntS_fr _ _ _ xs _ HS_3.out hn).mono ?_
       rintro e u1 ⟨B1, m1, d1, rfl, ho4, hb4⟩
       have HK1' : Hid (Blk u1 g1 24 #[.int .i64 p, .int .i64 r, .int .i64 c, .slice A n k] ∧ Blk u1 (g1 + 1) 27 #[.int .i64 0, .int .i64 0, .int .i64 0, .slice none 0 0] ∧ Blk u1 (g1 + 1 + 1) 27 #[.int .i64 p, .int .i64 r, .int .i64 c, .slice none 0 0]) := Lib.hid ⟨HK_3.out.1.below hb4 HK_3.out.1.lt, HK_3.out.2.1.below hb4 HK_3.out.2.1.lt, HK_3.out.2.2.below hb4 HK_3.out.2.2.lt⟩
       have hsz1 := hb4.size
       have HQ1 : Hid (Below v3.heap.size v3 u1) := Lib.hid hb4
       have HO1 : Hid (Own u1 v3.heap.size u1.heap.size B1 m1 d1 xs) := Lib.hid ho4
       have hd1 : u1.cell? ⟨g1 + 1 + 1, 3, none⟩ = some (.slice none 0 0) := HK1'.out.2.2.cell 3
       have he1 := HK1'.out.2.2.frozen 3
       clear ho4 hb4))
  clear hcl1 hd1 he1
  obtain ⟨v4, hv4⟩ : ∃ v4, v4 = u1.setCell ⟨g1 + 1 + 1, 3, none⟩ (.slice B1 m1 d1) := ⟨_, rfl⟩
  have hg4 : u1.grownBy v4 (some (g1 + 1 + 1)) := by rw [hv4]; exact grown_setP _ _ _
  have HKd : Hid (Blk v4 g1 24 #[.int .i64 p, .int .i64 r, .int .i64 c, .slice A n k] ∧ Blk v4 (g1 + 1) 27 #[.int .i64 0, .int .i64 0, .int .i64 0, .slice none 0 0] ∧ Blk v4 (g1 + 1 + 1) 27 #[.int .i64 p, .int .i64 r, .int .i64 c, .slice B1 m1 d1]) := Lib.hid (by
    rw [hv4]
    exact ⟨HK1'.out.1.far (by show g1 ≠ g1 + 1 + 1; omega) _, HK1'.out.2.1.far (by show g1 + 1 ≠ g1 + 1 + 1; omega) _, HK1'.out.2.2.set_ 3 _⟩)
  have HBd : Hid (Below w.heap.size w v4) := Lib.hid ((HB_3.out.trans (HQ1.out.mono HB_3.out.size)).grown hg4 (by have := HB_3.out.size; omega) (by rintro k ⟨⟩; have := HG1.out; omega))
  have HLd : Hid (g1 + 1 + 1 < v3.heap.size ∧ v3.heap.size ≤ u1.heap.size ∧ u1.heap.size ≤ v4.heap.size ∧ w.heap.size ≤ v3.heap.size) := Lib.hid ⟨HK_3.out.2.2.lt, hsz1, hg4.size, HB_3.out.size⟩
  have HP1 : Hid (Own v4 v3.heap.size u1.heap.size B1 m1 d1 xs) := Lib.hid (HO1.out.grown hg4 (fun k hk => by injection hk with hk; have := HLd.out.1; omega))
  rw [← hv4]
  clear hv4 hg4 hsz1
  go_wp2_with (first
    | (refine wpList_load_rowP rfl 27 (.tmp 3) rfl (g1 + 1 + 1) rfl 27 #[.int .i64 p, .int .i64 r, .int .i64 c, .slice B1 m1 d1] _ HKd.out.2.2 Try.underlying27 rfl Try.infoMx ?_)
    | (refine wpList_store_rowP rfl 27 (.tmp 2) (.tmp 17) rfl (g1 + 1) #[.int .i64 p, .int .i64 r, .int .i64 c, .slice B1 m1 d1] rfl rfl 27 #[.int .i64 0, .int .i64 0, .int .i64 0, .slice none 0 0] HKd.out.2.1 Try.infoMx rfl (by simp [Value.oneCell']) ?_; intro w5 hb5 hg5)
    | fail)
  refine bodyPost_ret (results_rowP Try.results16 _ _ _ 27 #[.int .i64 p, .int .i64 r, .int .i64 c, .slice B1 m1 d1] _ rfl hb5 Try.underlying27 rfl Try.infoMx) rfl ?_
  have l1 := HLd.out
  have l5 := hg5.size
  have hG := HG1.out
  refine ⟨B1, m1, d1, rfl, ?_, ?_⟩
  · exact (HP1.out.grown hg5 (fun k hk => by injection hk with hk; omega)).wide (by omega) (by omega)
  · exact HBd.out.grown hg5 HBd.out.size (by rintro k ⟨⟩; omega)
set_option maxHeartbeats 1000000 in
theorem szMatrix_any (p r c : Int) (A : Option Addr) (n k : Nat) (q : Int) (w : World) (hn : n ≤ 9223372036854775807) (hq : 0 ≤ q) (hq' : q ≤ 1048576) :
    Calls Try.prog 14 #[.agg #[.int .i64 p, .int .i64 r, .int .i64 c, .slice A n k], .int .i64 q] w fun e w' => e = .returned (.int .i64 (if q < (n : Int) then -1 else q - n)) ∧ Below w.heap.size w w' := by
  obtain ⟨w1, hw1⟩ : ∃ w1, w1 = w.alloc (.cells #[.int .i64 p, .int .i64 r, .int .i64 c, .slice A n k] 24) := ⟨_, rfl⟩
  obtain ⟨g, hg⟩ : ∃ g, g = w.heap.size := ⟨_, rfl⟩
  have hk : Blk w1 g 24 #[.int .i64 p, .int .i64 r, .int .i64 c, .slice A n k] := by rw [hw1, hg]; exact Blk.new _ _ _
  have HB : Hid (Below w.heap.size w w1) := Lib.hid (by rw [hw1]; exact Below.alloc_self _ _)
  obtain ⟨q0, q1, q2, q3⟩ := cells4 hk
  have HW := Lib.hid hw1
  have HG := Lib.hid hg
  clear hk hw1 hg q0 q1 q2
  have HS1 := Lib.hid (fun w => szIntS_any A n k q w hn hq hq')
  by_cases h1 : q < (n : Int)
  · rw [if_pos h1] at HS1 ⊢
    clear h1
    go_enter Try.func14, Try.ntmps14
    go_upto_region 1 with fail
    rw [← HW.out, ← HG.out]
    go_wp2_with (go_at_call 56; refine (HS1.out _).mono ?_; rintro e w2 ⟨rfl, rfl⟩)
    go_ret
    exact ⟨rfl, HB.out⟩
  · rw [if_neg h1] at HS1 ⊢
    obtain ⟨l1, hl1⟩ : ∃ l1 : Int, l1 = q - (n : Int) := ⟨_, rfl⟩
    rw [← hl1] at HS1 ⊢
    have hl1' : ¬ l1 < 0 := by omega
    clear h1 hl1
    go_enter Try.func14, Try.ntmps14
    go_upto_region 1 with fail
    rw [← HW.out, ← HG.out]
    go_wp2_with (go_at_call 56; refine (HS1.out _).mono ?_; rintro e w2 ⟨rfl, rfl⟩)
    go_ret
    exact ⟨rfl, HB.out⟩
set_option maxRecDepth 100000 in
set_option maxHeartbeats 1000000 in
theorem eqMatrix_yes (p r c : Int) (A B : Option Addr) (n k m d : Nat) (xs : List Int) (w : World) (h1 : SI w A n xs) (k1 : SI w B m xs) (hn : xs.length ≤ 1099511627776) :
    Calls Try.prog 19 #[.agg #[.int .i64 p, .int .i64 r, .int .i64 c, .slice A n k], .agg #[.int .i64 p, .int .i64 r, .int .i64 c, .slice B m d]] w fun e w' => e = .returned (.bool true) ∧ Below w.heap.size w w' := by
  obtain ⟨w1, hw1⟩ : ∃ w1, w1 = (w.alloc (.cells #[.int .i64 p, .int .i64 r, .int .i64 c, .slice A n k] 27)).alloc (.cells #[.int .i64 p, .int .i64 r, .int .i64 c, .slice B m d] 27) := ⟨_, rfl⟩
  obtain ⟨g, hg⟩ : ∃ g, g = w.heap.size := ⟨_, rfl⟩
  have hk : Blk w1 g 27 #[.int .i64 p, .int .i64 r, .int .i64 c, .slice A n k] := by rw [hw1, hg]; exact (Blk.new _ _ _).alloc _
  have hk2 : Blk w1 (g + 1) 27 #[.int .i64 p, .int .i64 r, .int .i64 c, .slice B m d] := by
    rw [hw1, hg]
    have := Blk.new (w.alloc (.cells #[.int .i64 p, .int .i64 r, .int .i64 c, .slice A n k] 27)) 27 #[.int .i64 p, .int .i64 r, .int .i64 c, .slice B m d]
    simpa using this
  have hb : Below w.heap.size w w1 := by rw [hw1]; go_grown
  have HB := Lib.hid hb
  have HW := Lib.hid hw1
  have HG := Lib.hid hg
  have HS := Lib.hid (And.intro (h1.below hb (Nat.le_refl _)) (k1.below hb (Nat.le_refl _)))
  have HN := Lib.hid (show n ≤ 1099511627776 ∧ m ≤ 1099511627776 by have := h1.1; have := k1.1; omega)
  obtain ⟨q0, q1, q2, q3⟩ := cells4 hk
  obtain ⟨r0, r1, r2, r3⟩ := cells4 hk2
  clear hk hk2 hb hw1 hg h1 k1 hn
  go_enter Try.func19, Try.ntmps19
  go_upto_region 1 with fail
  rw [← HW.out, ← HG.out]
  go_wp2_with (first
    | (go_at_call 18
       refine (eqIntS_any _ _ _ _ _ _ xs xs _ HS.out.1 HS.out.2 HN.out.1 HN.out.2).mono ?_
       rintro e w2 ⟨rfl, hd⟩
       rw [eqL_self]
       have HD2 := Lib.hid hd
       clear hd))
  go_ret
  exact ⟨rfl, HB.out.trans (HD2.out.below _)⟩
set_option maxHeartbeats 1000000 in
theorem markMatrix_any (p r c : Int) (A : Option Addr) (n k lo hi : Nat) (xs : List Int) (q : Int) (w : World) (ho : Own w lo hi A n k xs) (hhi : hi ≤ w.heap.size) (hn : n ≤ 1099511627776) (hq : 0 ≤ q) (hq' : q ≤ 1099511627776) :
    Calls Try.prog 20 #[.agg #[.int .i64 p, .int .i64 r, .int .i64 c, .slice A n k], .int .i64 q] w fun e w' => e = .returned (.int .i64 (q + n)) ∧ Own w' lo hi A n k (marks n q) ∧ Within lo hi w w' := by
  obtain ⟨w1, hw1⟩ : ∃ w1, w1 = w.alloc (.cells #[.int .i64 p, .int .i64 r, .int .i64 c, .slice A n k] 27) := ⟨_, rfl⟩
  obtain ⟨g, hg⟩ : ∃ g, g = w.heap.size := ⟨_, rfl⟩
  have hk : Blk w1 g 27 #[.int .i64 p, .int .i64 r, .int .i64 c, .slice A n k] := by rw [hw1, hg]; exact Blk.new _ _ _
  have hb : Below w.heap.size w w1 := by rw [hw1]; exact Below.alloc_self _ _
  have HIN : Hid (Within lo hi w w1) := Lib.hid (Within.of_below_ hb)
  have HW := Lib.hid hw1
  have HG := Lib.hid hg
  have HO := Lib.hid (ho.below hb (by omega))
  obtain ⟨q0, q1, q2, q3⟩ := cells4 hk
  clear hk hb hw1 hg ho q0 q1 q2
  go_enter Try.func20, Try.ntmps20
  go_upto_region 1 with fail
  rw [← HW.out, ← HG.out]
  go_wp2_with (first
    | (go_at_call 21
       refine (markIntS_any _ _ _ lo hi xs q _ HO.out hn hq hq').mono ?_
       rintro e w2 ⟨rfl, ho, hgr⟩
       have HI2 : Hid (Within lo hi w w2) := Lib.hid (HIN.out.trans (Within.of_grown hgr (fun k e => HO.out.lt k e)))
       have HO2 := Lib.hid ho
       clear ho hgr))
  go_ret
  exact ⟨rfl, HO2.out, HI2.out⟩
set_option maxHeartbeats 1000000 in
theorem heldMatrix_yes (p r c : Int) (A : Option Addr) (n k : Nat) (q : Int) (w : World) (h : SI w A n (marks n q)) (hn : n ≤ 1099511627776) (hq : 0 ≤ q) (hq' : q ≤ 1099511627776) :
    Calls Try.prog 28 #[.agg #[.int .i64 p, .int .i64 r, .int .i64 c, .slice A n k], .int .i64 q] w fun e w' => e = .returned (.int .i64 (q + n)) ∧ Below w.heap.size w w' := by
  obtain ⟨w1, hw1⟩ : ∃ w1, w1 = w.alloc (.cells #[.int .i64 p, .int .i64 r, .int .i64 c, .slice A n k] 27) := ⟨_, rfl⟩
  obtain ⟨g, hg⟩ : ∃ g, g = w.heap.size := ⟨_, rfl⟩
  have hk : Blk w1 g 27 #[.int .i64 p, .int .i64 r, .int .i64 c, .slice A n k] := by rw [hw1, hg]; exact Blk.new _ _ _
  have hb : Below w.heap.size w w1 := by rw [hw1]; exact Below.alloc_self _ _
  have HB := Lib.hid hb
  have HW := Lib.hid hw1
  have HG := Lib.hid hg
  have HS := Lib.hid (h.below hb (Nat.le_refl _))
  obtain ⟨q0, q1, q2, q3⟩ := cells4 hk
  have e1 : ¬ q + (n : Int) < 0 := by omega
  clear hk hb hw1 hg h q0 q1 q2
  go_enter Try.func28, Try.ntmps28
  go_upto_region 1 with fail
  rw [← HW.out, ← HG.out]
  go_wp2_with (first
    | (go_at_call 22
       refine (heldIntS_yes _ _ _ q _ HS.out hn hq hq').mono ?_
       rintro e w2 ⟨rfl, hd⟩
       have HD2 := Lib.hid hd
       clear hd))
  go_ret
  exact ⟨rfl, HB.out.trans (HD2.out.below _)⟩
end Go.Proofs.Ytfaegfhbbkicgaa

/-
  Opening a puzzle that came in. No conditions.
-/


namespace Go.Proofs.Ytfaegfhbbkicgaa
open Go.ChangeShapes Go.WideShapes Go.ChangeAt Go.RowKit

theorem Blk.within_ {w w' : World} {g lo hi : Nat} {t : TypeId} {cs : Array Value} (h : Blk w g t cs) (hw : Within lo hi w w') (hd : g < lo ∨ hi ≤ g) : Blk w' g t cs := (hw.2.2.2.2 g h.lt hd).trans h
/-- Three slices that read as lists. -/
def PS (w : World) (A1 A2 A3 : Option Addr) (n1 n2 n3 : Nat) (x1 x2 x3 : List Int) : Prop := SI w A1 n1 x1 ∧ SI w A2 n2 x2 ∧ SI w A3 n3 x3
theorem PS.below {w w' : World} {A1 A2 A3 : Option Addr} {n1 n2 n3 B : Nat} {x1 x2 x3 : List Int} (h : PS w A1 A2 A3 n1 n2 n3 x1 x2 x3) (hb : Below B w w') (hB : w.heap.size ≤ B) : PS w' A1 A2 A3 n1 n2 n3 x1 x2 x3 := ⟨h.1.below hb hB, h.2.1.below hb hB, h.2.2.below hb hB⟩
theorem PS.lens {w : World} {A1 A2 A3 : Option Addr} {n1 n2 n3 : Nat} {x1 x2 x3 : List Int} (h : PS w A1 A2 A3 n1 n2 n3 x1 x2 x3) : x1.length = n1 ∧ x2.length = n2 ∧ x3.length = n3 := ⟨h.1.1, h.2.1.1, h.2.2.1⟩
theorem OwnP.len {w : World} {lo hi n1 c1 n2 c2 n3 c3 : Nat} {A1 A2 A3 : Option Addr} {x1 x2 x3 : List Int} (h : OwnP w lo hi A1 A2 A3 n1 c1 n2 c2 n3 c3 x1 x2 x3) : x1.length = n1 ∧ x2.length = n2 ∧ x3.length = n3 := h.lens
theorem OwnP.caps {w : World} {lo hi n1 c1 n2 c2 n3 c3 : Nat} {A1 A2 A3 : Option Addr} {x1 x2 x3 : List Int} (h : OwnP w lo hi A1 A2 A3 n1 c1 n2 c2 n3 c3 x1 x2 x3) : n1 ≤ c1 ∧ n2 ≤ c2 ∧ n3 ≤ c3 := by
  obtain ⟨p, q, _, _, _, h1, h2, h3⟩ := h; exact ⟨h1.cap, h2.cap, h3.cap⟩
end Go.Proofs.Ytfaegfhbbkicgaa

/-
  Opening a matrix that came in. No conditions.
-/



namespace Go.Proofs.Ytfaegfhbbkicgaa
open Go.ChangeShapes Go.WideShapes Go.ChangeAt Go.RowKit

theorem MX.of_trod {H : Type} {enc : TypeId × Value → H} {W : World} {q : Nat} {f : Nat → Bool} {cs : Array Value} {d : DataW H} {p : List MemPlace} (hsz : cs.size = 4)
    (h0 : DataW.Trod enc Try.prog W q f true 24 (.agg cs) d p) : ∃ (P R C : Int) (A : Option Addr) (n k : Nat) (xs : List Int), cs = #[.int .i64 P, .int .i64 R, .int .i64 C, .slice A n k] ∧ SI W A n xs ∧ n ≤ 9223372036854775807 ∧
      (-9223372036854775808 ≤ P ∧ P ≤ 9223372036854775807) ∧ (-9223372036854775808 ≤ R ∧ R ≤ 9223372036854775807) ∧ (-9223372036854775808 ≤ C ∧ C ≤ 9223372036854775807) ∧ Fits xs := by
  obtain ⟨v0, v1, v2, v3, rfl⟩ : ∃ v0 v1 v2 v3, cs = #[v0, v1, v2, v3] := by
    obtain ⟨l⟩ := cs
    match l, hsz with
    | [a, b, c, d], _ => exact ⟨a, b, c, d, rfl⟩
  obtain ⟨fuel, hf⟩ := h0
  obtain ⟨xs, n, _, _, _, hlen, hx⟩ := DataW.trod_struct Try.underlying24 hf
  have e0 := hx 0 _ rfl
  have e1 := hx 1 _ rfl
  have e2 := hx 2 _ rfl
  have e3 := hx 3 _ rfl
  obtain ⟨y0, y1, y2, y3, rfl⟩ : ∃ y0 y1 y2 y3, xs = [y0, y1, y2, y3] := by
    match xs, hlen with
    | [a, b, c, d], _ => exact ⟨a, b, c, d, rfl⟩
  have ci : Try.prog.cellsOf 3 = 1 := by kernel_rfl
  have cs : Try.prog.cellsOf 22 = 1 := by kernel_rfl
  have k0 : DataW.trod enc Try.prog W q f true n 3 [v0] = some y0 := by simpa [ci, Value.cells] using e0
  have k1 : DataW.trod enc Try.prog W q f true n 3 [v1] = some y1 := by simpa [ci, Value.cells] using e1
  have k2 : DataW.trod enc Try.prog W q f true n 3 [v2] = some y2 := by simpa [ci, Value.cells] using e2
  have k3 : DataW.trod enc Try.prog W q f true n 22 [v3] = some y3 := by simpa [cs, Value.cells] using e3
  obtain ⟨z0, hz0, _, wf0⟩ := DataW.trod_int Try.underlying3 k0
  obtain ⟨z1, hz1, _, wf1⟩ := DataW.trod_int Try.underlying3 k1
  obtain ⟨z2, hz2, _, wf2⟩ := DataW.trod_int Try.underlying3 k2
  obtain ⟨B3, m3, d3, l3, h3, s3, b3, f3⟩ : ∃ A n' c' l, v3 = .slice A n' c' ∧ SI W A n' l ∧ n' ≤ 9223372036854775807 ∧ Fits l := by
    rcases open_ints Try.underlying22 Try.underlying3 (by kernel_rfl) k3 with ⟨hcs, _⟩ | ⟨x, l, c, zs, hcs, _, hl, hm, hzs, _, hcell, hwz⟩
    · exact ⟨none, 0, 0, [], by simpa using hcs, SI.nil _ _, by omega, by intro z hz; cases hz⟩
    · exact ⟨some x, l, c, zs.take l, by simpa using hcs, SI.of_cells (by rw [hzs]; split <;> omega) hcell, by unfold maxLen at hm; omega, fun z hz => bounds_i64 (hwz z (List.mem_of_mem_take hz))⟩
  have hz0' : v0 = .int .i64 z0 := by simpa using hz0
  have hz1' : v1 = .int .i64 z1 := by simpa using hz1
  have hz2' : v2 = .int .i64 z2 := by simpa using hz2
  subst hz0' hz1' hz2' h3
  exact ⟨z0, z1, z2, B3, m3, d3, l3, rfl, s3, b3, by have := bounds_i64 wf0; omega, by have := bounds_i64 wf1; omega, by have := bounds_i64 wf2; omega, f3⟩
end Go.Proofs.Ytfaegfhbbkicgaa

/-
  Whether a matrix is one: both sides. Conditions: lengths below 2^40.
-/



namespace Go.Proofs.Ytfaegfhbbkicgaa
open Go.RowKit

instance P7.dec (p : Int) : Decidable (P7 p) := by unfold P7; exact inferInstance
def matP (p r c : Int) (xs : List Int) : Prop := P7 p ∧ (0 ≤ r ∧ r ≤ 7) ∧ (1 ≤ c ∧ c ≤ 7) ∧ (xs.length : Int) = r * c ∧ ∀ k, k < xs.length → 0 ≤ nth xs k ∧ nth xs k < p
instance matP.dec (p r c : Int) (xs : List Int) : Decidable (matP p r c xs) := by unfold matP; exact inferInstance
def matB (p r c : Int) (xs : List Int) : Bool := decide (matP p r c xs)
theorem matB_false {p r c : Int} {xs : List Int} (h : ¬ matP p r c xs) : matB p r c xs = false := decide_eq_false h
theorem matB_true {p r c : Int} {xs : List Int} (h : matP p r c xs) : matB p r c xs = true := decide_eq_true h
theorem matB_P {p r c : Int} {xs : List Int} (h : matB p r c xs = true) : matP p r c xs := of_decide_eq_true h
theorem mul_small {r c : Int} (hr : 0 ≤ r ∧ r ≤ 7) (hc : 0 ≤ c ∧ c ≤ 7) : 0 ≤ r * c ∧ r * c ≤ 49 := by
  have h1 : 0 ≤ r * c := Int.mul_nonneg hr.1 hc.1
  have h2 : r * c ≤ 7 * 7 := Int.mul_le_mul hr.2 hc.2 hc.1 (by decide)
  omega
theorem l7Prime_yes {p : Int} (h : P7 p) (w : World) : Calls Try.prog 78 #[.int .i64 p] w fun e w' => e = .returned (.bool true) ∧ w = w' := by
  rcases h with rfl | rfl | rfl | rfl <;>
  · go_enter Try.func78, Try.ntmps78
    go_wp2
    go_ret
    exact ⟨rfl, rfl⟩
theorem l7Prime_no {p : Int} (h : ¬ P7 p) (w : World) : Calls Try.prog 78 #[.int .i64 p] w fun e w' => e = .returned (.bool false) ∧ w = w' := by
  unfold P7 at h
  have h2 : (p == 2) = false := by simp; omega
  have h3 : (p == 3) = false := by simp; omega
  have h5 : (p == 5) = false := by simp; omega
  have h7 : (p == 7) = false := by simp; omega
  clear h
  go_enter Try.func78, Try.ntmps78
  go_wp2
  go_ret
  exact ⟨rfl, rfl⟩
theorem isModulus_yes {p : Int} (h : P7 p) (w : World) : Calls Try.prog 80 #[.int .i64 p] w fun e w' => e = .returned (.bool true) ∧ w = w' := by
  rcases h with rfl | rfl | rfl | rfl <;>
  · go_enter Try.func80, Try.ntmps80
    go_wp2
    go_ret
    exact ⟨rfl, rfl⟩
theorem isModulus_no {p : Int} (h : ¬ P7 p) (w : World) : Calls Try.prog 80 #[.int .i64 p] w fun e w' => e = .returned (.bool false) ∧ w = w' := by
  unfold P7 at h
  have h2 : (p == 2) = false := by simp; omega
  have h3 : (p == 3) = false := by simp; omega
  have h5 : (p == 5) = false := by simp; omega
  have h7 : (p == 7) = false := by simp; omega
  clear h
  go_enter Try.func80, Try.ntmps80
  go_wp2
  go_ret
  exact ⟨rfl, rfl⟩
theorem isNone_any (p x : Int) (g : Nat) (w : World) (hk : w.cell? ⟨g, 0, none⟩ = some (.int .i64 p)) :
    Calls Try.prog 180 #[.int .i64 x, .pointer (some ⟨g, 0, none⟩)] w fun e w' => e = .returned (.bool (decide (¬ (0 ≤ x ∧ x < p)))) ∧ w = w' := by
  by_cases h0 : x < 0
  · have HE : Hid (true = decide (¬ (0 ≤ x ∧ x < p))) := Lib.hid (decide_eq_true (by omega)).symm
    go_enter Try.func180, Try.ntmps180
    go_wp2
    go_ret
    first | exact ⟨ret_bool HE.out, rfl⟩ | exact ⟨rfl, rfl⟩
  · by_cases h1 : x ≥ p
    · have HE : Hid (true = decide (¬ (0 ≤ x ∧ x < p))) := Lib.hid (decide_eq_true (by omega)).symm
      go_enter Try.func180, Try.ntmps180
      go_wp2
      go_ret
      first | exact ⟨ret_bool HE.out, rfl⟩ | exact ⟨rfl, rfl⟩
    · have HE : Hid (false = decide (¬ (0 ≤ x ∧ x < p))) := Lib.hid (decide_eq_false (by omega)).symm
      go_enter Try.func180, Try.ntmps180
      go_wp2
      go_ret
      first | exact ⟨ret_bool HE.out, rfl⟩ | exact ⟨rfl, rfl⟩
set_option maxHeartbeats 800000 in
theorem indexNone_any (A : Option Addr) (n c : Nat) (xs : List Int) (p : Int) (g : Nat) (w : World) (hs : SI w A n xs) (hn : n ≤ 1099511627776) (hk : w.cell? ⟨g, 0, none⟩ = some (.int .i64 p)) :
    Calls Try.prog 138 #[.slice A n c, .func (.func 180) #[] #[.pointer (some ⟨g, 0, none⟩)]] w fun r w' =>
      ∃ i : Int, r = .returned (.int .i64 i) ∧ (i < 0 ∧ (∀ k, k < n → 0 ≤ nth xs k ∧ nth xs k < p) ∨ 0 ≤ i ∧ ∃ k, k < n ∧ ¬ (0 ≤ nth xs k ∧ nth xs k < p)) ∧ Drawn w w' := by
  have HF : Hid (∀ w', Drawn w w' → ∀ y, Calls Try.prog 180 #[.int .i64 y, .pointer (some ⟨g, 0, none⟩)] w' fun e w2 => e = .returned (.bool (decide (¬ (0 ≤ y ∧ y < p)))) ∧ w' = w2) := Lib.hid (fun w' hd y => isNone_any p y g w' (by obtain ⟨m, rfl⟩ := hd; exact hk))
  clear hk
  go_enter Try.func138, Try.ntmps138
  go_wp2
  go_loopw [8] (fun i wr => ∃ k : Nat, k ≤ n ∧ i = .int .i64 k ∧ Drawn w wr ∧ ∀ j, j < k → 0 ≤ nth xs j ∧ nth xs j < p)
    (fun i _ => n - (intOf i).toNat)
  case atStart => exact ⟨0, Nat.zero_le _, rfl, Drawn.refl _, fun j hj => absurd hj (by omega)⟩
  case round =>
    obtain ⟨k, hk, rfl, hD, hall⟩ := hrel
    have HA := Lib.hid hall
    have HDR := Lib.hid hD
    have hs := hD.si hs
    clear hall hD
    by_cases hlt : k < n
    · have hlI : (k : Int) < (n : Int) := by omega
      obtain ⟨b, o, rfl, hb, hc⟩ := hs.at_ (by omega)
      have hc1 := hc k hlt
      obtain ⟨y, hy⟩ : ∃ y, y = nth xs k := ⟨_, rfl⟩
      rw [← hy] at hc1
      have HY := Lib.hid hy
      clear hc hy hs
      by_cases hg : 0 ≤ y ∧ y < p
      · have HG := Lib.hid hg
        have HF2 := Lib.hid (HF.out wr HDR.out y)
        rw [decide_eq_false (fun h => h hg)] at HF2
        clear hg
        go_wp2_with (go_at_call 180; refine HF2.out.mono ?_; rintro r w2 ⟨rfl, rfl⟩)
        go_roundw
        case rel => exact ⟨k + 1, by omega, by go_num, HDR.out, fun j hj => by
          rcases Nat.lt_or_ge j k with h | h
          · exact HA.out j h
          · obtain rfl : j = k := by omega
            rw [← HY.out]; exact HG.out⟩
        case measure => simp [intOf]; omega
      · have HG := Lib.hid hg
        have HF2 := Lib.hid (HF.out wr HDR.out y)
        rw [decide_eq_true hg] at HF2
        clear hg
        go_wp2_with (go_at_call 180; refine HF2.out.mono ?_; rintro r w2 ⟨rfl, rfl⟩)
        go_ret
        exact ⟨(k : Int), rfl, .inr ⟨by omega, k, hlt, by rw [← HY.out]; exact HG.out⟩, HDR.out⟩
    · have hkn : k = n := by omega
      subst hkn
      go_wp2
      go_ret
      exact ⟨-1, rfl, .inl ⟨by omega, HA.out⟩, HDR.out⟩
set_option maxHeartbeats 400000 in
theorem containsNone_is (b : Bool) (A : Option Addr) (n c : Nat) (xs : List Int) (p : Int) (g : Nat) (w : World) (hs : SI w A n xs) (hn : n ≤ 1099511627776) (hk : w.cell? ⟨g, 0, none⟩ = some (.int .i64 p)) (hb : b = false ↔ ∀ k, k < n → 0 ≤ nth xs k ∧ nth xs k < p) :
    Calls Try.prog 87 #[.slice A n c, .func (.func 180) #[] #[.pointer (some ⟨g, 0, none⟩)]] w fun r w' => r = .returned (.bool b) ∧ Drawn w w' := by
  have HC := Lib.hid (indexNone_any A n c xs p g w hs hn hk)
  have HBB := Lib.hid hb
  clear hs hk hb
  go_enter Try.func87, Try.ntmps87
  go_wp2_with (go_at_call 138; refine HC.out.mono ?_; rintro r w2 ⟨i, rfl, hi, hd⟩; have HI := Lib.hid hi; have HD := Lib.hid hd; clear hi hd)
  go_ret
  refine ⟨ret_bool ?_, HD.out⟩
  rcases HI.out with ⟨h1, h2⟩ | ⟨h1, k, hk, h2⟩
  · rw [HBB.out.2 h2]
    simp only [decide_eq_false_iff_not]; omega
  · have hbt : b = true := by
      cases b with
      | true => rfl
      | false => exact absurd (HBB.out.1 rfl k hk) h2
    rw [hbt]
    simp only [decide_eq_true_eq]; omega
end Go.Proofs.Ytfaegfhbbkicgaa

/-
  Whether a matrix is one: the document's function and the program's. Conditions: lengths below 2^40.
-/

namespace Go.Proofs.Ytfaegfhbbkicgaa
open Go.RowKit

set_option maxRecDepth 100000 in
set_option maxHeartbeats 4000000 in
theorem specMatrixOk_any (p r c : Int) (A : Option Addr) (n k : Nat) (xs : List Int) (w : World) (hs : SI w A n xs) (hn : n ≤ 1099511627776) :
    Calls Try.prog 123 #[.agg #[.int .i64 p, .int .i64 r, .int .i64 c, .slice A n k]] w fun e w' => e = .returned (.bool (matB p r c xs)) ∧ Below w.heap.size w w' := by
  obtain ⟨w1, hw1⟩ : ∃ w1, w1 = w.alloc (.cells #[.int .i64 p, .int .i64 r, .int .i64 c, .slice A n k] 27) := ⟨_, rfl⟩
  obtain ⟨g, hg⟩ : ∃ g, g = w.heap.size := ⟨_, rfl⟩
  have hk : Blk w1 g 27 #[.int .i64 p, .int .i64 r, .int .i64 c, .slice A n k] := by rw [hw1, hg]; exact Blk.new _ _ _
  have hb : Below w.heap.size w w1 := by rw [hw1]; exact Below.alloc_self _ _
  have HB := Lib.hid hb
  have HW := Lib.hid hw1
  have HG := Lib.hid hg
  have HK := Lib.hid hk
  have HL := Lib.hid hs.1
  have HS := Lib.hid (hs.below hb (Nat.le_refl _))
  obtain ⟨q0, q1, q2, q3⟩ := cells4 hk
  clear hb hw1 hg hk hs
  by_cases hneg : P7 p
  case neg =>
    have HP := Lib.hid (fun w => l7Prime_no hneg w)
    have HF := Lib.hid (matB_false (p := p) (r := r) (c := c) (xs := xs) (fun h => hneg h.1))
    clear hneg
    go_enter Try.func123, Try.ntmps123
    go_upto_region 1 with fail
    rw [← HW.out, ← HG.out]
    go_wp2_with (first | (go_at_call 78; with_reducible refine (HP.out _).mono ?_; rintro e w2 ⟨rfl, rfl⟩))
    go_ret
    exact ⟨ret_bool HF.out.symm, HB.out⟩
  case pos =>
    have HP := Lib.hid (fun w => l7Prime_yes hneg w)
    have HP7 := Lib.hid hneg
    clear hneg
    by_cases hneg : 0 ≤ r ∧ r ≤ 7
    case neg =>
      have HR := Lib.hid (fun w => l1In_no' (a := r) (lo := 0) (hi := 7) (by omega) w)
      have HF := Lib.hid (matB_false (p := p) (r := r) (c := c) (xs := xs) (fun h => hneg h.2.1))
      clear hneg
      go_enter Try.func123, Try.ntmps123
      go_upto_region 1 with fail
      rw [← HW.out, ← HG.out]
      go_wp2_with (first | (go_at_call 78; with_reducible refine (HP.out _).mono ?_; rintro e w2 ⟨rfl, rfl⟩) | (go_at_call 82; with_reducible refine (HR.out _).mono ?_; rintro e w2 ⟨rfl, rfl⟩))
      go_ret
      exact ⟨ret_bool HF.out.symm, HB.out⟩
    case pos =>
      have HR := Lib.hid (fun w => l1In_yes' (a := r) (lo := 0) (hi := 7) hneg.1 hneg.2 w)
      have HRB := Lib.hid hneg
      clear hneg
      by_cases hneg : 1 ≤ c ∧ c ≤ 7
      case neg =>
        have HC := Lib.hid (fun w => l1In_no' (a := c) (lo := 1) (hi := 7) (by omega) w)
        have HF := Lib.hid (matB_false (p := p) (r := r) (c := c) (xs := xs) (fun h => hneg h.2.2.1))
        clear hneg
        go_enter Try.func123, Try.ntmps123
        go_upto_region 1 with fail
        rw [← HW.out, ← HG.out]
        go_wp2_with (first | (go_at_call 78; with_reducible refine (HP.out _).mono ?_; rintro e w2 ⟨rfl, rfl⟩) | (go_at_call 82; with_reducible refine (HR.out _).mono ?_; rintro e w2 ⟨rfl, rfl⟩) | (go_at_call 82; with_reducible refine (HC.out _).mono ?_; rintro e w2 ⟨rfl, rfl⟩))
        go_ret
        exact ⟨ret_bool HF.out.symm, HB.out⟩
      case pos =>
        have HC := Lib.hid (fun w => l1In_yes' (a := c) (lo := 1) (hi := 7) hneg.1 hneg.2 w)
        have HCB := Lib.hid hneg
        clear hneg
        obtain ⟨rc, hrc⟩ : ∃ rc, rc = r * c := ⟨_, rfl⟩
        have hrcb := mul_small HRB.out ⟨by have := HCB.out; omega, HCB.out.2⟩
        rw [← hrc] at hrcb
        have hwr : IntKind.i64.wrap (r * c) = rc := by rw [← hrc]; exact IntWalk.i64_in _ (by omega)
        have HRC := Lib.hid hrc
        clear hrc
        by_cases hneg : (n : Int) = rc
        case neg =>
          have hb1 : ((n : Int) != rc) = true := by simpa using hneg
          have HF := Lib.hid (matB_false (p := p) (r := r) (c := c) (xs := xs) (fun h => hneg (by have := h.2.2.2.1; rw [HL.out, ← HRC.out] at this; exact this)))
          clear hneg
          go_enter Try.func123, Try.ntmps123
          go_upto_region 1 with fail
          rw [← HW.out, ← HG.out]
          go_wp2_with (first | (go_at_call 78; with_reducible refine (HP.out _).mono ?_; rintro e w2 ⟨rfl, rfl⟩) | (go_at_call 82; with_reducible refine (HR.out _).mono ?_; rintro e w2 ⟨rfl, rfl⟩) | (go_at_call 82; with_reducible refine (HC.out _).mono ?_; rintro e w2 ⟨rfl, rfl⟩))
          go_ret
          exact ⟨ret_bool HF.out.symm, HB.out⟩
        case pos =>
          have hb1 : ((n : Int) != rc) = false := by simpa using hneg
          have HN := Lib.hid hneg
          clear hneg
          have hn49 : n ≤ 49 := by have := HN.out; omega
          have HPB : Hid (2 ≤ p ∧ p ≤ 7) := Lib.hid ⟨HP7.out.two, HP7.out.le⟩
          go_enter Try.func123, Try.ntmps123
          go_upto_region 1 with fail
          rw [← HW.out, ← HG.out]
          go_wp2_with (first | (go_at_call 78; with_reducible refine (HP.out _).mono ?_; rintro e w2 ⟨rfl, rfl⟩) | (go_at_call 82; with_reducible refine (HR.out _).mono ?_; rintro e w2 ⟨rfl, rfl⟩) | (go_at_call 82; with_reducible refine (HC.out _).mono ?_; rintro e w2 ⟨rfl, rfl⟩))
          clear hwr hb1 q0 q1 q2 q3
          go_loopw [3] (fun iv wr => ∃ i : Nat, i ≤ n ∧ iv = .int .i64 i ∧ Drawn w1 wr ∧ ∀ j, j < i → 0 ≤ nth xs j ∧ nth xs j < p)
            (fun iv _ => n - (intOf iv).toNat)
          case atStart => exact ⟨0, Nat.zero_le _, rfl, Drawn.refl _, fun j hj => absurd hj (by omega)⟩
          case round =>
            obtain ⟨i, hi, rfl, hD, hall⟩ := hrel
            have HD := Lib.hid hD
            have HA := Lib.hid hall
            have hsi := hD.si HS.out
            obtain ⟨q0, q1, q2, q3⟩ := cells4 (HK.out.drawn hD)
            clear hD hall
            by_cases hlt : i < n
            case neg =>
              have hin : i = n := by omega
              subst hin
              have HT := Lib.hid (matB_true (p := p) (r := r) (c := c) (xs := xs) ⟨HP7.out, HRB.out, HCB.out, by rw [HL.out, ← HRC.out]; exact HN.out, by rw [HL.out]; exact HA.out⟩)
              clear hsi
              go_wp2
              go_ret
              exact ⟨ret_bool HT.out.symm, HB.out.trans (HD.out.below _)⟩
            case pos =>
              have hlI : (i : Int) < (n : Int) := by omega
              obtain ⟨b, o, rfl, hbb, hc⟩ := hsi.at_ (by omega)
              have hc1 := hc i hlt
              obtain ⟨y, hy⟩ : ∃ y, y = nth xs i := ⟨_, rfl⟩
              rw [← hy] at hc1
              have HY := Lib.hid hy
              clear hc hy hsi
              have hp1 : IntKind.i64.wrap (p - 1) = p - 1 := IntWalk.i64_in _ (by have := HPB.out; omega)
              by_cases hg : 0 ≤ y ∧ y < p
              · have HG := Lib.hid hg
                have HI := Lib.hid (fun (w : World) (m : Nat) => Calls.quiet_of (l1In_yes (a := y) (lo := 0) (hi := p - 1) hg.1 (by omega) (w.drewN m)))
                clear hg
                go_wp2_with fail
                go_quiet ((go_at_call 82; with_reducible exact HI.out _ _))
                go_wp2
                go_roundw
                case rel => exact ⟨i + 1, by omega, by go_num, HD.out.drewN _, fun j hj => by
                  rcases Nat.lt_or_ge j i with h | h
                  · exact HA.out j h
                  · obtain rfl : j = i := by omega
                    rw [← HY.out]; exact HG.out⟩
                case measure => simp [intOf]; omega
              · have HF := Lib.hid (matB_false (p := p) (r := r) (c := c) (xs := xs) (fun h => hg (by have := h.2.2.2.2 i (by rw [HL.out]; exact hlt); rw [← HY.out] at this; exact this)))
                have HI := Lib.hid (fun (w : World) (m : Nat) => Calls.quiet_of (l1In_no (a := y) (lo := 0) (hi := p - 1) (by omega) (w.drewN m)))
                clear hg
                go_wp2_with fail
                go_quiet ((go_at_call 82; with_reducible exact HI.out _ _))
                go_wp2
                go_ret
                exact ⟨ret_bool HF.out.symm, HB.out.trans ((HD.out.drewN _).below _)⟩
set_option maxRecDepth 100000 in
set_option maxHeartbeats 4000000 in
theorem implMatrixOk_any (p r c : Int) (A : Option Addr) (n k : Nat) (xs : List Int) (w : World) (hs : SI w A n xs) (hn : n ≤ 1099511627776) :
    Calls Try.prog 127 #[.agg #[.int .i64 p, .int .i64 r, .int .i64 c, .slice A n k]] w fun e w' => e = .returned (.bool (matB p r c xs)) ∧ Below w.heap.size w w' := by
  obtain ⟨w1, hw1⟩ : ∃ w1, w1 = w.alloc (.cells #[.int .i64 p, .int .i64 r, .int .i64 c, .slice A n k] 27) := ⟨_, rfl⟩
  obtain ⟨g, hg⟩ : ∃ g, g = w.heap.size := ⟨_, rfl⟩
  have hk : Blk w1 g 27 #[.int .i64 p, .int .i64 r, .int .i64 c, .slice A n k] := by rw [hw1, hg]; exact Blk.new _ _ _
  have hb : Below w.heap.size w w1 := by rw [hw1]; exact Below.alloc_self _ _
  have HB := Lib.hid hb
  have HW := Lib.hid hw1
  have HG := Lib.hid hg
  have HK := Lib.hid hk
  have HL := Lib.hid hs.1
  have HS := Lib.hid (hs.below hb (Nat.le_refl _))
  obtain ⟨q0, q1, q2, q3⟩ := cells4 hk
  clear hb hw1 hg hk hs
  by_cases hneg : P7 p
  case neg =>
    have HP := Lib.hid (fun w => isModulus_no hneg w)
    have HF := Lib.hid (matB_false (p := p) (r := r) (c := c) (xs := xs) (fun h => hneg h.1))
    clear hneg
    go_enter Try.func127, Try.ntmps127
    go_upto_region 1 with fail
    rw [← HW.out, ← HG.out]
    go_wp2_with (first | (go_at_call 80; with_reducible refine (HP.out _).mono ?_; rintro e w2 ⟨rfl, rfl⟩))
    go_ret
    exact ⟨ret_bool HF.out.symm, HB.out⟩
  case pos =>
    have HP := Lib.hid (fun w => isModulus_yes hneg w)
    have HP7 := Lib.hid hneg
    clear hneg
    by_cases hneg : r < 0
    case pos =>
      have hr0 := hneg
      have HF := Lib.hid (matB_false (p := p) (r := r) (c := c) (xs := xs) (fun h => by have := h.2.1; omega))
      clear hneg
      go_enter Try.func127, Try.ntmps127
      go_upto_region 1 with fail
      rw [← HW.out, ← HG.out]
      go_wp2_with (first | (go_at_call 80; with_reducible refine (HP.out _).mono ?_; rintro e w2 ⟨rfl, rfl⟩))
      go_ret
      exact ⟨ret_bool HF.out.symm, HB.out⟩
    case neg =>
    by_cases hneg2 : r ≤ 7
    case neg =>
      have hr0 := hneg
      clear hneg
      have hneg := hneg2
      clear hneg2
      have hr7 : r > 7 := by omega
      have HF := Lib.hid (matB_false (p := p) (r := r) (c := c) (xs := xs) (fun h => by have := h.2.1; omega))
      clear hneg
      go_enter Try.func127, Try.ntmps127
      go_upto_region 1 with fail
      rw [← HW.out, ← HG.out]
      go_wp2_with (first | (go_at_call 80; with_reducible refine (HP.out _).mono ?_; rintro e w2 ⟨rfl, rfl⟩))
      go_ret
      exact ⟨ret_bool HF.out.symm, HB.out⟩
    case pos =>
      have HRB : Hid (0 ≤ r ∧ r ≤ 7) := Lib.hid (by omega)
      have hr0 := hneg
      clear hneg
      have hr7 : ¬ r > 7 := by omega
      clear hneg2
      by_cases hneg : 1 ≤ c ∧ c ≤ 7
      case neg =>
        have HC := Lib.hid (fun w => isPermSize_no (a := c) (by omega) w)
        have HF := Lib.hid (matB_false (p := p) (r := r) (c := c) (xs := xs) (fun h => hneg h.2.2.1))
        clear hneg
        go_enter Try.func127, Try.ntmps127
        go_upto_region 1 with fail
        rw [← HW.out, ← HG.out]
        go_wp2_with (first | (go_at_call 80; with_reducible refine (HP.out _).mono ?_; rintro e w2 ⟨rfl, rfl⟩) | (go_at_call 157; with_reducible refine (HC.out _).mono ?_; rintro e w2 ⟨rfl, rfl⟩))
        go_ret
        exact ⟨ret_bool HF.out.symm, HB.out⟩
      case pos =>
        have HC := Lib.hid (fun w => isPermSize_yes (a := c) hneg.1 hneg.2 w)
        have HCB := Lib.hid hneg
        clear hneg
        obtain ⟨rc, hrc⟩ : ∃ rc, rc = r * c := ⟨_, rfl⟩
        have hrcb := mul_small HRB.out ⟨by have := HCB.out; omega, HCB.out.2⟩
        rw [← hrc] at hrcb
        have hwr : IntKind.i64.wrap (r * c) = rc := by rw [← hrc]; exact IntWalk.i64_in _ (by omega)
        have HRC := Lib.hid hrc
        clear hrc
        by_cases hneg : (n : Int) = rc
        case neg =>
          have hb1 : ((n : Int) != rc) = true := by simpa using hneg
          have HF := Lib.hid (matB_false (p := p) (r := r) (c := c) (xs := xs) (fun h => hneg (by have := h.2.2.2.1; rw [HL.out, ← HRC.out] at this; exact this)))
          clear hneg
          go_enter Try.func127, Try.ntmps127
          go_upto_region 1 with fail
          rw [← HW.out, ← HG.out]
          go_wp2_with (first | (go_at_call 80; with_reducible refine (HP.out _).mono ?_; rintro e w2 ⟨rfl, rfl⟩) | (go_at_call 157; with_reducible refine (HC.out _).mono ?_; rintro e w2 ⟨rfl, rfl⟩))
          go_ret
          exact ⟨ret_bool HF.out.symm, HB.out⟩
        case pos =>
          have hb1 : ((n : Int) != rc) = false := by simpa using hneg
          have HN := Lib.hid hneg
          clear hneg
          have hn49 : n ≤ 49 := by have := HN.out; omega
          obtain ⟨bb, hbb⟩ : ∃ bb, bb = matB p r c xs := ⟨_, rfl⟩
          have HBB : Hid ((!bb) = false ↔ ∀ k, k < n → 0 ≤ nth xs k ∧ nth xs k < p) := Lib.hid (by
            rw [hbb]
            constructor
            · intro h
              have h2 : matB p r c xs = true := by simpa using h
              have h3 := (matB_P h2).2.2.2.2
              rw [HL.out] at h3; exact h3
            · intro h
              rw [matB_true ⟨HP7.out, HRB.out, HCB.out, by rw [HL.out, ← HRC.out]; exact HN.out, by rw [HL.out]; exact h⟩]; rfl)
          rw [← hbb]
          have HCN := Lib.hid (containsNone_is (!bb) A n k xs p g w1 HS.out hn q0 HBB.out)
          have hmf : ∀ (fn : Fn) (first cap : Array Value) (w : World), (Instr.makeFunc fn first cap).run Try.prog w = .ok (.func fn first cap) w := fun _ _ _ _ => rfl
          clear hbb HBB
          go_enter Try.func127, Try.ntmps127
          go_upto_region 1 with fail
          rw [← HW.out, ← HG.out]
          go_wp2_with (first | (go_at_call 80; with_reducible refine (HP.out _).mono ?_; rintro e w2 ⟨rfl, rfl⟩) | (go_at_call 157; with_reducible refine (HC.out _).mono ?_; rintro e w2 ⟨rfl, rfl⟩) | (go_at_call 87; with_reducible refine HCN.out.mono ?_; rintro e w2 ⟨rfl, hd⟩; have HD := Lib.hid hd; clear hd))
          go_ret
          exact ⟨ret_bool (by simp), HB.out.trans (HD.out.below _)⟩
end Go.Proofs.Ytfaegfhbbkicgaa

/-
  Reduction of a matrix column by column, modulo a small prime: the document's way, on functions of row and column, and what it keeps. Conditions: p is 2, 3, 5 or 7.
-/

namespace Go.Proofs.Ytfaegfhbbkicgaa

def rowsM (R : Nat) (M : Nat → Nat → Int) : List (Nat → Int) := (List.range R).map M
theorem rowsM_mem {R : Nat} {M : Nat → Nat → Int} {e : Nat → Int} : e ∈ rowsM R M ↔ ∃ i, i < R ∧ e = M i := by
  unfold rowsM
  rw [List.mem_map]
  constructor
  · rintro ⟨i, hi, rfl⟩; exact ⟨i, List.mem_range.1 hi, rfl⟩
  · rintro ⟨i, hi, rfl⟩; exact ⟨i, List.mem_range.2 hi, rfl⟩
theorem rowsM_sp {p : Int} {n R : Nat} {M : Nat → Nat → Int} {i : Nat} (h : i < R) : Sp p n (rowsM R M) (M i) := Sp.mem (rowsM_mem.2 ⟨i, h, rfl⟩)
/-- The same sums of multiples. -/
def SameSp (p : Int) (n R : Nat) (M N : Nat → Nat → Int) : Prop := ∀ v, Sp p n (rowsM R M) v ↔ Sp p n (rowsM R N) v
theorem SameSp.of {p : Int} {n R : Nat} {M N : Nat → Nat → Int} (h1 : ∀ i, i < R → Sp p n (rowsM R N) (M i)) (h2 : ∀ i, i < R → Sp p n (rowsM R M) (N i)) : SameSp p n R M N :=
  Sp.same (fun e he => by obtain ⟨i, hi, rfl⟩ := rowsM_mem.1 he; exact h1 i hi) (fun e he => by obtain ⟨i, hi, rfl⟩ := rowsM_mem.1 he; exact h2 i hi)
theorem SameSp.trans {p : Int} {n R : Nat} {M N K : Nat → Nat → Int} (h : SameSp p n R M N) (h' : SameSp p n R N K) : SameSp p n R M K := fun v => (h v).trans (h' v)
theorem SameSp.refl {p : Int} {n R : Nat} {M : Nat → Nat → Int} : SameSp p n R M M := fun _ => Iff.rfl
theorem SameSp.symm {p : Int} {n R : Nat} {M N : Nat → Nat → Int} (h : SameSp p n R M N) : SameSp p n R N M := fun v => (h v).symm

def swM (M : Nat → Nat → Int) (a b : Nat) : Nat → Nat → Int := fun i c => if i = a then M b c else if i = b then M a c else M i c
def scM (p : Int) (M : Nat → Nat → Int) (r : Nat) (f : Int) : Nat → Nat → Int := fun i c => if i = r then M r c * f % p else M i c
def clM (p : Int) (M : Nat → Nat → Int) (r j : Nat) : Nat → Nat → Int := fun i c => if i = r then M r c else (M i c + (p - M i j) * M r c) % p
theorem swM_sp {p : Int} {n R : Nat} {M : Nat → Nat → Int} {a b : Nat} (ha : a < R) (hb : b < R) : SameSp p n R M (swM M a b) := by
  have ea : swM M a b a = M b := by funext c; simp [swM]
  have eb : swM M a b b = M a := by
    funext c
    by_cases e : b = a
    · subst e; simp [swM]
    · simp [swM, e]
  have eo : ∀ i, i ≠ a → i ≠ b → swM M a b i = M i := fun i h1 h2 => by funext c; simp [swM, h1, h2]
  refine SameSp.of (fun i hi => ?_) (fun i hi => ?_)
  · by_cases h1 : i = a
    · subst h1; rw [← eb]; exact rowsM_sp hb
    · by_cases h2 : i = b
      · subst h2; rw [← ea]; exact rowsM_sp ha
      · rw [← eo i h1 h2]; exact rowsM_sp hi
  · by_cases h1 : i = a
    · subst h1; rw [ea]; exact rowsM_sp hb
    · by_cases h2 : i = b
      · subst h2; rw [eb]; exact rowsM_sp ha
      · rw [eo i h1 h2]; exact rowsM_sp hi
theorem scM_sp {p : Int} {n R : Nat} {M : Nat → Nat → Int} {r : Nat} {f g : Int} (hr : r < R) (hfg : p ∣ g * f - 1) : SameSp p n R M (scM p M r f) := by
  have er : ∀ c, scM p M r f r c = M r c * f % p := fun c => by simp [scM]
  have eo : ∀ i, i ≠ r → scM p M r f i = M i := fun i h => by funext c; simp [scM, h]
  refine SameSp.of (fun i hi => ?_) (fun i hi => ?_)
  · by_cases h : i = r
    · subst h
      refine ((rowsM_sp (M := scM p M i f) hr).mul g).congr fun k _ => ?_
      rw [er k]
      have a := Int.dvd_mul_of_dvd_right (b := g) (emod_dvd p (M i k * f))
      have b := Int.dvd_mul_of_dvd_left (c := M i k) hfg
      rw [Int.mul_sub] at a
      rw [Int.sub_mul, Int.one_mul] at b
      have c := Int.dvd_add a b
      have e : g * (M i k * f) = g * f * M i k := by rw [Int.mul_comm (M i k), Int.mul_assoc]
      rw [e] at c
      generalize g * (M i k * f % p) = s at *
      generalize g * f * M i k = t at *
      have e2 : s - t + (t - M i k) = s - M i k := by omega
      rwa [e2] at c
    · rw [← eo i h]; exact rowsM_sp hi
  · by_cases h : i = r
    · subst h
      refine ((rowsM_sp (M := M) hr).mul f).congr fun k _ => ?_
      rw [er k]
      have a := emod_dvd p (M i k * f)
      rw [Int.mul_comm f]
      generalize M i k * f % p = s at *
      have e2 : M i k * f - s = -(s - M i k * f) := by omega
      rw [e2]; exact Int.dvd_neg.2 a
    · rw [eo i h]; exact rowsM_sp hi
theorem clM_sp {p : Int} {n R : Nat} {M : Nat → Nat → Int} {r j : Nat} (hr : r < R) : SameSp p n R M (clM p M r j) := by
  have er : clM p M r j r = M r := by funext c; simp [clM]
  have eo : ∀ i c, i ≠ r → clM p M r j i c = (M i c + (p - M i j) * M r c) % p := fun i c h => by simp [clM, h]
  have hrr : Sp p n (rowsM R (clM p M r j)) (M r) := by rw [← er]; exact rowsM_sp hr
  refine SameSp.of (fun i hi => ?_) (fun i hi => ?_)
  · by_cases h : i = r
    · subst h; exact hrr
    · refine ((rowsM_sp (M := clM p M r j) hi).sub (hrr.mul (p - M i j))).congr fun k _ => ?_
      rw [eo i k h]
      have a := emod_dvd p (M i k + (p - M i j) * M r k)
      generalize (p - M i j) * M r k = s at *
      generalize (M i k + s) % p = t at *
      have e2 : t - s - M i k = t - (M i k + s) := by omega
      rwa [e2]
  · by_cases h : i = r
    · subst h; rw [er]; exact rowsM_sp hr
    · refine ((rowsM_sp (M := M) hi).add ((rowsM_sp (M := M) hr).mul (p - M i j))).congr fun k _ => ?_
      rw [eo i k h]
      have a := emod_dvd p (M i k + (p - M i j) * M r k)
      generalize (p - M i j) * M r k = s at *
      generalize (M i k + s) % p = t at *
      have e2 : M i k + s - t = -(t - (M i k + s)) := by omega
      rw [e2]; exact Int.dvd_neg.2 a

/-- What holds before column j, with k rows done. -/
structure RedI (p : Int) (n R : Nat) (M0 M : Nat → Nat → Int) (ps : List Int) (j : Nat) : Prop where
  le : ps.length ≤ R
  rg : ∀ i c, i < R → c < n → 0 ≤ M i c ∧ M i c < p
  col : ∀ i, i < ps.length → 0 ≤ nth ps i ∧ nth ps i < j
  asc : ∀ i i', i < i' → i' < ps.length → nth ps i < nth ps i'
  one : ∀ i, i < ps.length → M i (nth ps i).toNat = 1
  bef : ∀ (i c : Nat), i < ps.length → (c : Int) < nth ps i → M i c = 0
  oth : ∀ i i', i < ps.length → i' < R → i' ≠ i → M i' (nth ps i).toNat = 0
  rest : ∀ i c, ps.length ≤ i → i < R → c < j → M i c = 0
  sp : SameSp p n R M0 M
theorem RedI.start {p : Int} {n R : Nat} {M : Nat → Nat → Int} (h : ∀ i c, i < R → c < n → 0 ≤ M i c ∧ M i c < p) : RedI p n R M M [] 0 :=
  ⟨Nat.zero_le _, h, fun _ hi => absurd hi (Nat.not_lt_zero _), fun _ _ _ hi => absurd hi (Nat.not_lt_zero _), fun _ hi => absurd hi (Nat.not_lt_zero _), fun _ _ hi => absurd hi (Nat.not_lt_zero _), fun _ _ hi => absurd hi (Nat.not_lt_zero _), fun _ _ _ _ hc => absurd hc (Nat.not_lt_zero _), SameSp.refl⟩
theorem RedI.skip {p : Int} {n R : Nat} {M0 M : Nat → Nat → Int} {ps : List Int} {j : Nat} (h : RedI p n R M0 M ps j) (hz : ∀ i, ps.length ≤ i → i < R → M i j = 0) : RedI p n R M0 M ps (j + 1) :=
  ⟨h.le, h.rg, fun i hi => by have := h.col i hi; omega, h.asc, h.one, h.bef, h.oth, fun i c h1 h2 h3 => by
    by_cases e : c = j
    · subst e; exact hz i h1 h2
    · exact h.rest i c h1 h2 (by omega), h.sp⟩
theorem nth_snocX {ps : List Int} {i : Nat} (h : i < ps.length) (v : Int) : nth (ps ++ [v]) i = nth ps i := by
  rw [nth, nth, List.getD_eq_getElem?_getD, List.getD_eq_getElem?_getD, List.getElem?_append_left h]
theorem nth_snoc_at (ps : List Int) (v : Int) : nth (ps ++ [v]) ps.length = v := by simp [nth, List.getD]
theorem RedI.step {p : Int} {n R : Nat} {M0 M : Nat → Nat → Int} {ps : List Int} {j : Nat} (hp : P7 p) (h : RedI p n R M0 M ps j) (hj : j < n) {a : Nat} (ha1 : ps.length ≤ a) (ha2 : a < R) (hne : M a j ≠ 0) :
    RedI p n R M0 (clM p (scM p (swM M a ps.length) ps.length (inv7 p (M a j))) ps.length j) (ps ++ [(j : Int)]) (j + 1) := by
  have hp2 := hp.two
  have hkR : ps.length < R := by omega
  obtain ⟨k, hk⟩ : ∃ k, k = ps.length := ⟨_, rfl⟩
  have hrga := h.rg a j ha2 hj
  have hinv := inv7_ok hp (x := M a j) ⟨by omega, hrga.2⟩
  obtain ⟨f, hf⟩ : ∃ f, f = inv7 p (M a j) := ⟨_, rfl⟩
  rw [← hf] at hinv ⊢
  rw [← hk] at ha1 hkR ⊢
  -- after the exchange
  obtain ⟨N, hN⟩ : ∃ N, N = swM M a k := ⟨_, rfl⟩
  have hNsp : SameSp p n R M N := by rw [hN]; exact swM_sp ha2 hkR
  have hNk : ∀ c, N k c = M a c := fun c => by
    rw [hN]
    by_cases e : k = a
    · subst e; simp [swM]
    · simp [swM, e]
  have hNlt : ∀ i c, i < k → N i c = M i c := fun i c hi => by
    rw [hN]
    have h1 : i ≠ a := by omega
    have h2 : i ≠ k := by omega
    simp [swM, h1, h2]
  have hNany : ∀ i, i < R → ∃ i', i' < R ∧ (k ≤ i → k ≤ i') ∧ (i < k → i' = i) ∧ (∀ c, N i c = M i' c) := fun i hi => by
    rw [hN]
    by_cases h1 : i = a
    · exact ⟨k, hkR, fun _ => Nat.le_refl _, fun hh => by omega, fun c => by simp [swM, h1]⟩
    · by_cases h2 : i = k
      · exact ⟨a, ha2, fun _ => ha1, fun hh => by omega, fun c => by
          have h3 : k ≠ a := fun e => h1 (h2.trans e)
          simp [swM, h2, h3]⟩
      · exact ⟨i, hi, fun hh => hh, fun _ => rfl, fun c => by simp [swM, h1, h2]⟩
  rw [← hN]
  -- after the scaling
  obtain ⟨P, hP⟩ : ∃ P, P = scM p N k f := ⟨_, rfl⟩
  have hPsp : SameSp p n R N P := by
    rw [hP]
    refine scM_sp (g := M a j) hkR ?_
    have := emod_dvd p (M a j * f)
    rw [hinv.2.2] at this
    have e : M a j * f - 1 = -(1 - M a j * f) := by omega
    rw [e]; exact Int.dvd_neg.2 this
  have hPk : ∀ c, P k c = M a c * f % p := fun c => by rw [hP]; simp [scM, hNk]
  have hPo : ∀ i c, i ≠ k → P i c = N i c := fun i c hi => by rw [hP]; simp [scM, hi]
  rw [← hP]
  have hPkj : P k j = 1 := by rw [hPk]; exact hinv.2.2
  have hPk0 : ∀ c, c < j → P k c = 0 := fun c hc => by
    rw [hPk, h.rest a c (by omega) ha2 hc]; simp
  have hPrg : ∀ i c, i < R → c < n → 0 ≤ P i c ∧ P i c < p := fun i c hi hc => by
    by_cases e : i = k
    · subst e; rw [hPk]; exact ⟨Int.emod_nonneg _ (by omega), Int.emod_lt_of_pos _ (by omega)⟩
    · rw [hPo i c e]
      obtain ⟨i', hi', _, _, he⟩ := hNany i hi
      rw [he c]; exact h.rg i' c hi' hc
  -- after the clearing
  obtain ⟨Q, hQ⟩ : ∃ Q, Q = clM p P k j := ⟨_, rfl⟩
  have hQsp : SameSp p n R P Q := by rw [hQ]; exact clM_sp hkR
  have hQk : ∀ c, Q k c = P k c := fun c => by rw [hQ]; simp [clM]
  have hQo : ∀ i c, i ≠ k → Q i c = (P i c + (p - P i j) * P k c) % p := fun i c hi => by rw [hQ]; simp [clM, hi]
  rw [← hQ]
  have hQrg : ∀ i c, i < R → c < n → 0 ≤ Q i c ∧ Q i c < p := fun i c hi hc => by
    by_cases e : i = k
    · subst e; rw [hQk]; exact hPrg i c hi hc
    · rw [hQo i c e]; exact ⟨Int.emod_nonneg _ (by omega), Int.emod_lt_of_pos _ (by omega)⟩
  have hQbef : ∀ i c, i < R → c < j → i ≠ k → Q i c = P i c := fun i c hi hc e => by
    rw [hQo i c e, hPk0 c hc, Int.mul_zero, Int.add_zero]
    have := hPrg i c hi (by omega)
    exact Int.emod_eq_of_lt this.1 this.2
  have hQj : ∀ i, i < R → i ≠ k → Q i j = 0 := fun i hi e => by
    rw [hQo i j e, hPkj, Int.mul_one]
    have e2 : P i j + (p - P i j) = p := by omega
    rw [e2, Int.emod_self]
  have hlen : (ps ++ [(j : Int)]).length = k + 1 := by simp [hk]
  have hat : nth (ps ++ [(j : Int)]) k = j := by rw [hk]; exact nth_snoc_at ps _
  have hlt : ∀ i, i < k → nth (ps ++ [(j : Int)]) i = nth ps i := fun i hi => nth_snocX (by omega) _
  refine ⟨by omega, hQrg, fun i hi => ?_, fun i i' hi hi' => ?_, fun i hi => ?_, fun i c hi hc => ?_, fun i i' hi hi' hne' => ?_, fun i c hi hiR hc => ?_, ((h.sp.trans hNsp).trans hPsp).trans hQsp⟩
  · rw [hlen] at hi
    by_cases e : i = k
    · subst e; rw [hat]; omega
    · rw [hlt i (by omega)]
      have := h.col i (by omega)
      omega
  · rw [hlen] at hi'
    by_cases e : i' = k
    · subst e
      rw [hat, hlt i hi]
      exact (h.col i (by omega)).2
    · rw [hlt i (by omega), hlt i' (by omega)]
      exact h.asc i i' hi (by omega)
  · rw [hlen] at hi
    by_cases e : i = k
    · subst e
      rw [hat, hQk]
      exact hPkj
    · rw [hlt i (by omega)]
      have hc := h.col i (by omega)
      rw [hQbef i _ (by omega) (by omega) e, hPo i _ e, hNlt i _ (by omega)]
      exact h.one i (by omega)
  · rw [hlen] at hi
    by_cases e : i = k
    · subst e
      rw [hat] at hc
      rw [hQk]
      exact hPk0 c (by omega)
    · rw [hlt i (by omega)] at hc
      have hcj := h.col i (by omega)
      rw [hQbef i _ (by omega) (by omega) e, hPo i _ e, hNlt i _ (by omega)]
      exact h.bef i c (by omega) hc
  · rw [hlen] at hi
    by_cases e : i = k
    · subst e
      rw [hat]
      exact hQj i' hi' hne'
    · rw [hlt i (by omega)]
      have hcj := h.col i (by omega)
      by_cases e' : i' = k
      · subst e'
        rw [hQk]
        exact hPk0 _ (by omega)
      · rw [hQbef i' _ hi' (by omega) e', hPo i' _ e']
        obtain ⟨i2, hi2, h2a, h2b, he2⟩ := hNany i' hi'
        rw [he2]
        refine h.oth i i2 (by omega) hi2 fun ee => ?_
        rcases Nat.lt_or_ge i' k with hh | hh
        · have := h2b hh; omega
        · have := h2a hh; omega
  · rw [hlen] at hi
    by_cases ec : c = j
    · subst ec; exact hQj i hiR (by omega)
    · rw [hQbef i c hiR (by omega) (by omega), hPo i c (by omega)]
      obtain ⟨i2, hi2, h2a, h2b, he2⟩ := hNany i hiR
      rw [he2]
      exact h.rest i2 c (by have := h2a (by omega); omega) hi2 (by omega)
/-- The rows that are done, with their columns. -/
def prM (M : Nat → Nat → Int) (ps : List Int) : List ((Nat → Int) × Nat) := (List.range ps.length).map fun i => (M i, (nth ps i).toNat)
theorem prM_fst (M : Nat → Nat → Int) (ps : List Int) : (prM M ps).map (·.1) = rowsM ps.length M := by simp [prM, rowsM, List.map_map, Function.comp_def]
theorem prM_mem {M : Nat → Nat → Int} {ps : List Int} {x : (Nat → Int) × Nat} : x ∈ prM M ps ↔ ∃ i, i < ps.length ∧ x = (M i, (nth ps i).toNat) := by
  unfold prM
  rw [List.mem_map]
  constructor
  · rintro ⟨i, hi, rfl⟩; exact ⟨i, List.mem_range.1 hi, rfl⟩
  · rintro ⟨i, hi, rfl⟩; exact ⟨i, List.mem_range.2 hi, rfl⟩
theorem RedI.ech {p : Int} {n R : Nat} {M0 M : Nat → Nat → Int} {ps : List Int} {j : Nat} (h : RedI p n R M0 M ps j) (hj : j ≤ n) : Ech p n (prM M ps) := by
  have key : ∀ k, k ≤ ps.length → Ech p n ((List.range k).map fun i => (M i, (nth ps i).toNat)) := by
    intro k
    induction k with
    | zero => intro _; exact trivial
    | succ k ih =>
      intro hk
      rw [List.range_succ, List.map_append]
      have hc := h.col k (by omega)
      refine (ih (by omega)).snoc (by omega) (by rw [h.one k (by omega), Int.sub_self]; exact Int.dvd_zero _) (fun i hi => by rw [h.bef k i (by omega) (by omega)]; exact Int.dvd_zero _) fun x hx => ?_
      obtain ⟨i, hi, rfl⟩ := List.mem_map.1 hx
      have hi := List.mem_range.1 hi
      show p ∣ M k (nth ps i).toNat
      rw [h.oth i k (by omega) (by have := h.le; omega) (by omega)]; exact Int.dvd_zero _
  exact key _ (Nat.le_refl _)
theorem RedI.done {p : Int} {n R : Nat} {M0 M : Nat → Nat → Int} {ps : List Int} {j : Nat} (h : RedI p n R M0 M ps j) (hend : j = n ∨ ps.length = R) (v : Nat → Int) :
    Sp p n ((prM M ps).map (·.1)) v ↔ Sp p n (rowsM R M0) v := by
  rw [prM_fst, h.sp v]
  refine Sp.same (fun e he => ?_) (fun e he => ?_) v
  · obtain ⟨i, hi, rfl⟩ := rowsM_mem.1 he
    exact rowsM_sp (by have := h.le; omega)
  · obtain ⟨i, hi, rfl⟩ := rowsM_mem.1 he
    by_cases hlt : i < ps.length
    · exact rowsM_sp hlt
    · rcases hend with rfl | hR
      · exact Sp.zero fun c hc => by rw [h.rest i c (by omega) hi hc]; exact Int.dvd_zero _
      · omega
end Go.Proofs.Ytfaegfhbbkicgaa

/-
  Both ways to reduce rows lead to as many rows, at the same columns. Conditions: p is 2, 3, 5 or 7, numbers are rests.
-/


namespace Go.Proofs.Ytfaegfhbbkicgaa

/-- A row of a matrix written row by row. -/
def rowX (d : List Int) (n i : Nat) : List Int := (List.range n).map fun c => nth d (i * n + c)
def rowsL (d : List Int) (n R : Nat) : List (List Int) := (List.range R).map (rowX d n)
theorem rowX_len (d : List Int) (n i : Nat) : (rowX d n i).length = n := by simp [rowX]
theorem rowX_nth {d : List Int} {n i c : Nat} (h : c < n) : nth (rowX d n i) c = nth d (i * n + c) := nth_rangeMap _ h
theorem rowX_rg {p : Int} (hp : 0 < p) {d : List Int} (h : Rg p d) (n i : Nat) : Rg p (rowX d n i) := fun j => by
  by_cases hj : j < n
  · rw [rowX_nth hj]; exact h _
  · rw [nth_past (by rw [rowX_len]; omega)]; exact ⟨Int.le_refl _, hp⟩
theorem rowsL_len (d : List Int) (n R : Nat) : (rowsL d n R).length = R := by simp [rowsL]
theorem rowsL_li {d : List Int} {n R i : Nat} (h : i < R) : li (rowsL d n R) i = rowX d n i := by simp [li, rowsL, List.getD, h]
theorem rowsL_ok {p : Int} (hp : 0 < p) {d : List Int} (h : Rg p d) (n R : Nat) : ∀ x, x ∈ rowsL d n R → x.length = n ∧ Rg p x := fun x hx => by
  obtain ⟨i, _, rfl⟩ := List.mem_map.1 hx
  exact ⟨rowX_len .., rowX_rg hp h n i⟩
/-- The same rows as lists and as functions have the same sums of multiples. -/
theorem sp_lists {p : Int} {n : Nat} {rows : List (List Int)} {R : Nat} {M : Nat → Nat → Int} (hl : rows.length = R) (h : ∀ i c, i < R → c < n → nth (li rows i) c = M i c) (v : Nat → Int) :
    Sp p n (rows.map nth) v ↔ Sp p n (rowsM R M) v := by
  refine Sp.same (fun e he => ?_) (fun e he => ?_) v
  · obtain ⟨x, hx, rfl⟩ := List.mem_map.1 he
    obtain ⟨i, hi, rfl⟩ := List.mem_iff_getElem.1 hx
    rw [← li_get hi]
    exact (rowsM_sp (M := M) (i := i) (by omega)).of_eq fun c hc => (h i c (by omega) hc).symm
  · obtain ⟨i, hi, rfl⟩ := rowsM_mem.1 he
    have hm : Sp p n (rows.map nth) (nth (li rows i)) := Sp.mem (List.mem_map.2 ⟨li rows i, by rw [li_get (by omega)]; exact List.getElem_mem _, rfl⟩)
    exact hm.of_eq fun c hc => h i c hi hc
def rnkL (p : Int) (rows : List (List Int)) : Nat := (echel p rows).length
section
variable {p : Int} {n R : Nat} {rows : List (List Int)} {M0 M : Nat → Nat → Int} {ps : List Int} {j : Nat}
theorem red_same (hp : P7 p) (hr : ∀ x, x ∈ rows → x.length = n ∧ Rg p x) (hl : rows.length = R) (h0 : ∀ i c, i < R → c < n → nth (li rows i) c = M0 i c) (h : RedI p n R M0 M ps j) (hend : j = n ∨ ps.length = R) (v : Nat → Int) :
    Sp p n ((prs (echel p rows)).map (·.1)) v ↔ Sp p n ((prM M ps).map (·.1)) v := by
  rw [prs_vec, (echel_ok hp hr).2 v, sp_lists hl h0 v, h.done hend v]
theorem rank_same (hp : P7 p) (hr : ∀ x, x ∈ rows → x.length = n ∧ Rg p x) (hl : rows.length = R) (h0 : ∀ i c, i < R → c < n → nth (li rows i) c = M0 i c) (h : RedI p n R M0 M ps j) (hj : j ≤ n) (hend : j = n ∨ ps.length = R) :
    ps.length = rnkL p rows := by
  have h1 := Ech.same_len hp.two (echel_ok hp hr).1.2 (h.ech hj) (red_same hp hr hl h0 h hend)
  have h2 : (prs (echel p rows)).length = rnkL p rows := by simp [prs, rnkL]
  have h3 : (prM M ps).length = ps.length := by simp [prM]
  omega
end
theorem foldl_addR_len (p : Int) : ∀ (rows : List (List Int)) (E : List (List Int × Int)), (rows.foldl (addR p) E).length ≤ E.length + rows.length
  | [], _ => Nat.le_refl _
  | x :: rows, E => by
    have h1 := foldl_addR_len p rows (addR p E x)
    have h2 : (addR p E x).length ≤ E.length + 1 := by
      unfold addR
      split
      · omega
      · simp
    simp only [List.foldl_cons, List.length_cons]
    omega
theorem rnkL_le (p : Int) (rows : List (List Int)) : rnkL p rows ≤ rows.length := by
  have := foldl_addR_len p rows []
  simpa [rnkL, echel] using this
end Go.Proofs.Ytfaegfhbbkicgaa

/-
  New matrices and rows of matrices, on the program's side. Conditions: sizes at most 14.
-/


namespace Go.Proofs.Ytfaegfhbbkicgaa
open Go.RowKit

theorem nat_mul_small {r c : Nat} (hr : r ≤ 14) (hc : c ≤ 14) : r * c ≤ 196 := by
  have h : r * c ≤ 14 * 14 := Nat.mul_le_mul hr hc
  omega
theorem wrap_mul_nat {r c N : Nat} (hN : N = r * c) (h : N ≤ 1099511627776) : IntKind.i64.wrap ((r : Int) * (c : Int)) = (N : Int) := by
  rw [show (r : Int) * (c : Int) = (N : Int) by rw [hN]; simp]
  exact IntWalk.i64_in _ (by omega)
set_option maxHeartbeats 1000000 in
theorem zeroMatrix_any (p : Int) (r c : Nat) (w : World) (hr : r ≤ 14) (hc : c ≤ 14) :
    Calls Try.prog 181 #[.int .i64 p, .int .i64 r, .int .i64 c] w fun e w' => FreshMx w w' e p r c (List.replicate (r * c) 0) := by
  obtain ⟨w1, hw1⟩ : ∃ w1, w1 = w.alloc (.cells #[.int .i64 0, .int .i64 0, .int .i64 0, .slice none 0 0] 27) := ⟨_, rfl⟩
  obtain ⟨g, hg⟩ : ∃ g, g = w.heap.size := ⟨_, rfl⟩
  have hk : Blk w1 g 27 #[.int .i64 0, .int .i64 0, .int .i64 0, .slice none 0 0] := by rw [hw1, hg]; exact Blk.new _ _ _
  have HB : Hid (Below w.heap.size w w1) := Lib.hid (by rw [hw1]; exact Below.alloc_self _ _)
  have HW := Lib.hid hw1
  have HG := Lib.hid hg
  have HK := Lib.hid hk
  obtain ⟨N, hN⟩ : ∃ N, N = r * c := ⟨_, rfl⟩
  have hN1 : N ≤ 1099511627776 := by have := nat_mul_small hr hc; omega
  have hwr := wrap_mul_nat hN hN1
  rw [← hN]
  clear hw1 hg hk hN
  go_enter Try.func181, Try.ntmps181
  go_upto_region 1 with fail
  rw [← HW.out, ← HG.out]
  go_wp2_with (first
    | (at_make; refine wpList_make_zero rfl (.tmp 12) (.tmp 12) rfl N rfl rfl hN1 ?_; intro w2 ho2 hb2; have HO2 := Lib.hid ho2; have HB2 := Lib.hid hb2; obtain ⟨g2, hg2⟩ : ∃ g2, g2 = w1.heap.size := ⟨_, rfl⟩; have HG2 := Lib.hid hg2; rw [← hg2]; clear ho2 hb2 hg2)
    | (refine wpList_store_rowP rfl 27 (.tmp 6) (.tmp 14) rfl g #[.int .i64 p, .int .i64 r, .int .i64 c, .slice (some ⟨g2, 0, none⟩) N N] rfl rfl 27 #[.int .i64 0, .int .i64 0, .int .i64 0, .slice none 0 0] (HK.out.below HB2.out HK.out.lt) Try.infoMx rfl (by simp [Value.oneCell']) ?_; intro w5 hb5 hg5)
    | fail)
  refine bodyPost_ret (results_rowP Try.results181 _ _ _ 27 #[.int .i64 p, .int .i64 r, .int .i64 c, .slice (some ⟨g2, 0, none⟩) N N] _ rfl hb5 Try.underlying27 rfl Try.infoMx) rfl ?_
  have l1 := HG.out
  have l2 := HG2.out
  have l3 := HK.out.lt
  have l4 := HB.out.size
  have l5 := hg5.size
  have l6 := HB2.out.size
  have ho := HO2.out
  rw [← l2] at ho
  refine ⟨some ⟨g2, 0, none⟩, N, N, rfl, ?_, ?_⟩
  · exact (ho.grown hg5 (fun k hk => by injection hk with hk; omega)).wide (by omega) (by omega)
  · exact (HB.out.trans (HB2.out.mono (by omega))).grown hg5 (by omega) (by rintro k ⟨⟩; omega)
set_option maxHeartbeats 1000000 in
/-- A row of a matrix: a part of its Data. -/
theorem matRow_any (p r : Int) (b o n k c i : Nat) (w : World) (hc : c ≤ 14) (hi : i ≤ 14) (h : (i + 1) * c ≤ n) (hnk : n ≤ k) (hn : n ≤ 1099511627776) (hc0 : 0 < c) :
    Calls Try.prog 131 #[.agg #[.int .i64 p, .int .i64 r, .int .i64 c, .slice (some ⟨b, o, none⟩) n k], .int .i64 i] w fun e w' => e = .returned (.slice (some ⟨b, o + i * c, none⟩) c (k - i * c)) ∧ Below w.heap.size w w' := by
  obtain ⟨w1, hw1⟩ : ∃ w1, w1 = w.alloc (.cells #[.int .i64 p, .int .i64 r, .int .i64 c, .slice (some ⟨b, o, none⟩) n k] 27) := ⟨_, rfl⟩
  obtain ⟨g, hg⟩ : ∃ g, g = w.heap.size := ⟨_, rfl⟩
  have hk : Blk w1 g 27 #[.int .i64 p, .int .i64 r, .int .i64 c, .slice (some ⟨b, o, none⟩) n k] := by rw [hw1, hg]; exact Blk.new _ _ _
  have HB : Hid (Below w.heap.size w w1) := Lib.hid (by rw [hw1]; exact Below.alloc_self _ _)
  have HW := Lib.hid hw1
  have HG := Lib.hid hg
  obtain ⟨q0, q1, q2, q3⟩ := cells4 hk
  obtain ⟨N, hN⟩ : ∃ N, N = i * c := ⟨_, rfl⟩
  obtain ⟨M, hM⟩ : ∃ M, M = (i + 1) * c := ⟨_, rfl⟩
  have hMN : M = N + c := by rw [hM, hN, Nat.add_mul, Nat.one_mul]
  have hM1 : M ≤ 1099511627776 := by omega
  have hwr := wrap_mul_nat hN (by omega)
  have hwr2 : IntKind.i64.wrap (((i : Int) + 1) * (c : Int)) = (M : Int) := by
    have := wrap_mul_nat hM hM1
    rwa [Int.natCast_add] at this
  rw [← hM] at h
  rw [← hN]
  have hkN : ¬ k = N := by omega
  have HMN := Lib.hid hMN
  have hd : (M : Int) - (N : Int) = (c : Int) := by omega
  clear hw1 hg hk hN hM
  go_enter Try.func131, Try.ntmps131
  go_upto_region 1 with fail
  rw [← HW.out, ← HG.out]
  go_wp2
  go_ret
  refine ⟨?_, HB.out⟩
  simp
end Go.Proofs.Ytfaegfhbbkicgaa

/-
  Pieces of the reduction on the document's side: a number of a matrix, a copy, the inverse; matrices written row by row as functions. Conditions: sizes at most 14.
-/


namespace Go.Proofs.Ytfaegfhbbkicgaa
open Go.RowKit

theorem frozenM {w : World} {g : Nat} {t : TypeId} {cs : Array Value} (h : Blk w g t cs) : w.frozen? ⟨g, 0, none⟩ = false ∧ w.frozen? ⟨g, 1, none⟩ = false ∧ w.frozen? ⟨g, 2, none⟩ = false ∧ w.frozen? ⟨g, 3, none⟩ = false := ⟨h.frozen 0, h.frozen 1, h.frozen 2, h.frozen 3⟩
theorem grown_putM (w : World) (g : Nat) (a b c d : Value) : w.grownBy ((((w.setCell ⟨g, 0, none⟩ a).setCell ⟨g, 1, none⟩ b).setCell ⟨g, 2, none⟩ c).setCell ⟨g, 3, none⟩ d) (some g) :=
  (((grown_setP w ⟨g, 0, none⟩ a).trans (grown_setP _ ⟨g, 1, none⟩ b)).trans (grown_setP _ ⟨g, 2, none⟩ c)).trans (grown_setP _ ⟨g, 3, none⟩ d)
theorem idx_lt {R C i c : Nat} (hi : i < R) (hc : c < C) : i * C + c < R * C := by
  have h : (i + 1) * C ≤ R * C := Nat.mul_le_mul (by omega) (Nat.le_refl _)
  rw [Nat.add_mul, Nat.one_mul] at h
  omega
theorem idx_inj {C i c i' c' : Nat} (hc : c < C) (hc' : c' < C) (h : i * C + c = i' * C + c') : i = i' ∧ c = c' := by
  have h1 : (i * C + c) / C = i := by rw [Nat.mul_comm, Nat.mul_add_div (by omega), Nat.div_eq_of_lt hc, Nat.add_zero]
  have h2 : (i' * C + c') / C = i' := by rw [Nat.mul_comm, Nat.mul_add_div (by omega), Nat.div_eq_of_lt hc', Nat.add_zero]
  have e : i = i' := by rw [← h1, ← h2, h]
  subst e
  exact ⟨rfl, by omega⟩
/-- The list d holds the matrix M. -/
def DM (d : List Int) (R C : Nat) (M : Nat → Nat → Int) : Prop := d.length = R * C ∧ ∀ i c, i < R → c < C → nth d (i * C + c) = M i c
def updM (M : Nat → Nat → Int) (i c : Nat) (v : Int) : Nat → Nat → Int := fun i' c' => if i' = i ∧ c' = c then v else M i' c'
theorem DM.set {d : List Int} {R C : Nat} {M : Nat → Nat → Int} (h : DM d R C M) {i c : Nat} (hi : i < R) (hc : c < C) (v : Int) : DM (d.set (i * C + c) v) R C (updM M i c v) := by
  refine ⟨by rw [List.length_set]; exact h.1, fun i' c' hi' hc' => ?_⟩
  rw [nth_set_at (by rw [h.1]; exact idx_lt hi hc)]
  unfold updM
  by_cases e : i' * C + c' = i * C + c
  · obtain ⟨e1, e2⟩ := idx_inj hc' hc e
    rw [if_pos e, if_pos ⟨e1, e2⟩]
  · rw [if_neg e, if_neg (fun hh => e (by rw [hh.1, hh.2]))]
    exact h.2 i' c' hi' hc'
theorem DM.congr {d : List Int} {R C : Nat} {M N : Nat → Nat → Int} (h : DM d R C M) (e : ∀ i c, i < R → c < C → M i c = N i c) : DM d R C N :=
  ⟨h.1, fun i c hi hc => by rw [h.2 i c hi hc]; exact e i c hi hc⟩
set_option maxHeartbeats 1000000 in
theorem l7At_any (p r : Int) (A : Option Addr) (n k C i j : Nat) (d : List Int) (v : Int) (w : World) (hs : SI w A n d) (hC : C ≤ 14) (hi : i ≤ 14) (hj : j ≤ 14) (h : i * C + j < n) (hv : nth d (i * C + j) = v) :
    Calls Try.prog 186 #[.agg #[.int .i64 p, .int .i64 r, .int .i64 C, .slice A n k], .int .i64 i, .int .i64 j] w fun e w' => e = .returned (.int .i64 v) ∧ Below w.heap.size w w' := by
  obtain ⟨w1, hw1⟩ : ∃ w1, w1 = w.alloc (.cells #[.int .i64 p, .int .i64 r, .int .i64 C, .slice A n k] 27) := ⟨_, rfl⟩
  obtain ⟨g, hg⟩ : ∃ g, g = w.heap.size := ⟨_, rfl⟩
  have hk : Blk w1 g 27 #[.int .i64 p, .int .i64 r, .int .i64 C, .slice A n k] := by rw [hw1, hg]; exact Blk.new _ _ _
  have hb : Below w.heap.size w w1 := by rw [hw1]; exact Below.alloc_self _ _
  have HB := Lib.hid hb
  have HW := Lib.hid hw1
  have HG := Lib.hid hg
  obtain ⟨q0, q1, q2, q3⟩ := cells4 hk
  obtain ⟨b, o, rfl, _, hc⟩ := (hs.below hb (Nat.le_refl _)).2 (by omega)
  obtain ⟨N, hN⟩ : ∃ N, N = i * C := ⟨_, rfl⟩
  have hN1 : N ≤ 196 := by have := nat_mul_small hi hC; omega
  have hwr := wrap_mul_nat hN (by omega)
  have hwr2 : IntKind.i64.wrap ((N : Int) + (j : Int)) = ((N + j : Nat) : Int) := by rw [Int.natCast_add]; exact IntWalk.i64_in _ (by omega)
  have hcell : w1.cell? ⟨b, o + (N + j), none⟩ = some (.int .i64 v) := by rw [hN, ← hv]; exact hc _ h
  obtain ⟨m, hm⟩ : ∃ m, m = N + j := ⟨_, rfl⟩
  rw [← hm] at hwr2 hcell
  have hmn : m < n := by rw [hm, hN]; exact h
  have hmI : (m : Int) < (n : Int) := by omega
  clear hw1 hg hk hb hs hc hN hm hv h
  go_enter Try.func186, Try.ntmps186
  go_upto_region 1 with fail
  rw [← HW.out, ← HG.out]
  go_wp2
  go_ret
  exact ⟨rfl, HB.out⟩
set_option maxHeartbeats 1000000 in
theorem l7Inverse_any (p x : Int) (w : World) (hp : P7 p) (hx : 0 < x ∧ x < p) :
    Calls Try.prog 187 #[.int .i64 x, .int .i64 p] w fun e w' => e = .returned (.int .i64 (inv7 p x)) ∧ Drawn w w' := by
  have hinv := inv7_ok hp hx
  have hp2 := hp.two
  have hp7 := hp.le
  obtain ⟨F, hF⟩ : ∃ F : Nat, (F : Int) = inv7 p x := ⟨(inv7 p x).toNat, by omega⟩
  rw [← hF] at hinv ⊢
  have HUQ : Hid (∀ f : Nat, 0 < f → f < F → x * (f : Int) % p ≠ 1) := Lib.hid (fun f h1 h2 h3 => by
    have := inv7_is hp hx (y := (f : Int)) ⟨by omega, by omega⟩ h3
    omega)
  have HINV := Lib.hid hinv
  have HX := Lib.hid hx
  have hpnz : p ≠ 0 := by omega
  clear hinv hx hF hp
  go_enter Try.func187, Try.ntmps187
  go_wp2
  go_loopw [5] (fun fv wr => ∃ f : Nat, 0 < f ∧ f ≤ F ∧ fv = .int .i64 f ∧ Drawn w wr)
    (fun fv _ => F - (intOf fv).toNat)
  case atStart => exact ⟨1, by omega, by have := HINV.out.1; omega, rfl, Drawn.refl _⟩
  case round =>
    obtain ⟨f, hf0, hf1, rfl, hdx⟩ := hrel
    have HDX := Lib.hid hdx
    have hvf0 : 0 ≤ x * (f : Int) := Int.mul_nonneg (by have := HX.out; omega) (by omega)
    have hvf1 : x * (f : Int) ≤ 7 * 7 := Int.mul_le_mul (by have := HX.out; omega) (by have := HINV.out; omega) (by omega) (by decide)
    obtain ⟨S, hS⟩ : ∃ S, S = x * (f : Int) := ⟨_, rfl⟩
    have hw1 : IntKind.i64.wrap (x * (f : Int)) = S := by rw [← hS]; exact IntWalk.i64_in _ (by omega)
    obtain ⟨R, hR⟩ : ∃ R, R = S % p := ⟨_, rfl⟩
    have hw2 : S.tmod p = R := by rw [hR]; exact Int.tmod_eq_emod_of_nonneg (by omega)
    have hRb : 0 ≤ R ∧ R < p := by rw [hR]; exact ⟨Int.emod_nonneg _ hpnz, Int.emod_lt_of_pos _ (by omega)⟩
    have hw3 : IntKind.i64.wrap R = R := IntWalk.i64_in _ (by omega)
    have hfp : (f : Int) < p := by have := HINV.out; omega
    have hf7 : f ≤ 7 := by omega
    clear hdx hvf0 hvf1
    by_cases hfF : f = F
    case neg =>
      have hb : (R == 1) = false := by
        have := HUQ.out f hf0 (by omega)
        rw [hR, hS]; simpa using this
      clear hS hR hRb
      go_wp2
      go_roundw
      case rel => exact ⟨f + 1, by omega, by omega, by go_num, HDX.out⟩
      case measure => simp [intOf]; omega
    case pos =>
      subst hfF
      have hb : (R == 1) = true := by
        have := HINV.out.2.2
        rw [hR, hS, this]; rfl
      clear hS hR hRb
      go_wp2
      go_ret
      exact ⟨rfl, HDX.out⟩
set_option maxRecDepth 100000 in
set_option maxHeartbeats 2000000 in
theorem l7Copy_any (p r c : Int) (A : Option Addr) (n k : Nat) (xs : List Int) (w : World) (hs : SI w A n xs) (hn : n ≤ 1099511627776) :
    Calls Try.prog 185 #[.agg #[.int .i64 p, .int .i64 r, .int .i64 c, .slice A n k]] w fun e w' => FreshMx w w' e p r c xs := by
  obtain ⟨w1, hw1⟩ : ∃ w1, w1 = (w.alloc (.cells #[.int .i64 p, .int .i64 r, .int .i64 c, .slice A n k] 27)).alloc (.cells #[.int .i64 0, .int .i64 0, .int .i64 0, .slice none 0 0] 27) := ⟨_, rfl⟩
  obtain ⟨g, hg⟩ : ∃ g, g = w.heap.size := ⟨_, rfl⟩
  have hk : Blk w1 g 27 #[.int .i64 p, .int .i64 r, .int .i64 c, .slice A n k] := by rw [hw1, hg]; exact (Blk.new _ _ _).alloc _
  have hk2 : Blk w1 (g + 1) 27 #[.int .i64 0, .int .i64 0, .int .i64 0, .slice none 0 0] := by
    rw [hw1, hg]
    have := Blk.new (w.alloc (.cells #[.int .i64 p, .int .i64 r, .int .i64 c, .slice A n k] 27)) 27 #[.int .i64 0, .int .i64 0, .int .i64 0, .slice none 0 0]
    simpa using this
  have hb : Below w.heap.size w w1 := by rw [hw1]; go_grown
  have HS := Lib.hid (hs.below hb (Nat.le_refl _))
  have HB1 := Lib.hid hb
  have HW := Lib.hid hw1
  have HG := Lib.hid hg
  have HK := Lib.hid hk
  have HK2 := Lib.hid hk2
  have HSZ : Hid (w1.heap.size = g + 1 + 1) := Lib.hid (by rw [hw1, hg]; simp)
  have hqd : w1.drew.cell? ⟨g, 0, none⟩ = some (.int .i64 p) ∧ w1.drew.cell? ⟨g, 1, none⟩ = some (.int .i64 r) ∧ w1.drew.cell? ⟨g, 2, none⟩ = some (.int .i64 c) ∧ w1.drew.cell? ⟨g, 3, none⟩ = some (.slice A n k) := cells4 hk
  have HQD := Lib.hid hqd
  have HQ := Lib.hid (cells4 hk)
  have HC1 := Lib.hid (fun w' (hb' : Below w1.heap.size w1 w') => l1Ints_any A n k xs w' (HS.out.below hb' (Nat.le_refl _)) hn)
  clear hw1 hg hk hk2 hb hs hqd
  go_enter Try.func185, Try.ntmps185
  go_upto_region 1 with fail
  rw [← HW.out, ← HG.out]
  go_region_held3 (fun w' => w'.cell? ⟨g, 0, none⟩ = some (.int .i64 p) ∧ w'.cell? ⟨g, 1, none⟩ = some (.int .i64 r) ∧ w'.cell? ⟨g, 2, none⟩ = some (.int .i64 c) ∧ w'.cell? ⟨g, 3, none⟩ = some (.slice A n k))
    (first | exact HQD.out | exact HQ.out | exact K4 | exact KZ)
    (first
      | (go_at_call 170
         with_reducible refine (HC1.out _ ((Below.refl _ _).drew)).mono ?_
         rintro e w4 ⟨B1, m1, d1, rfl, ho4, hb4⟩
         have HB4 : Hid (Below w1.heap.size w1 w4) := Lib.hid (((Below.refl _ _).drew).trans hb4)
         have HK4 := Lib.hid (HK.out.below HB4.out HK.out.lt)
         have K4 := cells4 HK4.out
         have HR4 := Lib.hid (HK2.out.below HB4.out HK2.out.lt)
         obtain ⟨rr0, rr1, rr2, rr3⟩ := cells4 HR4.out
         obtain ⟨ff0, ff1, ff2, ff3⟩ := frozenM HR4.out
         have KZ := cells4 ((((HK4.out.far (p := ⟨g + 1, 0, none⟩) (by show g ≠ g + 1; omega) (.int .i64 p)).far (p := ⟨g + 1, 1, none⟩) (by show g ≠ g + 1; omega) (.int .i64 r)).far (p := ⟨g + 1, 2, none⟩) (by show g ≠ g + 1; omega) (.int .i64 c)).far (p := ⟨g + 1, 3, none⟩) (by show g ≠ g + 1; omega) (.slice B1 m1 d1))
         have HO4 : Hid (Own w4 w1.heap.size w4.heap.size B1 m1 d1 xs) := Lib.hid ho4
         have HRP : Hid (Blk ((((w4.setCell ⟨g + 1, 0, none⟩ (.int .i64 p)).setCell ⟨g + 1, 1, none⟩ (.int .i64 r)).setCell ⟨g + 1, 2, none⟩ (.int .i64 c)).setCell ⟨g + 1, 3, none⟩ (.slice B1 m1 d1)) (g + 1) 27 #[.int .i64 p, .int .i64 r, .int .i64 c, .slice B1 m1 d1]) := Lib.hid ((((HR4.out.set_ 0 _).set_ 1 _).set_ 2 _).set_ 3 _)
         have HGP := Lib.hid (grown_putM w4 (g + 1) (.int .i64 p) (.int .i64 r) (.int .i64 c) (.slice B1 m1 d1))
         clear ho4 hb4))
  go_wp2
  refine bodyPost_ret (results_rowP Try.results185 _ _ _ 27 #[.int .i64 p, .int .i64 r, .int .i64 c, .slice B1 m1 d1] _ rfl HRP.out Try.underlying27 rfl Try.infoMx) rfl ?_
  have l1 := HSZ.out
  have l2 := HG.out
  have l3 := HGP.out.size
  have l4 := HB4.out.size
  have l5 := HB1.out.size
  refine ⟨B1, m1, d1, rfl, ?_, ?_⟩
  · exact (HO4.out.grown HGP.out (fun q hq => by injection hq with hq; omega)).wide (by omega) l3
  · exact (HB1.out.trans (HB4.out.mono l5)).grown HGP.out (by omega) (by rintro q ⟨⟩; omega)
end Go.Proofs.Ytfaegfhbbkicgaa

/-
  The reduction on the document's side, in memory. Conditions: the modulus is 2, 3, 5 or 7; sizes at most 14.
-/


namespace Go.Proofs.Ytfaegfhbbkicgaa
open Go.RowKit

/-- Where a reduction stands, in memory. -/
structure RS (w0 wr : World) (g s1 s2 : Nat) (p : Int) (R C : Nat) (A A4 : Option Addr) (n k kd : Nat) (d : List Int) (Ap : Option Addr) (np cp : Nat) (ps : List Int) : Prop where
  b1 : Blk wr g 27 #[.int .i64 p, .int .i64 R, .int .i64 C, .slice A n k]
  b2 : Blk wr (g + 1) 27 #[.int .i64 0, .int .i64 0, .int .i64 0, .slice none 0 0]
  b4 : Blk wr s2 27 #[.int .i64 p, .int .i64 R, .int .i64 C, .slice A4 n kd]
  od : Own wr s1 s2 A4 n kd d
  op : Own wr (s2 + 1) wr.heap.size Ap np cp ps
  ord : g + 1 < s1 ∧ s1 ≤ s2 ∧ s2 < wr.heap.size
  be : Below g w0 wr
section
variable {w0 wr w' : World} {g s1 s2 : Nat} {p : Int} {R C : Nat} {A A4 : Option Addr} {n k kd : Nat} {d : List Int} {Ap : Option Addr} {np cp : Nat} {ps : List Int}
theorem RS.below (h : RS w0 wr g s1 s2 p R C A A4 n k kd d Ap np cp ps) (hb : Below wr.heap.size wr w') : RS w0 w' g s1 s2 p R C A A4 n k kd d Ap np cp ps := by
  obtain ⟨b1, b2, b4, od, op, ord, be⟩ := h
  have hz := hb.size
  exact ⟨b1.below hb b1.lt, b2.below hb b2.lt, b4.below hb b4.lt, od.below hb (by omega), (op.below hb (Nat.le_refl _)).wide (Nat.le_refl _) hz, by omega, be.trans (hb.mono (by omega))⟩
theorem RS.put {gd : Nat} (h : RS w0 wr g s1 s2 p R C A (some ⟨gd, 0, none⟩) n k kd d Ap np cp ps) (q : Nat) (v : Int) : RS w0 (wr.setCell ⟨gd, q, none⟩ (.int .i64 v)) g s1 s2 p R C A (some ⟨gd, 0, none⟩) n k kd (d.set q v) Ap np cp ps := by
  obtain ⟨b1, b2, b4, od, op, ord, be⟩ := h
  have hl := od.lt gd rfl
  obtain ⟨h1, hg⟩ := od.set_ (k := q) v
  have hz := hg.size
  exact ⟨b1.grown hg (fun e => by injection e with e; omega), b2.grown hg (fun e => by injection e with e; omega), b4.grown hg (fun e => by injection e with e; omega), h1, (op.grown hg (fun z hz => by injection hz with hz; omega)).wide (Nat.le_refl _) hz, by omega, be.grown hg (by omega) (by rintro z ⟨⟩; omega)⟩
theorem RS.s7 (h : RS w0 wr g s1 s2 p R C A A4 n k kd d Ap np cp ps) : wr.cell? ⟨g, 0, none⟩ = some (.int .i64 p) ∧ wr.cell? ⟨g, 1, none⟩ = some (.int .i64 R) ∧ wr.cell? ⟨g, 2, none⟩ = some (.int .i64 C) ∧ wr.cell? ⟨s2, 0, none⟩ = some (.int .i64 p) ∧ wr.cell? ⟨s2, 1, none⟩ = some (.int .i64 R) ∧ wr.cell? ⟨s2, 2, none⟩ = some (.int .i64 C) ∧ wr.cell? ⟨s2, 3, none⟩ = some (.slice A4 n kd) :=
  ⟨h.b1.cell 0, h.b1.cell 1, h.b1.cell 2, h.b4.cell 0, h.b4.cell 1, h.b4.cell 2, h.b4.cell 3⟩
/-- A number of the matrix, read in a world that came of this one. -/
theorem RS.at_ (h : RS w0 wr g s1 s2 p R C A A4 n k kd d Ap np cp ps) {M : Nat → Nat → Int} (hd : DM d R C M) (hR : R ≤ 14) (hC : C ≤ 14) {i c : Nat} (hi : i < R) (hc : c < C) (v : Int) (hv : M i c = v) (w' : World) (hb : Below wr.heap.size wr w') :
    Calls Try.prog 186 #[.agg #[.int .i64 p, .int .i64 R, .int .i64 C, .slice A4 n kd], .int .i64 i, .int .i64 c] w' fun e w2 => e = .returned (.int .i64 v) ∧ Below w'.heap.size w' w2 :=
  l7At_any p R A4 n kd C i c d v w' ((h.od.below hb (by have := h.ord; omega)).si) hC (by omega) (by omega) (by have := h.od.len; have h1 := hd.1; have h2 := idx_lt hi hc; omega) (by rw [hd.2 i c hi hc]; exact hv)
theorem RS.app (h : RS w0 wr g s1 s2 p R C A A4 n k kd d Ap np cp ps) {row : Option Nat} (hg : wr.grownBy w' row) (hr : row = (Value.slice Ap np cp).ownBlock) {A' : Option Addr} {c' : Nat} {qs : List Int} {m : Nat} (ho : Own w' (s2 + 1) w'.heap.size A' m c' qs) :
    RS w0 w' g s1 s2 p R C A A4 n k kd d A' m c' qs := by
  obtain ⟨b1, b2, b4, od, op, ord, be⟩ := h
  have hz := hg.size
  have hlt : ∀ q, row = some q → s2 + 1 ≤ q := fun q hq => (op.lt q (by rw [← hr]; exact hq)).1
  exact ⟨b1.grown hg (fun e => by have := hlt g e.symm; omega), b2.grown hg (fun e => by have := hlt _ e.symm; omega), b4.grown hg (fun e => by have := hlt _ e.symm; omega), od.grown hg (fun q hq => by have := hlt q hq; omega), ho, by omega, be.grown hg (by omega) (fun q hq => by have := hlt q hq; omega)⟩
theorem RS.mcell {gd : Nat} (h : RS w0 wr g s1 s2 p R C A (some ⟨gd, 0, none⟩) n k kd d Ap np cp ps) {q : Nat} (hq : q < n) : wr.cell? ⟨gd, q, none⟩ = some (.int .i64 (nth d q)) ∧ wr.frozen? ⟨gd, q, none⟩ = false := ⟨h.od.cellAt hq, h.od.frozenAt q⟩
end
theorem idx_wraps {i C q : Nat} (hi : i ≤ 14) (hC : C ≤ 14) (hq : q ≤ 14) : ∃ N m : Nat, IntKind.i64.wrap ((i : Int) * (C : Int)) = (N : Int) ∧ IntKind.i64.wrap ((N : Int) + (q : Int)) = (m : Int) ∧ m = i * C + q := by
  have h := nat_mul_small hi hC
  exact ⟨i * C, i * C + q, wrap_mul_nat rfl (by omega), by rw [Int.natCast_add]; exact IntWalk.i64_in _ (by omega), rfl⟩
/-- What a reduction leaves. -/
def RedRes (p : Int) (R C : Nat) (M0 : Nat → Nat → Int) (w w' : World) (A' : Option Addr) (n k' : Nat) (Ap : Option Addr) (np cp : Nat) : Prop :=
  ∃ d M ps j, Own w' w.heap.size w'.heap.size A' n k' d ∧ Own w' w.heap.size w'.heap.size Ap np cp ps ∧ DM d R C M ∧ RedI p C R M0 M ps j ∧ j ≤ C ∧ (j = C ∨ ps.length = R) ∧ Below w.heap.size w w'
theorem results_mx_tmp {P : Program} {fn : Func} {p q : Tmp} {ty : TypeId} (h : fn.results = #[.cell p ty, .tmp q]) (tmps : Array Value) (w : World) (g : Nat) (t : TypeId) (cs : Array Value) (d : TypeDesc)
    (hp : tmps.getD p undef = .pointer (some ⟨g, 0, none⟩)) (hg : Blk w g t cs) (hu : P.underlying ty = some d) (hd : (match d with | .struct _ | .array _ _ => true | _ => false) = true) (hi : (P.info? ty).map (·.size) = some cs.size) :
    (results fn tmps).run P w = .ok (.tuple #[.agg cs, tmps.getD q undef]) w := by
  have hp' : tmps[p]?.getD undef = .pointer (some ⟨g, 0, none⟩) := by simpa using hp
  simp [results, h, hp', asAddr, run_loadVar_row w g t ty cs (0, 0) d hg hu hd hi]
/-- Exchanged as far as a column; scaled as far as a column; cleared as far as a row and a column. -/
def swK (M : Nat → Nat → Int) (a b k : Nat) : Nat → Nat → Int := fun i c => if c < k then swM M a b i c else M i c
def scK (p : Int) (M : Nat → Nat → Int) (r : Nat) (f : Int) (k : Nat) : Nat → Nat → Int := fun i c => if c < k then scM p M r f i c else M i c
def clK (p : Int) (M : Nat → Nat → Int) (r j i0 k : Nat) : Nat → Nat → Int := fun i c => if i < i0 ∨ i = i0 ∧ c < k then clM p M r j i c else M i c
theorem swK_step {M : Nat → Nat → Int} {a b k : Nat} (i c : Nat) : updM (updM (swK M a b k) a k (M b k)) b k (M a k) i c = swK M a b (k + 1) i c := by
  unfold updM swK swM
  by_cases hc : c = k
  · subst hc
    by_cases h1 : i = b
    · subst h1
      by_cases h2 : i = a
      · subst h2; simp
      · simp [h2]
    · by_cases h2 : i = a
      · subst h2; simp [h1]
      · simp [h1, h2]
  · have e1 : (c < k + 1) ↔ c < k := by omega
    simp [hc, e1]
theorem scK_step {p : Int} {M : Nat → Nat → Int} {r k : Nat} {f : Int} (i c : Nat) : updM (scK p M r f k) r k (M r k * f % p) i c = scK p M r f (k + 1) i c := by
  unfold updM scK scM
  by_cases hc : c = k
  · subst hc
    by_cases h1 : i = r
    · simp [h1]
    · simp [h1]
  · have e1 : (c < k + 1) ↔ c < k := by omega
    simp [hc, e1]
theorem clK_step {p : Int} {M : Nat → Nat → Int} {r j i0 k : Nat} (h : i0 ≠ r) (i c : Nat) : updM (clK p M r j i0 k) i0 k ((M i0 k + (p - M i0 j) * M r k) % p) i c = clK p M r j i0 (k + 1) i c := by
  unfold updM clK
  by_cases hc : i = i0 ∧ c = k
  · obtain ⟨rfl, rfl⟩ := hc
    rw [if_pos ⟨rfl, rfl⟩, if_pos (Or.inr ⟨rfl, by omega⟩)]
    simp [clM, h]
  · rw [if_neg hc]
    by_cases h1 : i < i0 ∨ i = i0 ∧ c < k
    · rw [if_pos h1, if_pos (by omega)]
    · rw [if_neg h1, if_neg (by omega)]
theorem clK_row {p : Int} {M : Nat → Nat → Int} {r j i0 C : Nat} (i c : Nat) (hc : c < C) : clK p M r j i0 C i c = clK p M r j (i0 + 1) 0 i c := by
  unfold clK
  by_cases h1 : i < i0 ∨ i = i0 ∧ c < C
  · rw [if_pos h1, if_pos (by omega)]
  · rw [if_neg h1, if_neg (by omega)]
theorem clK_skip {p : Int} {M : Nat → Nat → Int} {r j : Nat} (i c : Nat) : clK p M r j r 0 i c = clK p M r j (r + 1) 0 i c := by
  unfold clK
  by_cases h1 : i < r
  · rw [if_pos (by omega), if_pos (by omega)]
  · by_cases h2 : i = r
    · subst h2
      rw [if_neg (by omega), if_pos (by omega)]
      simp [clM]
    · rw [if_neg (by omega), if_neg (by omega)]
set_option maxRecDepth 100000 in
set_option maxHeartbeats 16000000 in
theorem l7Reduce_any (p : Int) (R C : Nat) (A : Option Addr) (n k : Nat) (xs : List Int) (M0 : Nat → Nat → Int) (w : World) (hp : P7 p) (hs : SI w A n xs) (hR : R ≤ 14) (hC : C ≤ 14) (hx : Rg p xs) (hd0 : DM xs R C M0) :
    Calls Try.prog 136 #[.agg #[.int .i64 p, .int .i64 R, .int .i64 C, .slice A n k]] w fun e w' => ∃ A' k' Ap np cp, e = .returned (.tuple #[.agg #[.int .i64 p, .int .i64 R, .int .i64 C, .slice A' n k'], .slice Ap np cp]) ∧ RedRes p R C M0 w w' A' n k' Ap np cp := by
  obtain ⟨w1, hw1⟩ : ∃ w1, w1 = (w.alloc (.cells #[.int .i64 p, .int .i64 R, .int .i64 C, .slice A n k] 27)).alloc (.cells #[.int .i64 0, .int .i64 0, .int .i64 0, .slice none 0 0] 27) := ⟨_, rfl⟩
  obtain ⟨g, hg⟩ : ∃ g, g = w.heap.size := ⟨_, rfl⟩
  have hk : Blk w1 g 27 #[.int .i64 p, .int .i64 R, .int .i64 C, .slice A n k] := by rw [hw1, hg]; exact (Blk.new _ _ _).alloc _
  have hk2 : Blk w1 (g + 1) 27 #[.int .i64 0, .int .i64 0, .int .i64 0, .slice none 0 0] := by
    rw [hw1, hg]
    have := Blk.new (w.alloc (.cells #[.int .i64 p, .int .i64 R, .int .i64 C, .slice A n k] 27)) 27 #[.int .i64 0, .int .i64 0, .int .i64 0, .slice none 0 0]
    simpa using this
  have hb : Below w.heap.size w w1 := by rw [hw1]; go_grown
  have hn196 : n ≤ 196 := by have h1 := hs.1; have h2 := hd0.1; have h3 := nat_mul_small hR hC; omega
  have HCP := Lib.hid (l7Copy_any p (R : Int) (C : Int) A n k xs w1 (hs.below hb (Nat.le_refl _)) (by omega))
  have HNL : Hid (n = R * C) := Lib.hid (by have h1 := hs.1; have h2 := hd0.1; omega)
  have HB1 := Lib.hid hb
  have HW := Lib.hid hw1
  have HG := Lib.hid hg
  have HK := Lib.hid hk
  have HK2 := Lib.hid hk2
  have HSZ : Hid (w1.heap.size = g + 1 + 1) := Lib.hid (by rw [hw1, hg]; simp)
  have HP := Lib.hid hp
  have HD0 := Lib.hid hd0
  have hp2 := hp.two
  have hp7 := hp.le
  have hpnz : p ≠ 0 := by omega
  have HRG : Hid (∀ i c, i < R → c < C → 0 ≤ M0 i c ∧ M0 i c < p) := Lib.hid (fun i c hi hc => by rw [← hd0.2 i c hi hc]; exact hx _)
  clear hw1 hg hk hk2 hb hs hp hx hd0
  go_enter Try.func136, Try.ntmps136
  go_upto_region 1 with fail
  rw [← HW.out, ← HG.out]
  go_upto_region 2 with (first
    | (refine wpList_load_rowP rfl 27 (.tmp 1) rfl g rfl 27 #[.int .i64 p, .int .i64 R, .int .i64 C, .slice A n k] _ HK.out Try.underlying27 rfl Try.infoMx ?_)
    | (go_at_call 185
       with_reducible refine HCP.out.mono ?_
       rintro e w2 ⟨A4, n4, kd, rfl, ho2, hb2⟩
       obtain rfl : n4 = n := by have := ho2.len; have := HD0.out.1; have := HNL.out; omega
       have HO2 := Lib.hid ho2
       have HB2 := Lib.hid hb2
       clear ho2 hb2)
    | (refine wpList_store_rowP rfl 27 (.tmp 4) (.tmp 17) rfl w2.heap.size #[.int .i64 p, .int .i64 R, .int .i64 C, .slice A4 n4 kd] rfl rfl 27 #[.int .i64 0, .int .i64 0, .int .i64 0, .slice none 0 0] (Blk.new _ _ _) Try.infoMx rfl (by simp [Value.oneCell']) ?_
       intro w3 hb3 hg3
       have HK3 := Lib.hid hb3
       have HG3 := Lib.hid hg3
       clear hb3 hg3)
    | fail)
  obtain ⟨s1, hs1⟩ : ∃ s1, s1 = w1.heap.size := ⟨_, rfl⟩
  obtain ⟨s2, hs2⟩ : ∃ s2, s2 = w2.heap.size := ⟨_, rfl⟩
  rw [← hs1] at HB2
  rw [← hs1, ← hs2] at HO2
  rw [← hs2] at HK3 HG3 ⊢
  obtain ⟨n, rfl⟩ : ∃ m, m = n4 := ⟨_, rfl⟩
  have HRS : Hid (RS w w3 g s1 s2 p R C A A4 n k kd xs none 0 0 []) := Lib.hid (by
    have h0 := HSZ.out
    have h1 := HB2.out.size
    have hba : Below s2 w2 (w2.alloc (.cells #[.int .i64 0, .int .i64 0, .int .i64 0, .slice none 0 0] 27)) := (Below.refl s2 w2).alloc (Nat.le_of_eq hs2) _
    have hb3 : Below s2 w2 w3 := hba.grown HG3.out (by simp; omega) (by rintro q ⟨⟩; exact Nat.le_refl _)
    have h3 : s2 < w3.heap.size := HK3.out.lt
    exact ⟨(HK.out.below HB2.out (by rw [hs1]; exact HK.out.lt)).below hb3 (by omega), (HK2.out.below HB2.out (by rw [hs1]; exact HK2.out.lt)).below hb3 (by omega), HK3.out, HO2.out.below hb3 (Nat.le_refl _), Own.nil _ _ _, by omega, by
      have := HB1.out
      rw [← HG.out] at this
      exact (this.trans (HB2.out.mono (by omega))).trans (hb3.mono (by omega))⟩)
  clear hs1 hs2 HK HK2 HK3 HG3 HO2 HB2
  have hne3 : Below w3.heap.size w3 (w3.alloc (.cells #[] 3)) := Below.alloc_self _ _
  have HRS4 : Hid (RS w (w3.alloc (.cells #[] 3)) g s1 s2 p R C A A4 n k kd xs (some ⟨w3.heap.size, 0, none⟩) 0 0 []) := Lib.hid (by
    have h5 := HRS.out.below hne3
    exact ⟨h5.b1, h5.b2, h5.b4, h5.od, (Own.empty w3).wide (by have := HRS.out.ord; omega) (by simp), h5.ord, h5.be⟩)
  clear hne3
  go_wp2_with fail
  go_loopw [5, 6] (fun pv jv wr => ∃ (j : Nat) (d : List Int) (M : Nat → Nat → Int) (Ap : Option Addr) (np cp : Nat) (ps : List Int), j ≤ C ∧ jv = .int .i64 j ∧ pv = .slice Ap np cp ∧ RS w wr g s1 s2 p R C A A4 n k kd d Ap np cp ps ∧ DM d R C M ∧ RedI p C R M0 M ps j)
    (fun _ jv _ => C - (intOf jv).toNat)
  case atStart => exact ⟨0, xs, M0, _, 0, 0, [], Nat.zero_le _, rfl, rfl, HRS4.out, HD0.out, RedI.start HRG.out⟩
  case round =>
    obtain ⟨j, d, M, Ap, np, cp, ps, hj, rfl, rfl, hrs, hdm, hri⟩ := hrel
    clear HRS4 HRS
    have HRS := Lib.hid hrs
    have HDM := Lib.hid hdm
    have HRI := Lib.hid hri
    have HNP := Lib.hid hrs.op.len
    have hnpR : np ≤ R := by have := hri.le; have := HNP.out; omega
    have hjI : (j : Int) ≤ (C : Int) := by omega
    clear hrs hdm hri
    by_cases hlt : j < C ∧ np < R
    case neg =>
      have HFIN : Hid (j = C ∨ ps.length = R) := Lib.hid (by have := HNP.out; omega)
      obtain ⟨q0, q1, q2, q3, q4, q5, q6⟩ := HRS.out.s7
      have tailArm : True := trivial
      by_cases hjC : j < C
      case pos =>
        have hjCI : (j : Int) < (C : Int) := by omega
        have hnpI : ¬ (np : Int) < (R : Int) := by omega
        go_wp2_with (first
          | (refine wpList_load_rowP rfl 27 (.tmp 4) rfl s2 rfl 27 #[.int .i64 p, .int .i64 R, .int .i64 C, .slice A4 n kd] _ HRS.out.b4 Try.underlying27 rfl Try.infoMx ?_)
          | (refine wpList_store_rowP rfl 27 (.tmp 2) (.tmp 168) rfl (g + 1) #[.int .i64 p, .int .i64 R, .int .i64 C, .slice A4 n kd] rfl rfl 27 #[.int .i64 0, .int .i64 0, .int .i64 0, .slice none 0 0] HRS.out.b2 Try.infoMx rfl (by simp [Value.oneCell']) ?_; intro w5 hb5 hg5)
          | fail)
        refine bodyPost_ret (results_mx_tmp Try.results136 _ _ _ 27 #[.int .i64 p, .int .i64 R, .int .i64 C, .slice A4 n kd] _ rfl hb5 Try.underlying27 rfl Try.infoMx) rfl ?_
        have l1 := HRS.out.ord
        have l2 := HG.out
        have l3 := hg5.size
        refine ⟨A4, kd, Ap, np, cp, rfl, d, M, ps, j, ?_, ?_, HDM.out, HRI.out, hj, HFIN.out, ?_⟩
        · exact (HRS.out.od.grown hg5 (fun q hq => by injection hq with hq; omega)).wide (by omega) (by omega)
        · exact (HRS.out.op.grown hg5 (fun q hq => by injection hq with hq; omega)).wide (by omega) (by omega)
        · have := HRS.out.be.grown hg5 (by omega) (by rintro q ⟨⟩; omega)
          rw [l2] at this; exact this
      case neg =>
        have hjCI : ¬ (j : Int) < (C : Int) := by omega
        go_wp2_with (first
          | (refine wpList_load_rowP rfl 27 (.tmp 4) rfl s2 rfl 27 #[.int .i64 p, .int .i64 R, .int .i64 C, .slice A4 n kd] _ HRS.out.b4 Try.underlying27 rfl Try.infoMx ?_)
          | (refine wpList_store_rowP rfl 27 (.tmp 2) (.tmp 168) rfl (g + 1) #[.int .i64 p, .int .i64 R, .int .i64 C, .slice A4 n kd] rfl rfl 27 #[.int .i64 0, .int .i64 0, .int .i64 0, .slice none 0 0] HRS.out.b2 Try.infoMx rfl (by simp [Value.oneCell']) ?_; intro w5 hb5 hg5)
          | fail)
        refine bodyPost_ret (results_mx_tmp Try.results136 _ _ _ 27 #[.int .i64 p, .int .i64 R, .int .i64 C, .slice A4 n kd] _ rfl hb5 Try.underlying27 rfl Try.infoMx) rfl ?_
        have l1 := HRS.out.ord
        have l2 := HG.out
        have l3 := hg5.size
        refine ⟨A4, kd, Ap, np, cp, rfl, d, M, ps, j, ?_, ?_, HDM.out, HRI.out, hj, HFIN.out, ?_⟩
        · exact (HRS.out.od.grown hg5 (fun q hq => by injection hq with hq; omega)).wide (by omega) (by omega)
        · exact (HRS.out.op.grown hg5 (fun q hq => by injection hq with hq; omega)).wide (by omega) (by omega)
        · have := HRS.out.be.grown hg5 (by omega) (by rintro q ⟨⟩; omega)
          rw [l2] at this; exact this
    case pos =>
      obtain ⟨hjC, hnp⟩ := hlt
      have hjCI : (j : Int) < (C : Int) := by omega
      have hnpI : (np : Int) < (R : Int) := by omega
      obtain ⟨q0, q1, q2, q3, q4, q5, q6⟩ := HRS.out.s7
      go_wp2_with fail
      clear q0 q1 q2 q3 q4 q5 q6
      obtain ⟨wo, rfl⟩ : ∃ wo, wo = wr := ⟨wr, rfl⟩
      go_loopw [7] (fun av wr => ∃ a : Nat, np ≤ a ∧ a ≤ R ∧ av = .int .i64 a ∧ RS w wr g s1 s2 p R C A A4 n k kd d Ap np cp ps ∧ ∀ i, np ≤ i → i < a → M i j = 0)
        (fun av _ => R - (intOf av).toNat)
      case atStart => exact ⟨np, Nat.le_refl _, by omega, rfl, HRS.out, fun i h1 h2 => absurd h2 (by omega)⟩
      case round =>
        obtain ⟨a, hna, haR, rfl, hrs, hall⟩ := hrel
        clear HRS
        have HRS := Lib.hid hrs
        have HALL := Lib.hid hall
        obtain ⟨q0, q1, q2, q3, q4, q5, q6⟩ := hrs.s7
        clear hrs hall
        by_cases haE : a < R
        case neg =>
          obtain rfl : a = R := by omega
          have haI : ¬ (a : Int) < (a : Int) := by omega
          go_wp2
          go_roundw
          case rel => exact ⟨j + 1, d, M, Ap, np, cp, ps, by omega, by go_num, rfl, HRS.out, HDM.out, HRI.out.skip (fun i h1 h2 => HALL.out i (by have := HNP.out; omega) h2)⟩
          case measure => simp [intOf]; omega
        case pos =>
          have haI : (a : Int) < (R : Int) := by omega
          obtain ⟨v, hv⟩ : ∃ v, v = M a j := ⟨_, rfl⟩
          have HAT := Lib.hid (HRS.out.at_ HDM.out hR hC haE hjC v hv.symm wr (Below.refl _ _))
          have HV := Lib.hid hv
          clear hv
          by_cases hv0 : v = 0
          case pos =>
            subst hv0
            go_wp2_with (first
              | (go_at_call 186
                 with_reducible refine HAT.out.mono ?_
                 rintro e w4 ⟨rfl, hb4⟩
                 have HRS4 := Lib.hid (HRS.out.below hb4)
                 clear hb4)
              | fail)
            go_roundw
            case rel => exact ⟨a + 1, by omega, by omega, by go_num, HRS4.out, fun i h1 h2 => by
              by_cases e : i = a
              · rw [e]; exact HV.out.symm
              · exact HALL.out i h1 (by omega)⟩
            case measure => simp [intOf]; omega
          case neg =>
            have hvb : (v == 0) = false := by simpa using hv0
            have haRb : ((a : Int) == (R : Int)) = false := by simp; omega
            go_wp2_with (first
              | (go_at_call 186
                 with_reducible refine HAT.out.mono ?_
                 rintro e w4 ⟨rfl, hb4⟩
                 have HRS4 := Lib.hid (HRS.out.below hb4)
                 obtain ⟨t0, t1, t2, t3, t4, t5, t6⟩ := HRS4.out.s7
                 clear hb4)
              | fail)
            clear q0 q1 q2 q3 q4 q5 q6 t0 t1 t2 t3 t4 t5 t6 hvb haRb
            clear HAT
            go_loopw [9] (fun kv wr => ∃ (q : Nat) (d1 : List Int), q ≤ C ∧ kv = .int .i64 q ∧ RS w wr g s1 s2 p R C A A4 n k kd d1 Ap np cp ps ∧ DM d1 R C (swK M a np q))
              (fun kv _ => C - (intOf kv).toNat)
            case atStart => exact ⟨0, d, Nat.zero_le _, rfl, HRS4.out, HDM.out.congr fun i c _ _ => by simp [swK]⟩
            case round =>
              obtain ⟨q, d1, hq, rfl, hrs, hdm⟩ := hrel
              clear HRS4
              by_cases hqC : q < C
              case pos =>
                have hqI : (q : Int) < (C : Int) := by omega
                obtain ⟨gd, rfl, _, _⟩ := hrs.od.place (by rw [HNL.out]; have := idx_lt haE hqC; omega)
                obtain ⟨Na, m1, ha1, ha2, hm1⟩ := idx_wraps (i := a) (C := C) (q := q) (by omega) hC (by omega)
                obtain ⟨Nb, m2, hb1, hb2, hm2⟩ := idx_wraps (i := np) (C := C) (q := q) (by omega) hC (by omega)
                have hm1n : m1 < n := by rw [hm1, HNL.out]; exact idx_lt haE hqC
                have hm2n : m2 < n := by rw [hm2, HNL.out]; exact idx_lt hnp hqC
                have hm1I : (m1 : Int) < (n : Int) := by omega
                have hm2I : (m2 : Int) < (n : Int) := by omega
                obtain ⟨x1, hx1⟩ : ∃ x1, x1 = M a q := ⟨_, rfl⟩
                obtain ⟨y1, hy1⟩ : ∃ y1, y1 = M np q := ⟨_, rfl⟩
                have HAT1 := Lib.hid (hrs.at_ hdm hR hC haE hqC x1 (by rw [hx1]; simp [swK]) wr (Below.refl _ _))
                have HAT2 := Lib.hid (fun w5 (hb5 : Below wr.heap.size wr w5) => (hrs.below hb5).at_ hdm hR hC hnp hqC y1 (by rw [hy1]; simp [swK]) w5.drew ((Below.refl _ _).drew))
                have HFIN : Hid (DM ((d1.set m1 y1).set m2 x1) R C (swK M a np (q + 1))) := Lib.hid (by
                  rw [hm1, hm2]
                  exact ((hdm.set haE hqC y1).set hnp hqC x1).congr fun i c _ _ => by rw [hx1, hy1]; exact swK_step i c)
                have HRS := Lib.hid hrs
                obtain ⟨q0, q1, q2, q3, q4, q5, q6⟩ := hrs.s7
                clear hrs hdm hm1 hm2 hx1 hy1
                go_upto_region 15 with (first
                  | (go_at_call 186
                     with_reducible refine HAT1.out.mono ?_
                     rintro e w5 ⟨rfl, hb5⟩
                     have HRS5 := Lib.hid (HRS.out.below hb5)
                     have HAT3 := Lib.hid (HAT2.out w5 hb5)
                     clear hb5)
                  | fail)
                clear q0 q1 q2 q3 q4 q5 q6 HAT1 HAT2
                have HQ := Lib.hid HRS5.out.s7
                have hqd : w5.drew.cell? ⟨g, 0, none⟩ = some (.int .i64 p) ∧ w5.drew.cell? ⟨g, 1, none⟩ = some (.int .i64 R) ∧ w5.drew.cell? ⟨g, 2, none⟩ = some (.int .i64 C) ∧ w5.drew.cell? ⟨s2, 0, none⟩ = some (.int .i64 p) ∧ w5.drew.cell? ⟨s2, 1, none⟩ = some (.int .i64 R) ∧ w5.drew.cell? ⟨s2, 2, none⟩ = some (.int .i64 C) ∧ w5.drew.cell? ⟨s2, 3, none⟩ = some (.slice (some ⟨gd, 0, none⟩) n kd) := HRS5.out.s7
                have HQD := Lib.hid hqd
                clear hqd
                go_region_held3 (fun w' => w'.cell? ⟨g, 0, none⟩ = some (.int .i64 p) ∧ w'.cell? ⟨g, 1, none⟩ = some (.int .i64 R) ∧ w'.cell? ⟨g, 2, none⟩ = some (.int .i64 C) ∧ w'.cell? ⟨s2, 0, none⟩ = some (.int .i64 p) ∧ w'.cell? ⟨s2, 1, none⟩ = some (.int .i64 R) ∧ w'.cell? ⟨s2, 2, none⟩ = some (.int .i64 C) ∧ w'.cell? ⟨s2, 3, none⟩ = some (.slice (some ⟨gd, 0, none⟩) n kd))
                  (first | exact HQD.out | exact HQ.out | exact K4 | exact K5 | exact KZ)
                  (first
                    | (go_at_call 186
                       with_reducible refine HAT3.out.mono ?_
                       rintro e w6 ⟨rfl, hb6⟩
                       have HB6 : Hid (Below w5.heap.size w5 w6) := Lib.hid (((Below.refl _ _).drew).trans hb6)
                       have HRS6 := Lib.hid (HRS5.out.below HB6.out)
                       have K4 : w6.cell? ⟨g, 0, none⟩ = some (.int .i64 p) ∧ w6.cell? ⟨g, 1, none⟩ = some (.int .i64 R) ∧ w6.cell? ⟨g, 2, none⟩ = some (.int .i64 C) ∧ w6.cell? ⟨s2, 0, none⟩ = some (.int .i64 p) ∧ w6.cell? ⟨s2, 1, none⟩ = some (.int .i64 R) ∧ w6.cell? ⟨s2, 2, none⟩ = some (.int .i64 C) ∧ w6.cell? ⟨s2, 3, none⟩ = some (.slice (some ⟨gd, 0, none⟩) n kd) := HRS6.out.s7
                       have KZ : (w6.setCell ⟨gd, m1, none⟩ (.int .i64 y1)).cell? ⟨g, 0, none⟩ = some (.int .i64 p) ∧ (w6.setCell ⟨gd, m1, none⟩ (.int .i64 y1)).cell? ⟨g, 1, none⟩ = some (.int .i64 R) ∧ (w6.setCell ⟨gd, m1, none⟩ (.int .i64 y1)).cell? ⟨g, 2, none⟩ = some (.int .i64 C) ∧ (w6.setCell ⟨gd, m1, none⟩ (.int .i64 y1)).cell? ⟨s2, 0, none⟩ = some (.int .i64 p) ∧ (w6.setCell ⟨gd, m1, none⟩ (.int .i64 y1)).cell? ⟨s2, 1, none⟩ = some (.int .i64 R) ∧ (w6.setCell ⟨gd, m1, none⟩ (.int .i64 y1)).cell? ⟨s2, 2, none⟩ = some (.int .i64 C) ∧ (w6.setCell ⟨gd, m1, none⟩ (.int .i64 y1)).cell? ⟨s2, 3, none⟩ = some (.slice (some ⟨gd, 0, none⟩) n kd) := (HRS6.out.put m1 y1).s7
                       obtain ⟨cc, ff⟩ := HRS6.out.mcell hm1n
                       clear hb6))
                have HRS7 : Hid (RS w (w6.setCell ⟨gd, m1, none⟩ (.int .i64 y1)) g s1 s2 p R C A (some ⟨gd, 0, none⟩) n k kd (d1.set m1 y1) Ap np cp ps) := Lib.hid (HRS6.out.put m1 y1)
                obtain ⟨w7, hw7⟩ : ∃ w7, w7 = w6.setCell ⟨gd, m1, none⟩ (.int .i64 y1) := ⟨_, rfl⟩
                rw [← hw7] at HRS7 ⊢
                clear hw7 HQ HQD K4 KZ cc ff
                obtain ⟨q0, q1, q2, q3, q4, q5, q6⟩ := HRS7.out.s7
                obtain ⟨cc, ff⟩ := HRS7.out.mcell hm2n
                go_wp2_with fail
                go_roundw
                case rel => exact ⟨q + 1, (d1.set m1 y1).set m2 x1, by omega, by go_num, HRS7.out.put m2 x1, HFIN.out⟩
                case measure => simp [intOf]; omega
              case neg =>
                obtain rfl : C = q := by omega
                have HDM1 : Hid (DM d1 R C (swM M a np)) := Lib.hid (hdm.congr fun i c _ hc => by simp [swK, hc])
                have HRS := Lib.hid hrs
                clear hrs hdm
                obtain ⟨M1, hM1⟩ : ∃ M1, M1 = swM M a np := ⟨_, rfl⟩
                rw [← hM1] at HDM1
                have HM1 := Lib.hid hM1
                have hM1j : M1 np j = v := by
                  rw [hM1, HV.out]
                  by_cases e : np = a
                  · subst e; simp [swM]
                  · simp [swM, e]
                have HRG1 : Hid (∀ i c, i < R → c < C → 0 ≤ M1 i c ∧ M1 i c < p) := Lib.hid (fun i c hi hc => by
                  rw [hM1]
                  unfold swM
                  split
                  · exact HRI.out.rg np c hnp hc
                  · split
                    · exact HRI.out.rg a c haE hc
                    · exact HRI.out.rg i c hi hc)
                have hvr : 0 < v ∧ v < p := by
                  have := HRI.out.rg a j haE hjC
                  rw [← HV.out] at this; omega
                have HAT := Lib.hid (HRS.out.at_ HDM1.out hR hC hnp hjC v hM1j wr.drew ((Below.refl _ _).drew))
                have HIV := Lib.hid (fun w' => l7Inverse_any p v w' HP.out hvr)
                have hivr := inv7_ok HP.out hvr
                obtain ⟨f, hf⟩ : ∃ f, f = inv7 p v := ⟨_, rfl⟩
                rw [← hf] at hivr HIV
                have HF := Lib.hid hf
                have HFR : Hid (0 < f ∧ f < p) := Lib.hid ⟨hivr.1, hivr.2.1⟩
                obtain ⟨q0, q1, q2, q3, q4, q5, q6⟩ := HRS.out.s7
                clear hM1 hM1j hvr hivr hf
                go_wp2_with fail
                clear q0 q1 q2 q3 q4 q5 q6
                have HQ := Lib.hid HRS.out.s7
                have hqd : wr.drew.cell? ⟨g, 0, none⟩ = some (.int .i64 p) ∧ wr.drew.cell? ⟨g, 1, none⟩ = some (.int .i64 R) ∧ wr.drew.cell? ⟨g, 2, none⟩ = some (.int .i64 C) ∧ wr.drew.cell? ⟨s2, 0, none⟩ = some (.int .i64 p) ∧ wr.drew.cell? ⟨s2, 1, none⟩ = some (.int .i64 R) ∧ wr.drew.cell? ⟨s2, 2, none⟩ = some (.int .i64 C) ∧ wr.drew.cell? ⟨s2, 3, none⟩ = some (.slice A4 n kd) := HRS.out.s7
                have HQD := Lib.hid hqd
                clear hqd
                go_region_held3 (fun w' => w'.cell? ⟨g, 0, none⟩ = some (.int .i64 p) ∧ w'.cell? ⟨g, 1, none⟩ = some (.int .i64 R) ∧ w'.cell? ⟨g, 2, none⟩ = some (.int .i64 C) ∧ w'.cell? ⟨s2, 0, none⟩ = some (.int .i64 p) ∧ w'.cell? ⟨s2, 1, none⟩ = some (.int .i64 R) ∧ w'.cell? ⟨s2, 2, none⟩ = some (.int .i64 C) ∧ w'.cell? ⟨s2, 3, none⟩ = some (.slice A4 n kd))
                  (first | exact HQD.out | exact HQ.out | exact K4 | exact K5 | exact KZ)
                  (first
                    | (go_at_call 186
                       with_reducible refine HAT.out.mono ?_
                       rintro e w5 ⟨rfl, hb5⟩
                       have HRS5 := Lib.hid (HRS.out.below (((Below.refl _ _).drew).trans hb5))
                       have K4 : w5.cell? ⟨g, 0, none⟩ = some (.int .i64 p) ∧ w5.cell? ⟨g, 1, none⟩ = some (.int .i64 R) ∧ w5.cell? ⟨g, 2, none⟩ = some (.int .i64 C) ∧ w5.cell? ⟨s2, 0, none⟩ = some (.int .i64 p) ∧ w5.cell? ⟨s2, 1, none⟩ = some (.int .i64 R) ∧ w5.cell? ⟨s2, 2, none⟩ = some (.int .i64 C) ∧ w5.cell? ⟨s2, 3, none⟩ = some (.slice A4 n kd) := HRS5.out.s7
                       clear hb5)
                    | (go_at_call 187
                       with_reducible refine (HIV.out _).mono ?_
                       rintro e w6 ⟨rfl, hd6⟩
                       have HRS6 := Lib.hid (HRS5.out.below (hd6.below _))
                       have K5 : w6.cell? ⟨g, 0, none⟩ = some (.int .i64 p) ∧ w6.cell? ⟨g, 1, none⟩ = some (.int .i64 R) ∧ w6.cell? ⟨g, 2, none⟩ = some (.int .i64 C) ∧ w6.cell? ⟨s2, 0, none⟩ = some (.int .i64 p) ∧ w6.cell? ⟨s2, 1, none⟩ = some (.int .i64 R) ∧ w6.cell? ⟨s2, 2, none⟩ = some (.int .i64 C) ∧ w6.cell? ⟨s2, 3, none⟩ = some (.slice A4 n kd) := HRS6.out.s7
                       clear hd6))
                clear HQ HQD K4 K5
                go_wp2_with fail
                go_loopw [12] (fun kv wr => ∃ (q : Nat) (d2 : List Int), q ≤ C ∧ kv = .int .i64 q ∧ RS w wr g s1 s2 p R C A A4 n k kd d2 Ap np cp ps ∧ DM d2 R C (scK p M1 np f q))
                  (fun kv _ => C - (intOf kv).toNat)
                case atStart => exact ⟨0, d1, Nat.zero_le _, rfl, HRS6.out, HDM1.out.congr fun i c _ _ => by simp [scK]⟩
                case round =>
                  obtain ⟨q, d2, hq2, rfl, hrs, hdm⟩ := hrel
                  clear HRS6 HRS5
                  clear HRS
                  by_cases hqC : q < C
                  case pos =>
                    have hqI : (q : Int) < (C : Int) := by omega
                    obtain ⟨gd, rfl, _, _⟩ := hrs.od.place (by rw [HNL.out]; have := idx_lt haE hqC; omega)
                    obtain ⟨Nb, m2, hb1, hb2, hm2⟩ := idx_wraps (i := np) (C := C) (q := q) (by omega) hC (by omega)
                    have hm2n : m2 < n := by rw [hm2, HNL.out]; exact idx_lt hnp hqC
                    have hm2I : (m2 : Int) < (n : Int) := by omega
                    obtain ⟨x1, hx1⟩ : ∃ x1, x1 = M1 np q := ⟨_, rfl⟩
                    have HAT2 := Lib.hid (hrs.at_ hdm hR hC hnp hqC x1 (by rw [hx1]; simp [scK]) wr.drew ((Below.refl _ _).drew))
                    have hx1r := HRG1.out np q hnp hqC
                    rw [← hx1] at hx1r
                    have hfr := HFR.out
                    have hX0 : 0 ≤ x1 * f := Int.mul_nonneg hx1r.1 (by omega)
                    have hX1 : x1 * f ≤ 7 * 7 := Int.mul_le_mul (by omega) (by omega) (by omega) (by decide)
                    obtain ⟨X, hX⟩ : ∃ X, X = x1 * f := ⟨_, rfl⟩
                    rw [← hX] at hX0 hX1
                    have hwX : IntKind.i64.wrap (x1 * f) = X := by rw [← hX]; exact IntWalk.i64_in _ (by omega)
                    obtain ⟨Y, hY⟩ : ∃ Y, Y = X % p := ⟨_, rfl⟩
                    have hwY : X.tmod p = Y := by rw [hY]; exact Int.tmod_eq_emod_of_nonneg hX0
                    have hYr : 0 ≤ Y ∧ Y < p := by rw [hY]; exact ⟨Int.emod_nonneg _ hpnz, Int.emod_lt_of_pos _ (by omega)⟩
                    have hwZ : IntKind.i64.wrap Y = Y := IntWalk.i64_in _ (by omega)
                    have HFIN : Hid (DM (d2.set m2 Y) R C (scK p M1 np f (q + 1))) := Lib.hid (by
                      rw [hm2]
                      exact (hdm.set hnp hqC Y).congr fun i c _ _ => by rw [hY, hX, hx1]; exact scK_step i c)
                    have HRS := Lib.hid hrs
                    obtain ⟨q0, q1, q2, q3, q4, q5, q6⟩ := hrs.s7
                    clear hrs hdm hm2 hx1 hx1r hfr hX0 hX1 hX hY hYr
                    go_wp2_with fail
                    clear q0 q1 q2 q3 q4 q5 q6
                    have HQ := Lib.hid HRS.out.s7
                    have hqd : wr.drew.cell? ⟨g, 0, none⟩ = some (.int .i64 p) ∧ wr.drew.cell? ⟨g, 1, none⟩ = some (.int .i64 R) ∧ wr.drew.cell? ⟨g, 2, none⟩ = some (.int .i64 C) ∧ wr.drew.cell? ⟨s2, 0, none⟩ = some (.int .i64 p) ∧ wr.drew.cell? ⟨s2, 1, none⟩ = some (.int .i64 R) ∧ wr.drew.cell? ⟨s2, 2, none⟩ = some (.int .i64 C) ∧ wr.drew.cell? ⟨s2, 3, none⟩ = some (.slice (some ⟨gd, 0, none⟩) n kd) := HRS.out.s7
                    have HQD := Lib.hid hqd
                    clear hqd
                    go_region_held3 (fun w' => w'.cell? ⟨g, 0, none⟩ = some (.int .i64 p) ∧ w'.cell? ⟨g, 1, none⟩ = some (.int .i64 R) ∧ w'.cell? ⟨g, 2, none⟩ = some (.int .i64 C) ∧ w'.cell? ⟨s2, 0, none⟩ = some (.int .i64 p) ∧ w'.cell? ⟨s2, 1, none⟩ = some (.int .i64 R) ∧ w'.cell? ⟨s2, 2, none⟩ = some (.int .i64 C) ∧ w'.cell? ⟨s2, 3, none⟩ = some (.slice (some ⟨gd, 0, none⟩) n kd))
                      (first | exact HQD.out | exact HQ.out | exact K4 | exact K5 | exact KZ)
                      (first
                        | (go_at_call 186
                           with_reducible refine HAT2.out.mono ?_
                           rintro e w6 ⟨rfl, hb6⟩
                           have HRS6 := Lib.hid (HRS.out.below (((Below.refl _ _).drew).trans hb6))
                           have K4 : w6.cell? ⟨g, 0, none⟩ = some (.int .i64 p) ∧ w6.cell? ⟨g, 1, none⟩ = some (.int .i64 R) ∧ w6.cell? ⟨g, 2, none⟩ = some (.int .i64 C) ∧ w6.cell? ⟨s2, 0, none⟩ = some (.int .i64 p) ∧ w6.cell? ⟨s2, 1, none⟩ = some (.int .i64 R) ∧ w6.cell? ⟨s2, 2, none⟩ = some (.int .i64 C) ∧ w6.cell? ⟨s2, 3, none⟩ = some (.slice (some ⟨gd, 0, none⟩) n kd) := HRS6.out.s7
                           have KZ : (w6.setCell ⟨gd, m2, none⟩ (.int .i64 Y)).cell? ⟨g, 0, none⟩ = some (.int .i64 p) ∧ (w6.setCell ⟨gd, m2, none⟩ (.int .i64 Y)).cell? ⟨g, 1, none⟩ = some (.int .i64 R) ∧ (w6.setCell ⟨gd, m2, none⟩ (.int .i64 Y)).cell? ⟨g, 2, none⟩ = some (.int .i64 C) ∧ (w6.setCell ⟨gd, m2, none⟩ (.int .i64 Y)).cell? ⟨s2, 0, none⟩ = some (.int .i64 p) ∧ (w6.setCell ⟨gd, m2, none⟩ (.int .i64 Y)).cell? ⟨s2, 1, none⟩ = some (.int .i64 R) ∧ (w6.setCell ⟨gd, m2, none⟩ (.int .i64 Y)).cell? ⟨s2, 2, none⟩ = some (.int .i64 C) ∧ (w6.setCell ⟨gd, m2, none⟩ (.int .i64 Y)).cell? ⟨s2, 3, none⟩ = some (.slice (some ⟨gd, 0, none⟩) n kd) := (HRS6.out.put m2 Y).s7
                           obtain ⟨cc, ff⟩ := HRS6.out.mcell hm2n
                           clear hb6))
                    clear HQ HQD K4 KZ cc ff
                    go_wp2_with fail
                    go_roundw
                    case rel => exact ⟨q + 1, d2.set m2 Y, by omega, by go_num, HRS6.out.put m2 Y, HFIN.out⟩
                    case measure => simp [intOf]; omega
                  case neg =>
                    obtain rfl : C = q := by omega
                    have HDM2 : Hid (DM d2 R C (scM p M1 np f)) := Lib.hid (hdm.congr fun i c _ hc => by simp [scK, hc])
                    have HRS := Lib.hid hrs
                    obtain ⟨M2, hM2⟩ : ∃ M2, M2 = scM p M1 np f := ⟨_, rfl⟩
                    rw [← hM2] at HDM2
                    have HM2 := Lib.hid hM2
                    have HRG2 : Hid (∀ i c, i < R → c < C → 0 ≤ M2 i c ∧ M2 i c < p) := Lib.hid (fun i c hi hc => by
                      rw [hM2]
                      unfold scM
                      split
                      · exact ⟨Int.emod_nonneg _ hpnz, Int.emod_lt_of_pos _ (by omega)⟩
                      · exact HRG1.out i c hi hc)
                    have hCI : ¬ (C : Int) < (C : Int) := by omega
                    obtain ⟨q0, q1, q2, q3, q4, q5, q6⟩ := hrs.s7
                    clear hrs hdm hM2
                    go_wp2_with fail
                    clear q0 q1 q2 q3 q4 q5 q6 hCI
                    go_loopw [13] (fun iv wr => ∃ (i : Nat) (d3 : List Int), i ≤ R ∧ iv = .int .i64 i ∧ RS w wr g s1 s2 p R C A A4 n k kd d3 Ap np cp ps ∧ DM d3 R C (clK p M2 np j i 0))
                      (fun iv _ => R - (intOf iv).toNat)
                    case atStart => exact ⟨0, d2, Nat.zero_le _, rfl, HRS.out, HDM2.out.congr fun i c _ _ => by simp [clK]⟩
                    case round =>
                      obtain ⟨i, d3, hi, rfl, hrs, hdm⟩ := hrel
                      clear HRS
                      have HRS := Lib.hid hrs
                      have HDM3 := Lib.hid hdm
                      clear hrs hdm
                      by_cases hiR : i < R
                      case pos =>
                        have hiI : (i : Int) < (R : Int) := by omega
                        obtain ⟨cv, hcv⟩ : ∃ cv, cv = M2 i j := ⟨_, rfl⟩
                        have HAT3 := Lib.hid (HRS.out.at_ HDM3.out hR hC hiR hjC cv (by rw [hcv]; simp [clK]) wr (Below.refl _ _))
                        have HCV := Lib.hid hcv
                        have hcvr := HRG2.out i j hiR hjC
                        rw [← hcv] at hcvr
                        clear hcv
                        obtain ⟨q0, q1, q2, q3, q4, q5, q6⟩ := HRS.out.s7
                        go_wp2_with (first
                          | (go_at_call 186
                             with_reducible refine HAT3.out.mono ?_
                             rintro e w4 ⟨rfl, hb4⟩
                             have HRS4 := Lib.hid (HRS.out.below hb4)
                             obtain ⟨t0, t1, t2, t3, t4, t5, t6⟩ := HRS4.out.s7
                             clear hb4)
                          | fail)
                        clear q0 q1 q2 q3 q4 q5 q6 t0 t1 t2 t3 t4 t5 t6 HAT3
                        go_loopw [15] (fun kv wr => ∃ (q : Nat) (d4 : List Int), q ≤ C ∧ kv = .int .i64 q ∧ RS w wr g s1 s2 p R C A A4 n k kd d4 Ap np cp ps ∧ DM d4 R C (clK p M2 np j i q) ∧ (i = np → q = 0))
                          (fun kv _ => C - (intOf kv).toNat)
                        case atStart => exact ⟨0, d3, Nat.zero_le _, rfl, HRS4.out, HDM3.out, fun _ => rfl⟩
                        case round =>
                          obtain ⟨q, d4, hq4, rfl, hrs, hdm, hz⟩ := hrel
                          clear HRS4 HRS
                          have HRS := Lib.hid hrs
                          have HDM4 := Lib.hid hdm
                          have HZ := Lib.hid hz
                          clear hrs hdm hz
                          obtain ⟨q0, q1, q2, q3, q4, q5, q6⟩ := HRS.out.s7
                          by_cases hqC : q < C
                          case neg =>
                            have hqI : ¬ (q : Int) < (C : Int) := by omega
                            go_wp2
                            go_roundw
                            case rel => exact ⟨i + 1, d4, by omega, by go_num, HRS.out, HDM4.out.congr fun x c _ hc => by
                              have hqe : q = C := by omega
                              rw [hqe]; exact clK_row x c hc⟩
                            case measure => simp [intOf]; omega
                          case pos =>
                            have hqI : (q : Int) < (C : Int) := by omega
                            by_cases hin : i = np
                            case pos =>
                              have hinb : ((i : Int) != (np : Int)) = false := by simp; omega
                              go_wp2
                              go_roundw
                              case rel => exact ⟨i + 1, d4, by omega, by go_num, HRS.out, HDM4.out.congr fun x c _ hc => by
                                have h0 := HZ.out hin
                                rw [h0, hin]; exact clK_skip x c⟩
                              case measure => simp [intOf]; omega
                            case neg =>
                              have hinb : ((i : Int) != (np : Int)) = true := by simp; omega
                              obtain ⟨gd, rfl, _, _⟩ := HRS.out.od.place (by rw [HNL.out]; have := idx_lt haE hqC; omega)
                              obtain ⟨Nb, m2, hb1, hb2, hm2⟩ := idx_wraps (i := i) (C := C) (q := q) (by omega) hC (by omega)
                              have hm2n : m2 < n := by rw [hm2, HNL.out]; exact idx_lt hiR hqC
                              have hm2I : (m2 : Int) < (n : Int) := by omega
                              obtain ⟨a1, ha1⟩ : ∃ a1, a1 = M2 i q := ⟨_, rfl⟩
                              obtain ⟨b1, hb1'⟩ : ∃ b1, b1 = M2 np q := ⟨_, rfl⟩
                              have hclb : clK p M2 np j i q np q = b1 := by
                                rw [hb1']
                                unfold clK
                                split
                                · simp [clM]
                                · rfl
                              have HATA := Lib.hid (fun w' hb' => HRS.out.at_ HDM4.out hR hC hiR hqC a1 (by rw [ha1]; simp [clK]) w' hb')
                              have HATB := Lib.hid (fun w' hb' => HRS.out.at_ HDM4.out hR hC hnp hqC b1 hclb w' hb')
                              have hbr := HRG2.out np q hnp hqC
                              have har := HRG2.out i q hiR hqC
                              rw [← hb1'] at hbr
                              rw [← ha1] at har
                              obtain ⟨Dv, hDv⟩ : ∃ Dv, Dv = p - cv := ⟨_, rfl⟩
                              have hw1 : IntKind.i64.wrap (p - cv) = Dv := by rw [← hDv]; exact IntWalk.i64_in _ (by omega)
                              have hP0 : 0 ≤ Dv * b1 := Int.mul_nonneg (by omega) hbr.1
                              have hP1 : Dv * b1 ≤ 7 * 7 := Int.mul_le_mul (by omega) (by omega) hbr.1 (by decide)
                              obtain ⟨PB, hPB⟩ : ∃ PB, PB = Dv * b1 := ⟨_, rfl⟩
                              rw [← hPB] at hP0 hP1
                              have hw2 : IntKind.i64.wrap (Dv * b1) = PB := by rw [← hPB]; exact IntWalk.i64_in _ (by omega)
                              obtain ⟨X, hX⟩ : ∃ X, X = a1 + PB := ⟨_, rfl⟩
                              have hw3 : IntKind.i64.wrap (a1 + PB) = X := by rw [← hX]; exact IntWalk.i64_in _ (by omega)
                              obtain ⟨Y, hY⟩ : ∃ Y, Y = X % p := ⟨_, rfl⟩
                              have hw4 : X.tmod p = Y := by rw [hY]; exact Int.tmod_eq_emod_of_nonneg (by omega)
                              have hYr : 0 ≤ Y ∧ Y < p := by rw [hY]; exact ⟨Int.emod_nonneg _ hpnz, Int.emod_lt_of_pos _ (by omega)⟩
                              have hw5 : IntKind.i64.wrap Y = Y := IntWalk.i64_in _ (by omega)
                              have HFIN : Hid (DM (d4.set m2 Y) R C (clK p M2 np j i (q + 1))) := Lib.hid (by
                                rw [hm2]
                                exact (HDM4.out.set hiR hqC Y).congr fun x c _ _ => by rw [hY, hX, hPB, hDv, ha1, hb1', HCV.out]; exact clK_step hin x c)
                              clear hm2 ha1 hb1' hclb hbr har hP0 hP1 hX hY hYr hDv hPB
                              go_wp2_with fail
                              clear q0 q1 q2 q3 q4 q5 q6
                              have HQ := Lib.hid HRS.out.s7
                              have hqd : wr.drew.cell? ⟨g, 0, none⟩ = some (.int .i64 p) ∧ wr.drew.cell? ⟨g, 1, none⟩ = some (.int .i64 R) ∧ wr.drew.cell? ⟨g, 2, none⟩ = some (.int .i64 C) ∧ wr.drew.cell? ⟨s2, 0, none⟩ = some (.int .i64 p) ∧ wr.drew.cell? ⟨s2, 1, none⟩ = some (.int .i64 R) ∧ wr.drew.cell? ⟨s2, 2, none⟩ = some (.int .i64 C) ∧ wr.drew.cell? ⟨s2, 3, none⟩ = some (.slice (some ⟨gd, 0, none⟩) n kd) := HRS.out.s7
                              have HQD := Lib.hid hqd
                              clear hqd
                              go_region_held3 (fun w' => w'.cell? ⟨g, 0, none⟩ = some (.int .i64 p) ∧ w'.cell? ⟨g, 1, none⟩ = some (.int .i64 R) ∧ w'.cell? ⟨g, 2, none⟩ = some (.int .i64 C) ∧ w'.cell? ⟨s2, 0, none⟩ = some (.int .i64 p) ∧ w'.cell? ⟨s2, 1, none⟩ = some (.int .i64 R) ∧ w'.cell? ⟨s2, 2, none⟩ = some (.int .i64 C) ∧ w'.cell? ⟨s2, 3, none⟩ = some (.slice (some ⟨gd, 0, none⟩) n kd))
                                (first | exact HQD.out | exact HQ.out | exact K4 | exact K5 | exact KZ)
                                (first
                                  | (go_at_call 186
                                     with_reducible refine (HATB.out _ HBA.out).mono ?_
                                     rintro e w6 ⟨rfl, hb6⟩
                                     have HRS6 := Lib.hid (HRS.out.below (HBA.out.trans (hb6.mono HBA.out.size)))
                                     have K4 : w6.cell? ⟨g, 0, none⟩ = some (.int .i64 p) ∧ w6.cell? ⟨g, 1, none⟩ = some (.int .i64 R) ∧ w6.cell? ⟨g, 2, none⟩ = some (.int .i64 C) ∧ w6.cell? ⟨s2, 0, none⟩ = some (.int .i64 p) ∧ w6.cell? ⟨s2, 1, none⟩ = some (.int .i64 R) ∧ w6.cell? ⟨s2, 2, none⟩ = some (.int .i64 C) ∧ w6.cell? ⟨s2, 3, none⟩ = some (.slice (some ⟨gd, 0, none⟩) n kd) := HRS6.out.s7
                                     have KZ : (w6.setCell ⟨gd, m2, none⟩ (.int .i64 Y)).cell? ⟨g, 0, none⟩ = some (.int .i64 p) ∧ (w6.setCell ⟨gd, m2, none⟩ (.int .i64 Y)).cell? ⟨g, 1, none⟩ = some (.int .i64 R) ∧ (w6.setCell ⟨gd, m2, none⟩ (.int .i64 Y)).cell? ⟨g, 2, none⟩ = some (.int .i64 C) ∧ (w6.setCell ⟨gd, m2, none⟩ (.int .i64 Y)).cell? ⟨s2, 0, none⟩ = some (.int .i64 p) ∧ (w6.setCell ⟨gd, m2, none⟩ (.int .i64 Y)).cell? ⟨s2, 1, none⟩ = some (.int .i64 R) ∧ (w6.setCell ⟨gd, m2, none⟩ (.int .i64 Y)).cell? ⟨s2, 2, none⟩ = some (.int .i64 C) ∧ (w6.setCell ⟨gd, m2, none⟩ (.int .i64 Y)).cell? ⟨s2, 3, none⟩ = some (.slice (some ⟨gd, 0, none⟩) n kd) := (HRS6.out.put m2 Y).s7
                                     obtain ⟨cc, ff⟩ := HRS6.out.mcell hm2n
                                     clear hb6)
                                  | (go_at_call 186
                                     with_reducible refine (HATA.out _ HBC.out).mono ?_
                                     rintro e w6 ⟨rfl, hb6⟩
                                     have HRS6 := Lib.hid (HRS.out.below (HBC.out.trans (hb6.mono HBC.out.size)))
                                     have K4 : w6.cell? ⟨g, 0, none⟩ = some (.int .i64 p) ∧ w6.cell? ⟨g, 1, none⟩ = some (.int .i64 R) ∧ w6.cell? ⟨g, 2, none⟩ = some (.int .i64 C) ∧ w6.cell? ⟨s2, 0, none⟩ = some (.int .i64 p) ∧ w6.cell? ⟨s2, 1, none⟩ = some (.int .i64 R) ∧ w6.cell? ⟨s2, 2, none⟩ = some (.int .i64 C) ∧ w6.cell? ⟨s2, 3, none⟩ = some (.slice (some ⟨gd, 0, none⟩) n kd) := HRS6.out.s7
                                     have KZ : (w6.setCell ⟨gd, m2, none⟩ (.int .i64 Y)).cell? ⟨g, 0, none⟩ = some (.int .i64 p) ∧ (w6.setCell ⟨gd, m2, none⟩ (.int .i64 Y)).cell? ⟨g, 1, none⟩ = some (.int .i64 R) ∧ (w6.setCell ⟨gd, m2, none⟩ (.int .i64 Y)).cell? ⟨g, 2, none⟩ = some (.int .i64 C) ∧ (w6.setCell ⟨gd, m2, none⟩ (.int .i64 Y)).cell? ⟨s2, 0, none⟩ = some (.int .i64 p) ∧ (w6.setCell ⟨gd, m2, none⟩ (.int .i64 Y)).cell? ⟨s2, 1, none⟩ = some (.int .i64 R) ∧ (w6.setCell ⟨gd, m2, none⟩ (.int .i64 Y)).cell? ⟨s2, 2, none⟩ = some (.int .i64 C) ∧ (w6.setCell ⟨gd, m2, none⟩ (.int .i64 Y)).cell? ⟨s2, 3, none⟩ = some (.slice (some ⟨gd, 0, none⟩) n kd) := (HRS6.out.put m2 Y).s7
                                     obtain ⟨cc, ff⟩ := HRS6.out.mcell hm2n
                                     clear hb6)
                                  | (go_at_call 186
                                     with_reducible refine (HATA.out _ ((Below.refl _ _).drew)).mono ?_
                                     rintro e wa ⟨rfl, hb5⟩
                                     have HBA : Hid (Below wr.heap.size wr wa) := Lib.hid (((Below.refl _ _).drew).trans hb5)
                                     have K5 : wa.cell? ⟨g, 0, none⟩ = some (.int .i64 p) ∧ wa.cell? ⟨g, 1, none⟩ = some (.int .i64 R) ∧ wa.cell? ⟨g, 2, none⟩ = some (.int .i64 C) ∧ wa.cell? ⟨s2, 0, none⟩ = some (.int .i64 p) ∧ wa.cell? ⟨s2, 1, none⟩ = some (.int .i64 R) ∧ wa.cell? ⟨s2, 2, none⟩ = some (.int .i64 C) ∧ wa.cell? ⟨s2, 3, none⟩ = some (.slice (some ⟨gd, 0, none⟩) n kd) := (HRS.out.below HBA.out).s7
                                     clear hb5)
                                  | (go_at_call 186
                                     with_reducible refine (HATB.out _ ((Below.refl _ _).drew)).mono ?_
                                     rintro e wc ⟨rfl, hb5⟩
                                     have HBC : Hid (Below wr.heap.size wr wc) := Lib.hid (((Below.refl _ _).drew).trans hb5)
                                     have K5 : wc.cell? ⟨g, 0, none⟩ = some (.int .i64 p) ∧ wc.cell? ⟨g, 1, none⟩ = some (.int .i64 R) ∧ wc.cell? ⟨g, 2, none⟩ = some (.int .i64 C) ∧ wc.cell? ⟨s2, 0, none⟩ = some (.int .i64 p) ∧ wc.cell? ⟨s2, 1, none⟩ = some (.int .i64 R) ∧ wc.cell? ⟨s2, 2, none⟩ = some (.int .i64 C) ∧ wc.cell? ⟨s2, 3, none⟩ = some (.slice (some ⟨gd, 0, none⟩) n kd) := (HRS.out.below HBC.out).s7
                                     clear hb5))
                              all_goals
                                (clear HQ HQD cc ff
                                 go_wp2_with fail
                                 go_roundw
                                 case rel => exact ⟨q + 1, d4.set m2 Y, by omega, by go_num, HRS6.out.put m2 Y, HFIN.out, fun h => absurd h hin⟩
                                 case measure => simp [intOf]; omega)
                      case neg =>
                        obtain rfl : R = i := by omega
                        have HSTEP : Hid (RedI p C R M0 (clM p M2 np j) (ps ++ [(j : Int)]) (j + 1)) := Lib.hid (by
                          have h5 := HRI.out.step HP.out hjC (a := a) (by rw [HNP.out]; exact hna) haE (by rw [← HV.out]; exact hv0)
                          rw [HNP.out, ← HV.out, ← HF.out, ← HM1.out, ← HM2.out] at h5
                          exact h5)
                        have HDML : Hid (DM d3 R C (clM p M2 np j)) := Lib.hid (HDM3.out.congr fun x c hx _ => by
                          unfold clK
                          rw [if_pos (Or.inl hx)])
                        have hRI : ¬ (R : Int) < (R : Int) := by omega
                        obtain ⟨q0, q1, q2, q3, q4, q5, q6⟩ := HRS.out.s7
                        go_wp2_with (first
                          | (at_builtin
                             refine wpList_append1 rfl (.tmp 164) (.tmp 166) rfl (s2 + 1) Ap np cp ps (j : Int) rfl (by show Act.eval _ _ = _; simp [Act.eval]) HRS.out.op (by have := HRS.out.ord; omega) (by omega) ?_
                             intro A' c' w9 ho9 hg9 hb9
                             have HRS9 := Lib.hid (HRS.out.app hg9 rfl ho9)
                             clear ho9 hg9 hb9)
                          | fail)
                        go_roundw
                        case rel => exact ⟨j + 1, d3, clM p M2 np j, A', np + 1, c', ps ++ [(j : Int)], by omega, by go_num, rfl, HRS9.out, HDML.out, HSTEP.out⟩
                        case measure => simp [intOf]; omega

end Go.Proofs.Ytfaegfhbbkicgaa

/-
  Worlds that have only grown: draws, and new blocks behind the heap. Plain lemmas. No conditions.
-/


namespace Go.Proofs.Ytfaegfhbbkicgaa
open Go.RowKit

/-- w' is w, some draws on, with new blocks behind. -/
def Grew (w w' : World) : Prop := ∃ q os, w' = Go.Sort.grow (w.drewN q) os
theorem Grew.refl (w : World) : Grew w w := ⟨0, #[], by simp [Go.Sort.grow, World.drewN]⟩
theorem Grew.drewN {w w' : World} (h : Grew w w') (n : Nat) : Grew w (w'.drewN n) := by
  obtain ⟨q, os, rfl⟩ := h
  exact ⟨q + n, os, by simp [Go.Sort.grow, World.drewN, Nat.add_assoc]⟩
theorem Grew.drew {w w' : World} (h : Grew w w') : Grew w w'.drew := by
  obtain ⟨q, os, rfl⟩ := h
  exact ⟨q + 1, os, by simp [Go.Sort.grow, World.drewN, World.drew, Nat.add_assoc]⟩
theorem Grew.alloc {w w' : World} (h : Grew w w') (o : Obj) : Grew w (w'.alloc o) := by
  obtain ⟨q, os, rfl⟩ := h
  exact ⟨q, os ++ #[o], by rw [Go.Sort.alloc_eq_grow, Go.Sort.grow_grow]⟩
theorem Grew.trans {w w' w'' : World} (h : Grew w w') (h' : Grew w' w'') : Grew w w'' := by
  obtain ⟨q, os, rfl⟩ := h
  obtain ⟨q', os', rfl⟩ := h'
  exact ⟨q + q', os ++ os', by simp [Go.Sort.grow, World.drewN, Nat.add_assoc, Array.append_assoc]⟩
theorem Grew.of_drawn {w w' : World} (h : Drawn w w') : Grew w w' := by
  obtain ⟨m, rfl⟩ := h
  exact ⟨m, #[], (Go.Sort.grow_empty _).symm⟩
theorem Grew.below {w w' : World} (h : Grew w w') : Below w.heap.size w w' := by
  obtain ⟨q, os, rfl⟩ := h
  exact ⟨rfl, rfl, rfl, by simp, fun k hk => Go.Sort.heap_grow_old (w.drewN q) os hk⟩
theorem Grew.size {w w' : World} (h : Grew w w') : w.heap.size ≤ w'.heap.size := h.below.size
end Go.Proofs.Ytfaegfhbbkicgaa

/-
  Keys of exponents and comparison of terms, on both sides. No conditions but the exponents' bounds.
-/




namespace Go.Proofs.Ytfaegfhbbkicgaa
open Go.RowKit

theorem nth_drop (e : List Int) (m k : Nat) : nth (e.drop m) k = nth e (m + k) := by simp [nth, List.getD]
theorem keyD {e : List Int} (hl : e.length = 7) (hs : smallE e = true) (m : Nat) : 0 ≤ key7 (e.drop m) ∧ key7 (e.drop m) ≤ 562949953421312 := by
  have h := key7_bound (e.drop m) (fun k hk => by rw [nth_drop]; exact smallE_nth hs (by simp at hk; omega))
  have h1 : (128 : Int) ^ (e.drop m).length ≤ 562949953421312 := by
    have : (e.drop m).length ≤ 7 := by simp; omega
    generalize (e.drop m).length = q at this
    match q, this with
    | 0, _ | 1, _ | 2, _ | 3, _ | 4, _ | 5, _ | 6, _ | 7, _ => decide
  omega
/-- What comparing two numbers answers. -/
def cmpI (x y : Int) : Int := if x < y then -1 else if y < x then 1 else 0
theorem isNaN_any (x : Int) (w : World) : Calls Try.prog 202 #[.int .i64 x] w fun r w' => r = .returned (.bool false) ∧ w' = w := by
  go_enter Try.func202, Try.ntmps202
  go_wp2
  go_ret
  exact ⟨rfl, rfl⟩
theorem compare_any (x y : Int) (w : World) : Calls Try.prog 176 #[.int .i64 x, .int .i64 y] w fun r w' => r = .returned (.int .i64 (cmpI x y)) ∧ w' = w := by
  unfold cmpI
  by_cases h1 : x < y
  · rw [if_pos h1]
    go_enter Try.func176, Try.ntmps176
    go_wp2_with (go_at_call 202; refine (isNaN_any _ _).mono ?_; rintro e w1 ⟨rfl, rfl⟩)
    go_ret
    exact ⟨rfl, rfl⟩
  · rw [if_neg h1]
    by_cases h2 : y < x
    · rw [if_pos h2]
      go_enter Try.func176, Try.ntmps176
      go_wp2_with (go_at_call 202; refine (isNaN_any _ _).mono ?_; rintro e w1 ⟨rfl, rfl⟩)
      go_ret
      exact ⟨rfl, rfl⟩
    · rw [if_neg h2]
      go_enter Try.func176, Try.ntmps176
      go_wp2_with (go_at_call 202; refine (isNaN_any _ _).mono ?_; rintro e w1 ⟨rfl, rfl⟩)
      go_ret
      exact ⟨rfl, rfl⟩

theorem compare_q (x y : Int) (w : World) : Calls Try.prog 176 #[.int .i64 x, .int .i64 y] w fun r w' => r = .returned (.int .i64 (cmpI x y)) ∧ Drawn w w' :=
  (compare_any x y w).mono fun _ _ ⟨he, hw⟩ => ⟨he, hw ▸ Drawn.refl _⟩
/-- What comparing two terms answers: the greater key stands first. -/
def cmpK (a b : List Int) : Int := if key7 b < key7 a then -1 else if key7 a < key7 b then 1 else 0
theorem smallE_P {e : List Int} (h : smallE e = true) : ∀ k, k < e.length → 0 ≤ nth e k ∧ nth e k ≤ 127 := fun _ hk => by have := smallE_nth h hk; omega
/-- What comparing two lists of exponents answers: from the last one, the greater one stands first. -/
def cmpX (xs ys : List Int) : Nat → Int
  | 0 => 0
  | m + 1 => if nth xs m = nth ys m then cmpX xs ys m else cmpI (nth ys m) (nth xs m)
theorem cmpX_eq {xs ys : List Int} {m : Nat} (h : nth xs m = nth ys m) : cmpX xs ys (m + 1) = cmpX xs ys m := by
  show (if nth xs m = nth ys m then cmpX xs ys m else cmpI (nth ys m) (nth xs m)) = _; rw [if_pos h]
theorem cmpX_ne {xs ys : List Int} {m : Nat} (h : ¬ nth xs m = nth ys m) : cmpX xs ys (m + 1) = cmpI (nth ys m) (nth xs m) := by
  show (if nth xs m = nth ys m then cmpX xs ys m else cmpI (nth ys m) (nth xs m)) = _; rw [if_neg h]
theorem cmpK_eq {a b : List Int} (hl : a.length = b.length) (h : ∀ j, j < a.length → nth a j = nth b j) : cmpK a b = 0 := by
  have e : a = b := by
    apply List.ext_getElem hl
    intro j h1 h2
    have := h j h1
    rwa [nth_get h1, nth_get h2] at this
  subst e
  unfold cmpK
  rw [if_neg (by omega), if_neg (by omega)]
theorem cmpK_ne {a b : List Int} {i : Nat} (ha : a.length = 7) (hb : b.length = 7) (sa : ∀ k, k < 7 → 0 ≤ nth a k ∧ nth a k ≤ 127) (sb : ∀ k, k < 7 → 0 ≤ nth b k ∧ nth b k ≤ 127) (hi : i < 7) (h : ∀ j, i < j → j < 7 → nth a j = nth b j) (hne : nth a i ≠ nth b i) :
    cmpK a b = cmpI (nth b i) (nth a i) := by
  unfold cmpK cmpI
  by_cases h1 : nth b i < nth a i
  · have := key7_lt b a i (by omega) (by rw [hb]; exact sb) (by rw [ha]; exact sa) (by omega) (fun j h1 h2 => (h j h1 (by omega)).symm) h1
    rw [if_pos this, if_pos h1]
  · have := key7_lt a b i (by omega) (by rw [ha]; exact sa) (by rw [hb]; exact sb) (by omega) (fun j h1 h2 => h j h1 (by omega)) (by omega)
    rw [if_neg (by omega), if_pos this, if_neg h1, if_pos (by omega)]
theorem cmpX_key {a b : List Int} (ha : a.length = 7) (hb : b.length = 7) (sa : ∀ k, k < 7 → 0 ≤ nth a k ∧ nth a k ≤ 127) (sb : ∀ k, k < 7 → 0 ≤ nth b k ∧ nth b k ≤ 127) :
    ∀ m, m ≤ 7 → (∀ j, m ≤ j → j < 7 → nth a j = nth b j) → cmpX a b m = cmpK a b
  | 0, _, h => (cmpK_eq (by omega) fun j hj => h j (by omega) (by omega)).symm
  | m + 1, hm, h => by
    by_cases e : nth a m = nth b m
    · rw [cmpX_eq e]
      exact cmpX_key ha hb sa sb m (by omega) fun j h1 h2 => by
        rcases Nat.lt_or_ge m j with h3 | h3
        · exact h j (by omega) h2
        · obtain rfl : j = m := by omega
          exact e
    · rw [cmpX_ne e]
      exact (cmpK_ne ha hb sa sb (by omega) (fun j h1 h2 => h j (by omega) h2) e).symm

theorem arrC_map {l : List Int} (hl : l.length = 7) : arrC l = (l.map (Value.int .i64)).toArray := by
  match l, hl with
  | [a, b, c, d, e, f, g], _ => rfl
theorem quiet_loadcell1 {C : World → Prop} {a : Act} {o : Oper} {K : Act → Prop} (ty : TypeId) (x : Operand) (ho : o.op = .load ty x) (b off : Nat) (hx : a.eval x = .pointer (some ⟨b, off, none⟩)) (v : Value)
    (hb : ∀ w, C w → w.cell? ⟨b, off, none⟩ = some v) (hu : ty = 22) (hk : K (a.put o.dst v)) : o.quiet Try.prog a C K :=
  ⟨_, fun w hw => by
    subst hu
    have hc := hb w hw
    have hl : (loadVar 22 ⟨b, off, none⟩).run Try.prog w = .ok v w := by
      simp [loadVar, isAgg, underlying, Try.underlying22, hc, Result.andThen]
    unfold Oper.quietAt execOp
    simp only [ho, hx, Instr.loadAt, Instr.sureAddr, Sem.run_bind, Sem.run_pure, Result.andThen_ok, hl]
    exact ⟨rfl, rfl⟩, hk⟩
/-- A load at a class of worlds, the load's own run given. -/
theorem quiet_loadrun {C : World → Prop} {a : Act} {o : Oper} {K : Act → Prop} (ty : TypeId) (x : Operand) (ho : o.op = .load ty x) (b off : Nat) (hx : a.eval x = .pointer (some ⟨b, off, none⟩)) (v : Value)
    (hb : ∀ w, C w → (loadVar ty ⟨b, off, none⟩).run Try.prog w = .ok v w) (hk : K (a.put o.dst v)) : o.quiet Try.prog a C K :=
  ⟨_, fun w hw => by
    have hl := hb w hw
    unfold Oper.quietAt execOp
    simp only [ho, hx, Instr.loadAt, Instr.sureAddr, Sem.run_bind, Sem.run_pure, Result.andThen_ok, hl]
    exact ⟨rfl, rfl⟩, hk⟩
end Go.Proofs.Ytfaegfhbbkicgaa

/-
  The order of lists: number by number, what stands first is less. Conditions: lengths below 2^40.
-/

namespace Go.Proofs.Ytfaegfhbbkicgaa
open Go.RowKit

/-- What comparing two lists answers. -/
def cmpL : List Int → List Int → Int
  | [], [] => 0
  | [], _ :: _ => -1
  | _ :: _, [] => 1
  | x :: xs, y :: ys => if x < y then -1 else if y < x then 1 else cmpL xs ys
theorem drop_nth {xs : List Int} {k : Nat} (h : k < xs.length) : xs.drop k = nth xs k :: xs.drop (k + 1) := by
  rw [List.drop_eq_getElem_cons h, nth_get h]
theorem cmpL_at {xs ys : List Int} {k : Nat} (hx : k < xs.length) (hy : k < ys.length) : cmpL (xs.drop k) (ys.drop k) = if nth xs k < nth ys k then -1 else if nth ys k < nth xs k then 1 else cmpL (xs.drop (k + 1)) (ys.drop (k + 1)) := by
  rw [drop_nth hx, drop_nth hy]; rfl
theorem cmpL_short {xs ys : List Int} {k : Nat} (hx : k = xs.length) (hy : k < ys.length) : cmpL (xs.drop k) (ys.drop k) = -1 := by
  rw [drop_nth hy, List.drop_of_length_le (by omega)]; rfl
theorem cmpL_long {xs ys : List Int} {k : Nat} (hx : k < xs.length) (hy : k = ys.length) : cmpL (xs.drop k) (ys.drop k) = 1 := by
  rw [drop_nth hx, List.drop_of_length_le (by omega : ys.length ≤ k)]; rfl
theorem cmpL_end {xs ys : List Int} {k : Nat} (hx : k = xs.length) (hy : k = ys.length) : cmpL (xs.drop k) (ys.drop k) = 0 := by
  rw [List.drop_of_length_le (by omega), List.drop_of_length_le (by omega)]; rfl
def lessL (xs ys : List Int) : Bool := decide (cmpL xs ys < 0)
theorem lessL_yes {xs ys : List Int} (h : cmpL xs ys = -1) : lessL xs ys = true := by simp [lessL, h]
theorem lessL_no {xs ys : List Int} (h : 0 ≤ cmpL xs ys) : lessL xs ys = false := by simp [lessL]; exact h

set_option maxHeartbeats 1600000 in
theorem l1Less_any (A A2 : Option Addr) (n c n2 c2 : Nat) (xs ys : List Int) (w : World) (hs : SI w A n xs) (hs2 : SI w A2 n2 ys) (hn : n ≤ 1099511627776) (hn2 : n2 ≤ 1099511627776) :
    Calls Try.prog 165 #[.slice A n c, .slice A2 n2 c2] w fun e w' => e = .returned (.bool (lessL xs ys)) ∧ Drawn w w' := by
  have HL := Lib.hid (And.intro hs.1 hs2.1)
  go_enter Try.func165, Try.ntmps165
  go_wp2
  go_loopw [5] (fun iv wr => ∃ k : Nat, k ≤ n ∧ k ≤ n2 ∧ iv = .int .i64 k ∧ Drawn w wr ∧ cmpL xs ys = cmpL (xs.drop k) (ys.drop k))
    (fun iv _ => n - (intOf iv).toNat)
  case atStart => exact ⟨0, Nat.zero_le _, Nat.zero_le _, rfl, Drawn.refl _, by simp⟩
  case round =>
    obtain ⟨k, hk, hk2, rfl, hD, hq⟩ := hrel
    have HD := Lib.hid hD
    have HQ := Lib.hid hq
    have h1 := hD.si hs
    have h2 := hD.si hs2
    clear hD hq hs hs2
    by_cases hlt : k < n
    · have hlI : (k : Int) < (n : Int) := by omega
      by_cases hlt2 : k < n2
      · have hlI2 : (k : Int) < (n2 : Int) := by omega
        obtain ⟨b, o, rfl, _, hc⟩ := h1.at_ (by omega)
        obtain ⟨b2, o2, rfl, _, hc2⟩ := h2.at_ (by omega)
        have hx := hc k hlt
        have hy := hc2 k hlt2
        have HS := cmpL_at (xs := xs) (ys := ys) (k := k) (by have := HL.out; omega) (by have := HL.out; omega)
        obtain ⟨x, hx0⟩ : ∃ x, x = nth xs k := ⟨_, rfl⟩
        obtain ⟨y, hy0⟩ : ∃ y, y = nth ys k := ⟨_, rfl⟩
        rw [← hx0] at hx HS
        rw [← hy0] at hy HS
        rw [← HQ.out] at HS
        have HS := Lib.hid HS
        clear h1 h2 hc hc2 hx0 hy0
        by_cases hxy : x = y
        · subst hxy
          have HS2 := Lib.hid (HS.out.trans ((if_neg (by omega)).trans (if_neg (by omega))))
          go_wp2_with fail
          go_quiet (fail)
          go_wp2
          go_roundw
          case rel => exact ⟨k + 1, by omega, by omega, by go_num, HD.out.drewN _, HS2.out⟩
          case measure => simp [intOf]; omega
        · have hne : (x != y) = true := by simpa using hxy
          by_cases hlt3 : x < y
          · have HF := Lib.hid (lessL_yes (HS.out.trans (if_pos hlt3)))
            go_wp2_with fail
            go_quiet (fail)
            go_wp2_with fail
            go_quiet (fail)
            go_wp2
            go_ret
            exact ⟨ret_bool HF.out.symm, by first | exact (HD.out.drewN _).drewN _ | exact HD.out.drewN _⟩
          · have HF := Lib.hid (lessL_no (Int.le_of_eq (HS.out.trans ((if_neg hlt3).trans (if_pos (by omega)))).symm |> Int.le_trans (by decide)))
            go_wp2_with fail
            go_quiet (fail)
            go_wp2_with fail
            have hlt4 : ¬ x < y := by omega
            go_quiet (fail)
            go_wp2
            go_ret
            exact ⟨ret_bool HF.out.symm, by first | exact (HD.out.drewN _).drewN _ | exact HD.out.drewN _⟩
      · have hk2n : k = n2 := by omega
        have hlI2 : ¬ (k : Int) < (n2 : Int) := by omega
        have hn2n : ¬ (n : Int) < (n2 : Int) := by omega
        have HF := Lib.hid (lessL_no (by rw [HQ.out, cmpL_long (by have := HL.out; omega) (by have := HL.out; omega)]; decide))
        clear h1 h2
        go_wp2
        go_ret
        exact ⟨ret_bool HF.out.symm, HD.out⟩
    · have hkn : k = n := by omega
      have hlI : ¬ (k : Int) < (n : Int) := by omega
      clear h1 h2
      by_cases hlt2 : n < n2
      · have hn2n : (n : Int) < (n2 : Int) := by omega
        have HF := Lib.hid (lessL_yes (by rw [HQ.out, cmpL_short (by have := HL.out; omega) (by have := HL.out; omega)]))
        go_wp2
        go_ret
        exact ⟨ret_bool HF.out.symm, HD.out⟩
      · have hn2n : ¬ (n : Int) < (n2 : Int) := by omega
        have HF := Lib.hid (lessL_no (by rw [HQ.out, cmpL_end (by have := HL.out; omega) (by have := HL.out; omega)]; decide))
        go_wp2
        go_ret
        exact ⟨ret_bool HF.out.symm, HD.out⟩

set_option maxHeartbeats 1600000 in
theorem sliceCompare_any (A A2 : Option Addr) (n c n2 c2 : Nat) (xs ys : List Int) (w : World) (hs : SI w A n xs) (hs2 : SI w A2 n2 ys) (hn : n ≤ 1099511627776) (hn2 : n2 ≤ 1099511627776) :
    Calls Try.prog 119 #[.slice A n c, .slice A2 n2 c2] w fun e w' => e = .returned (.int .i64 (cmpL xs ys)) ∧ Drawn w w' := by
  have HL := Lib.hid (And.intro hs.1 hs2.1)
  go_enter Try.func119, Try.ntmps119
  go_wp2
  go_loopw [11] (fun iv wr => ∃ k : Nat, k ≤ n ∧ k ≤ n2 ∧ iv = .int .i64 k ∧ Drawn w wr ∧ cmpL xs ys = cmpL (xs.drop k) (ys.drop k))
    (fun iv _ => n - (intOf iv).toNat)
  case atStart => exact ⟨0, Nat.zero_le _, Nat.zero_le _, rfl, Drawn.refl _, by simp⟩
  case round =>
    obtain ⟨k, hk, hk2, rfl, hD, hq⟩ := hrel
    have HD := Lib.hid hD
    have HQ := Lib.hid hq
    have h1 := hD.si hs
    have h2 := hD.si hs2
    clear hD hq hs hs2
    by_cases hlt : k < n
    · have hlI : (k : Int) < (n : Int) := by omega
      obtain ⟨b, o, rfl, _, hc⟩ := h1.at_ (by omega)
      have hx := hc k hlt
      obtain ⟨x, hx0⟩ : ∃ x, x = nth xs k := ⟨_, rfl⟩
      rw [← hx0] at hx
      by_cases hlt2 : k < n2
      · have hlI2 : (k : Int) < (n2 : Int) := by omega
        obtain ⟨b2, o2, rfl, _, hc2⟩ := h2.at_ (by omega)
        have hy := hc2 k hlt2
        have HS := cmpL_at (xs := xs) (ys := ys) (k := k) (by have := HL.out; omega) (by have := HL.out; omega)
        obtain ⟨y, hy0⟩ : ∃ y, y = nth ys k := ⟨_, rfl⟩
        rw [← hx0] at HS
        rw [← hy0] at hy HS
        rw [← HQ.out] at HS
        have HS := Lib.hid HS
        have HC := Lib.hid (fun w => compare_any x y w)
        clear h1 h2 hc hc2 hx0 hy0
        by_cases hlt3 : x < y
        · have HF := Lib.hid (HS.out.trans (if_pos hlt3))
          have HC2 := HC.out
          rw [show cmpI x y = -1 from if_pos hlt3] at HC2
          have HC3 := Lib.hid HC2
          clear HC2 HC
          go_wp2_with (go_at_call 176; refine (HC3.out _).mono ?_; rintro e w1 ⟨rfl, rfl⟩)
          go_ret
          exact ⟨by rw [HF.out]; try rfl, HD.out⟩
        · by_cases hlt4 : y < x
          · have HF := Lib.hid (HS.out.trans ((if_neg hlt3).trans (if_pos hlt4)))
            have HC2 := HC.out
            rw [show cmpI x y = 1 from (if_neg hlt3).trans (if_pos hlt4)] at HC2
            have HC3 := Lib.hid HC2
            clear HC2 HC
            go_wp2_with (go_at_call 176; refine (HC3.out _).mono ?_; rintro e w1 ⟨rfl, rfl⟩)
            go_ret
            exact ⟨by rw [HF.out]; try rfl, HD.out⟩
          · have HF := Lib.hid (HS.out.trans ((if_neg hlt3).trans (if_neg hlt4)))
            have HC2 := HC.out
            rw [show cmpI x y = 0 from (if_neg hlt3).trans (if_neg hlt4)] at HC2
            have HC3 := Lib.hid HC2
            clear HC2 HC
            go_wp2_with (go_at_call 176; refine (HC3.out _).mono ?_; rintro e w1 ⟨rfl, rfl⟩)
            go_roundw
            case rel => exact ⟨k + 1, by omega, by omega, by go_num, HD.out, HF.out⟩
            case measure => simp [intOf]; omega
      · have hk2n : k = n2 := by omega
        subst hk2n
        have HF : Hid (cmpL xs ys = 1) := Lib.hid (by rw [HQ.out, cmpL_long (by have := HL.out; omega) (by have := HL.out; omega)])
        clear h1 h2 hc hx0
        go_wp2
        go_ret
        exact ⟨by rw [HF.out]; try rfl, HD.out⟩
    · have hkn : k = n := by omega
      have hlI : ¬ (k : Int) < (n : Int) := by omega
      clear h1 h2
      by_cases hlt2 : n < n2
      · have hn2n : (n : Int) < (n2 : Int) := by omega
        have HF : Hid (cmpL xs ys = -1) := Lib.hid (by rw [HQ.out, cmpL_short (by have := HL.out; omega) (by have := HL.out; omega)])
        go_wp2
        go_ret
        exact ⟨by rw [HF.out]; try rfl, HD.out⟩
      · have hn2n : ¬ (n : Int) < (n2 : Int) := by omega
        have HF : Hid (cmpL xs ys = 0) := Lib.hid (by rw [HQ.out, cmpL_end (by have := HL.out; omega) (by have := HL.out; omega)])
        go_wp2
        go_ret
        exact ⟨by rw [HF.out]; try rfl, HD.out⟩
end Go.Proofs.Ytfaegfhbbkicgaa

/-
  What a list of classes is, and comparing two. Conditions: lengths below 2^40.
-/


namespace Go.Proofs.Ytfaegfhbbkicgaa
open Go.RowKit

def classAt (ts : List Tm) (k : Nat) : Prop := isPermB (tm ts k).1 = true ∧ trimN (tm ts k).1 (tm ts k).1.length = (tm ts k).1.length ∧ ((tm ts k).2 ≠ 0 ∧ -1000000 ≤ (tm ts k).2 ∧ (tm ts k).2 ≤ 1000000) ∧ (0 < k → lessL (tm ts (k - 1)).1 (tm ts k).1 = true)
instance (ts : List Tm) (k : Nat) : Decidable (classAt ts k) := by unfold classAt; infer_instance
def classesB (ts : List Tm) : Bool := decide (ts.length ≤ 100) && (List.range ts.length).all fun k => decide (classAt ts k)
theorem classesB_iff (ts : List Tm) : classesB ts = true ↔ ts.length ≤ 100 ∧ ∀ k, k < ts.length → classAt ts k := by simp [classesB]
theorem classesB_yes {ts : List Tm} (h0 : ts.length ≤ 100) (h : ∀ k, k < ts.length → classAt ts k) : classesB ts = true := (classesB_iff ts).2 ⟨h0, h⟩
theorem classesB_no {ts : List Tm} {k : Nat} (hk : k < ts.length) (h : ¬ classAt ts k) : classesB ts = false := by
  cases hb : classesB ts with
  | false => rfl
  | true => exact absurd (((classesB_iff ts).1 hb).2 k hk) h
theorem classesB_big {ts : List Tm} (h : 100 < ts.length) : classesB ts = false := by
  cases hb : classesB ts with
  | false => rfl
  | true => have := ((classesB_iff ts).1 hb).1; omega

set_option maxHeartbeats 1600000 in
theorem compareClasses_any (A A2 : Option Addr) (n c n2 c2 : Nat) (xs ys : List Int) (x y : Int) (w : World) (hs : SI w A n xs) (hs2 : SI w A2 n2 ys) (hn : n ≤ 1099511627776) (hn2 : n2 ≤ 1099511627776) :
    Calls Try.prog 169 #[.agg #[.slice A n c, .int .i64 x], .agg #[.slice A2 n2 c2, .int .i64 y]] w fun e w' => e = .returned (.int .i64 (cmpL xs ys)) ∧ Below w.heap.size w w' := by
  have HC := Lib.hid (fun (w1 : World) (hb : Below w.heap.size w w1) => sliceCompare_any A A2 n c n2 c2 xs ys w1 (hs.below hb (Nat.le_refl _)) (hs2.below hb (Nat.le_refl _)) hn hn2)
  clear hs hs2
  go_enter Try.func169, Try.ntmps169
  go_wp2_with (go_at_call 119; refine (HC.out _ (by go_grown)).mono ?_; rintro e w1 ⟨rfl, hd⟩; have HD := Lib.hid hd; clear hd)
  go_ret
  exact ⟨rfl, Below.trans (by go_grown) (HD.out.below _)⟩

end Go.Proofs.Ytfaegfhbbkicgaa
