/-
  Sums over terms, and what the document's operations on lists of terms give: plain lemmas. No conditions but the exponents' bounds.
-/
import Derived.Test.YtkfpacjncpifgaaGath
import Derived.Test.YtkfpacjncpifgaaTerms
namespace Go.Proofs.Ytkfpacjncpifgaa
open Go.RowKit

/-- The coefficients' sum, each taken as often as F says at its key. -/
def tot (F : Int → Int) : List Mn → Int
  | [] => 0
  | t :: l => t.2 * F t.1 + tot F l
theorem tot_app (F : Int → Int) (a b : List Mn) : tot F (a ++ b) = tot F a + tot F b := by
  induction a with
  | nil => simp [tot]
  | cons t a ih => show t.2 * F t.1 + tot F (a ++ b) = t.2 * F t.1 + tot F a + tot F b; rw [ih]; omega
theorem tot_addM (F : Int → Int) (t : Mn) : ∀ g : List Mn, eqm (tot F (addM t g)) (t.2 * F t.1 + tot F g)
  | [] => by
    unfold addM
    have h := (w64_eqm t.2).mul_right (F t.1)
    split
    · rename_i h0
      rw [h0] at h
      show eqm 0 (t.2 * F t.1 + 0)
      rw [eqm_iff] at *; omega
    · show eqm (w64 t.2 * F t.1 + 0) (t.2 * F t.1 + 0)
      rw [eqm_iff] at *; omega
  | v :: g => by
    unfold addM
    have h := (w64_eqm t.2).mul_right (F t.1)
    split
    · split
      · rename_i h0
        rw [h0] at h
        rw [eqm_iff] at *; omega
      · show eqm (w64 t.2 * F t.1 + tot F (v :: g)) (t.2 * F t.1 + tot F (v :: g))
        rw [eqm_iff] at *; omega
    · split
      · rename_i _ e
        have h2 := (w64_eqm (v.2 + t.2)).mul_right (F t.1)
        rw [Int.add_mul] at h2
        split
        · rename_i h0
          rw [h0] at h2
          show eqm (tot F g) (t.2 * F t.1 + (v.2 * F v.1 + tot F g))
          rw [e]
          rw [eqm_iff] at *; omega
        · show eqm (w64 (v.2 + t.2) * F v.1 + tot F g) (t.2 * F t.1 + (v.2 * F v.1 + tot F g))
          rw [e]
          rw [eqm_iff] at *; omega
      · have ih := tot_addM F t g
        show eqm (v.2 * F v.1 + tot F (addM t g)) (t.2 * F t.1 + (v.2 * F v.1 + tot F g))
        rw [eqm_iff] at *; omega
theorem tot_gather (F : Int → Int) : ∀ l : List Mn, eqm (tot F (gatherL l)) (tot F l)
  | [] => eqm.refl _
  | t :: l => (tot_addM F t (gatherL l)).trans ((eqm.refl _).add (tot_gather F l))
theorem tot_congr (F : Int → Int) {a b : List Mn} (h : ∀ k, eqm (cfL a k) (cfL b k)) : eqm (tot F a) (tot F b) := by
  refine (tot_gather F a).symm.trans ?_
  rw [gatherL_congr h]
  exact tot_gather F b
theorem tot_F {F G : Int → Int} : ∀ {l : List Mn}, (∀ t ∈ l, eqm (F t.1) (G t.1)) → eqm (tot F l) (tot G l)
  | [], _ => eqm.refl _
  | t :: l, h => ((h t List.mem_cons_self).mul_left t.2).add (tot_F fun u hu => h u (List.mem_cons_of_mem _ hu))
/-- A list's coefficients, each so many times. -/
def scaleM (c : Int) (l : List Mn) : List Mn := l.map fun u => (u.1, w64 (c * u.2))
theorem cfL_scale (c k : Int) : ∀ l : List Mn, eqm (cfL (scaleM c l) k) (c * cfL l k)
  | [] => by show eqm 0 (c * 0); rw [Int.mul_zero]; exact eqm.refl _
  | u :: l => by
    have ih := cfL_scale c k l
    have h := w64_eqm (c * u.2)
    show eqm ((if u.1 = k then w64 (c * u.2) else 0) + cfL (scaleM c l) k) (c * ((if u.1 = k then u.2 else 0) + cfL l k))
    rw [Int.mul_add]
    split
    · exact h.add ih
    · rw [Int.mul_zero]; exact (eqm.refl _).add ih
/-- Each term of a list by what it gives. -/
def linL (f : Int → List Mn) (l : List Mn) : List Mn := l.flatMap fun t => scaleM t.2 (f t.1)
theorem cfL_lin (f : Int → List Mn) (k : Int) : ∀ l : List Mn, eqm (cfL (linL f l) k) (tot (fun x => cfL (f x) k) l)
  | [] => eqm.refl _
  | t :: l => by
    show eqm (cfL (scaleM t.2 (f t.1) ++ linL f l) k) (t.2 * cfL (f t.1) k + tot (fun x => cfL (f x) k) l)
    rw [cfL_app]
    exact (cfL_scale t.2 k (f t.1)).add (cfL_lin f k l)
theorem lin_congr (f : Int → List Mn) {a b : List Mn} (h : ∀ k, eqm (cfL a k) (cfL b k)) (k : Int) : eqm (cfL (linL f a) k) (cfL (linL f b) k) :=
  (cfL_lin f k a).trans ((tot_congr _ h).trans (cfL_lin f k b).symm)

/-- Exponents that keys can hold. -/
def ex7 (e : List Int) : Prop := e.length = 7 ∧ ∀ k, k < 7 → 0 ≤ nth e k ∧ nth e k ≤ 127
theorem ex7_cases {e : List Int} (h : ex7 e) : ∃ a b c d f g i : Int, e = [a, b, c, d, f, g, i] ∧ (0 ≤ a ∧ a ≤ 127) ∧ (0 ≤ b ∧ b ≤ 127) ∧ (0 ≤ c ∧ c ≤ 127) ∧ (0 ≤ d ∧ d ≤ 127) ∧ (0 ≤ f ∧ f ≤ 127) ∧ (0 ≤ g ∧ g ≤ 127) ∧ (0 ≤ i ∧ i ≤ 127) := by
  obtain ⟨hl, hb⟩ := h
  match e, hl with
  | [a, b, c, d, f, g, i], _ => exact ⟨a, b, c, d, f, g, i, rfl, hb 0 (by omega), hb 1 (by omega), hb 2 (by omega), hb 3 (by omega), hb 4 (by omega), hb 5 (by omega), hb 6 (by omega)⟩
theorem key7_lit (a b c d f g i : Int) : key7 [a, b, c, d, f, g, i] = ((((((i * 128 + g) * 128 + f) * 128 + d) * 128 + c) * 128 + b) * 128 + a) := by simp [key7]
theorem key7_inj {e e' : List Int} (h : ex7 e) (h' : ex7 e') (hk : key7 e = key7 e') : e = e' := by
  obtain ⟨a, b, c, d, f, g, i, rfl, h1, h2, h3, h4, h5, h6, h7⟩ := ex7_cases h
  obtain ⟨a', b', c', d', f', g', i', rfl, k1, k2, k3, k4, k5, k6, k7⟩ := ex7_cases h'
  rw [key7_lit, key7_lit] at hk
  obtain rfl : a = a' := by omega
  obtain rfl : b = b' := by omega
  obtain rfl : c = c' := by omega
  obtain rfl : d = d' := by omega
  obtain rfl : f = f' := by omega
  obtain rfl : g = g' := by omega
  obtain rfl : i = i' := by omega
  rfl
theorem key7_range {e : List Int} (h : ex7 e) : 0 ≤ key7 e ∧ key7 e < 562949953421312 := by
  obtain ⟨a, b, c, d, f, g, i, rfl, h1, h2, h3, h4, h5, h6, h7⟩ := ex7_cases h
  rw [key7_lit]; omega
theorem smallE_ex7 {e : List Int} (hl : e.length = 7) (h : smallE e = true) : ex7 e := ⟨hl, fun k hk => by have := smallE_nth h (k := k) (by omega); omega⟩
theorem lt6 {i : Nat} (h : i < 6) : i = 0 ∨ i = 1 ∨ i = 2 ∨ i = 3 ∨ i = 4 ∨ i = 5 := by omega
/-- Two exponents, one beside the other, put anew. -/
def putE (e : List Int) (i : Nat) (x y : Int) : List Int := (e.set i x).set (i + 1) y
theorem putE_len (e : List Int) (i : Nat) (x y : Int) : (putE e i x y).length = e.length := by simp [putE]
theorem putE_nth {e : List Int} {i : Nat} (hi : i + 1 < e.length) (x y : Int) {k : Nat} (hk : k < e.length) : nth (putE e i x y) k = if k = i + 1 then y else if k = i then x else nth e k := by
  rw [nth_get (by rw [putE_len]; exact hk)]
  unfold putE
  rw [List.getElem_set]
  by_cases h1 : i + 1 = k
  · rw [if_pos h1, if_pos h1.symm]
  · rw [if_neg h1, if_neg (fun h => h1 h.symm), List.getElem_set]
    by_cases h2 : i = k
    · rw [if_pos h2, if_pos h2.symm]
    · rw [if_neg h2, if_neg (fun h => h2 h.symm), nth_get hk]
theorem putE_ex7 {e : List Int} (h : ex7 e) {i : Nat} (hi : i < 6) {x y : Int} (hx : 0 ≤ x ∧ x ≤ 127) (hy : 0 ≤ y ∧ y ≤ 127) : ex7 (putE e i x y) := by
  refine ⟨by rw [putE_len]; exact h.1, fun k hk => ?_⟩
  rw [putE_nth (by rw [h.1]; omega) x y (by rw [h.1]; exact hk)]
  split
  · exact hy
  · split
    · exact hx
    · exact h.2 k hk
def unitI (i : Nat) : Int := 128 ^ i
theorem putE_key {e : List Int} (h : e.length = 7) {i : Nat} (hi : i < 6) (x y : Int) : key7 (putE e i x y) = key7 e - nth e i * unitI i - nth e (i + 1) * unitI (i + 1) + x * unitI i + y * unitI (i + 1) := by
  match e, h with
  | [a, b, c, d, f, g, j], _ =>
    rcases lt6 hi with rfl | rfl | rfl | rfl | rfl | rfl <;> simp [putE, key7, nth, unitI] <;> omega
/-- The exponent at a place, out of the key. -/
theorem key7_at {e : List Int} (h : ex7 e) {i : Nat} (hi : i < 7) : key7 e / unitI i % 128 = nth e i := by
  obtain ⟨a, b, c, d, f, g, j, rfl, h1, h2, h3, h4, h5, h6, h7⟩ := ex7_cases h
  rw [key7_lit]
  rcases (by omega : i = 0 ∨ i = 1 ∨ i = 2 ∨ i = 3 ∨ i = 4 ∨ i = 5 ∨ i = 6) with rfl | rfl | rfl | rfl | rfl | rfl | rfl <;> simp [nth, unitI] <;> omega
/-- Exponents added up, place by place. -/
def addE (e e' : List Int) : List Int := (List.range 7).map fun k => nth e k + nth e' k
theorem addE_nth (e e' : List Int) {k : Nat} (hk : k < 7) : nth (addE e e') k = nth e k + nth e' k := by
  rw [nth_get (by simp [addE]; exact hk)]; simp [addE]
theorem addE_len (e e' : List Int) : (addE e e').length = 7 := by simp [addE]
theorem addE_key {e e' : List Int} (h : e.length = 7) (h' : e'.length = 7) : key7 (addE e e') = key7 e + key7 e' := by
  match e, h, e', h' with
  | [a, b, c, d, f, g, j], _, [a', b', c', d', f', g', j'], _ =>
    simp [addE, List.range_succ, nth, key7]; omega

/-- The divided difference of one term: exponents, and the sign. -/
def ddE (e : List Int) (i : Nat) : List (List Int) :=
  (List.range (nth e i - nth e (i + 1)).natAbs).map fun (j : Nat) => putE e i (min (nth e i) (nth e (i + 1)) + (nth e i - nth e (i + 1)).natAbs - 1 - j) (min (nth e i) (nth e (i + 1)) + j)
def ddS (e : List Int) (i : Nat) : Int := if nth e i < nth e (i + 1) then -1 else 1
end Go.Proofs.Ytkfpacjncpifgaa
