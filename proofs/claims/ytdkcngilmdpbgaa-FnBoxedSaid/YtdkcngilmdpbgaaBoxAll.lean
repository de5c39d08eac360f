/-
  All shapes in the boxes of at most six, listed: plain facts that the kernel reckons over the list.
-/
import Derived.Test.YtdkcngilmdpbgaaStrM
import Derived.Test.YtdkcngilmdpbgaaGrass
import Derived.Test.YtdkcngilmdpbgaaDual
namespace Go.Proofs.Ytdkcngilmdpbgaa
open Go.RowKit

/-- The shapes of at most r rows, none longer than d. -/
def shapesU : Nat → Nat → List (List Int)
  | 0, _ => [[]]
  | r + 1, d => [] :: (List.range d).flatMap fun j => (shapesU r (j + 1)).map fun l => ((j : Int) + 1) :: l
/-- Is each row above 0 and no longer than the one before (the first one: than d)? -/
def prevD (d : Int) (ys : List Int) : Nat → Int
  | 0 => d
  | k + 1 => nth ys k
def shP (d : Int) (ys : List Int) : Prop := ∀ k, k < ys.length → 1 ≤ nth ys k ∧ nth ys k ≤ prevD d ys k
theorem nth_c0 (x : Int) (l : List Int) : nth (x :: l) 0 = x := rfl
theorem nth_cS (x : Int) (l : List Int) (j : Nat) : nth (x :: l) (j + 1) = nth l j := by simp [nth, List.getD]
theorem shapesU_all : ∀ (r : Nat) (d : Nat) (ys : List Int), ys.length ≤ r → shP d ys → ys ∈ shapesU r d
  | 0, d, ys, hl, _ => by
    have : ys = [] := List.eq_nil_of_length_eq_zero (by omega)
    subst this; simp [shapesU]
  | r + 1, d, [], _, _ => by simp [shapesU]
  | r + 1, d, x :: l, hl, h => by
    have h0 := h 0 (by simp)
    rw [nth_c0] at h0
    have h01 := h0.1
    have h02 : x ≤ (d : Int) := h0.2
    obtain ⟨j, hj⟩ : ∃ j : Nat, x = (j : Int) + 1 := ⟨(x - 1).toNat, by omega⟩
    have ht : shP ((j + 1 : Nat) : Int) l := fun k hk => by
      have hk' := h (k + 1) (by simp; omega)
      rw [nth_cS] at hk'
      refine ⟨hk'.1, ?_⟩
      cases k with
      | zero =>
        have e1 : prevD (d : Int) (x :: l) (0 + 1) = x := rfl
        have e2 : prevD ((j + 1 : Nat) : Int) l 0 = ((j + 1 : Nat) : Int) := rfl
        omega
      | succ k =>
        have e1 : prevD (d : Int) (x :: l) (k + 1 + 1) = nth l k := nth_cS x l k
        have e2 : prevD ((j + 1 : Nat) : Int) l (k + 1) = nth l k := rfl
        omega
    have ih := shapesU_all r (j + 1) l (by simp at hl; omega) ht
    unfold shapesU
    refine List.mem_cons_of_mem _ (List.mem_flatMap.2 ⟨j, List.mem_range.2 (by omega), List.mem_map.2 ⟨l, ih, ?_⟩⟩)
    rw [hj]
theorem box_shP {xs : List Int} {k m : Nat} (h : boxP xs (k : Int) (m : Int)) : shP ((m - k : Nat) : Int) xs := fun j hj => by
  have h1 := h.2.2.2.2.1.2 j hj
  have h2 := h.2.2.2.2.2.2
  have h3 := h.2.2.2.1
  refine ⟨h1.1, ?_⟩
  cases j with
  | zero => have e : prevD ((m - k : Nat) : Int) xs 0 = ((m - k : Nat) : Int) := rfl
            omega
  | succ j => exact h1.2
theorem shP_box {xs : List Int} {k m : Nat} (hm : 1 ≤ m) (hm7 : m ≤ 7) (hk : k ≤ m) (h : shP ((m - k : Nat) : Int) xs) (hl : xs.length ≤ k) : boxP xs (k : Int) (m : Int) := by
  refine ⟨by omega, by omega, by omega, by omega, ⟨by omega, fun j hj => ?_⟩, by omega, ?_⟩
  · have h1 := h j hj
    refine ⟨h1.1, ?_⟩
    cases j with
    | zero =>
      have e : prevD ((m - k : Nat) : Int) xs 0 = ((m - k : Nat) : Int) := rfl
      have e2 : prevS xs 0 = 16 := rfl
      omega
    | succ j => exact h1.2
  · by_cases h0 : 0 < xs.length
    · have h1 := (h 0 h0).2
      have e : prevD ((m - k : Nat) : Int) xs 0 = ((m - k : Nat) : Int) := rfl
      omega
    · rw [nth_out (by omega)]; omega
/-- What is asked of each. -/
def bxB (k m : Nat) (xs : List Int) : Bool :=
  grassB (graPerm xs k m) && decide (lenPerm (graPerm xs k m) = sumN xs xs.length) && strB (strOf xs k m) && decide (sosK (strOf xs k m) = (k : Int)) && decide (sosS (strOf xs k m) = xs) &&
    decide (conjShape (conjShape xs) = xs) && decide (sopOk (graPerm xs k m) = decide (0 < xs.length)) && (decide (xs.length = 0) || (decide (sopK (graPerm xs k m) = (k : Int)) && decide (sopS (graPerm xs k m) = xs))) &&
    decide ((graPerm xs k m).length ≤ 14) && decide ((conjShape xs).length ≤ 16)
set_option maxRecDepth 100000 in
theorem bxB_all : ((List.range 7).all fun m => (List.range (m + 1)).all fun k => decide (m < 2) || (shapesU k (m - k)).all (bxB k m)) = true := by decide +kernel
theorem boxed {xs : List Int} {k m : Nat} (h : boxP xs (k : Int) (m : Int)) (h2 : 2 ≤ m) (h6 : m ≤ 6) : bxB k m xs = true := by
  have h1 := bxB_all
  rw [List.all_eq_true] at h1
  have h3 := h1 m (List.mem_range.2 (by omega))
  rw [List.all_eq_true] at h3
  have hk := h.2.2.2.1
  have h4 := h3 k (List.mem_range.2 (by omega))
  rw [decide_eq_false (by omega : ¬ m < 2), Bool.false_or, List.all_eq_true] at h4
  exact h4 xs (shapesU_all k (m - k) xs (by have := h.2.2.2.2.2.1; omega) (box_shP h))
/-- What the law asks. -/
structure BxF (xs : List Int) (k m : Nat) : Prop where
  gra : grassB (graPerm xs k m) = true
  len : lenPerm (graPerm xs k m) = sumN xs xs.length
  str : strB (strOf xs k m) = true
  ones : sosK (strOf xs k m) = (k : Int)
  shp : sosS (strOf xs k m) = xs
  twice : conjShape (conjShape xs) = xs
  ok : sopOk (graPerm xs k m) = decide (0 < xs.length)
  rest : xs.length = 0 ∨ (sopK (graPerm xs k m) = (k : Int) ∧ sopS (graPerm xs k m) = xs)
  short : (graPerm xs k m).length ≤ 14
  cols : (conjShape xs).length ≤ 16
theorem boxed_facts {xs : List Int} {k m : Nat} (h : boxP xs (k : Int) (m : Int)) (h2 : 2 ≤ m) (h6 : m ≤ 6) : BxF xs k m := by
  have h1 := boxed h h2 h6
  simp only [bxB, Bool.and_eq_true, Bool.or_eq_true, decide_eq_true_eq] at h1
  obtain ⟨⟨⟨⟨⟨⟨⟨⟨⟨a1, a2⟩, a3⟩, a4⟩, a5⟩, a6⟩, a7⟩, a8⟩, a9⟩, a10⟩ := h1
  exact ⟨a1, a2, a3, a4, a5, a6, a7, a8, a9, a10⟩
end Go.Proofs.Ytdkcngilmdpbgaa
