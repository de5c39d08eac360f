/-
  The shapes of at most r rows, none longer than d, listed. No conditions.
-/
import Derived.Test.YtfaegfhbbkicgaaWords
namespace Go.Proofs.Ytfaegfhbbkicgaa
open Go.RowKit

/-- The shapes of at most r rows, none longer than d. -/
def shapesU : Nat → Nat → List (List Int)
  | 0, _ => [[]]
  | r + 1, d => [] :: (List.range d).flatMap fun j => (shapesU r (j + 1)).map fun l => ((j : Int) + 1) :: l
/-- Is each row above 0 and no longer than the one before (the first one: than d)? -/
def prevD (d : Int) (ys : List Int) : Nat → Int
  | 0 => d
  | k + 1 => nth ys k
def shP (d : Int) (ys : List Int) : Prop := ∀ k, k < ys.length → 1 ≤ nth ys k ∧ nth ys k ≤ prevD d ys k
theorem nth_c0 (x : Int) (l : List Int) : nth (x :: l) 0 = x := rfl
theorem nth_cS (x : Int) (l : List Int) (j : Nat) : nth (x :: l) (j + 1) = nth l j := by simp [nth, List.getD]
theorem shapesU_all : ∀ (r : Nat) (d : Nat) (ys : List Int), ys.length ≤ r → shP d ys → ys ∈ shapesU r d
  | 0, d, ys, hl, _ => by
    have : ys = [] := List.eq_nil_of_length_eq_zero (by omega)
    subst this; simp [shapesU]
  | r + 1, d, [], _, _ => by simp [shapesU]
  | r + 1, d, x :: l, hl, h => by
    have h0 := h 0 (by simp)
    rw [nth_c0] at h0
    have h01 := h0.1
    have h02 : x ≤ (d : Int) := h0.2
    obtain ⟨j, hj⟩ : ∃ j : Nat, x = (j : Int) + 1 := ⟨(x - 1).toNat, by omega⟩
    have ht : shP ((j + 1 : Nat) : Int) l := fun k hk => by
      have hk' := h (k + 1) (by simp; omega)
      rw [nth_cS] at hk'
      refine ⟨hk'.1, ?_⟩
      cases k with
      | zero =>
        have e1 : prevD (d : Int) (x :: l) (0 + 1) = x := rfl
        have e2 : prevD ((j + 1 : Nat) : Int) l 0 = ((j + 1 : Nat) : Int) := rfl
        omega
      | succ k =>
        have e1 : prevD (d : Int) (x :: l) (k + 1 + 1) = nth l k := nth_cS x l k
        have e2 : prevD ((j + 1 : Nat) : Int) l (k + 1) = nth l k := rfl
        omega
    have ih := shapesU_all r (j + 1) l (by simp at hl; omega) ht
    unfold shapesU
    refine List.mem_cons_of_mem _ (List.mem_flatMap.2 ⟨j, List.mem_range.2 (by omega), List.mem_map.2 ⟨l, ih, ?_⟩⟩)
    rw [hj]
/-- Those whose first row is at most i. -/
def shapesP (r i : Nat) : List (List Int) := (List.range i).flatMap fun j => (shapesU r (j + 1)).map fun l => ((j : Int) + 1) :: l
theorem shapesU_succ (r d : Nat) : shapesU (r + 1) d = [] :: shapesP r d := rfl
theorem shapesP_succ (r i : Nat) : shapesP r (i + 1) = shapesP r i ++ (shapesU r (i + 1)).map fun l => ((i : Int) + 1) :: l := by
  unfold shapesP; rw [List.range_succ, List.flatMap_append]; simp
theorem shapesP_mono (r : Nat) {i j : Nat} (h : i ≤ j) : (shapesP r i).length ≤ (shapesP r j).length := by
  induction j with
  | zero => obtain rfl : i = 0 := by omega
            exact Nat.le_refl _
  | succ j ih =>
    by_cases e : i = j + 1
    · subst e; exact Nat.le_refl _
    · rw [shapesP_succ, List.length_append]; have := ih (by omega); omega
/-- A list in front of each. -/
def preL (bs : List Int) (L : List (List Int)) : List (List Int) := L.map fun l => bs ++ l
theorem preL_len (bs : List Int) (L : List (List Int)) : (preL bs L).length = L.length := by simp [preL]
theorem preL_nil (L : List (List Int)) : preL [] L = L := by simp [preL]
theorem preL_cons (bs : List Int) (L : List (List Int)) : preL bs ([] :: L) = bs :: preL bs L := by simp [preL]
theorem preL_app (bs : List Int) (L M : List (List Int)) : preL bs (L ++ M) = preL bs L ++ preL bs M := by simp [preL]
theorem preL_snoc (bs : List Int) (x : Int) (L : List (List Int)) : preL bs (L.map fun l => x :: l) = preL (bs ++ [x]) L := by simp [preL]
theorem shapesU_zero (d : Nat) : shapesU 0 d = [[]] := by unfold shapesU; rfl
end Go.Proofs.Ytfaegfhbbkicgaa
