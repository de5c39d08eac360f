/-
  The library's sort: the worlds that it passes through, in the words of slices that a call owns. Plain lemmas. No conditions.
-/
import Derived.Test.YtkfpacjncpifgaaOwn
import Derived.Test.YtkfpacjncpifgaaGrew
import Derived.Shelf.SlSortCmp.WholeK
namespace Go.Proofs.Ytkfpacjncpifgaa
open Go.RowKit

theorem ix_lt {n : Nat} (h : 0 < n) (i : Nat) : (if i < n then i else 0) < n := by split <;> omega
/-- A number as a place among the first n. -/
def ix (n i : Nat) : Nat := if i < n then i else 0
theorem ix_of {n i : Nat} (h : i < n) : ix n i = i := if_pos h
theorem ix_in {n : Nat} (h : 0 < n) (i : Nat) : ix n i < n := ix_lt h i

theorem sortWorld_block (enc : Nat → List Value) (size : Nat) (w : World) (g m : Nat) (dk : Array Nat) (os : Array Obj) {cur : Array Value} {e : TypeId} {fr : Nat × Nat} (h : w.heap[g]? = some (.cells cur e fr)) :
    (sortWorldK enc size w g 0 m dk os).heap[g]? = some (.cells (Go.Sort.putCells id 0 (Go.Sort.flatK enc size dk) cur) e fr) := by
  have hlt : g < w.heap.size := by
    rcases Nat.lt_or_ge g w.heap.size with h1 | h1
    · exact h1
    · rw [Array.getElem?_eq_none h1] at h; cases h
  unfold sortWorldK
  rw [Go.Sort.heap_grow_old _ _ (by rw [show (Go.Sort.putRowK enc size (Go.Sort.ahead w m) g 0 dk).heap.size = w.heap.size by simp [Go.Sort.putRowK, Go.Sort.ahead]]; exact hlt)]
  simp [Go.Sort.putRowK, Go.Sort.putRow, Go.Sort.mapBlock, Go.Sort.ahead, Array.getElem?_modify, h, Go.Sort.onCells]
theorem sortWorld_grown (enc : Nat → List Value) (size : Nat) (w : World) (g m : Nat) (dk : Array Nat) (os : Array Obj) : w.grownBy (sortWorldK enc size w g 0 m dk os) (some g) := by
  refine ⟨rfl, rfl, rfl, by simp [sortWorldK, Go.Sort.putRowK, Go.Sort.ahead], fun k hk hne => ?_⟩
  unfold sortWorldK
  rw [Go.Sort.heap_grow_old _ _ (by rw [show (Go.Sort.putRowK enc size (Go.Sort.ahead w m) g 0 dk).heap.size = w.heap.size by simp [Go.Sort.putRowK, Go.Sort.ahead]]; exact hk)]
  have hgk : g ≠ k := fun e => hne (by rw [e])
  simp [Go.Sort.putRowK, Go.Sort.putRow, Go.Sort.mapBlock, Go.Sort.ahead, Array.getElem?_modify, hgk]
/-- The row that the sort leaves is owned as the one that came. -/
theorem sortWorld_owns {w : World} {base size n c g : Nat} {e : TypeId} {xs : List Value} {enc : Nat → List Value} (h : w.ownsRow base e size (.slice (some ⟨g, 0, none⟩) n c) n xs) (m : Nat) (dk : Array Nat) (os : Array Obj) (hd : dk.size = n) :
    (sortWorldK enc size w g 0 m dk os).ownsRow base e size (.slice (some ⟨g, 0, none⟩) n c) n (Go.Sort.flatK enc size dk).toList := by
  obtain ⟨_, h2⟩ := h
  rcases h2 with ⟨hx, _⟩ | ⟨g', cap, cur, hv, hlo, hg, hnc, hcm, hcs, htake⟩
  · cases hx
  · simp only [Value.slice.injEq, Option.some.injEq, Addr.mk.injEq, and_true, true_and] at hv
    obtain ⟨rfl, rfl⟩ := hv
    refine ⟨by simp [hd], .inr ⟨g, c, _, rfl, hlo, sortWorld_block enc size w g m dk os hg, hnc, hcm, by simp [Go.Sort.putCells, hcs], ?_⟩⟩
    apply List.ext_getElem?
    intro j
    have hle : n * size ≤ cur.size := by rw [hcs]; exact Nat.mul_le_mul_right _ hnc
    by_cases hj : j < n * size
    · rw [List.getElem?_take_of_lt hj]
      simp only [Array.getElem?_toList, Go.Sort.putCells, Array.getElem?_mapIdx]
      rw [Array.getElem?_eq_getElem (show j < cur.size by omega), Option.map_some, if_pos ⟨Nat.zero_le _, by simp [hd]; omega⟩, Array.getElem?_eq_getElem (show j < (Go.Sort.flatK enc size dk).size by simp [hd]; omega), Nat.sub_zero, getElem!_pos (Go.Sort.flatK enc size dk) j (by simp [hd]; omega)]
      rfl
    · rw [List.getElem?_eq_none (by simp; omega), List.getElem?_eq_none (by simp [hd]; omega)]
/-- What an owned row holds, in the sort's words. -/
theorem holds_of_owns {w : World} {base size n c g : Nat} {e : TypeId} {xs : List Value} {enc : Nat → List Value} (h : w.ownsRow base e size (.slice (some ⟨g, 0, none⟩) n c) n xs) (d : Array Nat) (hx : xs = (Go.Sort.flatK enc size d).toList) : Go.Sort.HoldsK enc size w g 0 d := by
  intro j hj
  subst hx
  refine ⟨?_, h.frozenAt _⟩
  have hl := h.1
  simp at hl
  rw [Nat.zero_add, h.cellAt j (by rw [← hl]; simpa using hj)]
  simp only [Array.getElem?_toList]
  rw [Array.getElem?_eq_getElem hj, getElem!_pos (Go.Sort.flatK enc size d) j hj]
  rfl
/-- What was sorted, as lists: the places of the numbers in their new order. -/
theorem sorted_lists {n : Nat} {lt : Nat → Nat → Bool} {dk : Array Nat} (hp : Go.Sort.PermIn 0 (Array.range n).size (Array.range n) dk) (hs : Go.Sort.SortedIn lt 0 (Array.range n).size dk) :
    dk.size = n ∧ dk.toList.Perm (List.range n) ∧ dk.toList.Pairwise (fun i j => lt j i = false) := by
  obtain ⟨h1, _, h3⟩ := hp
  have hsz : dk.size = n := by simpa using h1
  refine ⟨hsz, ?_, ?_⟩
  · have e1 : dk.extract 0 (Array.range n).size = dk := by
      rw [Array.size_range, ← hsz]; simp
    have e2 : (Array.range n).extract 0 (Array.range n).size = Array.range n := by simp
    rw [e1, e2] at h3
    simpa using h3
  · rw [List.pairwise_iff_getElem]
    intro i j hi hj hij
    simp at hi hj
    have := hs i j (Nat.zero_le _) hij (by rw [Array.size_range]; omega)
    rw [getElem!_pos dk i (by omega), getElem!_pos dk j (by omega)] at this
    simpa using this
end Go.Proofs.Ytkfpacjncpifgaa
