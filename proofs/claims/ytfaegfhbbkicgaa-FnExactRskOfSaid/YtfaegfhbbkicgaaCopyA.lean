/-
  Copying a slice of numbers into an array. Conditions: the slice is no longer than the array.
-/
import Derived.Test.YtfaegfhbbkicgaaOwn
import Derived.Laws.CopyOwn
namespace Go.Proofs.Ytfaegfhbbkicgaa
open Go.RowKit

/-- A list with zeros behind it. -/
def padN (N : Nat) (xs : List Int) : List Int := xs ++ List.replicate (N - xs.length) 0
theorem padN_len {N : Nat} {xs : List Int} (h : xs.length ≤ N) : (padN N xs).length = N := by simp [padN]; omega
theorem padN_nth (N : Nat) (xs : List Int) (k : Nat) : nth (padN N xs) k = nth xs k := by
  unfold padN nth
  rw [List.getD_eq_getElem?_getD, List.getD_eq_getElem?_getD]
  by_cases h : k < xs.length
  · rw [List.getElem?_append_left h]
  · rw [List.getElem?_append_right (by omega), List.getElem?_eq_none (l := xs) (by omega), List.getElem?_replicate]
    split <;> rfl
theorem nth_out {xs : List Int} {k : Nat} (h : xs.length ≤ k) : nth xs k = 0 := by
  unfold nth
  rw [List.getD_eq_getElem?_getD, List.getElem?_eq_none h]; rfl
theorem Try.infoIntA : (Try.prog.info? 3).map (·.size) = some 1 := by kernel_rfl
/-- 'copy(a[:], s)' where the array a holds zeros. -/
theorem wpList_copy_arr {ops : Array Oper} {rest : List Oper} {o : Oper} {a : Act} {w : World} {Q : Exit → Act → World → Prop} (hgd : o.guard = none) (d s : Operand)
    (ho : o.op = .call { callee := .builtin .copy, args := #[d, s], argTypes := #[22, 22] }) (g N : Nat) (A : Option Addr) (n c : Nat) (hd : a.eval d = .slice (some ⟨g, 0, none⟩) N N) (hs : a.eval s = .slice A n c)
    (t : TypeId) (xs : List Int) (hblk : Blk w g t ((List.replicate N (0 : Int)).map (Value.int .i64)).toArray) (hsi : SI w A n xs) (hle : n ≤ N)
    (hK : ∀ w', Blk w' g t ((padN N xs).map (Value.int .i64)).toArray → w.grownBy w' (some g) → wpList Try.prog ops Q rest (a.put o.dst (goInt n)) w') : wpList Try.prog ops Q (o :: rest) a w := by
  have hl := hsi.1
  by_cases h0 : n = 0
  · subst h0
    obtain rfl : xs = [] := List.eq_nil_of_length_eq_zero hl
    exact Go.wpList_copy_nothing hgd d s 22 22 ho 3 Try.underlying22 Try.infoIntA (some ⟨g, 0, none⟩) A N N 0 c hd hs (by simp) (hK w (by simpa [padN] using hblk) (World.grownBy.refl _ _))
  · obtain ⟨b, off, rfl, hb, hc⟩ := hsi.2 (by omega)
    have hE : (((List.replicate N (0 : Int)).map (Value.int .i64)).toArray.toList.take 0 ++ (xs.map (Value.int .i64) ++ ((List.replicate N (0 : Int)).map (Value.int .i64)).toArray.toList.drop (0 + (xs.map (Value.int .i64)).length))).toArray = ((padN N xs).map (Value.int .i64)).toArray := by
      simp [padN, List.drop_replicate]
    refine Go.wpList_copy_own hgd d s 22 22 ho 3 Try.underlying22 Try.infoIntA g 0 N N ⟨b, off, none⟩ n c hd hs _ t hblk (xs.map (Value.int .i64)) (by simp [hl]; exact (Nat.min_eq_left hle).symm) ?_ (by simp [hl]; omega) (ints_oneCell _ _) ?_
    · intro j v hj
      have hjl : j < xs.length := by
        rcases Nat.lt_or_ge j xs.length with h | h
        · exact h
        · rw [List.getElem?_eq_none (by simpa using h)] at hj; cases hj
      rw [List.getElem?_map, nth_get? hjl] at hj
      rw [add_pt, hc j (by omega)]
      exact hj
    · rw [hE]
      have hk := hK (w.setRow g ((padN N xs).map (Value.int .i64)).toArray) (hblk.row _) (grownBy_setRow w g _)
      simpa [hl] using hk
end Go.Proofs.Ytfaegfhbbkicgaa
