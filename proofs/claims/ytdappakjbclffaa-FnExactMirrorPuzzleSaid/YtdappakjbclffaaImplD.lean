/-
  Contracts of the program's lengths, codes and descents. Conditions: lengths below 2^40.
-/
import Derived.Test.YtdappakjbclffaaSpecC
import Derived.Test.YtdappakjbclffaaImplC
namespace Go.Proofs.Ytdappakjbclffaa
open Go.RowKit

/-- The inversions of the first k places of an array. -/
def invSum (l : List Int) : Nat → Int
  | 0 => 0
  | k + 1 => invSum l k + (codeCnt l k 7 : Int)
theorem invSum_bounds (l : List Int) (k : Nat) : 0 ≤ invSum l k ∧ invSum l k ≤ 7 * (k : Int) := by
  induction k with
  | zero => exact ⟨Int.le_refl _, by simp [invSum]⟩
  | succ k ih =>
    have e : invSum l (k + 1) = invSum l k + (codeCnt l k 7 : Int) := rfl
    have := codeCnt_le l k 7
    omega
theorem codeCnt_congr {xs ys : List Int} {i : Nat} (hi : nth xs i = nth ys i) : ∀ j, (∀ t, t < j → nth xs t = nth ys t) → codeCnt xs i j = codeCnt ys i j := by
  intro j
  induction j with
  | zero => intro _; rfl
  | succ j ih =>
    intro h
    unfold codeCnt
    rw [ih (fun t ht => h t (by omega)), hi, h j (by omega)]
theorem codeCnt_fill {xs : List Int} (h : isPermP xs) (i : Nat) (hi : i < xs.length) : codeCnt (fillA xs xs.length) i 7 = codeCnt xs i xs.length := by
  have h7 := h.2.1
  have key : ∀ d, xs.length + d ≤ 7 → codeCnt (fillA xs xs.length) i (xs.length + d) = codeCnt xs i xs.length := by
    intro d
    induction d with
    | zero => intro _; exact codeCnt_congr (fillA_lt hi (by omega)) _ (fun t ht => fillA_lt ht (by omega))
    | succ d ih =>
      intro hd
      rw [show xs.length + (d + 1) = (xs.length + d) + 1 from by omega, codeCnt_miss, ih (by omega)]
      rw [fillA_ge (by omega) (by omega), fillA_lt hi (by omega)]
      have := h.range i hi
      omega
  have := key (7 - xs.length) (by omega)
  rwa [show xs.length + (7 - xs.length) = 7 from by omega] at this
theorem codeCnt_fill_ge {xs : List Int} (i : Nat) (hi : ¬ i < xs.length) (h7 : i < 7) : codeCnt (fillA xs xs.length) i 7 = 0 := by
  have key : ∀ d, i + 1 + d ≤ 7 → codeCnt (fillA xs xs.length) i (i + 1 + d) = 0 := by
    intro d
    induction d with
    | zero => intro _; exact codeCnt_low _ _ _ (by omega)
    | succ d ih =>
      intro hd
      rw [show i + 1 + (d + 1) = (i + 1 + d) + 1 from by omega, codeCnt_miss, ih (by omega)]
      rw [fillA_ge (by omega) (by omega), fillA_ge hi (by omega)]
      omega
  have := key (6 - i) (by omega)
  rwa [show i + 1 + (6 - i) = 7 from by omega] at this
theorem invSum_fill {xs : List Int} (h : isPermP xs) : invSum (fillA xs xs.length) 7 = lenL xs := by
  have h7 := h.2.1
  have k1 : ∀ k, k ≤ xs.length → invSum (fillA xs xs.length) k = sumN (codeL xs xs.length xs.length) k := by
    intro k
    induction k with
    | zero => intro _; rfl
    | succ k ih =>
      intro hk
      show invSum _ k + (codeCnt _ k 7 : Int) = sumN _ k + nth _ k
      rw [ih (by omega), codeL_nth _ _ _ _ (by omega), if_pos (by omega), codeCnt_fill h k (by omega)]
  have k2 : ∀ d, xs.length + d ≤ 7 → invSum (fillA xs xs.length) (xs.length + d) = lenL xs := by
    intro d
    induction d with
    | zero => intro _; exact k1 _ (Nat.le_refl _)
    | succ d ih =>
      intro hd
      show invSum _ (xs.length + d) + (codeCnt _ (xs.length + d) 7 : Int) = _
      rw [ih (by omega), codeCnt_fill_ge _ (by omega) (by omega)]
      simp
  have := k2 (7 - xs.length) (by omega)
  rwa [show xs.length + (7 - xs.length) = 7 from by omega] at this

theorem isDescent_fact {x y : Int} : (decide (y < x)) = decide (x > y) := rfl
end Go.Proofs.Ytdappakjbclffaa
