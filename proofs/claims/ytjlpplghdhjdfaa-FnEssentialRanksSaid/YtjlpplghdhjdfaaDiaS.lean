/-
  Diagrams: the specification's side. Conditions: lengths below 2^40.
-/
import Derived.Test.YtjlpplghdhjdfaaCells
import Derived.Test.YtjlpplghdhjdfaaSpecB
namespace Go.Proofs.Ytjlpplghdhjdfaa
open Go.RowKit

/-- The cells of row i in the first m columns. -/
def dRow (bk : List Int) (i : Nat) : Nat → List Ce
  | 0 => []
  | m + 1 => if (i : Int) < nth bk m then dRow bk i m ++ [((i : Int), (m : Int))] else dRow bk i m
theorem dRow_len (bk : List Int) (i : Nat) : ∀ m, (dRow bk i m).length ≤ m
  | 0 => by simp [dRow]
  | m + 1 => by
    have := dRow_len bk i m
    unfold dRow
    split <;> simp <;> omega
theorem dRow_hit {bk : List Int} {i m : Nat} (h : (i : Int) < nth bk m) : dRow bk i (m + 1) = dRow bk i m ++ [((i : Int), (m : Int))] := by
  show (if _ then _ else _) = _; rw [if_pos h]
theorem dRow_miss {bk : List Int} {i m : Nat} (h : ¬ (i : Int) < nth bk m) : dRow bk i (m + 1) = dRow bk i m := by
  show (if _ then _ else _) = _; rw [if_neg h]
theorem dRow_congr {bk bk' : List Int} {i : Nat} : ∀ m, (∀ j, j < m → nth bk j = nth bk' j) → dRow bk i m = dRow bk' i m
  | 0, _ => rfl
  | m + 1, h => by
    have e := dRow_congr (i := i) m (fun j hj => h j (by omega))
    have e2 := h m (by omega)
    show (if _ then _ else _) = (if _ then _ else _)
    rw [e, e2]
/-- The cells of the first k rows. -/
def dAll (xs bk : List Int) : Nat → List Ce
  | 0 => []
  | i + 1 => dAll xs bk i ++ dRow bk i (nth xs i).toNat
theorem dAll_len {xs bk : List Int} (h : ∀ i, i < xs.length → nth xs i < 7) : ∀ k, k ≤ xs.length → (dAll xs bk k).length ≤ 7 * k
  | 0, _ => by simp [dAll]
  | k + 1, hk => by
    have h1 := dAll_len (bk := bk) h k (by omega)
    have h2 := dRow_len bk k (nth xs k).toNat
    have h3 := h k (by omega)
    have e : dAll xs bk (k + 1) = dAll xs bk k ++ dRow bk k (nth xs k).toNat := rfl
    rw [e, List.length_append]
    omega
def diaPerm (xs : List Int) : List Ce := if isPermB xs = true then dAll xs (invM xs xs.length xs.length) xs.length else []
theorem diaPerm_no {xs : List Int} (h : isPermB xs = false) : diaPerm xs = [] := by unfold diaPerm; rw [if_neg (by rw [h]; decide)]
theorem diaPerm_yes {xs : List Int} (h : isPermB xs = true) : diaPerm xs = dAll xs (invM xs xs.length xs.length) xs.length := by unfold diaPerm; rw [if_pos h]
theorem diaPerm_small (xs : List Int) : (diaPerm xs).length ≤ 49 := by
  cases h : isPermB xs with
  | false => rw [diaPerm_no h]; simp
  | true =>
    rw [diaPerm_yes h]
    have hp := isPermB_P h
    have h7 := hp.2.1
    have := dAll_len (xs := xs) (bk := invM xs xs.length xs.length) (fun i hi => by have := (hp.range i hi).2; omega) xs.length (Nat.le_refl _)
    omega

end Go.Proofs.Ytjlpplghdhjdfaa
