/-
  Contracts of the specification's codes, lengths and descents. Conditions: lengths below 2^40.
-/
import Derived.Test.YtdkcngilmdpbgaaSpecB
namespace Go.Proofs.Ytdkcngilmdpbgaa
open Go.RowKit

/-- How many of the places behind i and before j have a smaller number. -/
def codeCnt (xs : List Int) (i : Nat) : Nat → Nat
  | 0 => 0
  | j + 1 => codeCnt xs i j + if i < j ∧ nth xs j < nth xs i then 1 else 0
theorem codeCnt_le (xs : List Int) (i j : Nat) : codeCnt xs i j ≤ j := by
  induction j with
  | zero => exact Nat.le_refl _
  | succ j ih => unfold codeCnt; split <;> omega
theorem codeCnt_low (xs : List Int) (i j : Nat) (h : j ≤ i + 1) : codeCnt xs i j = 0 := by
  induction j with
  | zero => rfl
  | succ j ih => unfold codeCnt; rw [ih (by omega), if_neg (by omega)]
theorem codeCnt_hit {xs : List Int} {i j : Nat} (h : i < j) (hx : nth xs j < nth xs i) : codeCnt xs i (j + 1) = codeCnt xs i j + 1 := by
  show codeCnt xs i j + (if i < j ∧ nth xs j < nth xs i then 1 else 0) = _
  rw [if_pos ⟨h, hx⟩]
theorem codeCnt_miss {xs : List Int} {i j : Nat} (hx : ¬ nth xs j < nth xs i) : codeCnt xs i (j + 1) = codeCnt xs i j := by
  show codeCnt xs i j + (if i < j ∧ nth xs j < nth xs i then 1 else 0) = _
  rw [if_neg (fun h => hx h.2)]; rfl
/-- The code, k places filled. -/
def codeL (xs : List Int) (n k : Nat) : List Int := (List.range n).map fun i => if i < k then (codeCnt xs i n : Int) else 0
theorem codeL_len (xs : List Int) (n k : Nat) : (codeL xs n k).length = n := by simp [codeL]
theorem codeL_nth (xs : List Int) (n k i : Nat) (h : i < n) : nth (codeL xs n k) i = if i < k then (codeCnt xs i n : Int) else 0 := by
  rw [nth_get (by rw [codeL_len]; exact h)]; simp [codeL]
theorem codeL_zero (xs : List Int) (n : Nat) : codeL xs n 0 = List.replicate n 0 := by
  apply List.ext_getElem (by simp [codeL])
  intro j h1 h2; simp [codeL]
theorem codeL_set0 (xs : List Int) (n k : Nat) (_h : k < n) : (codeL xs n k).set k 0 = codeL xs n k := by
  apply List.ext_getElem (by simp)
  intro j h1 h2
  rw [List.getElem_set]
  split
  · rename_i e; subst e; simp [codeL]
  · rfl
theorem codeL_set (xs : List Int) (n k : Nat) (_h : k < n) : (codeL xs n k).set k (codeCnt xs k n : Int) = codeL xs n (k + 1) := by
  apply List.ext_getElem (by simp [codeL])
  intro j h1 h2
  rw [List.getElem_set]
  simp only [codeL, List.getElem_map, List.getElem_range]
  by_cases e : k = j
  · subst e; simp
  · rw [if_neg e]
    by_cases h3 : j < k
    · rw [if_pos h3, if_pos (by omega)]
    · rw [if_neg h3, if_neg (by omega)]

/-- The sum of the first k numbers. -/
def sumN (xs : List Int) : Nat → Int
  | 0 => 0
  | k + 1 => sumN xs k + nth xs k
set_option maxHeartbeats 400000 in
theorem l1Sum_any (A : Option Addr) (n c : Nat) (xs : List Int) (w : World) (hs : SI w A n xs) (hn : n ≤ 1099511627776) (hb : ∀ k, k ≤ n → -1099511627776 ≤ sumN xs k ∧ sumN xs k ≤ 1099511627776) :
    Calls Try.prog 82 #[.slice A n c] w fun e w' => e = .returned (.int .i64 (sumN xs n)) ∧ Drawn w w' := by
  have HBd := Lib.hid hb
  clear hb
  go_enter Try.func82, Try.ntmps82
  go_wp2
  go_loopw [3, 4] (fun v i wr => ∃ k : Nat, k ≤ n ∧ i = .int .i64 k ∧ v = .int .i64 (sumN xs k) ∧ Drawn w wr)
    (fun _ i _ => n - (intOf i).toNat)
  case atStart => exact ⟨0, Nat.zero_le _, rfl, rfl, Drawn.refl _⟩
  case round =>
    obtain ⟨k, hk, rfl, rfl, hD⟩ := hrel
    have hs := hD.si hs
    have HD := Lib.hid hD
    clear hD
    by_cases hlt : k < n
    · obtain ⟨b, o, rfl, hb, hc⟩ := hs.at_ (by omega)
      have hc1 := hc k hlt
      obtain ⟨x, hx⟩ : ∃ x, x = nth xs k := ⟨_, rfl⟩
      obtain ⟨y, hy⟩ : ∃ y, y = sumN xs k := ⟨_, rfl⟩
      have h1 := HBd.out k (by omega)
      have h2 := HBd.out (k + 1) (by omega)
      have e : sumN xs (k + 1) = sumN xs k + nth xs k := rfl
      rw [← hx, ← hy] at e
      rw [e] at h2
      rw [← hy] at h1 ⊢
      rw [← hx] at hc1
      obtain ⟨h21, h22⟩ := h2
      have HE := Lib.hid e
      clear hc hs hx hy e
      go_wp2
      go_roundw
      case rel => exact ⟨k + 1, by omega, by go_num, by rw [HE.out], HD.out⟩
      case measure => simp [intOf]; omega
    · have hkn : k = n := by omega
      subst hkn
      go_wp2
      go_ret
      exact ⟨rfl, HD.out⟩

theorem sumN_code (xs : List Int) (n : Nat) (h7 : n ≤ 7) : ∀ k, k ≤ n → 0 ≤ sumN (codeL xs n n) k ∧ sumN (codeL xs n n) k ≤ 7 * (k : Int) := by
  intro k
  induction k with
  | zero => intro _; exact ⟨Int.le_refl _, by simp [sumN]⟩
  | succ k ih =>
    intro hk
    obtain ⟨h1, h2⟩ := ih (by omega)
    have e : sumN (codeL xs n n) (k + 1) = sumN (codeL xs n n) k + nth (codeL xs n n) k := rfl
    rw [e, codeL_nth _ _ _ _ (by omega), if_pos (by omega)]
    have := codeCnt_le xs k n
    omega
/-- The length of a permutation, by its code. -/
def lenL (xs : List Int) : Int := sumN (codeL xs xs.length xs.length) xs.length
theorem lenL_bounds {xs : List Int} (h7 : xs.length ≤ 7) : 0 ≤ lenL xs ∧ lenL xs ≤ 49 := by
  have := sumN_code xs xs.length h7 xs.length (Nat.le_refl _)
  unfold lenL
  omega
/-- What LengthOf answers. -/
def lenPerm (xs : List Int) : Int := if isPermB xs = true then lenL xs else -1
theorem lenPerm_no {xs : List Int} (h : isPermB xs = false) : lenPerm xs = -1 := by unfold lenPerm; rw [if_neg (by rw [h]; decide)]
theorem lenPerm_yes {xs : List Int} (h : isPermB xs = true) : lenPerm xs = lenL xs := by unfold lenPerm; rw [if_pos h]
/-- What CodeOf answers. -/
def codePerm (xs : List Int) : List Int := if isPermB xs = true then codeL xs xs.length xs.length else []
theorem codePerm_no {xs : List Int} (h : isPermB xs = false) : codePerm xs = [] := by unfold codePerm; rw [if_neg (by rw [h]; decide)]
theorem codePerm_yes {xs : List Int} (h : isPermB xs = true) : codePerm xs = codeL xs xs.length xs.length := by unfold codePerm; rw [if_pos h]
theorem codePerm_small (xs : List Int) : (codePerm xs).length ≤ 1099511627775 := by
  unfold codePerm
  split
  · rename_i h
    rw [codeL_len]; exact isPermB_small h
  · simp
/-- The descents among the first k places. -/
def descL (xs : List Int) : Nat → List Int
  | 0 => []
  | k + 1 => if nth xs (k + 1) < nth xs k then descL xs k ++ [(k : Int)] else descL xs k
theorem descL_len (xs : List Int) (k : Nat) : (descL xs k).length ≤ k := by
  induction k with
  | zero => exact Nat.le_refl _
  | succ k ih =>
    unfold descL
    split
    · simp; omega
    · omega
theorem descL_hit {xs : List Int} {k : Nat} (h : nth xs (k + 1) < nth xs k) : descL xs (k + 1) = descL xs k ++ [(k : Int)] := by
  show (if nth xs (k + 1) < nth xs k then descL xs k ++ [(k : Int)] else descL xs k) = _
  rw [if_pos h]
theorem descL_miss {xs : List Int} {k : Nat} (h : ¬ nth xs (k + 1) < nth xs k) : descL xs (k + 1) = descL xs k := by
  show (if nth xs (k + 1) < nth xs k then descL xs k ++ [(k : Int)] else descL xs k) = _
  rw [if_neg h]
def descPerm (xs : List Int) : List Int := if isPermB xs = true then descL xs (xs.length - 1) else []
theorem descPerm_no {xs : List Int} (h : isPermB xs = false) : descPerm xs = [] := by unfold descPerm; rw [if_neg (by rw [h]; decide)]
theorem descPerm_yes {xs : List Int} (h : isPermB xs = true) : descPerm xs = descL xs (xs.length - 1) := by unfold descPerm; rw [if_pos h]
theorem descPerm_small (xs : List Int) : (descPerm xs).length ≤ 1099511627775 := by
  unfold descPerm
  split
  · rename_i h
    have := descL_len xs (xs.length - 1)
    have := isPermB_small h
    omega
  · simp
end Go.Proofs.Ytdkcngilmdpbgaa
