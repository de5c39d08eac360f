/-
  Hooks of shapes and products of them: plain lemmas; sizes and factorials, on both sides. Conditions: sizes of at most 20.
-/
import Derived.Test.YtfaegfhbbkicgaaConjI
import Derived.Test.YtfaegfhbbkicgaaSpecC
namespace Go.Proofs.Ytfaegfhbbkicgaa
open Go.RowKit

def factN : Nat → Nat
  | 0 => 1
  | n + 1 => (n + 1) * factN n
theorem factN_mono {a b : Nat} (h : a ≤ b) : factN a ≤ factN b := by
  induction b with
  | zero => obtain rfl : a = 0 := by omega
            exact Nat.le_refl _
  | succ b ih =>
    by_cases hab : a = b + 1
    · subst hab; exact Nat.le_refl _
    · have h1 := ih (by omega)
      have h2 : factN (b + 1) = (b + 1) * factN b := rfl
      rw [h2, Nat.succ_mul]
      exact Nat.le_trans h1 (Nat.le_add_left _ _)
theorem fact20 {n : Nat} (h : n ≤ 20) : factN n ≤ 2432902008176640000 := Nat.le_trans (factN_mono h) (by decide)
theorem factN_pos (n : Nat) : 0 < factN n := by
  induction n with
  | zero => decide
  | succ n ih => exact Nat.mul_pos (by omega) ih
/-- The hook of a cell. -/
def hkI (xs : List Int) (i j : Nat) : Int := nth xs i - (j : Int) + cntN xs j xs.length - (i : Int) - 1
def hkN (xs : List Int) (i j : Nat) : Nat := (hkI xs i j).toNat
def rowN (xs : List Int) (i : Nat) : Nat := (nth xs i).toNat
def rowProd (xs : List Int) (i : Nat) : Nat → Nat
  | 0 => 1
  | j + 1 => rowProd xs i j * hkN xs i j
def allProd (xs : List Int) : Nat → Nat
  | 0 => 1
  | i + 1 => allProd xs i * rowProd xs i (rowN xs i)
/-- How many cells stand ahead of a row. -/
def cellsN (xs : List Int) : Nat → Nat
  | 0 => 0
  | i + 1 => cellsN xs i + rowN xs i
theorem cellsN_sum {xs : List Int} (h : ∀ k, 0 ≤ nth xs k) : ∀ i, sumN xs i = (cellsN xs i : Int)
  | 0 => rfl
  | i + 1 => by
    have h1 : sumN xs (i + 1) = sumN xs i + nth xs i := rfl
    have h2 : cellsN xs (i + 1) = cellsN xs i + rowN xs i := rfl
    rw [h1, h2, cellsN_sum h i]
    unfold rowN
    have := h i
    omega
theorem cellsN_mono (xs : List Int) {i j : Nat} (h : i ≤ j) : cellsN xs i ≤ cellsN xs j := by
  induction j with
  | zero => obtain rfl : i = 0 := by omega
            exact Nat.le_refl _
  | succ j ih =>
    by_cases hij : i = j + 1
    · subst hij; exact Nat.le_refl _
    · exact Nat.le_trans (ih (by omega)) (Nat.le_add_right _ _)
/-- Rows that are longer than j: those up to one that is, and no more than there are cells behind it. -/
theorem cnt_low {xs : List Int} (h : isShapeP xs) {i j : Nat} (hi : i < xs.length) (hj : (j : Int) < nth xs i) : ∀ k, k ≤ i + 1 → cntN xs j k = (k : Int) := by
  have hd : ∀ d k, k + d = i → nth xs i ≤ nth xs k := by
    intro d
    induction d with
    | zero => intro k hk; obtain rfl : k = i := by omega
              exact Int.le_refl _
    | succ d ih =>
      intro k hk
      have h1 := ih (k + 1) (by omega)
      have h2 : nth xs (k + 1) ≤ nth xs k := (h.2 (k + 1) (by omega)).2
      omega
  intro k
  induction k with
  | zero => intro _; rfl
  | succ k ih =>
    intro hk
    have h1 := ih (by omega)
    have h2 := hd (i - k) k (by omega)
    show (if (j : Int) < nth xs k then cntN xs j k + 1 else cntN xs j k) = _
    rw [if_pos (by omega), h1]; omega
theorem cnt_up {xs : List Int} (h : ∀ k, 0 ≤ nth xs k) (j a : Nat) : ∀ k, a ≤ k → cntN xs j k ≤ cntN xs j a + ((cellsN xs k : Int) - cellsN xs a) ∧ cntN xs j a ≤ cntN xs j k := by
  intro k
  induction k with
  | zero => intro hk; obtain rfl : a = 0 := by omega
            omega
  | succ k ih =>
    intro hk
    by_cases hak : a = k + 1
    · subst hak; omega
    · have h1 := ih (by omega)
      have h2 : cellsN xs (k + 1) = cellsN xs k + rowN xs k := rfl
      have h3 := h k
      have h4 : cntN xs j (k + 1) = if (j : Int) < nth xs k then cntN xs j k + 1 else cntN xs j k := rfl
      unfold rowN at h2
      rw [h4, h2]
      split <;> omega
theorem hook_bnd {xs : List Int} (h : isShapeP xs) {i j : Nat} (hi : i < xs.length) (hj : (j : Int) < nth xs i) :
    1 ≤ hkI xs i j ∧ hkI xs i j ≤ (cellsN xs xs.length : Int) - cellsN xs i - j := by
  have h1 := cnt_low h hi hj (i + 1) (Nat.le_refl _)
  have h2 := cnt_up (fun k => (shape_range h k).1) j (i + 1) xs.length (by omega)
  have h3 : cellsN xs (i + 1) = cellsN xs i + rowN xs i := rfl
  unfold rowN at h3
  unfold hkI
  omega
theorem prod_bnd {xs : List Int} (h : isShapeP xs) : ∀ i, i ≤ xs.length → (∀ j, j ≤ rowN xs i → i < xs.length → 0 < allProd xs i * rowProd xs i j ∧ allProd xs i * rowProd xs i j * factN (cellsN xs xs.length - (cellsN xs i + j)) ≤ factN (cellsN xs xs.length)) ∧ (0 < allProd xs i ∧ allProd xs i * factN (cellsN xs xs.length - cellsN xs i) ≤ factN (cellsN xs xs.length)) := by
  intro i
  induction i with
  | zero =>
    intro _
    have base : 0 < allProd xs 0 ∧ allProd xs 0 * factN (cellsN xs xs.length - cellsN xs 0) ≤ factN (cellsN xs xs.length)   := ⟨Nat.one_pos, by show 1 * factN (cellsN xs xs.length - 0) ≤ _; rw [Nat.one_mul]; exact Nat.le_refl _⟩
    exact ⟨fun j hj hi => rowstep h hi base j hj, base⟩
  | succ i ih =>
    intro hi
    have h1 := (ih (by omega)).1 (rowN xs i) (Nat.le_refl _) (by omega)
    have base : 0 < allProd xs (i + 1) ∧ allProd xs (i + 1) * factN (cellsN xs xs.length - cellsN xs (i + 1)) ≤ factN (cellsN xs xs.length) := h1
    exact ⟨fun j hj hi => rowstep h hi base j hj, base⟩
where
  rowstep {xs : List Int} (h : isShapeP xs) {i : Nat} (hi : i < xs.length) (base : 0 < allProd xs i ∧ allProd xs i * factN (cellsN xs xs.length - cellsN xs i) ≤ factN (cellsN xs xs.length)) : ∀ j, j ≤ rowN xs i → 0 < allProd xs i * rowProd xs i j ∧ allProd xs i * rowProd xs i j * factN (cellsN xs xs.length - (cellsN xs i + j)) ≤ factN (cellsN xs xs.length) := by
    intro j
    induction j with
    | zero => intro _; show 0 < allProd xs i * 1 ∧ allProd xs i * 1 * _ ≤ _; rw [Nat.mul_one]; exact base
    | succ j ih =>
      intro hj
      have hjx : (j : Int) < nth xs i := by unfold rowN at hj; omega
      obtain ⟨b1, b2⟩ := hook_bnd h hi hjx
      obtain ⟨p1, p2⟩ := ih (by omega)
      have hs : cellsN xs i + rowN xs i ≤ cellsN xs xs.length := cellsN_mono xs (i := i + 1) (by omega)
      obtain ⟨r, hr⟩ : ∃ r, cellsN xs xs.length - (cellsN xs i + j) = r + 1 := ⟨cellsN xs xs.length - (cellsN xs i + j) - 1, by omega⟩
      have hr2 : cellsN xs xs.length - (cellsN xs i + (j + 1)) = r := by omega
      rw [hr] at p2
      rw [hr2]
      have hk1 : 1 ≤ hkN xs i j := by unfold hkN; omega
      have hk2 : hkN xs i j ≤ r + 1 := by unfold hkN; omega
      have e : allProd xs i * rowProd xs i (j + 1) = allProd xs i * rowProd xs i j * hkN xs i j := by show allProd xs i * (rowProd xs i j * hkN xs i j) = _; rw [Nat.mul_assoc]
      rw [e]
      refine ⟨Nat.mul_pos p1 hk1, Nat.le_trans ?_ p2⟩
      rw [Nat.mul_assoc]
      exact Nat.mul_le_mul_left _ (Nat.mul_le_mul_right _ hk2)
/-- How many standard tableaux: the factorial, divided by the hooks. -/
def stdN (xs : List Int) : Nat := factN (cellsN xs xs.length) / allProd xs xs.length
def stdOk (xs : List Int) : Bool := isShapeB xs && decide (sumN xs xs.length ≤ 20)
def stdCount (xs : List Int) : Int := if stdOk xs = true then (stdN xs : Int) else -1
set_option maxHeartbeats 400000 in
theorem l1Factorial_any (n : Nat) (w : World) (h : n ≤ 20) :
    Calls Try.prog 177 #[.int .i64 n] w fun e w' => e = .returned (.int .i64 (factN n : Nat)) ∧ w = w' := by
  go_enter Try.func177, Try.ntmps177
  go_wp2
  go_loopw [3, 4] (fun pv iv wr => ∃ k : Nat, 2 ≤ k ∧ (k ≤ n + 1 ∨ k = 2) ∧ iv = .int .i64 k ∧ pv = .int .i64 (factN (k - 1) : Nat) ∧ Drawn w wr ∧ w = wr)
    (fun _ iv _ => n + 2 - (intOf iv).toNat)
  case atStart => exact ⟨2, by omega, .inr rfl, rfl, rfl, Drawn.refl _, rfl⟩
  case round =>
    obtain ⟨k, hk2, hk, rfl, rfl, _, rfl⟩ := hrel
    by_cases hlt : k ≤ n
    · have hkI : (k : Int) ≤ (n : Int) := by omega
      obtain ⟨m, rfl⟩ : ∃ m, k = m + 1 := ⟨k - 1, by omega⟩
      have e : factN (m + 1) = (m + 1) * factN m := rfl
      have hb := fact20 (n := m + 1) (by omega)
      have hz : ((m + 1 - 1 : Nat)) = m := by omega
      rw [hz]
      obtain ⟨f, hf⟩ : ∃ f, f = factN m := ⟨_, rfl⟩
      rw [← hf] at e ⊢
      rw [e] at hb
      have HE : Hid (factN (m + 1 + 1 - 1) = (m + 1) * f) := Lib.hid (by rw [show m + 1 + 1 - 1 = m + 1 by omega]; exact e)
      have hwr : IntKind.i64.wrap ((f : Int) * ((m + 1 : Nat) : Int)) = (((m + 1) * f : Nat) : Int) := by
        rw [← Int.natCast_mul, Nat.mul_comm]; exact IntWalk.i64_in _ (by omega)
      obtain ⟨q, hq⟩ : ∃ q, q = (m + 1) * f := ⟨_, rfl⟩
      obtain ⟨k1, hk1⟩ : ∃ k1, k1 = m + 1 := ⟨_, rfl⟩
      rw [← hq] at hwr HE
      rw [← hk1] at hwr HE hkI hk hk2 ⊢
      have hk20 : k1 ≤ 20 := by omega
      clear e hb hf hq hz hk1
      go_wp2
      go_roundw
      case rel => exact ⟨k1 + 1, by omega, .inl (by omega), by go_num, by rw [HE.out], Drawn.refl _, by trivial⟩
      case measure => simp [intOf]; omega
    · have hkI : ¬ (k : Int) ≤ (n : Int) := by omega
      have HE : Hid (factN (k - 1) = factN n) := Lib.hid (by
        rcases hk with h | h
        · rw [show k - 1 = n by omega]
        · subst h
          rcases (by omega : n = 0 ∨ n = 1) with rfl | rfl <;> rfl)
      go_wp2
      go_ret
      exact ⟨by rw [HE.out]; rfl, by trivial⟩
end Go.Proofs.Ytfaegfhbbkicgaa
