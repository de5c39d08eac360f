/-
  ShapeOfPerm on both sides. Conditions: lengths below 2^40.
-/
import Derived.Test.YtfaegfhbbkicgaaSop
import Derived.Deep.RegionHeld3
namespace Go.Proofs.Ytfaegfhbbkicgaa
open Go.RowKit

/-- The lengths of the rows, of which there are j, of a permutation whose descent is at d. -/
def sopN (xs : List Int) (d j : Nat) : List Int := (List.range j).map fun (t : Nat) => nth xs (d - t) - ((d - t : Nat) : Int)
theorem sopN_len (xs : List Int) (d j : Nat) : (sopN xs d j).length = j := by simp [sopN]
theorem sopN_succ (xs : List Int) (d j : Nat) : sopN xs d (j + 1) = sopN xs d j ++ [nth xs (d - j) - ((d - j : Nat) : Int)] := by simp [sopN, List.range_succ]
theorem sopN_nth {xs : List Int} {d j t : Nat} (h : t < j) : nth (sopN xs d j) t = nth xs (d - t) - ((d - t : Nat) : Int) := by
  rw [nth_get (by rw [sopN_len]; exact h)]; simp [sopN]
def sopOk (xs : List Int) : Bool := decide ((descPerm xs).length = 1)
def sopD (xs : List Int) : Nat := (nth (descPerm xs) 0).toNat
def sopK (xs : List Int) : Int := if sopOk xs = true then (sopD xs : Int) + 1 else 0
def sopS (xs : List Int) : List Int := if sopOk xs = true then (sopN xs (sopD xs) (sopD xs + 1)).take (bareN (sopN xs (sopD xs) (sopD xs + 1)) (sopD xs + 1)) else []
theorem sop_no {xs : List Int} (h : sopOk xs = false) : sopK xs = 0 ∧ sopS xs = [] := by unfold sopK sopS; rw [h]; exact ⟨rfl, rfl⟩
theorem sop_yes {xs : List Int} (h : sopOk xs = true) {d : Nat} (hd : sopD xs = d) : sopK xs = (d : Int) + 1 ∧ sopS xs = (sopN xs d (d + 1)).take (bareN (sopN xs d (d + 1)) (d + 1)) := by subst hd; unfold sopK sopS; rw [h]; exact ⟨rfl, rfl⟩
theorem descL_inS {xs : List Int} : ∀ {n : Nat} {x : Int}, x ∈ descL xs n → ∃ k : Nat, k < n ∧ x = k ∧ nth xs (k + 1) < nth xs k
  | 0, x, h => by simp [descL] at h
  | n + 1, x, h => by
    by_cases hc : nth xs (n + 1) < nth xs n
    · rw [descL_hit hc] at h
      rcases List.mem_append.1 h with h | h
      · obtain ⟨k, h1, h2⟩ := descL_inS h; exact ⟨k, by omega, h2⟩
      · exact ⟨n, by omega, List.mem_singleton.1 h, hc⟩
    · rw [descL_miss hc] at h
      obtain ⟨k, h1, h2⟩ := descL_inS h; exact ⟨k, by omega, h2⟩
theorem descL_all {xs : List Int} : ∀ {n k : Nat}, k < n → nth xs (k + 1) < nth xs k → (k : Int) ∈ descL xs n
  | 0, k, h, _ => absurd h (by omega)
  | n + 1, k, h, hk => by
    by_cases hkn : k = n
    · subst hkn; rw [descL_hit hk]; simp
    · have := descL_all (n := n) (by omega) hk
      by_cases hc : nth xs (n + 1) < nth xs n
      · rw [descL_hit hc]; exact List.mem_append.2 (.inl this)
      · rw [descL_miss hc]; exact this
structure SopF (xs : List Int) (d : Nat) : Prop where
  perm : isPermP xs
  desc : descPerm xs = [(d : Int)]
  lt : d + 1 < xs.length
  up : ∀ i, i < d → nth xs i < nth xs (i + 1)
theorem sop_facts {xs : List Int} (h : sopOk xs = true) : ∃ d, sopD xs = d ∧ SopF xs d := by
  unfold sopOk at h
  have h1 : (descPerm xs).length = 1 := of_decide_eq_true h
  obtain ⟨x, hx⟩ : ∃ x, descPerm xs = [x] := by
    match hd : descPerm xs, h1 with
    | [x], _ => exact ⟨x, rfl⟩
  have hb : isPermB xs = true := by
    cases hb : isPermB xs with
    | true => rfl
    | false => rw [descPerm_no hb] at hx; cases hx
  have hp := isPermB_P hb
  have hdl := hx
  rw [descPerm_yes hb] at hdl
  obtain ⟨d, h2, rfl, h4⟩ := descL_inS (xs := xs) (n := xs.length - 1) (x := x) (by rw [hdl]; simp)
  refine ⟨d, by unfold sopD; rw [hx]; simp [nth], hp, hx, by omega, fun i hi => ?_⟩
  have hne : ¬ nth xs (i + 1) < nth xs i := fun hlt => by
    have := descL_all (xs := xs) (n := xs.length - 1) (k := i) (by omega) hlt
    rw [hdl] at this
    have := List.mem_singleton.1 this
    omega
  have hd : nth xs i ≠ nth xs (i + 1) := fun e => by
    have h5 := (hp.2.2 (i + 1) (by omega)).2.2
    simp only [hasB, decide_eq_false_iff_not] at h5
    apply h5
    rw [← e, ← nth_take (show i < i + 1 by omega), nth_get (by rw [List.length_take]; omega)]
    exact List.getElem_mem _
  omega
theorem sopS_small (xs : List Int) : (sopS xs).length ≤ 1099511627775 := by
  cases hu : sopOk xs with
  | false => rw [(sop_no hu).2]; simp
  | true =>
    obtain ⟨d, hd, hf⟩ := sop_facts hu
    rw [(sop_yes hu hd).2, List.length_take, sopN_len]
    have := hf.lt; have := hf.perm.2.1
    omega
theorem SopF.ge {xs : List Int} {d : Nat} (h : SopF xs d) : ∀ i, i ≤ d → (i : Int) ≤ nth xs i
  | 0, _ => (h.perm.range 0 (by have := h.lt; omega)).1
  | i + 1, hi => by have := h.ge i (by omega); have := h.up i (by omega); omega
theorem SopF.le7 {xs : List Int} {d : Nat} (h : SopF xs d) : d ≤ 5 ∧ ∀ i, i ≤ d → 0 ≤ nth xs i ∧ nth xs i ≤ 6 := by
  have := h.lt; have := h.perm.2.1
  exact ⟨by omega, fun i hi => by have := h.perm.range i (by omega); omega⟩
theorem SopF.nonneg {xs : List Int} {d : Nat} (h : SopF xs d) (j : Nat) : 0 ≤ nth (sopN xs d (d + 1)) j := by
  by_cases hj : j < d + 1
  · rw [sopN_nth hj]; have := h.ge (d - j) (by omega); omega
  · rw [nth_out (by rw [sopN_len]; omega)]; exact Int.le_refl _
theorem SopF.down {xs : List Int} {d : Nat} (h : SopF xs d) : ∀ i j, i ≤ j → nth (sopN xs d (d + 1)) j ≤ nth (sopN xs d (d + 1)) i := by
  have step : ∀ i, nth (sopN xs d (d + 1)) (i + 1) ≤ nth (sopN xs d (d + 1)) i := fun i => by
    by_cases hi : i + 1 < d + 1
    · rw [sopN_nth hi, sopN_nth (by omega)]
      have := h.up (d - (i + 1)) (by omega)
      rw [show d - (i + 1) + 1 = d - i by omega] at this
      omega
    · rw [nth_out (by rw [sopN_len]; omega)]; exact h.nonneg i
  intro i j hij
  induction j with
  | zero => obtain rfl : i = 0 := by omega
            exact Int.le_refl _
  | succ j ih =>
    by_cases hi : i = j + 1
    · subst hi; exact Int.le_refl _
    · exact Int.le_trans (step j) (ih (by omega))
/-- What a call that answers a list, a number and a Bool hands back. -/
def FreshIB (w w' : World) (e : Ending) (ys : List Int) (k : Int) (b : Bool) : Prop :=
  ∃ A n c, e = .returned (.tuple #[.slice A n c, .int .i64 k, .bool b]) ∧ Own w' w.heap.size w'.heap.size A n c ys ∧ Below w.heap.size w w'
theorem FreshIB.nil_ret {w w' : World} (h : Below w.heap.size w w') : FreshIB w w' (.returned (.tuple #[.slice none 0 0, .int .i64 0, .bool false])) [] 0 false := ⟨none, 0, 0, rfl, Own.nil _ _ _, h⟩
/-- The rows when i numbers are taken. -/
def rowP (xs : List Int) (d i : Nat) : List Int := (List.range 16).map fun (t : Nat) => if d < t + i ∧ t ≤ d then nth xs (d - t) - ((d - t : Nat) : Int) else 0
theorem rowP_len (xs : List Int) (d i : Nat) : (rowP xs d i).length = 16 := by simp [rowP]
theorem rowP_nth {xs : List Int} {d i t : Nat} (h : t < 16) : nth (rowP xs d i) t = if d < t + i ∧ t ≤ d then nth xs (d - t) - ((d - t : Nat) : Int) else 0 := by
  rw [nth_get (by rw [rowP_len]; exact h)]; simp [rowP]
theorem rowP_step {xs : List Int} {d i : Nat} (hd : d ≤ 15) (hi : i ≤ d) : (rowP xs d i).set (d - i) (nth xs i - (i : Int)) = rowP xs d (i + 1) := by
  refine list_ext_nth (by simp [rowP_len]) fun k hk => ?_
  have hk' : k < 16 := by simpa [rowP_len] using hk
  rw [nth_set _ (by rw [rowP_len]; omega), rowP_nth hk', rowP_nth hk']
  by_cases h : k = d - i
  · rw [if_pos h, if_pos (by omega), h, show d - (d - i) = i by omega]
  · rw [if_neg h]
    by_cases h2 : d < k + i ∧ k ≤ d
    · rw [if_pos h2, if_pos (by omega)]
    · rw [if_neg h2, if_neg (by omega)]
theorem rowP_zero (xs : List Int) (d : Nat) : arrD (rowP xs d 0) = zero16 := by
  have h : ∀ k, k < 16 → nth (rowP xs d 0) k = 0 := fun k hk => by rw [rowP_nth hk, if_neg (by omega)]
  simp only [arrD, h 0 (by omega), h 1 (by omega), h 2 (by omega), h 3 (by omega), h 4 (by omega), h 5 (by omega), h 6 (by omega), h 7 (by omega), h 8 (by omega), h 9 (by omega), h 10 (by omega), h 11 (by omega), h 12 (by omega), h 13 (by omega), h 14 (by omega), h 15 (by omega)]
theorem rowP_all {xs : List Int} {d : Nat} (hd : d ≤ 15) (k : Nat) : nth (rowP xs d (d + 1)) k = nth (sopN xs d (d + 1)) k := by
  by_cases hk : k < d + 1
  · rw [rowP_nth (by omega), sopN_nth hk, if_pos (by omega)]
  · rw [nth_out (xs := sopN xs d (d + 1)) (by rw [sopN_len]; omega)]
    by_cases h16 : k < 16
    · rw [rowP_nth h16, if_neg (by omega)]
    · rw [nth_out (by rw [rowP_len]; omega)]
theorem load_rows {w : World} {g : Nat} {l : List Int} (h : Blk w g 82 (arrD l)) : (loadVar 82 ⟨g, 0, none⟩).run Try.prog w = .ok (arr16 l) w :=
  run_loadVar_row w g 82 82 (arrD l) (0, 0) _ h Try.undRows rfl (by rw [Try.infoRows]; rfl)
end Go.Proofs.Ytfaegfhbbkicgaa
