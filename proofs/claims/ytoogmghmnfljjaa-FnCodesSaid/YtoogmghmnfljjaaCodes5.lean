/-
  Codes and diagrams of the permutations of at most five numbers: facts that the kernel reckons; the sum of a list. Conditions: the length is at most 5.
-/
import Derived.Test.YtoogmghmnfljjaaPerm5
import Derived.Test.YtoogmghmnfljjaaPocI
import Derived.Test.YtoogmghmnfljjaaEssI
namespace Go.Proofs.Ytoogmghmnfljjaa
open Go.RowKit

/-- One more at a place. -/
def incL (xs : List Int) (i : Nat) : List Int := xs.set i (nth xs i + 1)
/-- How many of the first k cells have each row (or column). -/
def cntR (f : Ce → Int) (cs : List Ce) (n : Nat) : Nat → List Int
  | 0 => List.replicate n 0
  | k + 1 => incL (cntR f cs n k) (f (ce cs k)).toNat
theorem cntR_len (f : Ce → Int) (cs : List Ce) (n : Nat) : ∀ k, (cntR f cs n k).length = n
  | 0 => by simp [cntR]
  | k + 1 => by show (List.set _ _ _).length = n; rw [List.length_set, cntR_len f cs n k]
theorem nth_set {xs : List Int} {i j : Nat} {x : Int} (hi : i < xs.length) : nth (xs.set i x) j = if j = i then x else nth xs j := by
  unfold nth
  rw [List.getD_eq_getElem?_getD, List.getD_eq_getElem?_getD, List.getElem?_set]
  by_cases e : i = j
  · subst e; simp [hi]
  · rw [if_neg e, if_neg (fun h => e h.symm)]
theorem cntR_bound (f : Ce → Int) (cs : List Ce) (n : Nat) : ∀ k j, 0 ≤ nth (cntR f cs n k) j ∧ nth (cntR f cs n k) j ≤ (k : Int)
  | 0, j => by
    have : nth (List.replicate n (0 : Int)) j = 0 := by
      unfold nth
      by_cases h : j < n
      · simp [List.getD, h]
      · simp [List.getD, h]
    show 0 ≤ nth (List.replicate n (0 : Int)) j ∧ nth (List.replicate n (0 : Int)) j ≤ _
    rw [this]; simp
  | k + 1, j => by
    have ih := cntR_bound f cs n k
    show 0 ≤ nth (incL _ _) j ∧ nth (incL _ _) j ≤ _
    unfold incL
    by_cases hi : (f (ce cs k)).toNat < (cntR f cs n k).length
    · rw [nth_set hi]
      have h1 := ih (f (ce cs k)).toNat
      have h2 := ih j
      split <;> omega
    · rw [List.set_eq_of_length_le (by omega)]
      have h2 := ih j
      omega
theorem codes_facts {us : List Int} (hu : isPermP us) (h5 : us.length ≤ 5) :
    pocPerm (codePerm us) = us ∧ (codePerm us).length = us.length ∧ (∀ k, k ≤ us.length → -1099511627776 ≤ sumN (codePerm us) k ∧ sumN (codePerm us) k ≤ 1099511627776) ∧ sumN (codePerm us) us.length = lenPerm us ∧ ((diaPerm us).length : Int) = lenPerm us ∧
    (∀ x ∈ diaPerm us, 0 ≤ x.1 ∧ x.1 < (us.length : Int) ∧ 0 ≤ x.2 ∧ x.2 < (us.length : Int)) ∧ cntR Prod.fst (diaPerm us) us.length (diaPerm us).length = codePerm us ∧ cntR Prod.snd (diaPerm us) us.length (diaPerm us).length = codePerm (invPerm us) ∧
    (invPerm us).length = us.length ∧ (codePerm (invPerm us)).length = us.length ∧ 0 ≤ lenPerm us ∧ lenPerm us ≤ 10 := by
  have := perm_cases (p := fun us => decide (pocPerm (codePerm us) = us) && decide ((codePerm us).length = us.length) && (List.range (us.length + 1)).all (fun k => decide (0 ≤ sumN (codePerm us) k ∧ sumN (codePerm us) k ≤ 20)) && decide (sumN (codePerm us) us.length = lenPerm us) &&
    decide (((diaPerm us).length : Int) = lenPerm us) && (diaPerm us).all (fun x => decide (0 ≤ x.1 ∧ x.1 < (us.length : Int) ∧ 0 ≤ x.2 ∧ x.2 < (us.length : Int))) && decide (cntR Prod.fst (diaPerm us) us.length (diaPerm us).length = codePerm us) &&
    decide (cntR Prod.snd (diaPerm us) us.length (diaPerm us).length = codePerm (invPerm us)) && decide ((invPerm us).length = us.length) && decide ((codePerm (invPerm us)).length = us.length) && decide (0 ≤ lenPerm us) && decide (lenPerm us ≤ 10)) (by decide +kernel) hu h5
  simp only [Bool.and_eq_true, decide_eq_true_eq, List.all_eq_true, List.mem_range] at this
  obtain ⟨⟨⟨⟨⟨⟨⟨⟨⟨⟨⟨a, b⟩, c⟩, d⟩, e⟩, f⟩, g⟩, h⟩, i⟩, j⟩, k⟩, l⟩ := this
  exact ⟨a, b, fun k hk => by have := c k (by omega); omega, d, e, f, g, h, i, j, k, l⟩
set_option maxHeartbeats 400000 in
theorem lsum_any (A : Option Addr) (n c : Nat) (xs : List Int) (w : World) (hs : SI w A n xs) (hn : n ≤ 1099511627776) (hb : ∀ k, k ≤ n → -1099511627776 ≤ sumN xs k ∧ sumN xs k ≤ 1099511627776) :
    Calls Try.prog 51 #[.slice A n c] w fun e w' => e = .returned (.int .i64 (sumN xs n)) ∧ Drawn w w' := by
  have HBd := Lib.hid hb
  clear hb
  go_enter Try.func51, Try.ntmps51
  go_wp2
  go_loopw [3, 4] (fun v i wr => ∃ k : Nat, k ≤ n ∧ i = .int .i64 k ∧ v = .int .i64 (sumN xs k) ∧ Drawn w wr)
    (fun _ i _ => n - (intOf i).toNat)
  case atStart => exact ⟨0, Nat.zero_le _, rfl, rfl, Drawn.refl _⟩
  case round =>
    obtain ⟨k, hk, rfl, rfl, hD⟩ := hrel
    have hs := hD.si hs
    have HD := Lib.hid hD
    clear hD
    by_cases hlt : k < n
    · obtain ⟨b, o, rfl, hb, hc⟩ := hs.at_ (by omega)
      have hc1 := hc k hlt
      obtain ⟨x, hx⟩ : ∃ x, x = nth xs k := ⟨_, rfl⟩
      obtain ⟨y, hy⟩ : ∃ y, y = sumN xs k := ⟨_, rfl⟩
      have h1 := HBd.out k (by omega)
      have h2 := HBd.out (k + 1) (by omega)
      have e : sumN xs (k + 1) = sumN xs k + nth xs k := rfl
      rw [← hx, ← hy] at e
      rw [e] at h2
      rw [← hy] at h1 ⊢
      rw [← hx] at hc1
      obtain ⟨h21, h22⟩ := h2
      have HE := Lib.hid e
      clear hc hs hx hy e
      go_wp2
      go_roundw
      case rel => exact ⟨k + 1, by omega, by go_num, by rw [HE.out], HD.out⟩
      case measure => simp [intOf]; omega
    · have hkn : k = n := by omega
      subst hkn
      go_wp2
      go_ret
      exact ⟨rfl, HD.out⟩

end Go.Proofs.Ytoogmghmnfljjaa
