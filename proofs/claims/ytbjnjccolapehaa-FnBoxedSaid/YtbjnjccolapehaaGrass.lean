/-
  Contracts of IsGrassmannian on both sides. Conditions: lengths below 2^40.
-/
import Derived.Test.YtbjnjccolapehaaImplE
namespace Go.Proofs.Ytbjnjccolapehaa
open Go.RowKit

/-- Is it a permutation with at most one descent. -/
def grassB (xs : List Int) : Bool := isPermB xs && decide ((descPerm xs).length ≤ 1)
theorem grassB_no {xs : List Int} (h : isPermB xs = false) : grassB xs = false := by unfold grassB; rw [h]; rfl
theorem grassB_yes {xs : List Int} {n : Nat} (h : isPermB xs = true) (hn : (descPerm xs).length = n) : grassB xs = decide ((n : Int) ≤ 1) := by
  unfold grassB
  rw [h, hn, Bool.true_and]
  by_cases h1 : n ≤ 1
  · rw [decide_eq_true h1, decide_eq_true (by omega)]
  · rw [decide_eq_false h1, decide_eq_false (by omega)]
set_option maxHeartbeats 400000 in
theorem implIsGra_any (A : Option Addr) (n c : Nat) (xs : List Int) (w : World) (hs : SI w A n xs) (hn : n ≤ 1099511627776) :
    Calls Try.prog 16 #[.slice A n c] w fun e w' => e = .returned (.bool (grassB xs)) ∧ Below w.heap.size w w' := by
  have hp := implIsPerm_any A n c xs w hs hn
  cases hu : isPermB xs with
  | false =>
    rw [hu] at hp
    have HE := Lib.hid (grassB_no hu)
    clear hu
    go_enter Try.func16, Try.ntmps16
    go_wp2_with fail
    refine hp.mono ?_
    rintro e w1 ⟨rfl, hb1⟩
    clear hp
    go_wp2
    go_ret
    exact ⟨ret_bool HE.out.symm, hb1⟩
  | true =>
    rw [hu] at hp
    have HU := Lib.hid hu
    clear hu
    go_enter Try.func16, Try.ntmps16
    go_wp2_with fail
    refine hp.mono ?_
    rintro e w1 ⟨rfl, hb1⟩
    clear hp
    go_wp2_with fail
    refine (implDescents_any _ _ _ xs _ (hs.below hb1 (Nat.le_refl _)) hn).mono ?_
    rintro e w3 ⟨A3, n3, c3, rfl, ho3, hb3⟩
    have HE := Lib.hid (grassB_yes HU.out ho3.len)
    have HB : Hid (Below w.heap.size w w3) := Lib.hid (hb1.trans (hb3.mono hb1.size))
    clear ho3 hb3
    by_cases h1 : (n3 : Int) ≤ 1
    · go_wp2
      go_ret
      exact ⟨ret_bool (by rw [HE.out]; simp; omega), HB.out⟩
    · go_wp2
      go_ret
      exact ⟨ret_bool (by rw [HE.out]), HB.out⟩
end Go.Proofs.Ytbjnjccolapehaa
