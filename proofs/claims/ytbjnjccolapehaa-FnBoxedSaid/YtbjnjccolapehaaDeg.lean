/-
  Whether a shape is in a box, and the degree of a box: the standard tableaux of the shape that fills it, on both sides. Conditions: lengths below 2^40.
-/
import Derived.Test.YtbjnjccolapehaaDual
import Derived.Test.YtbjnjccolapehaaStd
namespace Go.Proofs.Ytbjnjccolapehaa
open Go.RowKit

theorem implInBox_any (A : Option Addr) (n c : Nat) (xs : List Int) (k m : Int) (w : World) (hs : SI w A n xs) (hn : n ≤ 1099511627776) :
    Calls Try.prog 21 #[.slice A n c, .int .i64 k, .int .i64 m] w fun e w' => e = .returned (.bool (boxB xs k m)) ∧ Drawn w w' := by
  have HI := Lib.hid (fitsInto_any A n c xs k m w hs hn)
  generalize boxB xs k m = z at HI ⊢
  clear hs
  go_enter Try.func21, Try.ntmps21
  go_wp2_with (go_at_call 30; refine HI.out.mono ?_; rintro e w1 ⟨rfl, hd1⟩; have HD1 := Lib.hid hd1; clear hd1)
  go_ret
  exact ⟨rfl, HD1.out⟩
/-- What DegreeOfGr answers. -/
def degN (k m : Int) : Int := if boxB [] k m = true then stdCount (duaS [] k m) else -1
theorem deg_no {k m : Int} (h : boxB [] k m = false) : degN k m = -1 := by unfold degN; rw [if_neg (by rw [h]; decide)]
theorem deg_yes {k m : Int} (h : boxB [] k m = true) : degN k m = stdCount (duaS [] k m) := by unfold degN; rw [if_pos h]
theorem SI.none (w : World) : SI w none 0 [] := ⟨rfl, fun h => absurd h (by omega)⟩
theorem box_empty (k m : Int) : boxB [] k m = decide (1 ≤ m ∧ m ≤ 7 ∧ 0 ≤ k ∧ k ≤ m) := by
  cases hu : boxB [] k m with
  | true => have h := boxB_P hu; rw [decide_eq_true ⟨h.1, h.2.1, h.2.2.1, h.2.2.2.1⟩]
  | false =>
    rw [decide_eq_false]
    intro h
    have : boxP [] k m := ⟨h.1, h.2.1, h.2.2.1, h.2.2.2, ⟨by simp, fun j hj => absurd hj (by simp)⟩, by simp; omega, by
      rw [nth_out (by simp)]; omega⟩
    rw [boxB_true this] at hu; cases hu
theorem duaS_len (k m : Int) : (duaS [] k m).length ≤ 1099511627776 := Nat.le_trans (duaS_small [] k m) (by decide)
end Go.Proofs.Ytbjnjccolapehaa
