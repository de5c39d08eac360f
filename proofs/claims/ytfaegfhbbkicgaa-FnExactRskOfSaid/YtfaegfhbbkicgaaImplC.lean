/-
  Contracts of the program's ComposePerms and InversePerm. Conditions: lengths below 2^40.
-/
import Derived.Test.YtfaegfhbbkicgaaImplB
namespace Go.Proofs.Ytfaegfhbbkicgaa
open Go.RowKit

/-- arrayOf, whatever the list: an array, and whether it is a permutation's. -/
theorem arrayOf_x {A : Option Addr} {n : Nat} (c : Nat) {xs : List Int} {w : World} {b : Bool} (hb : isPermB xs = b) (hs : SI w A n xs) (hn : n ≤ 1099511627776) :
    Calls Try.prog 114 #[.slice A n c] w fun e w' => ∃ l, e = .returned (.tuple #[arr l, .bool b]) ∧ (b = true → l = fillA xs n) ∧ Below w.heap.size w w' := by
  subst hb
  refine (arrayOf_any A n c xs w hs hn).mono fun e w' ⟨he, hbl⟩ => ?_
  rcases he with ⟨h, he⟩ | ⟨h, he⟩
  · exact ⟨_, by rw [h]; exact he, fun _ => rfl, hbl⟩
  · exact ⟨[0, 0, 0, 0, 0, 0, 0], by rw [h]; exact he, (fun h' => by rw [h] at h'; cases h'), hbl⟩

end Go.Proofs.Ytfaegfhbbkicgaa
