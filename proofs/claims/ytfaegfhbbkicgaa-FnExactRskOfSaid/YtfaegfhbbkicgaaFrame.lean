/-
  Opening a slice of integers that came in; closed facts of this dump. No conditions.
-/
import Derived.Test.YtfaegfhbbkicgaaOwn
import Derived.ProofKit
import Derived.OpenShut
import Derived.ChangeOld
namespace Go.Proofs.Ytfaegfhbbkicgaa
open Go.ChangeShapes Go.WideShapes Go.ChangeAt Go.RowKit

theorem own : ownKnob Try.prog.godebug = none := by kernel_rfl
theorem laidOut : laidOutB Try.prog = true := by kernel_rfl

/-- What an opened slice of integers gives: it reads as its numbers. -/
theorem SI.of_cells {w : World} {a : Addr} {n : Nat} {zs : List Int} (hl : n ≤ zs.length) (hc : ∀ i, i < zs.length → w.cell? (a.add i) = some (.int .i64 (zs.getD i 0))) : SI w (some a) n (zs.take n) := by
  refine ⟨by simp; omega, fun hn => ?_⟩
  obtain ⟨b, o, s⟩ := a
  have h0 := hc 0 (by omega)
  have hs : s = none := by simpa [Addr.add] using World.cell?_spot h0
  subst hs
  refine ⟨b, o, rfl, block_lt_of_cell (a := ⟨b, o, none⟩) (by simpa [Addr.add] using h0), fun k hk => ?_⟩
  rw [nth_take hk, ← add_pt]
  exact hc k (by omega)

/-- Every number fits an int. -/
def Fits (xs : List Int) : Prop := ∀ x ∈ xs, -9223372036854775808 ≤ x ∧ x ≤ 9223372036854775807
theorem SI.of_trod {H : Type} {enc : TypeId × Value → H} {W : World} {q : Nat} {f : Nat → Bool} {a0 : Option Addr} {len0 cap0 : Nat} {d : DataW H} {p : List MemPlace}
    (h0 : DataW.Trod enc Try.prog W q f true 22 (.slice a0 len0 cap0) d p) : ∃ xs, SI W a0 len0 xs ∧ Fits xs := by
  obtain ⟨fuel, hf⟩ := h0
  rcases open_ints Try.underlying22 Try.underlying3 (by kernel_rfl) hf with ⟨hcs, _⟩ | ⟨x, l, c, zs, hcs, _, hl, hm, hz, _, hcell, hwz⟩
  · simp [Value.cells] at hcs
    obtain ⟨rfl, rfl, rfl⟩ := hcs
    exact ⟨[], SI.nil _ _, fun x hx => by cases hx⟩
  · simp [Value.cells] at hcs
    obtain ⟨rfl, rfl, rfl⟩ := hcs
    exact ⟨_, SI.of_cells (by rw [hz]; split <;> omega) hcell, fun n hn => bounds_i64 (hwz n (List.mem_of_mem_take hn))⟩
end Go.Proofs.Ytfaegfhbbkicgaa
