/-
  Opening a slice of slices of numbers that came in. No conditions.
-/
import Derived.Test.YtfaegfhbbkicgaaLsHelp
import Derived.Test.YtfaegfhbbkicgaaFrame
import Derived.Deep.Matrix
namespace Go.Proofs.Ytfaegfhbbkicgaa
open Go.ChangeShapes Go.WideShapes Go.ChangeAt Go.RowKit

theorem LS.of_trod {H : Type} {enc : TypeId × Value → H} {W : World} {q : Nat} {a0 : Option Addr} {len0 cap0 : Nat} {d : DataW H} {p : List MemPlace}
    (h0 : DataW.Trod enc Try.prog W q (fun _ => true) true 41 (.slice a0 len0 cap0) d p) : ∃ ls, LS W a0 len0 ls ∧ len0 ≤ 9223372036854775807 ∧ (∀ k, k < len0 → (li ls k).length ≤ 9223372036854775807) := by
  obtain ⟨fuel, hf⟩ := h0
  rcases Go.Deep.open_int_rows Try.underlying41 Try.underlying22 Try.underlying3 (by kernel_rfl) (by kernel_rfl) hf with ⟨hcs, _⟩ | ⟨a, len, cap, A, L, C, Z, hcs, hb, hl, hm, _, hx⟩
  · simp [Value.cells] at hcs
    obtain ⟨rfl, rfl, rfl⟩ := hcs
    exact ⟨[], LS.nil _ _, by omega, fun k hk => absurd hk (by omega)⟩
  · simp [Value.cells] at hcs
    obtain ⟨rfl, rfl, rfl⟩ := hcs
    refine ⟨(List.range len0).map fun r => (Z r).take (L r), ⟨by simp, fun hn => ?_⟩, by unfold maxLen at hm; omega, fun k hk => ?_⟩
    · obtain ⟨b, o, s⟩ := a
      have h1 := (hx 0 (by omega)).1
      have hs : s = none := by simpa [Addr.add] using World.cell?_spot h1
      subst hs
      refine ⟨b, o, rfl, block_lt_of_cell (a := ⟨b, o, none⟩) (by simpa [Addr.add] using h1), fun k hk => ?_⟩
      obtain ⟨h1, h2, h3, h4, _, h6, h7⟩ := hx k (by omega)
      rw [add_pt] at h1
      have et : li ((List.range len0).map fun r => (Z r).take (L r)) k = (Z k).take (L k) := by simp [li, List.getD, hk]
      rw [et]
      refine ⟨A k, L k, C k, h1, ?_, h2, fun h => by have := h6 h; omega⟩
      cases hA : A k with
      | none =>
        have := h6 hA
        have hL : L k = 0 := by omega
        rw [hL, List.take_zero]
        exact SI.nil _ _
      | some x =>
        obtain ⟨_, h8⟩ := h7 x hA
        exact SI.of_cells (by omega) fun i hi => h8 i (by omega)
    · have et : li ((List.range len0).map fun r => (Z r).take (L r)) k = (Z k).take (L k) := by simp [li, List.getD, hk]
      obtain ⟨_, h2, h3, _⟩ := hx k (by omega)
      rw [et, List.length_take]
      unfold maxLen at h3
      omega
end Go.Proofs.Ytfaegfhbbkicgaa
