/-
  Opening a slice of bytes that came in. No conditions.
-/
import Derived.Test.YtbjnjccolapehaaDraw
import Derived.Test.YtbjnjccolapehaaFrame
namespace Go.Proofs.Ytbjnjccolapehaa
open Go.ChangeShapes Go.WideShapes Go.ChangeAt Go.RowKit

theorem SB.of_trod {H : Type} {enc : TypeId × Value → H} {W : World} {q : Nat} {f : Nat → Bool} {a0 : Option Addr} {len0 cap0 : Nat} {d : DataW H} {p : List MemPlace}
    (h0 : DataW.Trod enc Try.prog W q f true 29 (.slice a0 len0 cap0) d p) : ∃ bs, SB W W.heap.size a0 len0 bs := by
  obtain ⟨fuel, hf⟩ := h0
  rcases open_ints Try.underlying29 Try.underlying5 (by kernel_rfl) hf with ⟨hcs, _⟩ | ⟨x, l, c, zs, hcs, _, hl, hm, hz, _, hcell, hwz⟩
  · simp [Value.cells] at hcs
    obtain ⟨rfl, rfl, rfl⟩ := hcs
    exact ⟨[], rfl, fun k hk => absurd hk (by omega), fun h => absurd h (by omega)⟩
  · simp [Value.cells] at hcs
    obtain ⟨rfl, rfl, rfl⟩ := hcs
    have hlz : len0 ≤ zs.length := by rw [hz]; split <;> omega
    refine ⟨zs.take len0, by simp; omega, fun k hk => ?_, fun hn => ?_⟩
    · rw [nth_take hk, nth_get (by omega)]
      exact bounds_u8 (hwz _ (List.getElem_mem _))
    · obtain ⟨b, o, s⟩ := x
      have h0 := hcell 0 (by omega)
      have hs : s = none := by simpa [Addr.add] using World.cell?_spot h0
      subst hs
      refine ⟨b, o, rfl, block_lt_of_cell (a := ⟨b, o, none⟩) (by simpa [Addr.add] using h0), fun k hk => ?_⟩
      rw [nth_take hk, ← add_pt]
      exact hcell k (by omega)
end Go.Proofs.Ytbjnjccolapehaa
