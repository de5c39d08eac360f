/-
  TermFrame, for values of type Class instead of terms (made by wip/gen/gen_cls.py). Conditions: lengths below 2^40.
-/
import Derived.Test.YthinbmjcdcmioaaTermFrame
import Derived.Test.YthinbmjcdcmioaaClsTermEq
import Derived.Test.YthinbmjcdcmioaaFrame
import Derived.Deep.SlicePairs
namespace Go.Proofs.Ythinbmjcdcmioaa.Cls
open Go.RowKit
open Go.ChangeShapes Go.WideShapes Go.ChangeAt Go.RowKit

theorem TS.of_trodC {H : Type} {enc : TypeId × Value → H} {W : World} {q : Nat} {f : Nat → Bool} {a0 : Option Addr} {len0 cap0 : Nat} {d : DataW H} {p : List MemPlace}
    (h0 : DataW.Trod enc Try.prog W q f true 52 (.slice a0 len0 cap0) d p) : ∃ ts, TS W a0 len0 ts ∧ len0 ≤ 9223372036854775807 ∧ (∀ k, k < len0 → (tm ts k).1.length ≤ 9223372036854775807) := by
  obtain ⟨fuel, hf⟩ := h0
  rcases Go.Deep.open_slice_pairs Try.underlying52 Try.underlying86 (by kernel_rfl) rfl rfl (by kernel_rfl) (by kernel_rfl) hf with ⟨hcs, _⟩ | ⟨a, len, cap, m, n, V0, V1, D0, D1, P0, P1, hcs, hb, hl, hm, hmm, _, hx⟩
  · simp [Value.cells] at hcs
    obtain ⟨rfl, rfl, rfl⟩ := hcs
    exact ⟨[], TS.nil _ _, by omega, fun k hk => absurd hk (by omega)⟩
  · simp [Value.cells] at hcs
    obtain ⟨rfl, rfl, rfl⟩ := hcs
    have hlm : len0 ≤ m := by rw [hmm]; split <;> omega
    have each : ∀ i, i < len0 → ∃ t : Tm, ∃ A' n' c', V0 i = .slice A' n' c' ∧ V1 i = .int .i64 t.2 ∧ SI W A' n' t.1 ∧ n' ≤ c' ∧ (A' = none → n' = 0 ∧ c' = 0) ∧ n' ≤ 9223372036854775807 := by
      intro i hi
      obtain ⟨h1, h2, h3, h4⟩ := hx i (by omega)
      obtain ⟨z, hz, _, _⟩ := DataW.trod_int Try.underlying3 h4
      rcases open_ints Try.underlying22 Try.underlying3 (by kernel_rfl) h3 with ⟨hcs, _⟩ | ⟨x, l, c, zs, hcs, _, hl, hm, hzs, _, hcell, _⟩
      · exact ⟨([], z), none, 0, 0, by simpa using hcs, by simpa using hz, SI.nil _ _, Nat.le_refl _, (fun _ => ⟨rfl, rfl⟩), by omega⟩
      · exact ⟨(zs.take l, z), some x, l, c, by simpa using hcs, by simpa using hz, SI.of_cells (by rw [hzs]; split <;> omega) hcell, hl, (fun h => by cases h), by unfold maxLen at hm; omega⟩
    obtain ⟨T, hT⟩ := Go.Deep.choose_lt each
    refine ⟨(List.range len0).map T, ⟨by simp, fun hn => ?_⟩, by unfold maxLen at hm; omega, fun k hk => ?_⟩
    · obtain ⟨b, o, s⟩ := a
      obtain ⟨h1, _⟩ := hx 0 (by omega)
      have hs : s = none := by simpa [Addr.add] using World.cell?_spot h1
      subst hs
      refine ⟨b, o, rfl, block_lt_of_cell (a := ⟨b, o, none⟩) (by simpa [Addr.add] using h1), fun k hk => ?_⟩
      obtain ⟨A', n', c', e0, e1, hsi, hnc, hnil, _⟩ := hT k hk
      obtain ⟨h1, h2, _, _⟩ := hx k (by omega)
      rw [add_pt] at h1 h2
      have et : tm ((List.range len0).map T) k = T k := by simp [tm, List.getD, hk]
      rw [et]
      exact ⟨A', n', c', by rw [h1, e0], by rw [← e1, ← h2]; rfl, hsi, hnc, hnil⟩
    · obtain ⟨A', n', c', _, _, hsi, _, _, hle⟩ := hT k hk
      have et : tm ((List.range len0).map T) k = T k := by simp [tm, List.getD, hk]
      rw [et, hsi.1]
      exact hle
end Go.Proofs.Ythinbmjcdcmioaa.Cls
