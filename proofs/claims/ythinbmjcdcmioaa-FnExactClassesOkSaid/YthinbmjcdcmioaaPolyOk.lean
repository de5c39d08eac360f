/-
  Is a list of terms a polynomial: both sides answer polyB. Conditions: lengths below 2^40.
-/
import Derived.Test.YthinbmjcdcmioaaTermKey
namespace Go.Proofs.Ythinbmjcdcmioaa
open Go.RowKit

theorem isCoef_yes {x : Int} (h : x ≠ 0 ∧ -1000000 ≤ x ∧ x ≤ 1000000) (w : World) : Calls Try.prog 91 #[.int .i64 x] w fun r w' => r = .returned (.bool true) ∧ w' = w := by
  obtain ⟨h0, h1, h2⟩ := h
  have hb : (x != 0) = true := by simpa using h0
  go_enter Try.func91, Try.ntmps91
  go_wp2
  go_ret
  exact ⟨rfl, rfl⟩
theorem isCoef_no {x : Int} (h : ¬ (x ≠ 0 ∧ -1000000 ≤ x ∧ x ≤ 1000000)) (w : World) : Calls Try.prog 91 #[.int .i64 x] w fun r w' => r = .returned (.bool false) ∧ w' = w := by
  by_cases h0 : x = 0
  · subst h0
    clear h
    go_enter Try.func91, Try.ntmps91
    go_wp2
    go_ret
    exact ⟨rfl, rfl⟩
  · have hb : (x != 0) = true := by simpa using h0
    by_cases h1 : -1000000 ≤ x
    · have h2 : ¬ x ≤ 1000000 := fun h2 => h ⟨h0, h1, h2⟩
      clear h h0
      go_enter Try.func91, Try.ntmps91
      go_wp2
      go_ret
      exact ⟨rfl, rfl⟩
    · clear h h0
      go_enter Try.func91, Try.ntmps91
      go_wp2
      go_ret
      exact ⟨rfl, rfl⟩
end Go.Proofs.Ythinbmjcdcmioaa
