/-
  Contracts of the program's functions: copies of arrays, identity, longest, products, inverses. Conditions: lengths below 2^40.
-/
import Derived.Test.YtdappakjbclffaaSpecB
import Derived.Test.YtdappakjbclffaaPermImpl
import Derived.RegionTactic
import Derived.BigRegion
namespace Go.Proofs.Ytdappakjbclffaa
open Go.RowKit

set_option maxHeartbeats 400000 in
theorem clone_any (A : Option Addr) (n c : Nat) (xs : List Int) (w : World) (hs : SI w A n xs) (hA : A = none → n = 0 ∧ c = 0) (hn : n ≤ 1099511627776) :
    Calls Try.prog 105 #[.slice A n c] w fun e w' => Fresh w w' e xs := by
  have hl := hs.1
  cases A with
  | none =>
    obtain ⟨rfl, rfl⟩ := hA rfl
    have hx : xs = [] := List.eq_nil_of_length_eq_zero hl
    subst hx
    have hnil := fun wx => Lib.run_eql_slice_nil (P := Try.prog) wx 22 3 none 0 0 0 0 Try.underlying22
    go_enter Try.func105, Try.ntmps105
    go_wp2
    go_ret
    exact Fresh.nil_ret (Below.refl _ _)
  | some a =>
    have hnil := fun wx => Lib.run_eql_slice_nil (P := Try.prog) wx 22 3 (some a) n c 0 0 Try.underlying22
    have HL := Lib.hid hl
    clear hl
    go_enter Try.func105, Try.ntmps105
    go_wp2_with (at_builtin; refine wpList_append_all rfl (.tmp 5) (.tmp 6) rfl w.heap.size (some ⟨w.heap.size, 0, none⟩) 0 0 [] (some a) n c xs rfl rfl ((Own.empty w).wide (Nat.le_refl _) (by simp)) (hs.alloc _) (by simp) (by omega) hn ?_; intro A' c' w1 ho1 _ hb1)
    go_ret
    have e := HL.out
    subst e
    exact ⟨A', _, c', rfl, by simpa using ho1, (Below.alloc_self _ _).trans hb1⟩

/-- A slice of an array that lies in a block. -/
theorem SI.of_arr {w : World} {g t n : Nat} {l : List Int} (h : Blk w g t (arrC l)) (hn : n ≤ 7) (hl : l.length = 7) : SI w (some ⟨g, 0, none⟩) n (l.take n) := by
  refine ⟨by simp; omega, fun _ => ⟨g, 0, rfl, h.lt, fun k hk => ?_⟩⟩
  rw [nth_take hk, Nat.zero_add, h.cell, arrC_get l k (by omega)]

end Go.Proofs.Ytdappakjbclffaa
