/-
  Contracts of the specification's functions that build lists: identity, longest. Conditions: lengths below 2^40.
-/
import Derived.Test.YtfaegfhbbkicgaaOwn
import Derived.Test.YtfaegfhbbkicgaaPermSpec
namespace Go.Proofs.Ytfaegfhbbkicgaa
open Go.RowKit

def idL (n : Nat) : List Int := (List.range n).map fun (j : Nat) => (j : Int)
theorem idL_len (n : Nat) : (idL n).length = n := by simp [idL]
theorem idL_succ (n : Nat) : idL (n + 1) = idL n ++ [(n : Int)] := by simp [idL, List.range_succ]
/-- n-1, n-2, .., k numbers. -/
def downL (n k : Nat) : List Int := (List.range k).map fun (j : Nat) => (n : Int) - 1 - (j : Int)
theorem downL_len (n k : Nat) : (downL n k).length = k := by simp [downL]
theorem downL_succ (n k : Nat) : downL n (k + 1) = downL n k ++ [(n : Int) - 1 - (k : Int)] := by simp [downL, List.range_succ]

set_option maxHeartbeats 400000 in
theorem specIdentity_in (n : Nat) (w : World) (h1 : 1 ≤ n) (h7 : n ≤ 7) :
    Calls Try.prog 151 #[.int .i64 n] w fun e w' => Fresh w w' e (idL n) := by
  go_enter Try.func151, Try.ntmps151
  go_wp2_with (go_at_call 82; refine (l1In_yes' (by omega) (by omega) _).mono ?_; rintro e w' ⟨rfl, rfl⟩)
  go_loopw [3, 4] (fun v i wr => ∃ (k : Nat) (A : Option Addr) (c : Nat), k ≤ n ∧ i = .int .i64 k ∧ v = .slice A k c ∧ Own wr w.heap.size wr.heap.size A k c (idL k) ∧ Below w.heap.size w wr)
    (fun _ i _ => n - (intOf i).toNat)
  case atStart => exact ⟨0, _, _, Nat.zero_le _, rfl, rfl, (Own.empty w).wide (Nat.le_refl _) (by simp), Below.alloc_self _ _⟩
  case round =>
    obtain ⟨k, A, c, hk, rfl, rfl, hown, hbel⟩ := hrel
    have HO := Lib.hid hown
    have HB := Lib.hid hbel
    clear hown hbel
    by_cases hlt : k < n
    · go_wp2_with (at_builtin; refine wpList_append1 rfl (.tmp 14) (.tmp 16) rfl w.heap.size A k c (idL k) (k : Int) rfl rfl HO.out HB.out.size (by omega) ?_; intro A' c' w1 ho1 _ hb1)
      go_roundw
      case rel => exact ⟨k + 1, _, _, by omega, by go_num, rfl, by rw [idL_succ]; exact ho1, HB.out.trans hb1⟩
      case measure => simp [intOf]; omega
    · have hkn : k = n := by omega
      subst hkn
      go_wp2
      go_ret
      exact ⟨A, _, c, rfl, HO.out, HB.out⟩
theorem specIdentity_out (a : Int) (w : World) (h : a < 1 ∨ 7 < a) :
    Calls Try.prog 151 #[.int .i64 a] w fun e w' => Fresh w w' e [] := by
  go_enter Try.func151, Try.ntmps151
  go_wp2_with (go_at_call 82; refine (l1In_no' (by omega) _).mono ?_; rintro e w' ⟨rfl, rfl⟩)
  go_ret
  exact ⟨none, 0, 0, rfl, Own.nil _ _ _, Below.refl _ _⟩
/-- What IdentityPerm answers. -/
def idPerm (a : Int) : List Int := if 1 ≤ a ∧ a ≤ 7 then idL a.toNat else []
theorem idPerm_small (a : Int) : (idPerm a).length ≤ 1099511627775 := by
  unfold idPerm; split
  · rw [idL_len]; omega
  · simp
theorem specIdentity_any (a : Int) (w : World) : Calls Try.prog 151 #[.int .i64 a] w fun e w' => Fresh w w' e (idPerm a) := by
  unfold idPerm
  split
  · rename_i h
    have e : a = ((a.toNat : Nat) : Int) := by omega
    have := specIdentity_in a.toNat w (by omega) (by omega)
    rwa [← e] at this
  · exact specIdentity_out a w (by omega)

def longPerm (a : Int) : List Int := if 1 ≤ a ∧ a ≤ 7 then downL a.toNat a.toNat else []
theorem longPerm_small (a : Int) : (longPerm a).length ≤ 1099511627775 := by
  unfold longPerm; split
  · rw [downL_len]; omega
  · simp
end Go.Proofs.Ytfaegfhbbkicgaa
