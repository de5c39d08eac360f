/-
  Contracts of the program's functions: copies of arrays, identity, longest, products, inverses. Conditions: lengths below 2^40.
-/
import Derived.Test.YtfaegfhbbkicgaaSpecB
import Derived.Test.YtfaegfhbbkicgaaPermImpl
import Derived.RegionTactic
import Derived.BigRegion
namespace Go.Proofs.Ytfaegfhbbkicgaa
open Go.RowKit

set_option maxHeartbeats 400000 in
theorem clone_any (A : Option Addr) (n c : Nat) (xs : List Int) (w : World) (hs : SI w A n xs) (hA : A = none → n = 0 ∧ c = 0) (hn : n ≤ 1099511627776) :
    Calls Try.prog 173 #[.slice A n c] w fun e w' => Fresh w w' e xs := by
  have hl := hs.1
  cases A with
  | none =>
    obtain ⟨rfl, rfl⟩ := hA rfl
    have hx : xs = [] := List.eq_nil_of_length_eq_zero hl
    subst hx
    have hnil := fun wx => Lib.run_eql_slice_nil (P := Try.prog) wx 22 3 none 0 0 0 0 Try.underlying22
    go_enter Try.func173, Try.ntmps173
    go_wp2
    go_ret
    exact Fresh.nil_ret (Below.refl _ _)
  | some a =>
    have hnil := fun wx => Lib.run_eql_slice_nil (P := Try.prog) wx 22 3 (some a) n c 0 0 Try.underlying22
    have HL := Lib.hid hl
    clear hl
    go_enter Try.func173, Try.ntmps173
    go_wp2_with (at_builtin; refine wpList_append_all rfl (.tmp 5) (.tmp 6) rfl w.heap.size (some ⟨w.heap.size, 0, none⟩) 0 0 [] (some a) n c xs rfl rfl ((Own.empty w).wide (Nat.le_refl _) (by simp)) (hs.alloc _) (by simp) (by omega) hn ?_; intro A' c' w1 ho1 _ hb1)
    go_ret
    have e := HL.out
    subst e
    exact ⟨A', _, c', rfl, by simpa using ho1, (Below.alloc_self _ _).trans hb1⟩

/-- A slice of an array that lies in a block. -/
theorem SI.of_arr {w : World} {g t n : Nat} {l : List Int} (h : Blk w g t (arrC l)) (hn : n ≤ 7) (hl : l.length = 7) : SI w (some ⟨g, 0, none⟩) n (l.take n) := by
  refine ⟨by simp; omega, fun _ => ⟨g, 0, rfl, h.lt, fun k hk => ?_⟩⟩
  rw [nth_take hk, Nat.zero_add, h.cell, arrC_get l k (by omega)]

theorem Try.arrLen : Try.prog.arrayLen 120 = 7 := by kernel_rfl
theorem Try.arrElem : Try.prog.elem 120 = 3 := by kernel_rfl
theorem sliceArr_to (a : Addr) (n : Nat) (hn : n ≤ 7) (w : World) : (Instr.sliceAt 120 (.pointer (some a)) none (some (.int .i64 n)) none).run Try.prog w = .ok (.slice (some a) n 7) w := by
  obtain ⟨i0, hi, hz0, hz1, hz2⟩ := info_parts Try.infoInt
  have h := run_sliceAt_array_h (P := Try.prog) w 120 a (by rw [Try.arrLen, Try.arrElem]; exact Try.undArr) .i64 (n : Int) (by omega) (by rw [Try.arrLen]; omega)
  rw [h, Try.arrLen, Try.arrElem]
  simp [sizeOf, typeInfo, hi, slicedAt, Addr.add]
theorem sliceArr_from (a : Addr) (n : Nat) (hn : n ≤ 7) (w : World) : (Instr.sliceAt 120 (.pointer (some a)) (some (.int .i64 n)) none none).run Try.prog w = .ok (.slice (some (if 7 = n then a else a.add n)) (7 - n) (7 - n)) w := by
  obtain ⟨i0, hi, hz0, hz1, hz2⟩ := info_parts Try.infoInt
  have h := run_sliceAt_array_l (P := Try.prog) w 120 a (by rw [Try.arrLen, Try.arrElem]; exact Try.undArr) .i64 (n : Int) (by omega) (by rw [Try.arrLen]; omega)
  rw [h, Try.arrLen, Try.arrElem]
  simp [sizeOf, typeInfo, hi, slicedAt, hz1]

set_option maxHeartbeats 400000 in
theorem list_any (l : List Int) (n : Nat) (w : World) (hl : l.length = 7) (hn : n ≤ 7) :
    Calls Try.prog 117 #[arr l, .int .i64 n] w fun e w' => Fresh w w' e (l.take n) := by
  have HL := Lib.hid hl
  clear hl
  have hsl := fun wx => sliceArr_to ⟨w.heap.size, 0, none⟩ n hn wx
  go_enter Try.func117, Try.ntmps117
  go_wp2_with fail
  refine (clone_any _ _ _ _ _ (SI.of_arr (Blk.new w 120 (arrC l)) hn HL.out) (by intro h; cases h) (by omega)).mono ?_
  rintro e w1 ⟨A1, n1, c1, rfl, ho1, hb1⟩
  go_wp2
  go_ret
  exact Fresh.after (Below.alloc_self _ _) ⟨A1, n1, c1, rfl, ho1, hb1⟩

set_option maxHeartbeats 400000 in
theorem implIdentity_in (n : Nat) (w : World) (h1 : 1 ≤ n) (h7 : n ≤ 7) :
    Calls Try.prog 102 #[.int .i64 n] w fun e w' => Fresh w w' e (idL n) := by
  have e7 : (idL 7).take n = idL n := by
    rw [idL, idL, ← List.map_take, List.take_range, Nat.min_eq_left h7]
  have HE := Lib.hid e7
  clear e7
  go_enter Try.func102, Try.ntmps102
  go_wp2_with fail
  refine (isPermSize_yes (by omega) (by omega) _).mono ?_
  rintro e w1 ⟨rfl, rfl⟩
  go_wp2_with fail
  refine (identityArray_any _).mono ?_
  rintro e w2 ⟨rfl, hb2⟩
  go_wp2_with fail
  refine (list_any (idL 7) n w2 rfl h7).mono ?_
  rintro e w3 ⟨A3, n3, c3, rfl, ho3, hb3⟩
  rw [HE.out] at ho3
  go_wp2
  go_ret
  exact Fresh.after hb2 ⟨A3, n3, c3, rfl, ho3, hb3⟩
theorem implIdentity_out (a : Int) (w : World) (h : a < 1 ∨ 7 < a) :
    Calls Try.prog 102 #[.int .i64 a] w fun e w' => Fresh w w' e [] := by
  go_enter Try.func102, Try.ntmps102
  go_wp2_with (go_at_call 157; refine (isPermSize_no (by omega) _).mono ?_; rintro e w' ⟨rfl, rfl⟩)
  go_ret
  exact ⟨none, 0, 0, rfl, Own.nil _ _ _, Below.refl _ _⟩
theorem implIdentity_any (a : Int) (w : World) : Calls Try.prog 102 #[.int .i64 a] w fun e w' => Fresh w w' e (idPerm a) := by
  unfold idPerm
  split
  · rename_i h
    have e : a = ((a.toNat : Nat) : Int) := by omega
    have := implIdentity_in a.toNat w (by omega) (by omega)
    rwa [← e] at this
  · exact implIdentity_out a w (by omega)
end Go.Proofs.Ytfaegfhbbkicgaa
