/-
  Comparing arrays of seven numbers. No conditions.
-/
import Derived.Test.YthmnaakaogpohaaPermImpl
import Derived.Laws.StructEq
namespace Go.Proofs.Ythmnaakaogpohaa
open Go.RowKit

theorem all_range_int : ∀ (xs ys : List Int), xs.length = ys.length → ((List.range xs.length).all fun i => xs.getD i 0 == ys.getD i 0) = (xs == ys)
  | [], [], _ => rfl
  | x :: xs, y :: ys, h => by
    have ih := all_range_int xs ys (by simpa using h)
    rw [List.length_cons, List.range_succ_eq_map, List.all_cons, List.all_map]
    simp only [List.getD_cons_zero, Function.comp_def, List.getD_cons_succ, ih]
    simp [List.cons_beq_cons]
  | [], _ :: _, h => by simp at h
  | _ :: _, [], h => by simp at h
theorem run_equalIn_ints {P : Program} (w : World) (d : Nat) (t e : TypeId) (n : Nat) (ht : P.underlying t = some (.array n e)) (he : P.underlying e = some (.int .i64)) (hsz : ∀ w, (sizeOf e).run P w = .ok 1 w)
    (xs ys : List Int) (hx : xs.length = n) (hy : ys.length = n) :
    (Op.equalIn (d + 2) t (.agg (xs.map (Value.int .i64)).toArray) (.agg (ys.map (Value.int .i64)).toArray)).run P w = .ok (xs == ys) w := by
  rw [← all_range_int xs ys (hx.trans hy.symm), hx, List.range_eq_range', Op.equalIn]
  simp only [Sem.run_bind, run_underlying ht, Result.andThen_ok, hsz, Std.Legacy.Range.forIn_eq_forIn_range', Std.Legacy.Range.size, Nat.sub_zero, Nat.add_sub_cancel, Nat.div_one]
  have hl : ∀ i ∈ List.range' 0 n 1, i < n := fun i hi => by simpa using (List.mem_range'_1.1 hi).2
  generalize List.range' 0 n 1 = l at hl ⊢
  induction l with
  | nil => simp
  | cons i l ih =>
    have hi : i < n := hl i (by simp)
    have px : (part e (xs.map (Value.int .i64)).toArray (i * 1)).run P w = .ok (.int .i64 (xs.getD i 0)) w := by
      simp [part, isAgg, run_underlying he, List.getD, List.getElem?_eq_getElem (show i < xs.length by omega)]
    have py : (part e (ys.map (Value.int .i64)).toArray (i * 1)).run P w = .ok (.int .i64 (ys.getD i 0)) w := by
      simp [part, isAgg, run_underlying he, List.getD, List.getElem?_eq_getElem (show i < ys.length by omega)]
    have pe : (Op.equalIn (d + 1) e (.int .i64 (xs.getD i 0)) (.int .i64 (ys.getD i 0))).run P w = .ok (xs.getD i 0 == ys.getD i 0) w := by
      rw [run_equalIn_int w d e .i64 .i64 _ _ he]
    simp only [List.forIn_cons, Sem.run_bind, px, py, pe, Result.andThen_ok, List.all_cons]
    cases hb : (xs.getD i 0 == ys.getD i 0)
    · simp
    · simp only [Bool.not_true, Bool.false_eq_true, if_false, Sem.run_pure, Result.andThen_ok, Bool.true_and]
      exact ih fun j hj => hl j (by simp [hj])
theorem arr_map {l : List Int} (hl : l.length = 7) : arr l = .agg (l.map (Value.int .i64)).toArray := by
  match l, hl with
  | [a, b, c, d, e, f, g], _ => rfl
theorem Try.sizeInt (w : World) : (sizeOf 3).run Try.prog w = .ok 1 w := by kernel_rfl
theorem run_equalIn_arr (w : World) {xs ys : List Int} (hx : xs.length = 7) (hy : ys.length = 7) : (Op.equalIn 10000 66 (arr xs) (arr ys)).run Try.prog w = .ok (decide (xs = ys)) w := by
  rw [arr_map hx, arr_map hy]
  have h := run_equalIn_ints (P := Try.prog) w 9998 66 3 7 Try.undArr Try.underlying3 Try.sizeInt xs ys hx hy
  rw [h]
  have e : (xs == ys) = decide (xs = ys) := by rw [Bool.eq_iff_iff]; simp
  rw [e]
/-- Arrays of permutations compared. -/
theorem run_eql_arr (w : World) {xs ys : List Int} (hx : xs.length = 7) (hy : ys.length = 7) : (Go.binOp .eql 66 (arr xs) (arr ys)).run Try.prog w = .ok (.bool (decide (xs = ys))) w := by
  rw [arr_map hx, arr_map hy, run_eql_struct]
  have h := run_equalIn_ints (P := Try.prog) w 9998 66 3 7 Try.undArr Try.underlying3 Try.sizeInt xs ys hx hy
  rw [h]
  have e : (xs == ys) = decide (xs = ys) := by rw [Bool.eq_iff_iff]; simp
  rw [Result.andThen_ok, e]
end Go.Proofs.Ythmnaakaogpohaa
