/-
  Small triangles compared. No conditions.
-/
import Derived.Test.YtdkcngilmdpbgaaTriC
import Derived.Laws.StructEq
namespace Go.Proofs.Ytdkcngilmdpbgaa
open Go.RowKit

theorem Try.triFields : (Try.prog.fieldsOf 121).toList.map (fun f => (f.name == "_", f.type, f.offset)) = [(false, 3, 0), (false, 3, 1), (false, 3, 2)] := by kernel_rfl
theorem Try.triGuard : Try.prog.eqGuardType Try.prog.depth 121 = false := by kernel_rfl
theorem Try.triHeld : Try.prog.stoodInHeld 121 = false := by kernel_rfl
theorem Try.triUnd : Try.prog.underlying 121 = some (.struct (Try.prog.fieldsOf 121)) := by kernel_rfl
theorem run_eql_tri (w : World) (a b c a' b' c' : Int) : (Go.binOp .eql 121 (.agg #[.int .i64 a, .int .i64 b, .int .i64 c]) (.agg #[.int .i64 a', .int .i64 b', .int .i64 c'])).run Try.prog w = .ok (.bool (decide ((a, b, c) = (a', b', c')))) w := by
  rw [run_eql_struct, run_equalIn_struct w 9999 _ _ _ Try.triUnd Try.triHeld]
  have hf := Try.triFields
  generalize (Try.prog.fieldsOf 121).toList = fs at hf ⊢
  have hlen : fs.length = 3 := by have := congrArg List.length hf; simpa using this
  obtain ⟨f1, f2, f3, rfl⟩ : ∃ f1 f2 f3, fs = [f1, f2, f3] := by
    match fs, hlen with
    | [f1, f2, f3], _ => exact ⟨f1, f2, f3, rfl⟩
  simp only [List.map_cons, List.map_nil, List.cons.injEq, Prod.mk.injEq, and_true] at hf
  obtain ⟨⟨n1, t1, o1⟩, ⟨n2, t2, o2⟩, ⟨n3, t3, o3⟩⟩ := hf
  have m1 : ¬ f1.name = "_" := by simpa using n1
  have m2 : ¬ f2.name = "_" := by simpa using n2
  have m3 : ¬ f3.name = "_" := by simpa using n3
  simp [Op.eqFields, m1, m2, m3, t1, t2, t3, o1, o2, o3, part, isAgg, run_underlying Try.underlying3, run_equalIn_int]
  by_cases h1 : a = a' <;> by_cases h2 : b = b' <;> by_cases h3 : c = c' <;> simp [h1, h2, h3]
theorem run_guard_tri (w : World) (x y : Operand) (xs ys : Array Value) : (eqGuard .eql 121 x y (.agg xs) (.agg ys)).run Try.prog w = .ok () w := run_eqGuard_agg w .eql _ x y xs ys Try.triGuard
end Go.Proofs.Ytdkcngilmdpbgaa
