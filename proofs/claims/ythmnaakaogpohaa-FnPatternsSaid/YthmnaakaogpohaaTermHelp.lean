/-
  The helpers of the exact laws at terms: copying, measuring, comparing. Conditions: lengths below 2^40.
-/
import Derived.Test.YthmnaakaogpohaaTermMem
namespace Go.Proofs.Ythmnaakaogpohaa
open Go.RowKit

theorem grown_set (w : World) (a : Addr) (u : Value) : w.grownBy (w.setCell a u) (some a.block) :=
  ⟨rfl, rfl, rfl, by simp [World.setCell], fun k _ hk => Below.heap_setCell w a u k (fun e => hk (by rw [e]))⟩
theorem results_row {P : Program} {fn : Func} {p : Tmp} {ty : TypeId} (h : fn.results = #[.cell p ty]) (tmps : Array Value) (w : World) (g : Nat) (t : TypeId) (cs : Array Value) (d : TypeDesc)
    (hp : tmps.getD p undef = .pointer (some ⟨g, 0, none⟩)) (hg : Blk w g t cs) (hu : P.underlying ty = some d) (hd : (match d with | .struct _ | .array _ _ => true | _ => false) = true) (hi : (P.info? ty).map (·.size) = some cs.size) :
    (results fn tmps).run P w = .ok (.agg cs) w :=
  results_cell_row h tmps w g t cs (0, 0) d hp hg hu hd hi

/-- The terms copied after k rounds. -/
def copT (ts : List Tm) (k : Nat) : List Tm := ts.take k ++ zeroT (ts.length - k)
theorem copT_zero (ts : List Tm) : copT ts 0 = zeroT ts.length := by simp [copT]
theorem copT_all (ts : List Tm) : copT ts ts.length = ts := by simp [copT, zeroT]
theorem copT_succ {ts : List Tm} {k : Nat} (h : k < ts.length) : (copT ts k).set k ((tm ts k).1, (tm ts k).2) = copT ts (k + 1) := by
  unfold copT zeroT
  have hl : (ts.take k).length = k := by simp; omega
  rw [List.set_append_right _ _ (by omega), hl]
  have e : ts.length - k = (ts.length - (k + 1)) + 1 := by omega
  rw [e, List.replicate_succ, Nat.sub_self, List.set_cons_zero, take_tm h, List.append_assoc]
  rfl

end Go.Proofs.Ythmnaakaogpohaa
