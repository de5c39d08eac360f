/-
  Is a list of terms a polynomial: the program's side answers polyB. Conditions: lengths below 2^40.
-/
import Derived.Test.YthinbmjcdcmioaaPolyOk
namespace Go.Proofs.Ythinbmjcdcmioaa
open Go.RowKit

theorem quiet_loadmid {P : Program} {C : World → Prop} {a : Act} {o : Oper} {K : Act → Prop} (ty : TypeId) (x : Operand) (ho : o.op = .load ty x) (b off : Nat) (hx : a.eval x = .pointer (some ⟨b, off, none⟩)) (cs : List Value) (d : TypeDesc)
    (hb : ∀ w, C w → w.rangeAt b off cs) (hu : P.underlying ty = some d) (hd : d.isRow = true) (hi : (P.info? ty).map (·.size) = some cs.length) (hk : K (a.put o.dst (.agg cs.toArray))) : o.quiet P a C K :=
  ⟨_, fun w hw => by
    unfold Oper.quietAt execOp
    simp only [ho, hx, Instr.loadAt, Instr.sureAddr, Sem.run_bind, Sem.run_pure, Result.andThen_ok, run_loadVar_mid w b off ty cs d (hb w hw) hu hd hi]
    exact ⟨rfl, rfl⟩, hk⟩

end Go.Proofs.Ythinbmjcdcmioaa
