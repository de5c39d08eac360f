/-
  No cell of these rows narrows 'for every input' (looked for: loops, veiled, ifaces, maps, wideKeys, modest, calm, conditions, laid).
  DERIVED. THE GIVEN ROWS OF THIS SEAT. 6 by the template 'for every input the law returns true; each argument reads behind the call as it read before'; 0 by the template 'total and deterministic' (their statements: YtdiiaallklkomaaTotals.lean).
  GIVEN WITH THE SEED: the statements are not yours to turn. If you find one false, say at which input.
  Laid BY PROGRAM, IN A SANDBOX (cutbox-rows.mjs): the forced cells as the released guide's own fill.sh prints them over the translation c568cfa68e67bad9… (all of the seat's roots in one cut). By AI agents, Wed Nov 11 2026. No macro, syntax, notation, axiom, sorry.
-/
import Derived.Test.YtdiiaallklkomaaChecked
import GoSem.Claim
import GoSem.ClaimJoined
import GoSem.ClaimMapViews
import Derived.JoinedTies
import Derived.KernelRfl
namespace Go.Proofs.Ytdiiaallklkomaa
/- THE CELL 'sum', in the pinned program and in every row, IS THE sha256 OF THE DUMP (.gsa) THAT YtdiiaallklkomaaProg.lean LOADS. Nothing in Lean hashes anything: it is a label: what it is worth is what the hold of that sum in a sandbox is worth. -/
noncomputable def Try.pinned : Pinned := { name := "ytdiiaallklkomaa", sum := "c568cfa68e67bad965b7086b327d0ae3f1a2d95ee8008bb02af1ccebb5c7ff38", checked := Try.checked }
namespace Rows
def none {H : Type} : Left H := { results := [], args := [] }

/-- 'laws.FnExactWrapShape': WHATEVER THE INPUT: true; the input reads as it did. -/
def fnExactWrapShapeSpec : ChangeSpec := { name := "fnExactWrapShape", fn := fun _ => fun
  | [d1, d2, d3] => { results := [.lit (.bool true)], args := [d1, d2, d3] }
  | _ => none }
def fnExactWrapShapeRow : OpenClaim := { program := "ytdiiaallklkomaa", sum := "c568cfa68e67bad965b7086b327d0ae3f1a2d95ee8008bb02af1ccebb5c7ff38", func := "loop.example/g03113/laws.FnExactWrapShape", spec := "fnExactWrapShape", plainKeys := false, apart := false }
def FnExactWrapShapeSaid : Prop := fnExactWrapShapeRow.holds Try.pinned (OpenSpec.ofChange fnExactWrapShapeSpec)

/-- ITS FALSE NEIGHBOUR: 'it returns false'. Refute it at one input. -/
def fnExactWrapShapeWrong : ChangeSpec := { name := "fnExactWrapShape", fn := fun _ => fun
  | [d1, d2, d3] => { results := [.lit (.bool false)], args := [d1, d2, d3] }
  | _ => none }
def FnExactWrapShapeWrongFalsely : Prop := fnExactWrapShapeRow.holds Try.pinned (OpenSpec.ofChange fnExactWrapShapeWrong)

/-- 'laws.FnExactDreamWord': WHATEVER THE INPUT: true; the input reads as it did. -/
def fnExactDreamWordSpec : ChangeSpec := { name := "fnExactDreamWord", fn := fun _ => fun
  | [d1, d2] => { results := [.lit (.bool true)], args := [d1, d2] }
  | _ => none }
def fnExactDreamWordRow : OpenClaim := { program := "ytdiiaallklkomaa", sum := "c568cfa68e67bad965b7086b327d0ae3f1a2d95ee8008bb02af1ccebb5c7ff38", func := "loop.example/g03113/laws.FnExactDreamWord", spec := "fnExactDreamWord", unfollowed := true, recurses := true, plainKeys := false, apart := false }
def FnExactDreamWordSaid : Prop := fnExactDreamWordRow.holds Try.pinned (OpenSpec.ofChange fnExactDreamWordSpec)

/-- ITS FALSE NEIGHBOUR: 'it returns false'. Refute it at one input. -/
def fnExactDreamWordWrong : ChangeSpec := { name := "fnExactDreamWord", fn := fun _ => fun
  | [d1, d2] => { results := [.lit (.bool false)], args := [d1, d2] }
  | _ => none }
def FnExactDreamWordWrongFalsely : Prop := fnExactDreamWordRow.holds Try.pinned (OpenSpec.ofChange fnExactDreamWordWrong)

/-- 'laws.FnExactDreamPerm': WHATEVER THE INPUT: true; the input reads as it did. -/
def fnExactDreamPermSpec : ChangeSpec := { name := "fnExactDreamPerm", fn := fun _ => fun
  | [d1, d2] => { results := [.lit (.bool true)], args := [d1, d2] }
  | _ => none }
def fnExactDreamPermRow : OpenClaim := { program := "ytdiiaallklkomaa", sum := "c568cfa68e67bad965b7086b327d0ae3f1a2d95ee8008bb02af1ccebb5c7ff38", func := "loop.example/g03113/laws.FnExactDreamPerm", spec := "fnExactDreamPerm", unfollowed := true, recurses := true, plainKeys := false, apart := false }
def FnExactDreamPermSaid : Prop := fnExactDreamPermRow.holds Try.pinned (OpenSpec.ofChange fnExactDreamPermSpec)

/-- ITS FALSE NEIGHBOUR: 'it returns false'. Refute it at one input. -/
def fnExactDreamPermWrong : ChangeSpec := { name := "fnExactDreamPerm", fn := fun _ => fun
  | [d1, d2] => { results := [.lit (.bool false)], args := [d1, d2] }
  | _ => none }
def FnExactDreamPermWrongFalsely : Prop := fnExactDreamPermRow.holds Try.pinned (OpenSpec.ofChange fnExactDreamPermWrong)

/-- 'laws.FnExactLadderMoves': WHATEVER THE INPUT: true; the input reads as it did. -/
def fnExactLadderMovesSpec : ChangeSpec := { name := "fnExactLadderMoves", fn := fun _ => fun
  | [d1, d2] => { results := [.lit (.bool true)], args := [d1, d2] }
  | _ => none }
def fnExactLadderMovesRow : OpenClaim := { program := "ytdiiaallklkomaa", sum := "c568cfa68e67bad965b7086b327d0ae3f1a2d95ee8008bb02af1ccebb5c7ff38", func := "loop.example/g03113/laws.FnExactLadderMoves", spec := "fnExactLadderMoves", unfollowed := true, recurses := true, plainKeys := false, apart := false }
def FnExactLadderMovesSaid : Prop := fnExactLadderMovesRow.holds Try.pinned (OpenSpec.ofChange fnExactLadderMovesSpec)

/-- ITS FALSE NEIGHBOUR: 'it returns false'. Refute it at one input. -/
def fnExactLadderMovesWrong : ChangeSpec := { name := "fnExactLadderMoves", fn := fun _ => fun
  | [d1, d2] => { results := [.lit (.bool false)], args := [d1, d2] }
  | _ => none }
def FnExactLadderMovesWrongFalsely : Prop := fnExactLadderMovesRow.holds Try.pinned (OpenSpec.ofChange fnExactLadderMovesWrong)

/-- 'laws.FnExactCountReduced': WHATEVER THE INPUT: true; the input reads as it did. -/
def fnExactCountReducedSpec : ChangeSpec := { name := "fnExactCountReduced", fn := fun _ => fun
  | [d] => { results := [.lit (.bool true)], args := [d] }
  | _ => none }
def fnExactCountReducedRow : OpenClaim := { program := "ytdiiaallklkomaa", sum := "c568cfa68e67bad965b7086b327d0ae3f1a2d95ee8008bb02af1ccebb5c7ff38", func := "loop.example/g03113/laws.FnExactCountReduced", spec := "fnExactCountReduced", recurses := true, plainKeys := false, apart := false }
def FnExactCountReducedSaid : Prop := fnExactCountReducedRow.holds Try.pinned (OpenSpec.ofChange fnExactCountReducedSpec)

/-- ITS FALSE NEIGHBOUR: 'it returns false'. Refute it at one input. -/
def fnExactCountReducedWrong : ChangeSpec := { name := "fnExactCountReduced", fn := fun _ => fun
  | [d] => { results := [.lit (.bool false)], args := [d] }
  | _ => none }
def FnExactCountReducedWrongFalsely : Prop := fnExactCountReducedRow.holds Try.pinned (OpenSpec.ofChange fnExactCountReducedWrong)

/-- 'laws.FnExactReducedWords': WHATEVER THE INPUT: true; the input reads as it did. -/
def fnExactReducedWordsSpec : ChangeSpec := { name := "fnExactReducedWords", fn := fun _ => fun
  | [d] => { results := [.lit (.bool true)], args := [d] }
  | _ => none }
def fnExactReducedWordsRow : OpenClaim := { program := "ytdiiaallklkomaa", sum := "c568cfa68e67bad965b7086b327d0ae3f1a2d95ee8008bb02af1ccebb5c7ff38", func := "loop.example/g03113/laws.FnExactReducedWords", spec := "fnExactReducedWords", recurses := true, plainKeys := false, apart := false }
def FnExactReducedWordsSaid : Prop := fnExactReducedWordsRow.holds Try.pinned (OpenSpec.ofChange fnExactReducedWordsSpec)

/-- ITS FALSE NEIGHBOUR: 'it returns false'. Refute it at one input. -/
def fnExactReducedWordsWrong : ChangeSpec := { name := "fnExactReducedWords", fn := fun _ => fun
  | [d] => { results := [.lit (.bool false)], args := [d] }
  | _ => none }
def FnExactReducedWordsWrongFalsely : Prop := fnExactReducedWordsRow.holds Try.pinned (OpenSpec.ofChange fnExactReducedWordsWrong)

/- THE SECOND FORM. 'bulk': how many values and letters a reading holds, each counted each time it is reached (what is shared counts as often as it is met; a slice's spare places count too). A statement '..UptoSaid' is the law's where the arguments, and the package variables that the reading takes, are together of bulk at most 1048576: NARROWER than '..Said'. Prove '..Said' where nothing that the law and all that it calls make is longer than what came in: it says more and counts as full. Else prove '..UptoSaid'. A law counts once. -/
mutual
def uptoBulk {H : Type} : DataW H → Nat
  | .lit (.string bytes) => bytes.length + 1
  | .lit _ => 1
  | .nil => 1
  | .ptr d => uptoBulk d + 1
  | .slice elems spare => uptoBulkAll elems + uptoBulkAll spare + 1
  | .agg parts => uptoBulkAll parts + 1
  | .iface _ d => uptoBulk d + 1
  | .map entries => uptoBulkEntries entries + 1
  | .held _ => 1
def uptoBulkAll {H : Type} : List (DataW H) → Nat
  | [] => 0
  | d :: r => uptoBulk d + uptoBulkAll r
def uptoBulkEntries {H : Type} : List (Lit × DataW H) → Nat
  | [] => 0
  | x :: r => uptoBulkEntry x + uptoBulkEntries r
def uptoBulkEntry {H : Type} : Lit × DataW H → Nat
  | (.string bytes, d) => bytes.length + uptoBulk d + 1
  | (_, d) => uptoBulk d + 1
 end
def uptoSmall : (H : Type) → List (DataW H) → Bool := fun _ ds => decide (uptoBulkAll ds ≤ 1048576)
def OpenSpec.upto (s : _root_.Go.ChangeSpec) : _root_.Go.OpenSpec := { _root_.Go.OpenSpec.ofChange s with cond := some uptoSmall }

/-- 'laws.FnExactWrapShape', WHERE WHAT IT READS IS OF BULK AT MOST 1048576: true; the input reads as it did. -/
def fnExactWrapShapeUptoRow : OpenClaim := { program := "ytdiiaallklkomaa", sum := "c568cfa68e67bad965b7086b327d0ae3f1a2d95ee8008bb02af1ccebb5c7ff38", func := "loop.example/g03113/laws.FnExactWrapShape", spec := "fnExactWrapShape", plainKeys := false, apart := false, narrowed := true }
def FnExactWrapShapeUptoSaid : Prop := fnExactWrapShapeUptoRow.holds Try.pinned (OpenSpec.upto fnExactWrapShapeSpec)

/-- 'laws.FnExactDreamWord', WHERE WHAT IT READS IS OF BULK AT MOST 1048576: true; the input reads as it did. -/
def fnExactDreamWordUptoRow : OpenClaim := { program := "ytdiiaallklkomaa", sum := "c568cfa68e67bad965b7086b327d0ae3f1a2d95ee8008bb02af1ccebb5c7ff38", func := "loop.example/g03113/laws.FnExactDreamWord", spec := "fnExactDreamWord", unfollowed := true, recurses := true, plainKeys := false, apart := false, narrowed := true }
def FnExactDreamWordUptoSaid : Prop := fnExactDreamWordUptoRow.holds Try.pinned (OpenSpec.upto fnExactDreamWordSpec)

/-- 'laws.FnExactDreamPerm', WHERE WHAT IT READS IS OF BULK AT MOST 1048576: true; the input reads as it did. -/
def fnExactDreamPermUptoRow : OpenClaim := { program := "ytdiiaallklkomaa", sum := "c568cfa68e67bad965b7086b327d0ae3f1a2d95ee8008bb02af1ccebb5c7ff38", func := "loop.example/g03113/laws.FnExactDreamPerm", spec := "fnExactDreamPerm", unfollowed := true, recurses := true, plainKeys := false, apart := false, narrowed := true }
def FnExactDreamPermUptoSaid : Prop := fnExactDreamPermUptoRow.holds Try.pinned (OpenSpec.upto fnExactDreamPermSpec)

/-- 'laws.FnExactLadderMoves', WHERE WHAT IT READS IS OF BULK AT MOST 1048576: true; the input reads as it did. -/
def fnExactLadderMovesUptoRow : OpenClaim := { program := "ytdiiaallklkomaa", sum := "c568cfa68e67bad965b7086b327d0ae3f1a2d95ee8008bb02af1ccebb5c7ff38", func := "loop.example/g03113/laws.FnExactLadderMoves", spec := "fnExactLadderMoves", unfollowed := true, recurses := true, plainKeys := false, apart := false, narrowed := true }
def FnExactLadderMovesUptoSaid : Prop := fnExactLadderMovesUptoRow.holds Try.pinned (OpenSpec.upto fnExactLadderMovesSpec)

/-- 'laws.FnExactCountReduced', WHERE WHAT IT READS IS OF BULK AT MOST 1048576: true; the input reads as it did. -/
def fnExactCountReducedUptoRow : OpenClaim := { program := "ytdiiaallklkomaa", sum := "c568cfa68e67bad965b7086b327d0ae3f1a2d95ee8008bb02af1ccebb5c7ff38", func := "loop.example/g03113/laws.FnExactCountReduced", spec := "fnExactCountReduced", recurses := true, plainKeys := false, apart := false, narrowed := true }
def FnExactCountReducedUptoSaid : Prop := fnExactCountReducedUptoRow.holds Try.pinned (OpenSpec.upto fnExactCountReducedSpec)

/-- 'laws.FnExactReducedWords', WHERE WHAT IT READS IS OF BULK AT MOST 1048576: true; the input reads as it did. -/
def fnExactReducedWordsUptoRow : OpenClaim := { program := "ytdiiaallklkomaa", sum := "c568cfa68e67bad965b7086b327d0ae3f1a2d95ee8008bb02af1ccebb5c7ff38", func := "loop.example/g03113/laws.FnExactReducedWords", spec := "fnExactReducedWords", recurses := true, plainKeys := false, apart := false, narrowed := true }
def FnExactReducedWordsUptoSaid : Prop := fnExactReducedWordsUptoRow.holds Try.pinned (OpenSpec.upto fnExactReducedWordsSpec)

end Rows
end Go.Proofs.Ytdiiaallklkomaa
