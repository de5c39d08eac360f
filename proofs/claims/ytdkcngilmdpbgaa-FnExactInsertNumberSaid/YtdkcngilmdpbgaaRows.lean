/-
  No cell of these rows narrows 'for every input' (looked for: loops, veiled, ifaces, maps, wideKeys, modest, calm, conditions, laid).
  DERIVED. THE GIVEN ROWS OF THIS SEAT. 12 by the template 'for every input the law returns true; each argument reads behind the call as it read before'; 0 by the template 'total and deterministic' (their statements: YtdkcngilmdpbgaaTotals.lean).
  GIVEN WITH THE SEED: the statements are not yours to turn. If you find one false, say at which input.
  Laid BY PROGRAM, IN A SANDBOX (cutbox-rows.mjs): the forced cells as the released guide's own fill.sh prints them over the translation 847210dff4a43c19… (all of the seat's roots in one cut). By AI agents, Wed Nov 11 2026. No macro, syntax, notation, axiom, sorry.
-/
import Derived.Test.YtdkcngilmdpbgaaChecked
import GoSem.Claim
import GoSem.ClaimJoined
import GoSem.ClaimMapViews
import Derived.JoinedTies
import Derived.KernelRfl
namespace Go.Proofs.Ytdkcngilmdpbgaa
/- THE CELL 'sum', in the pinned program and in every row, IS THE sha256 OF THE DUMP (.gsa) THAT YtdkcngilmdpbgaaProg.lean LOADS. Nothing in Lean hashes anything: it is a label: what it is worth is what the hold of that sum in a sandbox is worth. -/
noncomputable def Try.pinned : Pinned := { name := "ytdkcngilmdpbgaa", sum := "847210dff4a43c190adcb185f4e0c9e852234c4d2af8fdb7dd1260356c7308e1", checked := Try.checked }
namespace Rows
def none {H : Type} : Left H := { results := [], args := [] }

/-- 'laws.FnExactIsInBox': WHATEVER THE INPUT: true; the input reads as it did. -/
def fnExactIsInBoxSpec : ChangeSpec := { name := "fnExactIsInBox", fn := fun _ => fun
  | [d1, d2, d3] => { results := [.lit (.bool true)], args := [d1, d2, d3] }
  | _ => none }
def fnExactIsInBoxRow : OpenClaim := { program := "ytdkcngilmdpbgaa", sum := "847210dff4a43c190adcb185f4e0c9e852234c4d2af8fdb7dd1260356c7308e1", func := "loop.example/g03113/laws.FnExactIsInBox", spec := "fnExactIsInBox", apart := false }
def FnExactIsInBoxSaid : Prop := fnExactIsInBoxRow.holds Try.pinned (OpenSpec.ofChange fnExactIsInBoxSpec)

/-- ITS FALSE NEIGHBOUR: 'it returns false'. Refute it at one input. -/
def fnExactIsInBoxWrong : ChangeSpec := { name := "fnExactIsInBox", fn := fun _ => fun
  | [d1, d2, d3] => { results := [.lit (.bool false)], args := [d1, d2, d3] }
  | _ => none }
def FnExactIsInBoxWrongFalsely : Prop := fnExactIsInBoxRow.holds Try.pinned (OpenSpec.ofChange fnExactIsInBoxWrong)

/-- 'laws.FnExactDualShape': WHATEVER THE INPUT: true; the input reads as it did. -/
def fnExactDualShapeSpec : ChangeSpec := { name := "fnExactDualShape", fn := fun _ => fun
  | [d1, d2, d3] => { results := [.lit (.bool true)], args := [d1, d2, d3] }
  | _ => none }
def fnExactDualShapeRow : OpenClaim := { program := "ytdkcngilmdpbgaa", sum := "847210dff4a43c190adcb185f4e0c9e852234c4d2af8fdb7dd1260356c7308e1", func := "loop.example/g03113/laws.FnExactDualShape", spec := "fnExactDualShape", apart := false }
def FnExactDualShapeSaid : Prop := fnExactDualShapeRow.holds Try.pinned (OpenSpec.ofChange fnExactDualShapeSpec)

/-- ITS FALSE NEIGHBOUR: 'it returns false'. Refute it at one input. -/
def fnExactDualShapeWrong : ChangeSpec := { name := "fnExactDualShape", fn := fun _ => fun
  | [d1, d2, d3] => { results := [.lit (.bool false)], args := [d1, d2, d3] }
  | _ => none }
def FnExactDualShapeWrongFalsely : Prop := fnExactDualShapeRow.holds Try.pinned (OpenSpec.ofChange fnExactDualShapeWrong)

/-- 'laws.FnExactWrapShape': WHATEVER THE INPUT: true; the input reads as it did. -/
def fnExactWrapShapeSpec : ChangeSpec := { name := "fnExactWrapShape", fn := fun _ => fun
  | [d1, d2, d3] => { results := [.lit (.bool true)], args := [d1, d2, d3] }
  | _ => none }
def fnExactWrapShapeRow : OpenClaim := { program := "ytdkcngilmdpbgaa", sum := "847210dff4a43c190adcb185f4e0c9e852234c4d2af8fdb7dd1260356c7308e1", func := "loop.example/g03113/laws.FnExactWrapShape", spec := "fnExactWrapShape", apart := false }
def FnExactWrapShapeSaid : Prop := fnExactWrapShapeRow.holds Try.pinned (OpenSpec.ofChange fnExactWrapShapeSpec)

/-- ITS FALSE NEIGHBOUR: 'it returns false'. Refute it at one input. -/
def fnExactWrapShapeWrong : ChangeSpec := { name := "fnExactWrapShape", fn := fun _ => fun
  | [d1, d2, d3] => { results := [.lit (.bool false)], args := [d1, d2, d3] }
  | _ => none }
def FnExactWrapShapeWrongFalsely : Prop := fnExactWrapShapeRow.holds Try.pinned (OpenSpec.ofChange fnExactWrapShapeWrong)

/-- 'laws.FnExactRotateString': WHATEVER THE INPUT: true; the input reads as it did. -/
def fnExactRotateStringSpec : ChangeSpec := { name := "fnExactRotateString", fn := fun _ => fun
  | [d] => { results := [.lit (.bool true)], args := [d] }
  | _ => none }
def fnExactRotateStringRow : OpenClaim := { program := "ytdkcngilmdpbgaa", sum := "847210dff4a43c190adcb185f4e0c9e852234c4d2af8fdb7dd1260356c7308e1", func := "loop.example/g03113/laws.FnExactRotateString", spec := "fnExactRotateString", unfollowed := true, recurses := true, apart := false }
def FnExactRotateStringSaid : Prop := fnExactRotateStringRow.holds Try.pinned (OpenSpec.ofChange fnExactRotateStringSpec)

/-- ITS FALSE NEIGHBOUR: 'it returns false'. Refute it at one input. -/
def fnExactRotateStringWrong : ChangeSpec := { name := "fnExactRotateString", fn := fun _ => fun
  | [d] => { results := [.lit (.bool false)], args := [d] }
  | _ => none }
def FnExactRotateStringWrongFalsely : Prop := fnExactRotateStringRow.holds Try.pinned (OpenSpec.ofChange fnExactRotateStringWrong)

/-- 'laws.FnExactDegreeOfGr': WHATEVER THE INPUT: true; the input reads as it did. -/
def fnExactDegreeOfGrSpec : ChangeSpec := { name := "fnExactDegreeOfGr", fn := fun _ => fun
  | [d1, d2] => { results := [.lit (.bool true)], args := [d1, d2] }
  | _ => none }
def fnExactDegreeOfGrRow : OpenClaim := { program := "ytdkcngilmdpbgaa", sum := "847210dff4a43c190adcb185f4e0c9e852234c4d2af8fdb7dd1260356c7308e1", func := "loop.example/g03113/laws.FnExactDegreeOfGr", spec := "fnExactDegreeOfGr", apart := false }
def FnExactDegreeOfGrSaid : Prop := fnExactDegreeOfGrRow.holds Try.pinned (OpenSpec.ofChange fnExactDegreeOfGrSpec)

/-- ITS FALSE NEIGHBOUR: 'it returns false'. Refute it at one input. -/
def fnExactDegreeOfGrWrong : ChangeSpec := { name := "fnExactDegreeOfGr", fn := fun _ => fun
  | [d1, d2] => { results := [.lit (.bool false)], args := [d1, d2] }
  | _ => none }
def FnExactDegreeOfGrWrongFalsely : Prop := fnExactDegreeOfGrRow.holds Try.pinned (OpenSpec.ofChange fnExactDegreeOfGrWrong)

/-- 'laws.FnExactGaussCounts': WHATEVER THE INPUT: true; the input reads as it did. -/
def fnExactGaussCountsSpec : ChangeSpec := { name := "fnExactGaussCounts", fn := fun _ => fun
  | [d1, d2] => { results := [.lit (.bool true)], args := [d1, d2] }
  | _ => none }
def fnExactGaussCountsRow : OpenClaim := { program := "ytdkcngilmdpbgaa", sum := "847210dff4a43c190adcb185f4e0c9e852234c4d2af8fdb7dd1260356c7308e1", func := "loop.example/g03113/laws.FnExactGaussCounts", spec := "fnExactGaussCounts", recurses := true, apart := false }
def FnExactGaussCountsSaid : Prop := fnExactGaussCountsRow.holds Try.pinned (OpenSpec.ofChange fnExactGaussCountsSpec)

/-- ITS FALSE NEIGHBOUR: 'it returns false'. Refute it at one input. -/
def fnExactGaussCountsWrong : ChangeSpec := { name := "fnExactGaussCounts", fn := fun _ => fun
  | [d1, d2] => { results := [.lit (.bool false)], args := [d1, d2] }
  | _ => none }
def FnExactGaussCountsWrongFalsely : Prop := fnExactGaussCountsRow.holds Try.pinned (OpenSpec.ofChange fnExactGaussCountsWrong)

/-- 'laws.FnExactShapesIn': WHATEVER THE INPUT: true; the input reads as it did. -/
def fnExactShapesInSpec : ChangeSpec := { name := "fnExactShapesIn", fn := fun _ => fun
  | [d1, d2] => { results := [.lit (.bool true)], args := [d1, d2] }
  | _ => none }
def fnExactShapesInRow : OpenClaim := { program := "ytdkcngilmdpbgaa", sum := "847210dff4a43c190adcb185f4e0c9e852234c4d2af8fdb7dd1260356c7308e1", func := "loop.example/g03113/laws.FnExactShapesIn", spec := "fnExactShapesIn", recurses := true, apart := false }
def FnExactShapesInSaid : Prop := fnExactShapesInRow.holds Try.pinned (OpenSpec.ofChange fnExactShapesInSpec)

/-- ITS FALSE NEIGHBOUR: 'it returns false'. Refute it at one input. -/
def fnExactShapesInWrong : ChangeSpec := { name := "fnExactShapesIn", fn := fun _ => fun
  | [d1, d2] => { results := [.lit (.bool false)], args := [d1, d2] }
  | _ => none }
def FnExactShapesInWrongFalsely : Prop := fnExactShapesInRow.holds Try.pinned (OpenSpec.ofChange fnExactShapesInWrong)

/-- 'laws.FnExactSidesOf': WHATEVER THE INPUT: true; the input reads as it did. -/
def fnExactSidesOfSpec : ChangeSpec := { name := "fnExactSidesOf", fn := fun _ => fun
  | [d] => { results := [.lit (.bool true)], args := [d] }
  | _ => none }
def fnExactSidesOfRow : OpenClaim := { program := "ytdkcngilmdpbgaa", sum := "847210dff4a43c190adcb185f4e0c9e852234c4d2af8fdb7dd1260356c7308e1", func := "loop.example/g03113/laws.FnExactSidesOf", spec := "fnExactSidesOf", unfollowed := true, recurses := true, apart := false }
def FnExactSidesOfSaid : Prop := fnExactSidesOfRow.holds Try.pinned (OpenSpec.ofChange fnExactSidesOfSpec)

/-- ITS FALSE NEIGHBOUR: 'it returns false'. Refute it at one input. -/
def fnExactSidesOfWrong : ChangeSpec := { name := "fnExactSidesOf", fn := fun _ => fun
  | [d] => { results := [.lit (.bool false)], args := [d] }
  | _ => none }
def FnExactSidesOfWrongFalsely : Prop := fnExactSidesOfRow.holds Try.pinned (OpenSpec.ofChange fnExactSidesOfWrong)

/-- 'laws.FnExactInsertNumber': WHATEVER THE INPUT: true; the input reads as it did. -/
def fnExactInsertNumberSpec : ChangeSpec := { name := "fnExactInsertNumber", fn := fun _ => fun
  | [d1, d2] => { results := [.lit (.bool true)], args := [d1, d2] }
  | _ => none }
def fnExactInsertNumberRow : OpenClaim := { program := "ytdkcngilmdpbgaa", sum := "847210dff4a43c190adcb185f4e0c9e852234c4d2af8fdb7dd1260356c7308e1", func := "loop.example/g03113/laws.FnExactInsertNumber", spec := "fnExactInsertNumber", unfollowed := true, recurses := true, apart := false }
def FnExactInsertNumberSaid : Prop := fnExactInsertNumberRow.holds Try.pinned (OpenSpec.ofChange fnExactInsertNumberSpec)

/-- ITS FALSE NEIGHBOUR: 'it returns false'. Refute it at one input. -/
def fnExactInsertNumberWrong : ChangeSpec := { name := "fnExactInsertNumber", fn := fun _ => fun
  | [d1, d2] => { results := [.lit (.bool false)], args := [d1, d2] }
  | _ => none }
def FnExactInsertNumberWrongFalsely : Prop := fnExactInsertNumberRow.holds Try.pinned (OpenSpec.ofChange fnExactInsertNumberWrong)

/-- 'laws.FnSquares': WHATEVER THE INPUT: true; the input reads as it did. -/
def fnSquaresSpec : ChangeSpec := { name := "fnSquares", fn := fun _ => fun
  | [d] => { results := [.lit (.bool true)], args := [d] }
  | _ => none }
def fnSquaresRow : OpenClaim := { program := "ytdkcngilmdpbgaa", sum := "847210dff4a43c190adcb185f4e0c9e852234c4d2af8fdb7dd1260356c7308e1", func := "loop.example/g03113/laws.FnSquares", spec := "fnSquares", recurses := true, apart := false }
def FnSquaresSaid : Prop := fnSquaresRow.holds Try.pinned (OpenSpec.ofChange fnSquaresSpec)

/-- ITS FALSE NEIGHBOUR: 'it returns false'. Refute it at one input. -/
def fnSquaresWrong : ChangeSpec := { name := "fnSquares", fn := fun _ => fun
  | [d] => { results := [.lit (.bool false)], args := [d] }
  | _ => none }
def FnSquaresWrongFalsely : Prop := fnSquaresRow.holds Try.pinned (OpenSpec.ofChange fnSquaresWrong)

/-- 'laws.FnBoxed': WHATEVER THE INPUT: true; the input reads as it did. -/
def fnBoxedSpec : ChangeSpec := { name := "fnBoxed", fn := fun _ => fun
  | [d] => { results := [.lit (.bool true)], args := [d] }
  | _ => none }
def fnBoxedRow : OpenClaim := { program := "ytdkcngilmdpbgaa", sum := "847210dff4a43c190adcb185f4e0c9e852234c4d2af8fdb7dd1260356c7308e1", func := "loop.example/g03113/laws.FnBoxed", spec := "fnBoxed", unfollowed := true, recurses := true, apart := false }
def FnBoxedSaid : Prop := fnBoxedRow.holds Try.pinned (OpenSpec.ofChange fnBoxedSpec)

/-- ITS FALSE NEIGHBOUR: 'it returns false'. Refute it at one input. -/
def fnBoxedWrong : ChangeSpec := { name := "fnBoxed", fn := fun _ => fun
  | [d] => { results := [.lit (.bool false)], args := [d] }
  | _ => none }
def FnBoxedWrongFalsely : Prop := fnBoxedRow.holds Try.pinned (OpenSpec.ofChange fnBoxedWrong)

/-- 'laws.FnGauss': WHATEVER THE INPUT: true; the input reads as it did. -/
def fnGaussSpec : ChangeSpec := { name := "fnGauss", fn := fun _ => fun
  | [d] => { results := [.lit (.bool true)], args := [d] }
  | _ => none }
def fnGaussRow : OpenClaim := { program := "ytdkcngilmdpbgaa", sum := "847210dff4a43c190adcb185f4e0c9e852234c4d2af8fdb7dd1260356c7308e1", func := "loop.example/g03113/laws.FnGauss", spec := "fnGauss", recurses := true, apart := false }
def FnGaussSaid : Prop := fnGaussRow.holds Try.pinned (OpenSpec.ofChange fnGaussSpec)

/-- ITS FALSE NEIGHBOUR: 'it returns false'. Refute it at one input. -/
def fnGaussWrong : ChangeSpec := { name := "fnGauss", fn := fun _ => fun
  | [d] => { results := [.lit (.bool false)], args := [d] }
  | _ => none }
def FnGaussWrongFalsely : Prop := fnGaussRow.holds Try.pinned (OpenSpec.ofChange fnGaussWrong)

/- THE SECOND FORM. 'bulk': how many values and letters a reading holds, each counted each time it is reached (what is shared counts as often as it is met; a slice's spare places count too). A statement '..UptoSaid' is the law's where the arguments, and the package variables that the reading takes, are together of bulk at most 1048576: NARROWER than '..Said'. Prove '..Said' where nothing that the law and all that it calls make is longer than what came in: it says more and counts as full. Else prove '..UptoSaid'. A law counts once. -/
mutual
def uptoBulk {H : Type} : DataW H → Nat
  | .lit (.string bytes) => bytes.length + 1
  | .lit _ => 1
  | .nil => 1
  | .ptr d => uptoBulk d + 1
  | .slice elems spare => uptoBulkAll elems + uptoBulkAll spare + 1
  | .agg parts => uptoBulkAll parts + 1
  | .iface _ d => uptoBulk d + 1
  | .map entries => uptoBulkEntries entries + 1
  | .held _ => 1
def uptoBulkAll {H : Type} : List (DataW H) → Nat
  | [] => 0
  | d :: r => uptoBulk d + uptoBulkAll r
def uptoBulkEntries {H : Type} : List (Lit × DataW H) → Nat
  | [] => 0
  | x :: r => uptoBulkEntry x + uptoBulkEntries r
def uptoBulkEntry {H : Type} : Lit × DataW H → Nat
  | (.string bytes, d) => bytes.length + uptoBulk d + 1
  | (_, d) => uptoBulk d + 1
 end
def uptoSmall : (H : Type) → List (DataW H) → Bool := fun _ ds => decide (uptoBulkAll ds ≤ 1048576)
def OpenSpec.upto (s : _root_.Go.ChangeSpec) : _root_.Go.OpenSpec := { _root_.Go.OpenSpec.ofChange s with cond := some uptoSmall }

/-- 'laws.FnExactIsInBox', WHERE WHAT IT READS IS OF BULK AT MOST 1048576: true; the input reads as it did. -/
def fnExactIsInBoxUptoRow : OpenClaim := { program := "ytdkcngilmdpbgaa", sum := "847210dff4a43c190adcb185f4e0c9e852234c4d2af8fdb7dd1260356c7308e1", func := "loop.example/g03113/laws.FnExactIsInBox", spec := "fnExactIsInBox", apart := false, narrowed := true }
def FnExactIsInBoxUptoSaid : Prop := fnExactIsInBoxUptoRow.holds Try.pinned (OpenSpec.upto fnExactIsInBoxSpec)

/-- 'laws.FnExactDualShape', WHERE WHAT IT READS IS OF BULK AT MOST 1048576: true; the input reads as it did. -/
def fnExactDualShapeUptoRow : OpenClaim := { program := "ytdkcngilmdpbgaa", sum := "847210dff4a43c190adcb185f4e0c9e852234c4d2af8fdb7dd1260356c7308e1", func := "loop.example/g03113/laws.FnExactDualShape", spec := "fnExactDualShape", apart := false, narrowed := true }
def FnExactDualShapeUptoSaid : Prop := fnExactDualShapeUptoRow.holds Try.pinned (OpenSpec.upto fnExactDualShapeSpec)

/-- 'laws.FnExactWrapShape', WHERE WHAT IT READS IS OF BULK AT MOST 1048576: true; the input reads as it did. -/
def fnExactWrapShapeUptoRow : OpenClaim := { program := "ytdkcngilmdpbgaa", sum := "847210dff4a43c190adcb185f4e0c9e852234c4d2af8fdb7dd1260356c7308e1", func := "loop.example/g03113/laws.FnExactWrapShape", spec := "fnExactWrapShape", apart := false, narrowed := true }
def FnExactWrapShapeUptoSaid : Prop := fnExactWrapShapeUptoRow.holds Try.pinned (OpenSpec.upto fnExactWrapShapeSpec)

/-- 'laws.FnExactRotateString', WHERE WHAT IT READS IS OF BULK AT MOST 1048576: true; the input reads as it did. -/
def fnExactRotateStringUptoRow : OpenClaim := { program := "ytdkcngilmdpbgaa", sum := "847210dff4a43c190adcb185f4e0c9e852234c4d2af8fdb7dd1260356c7308e1", func := "loop.example/g03113/laws.FnExactRotateString", spec := "fnExactRotateString", unfollowed := true, recurses := true, apart := false, narrowed := true }
def FnExactRotateStringUptoSaid : Prop := fnExactRotateStringUptoRow.holds Try.pinned (OpenSpec.upto fnExactRotateStringSpec)

/-- 'laws.FnExactDegreeOfGr', WHERE WHAT IT READS IS OF BULK AT MOST 1048576: true; the input reads as it did. -/
def fnExactDegreeOfGrUptoRow : OpenClaim := { program := "ytdkcngilmdpbgaa", sum := "847210dff4a43c190adcb185f4e0c9e852234c4d2af8fdb7dd1260356c7308e1", func := "loop.example/g03113/laws.FnExactDegreeOfGr", spec := "fnExactDegreeOfGr", apart := false, narrowed := true }
def FnExactDegreeOfGrUptoSaid : Prop := fnExactDegreeOfGrUptoRow.holds Try.pinned (OpenSpec.upto fnExactDegreeOfGrSpec)

/-- 'laws.FnExactGaussCounts', WHERE WHAT IT READS IS OF BULK AT MOST 1048576: true; the input reads as it did. -/
def fnExactGaussCountsUptoRow : OpenClaim := { program := "ytdkcngilmdpbgaa", sum := "847210dff4a43c190adcb185f4e0c9e852234c4d2af8fdb7dd1260356c7308e1", func := "loop.example/g03113/laws.FnExactGaussCounts", spec := "fnExactGaussCounts", recurses := true, apart := false, narrowed := true }
def FnExactGaussCountsUptoSaid : Prop := fnExactGaussCountsUptoRow.holds Try.pinned (OpenSpec.upto fnExactGaussCountsSpec)

/-- 'laws.FnExactShapesIn', WHERE WHAT IT READS IS OF BULK AT MOST 1048576: true; the input reads as it did. -/
def fnExactShapesInUptoRow : OpenClaim := { program := "ytdkcngilmdpbgaa", sum := "847210dff4a43c190adcb185f4e0c9e852234c4d2af8fdb7dd1260356c7308e1", func := "loop.example/g03113/laws.FnExactShapesIn", spec := "fnExactShapesIn", recurses := true, apart := false, narrowed := true }
def FnExactShapesInUptoSaid : Prop := fnExactShapesInUptoRow.holds Try.pinned (OpenSpec.upto fnExactShapesInSpec)

/-- 'laws.FnExactSidesOf', WHERE WHAT IT READS IS OF BULK AT MOST 1048576: true; the input reads as it did. -/
def fnExactSidesOfUptoRow : OpenClaim := { program := "ytdkcngilmdpbgaa", sum := "847210dff4a43c190adcb185f4e0c9e852234c4d2af8fdb7dd1260356c7308e1", func := "loop.example/g03113/laws.FnExactSidesOf", spec := "fnExactSidesOf", unfollowed := true, recurses := true, apart := false, narrowed := true }
def FnExactSidesOfUptoSaid : Prop := fnExactSidesOfUptoRow.holds Try.pinned (OpenSpec.upto fnExactSidesOfSpec)

/-- 'laws.FnExactInsertNumber', WHERE WHAT IT READS IS OF BULK AT MOST 1048576: true; the input reads as it did. -/
def fnExactInsertNumberUptoRow : OpenClaim := { program := "ytdkcngilmdpbgaa", sum := "847210dff4a43c190adcb185f4e0c9e852234c4d2af8fdb7dd1260356c7308e1", func := "loop.example/g03113/laws.FnExactInsertNumber", spec := "fnExactInsertNumber", unfollowed := true, recurses := true, apart := false, narrowed := true }
def FnExactInsertNumberUptoSaid : Prop := fnExactInsertNumberUptoRow.holds Try.pinned (OpenSpec.upto fnExactInsertNumberSpec)

/-- 'laws.FnSquares', WHERE WHAT IT READS IS OF BULK AT MOST 1048576: true; the input reads as it did. -/
def fnSquaresUptoRow : OpenClaim := { program := "ytdkcngilmdpbgaa", sum := "847210dff4a43c190adcb185f4e0c9e852234c4d2af8fdb7dd1260356c7308e1", func := "loop.example/g03113/laws.FnSquares", spec := "fnSquares", recurses := true, apart := false, narrowed := true }
def FnSquaresUptoSaid : Prop := fnSquaresUptoRow.holds Try.pinned (OpenSpec.upto fnSquaresSpec)

/-- 'laws.FnBoxed', WHERE WHAT IT READS IS OF BULK AT MOST 1048576: true; the input reads as it did. -/
def fnBoxedUptoRow : OpenClaim := { program := "ytdkcngilmdpbgaa", sum := "847210dff4a43c190adcb185f4e0c9e852234c4d2af8fdb7dd1260356c7308e1", func := "loop.example/g03113/laws.FnBoxed", spec := "fnBoxed", unfollowed := true, recurses := true, apart := false, narrowed := true }
def FnBoxedUptoSaid : Prop := fnBoxedUptoRow.holds Try.pinned (OpenSpec.upto fnBoxedSpec)

/-- 'laws.FnGauss', WHERE WHAT IT READS IS OF BULK AT MOST 1048576: true; the input reads as it did. -/
def fnGaussUptoRow : OpenClaim := { program := "ytdkcngilmdpbgaa", sum := "847210dff4a43c190adcb185f4e0c9e852234c4d2af8fdb7dd1260356c7308e1", func := "loop.example/g03113/laws.FnGauss", spec := "fnGauss", recurses := true, apart := false, narrowed := true }
def FnGaussUptoSaid : Prop := fnGaussUptoRow.holds Try.pinned (OpenSpec.upto fnGaussSpec)

end Rows
end Go.Proofs.Ytdkcngilmdpbgaa
