/-
  No cell of these rows narrows 'for every input' (looked for: loops, veiled, ifaces, maps, wideKeys, modest, calm, conditions, laid).
  DERIVED. THE GIVEN ROWS OF THIS SEAT. 12 by the template 'for every input the law returns true; each argument reads behind the call as it read before'; 0 by the template 'total and deterministic' (their statements: YtdappakjbclffaaTotals.lean).
  GIVEN WITH THE SEED: the statements are not yours to turn. If you find one false, say at which input.
  Laid BY PROGRAM, IN A SANDBOX (cutbox-rows.mjs): the forced cells as the released guide's own fill.sh prints them over the translation 627ab87ec9ebf861… (all of the seat's roots in one cut). By AI agents, Wed Nov 11 2026. No macro, syntax, notation, axiom, sorry.
-/
import Derived.Test.YtdappakjbclffaaChecked
import GoSem.Claim
import GoSem.ClaimJoined
import GoSem.ClaimMapViews
import Derived.JoinedTies
import Derived.KernelRfl
namespace Go.Proofs.Ytdappakjbclffaa
/- THE CELL 'sum', in the pinned program and in every row, IS THE sha256 OF THE DUMP (.gsa) THAT YtdappakjbclffaaProg.lean LOADS. Nothing in Lean hashes anything: it is a label: what it is worth is what the hold of that sum in a sandbox is worth. -/
noncomputable def Try.pinned : Pinned := { name := "ytdappakjbclffaa", sum := "627ab87ec9ebf86120465a459b8dee817840ca0d15c0c932d405e744e6c89e33", checked := Try.checked }
namespace Rows
def none {H : Type} : Left H := { results := [], args := [] }

/-- 'laws.FnExactIsString': WHATEVER THE INPUT: true; the input reads as it did. -/
def fnExactIsStringSpec : ChangeSpec := { name := "fnExactIsString", fn := fun _ => fun
  | [d] => { results := [.lit (.bool true)], args := [d] }
  | _ => none }
def fnExactIsStringRow : OpenClaim := { program := "ytdappakjbclffaa", sum := "627ab87ec9ebf86120465a459b8dee817840ca0d15c0c932d405e744e6c89e33", func := "loop.example/g03113/laws.FnExactIsString", spec := "fnExactIsString", unfollowed := true, recurses := true, apart := false }
def FnExactIsStringSaid : Prop := fnExactIsStringRow.holds Try.pinned (OpenSpec.ofChange fnExactIsStringSpec)

/-- ITS FALSE NEIGHBOUR: 'it returns false'. Refute it at one input. -/
def fnExactIsStringWrong : ChangeSpec := { name := "fnExactIsString", fn := fun _ => fun
  | [d] => { results := [.lit (.bool false)], args := [d] }
  | _ => none }
def FnExactIsStringWrongFalsely : Prop := fnExactIsStringRow.holds Try.pinned (OpenSpec.ofChange fnExactIsStringWrong)

/-- 'laws.FnExactStringOfShape': WHATEVER THE INPUT: true; the input reads as it did. -/
def fnExactStringOfShapeSpec : ChangeSpec := { name := "fnExactStringOfShape", fn := fun _ => fun
  | [d1, d2, d3] => { results := [.lit (.bool true)], args := [d1, d2, d3] }
  | _ => none }
def fnExactStringOfShapeRow : OpenClaim := { program := "ytdappakjbclffaa", sum := "627ab87ec9ebf86120465a459b8dee817840ca0d15c0c932d405e744e6c89e33", func := "loop.example/g03113/laws.FnExactStringOfShape", spec := "fnExactStringOfShape", apart := false }
def FnExactStringOfShapeSaid : Prop := fnExactStringOfShapeRow.holds Try.pinned (OpenSpec.ofChange fnExactStringOfShapeSpec)

/-- ITS FALSE NEIGHBOUR: 'it returns false'. Refute it at one input. -/
def fnExactStringOfShapeWrong : ChangeSpec := { name := "fnExactStringOfShape", fn := fun _ => fun
  | [d1, d2, d3] => { results := [.lit (.bool false)], args := [d1, d2, d3] }
  | _ => none }
def FnExactStringOfShapeWrongFalsely : Prop := fnExactStringOfShapeRow.holds Try.pinned (OpenSpec.ofChange fnExactStringOfShapeWrong)

/-- 'laws.FnExactShapeOfString': WHATEVER THE INPUT: true; the input reads as it did. -/
def fnExactShapeOfStringSpec : ChangeSpec := { name := "fnExactShapeOfString", fn := fun _ => fun
  | [d] => { results := [.lit (.bool true)], args := [d] }
  | _ => none }
def fnExactShapeOfStringRow : OpenClaim := { program := "ytdappakjbclffaa", sum := "627ab87ec9ebf86120465a459b8dee817840ca0d15c0c932d405e744e6c89e33", func := "loop.example/g03113/laws.FnExactShapeOfString", spec := "fnExactShapeOfString", unfollowed := true, recurses := true, apart := false }
def FnExactShapeOfStringSaid : Prop := fnExactShapeOfStringRow.holds Try.pinned (OpenSpec.ofChange fnExactShapeOfStringSpec)

/-- ITS FALSE NEIGHBOUR: 'it returns false'. Refute it at one input. -/
def fnExactShapeOfStringWrong : ChangeSpec := { name := "fnExactShapeOfString", fn := fun _ => fun
  | [d] => { results := [.lit (.bool false)], args := [d] }
  | _ => none }
def FnExactShapeOfStringWrongFalsely : Prop := fnExactShapeOfStringRow.holds Try.pinned (OpenSpec.ofChange fnExactShapeOfStringWrong)

/-- 'laws.FnExactPuzzleOk': WHATEVER THE INPUT: true; the input reads as it did. -/
def fnExactPuzzleOkSpec : ChangeSpec := { name := "fnExactPuzzleOk", fn := fun _ => fun
  | [d] => { results := [.lit (.bool true)], args := [d] }
  | _ => none }
def fnExactPuzzleOkRow : OpenClaim := { program := "ytdappakjbclffaa", sum := "627ab87ec9ebf86120465a459b8dee817840ca0d15c0c932d405e744e6c89e33", func := "loop.example/g03113/laws.FnExactPuzzleOk", spec := "fnExactPuzzleOk", unfollowed := true, recurses := true, apart := false }
def FnExactPuzzleOkSaid : Prop := fnExactPuzzleOkRow.holds Try.pinned (OpenSpec.ofChange fnExactPuzzleOkSpec)

/-- ITS FALSE NEIGHBOUR: 'it returns false'. Refute it at one input. -/
def fnExactPuzzleOkWrong : ChangeSpec := { name := "fnExactPuzzleOk", fn := fun _ => fun
  | [d] => { results := [.lit (.bool false)], args := [d] }
  | _ => none }
def FnExactPuzzleOkWrongFalsely : Prop := fnExactPuzzleOkRow.holds Try.pinned (OpenSpec.ofChange fnExactPuzzleOkWrong)

/-- 'laws.FnExactWeightedOk': WHATEVER THE INPUT: true; the input reads as it did. -/
def fnExactWeightedOkSpec : ChangeSpec := { name := "fnExactWeightedOk", fn := fun _ => fun
  | [d] => { results := [.lit (.bool true)], args := [d] }
  | _ => none }
def fnExactWeightedOkRow : OpenClaim := { program := "ytdappakjbclffaa", sum := "627ab87ec9ebf86120465a459b8dee817840ca0d15c0c932d405e744e6c89e33", func := "loop.example/g03113/laws.FnExactWeightedOk", spec := "fnExactWeightedOk", unfollowed := true, recurses := true, apart := false }
def FnExactWeightedOkSaid : Prop := fnExactWeightedOkRow.holds Try.pinned (OpenSpec.ofChange fnExactWeightedOkSpec)

/-- ITS FALSE NEIGHBOUR: 'it returns false'. Refute it at one input. -/
def fnExactWeightedOkWrong : ChangeSpec := { name := "fnExactWeightedOk", fn := fun _ => fun
  | [d] => { results := [.lit (.bool false)], args := [d] }
  | _ => none }
def FnExactWeightedOkWrongFalsely : Prop := fnExactWeightedOkRow.holds Try.pinned (OpenSpec.ofChange fnExactWeightedOkWrong)

/-- 'laws.FnExactSidesOf': WHATEVER THE INPUT: true; the input reads as it did. -/
def fnExactSidesOfSpec : ChangeSpec := { name := "fnExactSidesOf", fn := fun _ => fun
  | [d] => { results := [.lit (.bool true)], args := [d] }
  | _ => none }
def fnExactSidesOfRow : OpenClaim := { program := "ytdappakjbclffaa", sum := "627ab87ec9ebf86120465a459b8dee817840ca0d15c0c932d405e744e6c89e33", func := "loop.example/g03113/laws.FnExactSidesOf", spec := "fnExactSidesOf", unfollowed := true, recurses := true, apart := false }
def FnExactSidesOfSaid : Prop := fnExactSidesOfRow.holds Try.pinned (OpenSpec.ofChange fnExactSidesOfSpec)

/-- ITS FALSE NEIGHBOUR: 'it returns false'. Refute it at one input. -/
def fnExactSidesOfWrong : ChangeSpec := { name := "fnExactSidesOf", fn := fun _ => fun
  | [d] => { results := [.lit (.bool false)], args := [d] }
  | _ => none }
def FnExactSidesOfWrongFalsely : Prop := fnExactSidesOfRow.holds Try.pinned (OpenSpec.ofChange fnExactSidesOfWrong)

/-- 'laws.FnExactRotatePuzzle': WHATEVER THE INPUT: true; the input reads as it did. -/
def fnExactRotatePuzzleSpec : ChangeSpec := { name := "fnExactRotatePuzzle", fn := fun _ => fun
  | [d] => { results := [.lit (.bool true)], args := [d] }
  | _ => none }
def fnExactRotatePuzzleRow : OpenClaim := { program := "ytdappakjbclffaa", sum := "627ab87ec9ebf86120465a459b8dee817840ca0d15c0c932d405e744e6c89e33", func := "loop.example/g03113/laws.FnExactRotatePuzzle", spec := "fnExactRotatePuzzle", unfollowed := true, recurses := true, apart := false }
def FnExactRotatePuzzleSaid : Prop := fnExactRotatePuzzleRow.holds Try.pinned (OpenSpec.ofChange fnExactRotatePuzzleSpec)

/-- ITS FALSE NEIGHBOUR: 'it returns false'. Refute it at one input. -/
def fnExactRotatePuzzleWrong : ChangeSpec := { name := "fnExactRotatePuzzle", fn := fun _ => fun
  | [d] => { results := [.lit (.bool false)], args := [d] }
  | _ => none }
def FnExactRotatePuzzleWrongFalsely : Prop := fnExactRotatePuzzleRow.holds Try.pinned (OpenSpec.ofChange fnExactRotatePuzzleWrong)

/-- 'laws.FnExactMirrorPuzzle': WHATEVER THE INPUT: true; the input reads as it did. -/
def fnExactMirrorPuzzleSpec : ChangeSpec := { name := "fnExactMirrorPuzzle", fn := fun _ => fun
  | [d] => { results := [.lit (.bool true)], args := [d] }
  | _ => none }
def fnExactMirrorPuzzleRow : OpenClaim := { program := "ytdappakjbclffaa", sum := "627ab87ec9ebf86120465a459b8dee817840ca0d15c0c932d405e744e6c89e33", func := "loop.example/g03113/laws.FnExactMirrorPuzzle", spec := "fnExactMirrorPuzzle", unfollowed := true, recurses := true, apart := false }
def FnExactMirrorPuzzleSaid : Prop := fnExactMirrorPuzzleRow.holds Try.pinned (OpenSpec.ofChange fnExactMirrorPuzzleSpec)

/-- ITS FALSE NEIGHBOUR: 'it returns false'. Refute it at one input. -/
def fnExactMirrorPuzzleWrong : ChangeSpec := { name := "fnExactMirrorPuzzle", fn := fun _ => fun
  | [d] => { results := [.lit (.bool false)], args := [d] }
  | _ => none }
def FnExactMirrorPuzzleWrongFalsely : Prop := fnExactMirrorPuzzleRow.holds Try.pinned (OpenSpec.ofChange fnExactMirrorPuzzleWrong)

/-- 'laws.FnExactPuzzleWeight': WHATEVER THE INPUT: true; the input reads as it did. -/
def fnExactPuzzleWeightSpec : ChangeSpec := { name := "fnExactPuzzleWeight", fn := fun _ => fun
  | [d1, d2] => { results := [.lit (.bool true)], args := [d1, d2] }
  | _ => none }
def fnExactPuzzleWeightRow : OpenClaim := { program := "ytdappakjbclffaa", sum := "627ab87ec9ebf86120465a459b8dee817840ca0d15c0c932d405e744e6c89e33", func := "loop.example/g03113/laws.FnExactPuzzleWeight", spec := "fnExactPuzzleWeight", unfollowed := true, recurses := true, apart := false }
def FnExactPuzzleWeightSaid : Prop := fnExactPuzzleWeightRow.holds Try.pinned (OpenSpec.ofChange fnExactPuzzleWeightSpec)

/-- ITS FALSE NEIGHBOUR: 'it returns false'. Refute it at one input. -/
def fnExactPuzzleWeightWrong : ChangeSpec := { name := "fnExactPuzzleWeight", fn := fun _ => fun
  | [d1, d2] => { results := [.lit (.bool false)], args := [d1, d2] }
  | _ => none }
def FnExactPuzzleWeightWrongFalsely : Prop := fnExactPuzzleWeightRow.holds Try.pinned (OpenSpec.ofChange fnExactPuzzleWeightWrong)

/-- 'laws.FnExactInsertNumber': WHATEVER THE INPUT: true; the input reads as it did. -/
def fnExactInsertNumberSpec : ChangeSpec := { name := "fnExactInsertNumber", fn := fun _ => fun
  | [d1, d2] => { results := [.lit (.bool true)], args := [d1, d2] }
  | _ => none }
def fnExactInsertNumberRow : OpenClaim := { program := "ytdappakjbclffaa", sum := "627ab87ec9ebf86120465a459b8dee817840ca0d15c0c932d405e744e6c89e33", func := "loop.example/g03113/laws.FnExactInsertNumber", spec := "fnExactInsertNumber", unfollowed := true, recurses := true, apart := false }
def FnExactInsertNumberSaid : Prop := fnExactInsertNumberRow.holds Try.pinned (OpenSpec.ofChange fnExactInsertNumberSpec)

/-- ITS FALSE NEIGHBOUR: 'it returns false'. Refute it at one input. -/
def fnExactInsertNumberWrong : ChangeSpec := { name := "fnExactInsertNumber", fn := fun _ => fun
  | [d1, d2] => { results := [.lit (.bool false)], args := [d1, d2] }
  | _ => none }
def FnExactInsertNumberWrongFalsely : Prop := fnExactInsertNumberRow.holds Try.pinned (OpenSpec.ofChange fnExactInsertNumberWrong)

/-- 'laws.FnExactShapesIn': WHATEVER THE INPUT: true; the input reads as it did. -/
def fnExactShapesInSpec : ChangeSpec := { name := "fnExactShapesIn", fn := fun _ => fun
  | [d1, d2] => { results := [.lit (.bool true)], args := [d1, d2] }
  | _ => none }
def fnExactShapesInRow : OpenClaim := { program := "ytdappakjbclffaa", sum := "627ab87ec9ebf86120465a459b8dee817840ca0d15c0c932d405e744e6c89e33", func := "loop.example/g03113/laws.FnExactShapesIn", spec := "fnExactShapesIn", recurses := true, apart := false }
def FnExactShapesInSaid : Prop := fnExactShapesInRow.holds Try.pinned (OpenSpec.ofChange fnExactShapesInSpec)

/-- ITS FALSE NEIGHBOUR: 'it returns false'. Refute it at one input. -/
def fnExactShapesInWrong : ChangeSpec := { name := "fnExactShapesIn", fn := fun _ => fun
  | [d1, d2] => { results := [.lit (.bool false)], args := [d1, d2] }
  | _ => none }
def FnExactShapesInWrongFalsely : Prop := fnExactShapesInRow.holds Try.pinned (OpenSpec.ofChange fnExactShapesInWrong)

/-- 'laws.FnSquares': WHATEVER THE INPUT: true; the input reads as it did. -/
def fnSquaresSpec : ChangeSpec := { name := "fnSquares", fn := fun _ => fun
  | [d] => { results := [.lit (.bool true)], args := [d] }
  | _ => none }
def fnSquaresRow : OpenClaim := { program := "ytdappakjbclffaa", sum := "627ab87ec9ebf86120465a459b8dee817840ca0d15c0c932d405e744e6c89e33", func := "loop.example/g03113/laws.FnSquares", spec := "fnSquares", recurses := true, apart := false }
def FnSquaresSaid : Prop := fnSquaresRow.holds Try.pinned (OpenSpec.ofChange fnSquaresSpec)

/-- ITS FALSE NEIGHBOUR: 'it returns false'. Refute it at one input. -/
def fnSquaresWrong : ChangeSpec := { name := "fnSquares", fn := fun _ => fun
  | [d] => { results := [.lit (.bool false)], args := [d] }
  | _ => none }
def FnSquaresWrongFalsely : Prop := fnSquaresRow.holds Try.pinned (OpenSpec.ofChange fnSquaresWrong)

/- THE SECOND FORM. 'bulk': how many values and letters a reading holds, each counted each time it is reached (what is shared counts as often as it is met; a slice's spare places count too). A statement '..UptoSaid' is the law's where the arguments, and the package variables that the reading takes, are together of bulk at most 1048576: NARROWER than '..Said'. Prove '..Said' where nothing that the law and all that it calls make is longer than what came in: it says more and counts as full. Else prove '..UptoSaid'. A law counts once. -/
mutual
def uptoBulk {H : Type} : DataW H → Nat
  | .lit (.string bytes) => bytes.length + 1
  | .lit _ => 1
  | .nil => 1
  | .ptr d => uptoBulk d + 1
  | .slice elems spare => uptoBulkAll elems + uptoBulkAll spare + 1
  | .agg parts => uptoBulkAll parts + 1
  | .iface _ d => uptoBulk d + 1
  | .map entries => uptoBulkEntries entries + 1
  | .held _ => 1
def uptoBulkAll {H : Type} : List (DataW H) → Nat
  | [] => 0
  | d :: r => uptoBulk d + uptoBulkAll r
def uptoBulkEntries {H : Type} : List (Lit × DataW H) → Nat
  | [] => 0
  | x :: r => uptoBulkEntry x + uptoBulkEntries r
def uptoBulkEntry {H : Type} : Lit × DataW H → Nat
  | (.string bytes, d) => bytes.length + uptoBulk d + 1
  | (_, d) => uptoBulk d + 1
 end
def uptoSmall : (H : Type) → List (DataW H) → Bool := fun _ ds => decide (uptoBulkAll ds ≤ 1048576)
def OpenSpec.upto (s : _root_.Go.ChangeSpec) : _root_.Go.OpenSpec := { _root_.Go.OpenSpec.ofChange s with cond := some uptoSmall }

/-- 'laws.FnExactIsString', WHERE WHAT IT READS IS OF BULK AT MOST 1048576: true; the input reads as it did. -/
def fnExactIsStringUptoRow : OpenClaim := { program := "ytdappakjbclffaa", sum := "627ab87ec9ebf86120465a459b8dee817840ca0d15c0c932d405e744e6c89e33", func := "loop.example/g03113/laws.FnExactIsString", spec := "fnExactIsString", unfollowed := true, recurses := true, apart := false, narrowed := true }
def FnExactIsStringUptoSaid : Prop := fnExactIsStringUptoRow.holds Try.pinned (OpenSpec.upto fnExactIsStringSpec)

/-- 'laws.FnExactStringOfShape', WHERE WHAT IT READS IS OF BULK AT MOST 1048576: true; the input reads as it did. -/
def fnExactStringOfShapeUptoRow : OpenClaim := { program := "ytdappakjbclffaa", sum := "627ab87ec9ebf86120465a459b8dee817840ca0d15c0c932d405e744e6c89e33", func := "loop.example/g03113/laws.FnExactStringOfShape", spec := "fnExactStringOfShape", apart := false, narrowed := true }
def FnExactStringOfShapeUptoSaid : Prop := fnExactStringOfShapeUptoRow.holds Try.pinned (OpenSpec.upto fnExactStringOfShapeSpec)

/-- 'laws.FnExactShapeOfString', WHERE WHAT IT READS IS OF BULK AT MOST 1048576: true; the input reads as it did. -/
def fnExactShapeOfStringUptoRow : OpenClaim := { program := "ytdappakjbclffaa", sum := "627ab87ec9ebf86120465a459b8dee817840ca0d15c0c932d405e744e6c89e33", func := "loop.example/g03113/laws.FnExactShapeOfString", spec := "fnExactShapeOfString", unfollowed := true, recurses := true, apart := false, narrowed := true }
def FnExactShapeOfStringUptoSaid : Prop := fnExactShapeOfStringUptoRow.holds Try.pinned (OpenSpec.upto fnExactShapeOfStringSpec)

/-- 'laws.FnExactPuzzleOk', WHERE WHAT IT READS IS OF BULK AT MOST 1048576: true; the input reads as it did. -/
def fnExactPuzzleOkUptoRow : OpenClaim := { program := "ytdappakjbclffaa", sum := "627ab87ec9ebf86120465a459b8dee817840ca0d15c0c932d405e744e6c89e33", func := "loop.example/g03113/laws.FnExactPuzzleOk", spec := "fnExactPuzzleOk", unfollowed := true, recurses := true, apart := false, narrowed := true }
def FnExactPuzzleOkUptoSaid : Prop := fnExactPuzzleOkUptoRow.holds Try.pinned (OpenSpec.upto fnExactPuzzleOkSpec)

/-- 'laws.FnExactWeightedOk', WHERE WHAT IT READS IS OF BULK AT MOST 1048576: true; the input reads as it did. -/
def fnExactWeightedOkUptoRow : OpenClaim := { program := "ytdappakjbclffaa", sum := "627ab87ec9ebf86120465a459b8dee817840ca0d15c0c932d405e744e6c89e33", func := "loop.example/g03113/laws.FnExactWeightedOk", spec := "fnExactWeightedOk", unfollowed := true, recurses := true, apart := false, narrowed := true }
def FnExactWeightedOkUptoSaid : Prop := fnExactWeightedOkUptoRow.holds Try.pinned (OpenSpec.upto fnExactWeightedOkSpec)

/-- 'laws.FnExactSidesOf', WHERE WHAT IT READS IS OF BULK AT MOST 1048576: true; the input reads as it did. -/
def fnExactSidesOfUptoRow : OpenClaim := { program := "ytdappakjbclffaa", sum := "627ab87ec9ebf86120465a459b8dee817840ca0d15c0c932d405e744e6c89e33", func := "loop.example/g03113/laws.FnExactSidesOf", spec := "fnExactSidesOf", unfollowed := true, recurses := true, apart := false, narrowed := true }
def FnExactSidesOfUptoSaid : Prop := fnExactSidesOfUptoRow.holds Try.pinned (OpenSpec.upto fnExactSidesOfSpec)

/-- 'laws.FnExactRotatePuzzle', WHERE WHAT IT READS IS OF BULK AT MOST 1048576: true; the input reads as it did. -/
def fnExactRotatePuzzleUptoRow : OpenClaim := { program := "ytdappakjbclffaa", sum := "627ab87ec9ebf86120465a459b8dee817840ca0d15c0c932d405e744e6c89e33", func := "loop.example/g03113/laws.FnExactRotatePuzzle", spec := "fnExactRotatePuzzle", unfollowed := true, recurses := true, apart := false, narrowed := true }
def FnExactRotatePuzzleUptoSaid : Prop := fnExactRotatePuzzleUptoRow.holds Try.pinned (OpenSpec.upto fnExactRotatePuzzleSpec)

/-- 'laws.FnExactMirrorPuzzle', WHERE WHAT IT READS IS OF BULK AT MOST 1048576: true; the input reads as it did. -/
def fnExactMirrorPuzzleUptoRow : OpenClaim := { program := "ytdappakjbclffaa", sum := "627ab87ec9ebf86120465a459b8dee817840ca0d15c0c932d405e744e6c89e33", func := "loop.example/g03113/laws.FnExactMirrorPuzzle", spec := "fnExactMirrorPuzzle", unfollowed := true, recurses := true, apart := false, narrowed := true }
def FnExactMirrorPuzzleUptoSaid : Prop := fnExactMirrorPuzzleUptoRow.holds Try.pinned (OpenSpec.upto fnExactMirrorPuzzleSpec)

/-- 'laws.FnExactPuzzleWeight', WHERE WHAT IT READS IS OF BULK AT MOST 1048576: true; the input reads as it did. -/
def fnExactPuzzleWeightUptoRow : OpenClaim := { program := "ytdappakjbclffaa", sum := "627ab87ec9ebf86120465a459b8dee817840ca0d15c0c932d405e744e6c89e33", func := "loop.example/g03113/laws.FnExactPuzzleWeight", spec := "fnExactPuzzleWeight", unfollowed := true, recurses := true, apart := false, narrowed := true }
def FnExactPuzzleWeightUptoSaid : Prop := fnExactPuzzleWeightUptoRow.holds Try.pinned (OpenSpec.upto fnExactPuzzleWeightSpec)

/-- 'laws.FnExactInsertNumber', WHERE WHAT IT READS IS OF BULK AT MOST 1048576: true; the input reads as it did. -/
def fnExactInsertNumberUptoRow : OpenClaim := { program := "ytdappakjbclffaa", sum := "627ab87ec9ebf86120465a459b8dee817840ca0d15c0c932d405e744e6c89e33", func := "loop.example/g03113/laws.FnExactInsertNumber", spec := "fnExactInsertNumber", unfollowed := true, recurses := true, apart := false, narrowed := true }
def FnExactInsertNumberUptoSaid : Prop := fnExactInsertNumberUptoRow.holds Try.pinned (OpenSpec.upto fnExactInsertNumberSpec)

/-- 'laws.FnExactShapesIn', WHERE WHAT IT READS IS OF BULK AT MOST 1048576: true; the input reads as it did. -/
def fnExactShapesInUptoRow : OpenClaim := { program := "ytdappakjbclffaa", sum := "627ab87ec9ebf86120465a459b8dee817840ca0d15c0c932d405e744e6c89e33", func := "loop.example/g03113/laws.FnExactShapesIn", spec := "fnExactShapesIn", recurses := true, apart := false, narrowed := true }
def FnExactShapesInUptoSaid : Prop := fnExactShapesInUptoRow.holds Try.pinned (OpenSpec.upto fnExactShapesInSpec)

/-- 'laws.FnSquares', WHERE WHAT IT READS IS OF BULK AT MOST 1048576: true; the input reads as it did. -/
def fnSquaresUptoRow : OpenClaim := { program := "ytdappakjbclffaa", sum := "627ab87ec9ebf86120465a459b8dee817840ca0d15c0c932d405e744e6c89e33", func := "loop.example/g03113/laws.FnSquares", spec := "fnSquares", recurses := true, apart := false, narrowed := true }
def FnSquaresUptoSaid : Prop := fnSquaresUptoRow.holds Try.pinned (OpenSpec.upto fnSquaresSpec)

end Rows
end Go.Proofs.Ytdappakjbclffaa
