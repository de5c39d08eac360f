/-
  No cell of these rows narrows 'for every input' (looked for: loops, veiled, ifaces, maps, wideKeys, modest, calm, conditions, laid).
  DERIVED. THE GIVEN ROWS OF THIS SEAT. 12 by the template 'for every input the law returns true; each argument reads behind the call as it read before'; 0 by the template 'total and deterministic' (their statements: YthinbmjcdcmioaaTotals.lean).
  GIVEN WITH THE SEED: the statements are not yours to turn. If you find one false, say at which input.
  Laid BY PROGRAM, IN A SANDBOX (cutbox-rows.mjs): the forced cells as the released guide's own fill.sh prints them over the translation 0e033b0560410fea… (all of the seat's roots in one cut). By AI agents, Wed Nov 11 2026. No macro, syntax, notation, axiom, sorry.
-/
import Derived.Test.YthinbmjcdcmioaaChecked
import GoSem.Claim
import GoSem.ClaimJoined
import GoSem.ClaimMapViews
import Derived.JoinedTies
import Derived.KernelRfl
namespace Go.Proofs.Ythinbmjcdcmioaa
/- THE CELL 'sum', in the pinned program and in every row, IS THE sha256 OF THE DUMP (.gsa) THAT YthinbmjcdcmioaaProg.lean LOADS. Nothing in Lean hashes anything: it is a label: what it is worth is what the hold of that sum in a sandbox is worth. -/
noncomputable def Try.pinned : Pinned := { name := "ythinbmjcdcmioaa", sum := "0e033b0560410feaf8cca3ca42d6c2716081fabab22521333fdb3f91583fb331", checked := Try.checked }
namespace Rows
def none {H : Type} : Left H := { results := [], args := [] }

/-- 'laws.FnExactIsShape': WHATEVER THE INPUT: true; the input reads as it did. -/
def fnExactIsShapeSpec : ChangeSpec := { name := "fnExactIsShape", fn := fun _ => fun
  | [d] => { results := [.lit (.bool true)], args := [d] }
  | _ => none }
def fnExactIsShapeRow : OpenClaim := { program := "ythinbmjcdcmioaa", sum := "0e033b0560410feaf8cca3ca42d6c2716081fabab22521333fdb3f91583fb331", func := "loop.example/g03113/laws.FnExactIsShape", spec := "fnExactIsShape", apart := false }
def FnExactIsShapeSaid : Prop := fnExactIsShapeRow.holds Try.pinned (OpenSpec.ofChange fnExactIsShapeSpec)

/-- ITS FALSE NEIGHBOUR: 'it returns false'. Refute it at one input. -/
def fnExactIsShapeWrong : ChangeSpec := { name := "fnExactIsShape", fn := fun _ => fun
  | [d] => { results := [.lit (.bool false)], args := [d] }
  | _ => none }
def FnExactIsShapeWrongFalsely : Prop := fnExactIsShapeRow.holds Try.pinned (OpenSpec.ofChange fnExactIsShapeWrong)

/-- 'laws.FnExactConjugateShape': WHATEVER THE INPUT: true; the input reads as it did. -/
def fnExactConjugateShapeSpec : ChangeSpec := { name := "fnExactConjugateShape", fn := fun _ => fun
  | [d] => { results := [.lit (.bool true)], args := [d] }
  | _ => none }
def fnExactConjugateShapeRow : OpenClaim := { program := "ythinbmjcdcmioaa", sum := "0e033b0560410feaf8cca3ca42d6c2716081fabab22521333fdb3f91583fb331", func := "loop.example/g03113/laws.FnExactConjugateShape", spec := "fnExactConjugateShape", apart := false }
def FnExactConjugateShapeSaid : Prop := fnExactConjugateShapeRow.holds Try.pinned (OpenSpec.ofChange fnExactConjugateShapeSpec)

/-- ITS FALSE NEIGHBOUR: 'it returns false'. Refute it at one input. -/
def fnExactConjugateShapeWrong : ChangeSpec := { name := "fnExactConjugateShape", fn := fun _ => fun
  | [d] => { results := [.lit (.bool false)], args := [d] }
  | _ => none }
def FnExactConjugateShapeWrongFalsely : Prop := fnExactConjugateShapeRow.holds Try.pinned (OpenSpec.ofChange fnExactConjugateShapeWrong)

/-- 'laws.FnExactContainsShape': WHATEVER THE INPUT: true; the input reads as it did. -/
def fnExactContainsShapeSpec : ChangeSpec := { name := "fnExactContainsShape", fn := fun _ => fun
  | [d1, d2] => { results := [.lit (.bool true)], args := [d1, d2] }
  | _ => none }
def fnExactContainsShapeRow : OpenClaim := { program := "ythinbmjcdcmioaa", sum := "0e033b0560410feaf8cca3ca42d6c2716081fabab22521333fdb3f91583fb331", func := "loop.example/g03113/laws.FnExactContainsShape", spec := "fnExactContainsShape", apart := false }
def FnExactContainsShapeSaid : Prop := fnExactContainsShapeRow.holds Try.pinned (OpenSpec.ofChange fnExactContainsShapeSpec)

/-- ITS FALSE NEIGHBOUR: 'it returns false'. Refute it at one input. -/
def fnExactContainsShapeWrong : ChangeSpec := { name := "fnExactContainsShape", fn := fun _ => fun
  | [d1, d2] => { results := [.lit (.bool false)], args := [d1, d2] }
  | _ => none }
def FnExactContainsShapeWrongFalsely : Prop := fnExactContainsShapeRow.holds Try.pinned (OpenSpec.ofChange fnExactContainsShapeWrong)

/-- 'laws.FnExactTableauOk': WHATEVER THE INPUT: true; the input reads as it did. -/
def fnExactTableauOkSpec : ChangeSpec := { name := "fnExactTableauOk", fn := fun _ => fun
  | [d] => { results := [.lit (.bool true)], args := [d] }
  | _ => none }
def fnExactTableauOkRow : OpenClaim := { program := "ythinbmjcdcmioaa", sum := "0e033b0560410feaf8cca3ca42d6c2716081fabab22521333fdb3f91583fb331", func := "loop.example/g03113/laws.FnExactTableauOk", spec := "fnExactTableauOk", apart := false }
def FnExactTableauOkSaid : Prop := fnExactTableauOkRow.holds Try.pinned (OpenSpec.ofChange fnExactTableauOkSpec)

/-- ITS FALSE NEIGHBOUR: 'it returns false'. Refute it at one input. -/
def fnExactTableauOkWrong : ChangeSpec := { name := "fnExactTableauOk", fn := fun _ => fun
  | [d] => { results := [.lit (.bool false)], args := [d] }
  | _ => none }
def FnExactTableauOkWrongFalsely : Prop := fnExactTableauOkRow.holds Try.pinned (OpenSpec.ofChange fnExactTableauOkWrong)

/-- 'laws.FnExactPartsOk': WHATEVER THE INPUT: true; the input reads as it did. -/
def fnExactPartsOkSpec : ChangeSpec := { name := "fnExactPartsOk", fn := fun _ => fun
  | [d] => { results := [.lit (.bool true)], args := [d] }
  | _ => none }
def fnExactPartsOkRow : OpenClaim := { program := "ythinbmjcdcmioaa", sum := "0e033b0560410feaf8cca3ca42d6c2716081fabab22521333fdb3f91583fb331", func := "loop.example/g03113/laws.FnExactPartsOk", spec := "fnExactPartsOk", apart := false }
def FnExactPartsOkSaid : Prop := fnExactPartsOkRow.holds Try.pinned (OpenSpec.ofChange fnExactPartsOkSpec)

/-- ITS FALSE NEIGHBOUR: 'it returns false'. Refute it at one input. -/
def fnExactPartsOkWrong : ChangeSpec := { name := "fnExactPartsOk", fn := fun _ => fun
  | [d] => { results := [.lit (.bool false)], args := [d] }
  | _ => none }
def FnExactPartsOkWrongFalsely : Prop := fnExactPartsOkRow.holds Try.pinned (OpenSpec.ofChange fnExactPartsOkWrong)

/-- 'laws.FnExactShapeOfPerm': WHATEVER THE INPUT: true; the input reads as it did. -/
def fnExactShapeOfPermSpec : ChangeSpec := { name := "fnExactShapeOfPerm", fn := fun _ => fun
  | [d] => { results := [.lit (.bool true)], args := [d] }
  | _ => none }
def fnExactShapeOfPermRow : OpenClaim := { program := "ythinbmjcdcmioaa", sum := "0e033b0560410feaf8cca3ca42d6c2716081fabab22521333fdb3f91583fb331", func := "loop.example/g03113/laws.FnExactShapeOfPerm", spec := "fnExactShapeOfPerm", apart := false }
def FnExactShapeOfPermSaid : Prop := fnExactShapeOfPermRow.holds Try.pinned (OpenSpec.ofChange fnExactShapeOfPermSpec)

/-- ITS FALSE NEIGHBOUR: 'it returns false'. Refute it at one input. -/
def fnExactShapeOfPermWrong : ChangeSpec := { name := "fnExactShapeOfPerm", fn := fun _ => fun
  | [d] => { results := [.lit (.bool false)], args := [d] }
  | _ => none }
def FnExactShapeOfPermWrongFalsely : Prop := fnExactShapeOfPermRow.holds Try.pinned (OpenSpec.ofChange fnExactShapeOfPermWrong)

/-- 'laws.FnExactGrassmannianPerm': WHATEVER THE INPUT: true; the input reads as it did. -/
def fnExactGrassmannianPermSpec : ChangeSpec := { name := "fnExactGrassmannianPerm", fn := fun _ => fun
  | [d1, d2, d3] => { results := [.lit (.bool true)], args := [d1, d2, d3] }
  | _ => none }
def fnExactGrassmannianPermRow : OpenClaim := { program := "ythinbmjcdcmioaa", sum := "0e033b0560410feaf8cca3ca42d6c2716081fabab22521333fdb3f91583fb331", func := "loop.example/g03113/laws.FnExactGrassmannianPerm", spec := "fnExactGrassmannianPerm", apart := false }
def FnExactGrassmannianPermSaid : Prop := fnExactGrassmannianPermRow.holds Try.pinned (OpenSpec.ofChange fnExactGrassmannianPermSpec)

/-- ITS FALSE NEIGHBOUR: 'it returns false'. Refute it at one input. -/
def fnExactGrassmannianPermWrong : ChangeSpec := { name := "fnExactGrassmannianPerm", fn := fun _ => fun
  | [d1, d2, d3] => { results := [.lit (.bool false)], args := [d1, d2, d3] }
  | _ => none }
def FnExactGrassmannianPermWrongFalsely : Prop := fnExactGrassmannianPermRow.holds Try.pinned (OpenSpec.ofChange fnExactGrassmannianPermWrong)

/-- 'laws.FnExactStandardCount': WHATEVER THE INPUT: true; the input reads as it did. -/
def fnExactStandardCountSpec : ChangeSpec := { name := "fnExactStandardCount", fn := fun _ => fun
  | [d] => { results := [.lit (.bool true)], args := [d] }
  | _ => none }
def fnExactStandardCountRow : OpenClaim := { program := "ythinbmjcdcmioaa", sum := "0e033b0560410feaf8cca3ca42d6c2716081fabab22521333fdb3f91583fb331", func := "loop.example/g03113/laws.FnExactStandardCount", spec := "fnExactStandardCount", apart := false }
def FnExactStandardCountSaid : Prop := fnExactStandardCountRow.holds Try.pinned (OpenSpec.ofChange fnExactStandardCountSpec)

/-- ITS FALSE NEIGHBOUR: 'it returns false'. Refute it at one input. -/
def fnExactStandardCountWrong : ChangeSpec := { name := "fnExactStandardCount", fn := fun _ => fun
  | [d] => { results := [.lit (.bool false)], args := [d] }
  | _ => none }
def FnExactStandardCountWrongFalsely : Prop := fnExactStandardCountRow.holds Try.pinned (OpenSpec.ofChange fnExactStandardCountWrong)

/-- 'laws.FnExactInsertNumber': WHATEVER THE INPUT: true; the input reads as it did. -/
def fnExactInsertNumberSpec : ChangeSpec := { name := "fnExactInsertNumber", fn := fun _ => fun
  | [d1, d2] => { results := [.lit (.bool true)], args := [d1, d2] }
  | _ => none }
def fnExactInsertNumberRow : OpenClaim := { program := "ythinbmjcdcmioaa", sum := "0e033b0560410feaf8cca3ca42d6c2716081fabab22521333fdb3f91583fb331", func := "loop.example/g03113/laws.FnExactInsertNumber", spec := "fnExactInsertNumber", unfollowed := true, recurses := true, apart := false }
def FnExactInsertNumberSaid : Prop := fnExactInsertNumberRow.holds Try.pinned (OpenSpec.ofChange fnExactInsertNumberSpec)

/-- ITS FALSE NEIGHBOUR: 'it returns false'. Refute it at one input. -/
def fnExactInsertNumberWrong : ChangeSpec := { name := "fnExactInsertNumber", fn := fun _ => fun
  | [d1, d2] => { results := [.lit (.bool false)], args := [d1, d2] }
  | _ => none }
def FnExactInsertNumberWrongFalsely : Prop := fnExactInsertNumberRow.holds Try.pinned (OpenSpec.ofChange fnExactInsertNumberWrong)

/-- 'laws.FnExactShapesIn': WHATEVER THE INPUT: true; the input reads as it did. -/
def fnExactShapesInSpec : ChangeSpec := { name := "fnExactShapesIn", fn := fun _ => fun
  | [d1, d2] => { results := [.lit (.bool true)], args := [d1, d2] }
  | _ => none }
def fnExactShapesInRow : OpenClaim := { program := "ythinbmjcdcmioaa", sum := "0e033b0560410feaf8cca3ca42d6c2716081fabab22521333fdb3f91583fb331", func := "loop.example/g03113/laws.FnExactShapesIn", spec := "fnExactShapesIn", recurses := true, apart := false }
def FnExactShapesInSaid : Prop := fnExactShapesInRow.holds Try.pinned (OpenSpec.ofChange fnExactShapesInSpec)

/-- ITS FALSE NEIGHBOUR: 'it returns false'. Refute it at one input. -/
def fnExactShapesInWrong : ChangeSpec := { name := "fnExactShapesIn", fn := fun _ => fun
  | [d1, d2] => { results := [.lit (.bool false)], args := [d1, d2] }
  | _ => none }
def FnExactShapesInWrongFalsely : Prop := fnExactShapesInRow.holds Try.pinned (OpenSpec.ofChange fnExactShapesInWrong)

/-- 'laws.FnSquares': WHATEVER THE INPUT: true; the input reads as it did. -/
def fnSquaresSpec : ChangeSpec := { name := "fnSquares", fn := fun _ => fun
  | [d] => { results := [.lit (.bool true)], args := [d] }
  | _ => none }
def fnSquaresRow : OpenClaim := { program := "ythinbmjcdcmioaa", sum := "0e033b0560410feaf8cca3ca42d6c2716081fabab22521333fdb3f91583fb331", func := "loop.example/g03113/laws.FnSquares", spec := "fnSquares", recurses := true, apart := false }
def FnSquaresSaid : Prop := fnSquaresRow.holds Try.pinned (OpenSpec.ofChange fnSquaresSpec)

/-- ITS FALSE NEIGHBOUR: 'it returns false'. Refute it at one input. -/
def fnSquaresWrong : ChangeSpec := { name := "fnSquares", fn := fun _ => fun
  | [d] => { results := [.lit (.bool false)], args := [d] }
  | _ => none }
def FnSquaresWrongFalsely : Prop := fnSquaresRow.holds Try.pinned (OpenSpec.ofChange fnSquaresWrong)

/-- 'laws.FnExactClassesOk': WHATEVER THE INPUT: true; the input reads as it did. -/
def fnExactClassesOkSpec : ChangeSpec := { name := "fnExactClassesOk", fn := fun _ => fun
  | [d] => { results := [.lit (.bool true)], args := [d] }
  | _ => none }
def fnExactClassesOkRow : OpenClaim := { program := "ythinbmjcdcmioaa", sum := "0e033b0560410feaf8cca3ca42d6c2716081fabab22521333fdb3f91583fb331", func := "loop.example/g03113/laws.FnExactClassesOk", spec := "fnExactClassesOk", apart := false }
def FnExactClassesOkSaid : Prop := fnExactClassesOkRow.holds Try.pinned (OpenSpec.ofChange fnExactClassesOkSpec)

/-- ITS FALSE NEIGHBOUR: 'it returns false'. Refute it at one input. -/
def fnExactClassesOkWrong : ChangeSpec := { name := "fnExactClassesOk", fn := fun _ => fun
  | [d] => { results := [.lit (.bool false)], args := [d] }
  | _ => none }
def FnExactClassesOkWrongFalsely : Prop := fnExactClassesOkRow.holds Try.pinned (OpenSpec.ofChange fnExactClassesOkWrong)

/- THE SECOND FORM. 'bulk': how many values and letters a reading holds, each counted each time it is reached (what is shared counts as often as it is met; a slice's spare places count too). A statement '..UptoSaid' is the law's where the arguments, and the package variables that the reading takes, are together of bulk at most 1048576: NARROWER than '..Said'. Prove '..Said' where nothing that the law and all that it calls make is longer than what came in: it says more and counts as full. Else prove '..UptoSaid'. A law counts once. -/
mutual
def uptoBulk {H : Type} : DataW H → Nat
  | .lit (.string bytes) => bytes.length + 1
  | .lit _ => 1
  | .nil => 1
  | .ptr d => uptoBulk d + 1
  | .slice elems spare => uptoBulkAll elems + uptoBulkAll spare + 1
  | .agg parts => uptoBulkAll parts + 1
  | .iface _ d => uptoBulk d + 1
  | .map entries => uptoBulkEntries entries + 1
  | .held _ => 1
def uptoBulkAll {H : Type} : List (DataW H) → Nat
  | [] => 0
  | d :: r => uptoBulk d + uptoBulkAll r
def uptoBulkEntries {H : Type} : List (Lit × DataW H) → Nat
  | [] => 0
  | x :: r => uptoBulkEntry x + uptoBulkEntries r
def uptoBulkEntry {H : Type} : Lit × DataW H → Nat
  | (.string bytes, d) => bytes.length + uptoBulk d + 1
  | (_, d) => uptoBulk d + 1
 end
def uptoSmall : (H : Type) → List (DataW H) → Bool := fun _ ds => decide (uptoBulkAll ds ≤ 1048576)
def OpenSpec.upto (s : _root_.Go.ChangeSpec) : _root_.Go.OpenSpec := { _root_.Go.OpenSpec.ofChange s with cond := some uptoSmall }

/-- 'laws.FnExactIsShape', WHERE WHAT IT READS IS OF BULK AT MOST 1048576: true; the input reads as it did. -/
def fnExactIsShapeUptoRow : OpenClaim := { program := "ythinbmjcdcmioaa", sum := "0e033b0560410feaf8cca3ca42d6c2716081fabab22521333fdb3f91583fb331", func := "loop.example/g03113/laws.FnExactIsShape", spec := "fnExactIsShape", apart := false, narrowed := true }
def FnExactIsShapeUptoSaid : Prop := fnExactIsShapeUptoRow.holds Try.pinned (OpenSpec.upto fnExactIsShapeSpec)

/-- 'laws.FnExactConjugateShape', WHERE WHAT IT READS IS OF BULK AT MOST 1048576: true; the input reads as it did. -/
def fnExactConjugateShapeUptoRow : OpenClaim := { program := "ythinbmjcdcmioaa", sum := "0e033b0560410feaf8cca3ca42d6c2716081fabab22521333fdb3f91583fb331", func := "loop.example/g03113/laws.FnExactConjugateShape", spec := "fnExactConjugateShape", apart := false, narrowed := true }
def FnExactConjugateShapeUptoSaid : Prop := fnExactConjugateShapeUptoRow.holds Try.pinned (OpenSpec.upto fnExactConjugateShapeSpec)

/-- 'laws.FnExactContainsShape', WHERE WHAT IT READS IS OF BULK AT MOST 1048576: true; the input reads as it did. -/
def fnExactContainsShapeUptoRow : OpenClaim := { program := "ythinbmjcdcmioaa", sum := "0e033b0560410feaf8cca3ca42d6c2716081fabab22521333fdb3f91583fb331", func := "loop.example/g03113/laws.FnExactContainsShape", spec := "fnExactContainsShape", apart := false, narrowed := true }
def FnExactContainsShapeUptoSaid : Prop := fnExactContainsShapeUptoRow.holds Try.pinned (OpenSpec.upto fnExactContainsShapeSpec)

/-- 'laws.FnExactTableauOk', WHERE WHAT IT READS IS OF BULK AT MOST 1048576: true; the input reads as it did. -/
def fnExactTableauOkUptoRow : OpenClaim := { program := "ythinbmjcdcmioaa", sum := "0e033b0560410feaf8cca3ca42d6c2716081fabab22521333fdb3f91583fb331", func := "loop.example/g03113/laws.FnExactTableauOk", spec := "fnExactTableauOk", apart := false, narrowed := true }
def FnExactTableauOkUptoSaid : Prop := fnExactTableauOkUptoRow.holds Try.pinned (OpenSpec.upto fnExactTableauOkSpec)

/-- 'laws.FnExactPartsOk', WHERE WHAT IT READS IS OF BULK AT MOST 1048576: true; the input reads as it did. -/
def fnExactPartsOkUptoRow : OpenClaim := { program := "ythinbmjcdcmioaa", sum := "0e033b0560410feaf8cca3ca42d6c2716081fabab22521333fdb3f91583fb331", func := "loop.example/g03113/laws.FnExactPartsOk", spec := "fnExactPartsOk", apart := false, narrowed := true }
def FnExactPartsOkUptoSaid : Prop := fnExactPartsOkUptoRow.holds Try.pinned (OpenSpec.upto fnExactPartsOkSpec)

/-- 'laws.FnExactShapeOfPerm', WHERE WHAT IT READS IS OF BULK AT MOST 1048576: true; the input reads as it did. -/
def fnExactShapeOfPermUptoRow : OpenClaim := { program := "ythinbmjcdcmioaa", sum := "0e033b0560410feaf8cca3ca42d6c2716081fabab22521333fdb3f91583fb331", func := "loop.example/g03113/laws.FnExactShapeOfPerm", spec := "fnExactShapeOfPerm", apart := false, narrowed := true }
def FnExactShapeOfPermUptoSaid : Prop := fnExactShapeOfPermUptoRow.holds Try.pinned (OpenSpec.upto fnExactShapeOfPermSpec)

/-- 'laws.FnExactGrassmannianPerm', WHERE WHAT IT READS IS OF BULK AT MOST 1048576: true; the input reads as it did. -/
def fnExactGrassmannianPermUptoRow : OpenClaim := { program := "ythinbmjcdcmioaa", sum := "0e033b0560410feaf8cca3ca42d6c2716081fabab22521333fdb3f91583fb331", func := "loop.example/g03113/laws.FnExactGrassmannianPerm", spec := "fnExactGrassmannianPerm", apart := false, narrowed := true }
def FnExactGrassmannianPermUptoSaid : Prop := fnExactGrassmannianPermUptoRow.holds Try.pinned (OpenSpec.upto fnExactGrassmannianPermSpec)

/-- 'laws.FnExactStandardCount', WHERE WHAT IT READS IS OF BULK AT MOST 1048576: true; the input reads as it did. -/
def fnExactStandardCountUptoRow : OpenClaim := { program := "ythinbmjcdcmioaa", sum := "0e033b0560410feaf8cca3ca42d6c2716081fabab22521333fdb3f91583fb331", func := "loop.example/g03113/laws.FnExactStandardCount", spec := "fnExactStandardCount", apart := false, narrowed := true }
def FnExactStandardCountUptoSaid : Prop := fnExactStandardCountUptoRow.holds Try.pinned (OpenSpec.upto fnExactStandardCountSpec)

/-- 'laws.FnExactInsertNumber', WHERE WHAT IT READS IS OF BULK AT MOST 1048576: true; the input reads as it did. -/
def fnExactInsertNumberUptoRow : OpenClaim := { program := "ythinbmjcdcmioaa", sum := "0e033b0560410feaf8cca3ca42d6c2716081fabab22521333fdb3f91583fb331", func := "loop.example/g03113/laws.FnExactInsertNumber", spec := "fnExactInsertNumber", unfollowed := true, recurses := true, apart := false, narrowed := true }
def FnExactInsertNumberUptoSaid : Prop := fnExactInsertNumberUptoRow.holds Try.pinned (OpenSpec.upto fnExactInsertNumberSpec)

/-- 'laws.FnExactShapesIn', WHERE WHAT IT READS IS OF BULK AT MOST 1048576: true; the input reads as it did. -/
def fnExactShapesInUptoRow : OpenClaim := { program := "ythinbmjcdcmioaa", sum := "0e033b0560410feaf8cca3ca42d6c2716081fabab22521333fdb3f91583fb331", func := "loop.example/g03113/laws.FnExactShapesIn", spec := "fnExactShapesIn", recurses := true, apart := false, narrowed := true }
def FnExactShapesInUptoSaid : Prop := fnExactShapesInUptoRow.holds Try.pinned (OpenSpec.upto fnExactShapesInSpec)

/-- 'laws.FnSquares', WHERE WHAT IT READS IS OF BULK AT MOST 1048576: true; the input reads as it did. -/
def fnSquaresUptoRow : OpenClaim := { program := "ythinbmjcdcmioaa", sum := "0e033b0560410feaf8cca3ca42d6c2716081fabab22521333fdb3f91583fb331", func := "loop.example/g03113/laws.FnSquares", spec := "fnSquares", recurses := true, apart := false, narrowed := true }
def FnSquaresUptoSaid : Prop := fnSquaresUptoRow.holds Try.pinned (OpenSpec.upto fnSquaresSpec)

/-- 'laws.FnExactClassesOk', WHERE WHAT IT READS IS OF BULK AT MOST 1048576: true; the input reads as it did. -/
def fnExactClassesOkUptoRow : OpenClaim := { program := "ythinbmjcdcmioaa", sum := "0e033b0560410feaf8cca3ca42d6c2716081fabab22521333fdb3f91583fb331", func := "loop.example/g03113/laws.FnExactClassesOk", spec := "fnExactClassesOk", apart := false, narrowed := true }
def FnExactClassesOkUptoSaid : Prop := fnExactClassesOkUptoRow.holds Try.pinned (OpenSpec.upto fnExactClassesOkSpec)

end Rows
end Go.Proofs.Ythinbmjcdcmioaa
