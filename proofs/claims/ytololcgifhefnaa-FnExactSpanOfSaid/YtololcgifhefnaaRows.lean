/-
  No cell of these rows narrows 'for every input' (looked for: loops, veiled, ifaces, maps, wideKeys, modest, calm, conditions, laid).
  DERIVED. THE GIVEN ROWS OF THIS SEAT. 12 by the template 'for every input the law returns true; each argument reads behind the call as it read before'; 0 by the template 'total and deterministic' (their statements: YtololcgifhefnaaTotals.lean).
  GIVEN WITH THE SEED: the statements are not yours to turn. If you find one false, say at which input.
  Laid BY PROGRAM, IN A SANDBOX (cutbox-rows.mjs): the forced cells as the released guide's own fill.sh prints them over the translation f0cd08ceef081e5c… (all of the seat's roots in one cut). By AI agents, Wed Nov 11 2026. No macro, syntax, notation, axiom, sorry.
-/
import Derived.Test.YtololcgifhefnaaChecked
import GoSem.Claim
import GoSem.ClaimJoined
import GoSem.ClaimMapViews
import Derived.JoinedTies
import Derived.KernelRfl
namespace Go.Proofs.Ytololcgifhefnaa
/- THE CELL 'sum', in the pinned program and in every row, IS THE sha256 OF THE DUMP (.gsa) THAT YtololcgifhefnaaProg.lean LOADS. Nothing in Lean hashes anything: it is a label: what it is worth is what the hold of that sum in a sandbox is worth. -/
noncomputable def Try.pinned : Pinned := { name := "ytololcgifhefnaa", sum := "f0cd08ceef081e5cea790755bdc6c869d9ba6ddac60f306f2e77cfb60de7008c", checked := Try.checked }
namespace Rows
def none {H : Type} : Left H := { results := [], args := [] }

/-- 'laws.FnExactMatrixOk': WHATEVER THE INPUT: true; the input reads as it did. -/
def fnExactMatrixOkSpec : ChangeSpec := { name := "fnExactMatrixOk", fn := fun _ => fun
  | [d] => { results := [.lit (.bool true)], args := [d] }
  | _ => none }
def fnExactMatrixOkRow : OpenClaim := { program := "ytololcgifhefnaa", sum := "f0cd08ceef081e5cea790755bdc6c869d9ba6ddac60f306f2e77cfb60de7008c", func := "loop.example/g03113/laws.FnExactMatrixOk", spec := "fnExactMatrixOk", unfollowed := true, recurses := true, apart := false }
def FnExactMatrixOkSaid : Prop := fnExactMatrixOkRow.holds Try.pinned (OpenSpec.ofChange fnExactMatrixOkSpec)

/-- ITS FALSE NEIGHBOUR: 'it returns false'. Refute it at one input. -/
def fnExactMatrixOkWrong : ChangeSpec := { name := "fnExactMatrixOk", fn := fun _ => fun
  | [d] => { results := [.lit (.bool false)], args := [d] }
  | _ => none }
def FnExactMatrixOkWrongFalsely : Prop := fnExactMatrixOkRow.holds Try.pinned (OpenSpec.ofChange fnExactMatrixOkWrong)

/-- 'laws.FnExactPermMatrix': WHATEVER THE INPUT: true; the input reads as it did. -/
def fnExactPermMatrixSpec : ChangeSpec := { name := "fnExactPermMatrix", fn := fun _ => fun
  | [d1, d2] => { results := [.lit (.bool true)], args := [d1, d2] }
  | _ => none }
def fnExactPermMatrixRow : OpenClaim := { program := "ytololcgifhefnaa", sum := "f0cd08ceef081e5cea790755bdc6c869d9ba6ddac60f306f2e77cfb60de7008c", func := "loop.example/g03113/laws.FnExactPermMatrix", spec := "fnExactPermMatrix", apart := false }
def FnExactPermMatrixSaid : Prop := fnExactPermMatrixRow.holds Try.pinned (OpenSpec.ofChange fnExactPermMatrixSpec)

/-- ITS FALSE NEIGHBOUR: 'it returns false'. Refute it at one input. -/
def fnExactPermMatrixWrong : ChangeSpec := { name := "fnExactPermMatrix", fn := fun _ => fun
  | [d1, d2] => { results := [.lit (.bool false)], args := [d1, d2] }
  | _ => none }
def FnExactPermMatrixWrongFalsely : Prop := fnExactPermMatrixRow.holds Try.pinned (OpenSpec.ofChange fnExactPermMatrixWrong)

/-- 'laws.FnExactMulMatrices': WHATEVER THE INPUT: true; the input reads as it did. -/
def fnExactMulMatricesSpec : ChangeSpec := { name := "fnExactMulMatrices", fn := fun _ => fun
  | [d1, d2] => { results := [.lit (.bool true)], args := [d1, d2] }
  | _ => none }
def fnExactMulMatricesRow : OpenClaim := { program := "ytololcgifhefnaa", sum := "f0cd08ceef081e5cea790755bdc6c869d9ba6ddac60f306f2e77cfb60de7008c", func := "loop.example/g03113/laws.FnExactMulMatrices", spec := "fnExactMulMatrices", unfollowed := true, recurses := true, apart := false }
def FnExactMulMatricesSaid : Prop := fnExactMulMatricesRow.holds Try.pinned (OpenSpec.ofChange fnExactMulMatricesSpec)

/-- ITS FALSE NEIGHBOUR: 'it returns false'. Refute it at one input. -/
def fnExactMulMatricesWrong : ChangeSpec := { name := "fnExactMulMatrices", fn := fun _ => fun
  | [d1, d2] => { results := [.lit (.bool false)], args := [d1, d2] }
  | _ => none }
def FnExactMulMatricesWrongFalsely : Prop := fnExactMulMatricesRow.holds Try.pinned (OpenSpec.ofChange fnExactMulMatricesWrong)

/-- 'laws.FnExactRankOf': WHATEVER THE INPUT: true; the input reads as it did. -/
def fnExactRankOfSpec : ChangeSpec := { name := "fnExactRankOf", fn := fun _ => fun
  | [d] => { results := [.lit (.bool true)], args := [d] }
  | _ => none }
def fnExactRankOfRow : OpenClaim := { program := "ytololcgifhefnaa", sum := "f0cd08ceef081e5cea790755bdc6c869d9ba6ddac60f306f2e77cfb60de7008c", func := "loop.example/g03113/laws.FnExactRankOf", spec := "fnExactRankOf", unfollowed := true, recurses := true, apart := false }
def FnExactRankOfSaid : Prop := fnExactRankOfRow.holds Try.pinned (OpenSpec.ofChange fnExactRankOfSpec)

/-- ITS FALSE NEIGHBOUR: 'it returns false'. Refute it at one input. -/
def fnExactRankOfWrong : ChangeSpec := { name := "fnExactRankOf", fn := fun _ => fun
  | [d] => { results := [.lit (.bool false)], args := [d] }
  | _ => none }
def FnExactRankOfWrongFalsely : Prop := fnExactRankOfRow.holds Try.pinned (OpenSpec.ofChange fnExactRankOfWrong)

/-- 'laws.FnExactCornerRank': WHATEVER THE INPUT: true; the input reads as it did. -/
def fnExactCornerRankSpec : ChangeSpec := { name := "fnExactCornerRank", fn := fun _ => fun
  | [d1, d2, d3] => { results := [.lit (.bool true)], args := [d1, d2, d3] }
  | _ => none }
def fnExactCornerRankRow : OpenClaim := { program := "ytololcgifhefnaa", sum := "f0cd08ceef081e5cea790755bdc6c869d9ba6ddac60f306f2e77cfb60de7008c", func := "loop.example/g03113/laws.FnExactCornerRank", spec := "fnExactCornerRank", unfollowed := true, recurses := true, apart := false }
def FnExactCornerRankSaid : Prop := fnExactCornerRankRow.holds Try.pinned (OpenSpec.ofChange fnExactCornerRankSpec)

/-- ITS FALSE NEIGHBOUR: 'it returns false'. Refute it at one input. -/
def fnExactCornerRankWrong : ChangeSpec := { name := "fnExactCornerRank", fn := fun _ => fun
  | [d1, d2, d3] => { results := [.lit (.bool false)], args := [d1, d2, d3] }
  | _ => none }
def FnExactCornerRankWrongFalsely : Prop := fnExactCornerRankRow.holds Try.pinned (OpenSpec.ofChange fnExactCornerRankWrong)

/-- 'laws.FnExactCountSpaces': WHATEVER THE INPUT: true; the input reads as it did. -/
def fnExactCountSpacesSpec : ChangeSpec := { name := "fnExactCountSpaces", fn := fun _ => fun
  | [d1, d2, d3] => { results := [.lit (.bool true)], args := [d1, d2, d3] }
  | _ => none }
def fnExactCountSpacesRow : OpenClaim := { program := "ytololcgifhefnaa", sum := "f0cd08ceef081e5cea790755bdc6c869d9ba6ddac60f306f2e77cfb60de7008c", func := "loop.example/g03113/laws.FnExactCountSpaces", spec := "fnExactCountSpaces", unfollowed := true, recurses := true, apart := false }
def FnExactCountSpacesSaid : Prop := fnExactCountSpacesRow.holds Try.pinned (OpenSpec.ofChange fnExactCountSpacesSpec)

/-- ITS FALSE NEIGHBOUR: 'it returns false'. Refute it at one input. -/
def fnExactCountSpacesWrong : ChangeSpec := { name := "fnExactCountSpaces", fn := fun _ => fun
  | [d1, d2, d3] => { results := [.lit (.bool false)], args := [d1, d2, d3] }
  | _ => none }
def FnExactCountSpacesWrongFalsely : Prop := fnExactCountSpacesRow.holds Try.pinned (OpenSpec.ofChange fnExactCountSpacesWrong)

/-- 'laws.FnExactFlagOk': WHATEVER THE INPUT: true; the input reads as it did. -/
def fnExactFlagOkSpec : ChangeSpec := { name := "fnExactFlagOk", fn := fun _ => fun
  | [d] => { results := [.lit (.bool true)], args := [d] }
  | _ => none }
def fnExactFlagOkRow : OpenClaim := { program := "ytololcgifhefnaa", sum := "f0cd08ceef081e5cea790755bdc6c869d9ba6ddac60f306f2e77cfb60de7008c", func := "loop.example/g03113/laws.FnExactFlagOk", spec := "fnExactFlagOk", unfollowed := true, recurses := true, apart := false }
def FnExactFlagOkSaid : Prop := fnExactFlagOkRow.holds Try.pinned (OpenSpec.ofChange fnExactFlagOkSpec)

/-- ITS FALSE NEIGHBOUR: 'it returns false'. Refute it at one input. -/
def fnExactFlagOkWrong : ChangeSpec := { name := "fnExactFlagOk", fn := fun _ => fun
  | [d] => { results := [.lit (.bool false)], args := [d] }
  | _ => none }
def FnExactFlagOkWrongFalsely : Prop := fnExactFlagOkRow.holds Try.pinned (OpenSpec.ofChange fnExactFlagOkWrong)

/-- 'laws.FnExactNormalFlag': WHATEVER THE INPUT: true; the input reads as it did. -/
def fnExactNormalFlagSpec : ChangeSpec := { name := "fnExactNormalFlag", fn := fun _ => fun
  | [d] => { results := [.lit (.bool true)], args := [d] }
  | _ => none }
def fnExactNormalFlagRow : OpenClaim := { program := "ytololcgifhefnaa", sum := "f0cd08ceef081e5cea790755bdc6c869d9ba6ddac60f306f2e77cfb60de7008c", func := "loop.example/g03113/laws.FnExactNormalFlag", spec := "fnExactNormalFlag", unfollowed := true, recurses := true, apart := false }
def FnExactNormalFlagSaid : Prop := fnExactNormalFlagRow.holds Try.pinned (OpenSpec.ofChange fnExactNormalFlagSpec)

/-- ITS FALSE NEIGHBOUR: 'it returns false'. Refute it at one input. -/
def fnExactNormalFlagWrong : ChangeSpec := { name := "fnExactNormalFlag", fn := fun _ => fun
  | [d] => { results := [.lit (.bool false)], args := [d] }
  | _ => none }
def FnExactNormalFlagWrongFalsely : Prop := fnExactNormalFlagRow.holds Try.pinned (OpenSpec.ofChange fnExactNormalFlagWrong)

/-- 'laws.FnExactFlagPerm': WHATEVER THE INPUT: true; the input reads as it did. -/
def fnExactFlagPermSpec : ChangeSpec := { name := "fnExactFlagPerm", fn := fun _ => fun
  | [d] => { results := [.lit (.bool true)], args := [d] }
  | _ => none }
def fnExactFlagPermRow : OpenClaim := { program := "ytololcgifhefnaa", sum := "f0cd08ceef081e5cea790755bdc6c869d9ba6ddac60f306f2e77cfb60de7008c", func := "loop.example/g03113/laws.FnExactFlagPerm", spec := "fnExactFlagPerm", unfollowed := true, recurses := true, apart := false }
def FnExactFlagPermSaid : Prop := fnExactFlagPermRow.holds Try.pinned (OpenSpec.ofChange fnExactFlagPermSpec)

/-- ITS FALSE NEIGHBOUR: 'it returns false'. Refute it at one input. -/
def fnExactFlagPermWrong : ChangeSpec := { name := "fnExactFlagPerm", fn := fun _ => fun
  | [d] => { results := [.lit (.bool false)], args := [d] }
  | _ => none }
def FnExactFlagPermWrongFalsely : Prop := fnExactFlagPermRow.holds Try.pinned (OpenSpec.ofChange fnExactFlagPermWrong)

/-- 'laws.FnExactSpanOf': WHATEVER THE INPUT: true; the input reads as it did. -/
def fnExactSpanOfSpec : ChangeSpec := { name := "fnExactSpanOf", fn := fun _ => fun
  | [d] => { results := [.lit (.bool true)], args := [d] }
  | _ => none }
def fnExactSpanOfRow : OpenClaim := { program := "ytololcgifhefnaa", sum := "f0cd08ceef081e5cea790755bdc6c869d9ba6ddac60f306f2e77cfb60de7008c", func := "loop.example/g03113/laws.FnExactSpanOf", spec := "fnExactSpanOf", unfollowed := true, recurses := true, apart := false }
def FnExactSpanOfSaid : Prop := fnExactSpanOfRow.holds Try.pinned (OpenSpec.ofChange fnExactSpanOfSpec)

/-- ITS FALSE NEIGHBOUR: 'it returns false'. Refute it at one input. -/
def fnExactSpanOfWrong : ChangeSpec := { name := "fnExactSpanOf", fn := fun _ => fun
  | [d] => { results := [.lit (.bool false)], args := [d] }
  | _ => none }
def FnExactSpanOfWrongFalsely : Prop := fnExactSpanOfRow.holds Try.pinned (OpenSpec.ofChange fnExactSpanOfWrong)

/-- 'laws.FnExactIsSpace': WHATEVER THE INPUT: true; the input reads as it did. -/
def fnExactIsSpaceSpec : ChangeSpec := { name := "fnExactIsSpace", fn := fun _ => fun
  | [d] => { results := [.lit (.bool true)], args := [d] }
  | _ => none }
def fnExactIsSpaceRow : OpenClaim := { program := "ytololcgifhefnaa", sum := "f0cd08ceef081e5cea790755bdc6c869d9ba6ddac60f306f2e77cfb60de7008c", func := "loop.example/g03113/laws.FnExactIsSpace", spec := "fnExactIsSpace", unfollowed := true, recurses := true, apart := false }
def FnExactIsSpaceSaid : Prop := fnExactIsSpaceRow.holds Try.pinned (OpenSpec.ofChange fnExactIsSpaceSpec)

/-- ITS FALSE NEIGHBOUR: 'it returns false'. Refute it at one input. -/
def fnExactIsSpaceWrong : ChangeSpec := { name := "fnExactIsSpace", fn := fun _ => fun
  | [d] => { results := [.lit (.bool false)], args := [d] }
  | _ => none }
def FnExactIsSpaceWrongFalsely : Prop := fnExactIsSpaceRow.holds Try.pinned (OpenSpec.ofChange fnExactIsSpaceWrong)

/-- 'laws.FnExactKeepsRanks': WHATEVER THE INPUT: true; the input reads as it did. -/
def fnExactKeepsRanksSpec : ChangeSpec := { name := "fnExactKeepsRanks", fn := fun _ => fun
  | [d1, d2] => { results := [.lit (.bool true)], args := [d1, d2] }
  | _ => none }
def fnExactKeepsRanksRow : OpenClaim := { program := "ytololcgifhefnaa", sum := "f0cd08ceef081e5cea790755bdc6c869d9ba6ddac60f306f2e77cfb60de7008c", func := "loop.example/g03113/laws.FnExactKeepsRanks", spec := "fnExactKeepsRanks", unfollowed := true, recurses := true, apart := false }
def FnExactKeepsRanksSaid : Prop := fnExactKeepsRanksRow.holds Try.pinned (OpenSpec.ofChange fnExactKeepsRanksSpec)

/-- ITS FALSE NEIGHBOUR: 'it returns false'. Refute it at one input. -/
def fnExactKeepsRanksWrong : ChangeSpec := { name := "fnExactKeepsRanks", fn := fun _ => fun
  | [d1, d2] => { results := [.lit (.bool false)], args := [d1, d2] }
  | _ => none }
def FnExactKeepsRanksWrongFalsely : Prop := fnExactKeepsRanksRow.holds Try.pinned (OpenSpec.ofChange fnExactKeepsRanksWrong)

/- THE SECOND FORM. 'bulk': how many values and letters a reading holds, each counted each time it is reached (what is shared counts as often as it is met; a slice's spare places count too). A statement '..UptoSaid' is the law's where the arguments, and the package variables that the reading takes, are together of bulk at most 1048576: NARROWER than '..Said'. Prove '..Said' where nothing that the law and all that it calls make is longer than what came in: it says more and counts as full. Else prove '..UptoSaid'. A law counts once. -/
mutual
def uptoBulk {H : Type} : DataW H → Nat
  | .lit (.string bytes) => bytes.length + 1
  | .lit _ => 1
  | .nil => 1
  | .ptr d => uptoBulk d + 1
  | .slice elems spare => uptoBulkAll elems + uptoBulkAll spare + 1
  | .agg parts => uptoBulkAll parts + 1
  | .iface _ d => uptoBulk d + 1
  | .map entries => uptoBulkEntries entries + 1
  | .held _ => 1
def uptoBulkAll {H : Type} : List (DataW H) → Nat
  | [] => 0
  | d :: r => uptoBulk d + uptoBulkAll r
def uptoBulkEntries {H : Type} : List (Lit × DataW H) → Nat
  | [] => 0
  | x :: r => uptoBulkEntry x + uptoBulkEntries r
def uptoBulkEntry {H : Type} : Lit × DataW H → Nat
  | (.string bytes, d) => bytes.length + uptoBulk d + 1
  | (_, d) => uptoBulk d + 1
 end
def uptoSmall : (H : Type) → List (DataW H) → Bool := fun _ ds => decide (uptoBulkAll ds ≤ 1048576)
def OpenSpec.upto (s : _root_.Go.ChangeSpec) : _root_.Go.OpenSpec := { _root_.Go.OpenSpec.ofChange s with cond := some uptoSmall }

/-- 'laws.FnExactMatrixOk', WHERE WHAT IT READS IS OF BULK AT MOST 1048576: true; the input reads as it did. -/
def fnExactMatrixOkUptoRow : OpenClaim := { program := "ytololcgifhefnaa", sum := "f0cd08ceef081e5cea790755bdc6c869d9ba6ddac60f306f2e77cfb60de7008c", func := "loop.example/g03113/laws.FnExactMatrixOk", spec := "fnExactMatrixOk", unfollowed := true, recurses := true, apart := false, narrowed := true }
def FnExactMatrixOkUptoSaid : Prop := fnExactMatrixOkUptoRow.holds Try.pinned (OpenSpec.upto fnExactMatrixOkSpec)

/-- 'laws.FnExactPermMatrix', WHERE WHAT IT READS IS OF BULK AT MOST 1048576: true; the input reads as it did. -/
def fnExactPermMatrixUptoRow : OpenClaim := { program := "ytololcgifhefnaa", sum := "f0cd08ceef081e5cea790755bdc6c869d9ba6ddac60f306f2e77cfb60de7008c", func := "loop.example/g03113/laws.FnExactPermMatrix", spec := "fnExactPermMatrix", apart := false, narrowed := true }
def FnExactPermMatrixUptoSaid : Prop := fnExactPermMatrixUptoRow.holds Try.pinned (OpenSpec.upto fnExactPermMatrixSpec)

/-- 'laws.FnExactMulMatrices', WHERE WHAT IT READS IS OF BULK AT MOST 1048576: true; the input reads as it did. -/
def fnExactMulMatricesUptoRow : OpenClaim := { program := "ytololcgifhefnaa", sum := "f0cd08ceef081e5cea790755bdc6c869d9ba6ddac60f306f2e77cfb60de7008c", func := "loop.example/g03113/laws.FnExactMulMatrices", spec := "fnExactMulMatrices", unfollowed := true, recurses := true, apart := false, narrowed := true }
def FnExactMulMatricesUptoSaid : Prop := fnExactMulMatricesUptoRow.holds Try.pinned (OpenSpec.upto fnExactMulMatricesSpec)

/-- 'laws.FnExactRankOf', WHERE WHAT IT READS IS OF BULK AT MOST 1048576: true; the input reads as it did. -/
def fnExactRankOfUptoRow : OpenClaim := { program := "ytololcgifhefnaa", sum := "f0cd08ceef081e5cea790755bdc6c869d9ba6ddac60f306f2e77cfb60de7008c", func := "loop.example/g03113/laws.FnExactRankOf", spec := "fnExactRankOf", unfollowed := true, recurses := true, apart := false, narrowed := true }
def FnExactRankOfUptoSaid : Prop := fnExactRankOfUptoRow.holds Try.pinned (OpenSpec.upto fnExactRankOfSpec)

/-- 'laws.FnExactCornerRank', WHERE WHAT IT READS IS OF BULK AT MOST 1048576: true; the input reads as it did. -/
def fnExactCornerRankUptoRow : OpenClaim := { program := "ytololcgifhefnaa", sum := "f0cd08ceef081e5cea790755bdc6c869d9ba6ddac60f306f2e77cfb60de7008c", func := "loop.example/g03113/laws.FnExactCornerRank", spec := "fnExactCornerRank", unfollowed := true, recurses := true, apart := false, narrowed := true }
def FnExactCornerRankUptoSaid : Prop := fnExactCornerRankUptoRow.holds Try.pinned (OpenSpec.upto fnExactCornerRankSpec)

/-- 'laws.FnExactCountSpaces', WHERE WHAT IT READS IS OF BULK AT MOST 1048576: true; the input reads as it did. -/
def fnExactCountSpacesUptoRow : OpenClaim := { program := "ytololcgifhefnaa", sum := "f0cd08ceef081e5cea790755bdc6c869d9ba6ddac60f306f2e77cfb60de7008c", func := "loop.example/g03113/laws.FnExactCountSpaces", spec := "fnExactCountSpaces", unfollowed := true, recurses := true, apart := false, narrowed := true }
def FnExactCountSpacesUptoSaid : Prop := fnExactCountSpacesUptoRow.holds Try.pinned (OpenSpec.upto fnExactCountSpacesSpec)

/-- 'laws.FnExactFlagOk', WHERE WHAT IT READS IS OF BULK AT MOST 1048576: true; the input reads as it did. -/
def fnExactFlagOkUptoRow : OpenClaim := { program := "ytololcgifhefnaa", sum := "f0cd08ceef081e5cea790755bdc6c869d9ba6ddac60f306f2e77cfb60de7008c", func := "loop.example/g03113/laws.FnExactFlagOk", spec := "fnExactFlagOk", unfollowed := true, recurses := true, apart := false, narrowed := true }
def FnExactFlagOkUptoSaid : Prop := fnExactFlagOkUptoRow.holds Try.pinned (OpenSpec.upto fnExactFlagOkSpec)

/-- 'laws.FnExactNormalFlag', WHERE WHAT IT READS IS OF BULK AT MOST 1048576: true; the input reads as it did. -/
def fnExactNormalFlagUptoRow : OpenClaim := { program := "ytololcgifhefnaa", sum := "f0cd08ceef081e5cea790755bdc6c869d9ba6ddac60f306f2e77cfb60de7008c", func := "loop.example/g03113/laws.FnExactNormalFlag", spec := "fnExactNormalFlag", unfollowed := true, recurses := true, apart := false, narrowed := true }
def FnExactNormalFlagUptoSaid : Prop := fnExactNormalFlagUptoRow.holds Try.pinned (OpenSpec.upto fnExactNormalFlagSpec)

/-- 'laws.FnExactFlagPerm', WHERE WHAT IT READS IS OF BULK AT MOST 1048576: true; the input reads as it did. -/
def fnExactFlagPermUptoRow : OpenClaim := { program := "ytololcgifhefnaa", sum := "f0cd08ceef081e5cea790755bdc6c869d9ba6ddac60f306f2e77cfb60de7008c", func := "loop.example/g03113/laws.FnExactFlagPerm", spec := "fnExactFlagPerm", unfollowed := true, recurses := true, apart := false, narrowed := true }
def FnExactFlagPermUptoSaid : Prop := fnExactFlagPermUptoRow.holds Try.pinned (OpenSpec.upto fnExactFlagPermSpec)

/-- 'laws.FnExactSpanOf', WHERE WHAT IT READS IS OF BULK AT MOST 1048576: true; the input reads as it did. -/
def fnExactSpanOfUptoRow : OpenClaim := { program := "ytololcgifhefnaa", sum := "f0cd08ceef081e5cea790755bdc6c869d9ba6ddac60f306f2e77cfb60de7008c", func := "loop.example/g03113/laws.FnExactSpanOf", spec := "fnExactSpanOf", unfollowed := true, recurses := true, apart := false, narrowed := true }
def FnExactSpanOfUptoSaid : Prop := fnExactSpanOfUptoRow.holds Try.pinned (OpenSpec.upto fnExactSpanOfSpec)

/-- 'laws.FnExactIsSpace', WHERE WHAT IT READS IS OF BULK AT MOST 1048576: true; the input reads as it did. -/
def fnExactIsSpaceUptoRow : OpenClaim := { program := "ytololcgifhefnaa", sum := "f0cd08ceef081e5cea790755bdc6c869d9ba6ddac60f306f2e77cfb60de7008c", func := "loop.example/g03113/laws.FnExactIsSpace", spec := "fnExactIsSpace", unfollowed := true, recurses := true, apart := false, narrowed := true }
def FnExactIsSpaceUptoSaid : Prop := fnExactIsSpaceUptoRow.holds Try.pinned (OpenSpec.upto fnExactIsSpaceSpec)

/-- 'laws.FnExactKeepsRanks', WHERE WHAT IT READS IS OF BULK AT MOST 1048576: true; the input reads as it did. -/
def fnExactKeepsRanksUptoRow : OpenClaim := { program := "ytololcgifhefnaa", sum := "f0cd08ceef081e5cea790755bdc6c869d9ba6ddac60f306f2e77cfb60de7008c", func := "loop.example/g03113/laws.FnExactKeepsRanks", spec := "fnExactKeepsRanks", unfollowed := true, recurses := true, apart := false, narrowed := true }
def FnExactKeepsRanksUptoSaid : Prop := fnExactKeepsRanksUptoRow.holds Try.pinned (OpenSpec.upto fnExactKeepsRanksSpec)

end Rows
end Go.Proofs.Ytololcgifhefnaa
