/-
  No cell of these rows narrows 'for every input' (looked for: loops, veiled, ifaces, maps, wideKeys, modest, calm, conditions, laid).
  DERIVED. THE GIVEN ROWS OF THIS SEAT. 12 by the template 'for every input the law returns true; each argument reads behind the call as it read before'; 0 by the template 'total and deterministic' (their statements: YtkfpacjncpifgaaTotals.lean).
  GIVEN WITH THE SEED: the statements are not yours to turn. If you find one false, say at which input.
  Laid BY PROGRAM, IN A SANDBOX (cutbox-rows.mjs): the forced cells as the released guide's own fill.sh prints them over the translation cffecddda42da951… (all of the seat's roots in one cut). By AI agents, Wed Nov 11 2026. No macro, syntax, notation, axiom, sorry.
-/
import Derived.Test.YtkfpacjncpifgaaChecked
import GoSem.Claim
import GoSem.ClaimJoined
import GoSem.ClaimMapViews
import Derived.JoinedTies
import Derived.KernelRfl
namespace Go.Proofs.Ytkfpacjncpifgaa
/- THE CELL 'sum', in the pinned program and in every row, IS THE sha256 OF THE DUMP (.gsa) THAT YtkfpacjncpifgaaProg.lean LOADS. Nothing in Lean hashes anything: it is a label: what it is worth is what the hold of that sum in a sandbox is worth. -/
noncomputable def Try.pinned : Pinned := { name := "ytkfpacjncpifgaa", sum := "cffecddda42da951d1e891ebd26ccbb0e049c0c3b18b4f2054b8017559fab3d8", checked := Try.checked }
namespace Rows
def none {H : Type} : Left H := { results := [], args := [] }

/-- 'laws.FnExactSwapVariables': WHATEVER THE INPUT: true; the input reads as it did. -/
def fnExactSwapVariablesSpec : ChangeSpec := { name := "fnExactSwapVariables", fn := fun _ => fun
  | [d1, d2] => { results := [.lit (.bool true)], args := [d1, d2] }
  | _ => none }
def fnExactSwapVariablesRow : OpenClaim := { program := "ytkfpacjncpifgaa", sum := "cffecddda42da951d1e891ebd26ccbb0e049c0c3b18b4f2054b8017559fab3d8", func := "loop.example/g03113/laws.FnExactSwapVariables", spec := "fnExactSwapVariables", unfollowed := true, recurses := true, plainKeys := false, apart := false }
def FnExactSwapVariablesSaid : Prop := fnExactSwapVariablesRow.holds Try.pinned (OpenSpec.ofChange fnExactSwapVariablesSpec)

/-- ITS FALSE NEIGHBOUR: 'it returns false'. Refute it at one input. -/
def fnExactSwapVariablesWrong : ChangeSpec := { name := "fnExactSwapVariables", fn := fun _ => fun
  | [d1, d2] => { results := [.lit (.bool false)], args := [d1, d2] }
  | _ => none }
def FnExactSwapVariablesWrongFalsely : Prop := fnExactSwapVariablesRow.holds Try.pinned (OpenSpec.ofChange fnExactSwapVariablesWrong)

/-- 'laws.FnExactIsSymmetricAt': WHATEVER THE INPUT: true; the input reads as it did. -/
def fnExactIsSymmetricAtSpec : ChangeSpec := { name := "fnExactIsSymmetricAt", fn := fun _ => fun
  | [d1, d2] => { results := [.lit (.bool true)], args := [d1, d2] }
  | _ => none }
def fnExactIsSymmetricAtRow : OpenClaim := { program := "ytkfpacjncpifgaa", sum := "cffecddda42da951d1e891ebd26ccbb0e049c0c3b18b4f2054b8017559fab3d8", func := "loop.example/g03113/laws.FnExactIsSymmetricAt", spec := "fnExactIsSymmetricAt", unfollowed := true, recurses := true, plainKeys := false, apart := false }
def FnExactIsSymmetricAtSaid : Prop := fnExactIsSymmetricAtRow.holds Try.pinned (OpenSpec.ofChange fnExactIsSymmetricAtSpec)

/-- ITS FALSE NEIGHBOUR: 'it returns false'. Refute it at one input. -/
def fnExactIsSymmetricAtWrong : ChangeSpec := { name := "fnExactIsSymmetricAt", fn := fun _ => fun
  | [d1, d2] => { results := [.lit (.bool false)], args := [d1, d2] }
  | _ => none }
def FnExactIsSymmetricAtWrongFalsely : Prop := fnExactIsSymmetricAtRow.holds Try.pinned (OpenSpec.ofChange fnExactIsSymmetricAtWrong)

/-- 'laws.FnExactCoversOf': WHATEVER THE INPUT: true; the input reads as it did. -/
def fnExactCoversOfSpec : ChangeSpec := { name := "fnExactCoversOf", fn := fun _ => fun
  | [d] => { results := [.lit (.bool true)], args := [d] }
  | _ => none }
def fnExactCoversOfRow : OpenClaim := { program := "ytkfpacjncpifgaa", sum := "cffecddda42da951d1e891ebd26ccbb0e049c0c3b18b4f2054b8017559fab3d8", func := "loop.example/g03113/laws.FnExactCoversOf", spec := "fnExactCoversOf", unfollowed := true, recurses := true, plainKeys := false, apart := false }
def FnExactCoversOfSaid : Prop := fnExactCoversOfRow.holds Try.pinned (OpenSpec.ofChange fnExactCoversOfSpec)

/-- ITS FALSE NEIGHBOUR: 'it returns false'. Refute it at one input. -/
def fnExactCoversOfWrong : ChangeSpec := { name := "fnExactCoversOf", fn := fun _ => fun
  | [d] => { results := [.lit (.bool false)], args := [d] }
  | _ => none }
def FnExactCoversOfWrongFalsely : Prop := fnExactCoversOfRow.holds Try.pinned (OpenSpec.ofChange fnExactCoversOfWrong)

/-- 'laws.FnExactAddPolys': WHATEVER THE INPUT: true; the input reads as it did. -/
def fnExactAddPolysSpec : ChangeSpec := { name := "fnExactAddPolys", fn := fun _ => fun
  | [d1, d2, d3] => { results := [.lit (.bool true)], args := [d1, d2, d3] }
  | _ => none }
def fnExactAddPolysRow : OpenClaim := { program := "ytkfpacjncpifgaa", sum := "cffecddda42da951d1e891ebd26ccbb0e049c0c3b18b4f2054b8017559fab3d8", func := "loop.example/g03113/laws.FnExactAddPolys", spec := "fnExactAddPolys", unfollowed := true, recurses := true, plainKeys := false, apart := false }
def FnExactAddPolysSaid : Prop := fnExactAddPolysRow.holds Try.pinned (OpenSpec.ofChange fnExactAddPolysSpec)

/-- ITS FALSE NEIGHBOUR: 'it returns false'. Refute it at one input. -/
def fnExactAddPolysWrong : ChangeSpec := { name := "fnExactAddPolys", fn := fun _ => fun
  | [d1, d2, d3] => { results := [.lit (.bool false)], args := [d1, d2, d3] }
  | _ => none }
def FnExactAddPolysWrongFalsely : Prop := fnExactAddPolysRow.holds Try.pinned (OpenSpec.ofChange fnExactAddPolysWrong)

/-- 'laws.FnExactMulPolys': WHATEVER THE INPUT: true; the input reads as it did. -/
def fnExactMulPolysSpec : ChangeSpec := { name := "fnExactMulPolys", fn := fun _ => fun
  | [d1, d2] => { results := [.lit (.bool true)], args := [d1, d2] }
  | _ => none }
def fnExactMulPolysRow : OpenClaim := { program := "ytkfpacjncpifgaa", sum := "cffecddda42da951d1e891ebd26ccbb0e049c0c3b18b4f2054b8017559fab3d8", func := "loop.example/g03113/laws.FnExactMulPolys", spec := "fnExactMulPolys", unfollowed := true, recurses := true, plainKeys := false, apart := false }
def FnExactMulPolysSaid : Prop := fnExactMulPolysRow.holds Try.pinned (OpenSpec.ofChange fnExactMulPolysSpec)

/-- ITS FALSE NEIGHBOUR: 'it returns false'. Refute it at one input. -/
def fnExactMulPolysWrong : ChangeSpec := { name := "fnExactMulPolys", fn := fun _ => fun
  | [d1, d2] => { results := [.lit (.bool false)], args := [d1, d2] }
  | _ => none }
def FnExactMulPolysWrongFalsely : Prop := fnExactMulPolysRow.holds Try.pinned (OpenSpec.ofChange fnExactMulPolysWrong)

/-- 'laws.FnExactDividedDifference': WHATEVER THE INPUT: true; the input reads as it did. -/
def fnExactDividedDifferenceSpec : ChangeSpec := { name := "fnExactDividedDifference", fn := fun _ => fun
  | [d1, d2] => { results := [.lit (.bool true)], args := [d1, d2] }
  | _ => none }
def fnExactDividedDifferenceRow : OpenClaim := { program := "ytkfpacjncpifgaa", sum := "cffecddda42da951d1e891ebd26ccbb0e049c0c3b18b4f2054b8017559fab3d8", func := "loop.example/g03113/laws.FnExactDividedDifference", spec := "fnExactDividedDifference", unfollowed := true, recurses := true, plainKeys := false, apart := false }
def FnExactDividedDifferenceSaid : Prop := fnExactDividedDifferenceRow.holds Try.pinned (OpenSpec.ofChange fnExactDividedDifferenceSpec)

/-- ITS FALSE NEIGHBOUR: 'it returns false'. Refute it at one input. -/
def fnExactDividedDifferenceWrong : ChangeSpec := { name := "fnExactDividedDifference", fn := fun _ => fun
  | [d1, d2] => { results := [.lit (.bool false)], args := [d1, d2] }
  | _ => none }
def FnExactDividedDifferenceWrongFalsely : Prop := fnExactDividedDifferenceRow.holds Try.pinned (OpenSpec.ofChange fnExactDividedDifferenceWrong)

/-- 'laws.FnExactDemazureOf': WHATEVER THE INPUT: true; the input reads as it did. -/
def fnExactDemazureOfSpec : ChangeSpec := { name := "fnExactDemazureOf", fn := fun _ => fun
  | [d1, d2] => { results := [.lit (.bool true)], args := [d1, d2] }
  | _ => none }
def fnExactDemazureOfRow : OpenClaim := { program := "ytkfpacjncpifgaa", sum := "cffecddda42da951d1e891ebd26ccbb0e049c0c3b18b4f2054b8017559fab3d8", func := "loop.example/g03113/laws.FnExactDemazureOf", spec := "fnExactDemazureOf", unfollowed := true, recurses := true, plainKeys := false, apart := false }
def FnExactDemazureOfSaid : Prop := fnExactDemazureOfRow.holds Try.pinned (OpenSpec.ofChange fnExactDemazureOfSpec)

/-- ITS FALSE NEIGHBOUR: 'it returns false'. Refute it at one input. -/
def fnExactDemazureOfWrong : ChangeSpec := { name := "fnExactDemazureOf", fn := fun _ => fun
  | [d1, d2] => { results := [.lit (.bool false)], args := [d1, d2] }
  | _ => none }
def FnExactDemazureOfWrongFalsely : Prop := fnExactDemazureOfRow.holds Try.pinned (OpenSpec.ofChange fnExactDemazureOfWrong)

/-- 'laws.FnExactAtomOf': WHATEVER THE INPUT: true; the input reads as it did. -/
def fnExactAtomOfSpec : ChangeSpec := { name := "fnExactAtomOf", fn := fun _ => fun
  | [d1, d2] => { results := [.lit (.bool true)], args := [d1, d2] }
  | _ => none }
def fnExactAtomOfRow : OpenClaim := { program := "ytkfpacjncpifgaa", sum := "cffecddda42da951d1e891ebd26ccbb0e049c0c3b18b4f2054b8017559fab3d8", func := "loop.example/g03113/laws.FnExactAtomOf", spec := "fnExactAtomOf", unfollowed := true, recurses := true, plainKeys := false, apart := false }
def FnExactAtomOfSaid : Prop := fnExactAtomOfRow.holds Try.pinned (OpenSpec.ofChange fnExactAtomOfSpec)

/-- ITS FALSE NEIGHBOUR: 'it returns false'. Refute it at one input. -/
def fnExactAtomOfWrong : ChangeSpec := { name := "fnExactAtomOf", fn := fun _ => fun
  | [d1, d2] => { results := [.lit (.bool false)], args := [d1, d2] }
  | _ => none }
def FnExactAtomOfWrongFalsely : Prop := fnExactAtomOfRow.holds Try.pinned (OpenSpec.ofChange fnExactAtomOfWrong)

/-- 'laws.FnExactIsobaricOf': WHATEVER THE INPUT: true; the input reads as it did. -/
def fnExactIsobaricOfSpec : ChangeSpec := { name := "fnExactIsobaricOf", fn := fun _ => fun
  | [d1, d2] => { results := [.lit (.bool true)], args := [d1, d2] }
  | _ => none }
def fnExactIsobaricOfRow : OpenClaim := { program := "ytkfpacjncpifgaa", sum := "cffecddda42da951d1e891ebd26ccbb0e049c0c3b18b4f2054b8017559fab3d8", func := "loop.example/g03113/laws.FnExactIsobaricOf", spec := "fnExactIsobaricOf", unfollowed := true, recurses := true, plainKeys := false, apart := false }
def FnExactIsobaricOfSaid : Prop := fnExactIsobaricOfRow.holds Try.pinned (OpenSpec.ofChange fnExactIsobaricOfSpec)

/-- ITS FALSE NEIGHBOUR: 'it returns false'. Refute it at one input. -/
def fnExactIsobaricOfWrong : ChangeSpec := { name := "fnExactIsobaricOf", fn := fun _ => fun
  | [d1, d2] => { results := [.lit (.bool false)], args := [d1, d2] }
  | _ => none }
def FnExactIsobaricOfWrongFalsely : Prop := fnExactIsobaricOfRow.holds Try.pinned (OpenSpec.ofChange fnExactIsobaricOfWrong)

/-- 'laws.FnExactBottomDream': WHATEVER THE INPUT: true; the input reads as it did. -/
def fnExactBottomDreamSpec : ChangeSpec := { name := "fnExactBottomDream", fn := fun _ => fun
  | [d] => { results := [.lit (.bool true)], args := [d] }
  | _ => none }
def fnExactBottomDreamRow : OpenClaim := { program := "ytkfpacjncpifgaa", sum := "cffecddda42da951d1e891ebd26ccbb0e049c0c3b18b4f2054b8017559fab3d8", func := "loop.example/g03113/laws.FnExactBottomDream", spec := "fnExactBottomDream", plainKeys := false, apart := false }
def FnExactBottomDreamSaid : Prop := fnExactBottomDreamRow.holds Try.pinned (OpenSpec.ofChange fnExactBottomDreamSpec)

/-- ITS FALSE NEIGHBOUR: 'it returns false'. Refute it at one input. -/
def fnExactBottomDreamWrong : ChangeSpec := { name := "fnExactBottomDream", fn := fun _ => fun
  | [d] => { results := [.lit (.bool false)], args := [d] }
  | _ => none }
def FnExactBottomDreamWrongFalsely : Prop := fnExactBottomDreamRow.holds Try.pinned (OpenSpec.ofChange fnExactBottomDreamWrong)

/-- 'laws.FnExactClassesOk': WHATEVER THE INPUT: true; the input reads as it did. -/
def fnExactClassesOkSpec : ChangeSpec := { name := "fnExactClassesOk", fn := fun _ => fun
  | [d] => { results := [.lit (.bool true)], args := [d] }
  | _ => none }
def fnExactClassesOkRow : OpenClaim := { program := "ytkfpacjncpifgaa", sum := "cffecddda42da951d1e891ebd26ccbb0e049c0c3b18b4f2054b8017559fab3d8", func := "loop.example/g03113/laws.FnExactClassesOk", spec := "fnExactClassesOk", plainKeys := false, apart := false }
def FnExactClassesOkSaid : Prop := fnExactClassesOkRow.holds Try.pinned (OpenSpec.ofChange fnExactClassesOkSpec)

/-- ITS FALSE NEIGHBOUR: 'it returns false'. Refute it at one input. -/
def fnExactClassesOkWrong : ChangeSpec := { name := "fnExactClassesOk", fn := fun _ => fun
  | [d] => { results := [.lit (.bool false)], args := [d] }
  | _ => none }
def FnExactClassesOkWrongFalsely : Prop := fnExactClassesOkRow.holds Try.pinned (OpenSpec.ofChange fnExactClassesOkWrong)

/-- 'laws.FnExactTransitionOf': WHATEVER THE INPUT: true; the input reads as it did. -/
def fnExactTransitionOfSpec : ChangeSpec := { name := "fnExactTransitionOf", fn := fun _ => fun
  | [d] => { results := [.lit (.bool true)], args := [d] }
  | _ => none }
def fnExactTransitionOfRow : OpenClaim := { program := "ytkfpacjncpifgaa", sum := "cffecddda42da951d1e891ebd26ccbb0e049c0c3b18b4f2054b8017559fab3d8", func := "loop.example/g03113/laws.FnExactTransitionOf", spec := "fnExactTransitionOf", unfollowed := true, recurses := true, plainKeys := false, apart := false }
def FnExactTransitionOfSaid : Prop := fnExactTransitionOfRow.holds Try.pinned (OpenSpec.ofChange fnExactTransitionOfSpec)

/-- ITS FALSE NEIGHBOUR: 'it returns false'. Refute it at one input. -/
def fnExactTransitionOfWrong : ChangeSpec := { name := "fnExactTransitionOf", fn := fun _ => fun
  | [d] => { results := [.lit (.bool false)], args := [d] }
  | _ => none }
def FnExactTransitionOfWrongFalsely : Prop := fnExactTransitionOfRow.holds Try.pinned (OpenSpec.ofChange fnExactTransitionOfWrong)

/- THE SECOND FORM. 'bulk': how many values and letters a reading holds, each counted each time it is reached (what is shared counts as often as it is met; a slice's spare places count too). A statement '..UptoSaid' is the law's where the arguments, and the package variables that the reading takes, are together of bulk at most 1048576: NARROWER than '..Said'. Prove '..Said' where nothing that the law and all that it calls make is longer than what came in: it says more and counts as full. Else prove '..UptoSaid'. A law counts once. -/
mutual
def uptoBulk {H : Type} : DataW H → Nat
  | .lit (.string bytes) => bytes.length + 1
  | .lit _ => 1
  | .nil => 1
  | .ptr d => uptoBulk d + 1
  | .slice elems spare => uptoBulkAll elems + uptoBulkAll spare + 1
  | .agg parts => uptoBulkAll parts + 1
  | .iface _ d => uptoBulk d + 1
  | .map entries => uptoBulkEntries entries + 1
  | .held _ => 1
def uptoBulkAll {H : Type} : List (DataW H) → Nat
  | [] => 0
  | d :: r => uptoBulk d + uptoBulkAll r
def uptoBulkEntries {H : Type} : List (Lit × DataW H) → Nat
  | [] => 0
  | x :: r => uptoBulkEntry x + uptoBulkEntries r
def uptoBulkEntry {H : Type} : Lit × DataW H → Nat
  | (.string bytes, d) => bytes.length + uptoBulk d + 1
  | (_, d) => uptoBulk d + 1
 end
def uptoSmall : (H : Type) → List (DataW H) → Bool := fun _ ds => decide (uptoBulkAll ds ≤ 1048576)
def OpenSpec.upto (s : _root_.Go.ChangeSpec) : _root_.Go.OpenSpec := { _root_.Go.OpenSpec.ofChange s with cond := some uptoSmall }

/-- 'laws.FnExactSwapVariables', WHERE WHAT IT READS IS OF BULK AT MOST 1048576: true; the input reads as it did. -/
def fnExactSwapVariablesUptoRow : OpenClaim := { program := "ytkfpacjncpifgaa", sum := "cffecddda42da951d1e891ebd26ccbb0e049c0c3b18b4f2054b8017559fab3d8", func := "loop.example/g03113/laws.FnExactSwapVariables", spec := "fnExactSwapVariables", unfollowed := true, recurses := true, plainKeys := false, apart := false, narrowed := true }
def FnExactSwapVariablesUptoSaid : Prop := fnExactSwapVariablesUptoRow.holds Try.pinned (OpenSpec.upto fnExactSwapVariablesSpec)

/-- 'laws.FnExactIsSymmetricAt', WHERE WHAT IT READS IS OF BULK AT MOST 1048576: true; the input reads as it did. -/
def fnExactIsSymmetricAtUptoRow : OpenClaim := { program := "ytkfpacjncpifgaa", sum := "cffecddda42da951d1e891ebd26ccbb0e049c0c3b18b4f2054b8017559fab3d8", func := "loop.example/g03113/laws.FnExactIsSymmetricAt", spec := "fnExactIsSymmetricAt", unfollowed := true, recurses := true, plainKeys := false, apart := false, narrowed := true }
def FnExactIsSymmetricAtUptoSaid : Prop := fnExactIsSymmetricAtUptoRow.holds Try.pinned (OpenSpec.upto fnExactIsSymmetricAtSpec)

/-- 'laws.FnExactCoversOf', WHERE WHAT IT READS IS OF BULK AT MOST 1048576: true; the input reads as it did. -/
def fnExactCoversOfUptoRow : OpenClaim := { program := "ytkfpacjncpifgaa", sum := "cffecddda42da951d1e891ebd26ccbb0e049c0c3b18b4f2054b8017559fab3d8", func := "loop.example/g03113/laws.FnExactCoversOf", spec := "fnExactCoversOf", unfollowed := true, recurses := true, plainKeys := false, apart := false, narrowed := true }
def FnExactCoversOfUptoSaid : Prop := fnExactCoversOfUptoRow.holds Try.pinned (OpenSpec.upto fnExactCoversOfSpec)

/-- 'laws.FnExactAddPolys', WHERE WHAT IT READS IS OF BULK AT MOST 1048576: true; the input reads as it did. -/
def fnExactAddPolysUptoRow : OpenClaim := { program := "ytkfpacjncpifgaa", sum := "cffecddda42da951d1e891ebd26ccbb0e049c0c3b18b4f2054b8017559fab3d8", func := "loop.example/g03113/laws.FnExactAddPolys", spec := "fnExactAddPolys", unfollowed := true, recurses := true, plainKeys := false, apart := false, narrowed := true }
def FnExactAddPolysUptoSaid : Prop := fnExactAddPolysUptoRow.holds Try.pinned (OpenSpec.upto fnExactAddPolysSpec)

/-- 'laws.FnExactMulPolys', WHERE WHAT IT READS IS OF BULK AT MOST 1048576: true; the input reads as it did. -/
def fnExactMulPolysUptoRow : OpenClaim := { program := "ytkfpacjncpifgaa", sum := "cffecddda42da951d1e891ebd26ccbb0e049c0c3b18b4f2054b8017559fab3d8", func := "loop.example/g03113/laws.FnExactMulPolys", spec := "fnExactMulPolys", unfollowed := true, recurses := true, plainKeys := false, apart := false, narrowed := true }
def FnExactMulPolysUptoSaid : Prop := fnExactMulPolysUptoRow.holds Try.pinned (OpenSpec.upto fnExactMulPolysSpec)

/-- 'laws.FnExactDividedDifference', WHERE WHAT IT READS IS OF BULK AT MOST 1048576: true; the input reads as it did. -/
def fnExactDividedDifferenceUptoRow : OpenClaim := { program := "ytkfpacjncpifgaa", sum := "cffecddda42da951d1e891ebd26ccbb0e049c0c3b18b4f2054b8017559fab3d8", func := "loop.example/g03113/laws.FnExactDividedDifference", spec := "fnExactDividedDifference", unfollowed := true, recurses := true, plainKeys := false, apart := false, narrowed := true }
def FnExactDividedDifferenceUptoSaid : Prop := fnExactDividedDifferenceUptoRow.holds Try.pinned (OpenSpec.upto fnExactDividedDifferenceSpec)

/-- 'laws.FnExactDemazureOf', WHERE WHAT IT READS IS OF BULK AT MOST 1048576: true; the input reads as it did. -/
def fnExactDemazureOfUptoRow : OpenClaim := { program := "ytkfpacjncpifgaa", sum := "cffecddda42da951d1e891ebd26ccbb0e049c0c3b18b4f2054b8017559fab3d8", func := "loop.example/g03113/laws.FnExactDemazureOf", spec := "fnExactDemazureOf", unfollowed := true, recurses := true, plainKeys := false, apart := false, narrowed := true }
def FnExactDemazureOfUptoSaid : Prop := fnExactDemazureOfUptoRow.holds Try.pinned (OpenSpec.upto fnExactDemazureOfSpec)

/-- 'laws.FnExactAtomOf', WHERE WHAT IT READS IS OF BULK AT MOST 1048576: true; the input reads as it did. -/
def fnExactAtomOfUptoRow : OpenClaim := { program := "ytkfpacjncpifgaa", sum := "cffecddda42da951d1e891ebd26ccbb0e049c0c3b18b4f2054b8017559fab3d8", func := "loop.example/g03113/laws.FnExactAtomOf", spec := "fnExactAtomOf", unfollowed := true, recurses := true, plainKeys := false, apart := false, narrowed := true }
def FnExactAtomOfUptoSaid : Prop := fnExactAtomOfUptoRow.holds Try.pinned (OpenSpec.upto fnExactAtomOfSpec)

/-- 'laws.FnExactIsobaricOf', WHERE WHAT IT READS IS OF BULK AT MOST 1048576: true; the input reads as it did. -/
def fnExactIsobaricOfUptoRow : OpenClaim := { program := "ytkfpacjncpifgaa", sum := "cffecddda42da951d1e891ebd26ccbb0e049c0c3b18b4f2054b8017559fab3d8", func := "loop.example/g03113/laws.FnExactIsobaricOf", spec := "fnExactIsobaricOf", unfollowed := true, recurses := true, plainKeys := false, apart := false, narrowed := true }
def FnExactIsobaricOfUptoSaid : Prop := fnExactIsobaricOfUptoRow.holds Try.pinned (OpenSpec.upto fnExactIsobaricOfSpec)

/-- 'laws.FnExactBottomDream', WHERE WHAT IT READS IS OF BULK AT MOST 1048576: true; the input reads as it did. -/
def fnExactBottomDreamUptoRow : OpenClaim := { program := "ytkfpacjncpifgaa", sum := "cffecddda42da951d1e891ebd26ccbb0e049c0c3b18b4f2054b8017559fab3d8", func := "loop.example/g03113/laws.FnExactBottomDream", spec := "fnExactBottomDream", plainKeys := false, apart := false, narrowed := true }
def FnExactBottomDreamUptoSaid : Prop := fnExactBottomDreamUptoRow.holds Try.pinned (OpenSpec.upto fnExactBottomDreamSpec)

/-- 'laws.FnExactClassesOk', WHERE WHAT IT READS IS OF BULK AT MOST 1048576: true; the input reads as it did. -/
def fnExactClassesOkUptoRow : OpenClaim := { program := "ytkfpacjncpifgaa", sum := "cffecddda42da951d1e891ebd26ccbb0e049c0c3b18b4f2054b8017559fab3d8", func := "loop.example/g03113/laws.FnExactClassesOk", spec := "fnExactClassesOk", plainKeys := false, apart := false, narrowed := true }
def FnExactClassesOkUptoSaid : Prop := fnExactClassesOkUptoRow.holds Try.pinned (OpenSpec.upto fnExactClassesOkSpec)

/-- 'laws.FnExactTransitionOf', WHERE WHAT IT READS IS OF BULK AT MOST 1048576: true; the input reads as it did. -/
def fnExactTransitionOfUptoRow : OpenClaim := { program := "ytkfpacjncpifgaa", sum := "cffecddda42da951d1e891ebd26ccbb0e049c0c3b18b4f2054b8017559fab3d8", func := "loop.example/g03113/laws.FnExactTransitionOf", spec := "fnExactTransitionOf", unfollowed := true, recurses := true, plainKeys := false, apart := false, narrowed := true }
def FnExactTransitionOfUptoSaid : Prop := fnExactTransitionOfUptoRow.holds Try.pinned (OpenSpec.upto fnExactTransitionOfSpec)

end Rows
end Go.Proofs.Ytkfpacjncpifgaa
