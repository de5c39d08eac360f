/-
  No cell of these rows narrows 'for every input' (looked for: loops, veiled, ifaces, maps, wideKeys, modest, calm, conditions, laid).
  DERIVED. THE GIVEN ROWS OF THIS SEAT. 11 by the template 'for every input the law returns true; each argument reads behind the call as it read before'; 0 by the template 'total and deterministic' (their statements: YtcoelbfcndeblaaTotals.lean).
  GIVEN WITH THE SEED: the statements are not yours to turn. If you find one false, say at which input.
  Laid BY PROGRAM, IN A SANDBOX (cutbox-rows.mjs): the forced cells as the released guide's own fill.sh prints them over the translation 3111546e4ccc4e45… (all of the seat's roots in one cut). By AI agents, Wed Nov 11 2026. No macro, syntax, notation, axiom, sorry.
-/
import Derived.Test.YtcoelbfcndeblaaChecked
import GoSem.Claim
import GoSem.ClaimJoined
import GoSem.ClaimMapViews
import Derived.JoinedTies
import Derived.KernelRfl
namespace Go.Proofs.Ytcoelbfcndeblaa
/- THE CELL 'sum', in the pinned program and in every row, IS THE sha256 OF THE DUMP (.gsa) THAT YtcoelbfcndeblaaProg.lean LOADS. Nothing in Lean hashes anything: it is a label: what it is worth is what the hold of that sum in a sandbox is worth. -/
noncomputable def Try.pinned : Pinned := { name := "ytcoelbfcndeblaa", sum := "3111546e4ccc4e45728c764e05b045a8a8d817d45f90e58ee97639acd8451ff5", checked := Try.checked }
namespace Rows
def none {H : Type} : Left H := { results := [], args := [] }

/-- 'laws.FnLeibniz': WHATEVER THE INPUT: true; the input reads as it did. -/
def fnLeibnizSpec : ChangeSpec := { name := "fnLeibniz", fn := fun _ => fun
  | [d] => { results := [.lit (.bool true)], args := [d] }
  | _ => none }
def fnLeibnizRow : OpenClaim := { program := "ytcoelbfcndeblaa", sum := "3111546e4ccc4e45728c764e05b045a8a8d817d45f90e58ee97639acd8451ff5", func := "loop.example/g03113/laws.FnLeibniz", spec := "fnLeibniz", unfollowed := true, recurses := true, plainKeys := false, apart := false }
def FnLeibnizSaid : Prop := fnLeibnizRow.holds Try.pinned (OpenSpec.ofChange fnLeibnizSpec)

/-- ITS FALSE NEIGHBOUR: 'it returns false'. Refute it at one input. -/
def fnLeibnizWrong : ChangeSpec := { name := "fnLeibniz", fn := fun _ => fun
  | [d] => { results := [.lit (.bool false)], args := [d] }
  | _ => none }
def FnLeibnizWrongFalsely : Prop := fnLeibnizRow.holds Try.pinned (OpenSpec.ofChange fnLeibnizWrong)

/-- 'laws.FnSymmetric': WHATEVER THE INPUT: true; the input reads as it did. -/
def fnSymmetricSpec : ChangeSpec := { name := "fnSymmetric", fn := fun _ => fun
  | [d] => { results := [.lit (.bool true)], args := [d] }
  | _ => none }
def fnSymmetricRow : OpenClaim := { program := "ytcoelbfcndeblaa", sum := "3111546e4ccc4e45728c764e05b045a8a8d817d45f90e58ee97639acd8451ff5", func := "loop.example/g03113/laws.FnSymmetric", spec := "fnSymmetric", unfollowed := true, recurses := true, plainKeys := false, apart := false }
def FnSymmetricSaid : Prop := fnSymmetricRow.holds Try.pinned (OpenSpec.ofChange fnSymmetricSpec)

/-- ITS FALSE NEIGHBOUR: 'it returns false'. Refute it at one input. -/
def fnSymmetricWrong : ChangeSpec := { name := "fnSymmetric", fn := fun _ => fun
  | [d] => { results := [.lit (.bool false)], args := [d] }
  | _ => none }
def FnSymmetricWrongFalsely : Prop := fnSymmetricRow.holds Try.pinned (OpenSpec.ofChange fnSymmetricWrong)

/-- 'laws.FnPolyRing': WHATEVER THE INPUT: true; the input reads as it did. -/
def fnPolyRingSpec : ChangeSpec := { name := "fnPolyRing", fn := fun _ => fun
  | [d] => { results := [.lit (.bool true)], args := [d] }
  | _ => none }
def fnPolyRingRow : OpenClaim := { program := "ytcoelbfcndeblaa", sum := "3111546e4ccc4e45728c764e05b045a8a8d817d45f90e58ee97639acd8451ff5", func := "loop.example/g03113/laws.FnPolyRing", spec := "fnPolyRing", unfollowed := true, recurses := true, plainKeys := false, apart := false }
def FnPolyRingSaid : Prop := fnPolyRingRow.holds Try.pinned (OpenSpec.ofChange fnPolyRingSpec)

/-- ITS FALSE NEIGHBOUR: 'it returns false'. Refute it at one input. -/
def fnPolyRingWrong : ChangeSpec := { name := "fnPolyRing", fn := fun _ => fun
  | [d] => { results := [.lit (.bool false)], args := [d] }
  | _ => none }
def FnPolyRingWrongFalsely : Prop := fnPolyRingRow.holds Try.pinned (OpenSpec.ofChange fnPolyRingWrong)

/-- 'laws.FnBraids': WHATEVER THE INPUT: true; the input reads as it did. -/
def fnBraidsSpec : ChangeSpec := { name := "fnBraids", fn := fun _ => fun
  | [d] => { results := [.lit (.bool true)], args := [d] }
  | _ => none }
def fnBraidsRow : OpenClaim := { program := "ytcoelbfcndeblaa", sum := "3111546e4ccc4e45728c764e05b045a8a8d817d45f90e58ee97639acd8451ff5", func := "loop.example/g03113/laws.FnBraids", spec := "fnBraids", unfollowed := true, recurses := true, plainKeys := false, apart := false }
def FnBraidsSaid : Prop := fnBraidsRow.holds Try.pinned (OpenSpec.ofChange fnBraidsSpec)

/-- ITS FALSE NEIGHBOUR: 'it returns false'. Refute it at one input. -/
def fnBraidsWrong : ChangeSpec := { name := "fnBraids", fn := fun _ => fun
  | [d] => { results := [.lit (.bool false)], args := [d] }
  | _ => none }
def FnBraidsWrongFalsely : Prop := fnBraidsRow.holds Try.pinned (OpenSpec.ofChange fnBraidsWrong)

/-- 'laws.FnPatterns': WHATEVER THE INPUT: true; the input reads as it did. -/
def fnPatternsSpec : ChangeSpec := { name := "fnPatterns", fn := fun _ => fun
  | [d] => { results := [.lit (.bool true)], args := [d] }
  | _ => none }
def fnPatternsRow : OpenClaim := { program := "ytcoelbfcndeblaa", sum := "3111546e4ccc4e45728c764e05b045a8a8d817d45f90e58ee97639acd8451ff5", func := "loop.example/g03113/laws.FnPatterns", spec := "fnPatterns", plainKeys := false, apart := false }
def FnPatternsSaid : Prop := fnPatternsRow.holds Try.pinned (OpenSpec.ofChange fnPatternsSpec)

/-- ITS FALSE NEIGHBOUR: 'it returns false'. Refute it at one input. -/
def fnPatternsWrong : ChangeSpec := { name := "fnPatterns", fn := fun _ => fun
  | [d] => { results := [.lit (.bool false)], args := [d] }
  | _ => none }
def FnPatternsWrongFalsely : Prop := fnPatternsRow.holds Try.pinned (OpenSpec.ofChange fnPatternsWrong)

/-- 'laws.FnExactClassesPoly': WHATEVER THE INPUT: true; the input reads as it did. -/
def fnExactClassesPolySpec : ChangeSpec := { name := "fnExactClassesPoly", fn := fun _ => fun
  | [d] => { results := [.lit (.bool true)], args := [d] }
  | _ => none }
def fnExactClassesPolyRow : OpenClaim := { program := "ytcoelbfcndeblaa", sum := "3111546e4ccc4e45728c764e05b045a8a8d817d45f90e58ee97639acd8451ff5", func := "loop.example/g03113/laws.FnExactClassesPoly", spec := "fnExactClassesPoly", unfollowed := true, recurses := true, plainKeys := false, apart := false }
def FnExactClassesPolySaid : Prop := fnExactClassesPolyRow.holds Try.pinned (OpenSpec.ofChange fnExactClassesPolySpec)

/-- ITS FALSE NEIGHBOUR: 'it returns false'. Refute it at one input. -/
def fnExactClassesPolyWrong : ChangeSpec := { name := "fnExactClassesPoly", fn := fun _ => fun
  | [d] => { results := [.lit (.bool false)], args := [d] }
  | _ => none }
def FnExactClassesPolyWrongFalsely : Prop := fnExactClassesPolyRow.holds Try.pinned (OpenSpec.ofChange fnExactClassesPolyWrong)

/-- 'laws.FnExactMonkProduct': WHATEVER THE INPUT: true; the input reads as it did. -/
def fnExactMonkProductSpec : ChangeSpec := { name := "fnExactMonkProduct", fn := fun _ => fun
  | [d1, d2] => { results := [.lit (.bool true)], args := [d1, d2] }
  | _ => none }
def fnExactMonkProductRow : OpenClaim := { program := "ytcoelbfcndeblaa", sum := "3111546e4ccc4e45728c764e05b045a8a8d817d45f90e58ee97639acd8451ff5", func := "loop.example/g03113/laws.FnExactMonkProduct", spec := "fnExactMonkProduct", unfollowed := true, recurses := true, plainKeys := false, apart := false }
def FnExactMonkProductSaid : Prop := fnExactMonkProductRow.holds Try.pinned (OpenSpec.ofChange fnExactMonkProductSpec)

/-- ITS FALSE NEIGHBOUR: 'it returns false'. Refute it at one input. -/
def fnExactMonkProductWrong : ChangeSpec := { name := "fnExactMonkProduct", fn := fun _ => fun
  | [d1, d2] => { results := [.lit (.bool false)], args := [d1, d2] }
  | _ => none }
def FnExactMonkProductWrongFalsely : Prop := fnExactMonkProductRow.holds Try.pinned (OpenSpec.ofChange fnExactMonkProductWrong)

/-- 'laws.FnExactCoversOf': WHATEVER THE INPUT: true; the input reads as it did. -/
def fnExactCoversOfSpec : ChangeSpec := { name := "fnExactCoversOf", fn := fun _ => fun
  | [d] => { results := [.lit (.bool true)], args := [d] }
  | _ => none }
def fnExactCoversOfRow : OpenClaim := { program := "ytcoelbfcndeblaa", sum := "3111546e4ccc4e45728c764e05b045a8a8d817d45f90e58ee97639acd8451ff5", func := "loop.example/g03113/laws.FnExactCoversOf", spec := "fnExactCoversOf", unfollowed := true, recurses := true, plainKeys := false, apart := false }
def FnExactCoversOfSaid : Prop := fnExactCoversOfRow.holds Try.pinned (OpenSpec.ofChange fnExactCoversOfSpec)

/-- ITS FALSE NEIGHBOUR: 'it returns false'. Refute it at one input. -/
def fnExactCoversOfWrong : ChangeSpec := { name := "fnExactCoversOf", fn := fun _ => fun
  | [d] => { results := [.lit (.bool false)], args := [d] }
  | _ => none }
def FnExactCoversOfWrongFalsely : Prop := fnExactCoversOfRow.holds Try.pinned (OpenSpec.ofChange fnExactCoversOfWrong)

/-- 'laws.FnExactTransitionOf': WHATEVER THE INPUT: true; the input reads as it did. -/
def fnExactTransitionOfSpec : ChangeSpec := { name := "fnExactTransitionOf", fn := fun _ => fun
  | [d] => { results := [.lit (.bool true)], args := [d] }
  | _ => none }
def fnExactTransitionOfRow : OpenClaim := { program := "ytcoelbfcndeblaa", sum := "3111546e4ccc4e45728c764e05b045a8a8d817d45f90e58ee97639acd8451ff5", func := "loop.example/g03113/laws.FnExactTransitionOf", spec := "fnExactTransitionOf", unfollowed := true, recurses := true, plainKeys := false, apart := false }
def FnExactTransitionOfSaid : Prop := fnExactTransitionOfRow.holds Try.pinned (OpenSpec.ofChange fnExactTransitionOfSpec)

/-- ITS FALSE NEIGHBOUR: 'it returns false'. Refute it at one input. -/
def fnExactTransitionOfWrong : ChangeSpec := { name := "fnExactTransitionOf", fn := fun _ => fun
  | [d] => { results := [.lit (.bool false)], args := [d] }
  | _ => none }
def FnExactTransitionOfWrongFalsely : Prop := fnExactTransitionOfRow.holds Try.pinned (OpenSpec.ofChange fnExactTransitionOfWrong)

/-- 'laws.FnExactDreamWord': WHATEVER THE INPUT: true; the input reads as it did. -/
def fnExactDreamWordSpec : ChangeSpec := { name := "fnExactDreamWord", fn := fun _ => fun
  | [d1, d2] => { results := [.lit (.bool true)], args := [d1, d2] }
  | _ => none }
def fnExactDreamWordRow : OpenClaim := { program := "ytcoelbfcndeblaa", sum := "3111546e4ccc4e45728c764e05b045a8a8d817d45f90e58ee97639acd8451ff5", func := "loop.example/g03113/laws.FnExactDreamWord", spec := "fnExactDreamWord", unfollowed := true, recurses := true, plainKeys := false, apart := false }
def FnExactDreamWordSaid : Prop := fnExactDreamWordRow.holds Try.pinned (OpenSpec.ofChange fnExactDreamWordSpec)

/-- ITS FALSE NEIGHBOUR: 'it returns false'. Refute it at one input. -/
def fnExactDreamWordWrong : ChangeSpec := { name := "fnExactDreamWord", fn := fun _ => fun
  | [d1, d2] => { results := [.lit (.bool false)], args := [d1, d2] }
  | _ => none }
def FnExactDreamWordWrongFalsely : Prop := fnExactDreamWordRow.holds Try.pinned (OpenSpec.ofChange fnExactDreamWordWrong)

/-- 'laws.FnExactDreamPerm': WHATEVER THE INPUT: true; the input reads as it did. -/
def fnExactDreamPermSpec : ChangeSpec := { name := "fnExactDreamPerm", fn := fun _ => fun
  | [d1, d2] => { results := [.lit (.bool true)], args := [d1, d2] }
  | _ => none }
def fnExactDreamPermRow : OpenClaim := { program := "ytcoelbfcndeblaa", sum := "3111546e4ccc4e45728c764e05b045a8a8d817d45f90e58ee97639acd8451ff5", func := "loop.example/g03113/laws.FnExactDreamPerm", spec := "fnExactDreamPerm", unfollowed := true, recurses := true, plainKeys := false, apart := false }
def FnExactDreamPermSaid : Prop := fnExactDreamPermRow.holds Try.pinned (OpenSpec.ofChange fnExactDreamPermSpec)

/-- ITS FALSE NEIGHBOUR: 'it returns false'. Refute it at one input. -/
def fnExactDreamPermWrong : ChangeSpec := { name := "fnExactDreamPerm", fn := fun _ => fun
  | [d1, d2] => { results := [.lit (.bool false)], args := [d1, d2] }
  | _ => none }
def FnExactDreamPermWrongFalsely : Prop := fnExactDreamPermRow.holds Try.pinned (OpenSpec.ofChange fnExactDreamPermWrong)

/- THE SECOND FORM. 'bulk': how many values and letters a reading holds, each counted each time it is reached (what is shared counts as often as it is met; a slice's spare places count too). A statement '..UptoSaid' is the law's where the arguments, and the package variables that the reading takes, are together of bulk at most 1048576: NARROWER than '..Said'. Prove '..Said' where nothing that the law and all that it calls make is longer than what came in: it says more and counts as full. Else prove '..UptoSaid'. A law counts once. -/
mutual
def uptoBulk {H : Type} : DataW H → Nat
  | .lit (.string bytes) => bytes.length + 1
  | .lit _ => 1
  | .nil => 1
  | .ptr d => uptoBulk d + 1
  | .slice elems spare => uptoBulkAll elems + uptoBulkAll spare + 1
  | .agg parts => uptoBulkAll parts + 1
  | .iface _ d => uptoBulk d + 1
  | .map entries => uptoBulkEntries entries + 1
  | .held _ => 1
def uptoBulkAll {H : Type} : List (DataW H) → Nat
  | [] => 0
  | d :: r => uptoBulk d + uptoBulkAll r
def uptoBulkEntries {H : Type} : List (Lit × DataW H) → Nat
  | [] => 0
  | x :: r => uptoBulkEntry x + uptoBulkEntries r
def uptoBulkEntry {H : Type} : Lit × DataW H → Nat
  | (.string bytes, d) => bytes.length + uptoBulk d + 1
  | (_, d) => uptoBulk d + 1
 end
def uptoSmall : (H : Type) → List (DataW H) → Bool := fun _ ds => decide (uptoBulkAll ds ≤ 1048576)
def OpenSpec.upto (s : _root_.Go.ChangeSpec) : _root_.Go.OpenSpec := { _root_.Go.OpenSpec.ofChange s with cond := some uptoSmall }

/-- 'laws.FnLeibniz', WHERE WHAT IT READS IS OF BULK AT MOST 1048576: true; the input reads as it did. -/
def fnLeibnizUptoRow : OpenClaim := { program := "ytcoelbfcndeblaa", sum := "3111546e4ccc4e45728c764e05b045a8a8d817d45f90e58ee97639acd8451ff5", func := "loop.example/g03113/laws.FnLeibniz", spec := "fnLeibniz", unfollowed := true, recurses := true, plainKeys := false, apart := false, narrowed := true }
def FnLeibnizUptoSaid : Prop := fnLeibnizUptoRow.holds Try.pinned (OpenSpec.upto fnLeibnizSpec)

/-- 'laws.FnSymmetric', WHERE WHAT IT READS IS OF BULK AT MOST 1048576: true; the input reads as it did. -/
def fnSymmetricUptoRow : OpenClaim := { program := "ytcoelbfcndeblaa", sum := "3111546e4ccc4e45728c764e05b045a8a8d817d45f90e58ee97639acd8451ff5", func := "loop.example/g03113/laws.FnSymmetric", spec := "fnSymmetric", unfollowed := true, recurses := true, plainKeys := false, apart := false, narrowed := true }
def FnSymmetricUptoSaid : Prop := fnSymmetricUptoRow.holds Try.pinned (OpenSpec.upto fnSymmetricSpec)

/-- 'laws.FnPolyRing', WHERE WHAT IT READS IS OF BULK AT MOST 1048576: true; the input reads as it did. -/
def fnPolyRingUptoRow : OpenClaim := { program := "ytcoelbfcndeblaa", sum := "3111546e4ccc4e45728c764e05b045a8a8d817d45f90e58ee97639acd8451ff5", func := "loop.example/g03113/laws.FnPolyRing", spec := "fnPolyRing", unfollowed := true, recurses := true, plainKeys := false, apart := false, narrowed := true }
def FnPolyRingUptoSaid : Prop := fnPolyRingUptoRow.holds Try.pinned (OpenSpec.upto fnPolyRingSpec)

/-- 'laws.FnBraids', WHERE WHAT IT READS IS OF BULK AT MOST 1048576: true; the input reads as it did. -/
def fnBraidsUptoRow : OpenClaim := { program := "ytcoelbfcndeblaa", sum := "3111546e4ccc4e45728c764e05b045a8a8d817d45f90e58ee97639acd8451ff5", func := "loop.example/g03113/laws.FnBraids", spec := "fnBraids", unfollowed := true, recurses := true, plainKeys := false, apart := false, narrowed := true }
def FnBraidsUptoSaid : Prop := fnBraidsUptoRow.holds Try.pinned (OpenSpec.upto fnBraidsSpec)

/-- 'laws.FnPatterns', WHERE WHAT IT READS IS OF BULK AT MOST 1048576: true; the input reads as it did. -/
def fnPatternsUptoRow : OpenClaim := { program := "ytcoelbfcndeblaa", sum := "3111546e4ccc4e45728c764e05b045a8a8d817d45f90e58ee97639acd8451ff5", func := "loop.example/g03113/laws.FnPatterns", spec := "fnPatterns", plainKeys := false, apart := false, narrowed := true }
def FnPatternsUptoSaid : Prop := fnPatternsUptoRow.holds Try.pinned (OpenSpec.upto fnPatternsSpec)

/-- 'laws.FnExactClassesPoly', WHERE WHAT IT READS IS OF BULK AT MOST 1048576: true; the input reads as it did. -/
def fnExactClassesPolyUptoRow : OpenClaim := { program := "ytcoelbfcndeblaa", sum := "3111546e4ccc4e45728c764e05b045a8a8d817d45f90e58ee97639acd8451ff5", func := "loop.example/g03113/laws.FnExactClassesPoly", spec := "fnExactClassesPoly", unfollowed := true, recurses := true, plainKeys := false, apart := false, narrowed := true }
def FnExactClassesPolyUptoSaid : Prop := fnExactClassesPolyUptoRow.holds Try.pinned (OpenSpec.upto fnExactClassesPolySpec)

/-- 'laws.FnExactMonkProduct', WHERE WHAT IT READS IS OF BULK AT MOST 1048576: true; the input reads as it did. -/
def fnExactMonkProductUptoRow : OpenClaim := { program := "ytcoelbfcndeblaa", sum := "3111546e4ccc4e45728c764e05b045a8a8d817d45f90e58ee97639acd8451ff5", func := "loop.example/g03113/laws.FnExactMonkProduct", spec := "fnExactMonkProduct", unfollowed := true, recurses := true, plainKeys := false, apart := false, narrowed := true }
def FnExactMonkProductUptoSaid : Prop := fnExactMonkProductUptoRow.holds Try.pinned (OpenSpec.upto fnExactMonkProductSpec)

/-- 'laws.FnExactCoversOf', WHERE WHAT IT READS IS OF BULK AT MOST 1048576: true; the input reads as it did. -/
def fnExactCoversOfUptoRow : OpenClaim := { program := "ytcoelbfcndeblaa", sum := "3111546e4ccc4e45728c764e05b045a8a8d817d45f90e58ee97639acd8451ff5", func := "loop.example/g03113/laws.FnExactCoversOf", spec := "fnExactCoversOf", unfollowed := true, recurses := true, plainKeys := false, apart := false, narrowed := true }
def FnExactCoversOfUptoSaid : Prop := fnExactCoversOfUptoRow.holds Try.pinned (OpenSpec.upto fnExactCoversOfSpec)

/-- 'laws.FnExactTransitionOf', WHERE WHAT IT READS IS OF BULK AT MOST 1048576: true; the input reads as it did. -/
def fnExactTransitionOfUptoRow : OpenClaim := { program := "ytcoelbfcndeblaa", sum := "3111546e4ccc4e45728c764e05b045a8a8d817d45f90e58ee97639acd8451ff5", func := "loop.example/g03113/laws.FnExactTransitionOf", spec := "fnExactTransitionOf", unfollowed := true, recurses := true, plainKeys := false, apart := false, narrowed := true }
def FnExactTransitionOfUptoSaid : Prop := fnExactTransitionOfUptoRow.holds Try.pinned (OpenSpec.upto fnExactTransitionOfSpec)

/-- 'laws.FnExactDreamWord', WHERE WHAT IT READS IS OF BULK AT MOST 1048576: true; the input reads as it did. -/
def fnExactDreamWordUptoRow : OpenClaim := { program := "ytcoelbfcndeblaa", sum := "3111546e4ccc4e45728c764e05b045a8a8d817d45f90e58ee97639acd8451ff5", func := "loop.example/g03113/laws.FnExactDreamWord", spec := "fnExactDreamWord", unfollowed := true, recurses := true, plainKeys := false, apart := false, narrowed := true }
def FnExactDreamWordUptoSaid : Prop := fnExactDreamWordUptoRow.holds Try.pinned (OpenSpec.upto fnExactDreamWordSpec)

/-- 'laws.FnExactDreamPerm', WHERE WHAT IT READS IS OF BULK AT MOST 1048576: true; the input reads as it did. -/
def fnExactDreamPermUptoRow : OpenClaim := { program := "ytcoelbfcndeblaa", sum := "3111546e4ccc4e45728c764e05b045a8a8d817d45f90e58ee97639acd8451ff5", func := "loop.example/g03113/laws.FnExactDreamPerm", spec := "fnExactDreamPerm", unfollowed := true, recurses := true, plainKeys := false, apart := false, narrowed := true }
def FnExactDreamPermUptoSaid : Prop := fnExactDreamPermUptoRow.holds Try.pinned (OpenSpec.upto fnExactDreamPermSpec)

end Rows
end Go.Proofs.Ytcoelbfcndeblaa
