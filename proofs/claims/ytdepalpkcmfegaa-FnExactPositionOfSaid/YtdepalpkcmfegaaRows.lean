/-
  No cell of these rows narrows 'for every input' (looked for: loops, veiled, ifaces, maps, wideKeys, modest, calm, conditions, laid).
  DERIVED. THE GIVEN ROWS OF THIS SEAT. 12 by the template 'for every input the law returns true; each argument reads behind the call as it read before'; 0 by the template 'total and deterministic' (their statements: YtdepalpkcmfegaaTotals.lean).
  GIVEN WITH THE SEED: the statements are not yours to turn. If you find one false, say at which input.
  Laid BY PROGRAM, IN A SANDBOX (cutbox-rows.mjs): the forced cells as the released guide's own fill.sh prints them over the translation 03c615e7f3167743… (all of the seat's roots in one cut). By AI agents, Wed Nov 11 2026. No macro, syntax, notation, axiom, sorry.
-/
import Derived.Test.YtdepalpkcmfegaaChecked
import GoSem.Claim
import GoSem.ClaimJoined
import GoSem.ClaimMapViews
import Derived.JoinedTies
import Derived.KernelRfl
namespace Go.Proofs.Ytdepalpkcmfegaa
/- THE CELL 'sum', in the pinned program and in every row, IS THE sha256 OF THE DUMP (.gsa) THAT YtdepalpkcmfegaaProg.lean LOADS. Nothing in Lean hashes anything: it is a label: what it is worth is what the hold of that sum in a sandbox is worth. -/
noncomputable def Try.pinned : Pinned := { name := "ytdepalpkcmfegaa", sum := "03c615e7f3167743019aa3ad4ba441609a96eae9ef2e474f7c35aacf1ff73514", checked := Try.checked }
namespace Rows
def none {H : Type} : Left H := { results := [], args := [] }

/-- 'laws.FnExactSumSpaces': WHATEVER THE INPUT: true; the input reads as it did. -/
def fnExactSumSpacesSpec : ChangeSpec := { name := "fnExactSumSpaces", fn := fun _ => fun
  | [d1, d2] => { results := [.lit (.bool true)], args := [d1, d2] }
  | _ => none }
def fnExactSumSpacesRow : OpenClaim := { program := "ytdepalpkcmfegaa", sum := "03c615e7f3167743019aa3ad4ba441609a96eae9ef2e474f7c35aacf1ff73514", func := "loop.example/g03113/laws.FnExactSumSpaces", spec := "fnExactSumSpaces", unfollowed := true, recurses := true, apart := false }
def FnExactSumSpacesSaid : Prop := fnExactSumSpacesRow.holds Try.pinned (OpenSpec.ofChange fnExactSumSpacesSpec)

/-- ITS FALSE NEIGHBOUR: 'it returns false'. Refute it at one input. -/
def fnExactSumSpacesWrong : ChangeSpec := { name := "fnExactSumSpaces", fn := fun _ => fun
  | [d1, d2] => { results := [.lit (.bool false)], args := [d1, d2] }
  | _ => none }
def FnExactSumSpacesWrongFalsely : Prop := fnExactSumSpacesRow.holds Try.pinned (OpenSpec.ofChange fnExactSumSpacesWrong)

/-- 'laws.FnExactMeetSpaces': WHATEVER THE INPUT: true; the input reads as it did. -/
def fnExactMeetSpacesSpec : ChangeSpec := { name := "fnExactMeetSpaces", fn := fun _ => fun
  | [d1, d2] => { results := [.lit (.bool true)], args := [d1, d2] }
  | _ => none }
def fnExactMeetSpacesRow : OpenClaim := { program := "ytdepalpkcmfegaa", sum := "03c615e7f3167743019aa3ad4ba441609a96eae9ef2e474f7c35aacf1ff73514", func := "loop.example/g03113/laws.FnExactMeetSpaces", spec := "fnExactMeetSpaces", unfollowed := true, recurses := true, apart := false }
def FnExactMeetSpacesSaid : Prop := fnExactMeetSpacesRow.holds Try.pinned (OpenSpec.ofChange fnExactMeetSpacesSpec)

/-- ITS FALSE NEIGHBOUR: 'it returns false'. Refute it at one input. -/
def fnExactMeetSpacesWrong : ChangeSpec := { name := "fnExactMeetSpaces", fn := fun _ => fun
  | [d1, d2] => { results := [.lit (.bool false)], args := [d1, d2] }
  | _ => none }
def FnExactMeetSpacesWrongFalsely : Prop := fnExactMeetSpacesRow.holds Try.pinned (OpenSpec.ofChange fnExactMeetSpacesWrong)

/-- 'laws.FnExactMulMatrices': WHATEVER THE INPUT: true; the input reads as it did. -/
def fnExactMulMatricesSpec : ChangeSpec := { name := "fnExactMulMatrices", fn := fun _ => fun
  | [d1, d2] => { results := [.lit (.bool true)], args := [d1, d2] }
  | _ => none }
def fnExactMulMatricesRow : OpenClaim := { program := "ytdepalpkcmfegaa", sum := "03c615e7f3167743019aa3ad4ba441609a96eae9ef2e474f7c35aacf1ff73514", func := "loop.example/g03113/laws.FnExactMulMatrices", spec := "fnExactMulMatrices", unfollowed := true, recurses := true, apart := false }
def FnExactMulMatricesSaid : Prop := fnExactMulMatricesRow.holds Try.pinned (OpenSpec.ofChange fnExactMulMatricesSpec)

/-- ITS FALSE NEIGHBOUR: 'it returns false'. Refute it at one input. -/
def fnExactMulMatricesWrong : ChangeSpec := { name := "fnExactMulMatrices", fn := fun _ => fun
  | [d1, d2] => { results := [.lit (.bool false)], args := [d1, d2] }
  | _ => none }
def FnExactMulMatricesWrongFalsely : Prop := fnExactMulMatricesRow.holds Try.pinned (OpenSpec.ofChange fnExactMulMatricesWrong)

/-- 'laws.FnExactFlagOk': WHATEVER THE INPUT: true; the input reads as it did. -/
def fnExactFlagOkSpec : ChangeSpec := { name := "fnExactFlagOk", fn := fun _ => fun
  | [d] => { results := [.lit (.bool true)], args := [d] }
  | _ => none }
def fnExactFlagOkRow : OpenClaim := { program := "ytdepalpkcmfegaa", sum := "03c615e7f3167743019aa3ad4ba441609a96eae9ef2e474f7c35aacf1ff73514", func := "loop.example/g03113/laws.FnExactFlagOk", spec := "fnExactFlagOk", unfollowed := true, recurses := true, apart := false }
def FnExactFlagOkSaid : Prop := fnExactFlagOkRow.holds Try.pinned (OpenSpec.ofChange fnExactFlagOkSpec)

/-- ITS FALSE NEIGHBOUR: 'it returns false'. Refute it at one input. -/
def fnExactFlagOkWrong : ChangeSpec := { name := "fnExactFlagOk", fn := fun _ => fun
  | [d] => { results := [.lit (.bool false)], args := [d] }
  | _ => none }
def FnExactFlagOkWrongFalsely : Prop := fnExactFlagOkRow.holds Try.pinned (OpenSpec.ofChange fnExactFlagOkWrong)

/-- 'laws.FnExactNormalFlag': WHATEVER THE INPUT: true; the input reads as it did. -/
def fnExactNormalFlagSpec : ChangeSpec := { name := "fnExactNormalFlag", fn := fun _ => fun
  | [d] => { results := [.lit (.bool true)], args := [d] }
  | _ => none }
def fnExactNormalFlagRow : OpenClaim := { program := "ytdepalpkcmfegaa", sum := "03c615e7f3167743019aa3ad4ba441609a96eae9ef2e474f7c35aacf1ff73514", func := "loop.example/g03113/laws.FnExactNormalFlag", spec := "fnExactNormalFlag", unfollowed := true, recurses := true, apart := false }
def FnExactNormalFlagSaid : Prop := fnExactNormalFlagRow.holds Try.pinned (OpenSpec.ofChange fnExactNormalFlagSpec)

/-- ITS FALSE NEIGHBOUR: 'it returns false'. Refute it at one input. -/
def fnExactNormalFlagWrong : ChangeSpec := { name := "fnExactNormalFlag", fn := fun _ => fun
  | [d] => { results := [.lit (.bool false)], args := [d] }
  | _ => none }
def FnExactNormalFlagWrongFalsely : Prop := fnExactNormalFlagRow.holds Try.pinned (OpenSpec.ofChange fnExactNormalFlagWrong)

/-- 'laws.FnExactFlagPerm': WHATEVER THE INPUT: true; the input reads as it did. -/
def fnExactFlagPermSpec : ChangeSpec := { name := "fnExactFlagPerm", fn := fun _ => fun
  | [d] => { results := [.lit (.bool true)], args := [d] }
  | _ => none }
def fnExactFlagPermRow : OpenClaim := { program := "ytdepalpkcmfegaa", sum := "03c615e7f3167743019aa3ad4ba441609a96eae9ef2e474f7c35aacf1ff73514", func := "loop.example/g03113/laws.FnExactFlagPerm", spec := "fnExactFlagPerm", unfollowed := true, recurses := true, apart := false }
def FnExactFlagPermSaid : Prop := fnExactFlagPermRow.holds Try.pinned (OpenSpec.ofChange fnExactFlagPermSpec)

/-- ITS FALSE NEIGHBOUR: 'it returns false'. Refute it at one input. -/
def fnExactFlagPermWrong : ChangeSpec := { name := "fnExactFlagPerm", fn := fun _ => fun
  | [d] => { results := [.lit (.bool false)], args := [d] }
  | _ => none }
def FnExactFlagPermWrongFalsely : Prop := fnExactFlagPermRow.holds Try.pinned (OpenSpec.ofChange fnExactFlagPermWrong)

/-- 'laws.FnExactRelativePosition': WHATEVER THE INPUT: true; the input reads as it did. -/
def fnExactRelativePositionSpec : ChangeSpec := { name := "fnExactRelativePosition", fn := fun _ => fun
  | [d1, d2] => { results := [.lit (.bool true)], args := [d1, d2] }
  | _ => none }
def fnExactRelativePositionRow : OpenClaim := { program := "ytdepalpkcmfegaa", sum := "03c615e7f3167743019aa3ad4ba441609a96eae9ef2e474f7c35aacf1ff73514", func := "loop.example/g03113/laws.FnExactRelativePosition", spec := "fnExactRelativePosition", unfollowed := true, recurses := true, apart := false }
def FnExactRelativePositionSaid : Prop := fnExactRelativePositionRow.holds Try.pinned (OpenSpec.ofChange fnExactRelativePositionSpec)

/-- ITS FALSE NEIGHBOUR: 'it returns false'. Refute it at one input. -/
def fnExactRelativePositionWrong : ChangeSpec := { name := "fnExactRelativePosition", fn := fun _ => fun
  | [d1, d2] => { results := [.lit (.bool false)], args := [d1, d2] }
  | _ => none }
def FnExactRelativePositionWrongFalsely : Prop := fnExactRelativePositionRow.holds Try.pinned (OpenSpec.ofChange fnExactRelativePositionWrong)

/-- 'laws.FnExactPositionOf': WHATEVER THE INPUT: true; the input reads as it did. -/
def fnExactPositionOfSpec : ChangeSpec := { name := "fnExactPositionOf", fn := fun _ => fun
  | [d1, d2] => { results := [.lit (.bool true)], args := [d1, d2] }
  | _ => none }
def fnExactPositionOfRow : OpenClaim := { program := "ytdepalpkcmfegaa", sum := "03c615e7f3167743019aa3ad4ba441609a96eae9ef2e474f7c35aacf1ff73514", func := "loop.example/g03113/laws.FnExactPositionOf", spec := "fnExactPositionOf", unfollowed := true, recurses := true, apart := false }
def FnExactPositionOfSaid : Prop := fnExactPositionOfRow.holds Try.pinned (OpenSpec.ofChange fnExactPositionOfSpec)

/-- ITS FALSE NEIGHBOUR: 'it returns false'. Refute it at one input. -/
def fnExactPositionOfWrong : ChangeSpec := { name := "fnExactPositionOf", fn := fun _ => fun
  | [d1, d2] => { results := [.lit (.bool false)], args := [d1, d2] }
  | _ => none }
def FnExactPositionOfWrongFalsely : Prop := fnExactPositionOfRow.holds Try.pinned (OpenSpec.ofChange fnExactPositionOfWrong)

/-- 'laws.FnExactMeetsFlag': WHATEVER THE INPUT: true; the input reads as it did. -/
def fnExactMeetsFlagSpec : ChangeSpec := { name := "fnExactMeetsFlag", fn := fun _ => fun
  | [d1, d2, d3] => { results := [.lit (.bool true)], args := [d1, d2, d3] }
  | _ => none }
def fnExactMeetsFlagRow : OpenClaim := { program := "ytdepalpkcmfegaa", sum := "03c615e7f3167743019aa3ad4ba441609a96eae9ef2e474f7c35aacf1ff73514", func := "loop.example/g03113/laws.FnExactMeetsFlag", spec := "fnExactMeetsFlag", unfollowed := true, recurses := true, apart := false }
def FnExactMeetsFlagSaid : Prop := fnExactMeetsFlagRow.holds Try.pinned (OpenSpec.ofChange fnExactMeetsFlagSpec)

/-- ITS FALSE NEIGHBOUR: 'it returns false'. Refute it at one input. -/
def fnExactMeetsFlagWrong : ChangeSpec := { name := "fnExactMeetsFlag", fn := fun _ => fun
  | [d1, d2, d3] => { results := [.lit (.bool false)], args := [d1, d2, d3] }
  | _ => none }
def FnExactMeetsFlagWrongFalsely : Prop := fnExactMeetsFlagRow.holds Try.pinned (OpenSpec.ofChange fnExactMeetsFlagWrong)

/-- 'laws.FnExactRskOf': WHATEVER THE INPUT: true; the input reads as it did. -/
def fnExactRskOfSpec : ChangeSpec := { name := "fnExactRskOf", fn := fun _ => fun
  | [d] => { results := [.lit (.bool true)], args := [d] }
  | _ => none }
def fnExactRskOfRow : OpenClaim := { program := "ytdepalpkcmfegaa", sum := "03c615e7f3167743019aa3ad4ba441609a96eae9ef2e474f7c35aacf1ff73514", func := "loop.example/g03113/laws.FnExactRskOf", spec := "fnExactRskOf", unfollowed := true, recurses := true, apart := false }
def FnExactRskOfSaid : Prop := fnExactRskOfRow.holds Try.pinned (OpenSpec.ofChange fnExactRskOfSpec)

/-- ITS FALSE NEIGHBOUR: 'it returns false'. Refute it at one input. -/
def fnExactRskOfWrong : ChangeSpec := { name := "fnExactRskOf", fn := fun _ => fun
  | [d] => { results := [.lit (.bool false)], args := [d] }
  | _ => none }
def FnExactRskOfWrongFalsely : Prop := fnExactRskOfRow.holds Try.pinned (OpenSpec.ofChange fnExactRskOfWrong)

/-- 'laws.FnExactEdelmanGreene': WHATEVER THE INPUT: true; the input reads as it did. -/
def fnExactEdelmanGreeneSpec : ChangeSpec := { name := "fnExactEdelmanGreene", fn := fun _ => fun
  | [d1, d2] => { results := [.lit (.bool true)], args := [d1, d2] }
  | _ => none }
def fnExactEdelmanGreeneRow : OpenClaim := { program := "ytdepalpkcmfegaa", sum := "03c615e7f3167743019aa3ad4ba441609a96eae9ef2e474f7c35aacf1ff73514", func := "loop.example/g03113/laws.FnExactEdelmanGreene", spec := "fnExactEdelmanGreene", unfollowed := true, recurses := true, apart := false }
def FnExactEdelmanGreeneSaid : Prop := fnExactEdelmanGreeneRow.holds Try.pinned (OpenSpec.ofChange fnExactEdelmanGreeneSpec)

/-- ITS FALSE NEIGHBOUR: 'it returns false'. Refute it at one input. -/
def fnExactEdelmanGreeneWrong : ChangeSpec := { name := "fnExactEdelmanGreene", fn := fun _ => fun
  | [d1, d2] => { results := [.lit (.bool false)], args := [d1, d2] }
  | _ => none }
def FnExactEdelmanGreeneWrongFalsely : Prop := fnExactEdelmanGreeneRow.holds Try.pinned (OpenSpec.ofChange fnExactEdelmanGreeneWrong)

/-- 'laws.FnExactCountSpaces': WHATEVER THE INPUT: true; the input reads as it did. -/
def fnExactCountSpacesSpec : ChangeSpec := { name := "fnExactCountSpaces", fn := fun _ => fun
  | [d1, d2, d3] => { results := [.lit (.bool true)], args := [d1, d2, d3] }
  | _ => none }
def fnExactCountSpacesRow : OpenClaim := { program := "ytdepalpkcmfegaa", sum := "03c615e7f3167743019aa3ad4ba441609a96eae9ef2e474f7c35aacf1ff73514", func := "loop.example/g03113/laws.FnExactCountSpaces", spec := "fnExactCountSpaces", unfollowed := true, recurses := true, apart := false }
def FnExactCountSpacesSaid : Prop := fnExactCountSpacesRow.holds Try.pinned (OpenSpec.ofChange fnExactCountSpacesSpec)

/-- ITS FALSE NEIGHBOUR: 'it returns false'. Refute it at one input. -/
def fnExactCountSpacesWrong : ChangeSpec := { name := "fnExactCountSpaces", fn := fun _ => fun
  | [d1, d2, d3] => { results := [.lit (.bool false)], args := [d1, d2, d3] }
  | _ => none }
def FnExactCountSpacesWrongFalsely : Prop := fnExactCountSpacesRow.holds Try.pinned (OpenSpec.ofChange fnExactCountSpacesWrong)

/- THE SECOND FORM. 'bulk': how many values and letters a reading holds, each counted each time it is reached (what is shared counts as often as it is met; a slice's spare places count too). A statement '..UptoSaid' is the law's where the arguments, and the package variables that the reading takes, are together of bulk at most 1048576: NARROWER than '..Said'. Prove '..Said' where nothing that the law and all that it calls make is longer than what came in: it says more and counts as full. Else prove '..UptoSaid'. A law counts once. -/
mutual
def uptoBulk {H : Type} : DataW H → Nat
  | .lit (.string bytes) => bytes.length + 1
  | .lit _ => 1
  | .nil => 1
  | .ptr d => uptoBulk d + 1
  | .slice elems spare => uptoBulkAll elems + uptoBulkAll spare + 1
  | .agg parts => uptoBulkAll parts + 1
  | .iface _ d => uptoBulk d + 1
  | .map entries => uptoBulkEntries entries + 1
  | .held _ => 1
def uptoBulkAll {H : Type} : List (DataW H) → Nat
  | [] => 0
  | d :: r => uptoBulk d + uptoBulkAll r
def uptoBulkEntries {H : Type} : List (Lit × DataW H) → Nat
  | [] => 0
  | x :: r => uptoBulkEntry x + uptoBulkEntries r
def uptoBulkEntry {H : Type} : Lit × DataW H → Nat
  | (.string bytes, d) => bytes.length + uptoBulk d + 1
  | (_, d) => uptoBulk d + 1
 end
def uptoSmall : (H : Type) → List (DataW H) → Bool := fun _ ds => decide (uptoBulkAll ds ≤ 1048576)
def OpenSpec.upto (s : _root_.Go.ChangeSpec) : _root_.Go.OpenSpec := { _root_.Go.OpenSpec.ofChange s with cond := some uptoSmall }

/-- 'laws.FnExactSumSpaces', WHERE WHAT IT READS IS OF BULK AT MOST 1048576: true; the input reads as it did. -/
def fnExactSumSpacesUptoRow : OpenClaim := { program := "ytdepalpkcmfegaa", sum := "03c615e7f3167743019aa3ad4ba441609a96eae9ef2e474f7c35aacf1ff73514", func := "loop.example/g03113/laws.FnExactSumSpaces", spec := "fnExactSumSpaces", unfollowed := true, recurses := true, apart := false, narrowed := true }
def FnExactSumSpacesUptoSaid : Prop := fnExactSumSpacesUptoRow.holds Try.pinned (OpenSpec.upto fnExactSumSpacesSpec)

/-- 'laws.FnExactMeetSpaces', WHERE WHAT IT READS IS OF BULK AT MOST 1048576: true; the input reads as it did. -/
def fnExactMeetSpacesUptoRow : OpenClaim := { program := "ytdepalpkcmfegaa", sum := "03c615e7f3167743019aa3ad4ba441609a96eae9ef2e474f7c35aacf1ff73514", func := "loop.example/g03113/laws.FnExactMeetSpaces", spec := "fnExactMeetSpaces", unfollowed := true, recurses := true, apart := false, narrowed := true }
def FnExactMeetSpacesUptoSaid : Prop := fnExactMeetSpacesUptoRow.holds Try.pinned (OpenSpec.upto fnExactMeetSpacesSpec)

/-- 'laws.FnExactMulMatrices', WHERE WHAT IT READS IS OF BULK AT MOST 1048576: true; the input reads as it did. -/
def fnExactMulMatricesUptoRow : OpenClaim := { program := "ytdepalpkcmfegaa", sum := "03c615e7f3167743019aa3ad4ba441609a96eae9ef2e474f7c35aacf1ff73514", func := "loop.example/g03113/laws.FnExactMulMatrices", spec := "fnExactMulMatrices", unfollowed := true, recurses := true, apart := false, narrowed := true }
def FnExactMulMatricesUptoSaid : Prop := fnExactMulMatricesUptoRow.holds Try.pinned (OpenSpec.upto fnExactMulMatricesSpec)

/-- 'laws.FnExactFlagOk', WHERE WHAT IT READS IS OF BULK AT MOST 1048576: true; the input reads as it did. -/
def fnExactFlagOkUptoRow : OpenClaim := { program := "ytdepalpkcmfegaa", sum := "03c615e7f3167743019aa3ad4ba441609a96eae9ef2e474f7c35aacf1ff73514", func := "loop.example/g03113/laws.FnExactFlagOk", spec := "fnExactFlagOk", unfollowed := true, recurses := true, apart := false, narrowed := true }
def FnExactFlagOkUptoSaid : Prop := fnExactFlagOkUptoRow.holds Try.pinned (OpenSpec.upto fnExactFlagOkSpec)

/-- 'laws.FnExactNormalFlag', WHERE WHAT IT READS IS OF BULK AT MOST 1048576: true; the input reads as it did. -/
def fnExactNormalFlagUptoRow : OpenClaim := { program := "ytdepalpkcmfegaa", sum := "03c615e7f3167743019aa3ad4ba441609a96eae9ef2e474f7c35aacf1ff73514", func := "loop.example/g03113/laws.FnExactNormalFlag", spec := "fnExactNormalFlag", unfollowed := true, recurses := true, apart := false, narrowed := true }
def FnExactNormalFlagUptoSaid : Prop := fnExactNormalFlagUptoRow.holds Try.pinned (OpenSpec.upto fnExactNormalFlagSpec)

/-- 'laws.FnExactFlagPerm', WHERE WHAT IT READS IS OF BULK AT MOST 1048576: true; the input reads as it did. -/
def fnExactFlagPermUptoRow : OpenClaim := { program := "ytdepalpkcmfegaa", sum := "03c615e7f3167743019aa3ad4ba441609a96eae9ef2e474f7c35aacf1ff73514", func := "loop.example/g03113/laws.FnExactFlagPerm", spec := "fnExactFlagPerm", unfollowed := true, recurses := true, apart := false, narrowed := true }
def FnExactFlagPermUptoSaid : Prop := fnExactFlagPermUptoRow.holds Try.pinned (OpenSpec.upto fnExactFlagPermSpec)

/-- 'laws.FnExactRelativePosition', WHERE WHAT IT READS IS OF BULK AT MOST 1048576: true; the input reads as it did. -/
def fnExactRelativePositionUptoRow : OpenClaim := { program := "ytdepalpkcmfegaa", sum := "03c615e7f3167743019aa3ad4ba441609a96eae9ef2e474f7c35aacf1ff73514", func := "loop.example/g03113/laws.FnExactRelativePosition", spec := "fnExactRelativePosition", unfollowed := true, recurses := true, apart := false, narrowed := true }
def FnExactRelativePositionUptoSaid : Prop := fnExactRelativePositionUptoRow.holds Try.pinned (OpenSpec.upto fnExactRelativePositionSpec)

/-- 'laws.FnExactPositionOf', WHERE WHAT IT READS IS OF BULK AT MOST 1048576: true; the input reads as it did. -/
def fnExactPositionOfUptoRow : OpenClaim := { program := "ytdepalpkcmfegaa", sum := "03c615e7f3167743019aa3ad4ba441609a96eae9ef2e474f7c35aacf1ff73514", func := "loop.example/g03113/laws.FnExactPositionOf", spec := "fnExactPositionOf", unfollowed := true, recurses := true, apart := false, narrowed := true }
def FnExactPositionOfUptoSaid : Prop := fnExactPositionOfUptoRow.holds Try.pinned (OpenSpec.upto fnExactPositionOfSpec)

/-- 'laws.FnExactMeetsFlag', WHERE WHAT IT READS IS OF BULK AT MOST 1048576: true; the input reads as it did. -/
def fnExactMeetsFlagUptoRow : OpenClaim := { program := "ytdepalpkcmfegaa", sum := "03c615e7f3167743019aa3ad4ba441609a96eae9ef2e474f7c35aacf1ff73514", func := "loop.example/g03113/laws.FnExactMeetsFlag", spec := "fnExactMeetsFlag", unfollowed := true, recurses := true, apart := false, narrowed := true }
def FnExactMeetsFlagUptoSaid : Prop := fnExactMeetsFlagUptoRow.holds Try.pinned (OpenSpec.upto fnExactMeetsFlagSpec)

/-- 'laws.FnExactRskOf', WHERE WHAT IT READS IS OF BULK AT MOST 1048576: true; the input reads as it did. -/
def fnExactRskOfUptoRow : OpenClaim := { program := "ytdepalpkcmfegaa", sum := "03c615e7f3167743019aa3ad4ba441609a96eae9ef2e474f7c35aacf1ff73514", func := "loop.example/g03113/laws.FnExactRskOf", spec := "fnExactRskOf", unfollowed := true, recurses := true, apart := false, narrowed := true }
def FnExactRskOfUptoSaid : Prop := fnExactRskOfUptoRow.holds Try.pinned (OpenSpec.upto fnExactRskOfSpec)

/-- 'laws.FnExactEdelmanGreene', WHERE WHAT IT READS IS OF BULK AT MOST 1048576: true; the input reads as it did. -/
def fnExactEdelmanGreeneUptoRow : OpenClaim := { program := "ytdepalpkcmfegaa", sum := "03c615e7f3167743019aa3ad4ba441609a96eae9ef2e474f7c35aacf1ff73514", func := "loop.example/g03113/laws.FnExactEdelmanGreene", spec := "fnExactEdelmanGreene", unfollowed := true, recurses := true, apart := false, narrowed := true }
def FnExactEdelmanGreeneUptoSaid : Prop := fnExactEdelmanGreeneUptoRow.holds Try.pinned (OpenSpec.upto fnExactEdelmanGreeneSpec)

/-- 'laws.FnExactCountSpaces', WHERE WHAT IT READS IS OF BULK AT MOST 1048576: true; the input reads as it did. -/
def fnExactCountSpacesUptoRow : OpenClaim := { program := "ytdepalpkcmfegaa", sum := "03c615e7f3167743019aa3ad4ba441609a96eae9ef2e474f7c35aacf1ff73514", func := "loop.example/g03113/laws.FnExactCountSpaces", spec := "fnExactCountSpaces", unfollowed := true, recurses := true, apart := false, narrowed := true }
def FnExactCountSpacesUptoSaid : Prop := fnExactCountSpacesUptoRow.holds Try.pinned (OpenSpec.upto fnExactCountSpacesSpec)

end Rows
end Go.Proofs.Ytdepalpkcmfegaa
