/-
  No cell of these rows narrows 'for every input' (looked for: loops, veiled, ifaces, maps, wideKeys, modest, calm, conditions, laid).
  DERIVED. THE GIVEN ROWS OF THIS SEAT. 8 by the template 'for every input the law returns true; each argument reads behind the call as it read before'; 0 by the template 'total and deterministic' (their statements: YtjlpplghdhjdfaaTotals.lean).
  GIVEN WITH THE SEED: the statements are not yours to turn. If you find one false, say at which input.
  Laid BY PROGRAM, IN A SANDBOX (cutbox-rows.mjs): the forced cells as the released guide's own fill.sh prints them over the translation 10d896808069a35a… (all of the seat's roots in one cut). By AI agents, Wed Nov 11 2026. No macro, syntax, notation, axiom, sorry.
-/
import Derived.Test.YtjlpplghdhjdfaaChecked
import GoSem.Claim
import GoSem.ClaimJoined
import GoSem.ClaimMapViews
import Derived.JoinedTies
import Derived.KernelRfl
namespace Go.Proofs.Ytjlpplghdhjdfaa
/- THE CELL 'sum', in the pinned program and in every row, IS THE sha256 OF THE DUMP (.gsa) THAT YtjlpplghdhjdfaaProg.lean LOADS. Nothing in Lean hashes anything: it is a label: what it is worth is what the hold of that sum in a sandbox is worth. -/
noncomputable def Try.pinned : Pinned := { name := "ytjlpplghdhjdfaa", sum := "10d896808069a35adf345315cff64953f5b39e39d5f9292c3fb2d7168744bbab", checked := Try.checked }
namespace Rows
def none {H : Type} : Left H := { results := [], args := [] }

/-- 'laws.FnExactFormatPerm': WHATEVER THE INPUT: true; the input reads as it did. -/
def fnExactFormatPermSpec : ChangeSpec := { name := "fnExactFormatPerm", fn := fun _ => fun
  | [d] => { results := [.lit (.bool true)], args := [d] }
  | _ => none }
def fnExactFormatPermRow : OpenClaim := { program := "ytjlpplghdhjdfaa", sum := "10d896808069a35adf345315cff64953f5b39e39d5f9292c3fb2d7168744bbab", func := "loop.example/g03113/laws.FnExactFormatPerm", spec := "fnExactFormatPerm", plainKeys := false, apart := false }
def FnExactFormatPermSaid : Prop := fnExactFormatPermRow.holds Try.pinned (OpenSpec.ofChange fnExactFormatPermSpec)

/-- ITS FALSE NEIGHBOUR: 'it returns false'. Refute it at one input. -/
def fnExactFormatPermWrong : ChangeSpec := { name := "fnExactFormatPerm", fn := fun _ => fun
  | [d] => { results := [.lit (.bool false)], args := [d] }
  | _ => none }
def FnExactFormatPermWrongFalsely : Prop := fnExactFormatPermRow.holds Try.pinned (OpenSpec.ofChange fnExactFormatPermWrong)

/-- 'laws.FnExactParsePerm': WHATEVER THE INPUT: true; the input reads as it did. -/
def fnExactParsePermSpec : ChangeSpec := { name := "fnExactParsePerm", fn := fun _ => fun
  | [d] => { results := [.lit (.bool true)], args := [d] }
  | _ => none }
def fnExactParsePermRow : OpenClaim := { program := "ytjlpplghdhjdfaa", sum := "10d896808069a35adf345315cff64953f5b39e39d5f9292c3fb2d7168744bbab", func := "loop.example/g03113/laws.FnExactParsePerm", spec := "fnExactParsePerm", plainKeys := false, apart := false }
def FnExactParsePermSaid : Prop := fnExactParsePermRow.holds Try.pinned (OpenSpec.ofChange fnExactParsePermSpec)

/-- ITS FALSE NEIGHBOUR: 'it returns false'. Refute it at one input. -/
def fnExactParsePermWrong : ChangeSpec := { name := "fnExactParsePerm", fn := fun _ => fun
  | [d] => { results := [.lit (.bool false)], args := [d] }
  | _ => none }
def FnExactParsePermWrongFalsely : Prop := fnExactParsePermRow.holds Try.pinned (OpenSpec.ofChange fnExactParsePermWrong)

/-- 'laws.FnExactCoversOf': WHATEVER THE INPUT: true; the input reads as it did. -/
def fnExactCoversOfSpec : ChangeSpec := { name := "fnExactCoversOf", fn := fun _ => fun
  | [d] => { results := [.lit (.bool true)], args := [d] }
  | _ => none }
def fnExactCoversOfRow : OpenClaim := { program := "ytjlpplghdhjdfaa", sum := "10d896808069a35adf345315cff64953f5b39e39d5f9292c3fb2d7168744bbab", func := "loop.example/g03113/laws.FnExactCoversOf", spec := "fnExactCoversOf", unfollowed := true, recurses := true, plainKeys := false, apart := false }
def FnExactCoversOfSaid : Prop := fnExactCoversOfRow.holds Try.pinned (OpenSpec.ofChange fnExactCoversOfSpec)

/-- ITS FALSE NEIGHBOUR: 'it returns false'. Refute it at one input. -/
def fnExactCoversOfWrong : ChangeSpec := { name := "fnExactCoversOf", fn := fun _ => fun
  | [d] => { results := [.lit (.bool false)], args := [d] }
  | _ => none }
def FnExactCoversOfWrongFalsely : Prop := fnExactCoversOfRow.holds Try.pinned (OpenSpec.ofChange fnExactCoversOfWrong)

/-- 'laws.FnBruhat': WHATEVER THE INPUT: true; the input reads as it did. -/
def fnBruhatSpec : ChangeSpec := { name := "fnBruhat", fn := fun _ => fun
  | [d] => { results := [.lit (.bool true)], args := [d] }
  | _ => none }
def fnBruhatRow : OpenClaim := { program := "ytjlpplghdhjdfaa", sum := "10d896808069a35adf345315cff64953f5b39e39d5f9292c3fb2d7168744bbab", func := "loop.example/g03113/laws.FnBruhat", spec := "fnBruhat", unfollowed := true, recurses := true, plainKeys := false, apart := false }
def FnBruhatSaid : Prop := fnBruhatRow.holds Try.pinned (OpenSpec.ofChange fnBruhatSpec)

/-- ITS FALSE NEIGHBOUR: 'it returns false'. Refute it at one input. -/
def fnBruhatWrong : ChangeSpec := { name := "fnBruhat", fn := fun _ => fun
  | [d] => { results := [.lit (.bool false)], args := [d] }
  | _ => none }
def FnBruhatWrongFalsely : Prop := fnBruhatRow.holds Try.pinned (OpenSpec.ofChange fnBruhatWrong)

/-- 'laws.FnEssentialRanks': WHATEVER THE INPUT: true; the input reads as it did. -/
def fnEssentialRanksSpec : ChangeSpec := { name := "fnEssentialRanks", fn := fun _ => fun
  | [d] => { results := [.lit (.bool true)], args := [d] }
  | _ => none }
def fnEssentialRanksRow : OpenClaim := { program := "ytjlpplghdhjdfaa", sum := "10d896808069a35adf345315cff64953f5b39e39d5f9292c3fb2d7168744bbab", func := "loop.example/g03113/laws.FnEssentialRanks", spec := "fnEssentialRanks", plainKeys := false, apart := false }
def FnEssentialRanksSaid : Prop := fnEssentialRanksRow.holds Try.pinned (OpenSpec.ofChange fnEssentialRanksSpec)

/-- ITS FALSE NEIGHBOUR: 'it returns false'. Refute it at one input. -/
def fnEssentialRanksWrong : ChangeSpec := { name := "fnEssentialRanks", fn := fun _ => fun
  | [d] => { results := [.lit (.bool false)], args := [d] }
  | _ => none }
def FnEssentialRanksWrongFalsely : Prop := fnEssentialRanksRow.holds Try.pinned (OpenSpec.ofChange fnEssentialRanksWrong)

/-- 'laws.FnExactHasPattern': WHATEVER THE INPUT: true; the input reads as it did. -/
def fnExactHasPatternSpec : ChangeSpec := { name := "fnExactHasPattern", fn := fun _ => fun
  | [d1, d2] => { results := [.lit (.bool true)], args := [d1, d2] }
  | _ => none }
def fnExactHasPatternRow : OpenClaim := { program := "ytjlpplghdhjdfaa", sum := "10d896808069a35adf345315cff64953f5b39e39d5f9292c3fb2d7168744bbab", func := "loop.example/g03113/laws.FnExactHasPattern", spec := "fnExactHasPattern", recurses := true, plainKeys := false, apart := false }
def FnExactHasPatternSaid : Prop := fnExactHasPatternRow.holds Try.pinned (OpenSpec.ofChange fnExactHasPatternSpec)

/-- ITS FALSE NEIGHBOUR: 'it returns false'. Refute it at one input. -/
def fnExactHasPatternWrong : ChangeSpec := { name := "fnExactHasPattern", fn := fun _ => fun
  | [d1, d2] => { results := [.lit (.bool false)], args := [d1, d2] }
  | _ => none }
def FnExactHasPatternWrongFalsely : Prop := fnExactHasPatternRow.holds Try.pinned (OpenSpec.ofChange fnExactHasPatternWrong)

/-- 'laws.FnExactIsVexillary': WHATEVER THE INPUT: true; the input reads as it did. -/
def fnExactIsVexillarySpec : ChangeSpec := { name := "fnExactIsVexillary", fn := fun _ => fun
  | [d] => { results := [.lit (.bool true)], args := [d] }
  | _ => none }
def fnExactIsVexillaryRow : OpenClaim := { program := "ytjlpplghdhjdfaa", sum := "10d896808069a35adf345315cff64953f5b39e39d5f9292c3fb2d7168744bbab", func := "loop.example/g03113/laws.FnExactIsVexillary", spec := "fnExactIsVexillary", recurses := true, plainKeys := false, apart := false }
def FnExactIsVexillarySaid : Prop := fnExactIsVexillaryRow.holds Try.pinned (OpenSpec.ofChange fnExactIsVexillarySpec)

/-- ITS FALSE NEIGHBOUR: 'it returns false'. Refute it at one input. -/
def fnExactIsVexillaryWrong : ChangeSpec := { name := "fnExactIsVexillary", fn := fun _ => fun
  | [d] => { results := [.lit (.bool false)], args := [d] }
  | _ => none }
def FnExactIsVexillaryWrongFalsely : Prop := fnExactIsVexillaryRow.holds Try.pinned (OpenSpec.ofChange fnExactIsVexillaryWrong)

/-- 'laws.FnExactReducedWords': WHATEVER THE INPUT: true; the input reads as it did. -/
def fnExactReducedWordsSpec : ChangeSpec := { name := "fnExactReducedWords", fn := fun _ => fun
  | [d] => { results := [.lit (.bool true)], args := [d] }
  | _ => none }
def fnExactReducedWordsRow : OpenClaim := { program := "ytjlpplghdhjdfaa", sum := "10d896808069a35adf345315cff64953f5b39e39d5f9292c3fb2d7168744bbab", func := "loop.example/g03113/laws.FnExactReducedWords", spec := "fnExactReducedWords", recurses := true, plainKeys := false, apart := false }
def FnExactReducedWordsSaid : Prop := fnExactReducedWordsRow.holds Try.pinned (OpenSpec.ofChange fnExactReducedWordsSpec)

/-- ITS FALSE NEIGHBOUR: 'it returns false'. Refute it at one input. -/
def fnExactReducedWordsWrong : ChangeSpec := { name := "fnExactReducedWords", fn := fun _ => fun
  | [d] => { results := [.lit (.bool false)], args := [d] }
  | _ => none }
def FnExactReducedWordsWrongFalsely : Prop := fnExactReducedWordsRow.holds Try.pinned (OpenSpec.ofChange fnExactReducedWordsWrong)

/- THE SECOND FORM. 'bulk': how many values and letters a reading holds, each counted each time it is reached (what is shared counts as often as it is met; a slice's spare places count too). A statement '..UptoSaid' is the law's where the arguments, and the package variables that the reading takes, are together of bulk at most 1048576: NARROWER than '..Said'. Prove '..Said' where nothing that the law and all that it calls make is longer than what came in: it says more and counts as full. Else prove '..UptoSaid'. A law counts once. -/
mutual
def uptoBulk {H : Type} : DataW H → Nat
  | .lit (.string bytes) => bytes.length + 1
  | .lit _ => 1
  | .nil => 1
  | .ptr d => uptoBulk d + 1
  | .slice elems spare => uptoBulkAll elems + uptoBulkAll spare + 1
  | .agg parts => uptoBulkAll parts + 1
  | .iface _ d => uptoBulk d + 1
  | .map entries => uptoBulkEntries entries + 1
  | .held _ => 1
def uptoBulkAll {H : Type} : List (DataW H) → Nat
  | [] => 0
  | d :: r => uptoBulk d + uptoBulkAll r
def uptoBulkEntries {H : Type} : List (Lit × DataW H) → Nat
  | [] => 0
  | x :: r => uptoBulkEntry x + uptoBulkEntries r
def uptoBulkEntry {H : Type} : Lit × DataW H → Nat
  | (.string bytes, d) => bytes.length + uptoBulk d + 1
  | (_, d) => uptoBulk d + 1
 end
def uptoSmall : (H : Type) → List (DataW H) → Bool := fun _ ds => decide (uptoBulkAll ds ≤ 1048576)
def OpenSpec.upto (s : _root_.Go.ChangeSpec) : _root_.Go.OpenSpec := { _root_.Go.OpenSpec.ofChange s with cond := some uptoSmall }

/-- 'laws.FnExactFormatPerm', WHERE WHAT IT READS IS OF BULK AT MOST 1048576: true; the input reads as it did. -/
def fnExactFormatPermUptoRow : OpenClaim := { program := "ytjlpplghdhjdfaa", sum := "10d896808069a35adf345315cff64953f5b39e39d5f9292c3fb2d7168744bbab", func := "loop.example/g03113/laws.FnExactFormatPerm", spec := "fnExactFormatPerm", plainKeys := false, apart := false, narrowed := true }
def FnExactFormatPermUptoSaid : Prop := fnExactFormatPermUptoRow.holds Try.pinned (OpenSpec.upto fnExactFormatPermSpec)

/-- 'laws.FnExactParsePerm', WHERE WHAT IT READS IS OF BULK AT MOST 1048576: true; the input reads as it did. -/
def fnExactParsePermUptoRow : OpenClaim := { program := "ytjlpplghdhjdfaa", sum := "10d896808069a35adf345315cff64953f5b39e39d5f9292c3fb2d7168744bbab", func := "loop.example/g03113/laws.FnExactParsePerm", spec := "fnExactParsePerm", plainKeys := false, apart := false, narrowed := true }
def FnExactParsePermUptoSaid : Prop := fnExactParsePermUptoRow.holds Try.pinned (OpenSpec.upto fnExactParsePermSpec)

/-- 'laws.FnExactCoversOf', WHERE WHAT IT READS IS OF BULK AT MOST 1048576: true; the input reads as it did. -/
def fnExactCoversOfUptoRow : OpenClaim := { program := "ytjlpplghdhjdfaa", sum := "10d896808069a35adf345315cff64953f5b39e39d5f9292c3fb2d7168744bbab", func := "loop.example/g03113/laws.FnExactCoversOf", spec := "fnExactCoversOf", unfollowed := true, recurses := true, plainKeys := false, apart := false, narrowed := true }
def FnExactCoversOfUptoSaid : Prop := fnExactCoversOfUptoRow.holds Try.pinned (OpenSpec.upto fnExactCoversOfSpec)

/-- 'laws.FnBruhat', WHERE WHAT IT READS IS OF BULK AT MOST 1048576: true; the input reads as it did. -/
def fnBruhatUptoRow : OpenClaim := { program := "ytjlpplghdhjdfaa", sum := "10d896808069a35adf345315cff64953f5b39e39d5f9292c3fb2d7168744bbab", func := "loop.example/g03113/laws.FnBruhat", spec := "fnBruhat", unfollowed := true, recurses := true, plainKeys := false, apart := false, narrowed := true }
def FnBruhatUptoSaid : Prop := fnBruhatUptoRow.holds Try.pinned (OpenSpec.upto fnBruhatSpec)

/-- 'laws.FnEssentialRanks', WHERE WHAT IT READS IS OF BULK AT MOST 1048576: true; the input reads as it did. -/
def fnEssentialRanksUptoRow : OpenClaim := { program := "ytjlpplghdhjdfaa", sum := "10d896808069a35adf345315cff64953f5b39e39d5f9292c3fb2d7168744bbab", func := "loop.example/g03113/laws.FnEssentialRanks", spec := "fnEssentialRanks", plainKeys := false, apart := false, narrowed := true }
def FnEssentialRanksUptoSaid : Prop := fnEssentialRanksUptoRow.holds Try.pinned (OpenSpec.upto fnEssentialRanksSpec)

/-- 'laws.FnExactHasPattern', WHERE WHAT IT READS IS OF BULK AT MOST 1048576: true; the input reads as it did. -/
def fnExactHasPatternUptoRow : OpenClaim := { program := "ytjlpplghdhjdfaa", sum := "10d896808069a35adf345315cff64953f5b39e39d5f9292c3fb2d7168744bbab", func := "loop.example/g03113/laws.FnExactHasPattern", spec := "fnExactHasPattern", recurses := true, plainKeys := false, apart := false, narrowed := true }
def FnExactHasPatternUptoSaid : Prop := fnExactHasPatternUptoRow.holds Try.pinned (OpenSpec.upto fnExactHasPatternSpec)

/-- 'laws.FnExactIsVexillary', WHERE WHAT IT READS IS OF BULK AT MOST 1048576: true; the input reads as it did. -/
def fnExactIsVexillaryUptoRow : OpenClaim := { program := "ytjlpplghdhjdfaa", sum := "10d896808069a35adf345315cff64953f5b39e39d5f9292c3fb2d7168744bbab", func := "loop.example/g03113/laws.FnExactIsVexillary", spec := "fnExactIsVexillary", recurses := true, plainKeys := false, apart := false, narrowed := true }
def FnExactIsVexillaryUptoSaid : Prop := fnExactIsVexillaryUptoRow.holds Try.pinned (OpenSpec.upto fnExactIsVexillarySpec)

/-- 'laws.FnExactReducedWords', WHERE WHAT IT READS IS OF BULK AT MOST 1048576: true; the input reads as it did. -/
def fnExactReducedWordsUptoRow : OpenClaim := { program := "ytjlpplghdhjdfaa", sum := "10d896808069a35adf345315cff64953f5b39e39d5f9292c3fb2d7168744bbab", func := "loop.example/g03113/laws.FnExactReducedWords", spec := "fnExactReducedWords", recurses := true, plainKeys := false, apart := false, narrowed := true }
def FnExactReducedWordsUptoSaid : Prop := fnExactReducedWordsUptoRow.holds Try.pinned (OpenSpec.upto fnExactReducedWordsSpec)

end Rows
end Go.Proofs.Ytjlpplghdhjdfaa
