/-
  No cell of these rows narrows 'for every input' (looked for: loops, veiled, ifaces, maps, wideKeys, modest, calm, conditions, laid).
  DERIVED. THE GIVEN ROWS OF THIS SEAT. 12 by the template 'for every input the law returns true; each argument reads behind the call as it read before'; 0 by the template 'total and deterministic' (their statements: YtjegngkemdibcabTotals.lean).
  GIVEN WITH THE SEED: the statements are not yours to turn. If you find one false, say at which input.
  Laid BY PROGRAM, IN A SANDBOX (cutbox-rows.mjs): the forced cells as the released guide's own fill.sh prints them over the translation d4f1e612e1721913… (all of the seat's roots in one cut). By AI agents, Wed Nov 11 2026. No macro, syntax, notation, axiom, sorry.
-/
import Derived.Test.YtjegngkemdibcabChecked
import GoSem.Claim
import GoSem.ClaimJoined
import GoSem.ClaimMapViews
import Derived.JoinedTies
import Derived.KernelRfl
namespace Go.Proofs.Ytjegngkemdibcab
/- THE CELL 'sum', in the pinned program and in every row, IS THE sha256 OF THE DUMP (.gsa) THAT YtjegngkemdibcabProg.lean LOADS. Nothing in Lean hashes anything: it is a label: what it is worth is what the hold of that sum in a sandbox is worth. -/
noncomputable def Try.pinned : Pinned := { name := "ytjegngkemdibcab", sum := "d4f1e612e17219137f3e5359c656b30e51bdc220aa734934ca842836e1c5894c", checked := Try.checked }
namespace Rows
def none {H : Type} : Left H := { results := [], args := [] }

/-- 'laws.FnExactEmbedPerm': WHATEVER THE INPUT: true; the input reads as it did. -/
def fnExactEmbedPermSpec : ChangeSpec := { name := "fnExactEmbedPerm", fn := fun _ => fun
  | [d1, d2] => { results := [.lit (.bool true)], args := [d1, d2] }
  | _ => none }
def fnExactEmbedPermRow : OpenClaim := { program := "ytjegngkemdibcab", sum := "d4f1e612e17219137f3e5359c656b30e51bdc220aa734934ca842836e1c5894c", func := "loop.example/g03113/laws.FnExactEmbedPerm", spec := "fnExactEmbedPerm", plainKeys := false, apart := false }
def FnExactEmbedPermSaid : Prop := fnExactEmbedPermRow.holds Try.pinned (OpenSpec.ofChange fnExactEmbedPermSpec)

/-- ITS FALSE NEIGHBOUR: 'it returns false'. Refute it at one input. -/
def fnExactEmbedPermWrong : ChangeSpec := { name := "fnExactEmbedPerm", fn := fun _ => fun
  | [d1, d2] => { results := [.lit (.bool false)], args := [d1, d2] }
  | _ => none }
def FnExactEmbedPermWrongFalsely : Prop := fnExactEmbedPermRow.holds Try.pinned (OpenSpec.ofChange fnExactEmbedPermWrong)

/-- 'laws.FnExactTrimPerm': WHATEVER THE INPUT: true; the input reads as it did. -/
def fnExactTrimPermSpec : ChangeSpec := { name := "fnExactTrimPerm", fn := fun _ => fun
  | [d] => { results := [.lit (.bool true)], args := [d] }
  | _ => none }
def fnExactTrimPermRow : OpenClaim := { program := "ytjegngkemdibcab", sum := "d4f1e612e17219137f3e5359c656b30e51bdc220aa734934ca842836e1c5894c", func := "loop.example/g03113/laws.FnExactTrimPerm", spec := "fnExactTrimPerm", plainKeys := false, apart := false }
def FnExactTrimPermSaid : Prop := fnExactTrimPermRow.holds Try.pinned (OpenSpec.ofChange fnExactTrimPermSpec)

/-- ITS FALSE NEIGHBOUR: 'it returns false'. Refute it at one input. -/
def fnExactTrimPermWrong : ChangeSpec := { name := "fnExactTrimPerm", fn := fun _ => fun
  | [d] => { results := [.lit (.bool false)], args := [d] }
  | _ => none }
def FnExactTrimPermWrongFalsely : Prop := fnExactTrimPermRow.holds Try.pinned (OpenSpec.ofChange fnExactTrimPermWrong)

/-- 'laws.FnExactRankAt': WHATEVER THE INPUT: true; the input reads as it did. -/
def fnExactRankAtSpec : ChangeSpec := { name := "fnExactRankAt", fn := fun _ => fun
  | [d1, d2, d3] => { results := [.lit (.bool true)], args := [d1, d2, d3] }
  | _ => none }
def fnExactRankAtRow : OpenClaim := { program := "ytjegngkemdibcab", sum := "d4f1e612e17219137f3e5359c656b30e51bdc220aa734934ca842836e1c5894c", func := "loop.example/g03113/laws.FnExactRankAt", spec := "fnExactRankAt", plainKeys := false, apart := false }
def FnExactRankAtSaid : Prop := fnExactRankAtRow.holds Try.pinned (OpenSpec.ofChange fnExactRankAtSpec)

/-- ITS FALSE NEIGHBOUR: 'it returns false'. Refute it at one input. -/
def fnExactRankAtWrong : ChangeSpec := { name := "fnExactRankAt", fn := fun _ => fun
  | [d1, d2, d3] => { results := [.lit (.bool false)], args := [d1, d2, d3] }
  | _ => none }
def FnExactRankAtWrongFalsely : Prop := fnExactRankAtRow.holds Try.pinned (OpenSpec.ofChange fnExactRankAtWrong)

/-- 'laws.FnExactIsBelowPerm': WHATEVER THE INPUT: true; the input reads as it did. -/
def fnExactIsBelowPermSpec : ChangeSpec := { name := "fnExactIsBelowPerm", fn := fun _ => fun
  | [d1, d2] => { results := [.lit (.bool true)], args := [d1, d2] }
  | _ => none }
def fnExactIsBelowPermRow : OpenClaim := { program := "ytjegngkemdibcab", sum := "d4f1e612e17219137f3e5359c656b30e51bdc220aa734934ca842836e1c5894c", func := "loop.example/g03113/laws.FnExactIsBelowPerm", spec := "fnExactIsBelowPerm", plainKeys := false, apart := false }
def FnExactIsBelowPermSaid : Prop := fnExactIsBelowPermRow.holds Try.pinned (OpenSpec.ofChange fnExactIsBelowPermSpec)

/-- ITS FALSE NEIGHBOUR: 'it returns false'. Refute it at one input. -/
def fnExactIsBelowPermWrong : ChangeSpec := { name := "fnExactIsBelowPerm", fn := fun _ => fun
  | [d1, d2] => { results := [.lit (.bool false)], args := [d1, d2] }
  | _ => none }
def FnExactIsBelowPermWrongFalsely : Prop := fnExactIsBelowPermRow.holds Try.pinned (OpenSpec.ofChange fnExactIsBelowPermWrong)

/-- 'laws.FnExactCoversOf': WHATEVER THE INPUT: true; the input reads as it did. -/
def fnExactCoversOfSpec : ChangeSpec := { name := "fnExactCoversOf", fn := fun _ => fun
  | [d] => { results := [.lit (.bool true)], args := [d] }
  | _ => none }
def fnExactCoversOfRow : OpenClaim := { program := "ytjegngkemdibcab", sum := "d4f1e612e17219137f3e5359c656b30e51bdc220aa734934ca842836e1c5894c", func := "loop.example/g03113/laws.FnExactCoversOf", spec := "fnExactCoversOf", unfollowed := true, recurses := true, plainKeys := false, apart := false }
def FnExactCoversOfSaid : Prop := fnExactCoversOfRow.holds Try.pinned (OpenSpec.ofChange fnExactCoversOfSpec)

/-- ITS FALSE NEIGHBOUR: 'it returns false'. Refute it at one input. -/
def fnExactCoversOfWrong : ChangeSpec := { name := "fnExactCoversOf", fn := fun _ => fun
  | [d] => { results := [.lit (.bool false)], args := [d] }
  | _ => none }
def FnExactCoversOfWrongFalsely : Prop := fnExactCoversOfRow.holds Try.pinned (OpenSpec.ofChange fnExactCoversOfWrong)

/-- 'laws.FnExactDiagramOf': WHATEVER THE INPUT: true; the input reads as it did. -/
def fnExactDiagramOfSpec : ChangeSpec := { name := "fnExactDiagramOf", fn := fun _ => fun
  | [d] => { results := [.lit (.bool true)], args := [d] }
  | _ => none }
def fnExactDiagramOfRow : OpenClaim := { program := "ytjegngkemdibcab", sum := "d4f1e612e17219137f3e5359c656b30e51bdc220aa734934ca842836e1c5894c", func := "loop.example/g03113/laws.FnExactDiagramOf", spec := "fnExactDiagramOf", plainKeys := false, apart := false }
def FnExactDiagramOfSaid : Prop := fnExactDiagramOfRow.holds Try.pinned (OpenSpec.ofChange fnExactDiagramOfSpec)

/-- ITS FALSE NEIGHBOUR: 'it returns false'. Refute it at one input. -/
def fnExactDiagramOfWrong : ChangeSpec := { name := "fnExactDiagramOf", fn := fun _ => fun
  | [d] => { results := [.lit (.bool false)], args := [d] }
  | _ => none }
def FnExactDiagramOfWrongFalsely : Prop := fnExactDiagramOfRow.holds Try.pinned (OpenSpec.ofChange fnExactDiagramOfWrong)

/-- 'laws.FnExactEssentialOf': WHATEVER THE INPUT: true; the input reads as it did. -/
def fnExactEssentialOfSpec : ChangeSpec := { name := "fnExactEssentialOf", fn := fun _ => fun
  | [d] => { results := [.lit (.bool true)], args := [d] }
  | _ => none }
def fnExactEssentialOfRow : OpenClaim := { program := "ytjegngkemdibcab", sum := "d4f1e612e17219137f3e5359c656b30e51bdc220aa734934ca842836e1c5894c", func := "loop.example/g03113/laws.FnExactEssentialOf", spec := "fnExactEssentialOf", plainKeys := false, apart := false }
def FnExactEssentialOfSaid : Prop := fnExactEssentialOfRow.holds Try.pinned (OpenSpec.ofChange fnExactEssentialOfSpec)

/-- ITS FALSE NEIGHBOUR: 'it returns false'. Refute it at one input. -/
def fnExactEssentialOfWrong : ChangeSpec := { name := "fnExactEssentialOf", fn := fun _ => fun
  | [d] => { results := [.lit (.bool false)], args := [d] }
  | _ => none }
def FnExactEssentialOfWrongFalsely : Prop := fnExactEssentialOfRow.holds Try.pinned (OpenSpec.ofChange fnExactEssentialOfWrong)

/-- 'laws.FnExactWordPerm': WHATEVER THE INPUT: true; the input reads as it did. -/
def fnExactWordPermSpec : ChangeSpec := { name := "fnExactWordPerm", fn := fun _ => fun
  | [d1, d2] => { results := [.lit (.bool true)], args := [d1, d2] }
  | _ => none }
def fnExactWordPermRow : OpenClaim := { program := "ytjegngkemdibcab", sum := "d4f1e612e17219137f3e5359c656b30e51bdc220aa734934ca842836e1c5894c", func := "loop.example/g03113/laws.FnExactWordPerm", spec := "fnExactWordPerm", plainKeys := false, apart := false }
def FnExactWordPermSaid : Prop := fnExactWordPermRow.holds Try.pinned (OpenSpec.ofChange fnExactWordPermSpec)

/-- ITS FALSE NEIGHBOUR: 'it returns false'. Refute it at one input. -/
def fnExactWordPermWrong : ChangeSpec := { name := "fnExactWordPerm", fn := fun _ => fun
  | [d1, d2] => { results := [.lit (.bool false)], args := [d1, d2] }
  | _ => none }
def FnExactWordPermWrongFalsely : Prop := fnExactWordPermRow.holds Try.pinned (OpenSpec.ofChange fnExactWordPermWrong)

/-- 'laws.FnExactDemazurePerm': WHATEVER THE INPUT: true; the input reads as it did. -/
def fnExactDemazurePermSpec : ChangeSpec := { name := "fnExactDemazurePerm", fn := fun _ => fun
  | [d1, d2] => { results := [.lit (.bool true)], args := [d1, d2] }
  | _ => none }
def fnExactDemazurePermRow : OpenClaim := { program := "ytjegngkemdibcab", sum := "d4f1e612e17219137f3e5359c656b30e51bdc220aa734934ca842836e1c5894c", func := "loop.example/g03113/laws.FnExactDemazurePerm", spec := "fnExactDemazurePerm", plainKeys := false, apart := false }
def FnExactDemazurePermSaid : Prop := fnExactDemazurePermRow.holds Try.pinned (OpenSpec.ofChange fnExactDemazurePermSpec)

/-- ITS FALSE NEIGHBOUR: 'it returns false'. Refute it at one input. -/
def fnExactDemazurePermWrong : ChangeSpec := { name := "fnExactDemazurePerm", fn := fun _ => fun
  | [d1, d2] => { results := [.lit (.bool false)], args := [d1, d2] }
  | _ => none }
def FnExactDemazurePermWrongFalsely : Prop := fnExactDemazurePermRow.holds Try.pinned (OpenSpec.ofChange fnExactDemazurePermWrong)

/-- 'laws.FnExactReducedWords': WHATEVER THE INPUT: true; the input reads as it did. -/
def fnExactReducedWordsSpec : ChangeSpec := { name := "fnExactReducedWords", fn := fun _ => fun
  | [d] => { results := [.lit (.bool true)], args := [d] }
  | _ => none }
def fnExactReducedWordsRow : OpenClaim := { program := "ytjegngkemdibcab", sum := "d4f1e612e17219137f3e5359c656b30e51bdc220aa734934ca842836e1c5894c", func := "loop.example/g03113/laws.FnExactReducedWords", spec := "fnExactReducedWords", recurses := true, plainKeys := false, apart := false }
def FnExactReducedWordsSaid : Prop := fnExactReducedWordsRow.holds Try.pinned (OpenSpec.ofChange fnExactReducedWordsSpec)

/-- ITS FALSE NEIGHBOUR: 'it returns false'. Refute it at one input. -/
def fnExactReducedWordsWrong : ChangeSpec := { name := "fnExactReducedWords", fn := fun _ => fun
  | [d] => { results := [.lit (.bool false)], args := [d] }
  | _ => none }
def FnExactReducedWordsWrongFalsely : Prop := fnExactReducedWordsRow.holds Try.pinned (OpenSpec.ofChange fnExactReducedWordsWrong)

/-- 'laws.FnExactCountReduced': WHATEVER THE INPUT: true; the input reads as it did. -/
def fnExactCountReducedSpec : ChangeSpec := { name := "fnExactCountReduced", fn := fun _ => fun
  | [d] => { results := [.lit (.bool true)], args := [d] }
  | _ => none }
def fnExactCountReducedRow : OpenClaim := { program := "ytjegngkemdibcab", sum := "d4f1e612e17219137f3e5359c656b30e51bdc220aa734934ca842836e1c5894c", func := "loop.example/g03113/laws.FnExactCountReduced", spec := "fnExactCountReduced", recurses := true, plainKeys := false, apart := false }
def FnExactCountReducedSaid : Prop := fnExactCountReducedRow.holds Try.pinned (OpenSpec.ofChange fnExactCountReducedSpec)

/-- ITS FALSE NEIGHBOUR: 'it returns false'. Refute it at one input. -/
def fnExactCountReducedWrong : ChangeSpec := { name := "fnExactCountReduced", fn := fun _ => fun
  | [d] => { results := [.lit (.bool false)], args := [d] }
  | _ => none }
def FnExactCountReducedWrongFalsely : Prop := fnExactCountReducedRow.holds Try.pinned (OpenSpec.ofChange fnExactCountReducedWrong)

/-- 'laws.FnExactHasPattern': WHATEVER THE INPUT: true; the input reads as it did. -/
def fnExactHasPatternSpec : ChangeSpec := { name := "fnExactHasPattern", fn := fun _ => fun
  | [d1, d2] => { results := [.lit (.bool true)], args := [d1, d2] }
  | _ => none }
def fnExactHasPatternRow : OpenClaim := { program := "ytjegngkemdibcab", sum := "d4f1e612e17219137f3e5359c656b30e51bdc220aa734934ca842836e1c5894c", func := "loop.example/g03113/laws.FnExactHasPattern", spec := "fnExactHasPattern", recurses := true, plainKeys := false, apart := false }
def FnExactHasPatternSaid : Prop := fnExactHasPatternRow.holds Try.pinned (OpenSpec.ofChange fnExactHasPatternSpec)

/-- ITS FALSE NEIGHBOUR: 'it returns false'. Refute it at one input. -/
def fnExactHasPatternWrong : ChangeSpec := { name := "fnExactHasPattern", fn := fun _ => fun
  | [d1, d2] => { results := [.lit (.bool false)], args := [d1, d2] }
  | _ => none }
def FnExactHasPatternWrongFalsely : Prop := fnExactHasPatternRow.holds Try.pinned (OpenSpec.ofChange fnExactHasPatternWrong)

/- THE SECOND FORM. 'bulk': how many values and letters a reading holds, each counted each time it is reached (what is shared counts as often as it is met; a slice's spare places count too). A statement '..UptoSaid' is the law's where the arguments, and the package variables that the reading takes, are together of bulk at most 1048576: NARROWER than '..Said'. Prove '..Said' where nothing that the law and all that it calls make is longer than what came in: it says more and counts as full. Else prove '..UptoSaid'. A law counts once. -/
mutual
def uptoBulk {H : Type} : DataW H → Nat
  | .lit (.string bytes) => bytes.length + 1
  | .lit _ => 1
  | .nil => 1
  | .ptr d => uptoBulk d + 1
  | .slice elems spare => uptoBulkAll elems + uptoBulkAll spare + 1
  | .agg parts => uptoBulkAll parts + 1
  | .iface _ d => uptoBulk d + 1
  | .map entries => uptoBulkEntries entries + 1
  | .held _ => 1
def uptoBulkAll {H : Type} : List (DataW H) → Nat
  | [] => 0
  | d :: r => uptoBulk d + uptoBulkAll r
def uptoBulkEntries {H : Type} : List (Lit × DataW H) → Nat
  | [] => 0
  | x :: r => uptoBulkEntry x + uptoBulkEntries r
def uptoBulkEntry {H : Type} : Lit × DataW H → Nat
  | (.string bytes, d) => bytes.length + uptoBulk d + 1
  | (_, d) => uptoBulk d + 1
 end
def uptoSmall : (H : Type) → List (DataW H) → Bool := fun _ ds => decide (uptoBulkAll ds ≤ 1048576)
def OpenSpec.upto (s : _root_.Go.ChangeSpec) : _root_.Go.OpenSpec := { _root_.Go.OpenSpec.ofChange s with cond := some uptoSmall }

/-- 'laws.FnExactEmbedPerm', WHERE WHAT IT READS IS OF BULK AT MOST 1048576: true; the input reads as it did. -/
def fnExactEmbedPermUptoRow : OpenClaim := { program := "ytjegngkemdibcab", sum := "d4f1e612e17219137f3e5359c656b30e51bdc220aa734934ca842836e1c5894c", func := "loop.example/g03113/laws.FnExactEmbedPerm", spec := "fnExactEmbedPerm", plainKeys := false, apart := false, narrowed := true }
def FnExactEmbedPermUptoSaid : Prop := fnExactEmbedPermUptoRow.holds Try.pinned (OpenSpec.upto fnExactEmbedPermSpec)

/-- 'laws.FnExactTrimPerm', WHERE WHAT IT READS IS OF BULK AT MOST 1048576: true; the input reads as it did. -/
def fnExactTrimPermUptoRow : OpenClaim := { program := "ytjegngkemdibcab", sum := "d4f1e612e17219137f3e5359c656b30e51bdc220aa734934ca842836e1c5894c", func := "loop.example/g03113/laws.FnExactTrimPerm", spec := "fnExactTrimPerm", plainKeys := false, apart := false, narrowed := true }
def FnExactTrimPermUptoSaid : Prop := fnExactTrimPermUptoRow.holds Try.pinned (OpenSpec.upto fnExactTrimPermSpec)

/-- 'laws.FnExactRankAt', WHERE WHAT IT READS IS OF BULK AT MOST 1048576: true; the input reads as it did. -/
def fnExactRankAtUptoRow : OpenClaim := { program := "ytjegngkemdibcab", sum := "d4f1e612e17219137f3e5359c656b30e51bdc220aa734934ca842836e1c5894c", func := "loop.example/g03113/laws.FnExactRankAt", spec := "fnExactRankAt", plainKeys := false, apart := false, narrowed := true }
def FnExactRankAtUptoSaid : Prop := fnExactRankAtUptoRow.holds Try.pinned (OpenSpec.upto fnExactRankAtSpec)

/-- 'laws.FnExactIsBelowPerm', WHERE WHAT IT READS IS OF BULK AT MOST 1048576: true; the input reads as it did. -/
def fnExactIsBelowPermUptoRow : OpenClaim := { program := "ytjegngkemdibcab", sum := "d4f1e612e17219137f3e5359c656b30e51bdc220aa734934ca842836e1c5894c", func := "loop.example/g03113/laws.FnExactIsBelowPerm", spec := "fnExactIsBelowPerm", plainKeys := false, apart := false, narrowed := true }
def FnExactIsBelowPermUptoSaid : Prop := fnExactIsBelowPermUptoRow.holds Try.pinned (OpenSpec.upto fnExactIsBelowPermSpec)

/-- 'laws.FnExactCoversOf', WHERE WHAT IT READS IS OF BULK AT MOST 1048576: true; the input reads as it did. -/
def fnExactCoversOfUptoRow : OpenClaim := { program := "ytjegngkemdibcab", sum := "d4f1e612e17219137f3e5359c656b30e51bdc220aa734934ca842836e1c5894c", func := "loop.example/g03113/laws.FnExactCoversOf", spec := "fnExactCoversOf", unfollowed := true, recurses := true, plainKeys := false, apart := false, narrowed := true }
def FnExactCoversOfUptoSaid : Prop := fnExactCoversOfUptoRow.holds Try.pinned (OpenSpec.upto fnExactCoversOfSpec)

/-- 'laws.FnExactDiagramOf', WHERE WHAT IT READS IS OF BULK AT MOST 1048576: true; the input reads as it did. -/
def fnExactDiagramOfUptoRow : OpenClaim := { program := "ytjegngkemdibcab", sum := "d4f1e612e17219137f3e5359c656b30e51bdc220aa734934ca842836e1c5894c", func := "loop.example/g03113/laws.FnExactDiagramOf", spec := "fnExactDiagramOf", plainKeys := false, apart := false, narrowed := true }
def FnExactDiagramOfUptoSaid : Prop := fnExactDiagramOfUptoRow.holds Try.pinned (OpenSpec.upto fnExactDiagramOfSpec)

/-- 'laws.FnExactEssentialOf', WHERE WHAT IT READS IS OF BULK AT MOST 1048576: true; the input reads as it did. -/
def fnExactEssentialOfUptoRow : OpenClaim := { program := "ytjegngkemdibcab", sum := "d4f1e612e17219137f3e5359c656b30e51bdc220aa734934ca842836e1c5894c", func := "loop.example/g03113/laws.FnExactEssentialOf", spec := "fnExactEssentialOf", plainKeys := false, apart := false, narrowed := true }
def FnExactEssentialOfUptoSaid : Prop := fnExactEssentialOfUptoRow.holds Try.pinned (OpenSpec.upto fnExactEssentialOfSpec)

/-- 'laws.FnExactWordPerm', WHERE WHAT IT READS IS OF BULK AT MOST 1048576: true; the input reads as it did. -/
def fnExactWordPermUptoRow : OpenClaim := { program := "ytjegngkemdibcab", sum := "d4f1e612e17219137f3e5359c656b30e51bdc220aa734934ca842836e1c5894c", func := "loop.example/g03113/laws.FnExactWordPerm", spec := "fnExactWordPerm", plainKeys := false, apart := false, narrowed := true }
def FnExactWordPermUptoSaid : Prop := fnExactWordPermUptoRow.holds Try.pinned (OpenSpec.upto fnExactWordPermSpec)

/-- 'laws.FnExactDemazurePerm', WHERE WHAT IT READS IS OF BULK AT MOST 1048576: true; the input reads as it did. -/
def fnExactDemazurePermUptoRow : OpenClaim := { program := "ytjegngkemdibcab", sum := "d4f1e612e17219137f3e5359c656b30e51bdc220aa734934ca842836e1c5894c", func := "loop.example/g03113/laws.FnExactDemazurePerm", spec := "fnExactDemazurePerm", plainKeys := false, apart := false, narrowed := true }
def FnExactDemazurePermUptoSaid : Prop := fnExactDemazurePermUptoRow.holds Try.pinned (OpenSpec.upto fnExactDemazurePermSpec)

/-- 'laws.FnExactReducedWords', WHERE WHAT IT READS IS OF BULK AT MOST 1048576: true; the input reads as it did. -/
def fnExactReducedWordsUptoRow : OpenClaim := { program := "ytjegngkemdibcab", sum := "d4f1e612e17219137f3e5359c656b30e51bdc220aa734934ca842836e1c5894c", func := "loop.example/g03113/laws.FnExactReducedWords", spec := "fnExactReducedWords", recurses := true, plainKeys := false, apart := false, narrowed := true }
def FnExactReducedWordsUptoSaid : Prop := fnExactReducedWordsUptoRow.holds Try.pinned (OpenSpec.upto fnExactReducedWordsSpec)

/-- 'laws.FnExactCountReduced', WHERE WHAT IT READS IS OF BULK AT MOST 1048576: true; the input reads as it did. -/
def fnExactCountReducedUptoRow : OpenClaim := { program := "ytjegngkemdibcab", sum := "d4f1e612e17219137f3e5359c656b30e51bdc220aa734934ca842836e1c5894c", func := "loop.example/g03113/laws.FnExactCountReduced", spec := "fnExactCountReduced", recurses := true, plainKeys := false, apart := false, narrowed := true }
def FnExactCountReducedUptoSaid : Prop := fnExactCountReducedUptoRow.holds Try.pinned (OpenSpec.upto fnExactCountReducedSpec)

/-- 'laws.FnExactHasPattern', WHERE WHAT IT READS IS OF BULK AT MOST 1048576: true; the input reads as it did. -/
def fnExactHasPatternUptoRow : OpenClaim := { program := "ytjegngkemdibcab", sum := "d4f1e612e17219137f3e5359c656b30e51bdc220aa734934ca842836e1c5894c", func := "loop.example/g03113/laws.FnExactHasPattern", spec := "fnExactHasPattern", recurses := true, plainKeys := false, apart := false, narrowed := true }
def FnExactHasPatternUptoSaid : Prop := fnExactHasPatternUptoRow.holds Try.pinned (OpenSpec.upto fnExactHasPatternSpec)

end Rows
end Go.Proofs.Ytjegngkemdibcab
