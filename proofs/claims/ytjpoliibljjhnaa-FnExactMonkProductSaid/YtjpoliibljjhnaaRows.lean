/-
  No cell of these rows narrows 'for every input' (looked for: loops, veiled, ifaces, maps, wideKeys, modest, calm, conditions, laid).
  DERIVED. THE GIVEN ROWS OF THIS SEAT. 12 by the template 'for every input the law returns true; each argument reads behind the call as it read before'; 0 by the template 'total and deterministic' (their statements: YtjpoliibljjhnaaTotals.lean).
  GIVEN WITH THE SEED: the statements are not yours to turn. If you find one false, say at which input.
  Laid BY PROGRAM, IN A SANDBOX (cutbox-rows.mjs): the forced cells as the released guide's own fill.sh prints them over the translation 663c2a66d482a428… (all of the seat's roots in one cut). By AI agents, Wed Nov 11 2026. No macro, syntax, notation, axiom, sorry.
-/
import Derived.Test.YtjpoliibljjhnaaChecked
import GoSem.Claim
import GoSem.ClaimJoined
import GoSem.ClaimMapViews
import Derived.JoinedTies
import Derived.KernelRfl
namespace Go.Proofs.Ytjpoliibljjhnaa
/- THE CELL 'sum', in the pinned program and in every row, IS THE sha256 OF THE DUMP (.gsa) THAT YtjpoliibljjhnaaProg.lean LOADS. Nothing in Lean hashes anything: it is a label: what it is worth is what the hold of that sum in a sandbox is worth. -/
noncomputable def Try.pinned : Pinned := { name := "ytjpoliibljjhnaa", sum := "663c2a66d482a428f4e8e7d99c2a1fe74f21e4c8e5d08aa0be6c6b83ab74b867", checked := Try.checked }
namespace Rows
def none {H : Type} : Left H := { results := [], args := [] }

/-- 'laws.FnExactEdelmanGreene': WHATEVER THE INPUT: true; the input reads as it did. -/
def fnExactEdelmanGreeneSpec : ChangeSpec := { name := "fnExactEdelmanGreene", fn := fun _ => fun
  | [d1, d2] => { results := [.lit (.bool true)], args := [d1, d2] }
  | _ => none }
def fnExactEdelmanGreeneRow : OpenClaim := { program := "ytjpoliibljjhnaa", sum := "663c2a66d482a428f4e8e7d99c2a1fe74f21e4c8e5d08aa0be6c6b83ab74b867", func := "loop.example/g03113/laws.FnExactEdelmanGreene", spec := "fnExactEdelmanGreene", unfollowed := true, recurses := true, apart := false }
def FnExactEdelmanGreeneSaid : Prop := fnExactEdelmanGreeneRow.holds Try.pinned (OpenSpec.ofChange fnExactEdelmanGreeneSpec)

/-- ITS FALSE NEIGHBOUR: 'it returns false'. Refute it at one input. -/
def fnExactEdelmanGreeneWrong : ChangeSpec := { name := "fnExactEdelmanGreene", fn := fun _ => fun
  | [d1, d2] => { results := [.lit (.bool false)], args := [d1, d2] }
  | _ => none }
def FnExactEdelmanGreeneWrongFalsely : Prop := fnExactEdelmanGreeneRow.holds Try.pinned (OpenSpec.ofChange fnExactEdelmanGreeneWrong)

/-- 'laws.FnExactIsGkm': WHATEVER THE INPUT: true; the input reads as it did. -/
def fnExactIsGkmSpec : ChangeSpec := { name := "fnExactIsGkm", fn := fun _ => fun
  | [d1, d2, d3] => { results := [.lit (.bool true)], args := [d1, d2, d3] }
  | _ => none }
def fnExactIsGkmRow : OpenClaim := { program := "ytjpoliibljjhnaa", sum := "663c2a66d482a428f4e8e7d99c2a1fe74f21e4c8e5d08aa0be6c6b83ab74b867", func := "loop.example/g03113/laws.FnExactIsGkm", spec := "fnExactIsGkm", unfollowed := true, recurses := true, apart := false }
def FnExactIsGkmSaid : Prop := fnExactIsGkmRow.holds Try.pinned (OpenSpec.ofChange fnExactIsGkmSpec)

/-- ITS FALSE NEIGHBOUR: 'it returns false'. Refute it at one input. -/
def fnExactIsGkmWrong : ChangeSpec := { name := "fnExactIsGkm", fn := fun _ => fun
  | [d1, d2, d3] => { results := [.lit (.bool false)], args := [d1, d2, d3] }
  | _ => none }
def FnExactIsGkmWrongFalsely : Prop := fnExactIsGkmRow.holds Try.pinned (OpenSpec.ofChange fnExactIsGkmWrong)

/-- 'laws.FnExactWrapShape': WHATEVER THE INPUT: true; the input reads as it did. -/
def fnExactWrapShapeSpec : ChangeSpec := { name := "fnExactWrapShape", fn := fun _ => fun
  | [d1, d2, d3] => { results := [.lit (.bool true)], args := [d1, d2, d3] }
  | _ => none }
def fnExactWrapShapeRow : OpenClaim := { program := "ytjpoliibljjhnaa", sum := "663c2a66d482a428f4e8e7d99c2a1fe74f21e4c8e5d08aa0be6c6b83ab74b867", func := "loop.example/g03113/laws.FnExactWrapShape", spec := "fnExactWrapShape", apart := false }
def FnExactWrapShapeSaid : Prop := fnExactWrapShapeRow.holds Try.pinned (OpenSpec.ofChange fnExactWrapShapeSpec)

/-- ITS FALSE NEIGHBOUR: 'it returns false'. Refute it at one input. -/
def fnExactWrapShapeWrong : ChangeSpec := { name := "fnExactWrapShape", fn := fun _ => fun
  | [d1, d2, d3] => { results := [.lit (.bool false)], args := [d1, d2, d3] }
  | _ => none }
def FnExactWrapShapeWrongFalsely : Prop := fnExactWrapShapeRow.holds Try.pinned (OpenSpec.ofChange fnExactWrapShapeWrong)

/-- 'laws.FnExactCoversOf': WHATEVER THE INPUT: true; the input reads as it did. -/
def fnExactCoversOfSpec : ChangeSpec := { name := "fnExactCoversOf", fn := fun _ => fun
  | [d] => { results := [.lit (.bool true)], args := [d] }
  | _ => none }
def fnExactCoversOfRow : OpenClaim := { program := "ytjpoliibljjhnaa", sum := "663c2a66d482a428f4e8e7d99c2a1fe74f21e4c8e5d08aa0be6c6b83ab74b867", func := "loop.example/g03113/laws.FnExactCoversOf", spec := "fnExactCoversOf", unfollowed := true, recurses := true, apart := false }
def FnExactCoversOfSaid : Prop := fnExactCoversOfRow.holds Try.pinned (OpenSpec.ofChange fnExactCoversOfSpec)

/-- ITS FALSE NEIGHBOUR: 'it returns false'. Refute it at one input. -/
def fnExactCoversOfWrong : ChangeSpec := { name := "fnExactCoversOf", fn := fun _ => fun
  | [d] => { results := [.lit (.bool false)], args := [d] }
  | _ => none }
def FnExactCoversOfWrongFalsely : Prop := fnExactCoversOfRow.holds Try.pinned (OpenSpec.ofChange fnExactCoversOfWrong)

/-- 'laws.FnExactTransitionOf': WHATEVER THE INPUT: true; the input reads as it did. -/
def fnExactTransitionOfSpec : ChangeSpec := { name := "fnExactTransitionOf", fn := fun _ => fun
  | [d] => { results := [.lit (.bool true)], args := [d] }
  | _ => none }
def fnExactTransitionOfRow : OpenClaim := { program := "ytjpoliibljjhnaa", sum := "663c2a66d482a428f4e8e7d99c2a1fe74f21e4c8e5d08aa0be6c6b83ab74b867", func := "loop.example/g03113/laws.FnExactTransitionOf", spec := "fnExactTransitionOf", unfollowed := true, recurses := true, apart := false }
def FnExactTransitionOfSaid : Prop := fnExactTransitionOfRow.holds Try.pinned (OpenSpec.ofChange fnExactTransitionOfSpec)

/-- ITS FALSE NEIGHBOUR: 'it returns false'. Refute it at one input. -/
def fnExactTransitionOfWrong : ChangeSpec := { name := "fnExactTransitionOf", fn := fun _ => fun
  | [d] => { results := [.lit (.bool false)], args := [d] }
  | _ => none }
def FnExactTransitionOfWrongFalsely : Prop := fnExactTransitionOfRow.holds Try.pinned (OpenSpec.ofChange fnExactTransitionOfWrong)

/-- 'laws.FnExactMonkProduct': WHATEVER THE INPUT: true; the input reads as it did. -/
def fnExactMonkProductSpec : ChangeSpec := { name := "fnExactMonkProduct", fn := fun _ => fun
  | [d1, d2] => { results := [.lit (.bool true)], args := [d1, d2] }
  | _ => none }
def fnExactMonkProductRow : OpenClaim := { program := "ytjpoliibljjhnaa", sum := "663c2a66d482a428f4e8e7d99c2a1fe74f21e4c8e5d08aa0be6c6b83ab74b867", func := "loop.example/g03113/laws.FnExactMonkProduct", spec := "fnExactMonkProduct", unfollowed := true, recurses := true, apart := false }
def FnExactMonkProductSaid : Prop := fnExactMonkProductRow.holds Try.pinned (OpenSpec.ofChange fnExactMonkProductSpec)

/-- ITS FALSE NEIGHBOUR: 'it returns false'. Refute it at one input. -/
def fnExactMonkProductWrong : ChangeSpec := { name := "fnExactMonkProduct", fn := fun _ => fun
  | [d1, d2] => { results := [.lit (.bool false)], args := [d1, d2] }
  | _ => none }
def FnExactMonkProductWrongFalsely : Prop := fnExactMonkProductRow.holds Try.pinned (OpenSpec.ofChange fnExactMonkProductWrong)

/-- 'laws.FnExactDreamWord': WHATEVER THE INPUT: true; the input reads as it did. -/
def fnExactDreamWordSpec : ChangeSpec := { name := "fnExactDreamWord", fn := fun _ => fun
  | [d1, d2] => { results := [.lit (.bool true)], args := [d1, d2] }
  | _ => none }
def fnExactDreamWordRow : OpenClaim := { program := "ytjpoliibljjhnaa", sum := "663c2a66d482a428f4e8e7d99c2a1fe74f21e4c8e5d08aa0be6c6b83ab74b867", func := "loop.example/g03113/laws.FnExactDreamWord", spec := "fnExactDreamWord", unfollowed := true, recurses := true, apart := false }
def FnExactDreamWordSaid : Prop := fnExactDreamWordRow.holds Try.pinned (OpenSpec.ofChange fnExactDreamWordSpec)

/-- ITS FALSE NEIGHBOUR: 'it returns false'. Refute it at one input. -/
def fnExactDreamWordWrong : ChangeSpec := { name := "fnExactDreamWord", fn := fun _ => fun
  | [d1, d2] => { results := [.lit (.bool false)], args := [d1, d2] }
  | _ => none }
def FnExactDreamWordWrongFalsely : Prop := fnExactDreamWordRow.holds Try.pinned (OpenSpec.ofChange fnExactDreamWordWrong)

/-- 'laws.FnExactDreamPerm': WHATEVER THE INPUT: true; the input reads as it did. -/
def fnExactDreamPermSpec : ChangeSpec := { name := "fnExactDreamPerm", fn := fun _ => fun
  | [d1, d2] => { results := [.lit (.bool true)], args := [d1, d2] }
  | _ => none }
def fnExactDreamPermRow : OpenClaim := { program := "ytjpoliibljjhnaa", sum := "663c2a66d482a428f4e8e7d99c2a1fe74f21e4c8e5d08aa0be6c6b83ab74b867", func := "loop.example/g03113/laws.FnExactDreamPerm", spec := "fnExactDreamPerm", unfollowed := true, recurses := true, apart := false }
def FnExactDreamPermSaid : Prop := fnExactDreamPermRow.holds Try.pinned (OpenSpec.ofChange fnExactDreamPermSpec)

/-- ITS FALSE NEIGHBOUR: 'it returns false'. Refute it at one input. -/
def fnExactDreamPermWrong : ChangeSpec := { name := "fnExactDreamPerm", fn := fun _ => fun
  | [d1, d2] => { results := [.lit (.bool false)], args := [d1, d2] }
  | _ => none }
def FnExactDreamPermWrongFalsely : Prop := fnExactDreamPermRow.holds Try.pinned (OpenSpec.ofChange fnExactDreamPermWrong)

/-- 'laws.FnExactSpacesWith': WHATEVER THE INPUT: true; the input reads as it did. -/
def fnExactSpacesWithSpec : ChangeSpec := { name := "fnExactSpacesWith", fn := fun _ => fun
  | [d1, d2] => { results := [.lit (.bool true)], args := [d1, d2] }
  | _ => none }
def fnExactSpacesWithRow : OpenClaim := { program := "ytjpoliibljjhnaa", sum := "663c2a66d482a428f4e8e7d99c2a1fe74f21e4c8e5d08aa0be6c6b83ab74b867", func := "loop.example/g03113/laws.FnExactSpacesWith", spec := "fnExactSpacesWith", unfollowed := true, recurses := true, apart := false }
def FnExactSpacesWithSaid : Prop := fnExactSpacesWithRow.holds Try.pinned (OpenSpec.ofChange fnExactSpacesWithSpec)

/-- ITS FALSE NEIGHBOUR: 'it returns false'. Refute it at one input. -/
def fnExactSpacesWithWrong : ChangeSpec := { name := "fnExactSpacesWith", fn := fun _ => fun
  | [d1, d2] => { results := [.lit (.bool false)], args := [d1, d2] }
  | _ => none }
def FnExactSpacesWithWrongFalsely : Prop := fnExactSpacesWithRow.holds Try.pinned (OpenSpec.ofChange fnExactSpacesWithWrong)

/-- 'laws.FnExactFlagsWith': WHATEVER THE INPUT: true; the input reads as it did. -/
def fnExactFlagsWithSpec : ChangeSpec := { name := "fnExactFlagsWith", fn := fun _ => fun
  | [d1, d2] => { results := [.lit (.bool true)], args := [d1, d2] }
  | _ => none }
def fnExactFlagsWithRow : OpenClaim := { program := "ytjpoliibljjhnaa", sum := "663c2a66d482a428f4e8e7d99c2a1fe74f21e4c8e5d08aa0be6c6b83ab74b867", func := "loop.example/g03113/laws.FnExactFlagsWith", spec := "fnExactFlagsWith", unfollowed := true, recurses := true, apart := false }
def FnExactFlagsWithSaid : Prop := fnExactFlagsWithRow.holds Try.pinned (OpenSpec.ofChange fnExactFlagsWithSpec)

/-- ITS FALSE NEIGHBOUR: 'it returns false'. Refute it at one input. -/
def fnExactFlagsWithWrong : ChangeSpec := { name := "fnExactFlagsWith", fn := fun _ => fun
  | [d1, d2] => { results := [.lit (.bool false)], args := [d1, d2] }
  | _ => none }
def FnExactFlagsWithWrongFalsely : Prop := fnExactFlagsWithRow.holds Try.pinned (OpenSpec.ofChange fnExactFlagsWithWrong)

/-- 'laws.FnModular': WHATEVER THE INPUT: true; the input reads as it did. -/
def fnModularSpec : ChangeSpec := { name := "fnModular", fn := fun _ => fun
  | [d] => { results := [.lit (.bool true)], args := [d] }
  | _ => none }
def fnModularRow : OpenClaim := { program := "ytjpoliibljjhnaa", sum := "663c2a66d482a428f4e8e7d99c2a1fe74f21e4c8e5d08aa0be6c6b83ab74b867", func := "loop.example/g03113/laws.FnModular", spec := "fnModular", unfollowed := true, recurses := true, apart := false }
def FnModularSaid : Prop := fnModularRow.holds Try.pinned (OpenSpec.ofChange fnModularSpec)

/-- ITS FALSE NEIGHBOUR: 'it returns false'. Refute it at one input. -/
def fnModularWrong : ChangeSpec := { name := "fnModular", fn := fun _ => fun
  | [d] => { results := [.lit (.bool false)], args := [d] }
  | _ => none }
def FnModularWrongFalsely : Prop := fnModularRow.holds Try.pinned (OpenSpec.ofChange fnModularWrong)

/-- 'laws.FnRanks': WHATEVER THE INPUT: true; the input reads as it did. -/
def fnRanksSpec : ChangeSpec := { name := "fnRanks", fn := fun _ => fun
  | [d] => { results := [.lit (.bool true)], args := [d] }
  | _ => none }
def fnRanksRow : OpenClaim := { program := "ytjpoliibljjhnaa", sum := "663c2a66d482a428f4e8e7d99c2a1fe74f21e4c8e5d08aa0be6c6b83ab74b867", func := "loop.example/g03113/laws.FnRanks", spec := "fnRanks", unfollowed := true, recurses := true, apart := false }
def FnRanksSaid : Prop := fnRanksRow.holds Try.pinned (OpenSpec.ofChange fnRanksSpec)

/-- ITS FALSE NEIGHBOUR: 'it returns false'. Refute it at one input. -/
def fnRanksWrong : ChangeSpec := { name := "fnRanks", fn := fun _ => fun
  | [d] => { results := [.lit (.bool false)], args := [d] }
  | _ => none }
def FnRanksWrongFalsely : Prop := fnRanksRow.holds Try.pinned (OpenSpec.ofChange fnRanksWrong)

/- THE SECOND FORM. 'bulk': how many values and letters a reading holds, each counted each time it is reached (what is shared counts as often as it is met; a slice's spare places count too). A statement '..UptoSaid' is the law's where the arguments, and the package variables that the reading takes, are together of bulk at most 1048576: NARROWER than '..Said'. Prove '..Said' where nothing that the law and all that it calls make is longer than what came in: it says more and counts as full. Else prove '..UptoSaid'. A law counts once. -/
mutual
def uptoBulk {H : Type} : DataW H → Nat
  | .lit (.string bytes) => bytes.length + 1
  | .lit _ => 1
  | .nil => 1
  | .ptr d => uptoBulk d + 1
  | .slice elems spare => uptoBulkAll elems + uptoBulkAll spare + 1
  | .agg parts => uptoBulkAll parts + 1
  | .iface _ d => uptoBulk d + 1
  | .map entries => uptoBulkEntries entries + 1
  | .held _ => 1
def uptoBulkAll {H : Type} : List (DataW H) → Nat
  | [] => 0
  | d :: r => uptoBulk d + uptoBulkAll r
def uptoBulkEntries {H : Type} : List (Lit × DataW H) → Nat
  | [] => 0
  | x :: r => uptoBulkEntry x + uptoBulkEntries r
def uptoBulkEntry {H : Type} : Lit × DataW H → Nat
  | (.string bytes, d) => bytes.length + uptoBulk d + 1
  | (_, d) => uptoBulk d + 1
 end
def uptoSmall : (H : Type) → List (DataW H) → Bool := fun _ ds => decide (uptoBulkAll ds ≤ 1048576)
def OpenSpec.upto (s : _root_.Go.ChangeSpec) : _root_.Go.OpenSpec := { _root_.Go.OpenSpec.ofChange s with cond := some uptoSmall }

/-- 'laws.FnExactEdelmanGreene', WHERE WHAT IT READS IS OF BULK AT MOST 1048576: true; the input reads as it did. -/
def fnExactEdelmanGreeneUptoRow : OpenClaim := { program := "ytjpoliibljjhnaa", sum := "663c2a66d482a428f4e8e7d99c2a1fe74f21e4c8e5d08aa0be6c6b83ab74b867", func := "loop.example/g03113/laws.FnExactEdelmanGreene", spec := "fnExactEdelmanGreene", unfollowed := true, recurses := true, apart := false, narrowed := true }
def FnExactEdelmanGreeneUptoSaid : Prop := fnExactEdelmanGreeneUptoRow.holds Try.pinned (OpenSpec.upto fnExactEdelmanGreeneSpec)

/-- 'laws.FnExactIsGkm', WHERE WHAT IT READS IS OF BULK AT MOST 1048576: true; the input reads as it did. -/
def fnExactIsGkmUptoRow : OpenClaim := { program := "ytjpoliibljjhnaa", sum := "663c2a66d482a428f4e8e7d99c2a1fe74f21e4c8e5d08aa0be6c6b83ab74b867", func := "loop.example/g03113/laws.FnExactIsGkm", spec := "fnExactIsGkm", unfollowed := true, recurses := true, apart := false, narrowed := true }
def FnExactIsGkmUptoSaid : Prop := fnExactIsGkmUptoRow.holds Try.pinned (OpenSpec.upto fnExactIsGkmSpec)

/-- 'laws.FnExactWrapShape', WHERE WHAT IT READS IS OF BULK AT MOST 1048576: true; the input reads as it did. -/
def fnExactWrapShapeUptoRow : OpenClaim := { program := "ytjpoliibljjhnaa", sum := "663c2a66d482a428f4e8e7d99c2a1fe74f21e4c8e5d08aa0be6c6b83ab74b867", func := "loop.example/g03113/laws.FnExactWrapShape", spec := "fnExactWrapShape", apart := false, narrowed := true }
def FnExactWrapShapeUptoSaid : Prop := fnExactWrapShapeUptoRow.holds Try.pinned (OpenSpec.upto fnExactWrapShapeSpec)

/-- 'laws.FnExactCoversOf', WHERE WHAT IT READS IS OF BULK AT MOST 1048576: true; the input reads as it did. -/
def fnExactCoversOfUptoRow : OpenClaim := { program := "ytjpoliibljjhnaa", sum := "663c2a66d482a428f4e8e7d99c2a1fe74f21e4c8e5d08aa0be6c6b83ab74b867", func := "loop.example/g03113/laws.FnExactCoversOf", spec := "fnExactCoversOf", unfollowed := true, recurses := true, apart := false, narrowed := true }
def FnExactCoversOfUptoSaid : Prop := fnExactCoversOfUptoRow.holds Try.pinned (OpenSpec.upto fnExactCoversOfSpec)

/-- 'laws.FnExactTransitionOf', WHERE WHAT IT READS IS OF BULK AT MOST 1048576: true; the input reads as it did. -/
def fnExactTransitionOfUptoRow : OpenClaim := { program := "ytjpoliibljjhnaa", sum := "663c2a66d482a428f4e8e7d99c2a1fe74f21e4c8e5d08aa0be6c6b83ab74b867", func := "loop.example/g03113/laws.FnExactTransitionOf", spec := "fnExactTransitionOf", unfollowed := true, recurses := true, apart := false, narrowed := true }
def FnExactTransitionOfUptoSaid : Prop := fnExactTransitionOfUptoRow.holds Try.pinned (OpenSpec.upto fnExactTransitionOfSpec)

/-- 'laws.FnExactMonkProduct', WHERE WHAT IT READS IS OF BULK AT MOST 1048576: true; the input reads as it did. -/
def fnExactMonkProductUptoRow : OpenClaim := { program := "ytjpoliibljjhnaa", sum := "663c2a66d482a428f4e8e7d99c2a1fe74f21e4c8e5d08aa0be6c6b83ab74b867", func := "loop.example/g03113/laws.FnExactMonkProduct", spec := "fnExactMonkProduct", unfollowed := true, recurses := true, apart := false, narrowed := true }
def FnExactMonkProductUptoSaid : Prop := fnExactMonkProductUptoRow.holds Try.pinned (OpenSpec.upto fnExactMonkProductSpec)

/-- 'laws.FnExactDreamWord', WHERE WHAT IT READS IS OF BULK AT MOST 1048576: true; the input reads as it did. -/
def fnExactDreamWordUptoRow : OpenClaim := { program := "ytjpoliibljjhnaa", sum := "663c2a66d482a428f4e8e7d99c2a1fe74f21e4c8e5d08aa0be6c6b83ab74b867", func := "loop.example/g03113/laws.FnExactDreamWord", spec := "fnExactDreamWord", unfollowed := true, recurses := true, apart := false, narrowed := true }
def FnExactDreamWordUptoSaid : Prop := fnExactDreamWordUptoRow.holds Try.pinned (OpenSpec.upto fnExactDreamWordSpec)

/-- 'laws.FnExactDreamPerm', WHERE WHAT IT READS IS OF BULK AT MOST 1048576: true; the input reads as it did. -/
def fnExactDreamPermUptoRow : OpenClaim := { program := "ytjpoliibljjhnaa", sum := "663c2a66d482a428f4e8e7d99c2a1fe74f21e4c8e5d08aa0be6c6b83ab74b867", func := "loop.example/g03113/laws.FnExactDreamPerm", spec := "fnExactDreamPerm", unfollowed := true, recurses := true, apart := false, narrowed := true }
def FnExactDreamPermUptoSaid : Prop := fnExactDreamPermUptoRow.holds Try.pinned (OpenSpec.upto fnExactDreamPermSpec)

/-- 'laws.FnExactSpacesWith', WHERE WHAT IT READS IS OF BULK AT MOST 1048576: true; the input reads as it did. -/
def fnExactSpacesWithUptoRow : OpenClaim := { program := "ytjpoliibljjhnaa", sum := "663c2a66d482a428f4e8e7d99c2a1fe74f21e4c8e5d08aa0be6c6b83ab74b867", func := "loop.example/g03113/laws.FnExactSpacesWith", spec := "fnExactSpacesWith", unfollowed := true, recurses := true, apart := false, narrowed := true }
def FnExactSpacesWithUptoSaid : Prop := fnExactSpacesWithUptoRow.holds Try.pinned (OpenSpec.upto fnExactSpacesWithSpec)

/-- 'laws.FnExactFlagsWith', WHERE WHAT IT READS IS OF BULK AT MOST 1048576: true; the input reads as it did. -/
def fnExactFlagsWithUptoRow : OpenClaim := { program := "ytjpoliibljjhnaa", sum := "663c2a66d482a428f4e8e7d99c2a1fe74f21e4c8e5d08aa0be6c6b83ab74b867", func := "loop.example/g03113/laws.FnExactFlagsWith", spec := "fnExactFlagsWith", unfollowed := true, recurses := true, apart := false, narrowed := true }
def FnExactFlagsWithUptoSaid : Prop := fnExactFlagsWithUptoRow.holds Try.pinned (OpenSpec.upto fnExactFlagsWithSpec)

/-- 'laws.FnModular', WHERE WHAT IT READS IS OF BULK AT MOST 1048576: true; the input reads as it did. -/
def fnModularUptoRow : OpenClaim := { program := "ytjpoliibljjhnaa", sum := "663c2a66d482a428f4e8e7d99c2a1fe74f21e4c8e5d08aa0be6c6b83ab74b867", func := "loop.example/g03113/laws.FnModular", spec := "fnModular", unfollowed := true, recurses := true, apart := false, narrowed := true }
def FnModularUptoSaid : Prop := fnModularUptoRow.holds Try.pinned (OpenSpec.upto fnModularSpec)

/-- 'laws.FnRanks', WHERE WHAT IT READS IS OF BULK AT MOST 1048576: true; the input reads as it did. -/
def fnRanksUptoRow : OpenClaim := { program := "ytjpoliibljjhnaa", sum := "663c2a66d482a428f4e8e7d99c2a1fe74f21e4c8e5d08aa0be6c6b83ab74b867", func := "loop.example/g03113/laws.FnRanks", spec := "fnRanks", unfollowed := true, recurses := true, apart := false, narrowed := true }
def FnRanksUptoSaid : Prop := fnRanksUptoRow.holds Try.pinned (OpenSpec.upto fnRanksSpec)

end Rows
end Go.Proofs.Ytjpoliibljjhnaa
