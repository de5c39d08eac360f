/-
  No cell of these rows narrows 'for every input' (looked for: loops, veiled, ifaces, maps, wideKeys, modest, calm, conditions, laid).
  DERIVED. THE GIVEN ROWS OF THIS SEAT. 12 by the template 'for every input the law returns true; each argument reads behind the call as it read before'; 0 by the template 'total and deterministic' (their statements: YtmndchhbafkbeaaTotals.lean).
  GIVEN WITH THE SEED: the statements are not yours to turn. If you find one false, say at which input.
  Laid BY PROGRAM, IN A SANDBOX (cutbox-rows.mjs): the forced cells as the released guide's own fill.sh prints them over the translation 833504888801d53b… (all of the seat's roots in one cut). By AI agents, Wed Nov 11 2026. No macro, syntax, notation, axiom, sorry.
-/
import Derived.Test.YtmndchhbafkbeaaChecked
import GoSem.Claim
import GoSem.ClaimJoined
import GoSem.ClaimMapViews
import Derived.JoinedTies
import Derived.KernelRfl
namespace Go.Proofs.Ytmndchhbafkbeaa
/- THE CELL 'sum', in the pinned program and in every row, IS THE sha256 OF THE DUMP (.gsa) THAT YtmndchhbafkbeaaProg.lean LOADS. Nothing in Lean hashes anything: it is a label: what it is worth is what the hold of that sum in a sandbox is worth. -/
noncomputable def Try.pinned : Pinned := { name := "ytmndchhbafkbeaa", sum := "833504888801d53b6fd235ec935fb0b7d51a0a184fe42c2f2d91e4a72c1bf850", checked := Try.checked }
namespace Rows
def none {H : Type} : Left H := { results := [], args := [] }

/-- 'laws.FnExactDividedDifference': WHATEVER THE INPUT: true; the input reads as it did. -/
def fnExactDividedDifferenceSpec : ChangeSpec := { name := "fnExactDividedDifference", fn := fun _ => fun
  | [d1, d2] => { results := [.lit (.bool true)], args := [d1, d2] }
  | _ => none }
def fnExactDividedDifferenceRow : OpenClaim := { program := "ytmndchhbafkbeaa", sum := "833504888801d53b6fd235ec935fb0b7d51a0a184fe42c2f2d91e4a72c1bf850", func := "loop.example/g03113/laws.FnExactDividedDifference", spec := "fnExactDividedDifference", unfollowed := true, recurses := true, plainKeys := false, apart := false }
def FnExactDividedDifferenceSaid : Prop := fnExactDividedDifferenceRow.holds Try.pinned (OpenSpec.ofChange fnExactDividedDifferenceSpec)

/-- ITS FALSE NEIGHBOUR: 'it returns false'. Refute it at one input. -/
def fnExactDividedDifferenceWrong : ChangeSpec := { name := "fnExactDividedDifference", fn := fun _ => fun
  | [d1, d2] => { results := [.lit (.bool false)], args := [d1, d2] }
  | _ => none }
def FnExactDividedDifferenceWrongFalsely : Prop := fnExactDividedDifferenceRow.holds Try.pinned (OpenSpec.ofChange fnExactDividedDifferenceWrong)

/-- 'laws.FnExactDemazureOf': WHATEVER THE INPUT: true; the input reads as it did. -/
def fnExactDemazureOfSpec : ChangeSpec := { name := "fnExactDemazureOf", fn := fun _ => fun
  | [d1, d2] => { results := [.lit (.bool true)], args := [d1, d2] }
  | _ => none }
def fnExactDemazureOfRow : OpenClaim := { program := "ytmndchhbafkbeaa", sum := "833504888801d53b6fd235ec935fb0b7d51a0a184fe42c2f2d91e4a72c1bf850", func := "loop.example/g03113/laws.FnExactDemazureOf", spec := "fnExactDemazureOf", unfollowed := true, recurses := true, plainKeys := false, apart := false }
def FnExactDemazureOfSaid : Prop := fnExactDemazureOfRow.holds Try.pinned (OpenSpec.ofChange fnExactDemazureOfSpec)

/-- ITS FALSE NEIGHBOUR: 'it returns false'. Refute it at one input. -/
def fnExactDemazureOfWrong : ChangeSpec := { name := "fnExactDemazureOf", fn := fun _ => fun
  | [d1, d2] => { results := [.lit (.bool false)], args := [d1, d2] }
  | _ => none }
def FnExactDemazureOfWrongFalsely : Prop := fnExactDemazureOfRow.holds Try.pinned (OpenSpec.ofChange fnExactDemazureOfWrong)

/-- 'laws.FnExactAtomOf': WHATEVER THE INPUT: true; the input reads as it did. -/
def fnExactAtomOfSpec : ChangeSpec := { name := "fnExactAtomOf", fn := fun _ => fun
  | [d1, d2] => { results := [.lit (.bool true)], args := [d1, d2] }
  | _ => none }
def fnExactAtomOfRow : OpenClaim := { program := "ytmndchhbafkbeaa", sum := "833504888801d53b6fd235ec935fb0b7d51a0a184fe42c2f2d91e4a72c1bf850", func := "loop.example/g03113/laws.FnExactAtomOf", spec := "fnExactAtomOf", unfollowed := true, recurses := true, plainKeys := false, apart := false }
def FnExactAtomOfSaid : Prop := fnExactAtomOfRow.holds Try.pinned (OpenSpec.ofChange fnExactAtomOfSpec)

/-- ITS FALSE NEIGHBOUR: 'it returns false'. Refute it at one input. -/
def fnExactAtomOfWrong : ChangeSpec := { name := "fnExactAtomOf", fn := fun _ => fun
  | [d1, d2] => { results := [.lit (.bool false)], args := [d1, d2] }
  | _ => none }
def FnExactAtomOfWrongFalsely : Prop := fnExactAtomOfRow.holds Try.pinned (OpenSpec.ofChange fnExactAtomOfWrong)

/-- 'laws.FnExactIsobaricOf': WHATEVER THE INPUT: true; the input reads as it did. -/
def fnExactIsobaricOfSpec : ChangeSpec := { name := "fnExactIsobaricOf", fn := fun _ => fun
  | [d1, d2] => { results := [.lit (.bool true)], args := [d1, d2] }
  | _ => none }
def fnExactIsobaricOfRow : OpenClaim := { program := "ytmndchhbafkbeaa", sum := "833504888801d53b6fd235ec935fb0b7d51a0a184fe42c2f2d91e4a72c1bf850", func := "loop.example/g03113/laws.FnExactIsobaricOf", spec := "fnExactIsobaricOf", unfollowed := true, recurses := true, plainKeys := false, apart := false }
def FnExactIsobaricOfSaid : Prop := fnExactIsobaricOfRow.holds Try.pinned (OpenSpec.ofChange fnExactIsobaricOfSpec)

/-- ITS FALSE NEIGHBOUR: 'it returns false'. Refute it at one input. -/
def fnExactIsobaricOfWrong : ChangeSpec := { name := "fnExactIsobaricOf", fn := fun _ => fun
  | [d1, d2] => { results := [.lit (.bool false)], args := [d1, d2] }
  | _ => none }
def FnExactIsobaricOfWrongFalsely : Prop := fnExactIsobaricOfRow.holds Try.pinned (OpenSpec.ofChange fnExactIsobaricOfWrong)

/-- 'laws.FnExactAddPolys': WHATEVER THE INPUT: true; the input reads as it did. -/
def fnExactAddPolysSpec : ChangeSpec := { name := "fnExactAddPolys", fn := fun _ => fun
  | [d1, d2, d3] => { results := [.lit (.bool true)], args := [d1, d2, d3] }
  | _ => none }
def fnExactAddPolysRow : OpenClaim := { program := "ytmndchhbafkbeaa", sum := "833504888801d53b6fd235ec935fb0b7d51a0a184fe42c2f2d91e4a72c1bf850", func := "loop.example/g03113/laws.FnExactAddPolys", spec := "fnExactAddPolys", unfollowed := true, recurses := true, plainKeys := false, apart := false }
def FnExactAddPolysSaid : Prop := fnExactAddPolysRow.holds Try.pinned (OpenSpec.ofChange fnExactAddPolysSpec)

/-- ITS FALSE NEIGHBOUR: 'it returns false'. Refute it at one input. -/
def fnExactAddPolysWrong : ChangeSpec := { name := "fnExactAddPolys", fn := fun _ => fun
  | [d1, d2, d3] => { results := [.lit (.bool false)], args := [d1, d2, d3] }
  | _ => none }
def FnExactAddPolysWrongFalsely : Prop := fnExactAddPolysRow.holds Try.pinned (OpenSpec.ofChange fnExactAddPolysWrong)

/-- 'laws.FnExactMulPolys': WHATEVER THE INPUT: true; the input reads as it did. -/
def fnExactMulPolysSpec : ChangeSpec := { name := "fnExactMulPolys", fn := fun _ => fun
  | [d1, d2] => { results := [.lit (.bool true)], args := [d1, d2] }
  | _ => none }
def fnExactMulPolysRow : OpenClaim := { program := "ytmndchhbafkbeaa", sum := "833504888801d53b6fd235ec935fb0b7d51a0a184fe42c2f2d91e4a72c1bf850", func := "loop.example/g03113/laws.FnExactMulPolys", spec := "fnExactMulPolys", unfollowed := true, recurses := true, plainKeys := false, apart := false }
def FnExactMulPolysSaid : Prop := fnExactMulPolysRow.holds Try.pinned (OpenSpec.ofChange fnExactMulPolysSpec)

/-- ITS FALSE NEIGHBOUR: 'it returns false'. Refute it at one input. -/
def fnExactMulPolysWrong : ChangeSpec := { name := "fnExactMulPolys", fn := fun _ => fun
  | [d1, d2] => { results := [.lit (.bool false)], args := [d1, d2] }
  | _ => none }
def FnExactMulPolysWrongFalsely : Prop := fnExactMulPolysRow.holds Try.pinned (OpenSpec.ofChange fnExactMulPolysWrong)

/-- 'laws.FnExactSchubertPoly': WHATEVER THE INPUT: true; the input reads as it did. -/
def fnExactSchubertPolySpec : ChangeSpec := { name := "fnExactSchubertPoly", fn := fun _ => fun
  | [d] => { results := [.lit (.bool true)], args := [d] }
  | _ => none }
def fnExactSchubertPolyRow : OpenClaim := { program := "ytmndchhbafkbeaa", sum := "833504888801d53b6fd235ec935fb0b7d51a0a184fe42c2f2d91e4a72c1bf850", func := "loop.example/g03113/laws.FnExactSchubertPoly", spec := "fnExactSchubertPoly", unfollowed := true, recurses := true, plainKeys := false, apart := false }
def FnExactSchubertPolySaid : Prop := fnExactSchubertPolyRow.holds Try.pinned (OpenSpec.ofChange fnExactSchubertPolySpec)

/-- ITS FALSE NEIGHBOUR: 'it returns false'. Refute it at one input. -/
def fnExactSchubertPolyWrong : ChangeSpec := { name := "fnExactSchubertPoly", fn := fun _ => fun
  | [d] => { results := [.lit (.bool false)], args := [d] }
  | _ => none }
def FnExactSchubertPolyWrongFalsely : Prop := fnExactSchubertPolyRow.holds Try.pinned (OpenSpec.ofChange fnExactSchubertPolyWrong)

/-- 'laws.FnExactGrothendieckPoly': WHATEVER THE INPUT: true; the input reads as it did. -/
def fnExactGrothendieckPolySpec : ChangeSpec := { name := "fnExactGrothendieckPoly", fn := fun _ => fun
  | [d] => { results := [.lit (.bool true)], args := [d] }
  | _ => none }
def fnExactGrothendieckPolyRow : OpenClaim := { program := "ytmndchhbafkbeaa", sum := "833504888801d53b6fd235ec935fb0b7d51a0a184fe42c2f2d91e4a72c1bf850", func := "loop.example/g03113/laws.FnExactGrothendieckPoly", spec := "fnExactGrothendieckPoly", unfollowed := true, recurses := true, plainKeys := false, apart := false }
def FnExactGrothendieckPolySaid : Prop := fnExactGrothendieckPolyRow.holds Try.pinned (OpenSpec.ofChange fnExactGrothendieckPolySpec)

/-- ITS FALSE NEIGHBOUR: 'it returns false'. Refute it at one input. -/
def fnExactGrothendieckPolyWrong : ChangeSpec := { name := "fnExactGrothendieckPoly", fn := fun _ => fun
  | [d] => { results := [.lit (.bool false)], args := [d] }
  | _ => none }
def FnExactGrothendieckPolyWrongFalsely : Prop := fnExactGrothendieckPolyRow.holds Try.pinned (OpenSpec.ofChange fnExactGrothendieckPolyWrong)

/-- 'laws.FnExactKeyPoly': WHATEVER THE INPUT: true; the input reads as it did. -/
def fnExactKeyPolySpec : ChangeSpec := { name := "fnExactKeyPoly", fn := fun _ => fun
  | [d] => { results := [.lit (.bool true)], args := [d] }
  | _ => none }
def fnExactKeyPolyRow : OpenClaim := { program := "ytmndchhbafkbeaa", sum := "833504888801d53b6fd235ec935fb0b7d51a0a184fe42c2f2d91e4a72c1bf850", func := "loop.example/g03113/laws.FnExactKeyPoly", spec := "fnExactKeyPoly", unfollowed := true, recurses := true, plainKeys := false, apart := false }
def FnExactKeyPolySaid : Prop := fnExactKeyPolyRow.holds Try.pinned (OpenSpec.ofChange fnExactKeyPolySpec)

/-- ITS FALSE NEIGHBOUR: 'it returns false'. Refute it at one input. -/
def fnExactKeyPolyWrong : ChangeSpec := { name := "fnExactKeyPoly", fn := fun _ => fun
  | [d] => { results := [.lit (.bool false)], args := [d] }
  | _ => none }
def FnExactKeyPolyWrongFalsely : Prop := fnExactKeyPolyRow.holds Try.pinned (OpenSpec.ofChange fnExactKeyPolyWrong)

/-- 'laws.FnExactSchurPoly': WHATEVER THE INPUT: true; the input reads as it did. -/
def fnExactSchurPolySpec : ChangeSpec := { name := "fnExactSchurPoly", fn := fun _ => fun
  | [d1, d2] => { results := [.lit (.bool true)], args := [d1, d2] }
  | _ => none }
def fnExactSchurPolyRow : OpenClaim := { program := "ytmndchhbafkbeaa", sum := "833504888801d53b6fd235ec935fb0b7d51a0a184fe42c2f2d91e4a72c1bf850", func := "loop.example/g03113/laws.FnExactSchurPoly", spec := "fnExactSchurPoly", unfollowed := true, recurses := true, plainKeys := false, apart := false }
def FnExactSchurPolySaid : Prop := fnExactSchurPolyRow.holds Try.pinned (OpenSpec.ofChange fnExactSchurPolySpec)

/-- ITS FALSE NEIGHBOUR: 'it returns false'. Refute it at one input. -/
def fnExactSchurPolyWrong : ChangeSpec := { name := "fnExactSchurPoly", fn := fun _ => fun
  | [d1, d2] => { results := [.lit (.bool false)], args := [d1, d2] }
  | _ => none }
def FnExactSchurPolyWrongFalsely : Prop := fnExactSchurPolyRow.holds Try.pinned (OpenSpec.ofChange fnExactSchurPolyWrong)

/-- 'laws.FnLeibniz': WHATEVER THE INPUT: true; the input reads as it did. -/
def fnLeibnizSpec : ChangeSpec := { name := "fnLeibniz", fn := fun _ => fun
  | [d] => { results := [.lit (.bool true)], args := [d] }
  | _ => none }
def fnLeibnizRow : OpenClaim := { program := "ytmndchhbafkbeaa", sum := "833504888801d53b6fd235ec935fb0b7d51a0a184fe42c2f2d91e4a72c1bf850", func := "loop.example/g03113/laws.FnLeibniz", spec := "fnLeibniz", unfollowed := true, recurses := true, plainKeys := false, apart := false }
def FnLeibnizSaid : Prop := fnLeibnizRow.holds Try.pinned (OpenSpec.ofChange fnLeibnizSpec)

/-- ITS FALSE NEIGHBOUR: 'it returns false'. Refute it at one input. -/
def fnLeibnizWrong : ChangeSpec := { name := "fnLeibniz", fn := fun _ => fun
  | [d] => { results := [.lit (.bool false)], args := [d] }
  | _ => none }
def FnLeibnizWrongFalsely : Prop := fnLeibnizRow.holds Try.pinned (OpenSpec.ofChange fnLeibnizWrong)

/-- 'laws.FnSymmetric': WHATEVER THE INPUT: true; the input reads as it did. -/
def fnSymmetricSpec : ChangeSpec := { name := "fnSymmetric", fn := fun _ => fun
  | [d] => { results := [.lit (.bool true)], args := [d] }
  | _ => none }
def fnSymmetricRow : OpenClaim := { program := "ytmndchhbafkbeaa", sum := "833504888801d53b6fd235ec935fb0b7d51a0a184fe42c2f2d91e4a72c1bf850", func := "loop.example/g03113/laws.FnSymmetric", spec := "fnSymmetric", unfollowed := true, recurses := true, plainKeys := false, apart := false }
def FnSymmetricSaid : Prop := fnSymmetricRow.holds Try.pinned (OpenSpec.ofChange fnSymmetricSpec)

/-- ITS FALSE NEIGHBOUR: 'it returns false'. Refute it at one input. -/
def fnSymmetricWrong : ChangeSpec := { name := "fnSymmetric", fn := fun _ => fun
  | [d] => { results := [.lit (.bool false)], args := [d] }
  | _ => none }
def FnSymmetricWrongFalsely : Prop := fnSymmetricRow.holds Try.pinned (OpenSpec.ofChange fnSymmetricWrong)

/- THE SECOND FORM. 'bulk': how many values and letters a reading holds, each counted each time it is reached (what is shared counts as often as it is met; a slice's spare places count too). A statement '..UptoSaid' is the law's where the arguments, and the package variables that the reading takes, are together of bulk at most 1048576: NARROWER than '..Said'. Prove '..Said' where nothing that the law and all that it calls make is longer than what came in: it says more and counts as full. Else prove '..UptoSaid'. A law counts once. -/
mutual
def uptoBulk {H : Type} : DataW H → Nat
  | .lit (.string bytes) => bytes.length + 1
  | .lit _ => 1
  | .nil => 1
  | .ptr d => uptoBulk d + 1
  | .slice elems spare => uptoBulkAll elems + uptoBulkAll spare + 1
  | .agg parts => uptoBulkAll parts + 1
  | .iface _ d => uptoBulk d + 1
  | .map entries => uptoBulkEntries entries + 1
  | .held _ => 1
def uptoBulkAll {H : Type} : List (DataW H) → Nat
  | [] => 0
  | d :: r => uptoBulk d + uptoBulkAll r
def uptoBulkEntries {H : Type} : List (Lit × DataW H) → Nat
  | [] => 0
  | x :: r => uptoBulkEntry x + uptoBulkEntries r
def uptoBulkEntry {H : Type} : Lit × DataW H → Nat
  | (.string bytes, d) => bytes.length + uptoBulk d + 1
  | (_, d) => uptoBulk d + 1
 end
def uptoSmall : (H : Type) → List (DataW H) → Bool := fun _ ds => decide (uptoBulkAll ds ≤ 1048576)
def OpenSpec.upto (s : _root_.Go.ChangeSpec) : _root_.Go.OpenSpec := { _root_.Go.OpenSpec.ofChange s with cond := some uptoSmall }

/-- 'laws.FnExactDividedDifference', WHERE WHAT IT READS IS OF BULK AT MOST 1048576: true; the input reads as it did. -/
def fnExactDividedDifferenceUptoRow : OpenClaim := { program := "ytmndchhbafkbeaa", sum := "833504888801d53b6fd235ec935fb0b7d51a0a184fe42c2f2d91e4a72c1bf850", func := "loop.example/g03113/laws.FnExactDividedDifference", spec := "fnExactDividedDifference", unfollowed := true, recurses := true, plainKeys := false, apart := false, narrowed := true }
def FnExactDividedDifferenceUptoSaid : Prop := fnExactDividedDifferenceUptoRow.holds Try.pinned (OpenSpec.upto fnExactDividedDifferenceSpec)

/-- 'laws.FnExactDemazureOf', WHERE WHAT IT READS IS OF BULK AT MOST 1048576: true; the input reads as it did. -/
def fnExactDemazureOfUptoRow : OpenClaim := { program := "ytmndchhbafkbeaa", sum := "833504888801d53b6fd235ec935fb0b7d51a0a184fe42c2f2d91e4a72c1bf850", func := "loop.example/g03113/laws.FnExactDemazureOf", spec := "fnExactDemazureOf", unfollowed := true, recurses := true, plainKeys := false, apart := false, narrowed := true }
def FnExactDemazureOfUptoSaid : Prop := fnExactDemazureOfUptoRow.holds Try.pinned (OpenSpec.upto fnExactDemazureOfSpec)

/-- 'laws.FnExactAtomOf', WHERE WHAT IT READS IS OF BULK AT MOST 1048576: true; the input reads as it did. -/
def fnExactAtomOfUptoRow : OpenClaim := { program := "ytmndchhbafkbeaa", sum := "833504888801d53b6fd235ec935fb0b7d51a0a184fe42c2f2d91e4a72c1bf850", func := "loop.example/g03113/laws.FnExactAtomOf", spec := "fnExactAtomOf", unfollowed := true, recurses := true, plainKeys := false, apart := false, narrowed := true }
def FnExactAtomOfUptoSaid : Prop := fnExactAtomOfUptoRow.holds Try.pinned (OpenSpec.upto fnExactAtomOfSpec)

/-- 'laws.FnExactIsobaricOf', WHERE WHAT IT READS IS OF BULK AT MOST 1048576: true; the input reads as it did. -/
def fnExactIsobaricOfUptoRow : OpenClaim := { program := "ytmndchhbafkbeaa", sum := "833504888801d53b6fd235ec935fb0b7d51a0a184fe42c2f2d91e4a72c1bf850", func := "loop.example/g03113/laws.FnExactIsobaricOf", spec := "fnExactIsobaricOf", unfollowed := true, recurses := true, plainKeys := false, apart := false, narrowed := true }
def FnExactIsobaricOfUptoSaid : Prop := fnExactIsobaricOfUptoRow.holds Try.pinned (OpenSpec.upto fnExactIsobaricOfSpec)

/-- 'laws.FnExactAddPolys', WHERE WHAT IT READS IS OF BULK AT MOST 1048576: true; the input reads as it did. -/
def fnExactAddPolysUptoRow : OpenClaim := { program := "ytmndchhbafkbeaa", sum := "833504888801d53b6fd235ec935fb0b7d51a0a184fe42c2f2d91e4a72c1bf850", func := "loop.example/g03113/laws.FnExactAddPolys", spec := "fnExactAddPolys", unfollowed := true, recurses := true, plainKeys := false, apart := false, narrowed := true }
def FnExactAddPolysUptoSaid : Prop := fnExactAddPolysUptoRow.holds Try.pinned (OpenSpec.upto fnExactAddPolysSpec)

/-- 'laws.FnExactMulPolys', WHERE WHAT IT READS IS OF BULK AT MOST 1048576: true; the input reads as it did. -/
def fnExactMulPolysUptoRow : OpenClaim := { program := "ytmndchhbafkbeaa", sum := "833504888801d53b6fd235ec935fb0b7d51a0a184fe42c2f2d91e4a72c1bf850", func := "loop.example/g03113/laws.FnExactMulPolys", spec := "fnExactMulPolys", unfollowed := true, recurses := true, plainKeys := false, apart := false, narrowed := true }
def FnExactMulPolysUptoSaid : Prop := fnExactMulPolysUptoRow.holds Try.pinned (OpenSpec.upto fnExactMulPolysSpec)

/-- 'laws.FnExactSchubertPoly', WHERE WHAT IT READS IS OF BULK AT MOST 1048576: true; the input reads as it did. -/
def fnExactSchubertPolyUptoRow : OpenClaim := { program := "ytmndchhbafkbeaa", sum := "833504888801d53b6fd235ec935fb0b7d51a0a184fe42c2f2d91e4a72c1bf850", func := "loop.example/g03113/laws.FnExactSchubertPoly", spec := "fnExactSchubertPoly", unfollowed := true, recurses := true, plainKeys := false, apart := false, narrowed := true }
def FnExactSchubertPolyUptoSaid : Prop := fnExactSchubertPolyUptoRow.holds Try.pinned (OpenSpec.upto fnExactSchubertPolySpec)

/-- 'laws.FnExactGrothendieckPoly', WHERE WHAT IT READS IS OF BULK AT MOST 1048576: true; the input reads as it did. -/
def fnExactGrothendieckPolyUptoRow : OpenClaim := { program := "ytmndchhbafkbeaa", sum := "833504888801d53b6fd235ec935fb0b7d51a0a184fe42c2f2d91e4a72c1bf850", func := "loop.example/g03113/laws.FnExactGrothendieckPoly", spec := "fnExactGrothendieckPoly", unfollowed := true, recurses := true, plainKeys := false, apart := false, narrowed := true }
def FnExactGrothendieckPolyUptoSaid : Prop := fnExactGrothendieckPolyUptoRow.holds Try.pinned (OpenSpec.upto fnExactGrothendieckPolySpec)

/-- 'laws.FnExactKeyPoly', WHERE WHAT IT READS IS OF BULK AT MOST 1048576: true; the input reads as it did. -/
def fnExactKeyPolyUptoRow : OpenClaim := { program := "ytmndchhbafkbeaa", sum := "833504888801d53b6fd235ec935fb0b7d51a0a184fe42c2f2d91e4a72c1bf850", func := "loop.example/g03113/laws.FnExactKeyPoly", spec := "fnExactKeyPoly", unfollowed := true, recurses := true, plainKeys := false, apart := false, narrowed := true }
def FnExactKeyPolyUptoSaid : Prop := fnExactKeyPolyUptoRow.holds Try.pinned (OpenSpec.upto fnExactKeyPolySpec)

/-- 'laws.FnExactSchurPoly', WHERE WHAT IT READS IS OF BULK AT MOST 1048576: true; the input reads as it did. -/
def fnExactSchurPolyUptoRow : OpenClaim := { program := "ytmndchhbafkbeaa", sum := "833504888801d53b6fd235ec935fb0b7d51a0a184fe42c2f2d91e4a72c1bf850", func := "loop.example/g03113/laws.FnExactSchurPoly", spec := "fnExactSchurPoly", unfollowed := true, recurses := true, plainKeys := false, apart := false, narrowed := true }
def FnExactSchurPolyUptoSaid : Prop := fnExactSchurPolyUptoRow.holds Try.pinned (OpenSpec.upto fnExactSchurPolySpec)

/-- 'laws.FnLeibniz', WHERE WHAT IT READS IS OF BULK AT MOST 1048576: true; the input reads as it did. -/
def fnLeibnizUptoRow : OpenClaim := { program := "ytmndchhbafkbeaa", sum := "833504888801d53b6fd235ec935fb0b7d51a0a184fe42c2f2d91e4a72c1bf850", func := "loop.example/g03113/laws.FnLeibniz", spec := "fnLeibniz", unfollowed := true, recurses := true, plainKeys := false, apart := false, narrowed := true }
def FnLeibnizUptoSaid : Prop := fnLeibnizUptoRow.holds Try.pinned (OpenSpec.upto fnLeibnizSpec)

/-- 'laws.FnSymmetric', WHERE WHAT IT READS IS OF BULK AT MOST 1048576: true; the input reads as it did. -/
def fnSymmetricUptoRow : OpenClaim := { program := "ytmndchhbafkbeaa", sum := "833504888801d53b6fd235ec935fb0b7d51a0a184fe42c2f2d91e4a72c1bf850", func := "loop.example/g03113/laws.FnSymmetric", spec := "fnSymmetric", unfollowed := true, recurses := true, plainKeys := false, apart := false, narrowed := true }
def FnSymmetricUptoSaid : Prop := fnSymmetricUptoRow.holds Try.pinned (OpenSpec.upto fnSymmetricSpec)

end Rows
end Go.Proofs.Ytmndchhbafkbeaa
