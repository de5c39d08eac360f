/-
  No cell of these rows narrows 'for every input' (looked for: loops, veiled, ifaces, maps, wideKeys, modest, calm, conditions, laid).
  DERIVED. THE GIVEN ROWS OF THIS SEAT. 11 by the template 'for every input the law returns true; each argument reads behind the call as it read before'; 0 by the template 'total and deterministic' (their statements: YtfaegfhbbkicgaaTotals.lean).
  GIVEN WITH THE SEED: the statements are not yours to turn. If you find one false, say at which input.
  Laid BY PROGRAM, IN A SANDBOX (cutbox-rows.mjs): the forced cells as the released guide's own fill.sh prints them over the translation b0acdc9134398a23… (all of the seat's roots in one cut). By AI agents, Wed Nov 11 2026. No macro, syntax, notation, axiom, sorry.
-/
import Derived.Test.YtfaegfhbbkicgaaChecked
import GoSem.Claim
import GoSem.ClaimJoined
import GoSem.ClaimMapViews
import Derived.JoinedTies
import Derived.KernelRfl
namespace Go.Proofs.Ytfaegfhbbkicgaa
/- THE CELL 'sum', in the pinned program and in every row, IS THE sha256 OF THE DUMP (.gsa) THAT YtfaegfhbbkicgaaProg.lean LOADS. Nothing in Lean hashes anything: it is a label: what it is worth is what the hold of that sum in a sandbox is worth. -/
noncomputable def Try.pinned : Pinned := { name := "ytfaegfhbbkicgaa", sum := "b0acdc9134398a235418b9b393abdcfeb21d8d83f03bc888a7fd65e20ddb6bf9", checked := Try.checked }
namespace Rows
def none {H : Type} : Left H := { results := [], args := [] }

/-- 'laws.FnExactRelativePosition': WHATEVER THE INPUT: true; the input reads as it did. -/
def fnExactRelativePositionSpec : ChangeSpec := { name := "fnExactRelativePosition", fn := fun _ => fun
  | [d1, d2] => { results := [.lit (.bool true)], args := [d1, d2] }
  | _ => none }
def fnExactRelativePositionRow : OpenClaim := { program := "ytfaegfhbbkicgaa", sum := "b0acdc9134398a235418b9b393abdcfeb21d8d83f03bc888a7fd65e20ddb6bf9", func := "loop.example/g03113/laws.FnExactRelativePosition", spec := "fnExactRelativePosition", unfollowed := true, recurses := true, apart := false }
def FnExactRelativePositionSaid : Prop := fnExactRelativePositionRow.holds Try.pinned (OpenSpec.ofChange fnExactRelativePositionSpec)

/-- ITS FALSE NEIGHBOUR: 'it returns false'. Refute it at one input. -/
def fnExactRelativePositionWrong : ChangeSpec := { name := "fnExactRelativePosition", fn := fun _ => fun
  | [d1, d2] => { results := [.lit (.bool false)], args := [d1, d2] }
  | _ => none }
def FnExactRelativePositionWrongFalsely : Prop := fnExactRelativePositionRow.holds Try.pinned (OpenSpec.ofChange fnExactRelativePositionWrong)

/-- 'laws.FnExactMeetsFlag': WHATEVER THE INPUT: true; the input reads as it did. -/
def fnExactMeetsFlagSpec : ChangeSpec := { name := "fnExactMeetsFlag", fn := fun _ => fun
  | [d1, d2, d3] => { results := [.lit (.bool true)], args := [d1, d2, d3] }
  | _ => none }
def fnExactMeetsFlagRow : OpenClaim := { program := "ytfaegfhbbkicgaa", sum := "b0acdc9134398a235418b9b393abdcfeb21d8d83f03bc888a7fd65e20ddb6bf9", func := "loop.example/g03113/laws.FnExactMeetsFlag", spec := "fnExactMeetsFlag", unfollowed := true, recurses := true, apart := false }
def FnExactMeetsFlagSaid : Prop := fnExactMeetsFlagRow.holds Try.pinned (OpenSpec.ofChange fnExactMeetsFlagSpec)

/-- ITS FALSE NEIGHBOUR: 'it returns false'. Refute it at one input. -/
def fnExactMeetsFlagWrong : ChangeSpec := { name := "fnExactMeetsFlag", fn := fun _ => fun
  | [d1, d2, d3] => { results := [.lit (.bool false)], args := [d1, d2, d3] }
  | _ => none }
def FnExactMeetsFlagWrongFalsely : Prop := fnExactMeetsFlagRow.holds Try.pinned (OpenSpec.ofChange fnExactMeetsFlagWrong)

/-- 'laws.FnExactMeetSpaces': WHATEVER THE INPUT: true; the input reads as it did. -/
def fnExactMeetSpacesSpec : ChangeSpec := { name := "fnExactMeetSpaces", fn := fun _ => fun
  | [d1, d2] => { results := [.lit (.bool true)], args := [d1, d2] }
  | _ => none }
def fnExactMeetSpacesRow : OpenClaim := { program := "ytfaegfhbbkicgaa", sum := "b0acdc9134398a235418b9b393abdcfeb21d8d83f03bc888a7fd65e20ddb6bf9", func := "loop.example/g03113/laws.FnExactMeetSpaces", spec := "fnExactMeetSpaces", unfollowed := true, recurses := true, apart := false }
def FnExactMeetSpacesSaid : Prop := fnExactMeetSpacesRow.holds Try.pinned (OpenSpec.ofChange fnExactMeetSpacesSpec)

/-- ITS FALSE NEIGHBOUR: 'it returns false'. Refute it at one input. -/
def fnExactMeetSpacesWrong : ChangeSpec := { name := "fnExactMeetSpaces", fn := fun _ => fun
  | [d1, d2] => { results := [.lit (.bool false)], args := [d1, d2] }
  | _ => none }
def FnExactMeetSpacesWrongFalsely : Prop := fnExactMeetSpacesRow.holds Try.pinned (OpenSpec.ofChange fnExactMeetSpacesWrong)

/-- 'laws.FnExactCountSpaces': WHATEVER THE INPUT: true; the input reads as it did. -/
def fnExactCountSpacesSpec : ChangeSpec := { name := "fnExactCountSpaces", fn := fun _ => fun
  | [d1, d2, d3] => { results := [.lit (.bool true)], args := [d1, d2, d3] }
  | _ => none }
def fnExactCountSpacesRow : OpenClaim := { program := "ytfaegfhbbkicgaa", sum := "b0acdc9134398a235418b9b393abdcfeb21d8d83f03bc888a7fd65e20ddb6bf9", func := "loop.example/g03113/laws.FnExactCountSpaces", spec := "fnExactCountSpaces", unfollowed := true, recurses := true, apart := false }
def FnExactCountSpacesSaid : Prop := fnExactCountSpacesRow.holds Try.pinned (OpenSpec.ofChange fnExactCountSpacesSpec)

/-- ITS FALSE NEIGHBOUR: 'it returns false'. Refute it at one input. -/
def fnExactCountSpacesWrong : ChangeSpec := { name := "fnExactCountSpaces", fn := fun _ => fun
  | [d1, d2, d3] => { results := [.lit (.bool false)], args := [d1, d2, d3] }
  | _ => none }
def FnExactCountSpacesWrongFalsely : Prop := fnExactCountSpacesRow.holds Try.pinned (OpenSpec.ofChange fnExactCountSpacesWrong)

/-- 'laws.FnExactRskOf': WHATEVER THE INPUT: true; the input reads as it did. -/
def fnExactRskOfSpec : ChangeSpec := { name := "fnExactRskOf", fn := fun _ => fun
  | [d] => { results := [.lit (.bool true)], args := [d] }
  | _ => none }
def fnExactRskOfRow : OpenClaim := { program := "ytfaegfhbbkicgaa", sum := "b0acdc9134398a235418b9b393abdcfeb21d8d83f03bc888a7fd65e20ddb6bf9", func := "loop.example/g03113/laws.FnExactRskOf", spec := "fnExactRskOf", unfollowed := true, recurses := true, apart := false }
def FnExactRskOfSaid : Prop := fnExactRskOfRow.holds Try.pinned (OpenSpec.ofChange fnExactRskOfSpec)

/-- ITS FALSE NEIGHBOUR: 'it returns false'. Refute it at one input. -/
def fnExactRskOfWrong : ChangeSpec := { name := "fnExactRskOf", fn := fun _ => fun
  | [d] => { results := [.lit (.bool false)], args := [d] }
  | _ => none }
def FnExactRskOfWrongFalsely : Prop := fnExactRskOfRow.holds Try.pinned (OpenSpec.ofChange fnExactRskOfWrong)

/-- 'laws.FnExactEdelmanGreene': WHATEVER THE INPUT: true; the input reads as it did. -/
def fnExactEdelmanGreeneSpec : ChangeSpec := { name := "fnExactEdelmanGreene", fn := fun _ => fun
  | [d1, d2] => { results := [.lit (.bool true)], args := [d1, d2] }
  | _ => none }
def fnExactEdelmanGreeneRow : OpenClaim := { program := "ytfaegfhbbkicgaa", sum := "b0acdc9134398a235418b9b393abdcfeb21d8d83f03bc888a7fd65e20ddb6bf9", func := "loop.example/g03113/laws.FnExactEdelmanGreene", spec := "fnExactEdelmanGreene", unfollowed := true, recurses := true, apart := false }
def FnExactEdelmanGreeneSaid : Prop := fnExactEdelmanGreeneRow.holds Try.pinned (OpenSpec.ofChange fnExactEdelmanGreeneSpec)

/-- ITS FALSE NEIGHBOUR: 'it returns false'. Refute it at one input. -/
def fnExactEdelmanGreeneWrong : ChangeSpec := { name := "fnExactEdelmanGreene", fn := fun _ => fun
  | [d1, d2] => { results := [.lit (.bool false)], args := [d1, d2] }
  | _ => none }
def FnExactEdelmanGreeneWrongFalsely : Prop := fnExactEdelmanGreeneRow.holds Try.pinned (OpenSpec.ofChange fnExactEdelmanGreeneWrong)

/-- 'laws.FnExactWrapShape': WHATEVER THE INPUT: true; the input reads as it did. -/
def fnExactWrapShapeSpec : ChangeSpec := { name := "fnExactWrapShape", fn := fun _ => fun
  | [d1, d2, d3] => { results := [.lit (.bool true)], args := [d1, d2, d3] }
  | _ => none }
def fnExactWrapShapeRow : OpenClaim := { program := "ytfaegfhbbkicgaa", sum := "b0acdc9134398a235418b9b393abdcfeb21d8d83f03bc888a7fd65e20ddb6bf9", func := "loop.example/g03113/laws.FnExactWrapShape", spec := "fnExactWrapShape", apart := false }
def FnExactWrapShapeSaid : Prop := fnExactWrapShapeRow.holds Try.pinned (OpenSpec.ofChange fnExactWrapShapeSpec)

/-- ITS FALSE NEIGHBOUR: 'it returns false'. Refute it at one input. -/
def fnExactWrapShapeWrong : ChangeSpec := { name := "fnExactWrapShape", fn := fun _ => fun
  | [d1, d2, d3] => { results := [.lit (.bool false)], args := [d1, d2, d3] }
  | _ => none }
def FnExactWrapShapeWrongFalsely : Prop := fnExactWrapShapeRow.holds Try.pinned (OpenSpec.ofChange fnExactWrapShapeWrong)

/-- 'laws.FnExactNewSession': WHATEVER THE INPUT: true; the input reads as it did. -/
def fnExactNewSessionSpec : ChangeSpec := { name := "fnExactNewSession", fn := fun _ => fun
  | [] => { results := [.lit (.bool true)], args := [] }
  | _ => none }
def fnExactNewSessionRow : OpenClaim := { program := "ytfaegfhbbkicgaa", sum := "b0acdc9134398a235418b9b393abdcfeb21d8d83f03bc888a7fd65e20ddb6bf9", func := "loop.example/g03113/laws.FnExactNewSession", spec := "fnExactNewSession", apart := false }
def FnExactNewSessionSaid : Prop := fnExactNewSessionRow.holds Try.pinned (OpenSpec.ofChange fnExactNewSessionSpec)

/-- ITS FALSE NEIGHBOUR: 'it returns false'. Refute it at one input. -/
def fnExactNewSessionWrong : ChangeSpec := { name := "fnExactNewSession", fn := fun _ => fun
  | [] => { results := [.lit (.bool false)], args := [] }
  | _ => none }
def FnExactNewSessionWrongFalsely : Prop := fnExactNewSessionRow.holds Try.pinned (OpenSpec.ofChange fnExactNewSessionWrong)

/-- 'laws.FnExactSessionOk': WHATEVER THE INPUT: true; the input reads as it did. -/
def fnExactSessionOkSpec : ChangeSpec := { name := "fnExactSessionOk", fn := fun _ => fun
  | [d] => { results := [.lit (.bool true)], args := [d] }
  | _ => none }
def fnExactSessionOkRow : OpenClaim := { program := "ytfaegfhbbkicgaa", sum := "b0acdc9134398a235418b9b393abdcfeb21d8d83f03bc888a7fd65e20ddb6bf9", func := "loop.example/g03113/laws.FnExactSessionOk", spec := "fnExactSessionOk", apart := false }
def FnExactSessionOkSaid : Prop := fnExactSessionOkRow.holds Try.pinned (OpenSpec.ofChange fnExactSessionOkSpec)

/-- ITS FALSE NEIGHBOUR: 'it returns false'. Refute it at one input. -/
def fnExactSessionOkWrong : ChangeSpec := { name := "fnExactSessionOk", fn := fun _ => fun
  | [d] => { results := [.lit (.bool false)], args := [d] }
  | _ => none }
def FnExactSessionOkWrongFalsely : Prop := fnExactSessionOkRow.holds Try.pinned (OpenSpec.ofChange fnExactSessionOkWrong)

/-- 'laws.FnExactCoversOf': WHATEVER THE INPUT: true; the input reads as it did. -/
def fnExactCoversOfSpec : ChangeSpec := { name := "fnExactCoversOf", fn := fun _ => fun
  | [d] => { results := [.lit (.bool true)], args := [d] }
  | _ => none }
def fnExactCoversOfRow : OpenClaim := { program := "ytfaegfhbbkicgaa", sum := "b0acdc9134398a235418b9b393abdcfeb21d8d83f03bc888a7fd65e20ddb6bf9", func := "loop.example/g03113/laws.FnExactCoversOf", spec := "fnExactCoversOf", unfollowed := true, recurses := true, apart := false }
def FnExactCoversOfSaid : Prop := fnExactCoversOfRow.holds Try.pinned (OpenSpec.ofChange fnExactCoversOfSpec)

/-- ITS FALSE NEIGHBOUR: 'it returns false'. Refute it at one input. -/
def fnExactCoversOfWrong : ChangeSpec := { name := "fnExactCoversOf", fn := fun _ => fun
  | [d] => { results := [.lit (.bool false)], args := [d] }
  | _ => none }
def FnExactCoversOfWrongFalsely : Prop := fnExactCoversOfRow.holds Try.pinned (OpenSpec.ofChange fnExactCoversOfWrong)

/-- 'laws.FnExactAllPerms': WHATEVER THE INPUT: true; the input reads as it did. -/
def fnExactAllPermsSpec : ChangeSpec := { name := "fnExactAllPerms", fn := fun _ => fun
  | [d] => { results := [.lit (.bool true)], args := [d] }
  | _ => none }
def fnExactAllPermsRow : OpenClaim := { program := "ytfaegfhbbkicgaa", sum := "b0acdc9134398a235418b9b393abdcfeb21d8d83f03bc888a7fd65e20ddb6bf9", func := "loop.example/g03113/laws.FnExactAllPerms", spec := "fnExactAllPerms", apart := false }
def FnExactAllPermsSaid : Prop := fnExactAllPermsRow.holds Try.pinned (OpenSpec.ofChange fnExactAllPermsSpec)

/-- ITS FALSE NEIGHBOUR: 'it returns false'. Refute it at one input. -/
def fnExactAllPermsWrong : ChangeSpec := { name := "fnExactAllPerms", fn := fun _ => fun
  | [d] => { results := [.lit (.bool false)], args := [d] }
  | _ => none }
def FnExactAllPermsWrongFalsely : Prop := fnExactAllPermsRow.holds Try.pinned (OpenSpec.ofChange fnExactAllPermsWrong)

/- THE SECOND FORM. 'bulk': how many values and letters a reading holds, each counted each time it is reached (what is shared counts as often as it is met; a slice's spare places count too). A statement '..UptoSaid' is the law's where the arguments, and the package variables that the reading takes, are together of bulk at most 1048576: NARROWER than '..Said'. Prove '..Said' where nothing that the law and all that it calls make is longer than what came in: it says more and counts as full. Else prove '..UptoSaid'. A law counts once. -/
mutual
def uptoBulk {H : Type} : DataW H → Nat
  | .lit (.string bytes) => bytes.length + 1
  | .lit _ => 1
  | .nil => 1
  | .ptr d => uptoBulk d + 1
  | .slice elems spare => uptoBulkAll elems + uptoBulkAll spare + 1
  | .agg parts => uptoBulkAll parts + 1
  | .iface _ d => uptoBulk d + 1
  | .map entries => uptoBulkEntries entries + 1
  | .held _ => 1
def uptoBulkAll {H : Type} : List (DataW H) → Nat
  | [] => 0
  | d :: r => uptoBulk d + uptoBulkAll r
def uptoBulkEntries {H : Type} : List (Lit × DataW H) → Nat
  | [] => 0
  | x :: r => uptoBulkEntry x + uptoBulkEntries r
def uptoBulkEntry {H : Type} : Lit × DataW H → Nat
  | (.string bytes, d) => bytes.length + uptoBulk d + 1
  | (_, d) => uptoBulk d + 1
 end
def uptoSmall : (H : Type) → List (DataW H) → Bool := fun _ ds => decide (uptoBulkAll ds ≤ 1048576)
def OpenSpec.upto (s : _root_.Go.ChangeSpec) : _root_.Go.OpenSpec := { _root_.Go.OpenSpec.ofChange s with cond := some uptoSmall }

/-- 'laws.FnExactRelativePosition', WHERE WHAT IT READS IS OF BULK AT MOST 1048576: true; the input reads as it did. -/
def fnExactRelativePositionUptoRow : OpenClaim := { program := "ytfaegfhbbkicgaa", sum := "b0acdc9134398a235418b9b393abdcfeb21d8d83f03bc888a7fd65e20ddb6bf9", func := "loop.example/g03113/laws.FnExactRelativePosition", spec := "fnExactRelativePosition", unfollowed := true, recurses := true, apart := false, narrowed := true }
def FnExactRelativePositionUptoSaid : Prop := fnExactRelativePositionUptoRow.holds Try.pinned (OpenSpec.upto fnExactRelativePositionSpec)

/-- 'laws.FnExactMeetsFlag', WHERE WHAT IT READS IS OF BULK AT MOST 1048576: true; the input reads as it did. -/
def fnExactMeetsFlagUptoRow : OpenClaim := { program := "ytfaegfhbbkicgaa", sum := "b0acdc9134398a235418b9b393abdcfeb21d8d83f03bc888a7fd65e20ddb6bf9", func := "loop.example/g03113/laws.FnExactMeetsFlag", spec := "fnExactMeetsFlag", unfollowed := true, recurses := true, apart := false, narrowed := true }
def FnExactMeetsFlagUptoSaid : Prop := fnExactMeetsFlagUptoRow.holds Try.pinned (OpenSpec.upto fnExactMeetsFlagSpec)

/-- 'laws.FnExactMeetSpaces', WHERE WHAT IT READS IS OF BULK AT MOST 1048576: true; the input reads as it did. -/
def fnExactMeetSpacesUptoRow : OpenClaim := { program := "ytfaegfhbbkicgaa", sum := "b0acdc9134398a235418b9b393abdcfeb21d8d83f03bc888a7fd65e20ddb6bf9", func := "loop.example/g03113/laws.FnExactMeetSpaces", spec := "fnExactMeetSpaces", unfollowed := true, recurses := true, apart := false, narrowed := true }
def FnExactMeetSpacesUptoSaid : Prop := fnExactMeetSpacesUptoRow.holds Try.pinned (OpenSpec.upto fnExactMeetSpacesSpec)

/-- 'laws.FnExactCountSpaces', WHERE WHAT IT READS IS OF BULK AT MOST 1048576: true; the input reads as it did. -/
def fnExactCountSpacesUptoRow : OpenClaim := { program := "ytfaegfhbbkicgaa", sum := "b0acdc9134398a235418b9b393abdcfeb21d8d83f03bc888a7fd65e20ddb6bf9", func := "loop.example/g03113/laws.FnExactCountSpaces", spec := "fnExactCountSpaces", unfollowed := true, recurses := true, apart := false, narrowed := true }
def FnExactCountSpacesUptoSaid : Prop := fnExactCountSpacesUptoRow.holds Try.pinned (OpenSpec.upto fnExactCountSpacesSpec)

/-- 'laws.FnExactRskOf', WHERE WHAT IT READS IS OF BULK AT MOST 1048576: true; the input reads as it did. -/
def fnExactRskOfUptoRow : OpenClaim := { program := "ytfaegfhbbkicgaa", sum := "b0acdc9134398a235418b9b393abdcfeb21d8d83f03bc888a7fd65e20ddb6bf9", func := "loop.example/g03113/laws.FnExactRskOf", spec := "fnExactRskOf", unfollowed := true, recurses := true, apart := false, narrowed := true }
def FnExactRskOfUptoSaid : Prop := fnExactRskOfUptoRow.holds Try.pinned (OpenSpec.upto fnExactRskOfSpec)

/-- 'laws.FnExactEdelmanGreene', WHERE WHAT IT READS IS OF BULK AT MOST 1048576: true; the input reads as it did. -/
def fnExactEdelmanGreeneUptoRow : OpenClaim := { program := "ytfaegfhbbkicgaa", sum := "b0acdc9134398a235418b9b393abdcfeb21d8d83f03bc888a7fd65e20ddb6bf9", func := "loop.example/g03113/laws.FnExactEdelmanGreene", spec := "fnExactEdelmanGreene", unfollowed := true, recurses := true, apart := false, narrowed := true }
def FnExactEdelmanGreeneUptoSaid : Prop := fnExactEdelmanGreeneUptoRow.holds Try.pinned (OpenSpec.upto fnExactEdelmanGreeneSpec)

/-- 'laws.FnExactWrapShape', WHERE WHAT IT READS IS OF BULK AT MOST 1048576: true; the input reads as it did. -/
def fnExactWrapShapeUptoRow : OpenClaim := { program := "ytfaegfhbbkicgaa", sum := "b0acdc9134398a235418b9b393abdcfeb21d8d83f03bc888a7fd65e20ddb6bf9", func := "loop.example/g03113/laws.FnExactWrapShape", spec := "fnExactWrapShape", apart := false, narrowed := true }
def FnExactWrapShapeUptoSaid : Prop := fnExactWrapShapeUptoRow.holds Try.pinned (OpenSpec.upto fnExactWrapShapeSpec)

/-- 'laws.FnExactNewSession', WHERE WHAT IT READS IS OF BULK AT MOST 1048576: true; the input reads as it did. -/
def fnExactNewSessionUptoRow : OpenClaim := { program := "ytfaegfhbbkicgaa", sum := "b0acdc9134398a235418b9b393abdcfeb21d8d83f03bc888a7fd65e20ddb6bf9", func := "loop.example/g03113/laws.FnExactNewSession", spec := "fnExactNewSession", apart := false, narrowed := true }
def FnExactNewSessionUptoSaid : Prop := fnExactNewSessionUptoRow.holds Try.pinned (OpenSpec.upto fnExactNewSessionSpec)

/-- 'laws.FnExactSessionOk', WHERE WHAT IT READS IS OF BULK AT MOST 1048576: true; the input reads as it did. -/
def fnExactSessionOkUptoRow : OpenClaim := { program := "ytfaegfhbbkicgaa", sum := "b0acdc9134398a235418b9b393abdcfeb21d8d83f03bc888a7fd65e20ddb6bf9", func := "loop.example/g03113/laws.FnExactSessionOk", spec := "fnExactSessionOk", apart := false, narrowed := true }
def FnExactSessionOkUptoSaid : Prop := fnExactSessionOkUptoRow.holds Try.pinned (OpenSpec.upto fnExactSessionOkSpec)

/-- 'laws.FnExactCoversOf', WHERE WHAT IT READS IS OF BULK AT MOST 1048576: true; the input reads as it did. -/
def fnExactCoversOfUptoRow : OpenClaim := { program := "ytfaegfhbbkicgaa", sum := "b0acdc9134398a235418b9b393abdcfeb21d8d83f03bc888a7fd65e20ddb6bf9", func := "loop.example/g03113/laws.FnExactCoversOf", spec := "fnExactCoversOf", unfollowed := true, recurses := true, apart := false, narrowed := true }
def FnExactCoversOfUptoSaid : Prop := fnExactCoversOfUptoRow.holds Try.pinned (OpenSpec.upto fnExactCoversOfSpec)

/-- 'laws.FnExactAllPerms', WHERE WHAT IT READS IS OF BULK AT MOST 1048576: true; the input reads as it did. -/
def fnExactAllPermsUptoRow : OpenClaim := { program := "ytfaegfhbbkicgaa", sum := "b0acdc9134398a235418b9b393abdcfeb21d8d83f03bc888a7fd65e20ddb6bf9", func := "loop.example/g03113/laws.FnExactAllPerms", spec := "fnExactAllPerms", apart := false, narrowed := true }
def FnExactAllPermsUptoSaid : Prop := fnExactAllPermsUptoRow.holds Try.pinned (OpenSpec.upto fnExactAllPermsSpec)

end Rows
end Go.Proofs.Ytfaegfhbbkicgaa
