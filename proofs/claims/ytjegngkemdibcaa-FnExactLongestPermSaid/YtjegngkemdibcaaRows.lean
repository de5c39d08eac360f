/-
  No cell of these rows narrows 'for every input' (looked for: loops, veiled, ifaces, maps, wideKeys, modest, calm, conditions, laid).
  DERIVED. THE GIVEN ROWS OF THIS SEAT. 9 by the template 'for every input the law returns true; each argument reads behind the call as it read before'; 0 by the template 'total and deterministic' (their statements: YtjegngkemdibcaaTotals.lean).
  GIVEN WITH THE SEED: the statements are not yours to turn. If you find one false, say at which input.
  Laid BY PROGRAM, IN A SANDBOX (cutbox-rows.mjs): the forced cells as the released guide's own fill.sh prints them over the translation 14696bb9b58d0f59… (all of the seat's roots in one cut). By AI agents, Wed Nov 11 2026. No macro, syntax, notation, axiom, sorry.
-/
import Derived.Test.YtjegngkemdibcaaChecked
import GoSem.Claim
import GoSem.ClaimJoined
import GoSem.ClaimMapViews
import Derived.JoinedTies
import Derived.KernelRfl
namespace Go.Proofs.Ytjegngkemdibcaa
/- THE CELL 'sum', in the pinned program and in every row, IS THE sha256 OF THE DUMP (.gsa) THAT YtjegngkemdibcaaProg.lean LOADS. Nothing in Lean hashes anything: it is a label: what it is worth is what the hold of that sum in a sandbox is worth. -/
noncomputable def Try.pinned : Pinned := { name := "ytjegngkemdibcaa", sum := "14696bb9b58d0f59fe52c7a5f6120877f358afc512db3f34ca4573dda0e30887", checked := Try.checked }
namespace Rows
def none {H : Type} : Left H := { results := [], args := [] }

/-- 'laws.FnExactIsPerm': WHATEVER THE INPUT: true; the input reads as it did. -/
def fnExactIsPermSpec : ChangeSpec := { name := "fnExactIsPerm", fn := fun _ => fun
  | [d] => { results := [.lit (.bool true)], args := [d] }
  | _ => none }
def fnExactIsPermRow : OpenClaim := { program := "ytjegngkemdibcaa", sum := "14696bb9b58d0f59fe52c7a5f6120877f358afc512db3f34ca4573dda0e30887", func := "loop.example/g03113/laws.FnExactIsPerm", spec := "fnExactIsPerm", apart := false }
def FnExactIsPermSaid : Prop := fnExactIsPermRow.holds Try.pinned (OpenSpec.ofChange fnExactIsPermSpec)

/-- ITS FALSE NEIGHBOUR: 'it returns false'. Refute it at one input. -/
def fnExactIsPermWrong : ChangeSpec := { name := "fnExactIsPerm", fn := fun _ => fun
  | [d] => { results := [.lit (.bool false)], args := [d] }
  | _ => none }
def FnExactIsPermWrongFalsely : Prop := fnExactIsPermRow.holds Try.pinned (OpenSpec.ofChange fnExactIsPermWrong)

/-- 'laws.FnExactIdentityPerm': WHATEVER THE INPUT: true; the input reads as it did. -/
def fnExactIdentityPermSpec : ChangeSpec := { name := "fnExactIdentityPerm", fn := fun _ => fun
  | [d] => { results := [.lit (.bool true)], args := [d] }
  | _ => none }
def fnExactIdentityPermRow : OpenClaim := { program := "ytjegngkemdibcaa", sum := "14696bb9b58d0f59fe52c7a5f6120877f358afc512db3f34ca4573dda0e30887", func := "loop.example/g03113/laws.FnExactIdentityPerm", spec := "fnExactIdentityPerm", apart := false }
def FnExactIdentityPermSaid : Prop := fnExactIdentityPermRow.holds Try.pinned (OpenSpec.ofChange fnExactIdentityPermSpec)

/-- ITS FALSE NEIGHBOUR: 'it returns false'. Refute it at one input. -/
def fnExactIdentityPermWrong : ChangeSpec := { name := "fnExactIdentityPerm", fn := fun _ => fun
  | [d] => { results := [.lit (.bool false)], args := [d] }
  | _ => none }
def FnExactIdentityPermWrongFalsely : Prop := fnExactIdentityPermRow.holds Try.pinned (OpenSpec.ofChange fnExactIdentityPermWrong)

/-- 'laws.FnExactLongestPerm': WHATEVER THE INPUT: true; the input reads as it did. -/
def fnExactLongestPermSpec : ChangeSpec := { name := "fnExactLongestPerm", fn := fun _ => fun
  | [d] => { results := [.lit (.bool true)], args := [d] }
  | _ => none }
def fnExactLongestPermRow : OpenClaim := { program := "ytjegngkemdibcaa", sum := "14696bb9b58d0f59fe52c7a5f6120877f358afc512db3f34ca4573dda0e30887", func := "loop.example/g03113/laws.FnExactLongestPerm", spec := "fnExactLongestPerm", apart := false }
def FnExactLongestPermSaid : Prop := fnExactLongestPermRow.holds Try.pinned (OpenSpec.ofChange fnExactLongestPermSpec)

/-- ITS FALSE NEIGHBOUR: 'it returns false'. Refute it at one input. -/
def fnExactLongestPermWrong : ChangeSpec := { name := "fnExactLongestPerm", fn := fun _ => fun
  | [d] => { results := [.lit (.bool false)], args := [d] }
  | _ => none }
def FnExactLongestPermWrongFalsely : Prop := fnExactLongestPermRow.holds Try.pinned (OpenSpec.ofChange fnExactLongestPermWrong)

/-- 'laws.FnExactComposePerms': WHATEVER THE INPUT: true; the input reads as it did. -/
def fnExactComposePermsSpec : ChangeSpec := { name := "fnExactComposePerms", fn := fun _ => fun
  | [d1, d2] => { results := [.lit (.bool true)], args := [d1, d2] }
  | _ => none }
def fnExactComposePermsRow : OpenClaim := { program := "ytjegngkemdibcaa", sum := "14696bb9b58d0f59fe52c7a5f6120877f358afc512db3f34ca4573dda0e30887", func := "loop.example/g03113/laws.FnExactComposePerms", spec := "fnExactComposePerms", apart := false }
def FnExactComposePermsSaid : Prop := fnExactComposePermsRow.holds Try.pinned (OpenSpec.ofChange fnExactComposePermsSpec)

/-- ITS FALSE NEIGHBOUR: 'it returns false'. Refute it at one input. -/
def fnExactComposePermsWrong : ChangeSpec := { name := "fnExactComposePerms", fn := fun _ => fun
  | [d1, d2] => { results := [.lit (.bool false)], args := [d1, d2] }
  | _ => none }
def FnExactComposePermsWrongFalsely : Prop := fnExactComposePermsRow.holds Try.pinned (OpenSpec.ofChange fnExactComposePermsWrong)

/-- 'laws.FnExactInversePerm': WHATEVER THE INPUT: true; the input reads as it did. -/
def fnExactInversePermSpec : ChangeSpec := { name := "fnExactInversePerm", fn := fun _ => fun
  | [d] => { results := [.lit (.bool true)], args := [d] }
  | _ => none }
def fnExactInversePermRow : OpenClaim := { program := "ytjegngkemdibcaa", sum := "14696bb9b58d0f59fe52c7a5f6120877f358afc512db3f34ca4573dda0e30887", func := "loop.example/g03113/laws.FnExactInversePerm", spec := "fnExactInversePerm", apart := false }
def FnExactInversePermSaid : Prop := fnExactInversePermRow.holds Try.pinned (OpenSpec.ofChange fnExactInversePermSpec)

/-- ITS FALSE NEIGHBOUR: 'it returns false'. Refute it at one input. -/
def fnExactInversePermWrong : ChangeSpec := { name := "fnExactInversePerm", fn := fun _ => fun
  | [d] => { results := [.lit (.bool false)], args := [d] }
  | _ => none }
def FnExactInversePermWrongFalsely : Prop := fnExactInversePermRow.holds Try.pinned (OpenSpec.ofChange fnExactInversePermWrong)

/-- 'laws.FnExactLengthOf': WHATEVER THE INPUT: true; the input reads as it did. -/
def fnExactLengthOfSpec : ChangeSpec := { name := "fnExactLengthOf", fn := fun _ => fun
  | [d] => { results := [.lit (.bool true)], args := [d] }
  | _ => none }
def fnExactLengthOfRow : OpenClaim := { program := "ytjegngkemdibcaa", sum := "14696bb9b58d0f59fe52c7a5f6120877f358afc512db3f34ca4573dda0e30887", func := "loop.example/g03113/laws.FnExactLengthOf", spec := "fnExactLengthOf", apart := false }
def FnExactLengthOfSaid : Prop := fnExactLengthOfRow.holds Try.pinned (OpenSpec.ofChange fnExactLengthOfSpec)

/-- ITS FALSE NEIGHBOUR: 'it returns false'. Refute it at one input. -/
def fnExactLengthOfWrong : ChangeSpec := { name := "fnExactLengthOf", fn := fun _ => fun
  | [d] => { results := [.lit (.bool false)], args := [d] }
  | _ => none }
def FnExactLengthOfWrongFalsely : Prop := fnExactLengthOfRow.holds Try.pinned (OpenSpec.ofChange fnExactLengthOfWrong)

/-- 'laws.FnExactDescentsOf': WHATEVER THE INPUT: true; the input reads as it did. -/
def fnExactDescentsOfSpec : ChangeSpec := { name := "fnExactDescentsOf", fn := fun _ => fun
  | [d] => { results := [.lit (.bool true)], args := [d] }
  | _ => none }
def fnExactDescentsOfRow : OpenClaim := { program := "ytjegngkemdibcaa", sum := "14696bb9b58d0f59fe52c7a5f6120877f358afc512db3f34ca4573dda0e30887", func := "loop.example/g03113/laws.FnExactDescentsOf", spec := "fnExactDescentsOf", apart := false }
def FnExactDescentsOfSaid : Prop := fnExactDescentsOfRow.holds Try.pinned (OpenSpec.ofChange fnExactDescentsOfSpec)

/-- ITS FALSE NEIGHBOUR: 'it returns false'. Refute it at one input. -/
def fnExactDescentsOfWrong : ChangeSpec := { name := "fnExactDescentsOf", fn := fun _ => fun
  | [d] => { results := [.lit (.bool false)], args := [d] }
  | _ => none }
def FnExactDescentsOfWrongFalsely : Prop := fnExactDescentsOfRow.holds Try.pinned (OpenSpec.ofChange fnExactDescentsOfWrong)

/-- 'laws.FnExactCodeOf': WHATEVER THE INPUT: true; the input reads as it did. -/
def fnExactCodeOfSpec : ChangeSpec := { name := "fnExactCodeOf", fn := fun _ => fun
  | [d] => { results := [.lit (.bool true)], args := [d] }
  | _ => none }
def fnExactCodeOfRow : OpenClaim := { program := "ytjegngkemdibcaa", sum := "14696bb9b58d0f59fe52c7a5f6120877f358afc512db3f34ca4573dda0e30887", func := "loop.example/g03113/laws.FnExactCodeOf", spec := "fnExactCodeOf", apart := false }
def FnExactCodeOfSaid : Prop := fnExactCodeOfRow.holds Try.pinned (OpenSpec.ofChange fnExactCodeOfSpec)

/-- ITS FALSE NEIGHBOUR: 'it returns false'. Refute it at one input. -/
def fnExactCodeOfWrong : ChangeSpec := { name := "fnExactCodeOf", fn := fun _ => fun
  | [d] => { results := [.lit (.bool false)], args := [d] }
  | _ => none }
def FnExactCodeOfWrongFalsely : Prop := fnExactCodeOfRow.holds Try.pinned (OpenSpec.ofChange fnExactCodeOfWrong)

/-- 'laws.FnExactPermOfCode': WHATEVER THE INPUT: true; the input reads as it did. -/
def fnExactPermOfCodeSpec : ChangeSpec := { name := "fnExactPermOfCode", fn := fun _ => fun
  | [d] => { results := [.lit (.bool true)], args := [d] }
  | _ => none }
def fnExactPermOfCodeRow : OpenClaim := { program := "ytjegngkemdibcaa", sum := "14696bb9b58d0f59fe52c7a5f6120877f358afc512db3f34ca4573dda0e30887", func := "loop.example/g03113/laws.FnExactPermOfCode", spec := "fnExactPermOfCode", apart := false }
def FnExactPermOfCodeSaid : Prop := fnExactPermOfCodeRow.holds Try.pinned (OpenSpec.ofChange fnExactPermOfCodeSpec)

/-- ITS FALSE NEIGHBOUR: 'it returns false'. Refute it at one input. -/
def fnExactPermOfCodeWrong : ChangeSpec := { name := "fnExactPermOfCode", fn := fun _ => fun
  | [d] => { results := [.lit (.bool false)], args := [d] }
  | _ => none }
def FnExactPermOfCodeWrongFalsely : Prop := fnExactPermOfCodeRow.holds Try.pinned (OpenSpec.ofChange fnExactPermOfCodeWrong)

/- THE SECOND FORM. 'bulk': how many values and letters a reading holds, each counted each time it is reached (what is shared counts as often as it is met; a slice's spare places count too). A statement '..UptoSaid' is the law's where the arguments, and the package variables that the reading takes, are together of bulk at most 1048576: NARROWER than '..Said'. Prove '..Said' where nothing that the law and all that it calls make is longer than what came in: it says more and counts as full. Else prove '..UptoSaid'. A law counts once. -/
mutual
def uptoBulk {H : Type} : DataW H → Nat
  | .lit (.string bytes) => bytes.length + 1
  | .lit _ => 1
  | .nil => 1
  | .ptr d => uptoBulk d + 1
  | .slice elems spare => uptoBulkAll elems + uptoBulkAll spare + 1
  | .agg parts => uptoBulkAll parts + 1
  | .iface _ d => uptoBulk d + 1
  | .map entries => uptoBulkEntries entries + 1
  | .held _ => 1
def uptoBulkAll {H : Type} : List (DataW H) → Nat
  | [] => 0
  | d :: r => uptoBulk d + uptoBulkAll r
def uptoBulkEntries {H : Type} : List (Lit × DataW H) → Nat
  | [] => 0
  | x :: r => uptoBulkEntry x + uptoBulkEntries r
def uptoBulkEntry {H : Type} : Lit × DataW H → Nat
  | (.string bytes, d) => bytes.length + uptoBulk d + 1
  | (_, d) => uptoBulk d + 1
 end
def uptoSmall : (H : Type) → List (DataW H) → Bool := fun _ ds => decide (uptoBulkAll ds ≤ 1048576)
def OpenSpec.upto (s : _root_.Go.ChangeSpec) : _root_.Go.OpenSpec := { _root_.Go.OpenSpec.ofChange s with cond := some uptoSmall }

/-- 'laws.FnExactIsPerm', WHERE WHAT IT READS IS OF BULK AT MOST 1048576: true; the input reads as it did. -/
def fnExactIsPermUptoRow : OpenClaim := { program := "ytjegngkemdibcaa", sum := "14696bb9b58d0f59fe52c7a5f6120877f358afc512db3f34ca4573dda0e30887", func := "loop.example/g03113/laws.FnExactIsPerm", spec := "fnExactIsPerm", apart := false, narrowed := true }
def FnExactIsPermUptoSaid : Prop := fnExactIsPermUptoRow.holds Try.pinned (OpenSpec.upto fnExactIsPermSpec)

/-- 'laws.FnExactIdentityPerm', WHERE WHAT IT READS IS OF BULK AT MOST 1048576: true; the input reads as it did. -/
def fnExactIdentityPermUptoRow : OpenClaim := { program := "ytjegngkemdibcaa", sum := "14696bb9b58d0f59fe52c7a5f6120877f358afc512db3f34ca4573dda0e30887", func := "loop.example/g03113/laws.FnExactIdentityPerm", spec := "fnExactIdentityPerm", apart := false, narrowed := true }
def FnExactIdentityPermUptoSaid : Prop := fnExactIdentityPermUptoRow.holds Try.pinned (OpenSpec.upto fnExactIdentityPermSpec)

/-- 'laws.FnExactLongestPerm', WHERE WHAT IT READS IS OF BULK AT MOST 1048576: true; the input reads as it did. -/
def fnExactLongestPermUptoRow : OpenClaim := { program := "ytjegngkemdibcaa", sum := "14696bb9b58d0f59fe52c7a5f6120877f358afc512db3f34ca4573dda0e30887", func := "loop.example/g03113/laws.FnExactLongestPerm", spec := "fnExactLongestPerm", apart := false, narrowed := true }
def FnExactLongestPermUptoSaid : Prop := fnExactLongestPermUptoRow.holds Try.pinned (OpenSpec.upto fnExactLongestPermSpec)

/-- 'laws.FnExactComposePerms', WHERE WHAT IT READS IS OF BULK AT MOST 1048576: true; the input reads as it did. -/
def fnExactComposePermsUptoRow : OpenClaim := { program := "ytjegngkemdibcaa", sum := "14696bb9b58d0f59fe52c7a5f6120877f358afc512db3f34ca4573dda0e30887", func := "loop.example/g03113/laws.FnExactComposePerms", spec := "fnExactComposePerms", apart := false, narrowed := true }
def FnExactComposePermsUptoSaid : Prop := fnExactComposePermsUptoRow.holds Try.pinned (OpenSpec.upto fnExactComposePermsSpec)

/-- 'laws.FnExactInversePerm', WHERE WHAT IT READS IS OF BULK AT MOST 1048576: true; the input reads as it did. -/
def fnExactInversePermUptoRow : OpenClaim := { program := "ytjegngkemdibcaa", sum := "14696bb9b58d0f59fe52c7a5f6120877f358afc512db3f34ca4573dda0e30887", func := "loop.example/g03113/laws.FnExactInversePerm", spec := "fnExactInversePerm", apart := false, narrowed := true }
def FnExactInversePermUptoSaid : Prop := fnExactInversePermUptoRow.holds Try.pinned (OpenSpec.upto fnExactInversePermSpec)

/-- 'laws.FnExactLengthOf', WHERE WHAT IT READS IS OF BULK AT MOST 1048576: true; the input reads as it did. -/
def fnExactLengthOfUptoRow : OpenClaim := { program := "ytjegngkemdibcaa", sum := "14696bb9b58d0f59fe52c7a5f6120877f358afc512db3f34ca4573dda0e30887", func := "loop.example/g03113/laws.FnExactLengthOf", spec := "fnExactLengthOf", apart := false, narrowed := true }
def FnExactLengthOfUptoSaid : Prop := fnExactLengthOfUptoRow.holds Try.pinned (OpenSpec.upto fnExactLengthOfSpec)

/-- 'laws.FnExactDescentsOf', WHERE WHAT IT READS IS OF BULK AT MOST 1048576: true; the input reads as it did. -/
def fnExactDescentsOfUptoRow : OpenClaim := { program := "ytjegngkemdibcaa", sum := "14696bb9b58d0f59fe52c7a5f6120877f358afc512db3f34ca4573dda0e30887", func := "loop.example/g03113/laws.FnExactDescentsOf", spec := "fnExactDescentsOf", apart := false, narrowed := true }
def FnExactDescentsOfUptoSaid : Prop := fnExactDescentsOfUptoRow.holds Try.pinned (OpenSpec.upto fnExactDescentsOfSpec)

/-- 'laws.FnExactCodeOf', WHERE WHAT IT READS IS OF BULK AT MOST 1048576: true; the input reads as it did. -/
def fnExactCodeOfUptoRow : OpenClaim := { program := "ytjegngkemdibcaa", sum := "14696bb9b58d0f59fe52c7a5f6120877f358afc512db3f34ca4573dda0e30887", func := "loop.example/g03113/laws.FnExactCodeOf", spec := "fnExactCodeOf", apart := false, narrowed := true }
def FnExactCodeOfUptoSaid : Prop := fnExactCodeOfUptoRow.holds Try.pinned (OpenSpec.upto fnExactCodeOfSpec)

/-- 'laws.FnExactPermOfCode', WHERE WHAT IT READS IS OF BULK AT MOST 1048576: true; the input reads as it did. -/
def fnExactPermOfCodeUptoRow : OpenClaim := { program := "ytjegngkemdibcaa", sum := "14696bb9b58d0f59fe52c7a5f6120877f358afc512db3f34ca4573dda0e30887", func := "loop.example/g03113/laws.FnExactPermOfCode", spec := "fnExactPermOfCode", apart := false, narrowed := true }
def FnExactPermOfCodeUptoSaid : Prop := fnExactPermOfCodeUptoRow.holds Try.pinned (OpenSpec.upto fnExactPermOfCodeSpec)

end Rows
end Go.Proofs.Ytjegngkemdibcaa
