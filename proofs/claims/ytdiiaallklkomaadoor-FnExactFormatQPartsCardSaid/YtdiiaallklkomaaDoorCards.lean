/-
  DERIVED. GIVEN WITH THE SEED: THE CARDS: each row of YtdiiaallklkomaaDoorRows.lean that lists a variable, with what it lists TIED to the program's text (the seventh form; the later family's looks); each row that meets fmt, with fmt's text TOLD by the authors' own Lean function (tested against real Go, not proved from fmt's source: count such statements apart). THE CARD IS WHAT COUNTS. Prove the row's statement (the work); the ties are given (YtdiiaallklkomaaDoorTie.lean); close each card by the builder's one call (the guide's Derived/Test/ToyasCard.lean, 'card_holds'). Laid BY PROGRAM, IN A SANDBOX (cutbox-door.mjs). By AI agents, Wed Nov 11 2026. No macro, syntax, notation, axiom, sorry.
-/
import Derived.Test.YtdiiaallklkomaaDoorRows
import GoSem.ClaimSeven
namespace Go.Proofs.YtdiiaallklkomaaDoor
namespace Rows

/-- THE TIED CARD OF 'laws.FnExactFormatInt'. -/
def fnExactFormatIntCard : Claim7 := { stood := { row := fnExactFormatIntRow, standIns := [], harness := (true, "eccaf33245bf3870a0b32bb877f20279c4be74430052569d88ea0a5029dd7074"), looks := false }, kinds := [], alts := [], laidByText := true, laidKinds := [.data, .data, .data], laidTests := true, laidLooks := .later }
def FnExactFormatIntCardSaid : Prop := Claim7.holds Tryd.pinned (.plain (OpenSpec.ofChange fnExactFormatIntSpec)) fnExactFormatIntCard

/-- THE TIED CARD OF 'laws.FnExactFormatInts'. -/
def fnExactFormatIntsCard : Claim7 := { stood := { row := fnExactFormatIntsRow, standIns := [], harness := (true, "eccaf33245bf3870a0b32bb877f20279c4be74430052569d88ea0a5029dd7074"), looks := false }, kinds := [], alts := [], laidByText := true, laidKinds := [.data, .data, .data], laidTests := true, laidLooks := .later }
def FnExactFormatIntsCardSaid : Prop := Claim7.holds Tryd.pinned (.plain (OpenSpec.ofChange fnExactFormatIntsSpec)) fnExactFormatIntsCard

/-- THE TIED CARD OF 'laws.FnExactFormatParts'. -/
def fnExactFormatPartsCard : Claim7 := { stood := { row := fnExactFormatPartsRow, standIns := [], harness := (true, "eccaf33245bf3870a0b32bb877f20279c4be74430052569d88ea0a5029dd7074"), looks := false }, kinds := [], alts := [], laidByText := true, laidKinds := [.data, .data, .data], laidTests := true, laidLooks := .later }
def FnExactFormatPartsCardSaid : Prop := Claim7.holds Tryd.pinned (.plain (OpenSpec.ofChange fnExactFormatPartsSpec)) fnExactFormatPartsCard

/-- THE TIED CARD OF 'laws.FnExactFormatClasses'. -/
def fnExactFormatClassesCard : Claim7 := { stood := { row := fnExactFormatClassesRow, standIns := [], harness := (true, "eccaf33245bf3870a0b32bb877f20279c4be74430052569d88ea0a5029dd7074"), looks := false }, kinds := [], alts := [], laidByText := true, laidKinds := [.data, .data, .data], laidTests := true, laidLooks := .later }
def FnExactFormatClassesCardSaid : Prop := Claim7.holds Tryd.pinned (.plain (OpenSpec.ofChange fnExactFormatClassesSpec)) fnExactFormatClassesCard

/-- THE TIED CARD OF 'laws.FnExactFormatQParts'. -/
def fnExactFormatQPartsCard : Claim7 := { stood := { row := fnExactFormatQPartsRow, standIns := [], harness := (true, "eccaf33245bf3870a0b32bb877f20279c4be74430052569d88ea0a5029dd7074"), looks := false }, kinds := [], alts := [], laidByText := true, laidKinds := [.data, .data, .data], laidTests := true, laidLooks := .later }
def FnExactFormatQPartsCardSaid : Prop := Claim7.holds Tryd.pinned (.plain (OpenSpec.ofChange fnExactFormatQPartsSpec)) fnExactFormatQPartsCard

/-- THE TIED CARD OF 'laws.FnExactFormatPuzzle'. -/
def fnExactFormatPuzzleCard : Claim7 := { stood := { row := fnExactFormatPuzzleRow, standIns := [], harness := (true, "eccaf33245bf3870a0b32bb877f20279c4be74430052569d88ea0a5029dd7074"), looks := false }, kinds := [], alts := [], laidByText := true, laidKinds := [.data, .data, .data], laidTests := true, laidLooks := .later }
def FnExactFormatPuzzleCardSaid : Prop := Claim7.holds Tryd.pinned (.plain (OpenSpec.ofChange fnExactFormatPuzzleSpec)) fnExactFormatPuzzleCard

/-- THE SECOND FORM's CARD OF 'laws.FnExactFormatInt'. -/
def fnExactFormatIntUptoCard : Claim7 := { stood := { row := fnExactFormatIntUptoRow, standIns := [], harness := (true, "eccaf33245bf3870a0b32bb877f20279c4be74430052569d88ea0a5029dd7074"), looks := false }, kinds := [], alts := [], laidByText := true, laidKinds := [.data, .data, .data], laidTests := true, laidLooks := .later }
def FnExactFormatIntUptoCardSaid : Prop := Claim7.holds Tryd.pinned (.plain (OpenSpec.upto fnExactFormatIntSpec)) fnExactFormatIntUptoCard

/-- THE SECOND FORM's CARD OF 'laws.FnExactFormatInts'. -/
def fnExactFormatIntsUptoCard : Claim7 := { stood := { row := fnExactFormatIntsUptoRow, standIns := [], harness := (true, "eccaf33245bf3870a0b32bb877f20279c4be74430052569d88ea0a5029dd7074"), looks := false }, kinds := [], alts := [], laidByText := true, laidKinds := [.data, .data, .data], laidTests := true, laidLooks := .later }
def FnExactFormatIntsUptoCardSaid : Prop := Claim7.holds Tryd.pinned (.plain (OpenSpec.upto fnExactFormatIntsSpec)) fnExactFormatIntsUptoCard

/-- THE SECOND FORM's CARD OF 'laws.FnExactFormatParts'. -/
def fnExactFormatPartsUptoCard : Claim7 := { stood := { row := fnExactFormatPartsUptoRow, standIns := [], harness := (true, "eccaf33245bf3870a0b32bb877f20279c4be74430052569d88ea0a5029dd7074"), looks := false }, kinds := [], alts := [], laidByText := true, laidKinds := [.data, .data, .data], laidTests := true, laidLooks := .later }
def FnExactFormatPartsUptoCardSaid : Prop := Claim7.holds Tryd.pinned (.plain (OpenSpec.upto fnExactFormatPartsSpec)) fnExactFormatPartsUptoCard

/-- THE SECOND FORM's CARD OF 'laws.FnExactFormatClasses'. -/
def fnExactFormatClassesUptoCard : Claim7 := { stood := { row := fnExactFormatClassesUptoRow, standIns := [], harness := (true, "eccaf33245bf3870a0b32bb877f20279c4be74430052569d88ea0a5029dd7074"), looks := false }, kinds := [], alts := [], laidByText := true, laidKinds := [.data, .data, .data], laidTests := true, laidLooks := .later }
def FnExactFormatClassesUptoCardSaid : Prop := Claim7.holds Tryd.pinned (.plain (OpenSpec.upto fnExactFormatClassesSpec)) fnExactFormatClassesUptoCard

/-- THE SECOND FORM's CARD OF 'laws.FnExactFormatQParts'. -/
def fnExactFormatQPartsUptoCard : Claim7 := { stood := { row := fnExactFormatQPartsUptoRow, standIns := [], harness := (true, "eccaf33245bf3870a0b32bb877f20279c4be74430052569d88ea0a5029dd7074"), looks := false }, kinds := [], alts := [], laidByText := true, laidKinds := [.data, .data, .data], laidTests := true, laidLooks := .later }
def FnExactFormatQPartsUptoCardSaid : Prop := Claim7.holds Tryd.pinned (.plain (OpenSpec.upto fnExactFormatQPartsSpec)) fnExactFormatQPartsUptoCard

/-- THE SECOND FORM's CARD OF 'laws.FnExactFormatPuzzle'. -/
def fnExactFormatPuzzleUptoCard : Claim7 := { stood := { row := fnExactFormatPuzzleUptoRow, standIns := [], harness := (true, "eccaf33245bf3870a0b32bb877f20279c4be74430052569d88ea0a5029dd7074"), looks := false }, kinds := [], alts := [], laidByText := true, laidKinds := [.data, .data, .data], laidTests := true, laidLooks := .later }
def FnExactFormatPuzzleUptoCardSaid : Prop := Claim7.holds Tryd.pinned (.plain (OpenSpec.upto fnExactFormatPuzzleSpec)) fnExactFormatPuzzleUptoCard
end Rows
end Go.Proofs.YtdiiaallklkomaaDoor
