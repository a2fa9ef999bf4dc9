/-
  DERIVED. GIVEN WITH THE SEED: THE CARDS: each row of YtipmkbahlfkfoaaGreatDoorRows.lean that lists a variable, with what it lists TIED to the program's text (the seventh form; the later family's looks); each row that meets fmt, with fmt's text TOLD by the authors' own Lean function (tested against real Go, not proved from fmt's source: count such statements apart). THE CARD IS WHAT COUNTS. Prove the row's statement (the work); the ties are given (YtipmkbahlfkfoaaGreatDoorTie.lean); close each card by the builder's one call (the guide's Derived/Test/ToyasCard.lean, 'card_holds'). Laid BY PROGRAM, IN A SANDBOX (cutbox-door.mjs). By AI agents, Wed Nov 11 2026. No macro, syntax, notation, axiom, sorry.
-/
import Derived.Test.YtipmkbahlfkfoaaGreatDoorRows
import GoSem.ClaimSeven
namespace Go.Proofs.YtipmkbahlfkfoaaGreatDoor
namespace Rows

/-- THE TIED CARD OF 'laws.FnExactCallFunction'. -/
def fnExactCallFunctionCard : Claim7 := { stood := { row := fnExactCallFunctionRow, standIns := [], harness := (true, "5379f90409b73cbcd698e45a392c99367384f2187b47c7374145dc7093996225"), looks := true }, kinds := [], alts := [], laidByText := true, laidKinds := [.data, .data, .data, .data, .pinned, .pinned], laidTests := true, laidLooks := .later }
def FnExactCallFunctionCardSaid : Prop := Claim7.holds Tryz.pinned (.plain (OpenSpec.ofChange fnExactCallFunctionSpec)) fnExactCallFunctionCard

/-- THE TIED CARD OF 'laws.FnCallFunction'. -/
def fnCallFunctionCard : Claim7 := { stood := { row := fnCallFunctionRow, standIns := [], harness := (true, "5379f90409b73cbcd698e45a392c99367384f2187b47c7374145dc7093996225"), looks := true }, kinds := [], alts := [], laidByText := true, laidKinds := [.data, .data, .data, .data, .pinned, .pinned], laidTests := true, laidLooks := .later }
def FnCallFunctionCardSaid : Prop := Claim7.holds Tryz.pinned (.plain (OpenSpec.ofChange fnCallFunctionSpec)) fnCallFunctionCard

/-- THE TIED CARD OF 'laws.FnReverseLength'. -/
def fnReverseLengthCard : Claim7 := { stood := { row := fnReverseLengthRow, standIns := [], harness := (true, "5379f90409b73cbcd698e45a392c99367384f2187b47c7374145dc7093996225"), looks := true }, kinds := [], alts := [], laidByText := true, laidKinds := [.data, .data, .data, .data, .pinned, .pinned], laidTests := true, laidLooks := .later }
def FnReverseLengthCardSaid : Prop := Claim7.holds Tryz.pinned (.plain (OpenSpec.ofChange fnReverseLengthSpec)) fnReverseLengthCard

/-- THE TIED CARD OF 'laws.FnCaseTwice'. -/
def fnCaseTwiceCard : Claim7 := { stood := { row := fnCaseTwiceRow, standIns := [], harness := (true, "5379f90409b73cbcd698e45a392c99367384f2187b47c7374145dc7093996225"), looks := true }, kinds := [], alts := [], laidByText := true, laidKinds := [.data, .data, .data, .data, .pinned, .pinned], laidTests := true, laidLooks := .later }
def FnCaseTwiceCardSaid : Prop := Claim7.holds Tryz.pinned (.plain (OpenSpec.ofChange fnCaseTwiceSpec)) fnCaseTwiceCard

/-- THE TIED CARD OF 'laws.FnExactListValue'. -/
def fnExactListValueCard : Claim7 := { stood := { row := fnExactListValueRow, standIns := [], harness := (true, "5379f90409b73cbcd698e45a392c99367384f2187b47c7374145dc7093996225"), looks := true }, kinds := [], alts := [], laidByText := true, laidKinds := [.data, .data, .data, .data, .pinned], laidTests := true, laidLooks := .later }
def FnExactListValueCardSaid : Prop := Claim7.holds Tryz.pinned (.plain (OpenSpec.ofChange fnExactListValueSpec)) fnExactListValueCard

/-- THE TIED CARD OF 'laws.FnListValue'. -/
def fnListValueCard : Claim7 := { stood := { row := fnListValueRow, standIns := [], harness := (true, "5379f90409b73cbcd698e45a392c99367384f2187b47c7374145dc7093996225"), looks := true }, kinds := [], alts := [], laidByText := true, laidKinds := [.data, .data, .data, .data, .pinned], laidTests := true, laidLooks := .later }
def FnListValueCardSaid : Prop := Claim7.holds Tryz.pinned (.plain (OpenSpec.ofChange fnListValueSpec)) fnListValueCard

/-- THE TIED CARD OF 'laws.FnValueText'. -/
def fnValueTextCard : Claim7 := { stood := { row := fnValueTextRow, standIns := [], harness := (true, "5379f90409b73cbcd698e45a392c99367384f2187b47c7374145dc7093996225"), looks := true }, kinds := [], alts := [], laidByText := true, laidKinds := [.data, .data, .data, .data, .pinned], laidTests := true, laidLooks := .later }
def FnValueTextCardSaid : Prop := Claim7.holds Tryz.pinned (.plain (OpenSpec.ofChange fnValueTextSpec)) fnValueTextCard

/-- THE TIED CARD OF 'laws.FnValueParts'. -/
def fnValuePartsCard : Claim7 := { stood := { row := fnValuePartsRow, standIns := [], harness := (true, "5379f90409b73cbcd698e45a392c99367384f2187b47c7374145dc7093996225"), looks := true }, kinds := [], alts := [], laidByText := true, laidKinds := [.data, .data, .data, .data, .pinned], laidTests := true, laidLooks := .later }
def FnValuePartsCardSaid : Prop := Claim7.holds Tryz.pinned (.plain (OpenSpec.ofChange fnValuePartsSpec)) fnValuePartsCard

/-- THE SECOND FORM's CARD OF 'laws.FnExactCallFunction'. -/
def fnExactCallFunctionUptoCard : Claim7 := { stood := { row := fnExactCallFunctionUptoRow, standIns := [], harness := (true, "5379f90409b73cbcd698e45a392c99367384f2187b47c7374145dc7093996225"), looks := true }, kinds := [], alts := [], laidByText := true, laidKinds := [.data, .data, .data, .data, .pinned, .pinned], laidTests := true, laidLooks := .later }
def FnExactCallFunctionUptoCardSaid : Prop := Claim7.holds Tryz.pinned (.plain (OpenSpec.upto fnExactCallFunctionSpec)) fnExactCallFunctionUptoCard

/-- THE SECOND FORM's CARD OF 'laws.FnCallFunction'. -/
def fnCallFunctionUptoCard : Claim7 := { stood := { row := fnCallFunctionUptoRow, standIns := [], harness := (true, "5379f90409b73cbcd698e45a392c99367384f2187b47c7374145dc7093996225"), looks := true }, kinds := [], alts := [], laidByText := true, laidKinds := [.data, .data, .data, .data, .pinned, .pinned], laidTests := true, laidLooks := .later }
def FnCallFunctionUptoCardSaid : Prop := Claim7.holds Tryz.pinned (.plain (OpenSpec.upto fnCallFunctionSpec)) fnCallFunctionUptoCard

/-- THE SECOND FORM's CARD OF 'laws.FnReverseLength'. -/
def fnReverseLengthUptoCard : Claim7 := { stood := { row := fnReverseLengthUptoRow, standIns := [], harness := (true, "5379f90409b73cbcd698e45a392c99367384f2187b47c7374145dc7093996225"), looks := true }, kinds := [], alts := [], laidByText := true, laidKinds := [.data, .data, .data, .data, .pinned, .pinned], laidTests := true, laidLooks := .later }
def FnReverseLengthUptoCardSaid : Prop := Claim7.holds Tryz.pinned (.plain (OpenSpec.upto fnReverseLengthSpec)) fnReverseLengthUptoCard

/-- THE SECOND FORM's CARD OF 'laws.FnCaseTwice'. -/
def fnCaseTwiceUptoCard : Claim7 := { stood := { row := fnCaseTwiceUptoRow, standIns := [], harness := (true, "5379f90409b73cbcd698e45a392c99367384f2187b47c7374145dc7093996225"), looks := true }, kinds := [], alts := [], laidByText := true, laidKinds := [.data, .data, .data, .data, .pinned, .pinned], laidTests := true, laidLooks := .later }
def FnCaseTwiceUptoCardSaid : Prop := Claim7.holds Tryz.pinned (.plain (OpenSpec.upto fnCaseTwiceSpec)) fnCaseTwiceUptoCard

/-- THE SECOND FORM's CARD OF 'laws.FnExactListValue'. -/
def fnExactListValueUptoCard : Claim7 := { stood := { row := fnExactListValueUptoRow, standIns := [], harness := (true, "5379f90409b73cbcd698e45a392c99367384f2187b47c7374145dc7093996225"), looks := true }, kinds := [], alts := [], laidByText := true, laidKinds := [.data, .data, .data, .data, .pinned], laidTests := true, laidLooks := .later }
def FnExactListValueUptoCardSaid : Prop := Claim7.holds Tryz.pinned (.plain (OpenSpec.upto fnExactListValueSpec)) fnExactListValueUptoCard

/-- THE SECOND FORM's CARD OF 'laws.FnListValue'. -/
def fnListValueUptoCard : Claim7 := { stood := { row := fnListValueUptoRow, standIns := [], harness := (true, "5379f90409b73cbcd698e45a392c99367384f2187b47c7374145dc7093996225"), looks := true }, kinds := [], alts := [], laidByText := true, laidKinds := [.data, .data, .data, .data, .pinned], laidTests := true, laidLooks := .later }
def FnListValueUptoCardSaid : Prop := Claim7.holds Tryz.pinned (.plain (OpenSpec.upto fnListValueSpec)) fnListValueUptoCard

/-- THE SECOND FORM's CARD OF 'laws.FnValueText'. -/
def fnValueTextUptoCard : Claim7 := { stood := { row := fnValueTextUptoRow, standIns := [], harness := (true, "5379f90409b73cbcd698e45a392c99367384f2187b47c7374145dc7093996225"), looks := true }, kinds := [], alts := [], laidByText := true, laidKinds := [.data, .data, .data, .data, .pinned], laidTests := true, laidLooks := .later }
def FnValueTextUptoCardSaid : Prop := Claim7.holds Tryz.pinned (.plain (OpenSpec.upto fnValueTextSpec)) fnValueTextUptoCard

/-- THE SECOND FORM's CARD OF 'laws.FnValueParts'. -/
def fnValuePartsUptoCard : Claim7 := { stood := { row := fnValuePartsUptoRow, standIns := [], harness := (true, "5379f90409b73cbcd698e45a392c99367384f2187b47c7374145dc7093996225"), looks := true }, kinds := [], alts := [], laidByText := true, laidKinds := [.data, .data, .data, .data, .pinned], laidTests := true, laidLooks := .later }
def FnValuePartsUptoCardSaid : Prop := Claim7.holds Tryz.pinned (.plain (OpenSpec.upto fnValuePartsSpec)) fnValuePartsUptoCard
end Rows
end Go.Proofs.YtipmkbahlfkfoaaGreatDoor
