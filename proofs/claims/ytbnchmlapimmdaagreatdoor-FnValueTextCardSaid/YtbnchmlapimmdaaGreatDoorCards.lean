/-
  DERIVED. GIVEN WITH THE SEED: THE CARDS: each row of YtbnchmlapimmdaaGreatDoorRows.lean that lists a variable, with what it lists TIED to the program's text (the seventh form; the later family's looks); each row that meets fmt, with fmt's text TOLD by the authors' own Lean function (tested against real Go, not proved from fmt's source: count such statements apart). THE CARD IS WHAT COUNTS. Prove the row's statement (the work); the ties are given (YtbnchmlapimmdaaGreatDoorTie.lean); close each card by the builder's one call (the guide's Derived/Test/ToyasCard.lean, 'card_holds'). Laid BY PROGRAM, IN A SANDBOX (cutbox-door.mjs). By AI agents, Wed Nov 11 2026. No macro, syntax, notation, axiom, sorry.
-/
import Derived.Test.YtbnchmlapimmdaaGreatDoorRows
import GoSem.ClaimSeven
namespace Go.Proofs.YtbnchmlapimmdaaGreatDoor
namespace Rows

/-- THE TIED CARD OF 'laws.FnValueValid'. -/
def fnValueValidCard : Claim7 := { stood := { row := fnValueValidRow, standIns := [], harness := (true, "d3a0ccc5407785c20dd90a99cce25e895ce3fcfcef276824da66f738e5e310b6"), looks := true }, kinds := [], alts := [], laidByText := true, laidKinds := [.data, .data, .data, .data, .pinned], laidTests := true, laidLooks := .later }
def FnValueValidCardSaid : Prop := Claim7.holds Tryz.pinned (.plain (OpenSpec.ofChange fnValueValidSpec)) fnValueValidCard

/-- THE TIED CARD OF 'laws.FnValueText'. -/
def fnValueTextCard : Claim7 := { stood := { row := fnValueTextRow, standIns := [], harness := (true, "d3a0ccc5407785c20dd90a99cce25e895ce3fcfcef276824da66f738e5e310b6"), looks := true }, kinds := [], alts := [], laidByText := true, laidKinds := [.data, .data, .data, .data, .pinned], laidTests := true, laidLooks := .later }
def FnValueTextCardSaid : Prop := Claim7.holds Tryz.pinned (.plain (OpenSpec.ofChange fnValueTextSpec)) fnValueTextCard

/-- THE TIED CARD OF 'laws.FnValueParts'. -/
def fnValuePartsCard : Claim7 := { stood := { row := fnValuePartsRow, standIns := [], harness := (true, "d3a0ccc5407785c20dd90a99cce25e895ce3fcfcef276824da66f738e5e310b6"), looks := true }, kinds := [], alts := [], laidByText := true, laidKinds := [.data, .data, .data, .data, .pinned], laidTests := true, laidLooks := .later }
def FnValuePartsCardSaid : Prop := Claim7.holds Tryz.pinned (.plain (OpenSpec.ofChange fnValuePartsSpec)) fnValuePartsCard

/-- THE TIED CARD OF 'laws.FnListValue'. -/
def fnListValueCard : Claim7 := { stood := { row := fnListValueRow, standIns := [], harness := (true, "d3a0ccc5407785c20dd90a99cce25e895ce3fcfcef276824da66f738e5e310b6"), looks := true }, kinds := [], alts := [], laidByText := true, laidKinds := [.data, .data, .data, .data, .pinned], laidTests := true, laidLooks := .later }
def FnListValueCardSaid : Prop := Claim7.holds Tryz.pinned (.plain (OpenSpec.ofChange fnListValueSpec)) fnListValueCard

/-- THE TIED CARD OF 'laws.FnListText'. -/
def fnListTextCard : Claim7 := { stood := { row := fnListTextRow, standIns := [], harness := (true, "d3a0ccc5407785c20dd90a99cce25e895ce3fcfcef276824da66f738e5e310b6"), looks := true }, kinds := [], alts := [], laidByText := true, laidKinds := [.data, .data, .data, .data, .pinned], laidTests := true, laidLooks := .later }
def FnListTextCardSaid : Prop := Claim7.holds Tryz.pinned (.plain (OpenSpec.ofChange fnListTextSpec)) fnListTextCard

/-- THE TIED CARD OF 'laws.FnExactValueText'. -/
def fnExactValueTextCard : Claim7 := { stood := { row := fnExactValueTextRow, standIns := [], harness := (true, "d3a0ccc5407785c20dd90a99cce25e895ce3fcfcef276824da66f738e5e310b6"), looks := true }, kinds := [], alts := [], laidByText := true, laidKinds := [.data, .data, .data, .data, .pinned], laidTests := true, laidLooks := .later }
def FnExactValueTextCardSaid : Prop := Claim7.holds Tryz.pinned (.plain (OpenSpec.ofChange fnExactValueTextSpec)) fnExactValueTextCard

/-- THE TIED CARD OF 'laws.FnExactValueParts'. -/
def fnExactValuePartsCard : Claim7 := { stood := { row := fnExactValuePartsRow, standIns := [], harness := (true, "d3a0ccc5407785c20dd90a99cce25e895ce3fcfcef276824da66f738e5e310b6"), looks := true }, kinds := [], alts := [], laidByText := true, laidKinds := [.data, .data, .data, .data, .pinned], laidTests := true, laidLooks := .later }
def FnExactValuePartsCardSaid : Prop := Claim7.holds Tryz.pinned (.plain (OpenSpec.ofChange fnExactValuePartsSpec)) fnExactValuePartsCard

/-- THE TIED CARD OF 'laws.FnExactListValue'. -/
def fnExactListValueCard : Claim7 := { stood := { row := fnExactListValueRow, standIns := [], harness := (true, "d3a0ccc5407785c20dd90a99cce25e895ce3fcfcef276824da66f738e5e310b6"), looks := true }, kinds := [], alts := [], laidByText := true, laidKinds := [.data, .data, .data, .data, .pinned], laidTests := true, laidLooks := .later }
def FnExactListValueCardSaid : Prop := Claim7.holds Tryz.pinned (.plain (OpenSpec.ofChange fnExactListValueSpec)) fnExactListValueCard

/-- THE TIED CARD OF 'laws.FnExactExprDepth'. -/
def fnExactExprDepthCard : Claim7 := { stood := { row := fnExactExprDepthRow, standIns := [], harness := (true, "d3a0ccc5407785c20dd90a99cce25e895ce3fcfcef276824da66f738e5e310b6"), looks := true }, kinds := [], alts := [], laidByText := true, laidKinds := [.data, .data, .data, .data, .pinned], laidTests := true, laidLooks := .later }
def FnExactExprDepthCardSaid : Prop := Claim7.holds Tryz.pinned (.plain (OpenSpec.ofChange fnExactExprDepthSpec)) fnExactExprDepthCard

/-- THE TIED CARD OF 'laws.FnExactExprEnd'. -/
def fnExactExprEndCard : Claim7 := { stood := { row := fnExactExprEndRow, standIns := [], harness := (true, "d3a0ccc5407785c20dd90a99cce25e895ce3fcfcef276824da66f738e5e310b6"), looks := true }, kinds := [], alts := [], laidByText := true, laidKinds := [.data, .data, .data, .data, .pinned], laidTests := true, laidLooks := .later }
def FnExactExprEndCardSaid : Prop := Claim7.holds Tryz.pinned (.plain (OpenSpec.ofChange fnExactExprEndSpec)) fnExactExprEndCard

/-- THE SECOND FORM's CARD OF 'laws.FnValueValid'. -/
def fnValueValidUptoCard : Claim7 := { stood := { row := fnValueValidUptoRow, standIns := [], harness := (true, "d3a0ccc5407785c20dd90a99cce25e895ce3fcfcef276824da66f738e5e310b6"), looks := true }, kinds := [], alts := [], laidByText := true, laidKinds := [.data, .data, .data, .data, .pinned], laidTests := true, laidLooks := .later }
def FnValueValidUptoCardSaid : Prop := Claim7.holds Tryz.pinned (.plain (OpenSpec.upto fnValueValidSpec)) fnValueValidUptoCard

/-- THE SECOND FORM's CARD OF 'laws.FnValueText'. -/
def fnValueTextUptoCard : Claim7 := { stood := { row := fnValueTextUptoRow, standIns := [], harness := (true, "d3a0ccc5407785c20dd90a99cce25e895ce3fcfcef276824da66f738e5e310b6"), looks := true }, kinds := [], alts := [], laidByText := true, laidKinds := [.data, .data, .data, .data, .pinned], laidTests := true, laidLooks := .later }
def FnValueTextUptoCardSaid : Prop := Claim7.holds Tryz.pinned (.plain (OpenSpec.upto fnValueTextSpec)) fnValueTextUptoCard

/-- THE SECOND FORM's CARD OF 'laws.FnValueParts'. -/
def fnValuePartsUptoCard : Claim7 := { stood := { row := fnValuePartsUptoRow, standIns := [], harness := (true, "d3a0ccc5407785c20dd90a99cce25e895ce3fcfcef276824da66f738e5e310b6"), looks := true }, kinds := [], alts := [], laidByText := true, laidKinds := [.data, .data, .data, .data, .pinned], laidTests := true, laidLooks := .later }
def FnValuePartsUptoCardSaid : Prop := Claim7.holds Tryz.pinned (.plain (OpenSpec.upto fnValuePartsSpec)) fnValuePartsUptoCard

/-- THE SECOND FORM's CARD OF 'laws.FnListValue'. -/
def fnListValueUptoCard : Claim7 := { stood := { row := fnListValueUptoRow, standIns := [], harness := (true, "d3a0ccc5407785c20dd90a99cce25e895ce3fcfcef276824da66f738e5e310b6"), looks := true }, kinds := [], alts := [], laidByText := true, laidKinds := [.data, .data, .data, .data, .pinned], laidTests := true, laidLooks := .later }
def FnListValueUptoCardSaid : Prop := Claim7.holds Tryz.pinned (.plain (OpenSpec.upto fnListValueSpec)) fnListValueUptoCard

/-- THE SECOND FORM's CARD OF 'laws.FnListText'. -/
def fnListTextUptoCard : Claim7 := { stood := { row := fnListTextUptoRow, standIns := [], harness := (true, "d3a0ccc5407785c20dd90a99cce25e895ce3fcfcef276824da66f738e5e310b6"), looks := true }, kinds := [], alts := [], laidByText := true, laidKinds := [.data, .data, .data, .data, .pinned], laidTests := true, laidLooks := .later }
def FnListTextUptoCardSaid : Prop := Claim7.holds Tryz.pinned (.plain (OpenSpec.upto fnListTextSpec)) fnListTextUptoCard

/-- THE SECOND FORM's CARD OF 'laws.FnExactValueText'. -/
def fnExactValueTextUptoCard : Claim7 := { stood := { row := fnExactValueTextUptoRow, standIns := [], harness := (true, "d3a0ccc5407785c20dd90a99cce25e895ce3fcfcef276824da66f738e5e310b6"), looks := true }, kinds := [], alts := [], laidByText := true, laidKinds := [.data, .data, .data, .data, .pinned], laidTests := true, laidLooks := .later }
def FnExactValueTextUptoCardSaid : Prop := Claim7.holds Tryz.pinned (.plain (OpenSpec.upto fnExactValueTextSpec)) fnExactValueTextUptoCard

/-- THE SECOND FORM's CARD OF 'laws.FnExactValueParts'. -/
def fnExactValuePartsUptoCard : Claim7 := { stood := { row := fnExactValuePartsUptoRow, standIns := [], harness := (true, "d3a0ccc5407785c20dd90a99cce25e895ce3fcfcef276824da66f738e5e310b6"), looks := true }, kinds := [], alts := [], laidByText := true, laidKinds := [.data, .data, .data, .data, .pinned], laidTests := true, laidLooks := .later }
def FnExactValuePartsUptoCardSaid : Prop := Claim7.holds Tryz.pinned (.plain (OpenSpec.upto fnExactValuePartsSpec)) fnExactValuePartsUptoCard

/-- THE SECOND FORM's CARD OF 'laws.FnExactListValue'. -/
def fnExactListValueUptoCard : Claim7 := { stood := { row := fnExactListValueUptoRow, standIns := [], harness := (true, "d3a0ccc5407785c20dd90a99cce25e895ce3fcfcef276824da66f738e5e310b6"), looks := true }, kinds := [], alts := [], laidByText := true, laidKinds := [.data, .data, .data, .data, .pinned], laidTests := true, laidLooks := .later }
def FnExactListValueUptoCardSaid : Prop := Claim7.holds Tryz.pinned (.plain (OpenSpec.upto fnExactListValueSpec)) fnExactListValueUptoCard

/-- THE SECOND FORM's CARD OF 'laws.FnExactExprDepth'. -/
def fnExactExprDepthUptoCard : Claim7 := { stood := { row := fnExactExprDepthUptoRow, standIns := [], harness := (true, "d3a0ccc5407785c20dd90a99cce25e895ce3fcfcef276824da66f738e5e310b6"), looks := true }, kinds := [], alts := [], laidByText := true, laidKinds := [.data, .data, .data, .data, .pinned], laidTests := true, laidLooks := .later }
def FnExactExprDepthUptoCardSaid : Prop := Claim7.holds Tryz.pinned (.plain (OpenSpec.upto fnExactExprDepthSpec)) fnExactExprDepthUptoCard

/-- THE SECOND FORM's CARD OF 'laws.FnExactExprEnd'. -/
def fnExactExprEndUptoCard : Claim7 := { stood := { row := fnExactExprEndUptoRow, standIns := [], harness := (true, "d3a0ccc5407785c20dd90a99cce25e895ce3fcfcef276824da66f738e5e310b6"), looks := true }, kinds := [], alts := [], laidByText := true, laidKinds := [.data, .data, .data, .data, .pinned], laidTests := true, laidLooks := .later }
def FnExactExprEndUptoCardSaid : Prop := Claim7.holds Tryz.pinned (.plain (OpenSpec.upto fnExactExprEndSpec)) fnExactExprEndUptoCard
end Rows
end Go.Proofs.YtbnchmlapimmdaaGreatDoor
