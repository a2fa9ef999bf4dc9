/-
  DERIVED. GIVEN WITH THE SEED: THE CARDS: each row of YtegdjjjpoahamaaGreatDoorRows.lean that lists a variable, with what it lists TIED to the program's text (the seventh form; the later family's looks); each row that meets fmt, with fmt's text TOLD by the authors' own Lean function (tested against real Go, not proved from fmt's source: count such statements apart). THE CARD IS WHAT COUNTS. Prove the row's statement (the work); the ties are given (YtegdjjjpoahamaaGreatDoorTie.lean); close each card by the builder's one call (the guide's Derived/Test/ToyasCard.lean, 'card_holds'). Laid BY PROGRAM, IN A SANDBOX (cutbox-door.mjs). By AI agents, Wed Nov 11 2026. No macro, syntax, notation, axiom, sorry.
-/
import Derived.Test.YtegdjjjpoahamaaGreatDoorRows
import GoSem.ClaimSeven
namespace Go.Proofs.YtegdjjjpoahamaaGreatDoor
namespace Rows

/-- THE TIED CARD OF 'laws.FnAlignWidths'. -/
def fnAlignWidthsCard : Claim7 := { stood := { row := fnAlignWidthsRow, standIns := [], harness := (true, "5cc9c52ee22e9ac5918e4c1ed170d1551340218f2b3366528059630553fcefb7"), looks := false }, kinds := [], alts := [], laidByText := true, laidKinds := [.data, .data, .data, .data, .pinned], laidTests := true, laidLooks := .later }
def FnAlignWidthsCardSaid : Prop := Claim7.holds Tryz.pinned (.plain (OpenSpec.ofChange fnAlignWidthsSpec)) fnAlignWidthsCard

/-- THE TIED CARD OF 'laws.FnAlignDocument'. -/
def fnAlignDocumentCard : Claim7 := { stood := { row := fnAlignDocumentRow, standIns := [], harness := (true, "5cc9c52ee22e9ac5918e4c1ed170d1551340218f2b3366528059630553fcefb7"), looks := false }, kinds := [], alts := [], laidByText := true, laidKinds := [.data, .data, .data, .data, .pinned], laidTests := true, laidLooks := .later }
def FnAlignDocumentCardSaid : Prop := Claim7.holds Tryz.pinned (.plain (OpenSpec.ofChange fnAlignDocumentSpec)) fnAlignDocumentCard

/-- THE TIED CARD OF 'laws.FnAlignColumns'. -/
def fnAlignColumnsCard : Claim7 := { stood := { row := fnAlignColumnsRow, standIns := [], harness := (true, "5cc9c52ee22e9ac5918e4c1ed170d1551340218f2b3366528059630553fcefb7"), looks := false }, kinds := [], alts := [], laidByText := true, laidKinds := [.data, .data, .data, .data, .pinned], laidTests := true, laidLooks := .later }
def FnAlignColumnsCardSaid : Prop := Claim7.holds Tryz.pinned (.plain (OpenSpec.ofChange fnAlignColumnsSpec)) fnAlignColumnsCard

/-- THE TIED CARD OF 'laws.FnAlignFormat'. -/
def fnAlignFormatCard : Claim7 := { stood := { row := fnAlignFormatRow, standIns := [], harness := (true, "5cc9c52ee22e9ac5918e4c1ed170d1551340218f2b3366528059630553fcefb7"), looks := false }, kinds := [], alts := [], laidByText := true, laidKinds := [.data, .data, .data, .data, .pinned], laidTests := true, laidLooks := .later }
def FnAlignFormatCardSaid : Prop := Claim7.holds Tryz.pinned (.plain (OpenSpec.ofChange fnAlignFormatSpec)) fnAlignFormatCard

/-- THE TIED CARD OF 'laws.FnExactAlignWidths'. -/
def fnExactAlignWidthsCard : Claim7 := { stood := { row := fnExactAlignWidthsRow, standIns := [], harness := (true, "5cc9c52ee22e9ac5918e4c1ed170d1551340218f2b3366528059630553fcefb7"), looks := false }, kinds := [], alts := [], laidByText := true, laidKinds := [.data, .data, .data, .data, .pinned], laidTests := true, laidLooks := .later }
def FnExactAlignWidthsCardSaid : Prop := Claim7.holds Tryz.pinned (.plain (OpenSpec.ofChange fnExactAlignWidthsSpec)) fnExactAlignWidthsCard

/-- THE TIED CARD OF 'laws.FnExactAlignDocument'. -/
def fnExactAlignDocumentCard : Claim7 := { stood := { row := fnExactAlignDocumentRow, standIns := [], harness := (true, "5cc9c52ee22e9ac5918e4c1ed170d1551340218f2b3366528059630553fcefb7"), looks := false }, kinds := [], alts := [], laidByText := true, laidKinds := [.data, .data, .data, .data, .pinned], laidTests := true, laidLooks := .later }
def FnExactAlignDocumentCardSaid : Prop := Claim7.holds Tryz.pinned (.plain (OpenSpec.ofChange fnExactAlignDocumentSpec)) fnExactAlignDocumentCard

/-- THE TIED CARD OF 'laws.FnExactAlignColumns'. -/
def fnExactAlignColumnsCard : Claim7 := { stood := { row := fnExactAlignColumnsRow, standIns := [], harness := (true, "5cc9c52ee22e9ac5918e4c1ed170d1551340218f2b3366528059630553fcefb7"), looks := false }, kinds := [], alts := [], laidByText := true, laidKinds := [.data, .data, .data, .data, .pinned], laidTests := true, laidLooks := .later }
def FnExactAlignColumnsCardSaid : Prop := Claim7.holds Tryz.pinned (.plain (OpenSpec.ofChange fnExactAlignColumnsSpec)) fnExactAlignColumnsCard

/-- THE TIED CARD OF 'laws.FnPrintDocument'. -/
def fnPrintDocumentCard : Claim7 := { stood := { row := fnPrintDocumentRow, standIns := [], harness := (true, "5cc9c52ee22e9ac5918e4c1ed170d1551340218f2b3366528059630553fcefb7"), looks := false }, kinds := [], alts := [], laidByText := true, laidKinds := [.data, .data, .data, .data, .pinned], laidTests := true, laidLooks := .later }
def FnPrintDocumentCardSaid : Prop := Claim7.holds Tryz.pinned (.plain (OpenSpec.ofChange fnPrintDocumentSpec)) fnPrintDocumentCard

/-- THE TIED CARD OF 'laws.FnExactPrintDocument'. -/
def fnExactPrintDocumentCard : Claim7 := { stood := { row := fnExactPrintDocumentRow, standIns := [], harness := (true, "5cc9c52ee22e9ac5918e4c1ed170d1551340218f2b3366528059630553fcefb7"), looks := false }, kinds := [], alts := [], laidByText := true, laidKinds := [.data, .data, .data, .data, .pinned], laidTests := true, laidLooks := .later }
def FnExactPrintDocumentCardSaid : Prop := Claim7.holds Tryz.pinned (.plain (OpenSpec.ofChange fnExactPrintDocumentSpec)) fnExactPrintDocumentCard

/-- THE TIED CARD OF 'laws.FnReadDocument'. -/
def fnReadDocumentCard : Claim7 := { stood := { row := fnReadDocumentRow, standIns := [], harness := (true, "5cc9c52ee22e9ac5918e4c1ed170d1551340218f2b3366528059630553fcefb7"), looks := false }, kinds := [], alts := [], laidByText := true, laidKinds := [.data, .data, .data, .data, .pinned], laidTests := true, laidLooks := .later }
def FnReadDocumentCardSaid : Prop := Claim7.holds Tryz.pinned (.plain (OpenSpec.ofChange fnReadDocumentSpec)) fnReadDocumentCard

/-- THE TIED CARD OF 'laws.FnFormatDocument'. -/
def fnFormatDocumentCard : Claim7 := { stood := { row := fnFormatDocumentRow, standIns := [], harness := (true, "5cc9c52ee22e9ac5918e4c1ed170d1551340218f2b3366528059630553fcefb7"), looks := false }, kinds := [], alts := [], laidByText := true, laidKinds := [.data, .data, .data, .data, .pinned], laidTests := true, laidLooks := .later }
def FnFormatDocumentCardSaid : Prop := Claim7.holds Tryz.pinned (.plain (OpenSpec.ofChange fnFormatDocumentSpec)) fnFormatDocumentCard

/-- THE SECOND FORM's CARD OF 'laws.FnAlignWidths'. -/
def fnAlignWidthsUptoCard : Claim7 := { stood := { row := fnAlignWidthsUptoRow, standIns := [], harness := (true, "5cc9c52ee22e9ac5918e4c1ed170d1551340218f2b3366528059630553fcefb7"), looks := false }, kinds := [], alts := [], laidByText := true, laidKinds := [.data, .data, .data, .data, .pinned], laidTests := true, laidLooks := .later }
def FnAlignWidthsUptoCardSaid : Prop := Claim7.holds Tryz.pinned (.plain (OpenSpec.upto fnAlignWidthsSpec)) fnAlignWidthsUptoCard

/-- THE SECOND FORM's CARD OF 'laws.FnAlignDocument'. -/
def fnAlignDocumentUptoCard : Claim7 := { stood := { row := fnAlignDocumentUptoRow, standIns := [], harness := (true, "5cc9c52ee22e9ac5918e4c1ed170d1551340218f2b3366528059630553fcefb7"), looks := false }, kinds := [], alts := [], laidByText := true, laidKinds := [.data, .data, .data, .data, .pinned], laidTests := true, laidLooks := .later }
def FnAlignDocumentUptoCardSaid : Prop := Claim7.holds Tryz.pinned (.plain (OpenSpec.upto fnAlignDocumentSpec)) fnAlignDocumentUptoCard

/-- THE SECOND FORM's CARD OF 'laws.FnAlignColumns'. -/
def fnAlignColumnsUptoCard : Claim7 := { stood := { row := fnAlignColumnsUptoRow, standIns := [], harness := (true, "5cc9c52ee22e9ac5918e4c1ed170d1551340218f2b3366528059630553fcefb7"), looks := false }, kinds := [], alts := [], laidByText := true, laidKinds := [.data, .data, .data, .data, .pinned], laidTests := true, laidLooks := .later }
def FnAlignColumnsUptoCardSaid : Prop := Claim7.holds Tryz.pinned (.plain (OpenSpec.upto fnAlignColumnsSpec)) fnAlignColumnsUptoCard

/-- THE SECOND FORM's CARD OF 'laws.FnAlignFormat'. -/
def fnAlignFormatUptoCard : Claim7 := { stood := { row := fnAlignFormatUptoRow, standIns := [], harness := (true, "5cc9c52ee22e9ac5918e4c1ed170d1551340218f2b3366528059630553fcefb7"), looks := false }, kinds := [], alts := [], laidByText := true, laidKinds := [.data, .data, .data, .data, .pinned], laidTests := true, laidLooks := .later }
def FnAlignFormatUptoCardSaid : Prop := Claim7.holds Tryz.pinned (.plain (OpenSpec.upto fnAlignFormatSpec)) fnAlignFormatUptoCard

/-- THE SECOND FORM's CARD OF 'laws.FnExactAlignWidths'. -/
def fnExactAlignWidthsUptoCard : Claim7 := { stood := { row := fnExactAlignWidthsUptoRow, standIns := [], harness := (true, "5cc9c52ee22e9ac5918e4c1ed170d1551340218f2b3366528059630553fcefb7"), looks := false }, kinds := [], alts := [], laidByText := true, laidKinds := [.data, .data, .data, .data, .pinned], laidTests := true, laidLooks := .later }
def FnExactAlignWidthsUptoCardSaid : Prop := Claim7.holds Tryz.pinned (.plain (OpenSpec.upto fnExactAlignWidthsSpec)) fnExactAlignWidthsUptoCard

/-- THE SECOND FORM's CARD OF 'laws.FnExactAlignDocument'. -/
def fnExactAlignDocumentUptoCard : Claim7 := { stood := { row := fnExactAlignDocumentUptoRow, standIns := [], harness := (true, "5cc9c52ee22e9ac5918e4c1ed170d1551340218f2b3366528059630553fcefb7"), looks := false }, kinds := [], alts := [], laidByText := true, laidKinds := [.data, .data, .data, .data, .pinned], laidTests := true, laidLooks := .later }
def FnExactAlignDocumentUptoCardSaid : Prop := Claim7.holds Tryz.pinned (.plain (OpenSpec.upto fnExactAlignDocumentSpec)) fnExactAlignDocumentUptoCard

/-- THE SECOND FORM's CARD OF 'laws.FnExactAlignColumns'. -/
def fnExactAlignColumnsUptoCard : Claim7 := { stood := { row := fnExactAlignColumnsUptoRow, standIns := [], harness := (true, "5cc9c52ee22e9ac5918e4c1ed170d1551340218f2b3366528059630553fcefb7"), looks := false }, kinds := [], alts := [], laidByText := true, laidKinds := [.data, .data, .data, .data, .pinned], laidTests := true, laidLooks := .later }
def FnExactAlignColumnsUptoCardSaid : Prop := Claim7.holds Tryz.pinned (.plain (OpenSpec.upto fnExactAlignColumnsSpec)) fnExactAlignColumnsUptoCard

/-- THE SECOND FORM's CARD OF 'laws.FnPrintDocument'. -/
def fnPrintDocumentUptoCard : Claim7 := { stood := { row := fnPrintDocumentUptoRow, standIns := [], harness := (true, "5cc9c52ee22e9ac5918e4c1ed170d1551340218f2b3366528059630553fcefb7"), looks := false }, kinds := [], alts := [], laidByText := true, laidKinds := [.data, .data, .data, .data, .pinned], laidTests := true, laidLooks := .later }
def FnPrintDocumentUptoCardSaid : Prop := Claim7.holds Tryz.pinned (.plain (OpenSpec.upto fnPrintDocumentSpec)) fnPrintDocumentUptoCard

/-- THE SECOND FORM's CARD OF 'laws.FnExactPrintDocument'. -/
def fnExactPrintDocumentUptoCard : Claim7 := { stood := { row := fnExactPrintDocumentUptoRow, standIns := [], harness := (true, "5cc9c52ee22e9ac5918e4c1ed170d1551340218f2b3366528059630553fcefb7"), looks := false }, kinds := [], alts := [], laidByText := true, laidKinds := [.data, .data, .data, .data, .pinned], laidTests := true, laidLooks := .later }
def FnExactPrintDocumentUptoCardSaid : Prop := Claim7.holds Tryz.pinned (.plain (OpenSpec.upto fnExactPrintDocumentSpec)) fnExactPrintDocumentUptoCard

/-- THE SECOND FORM's CARD OF 'laws.FnReadDocument'. -/
def fnReadDocumentUptoCard : Claim7 := { stood := { row := fnReadDocumentUptoRow, standIns := [], harness := (true, "5cc9c52ee22e9ac5918e4c1ed170d1551340218f2b3366528059630553fcefb7"), looks := false }, kinds := [], alts := [], laidByText := true, laidKinds := [.data, .data, .data, .data, .pinned], laidTests := true, laidLooks := .later }
def FnReadDocumentUptoCardSaid : Prop := Claim7.holds Tryz.pinned (.plain (OpenSpec.upto fnReadDocumentSpec)) fnReadDocumentUptoCard

/-- THE SECOND FORM's CARD OF 'laws.FnFormatDocument'. -/
def fnFormatDocumentUptoCard : Claim7 := { stood := { row := fnFormatDocumentUptoRow, standIns := [], harness := (true, "5cc9c52ee22e9ac5918e4c1ed170d1551340218f2b3366528059630553fcefb7"), looks := false }, kinds := [], alts := [], laidByText := true, laidKinds := [.data, .data, .data, .data, .pinned], laidTests := true, laidLooks := .later }
def FnFormatDocumentUptoCardSaid : Prop := Claim7.holds Tryz.pinned (.plain (OpenSpec.upto fnFormatDocumentSpec)) fnFormatDocumentUptoCard
end Rows
end Go.Proofs.YtegdjjjpoahamaaGreatDoor
