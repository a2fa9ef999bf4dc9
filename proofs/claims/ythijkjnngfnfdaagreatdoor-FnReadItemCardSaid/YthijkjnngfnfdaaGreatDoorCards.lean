/-
  DERIVED. GIVEN WITH THE SEED: THE CARDS: each row of YthijkjnngfnfdaaGreatDoorRows.lean that lists a variable, with what it lists TIED to the program's text (the seventh form; the later family's looks); each row that meets fmt, with fmt's text TOLD by the authors' own Lean function (tested against real Go, not proved from fmt's source: count such statements apart). THE CARD IS WHAT COUNTS. Prove the row's statement (the work); the ties are given (YthijkjnngfnfdaaGreatDoorTie.lean); close each card by the builder's one call (the guide's Derived/Test/ToyasCard.lean, 'card_holds'). Laid BY PROGRAM, IN A SANDBOX (cutbox-door.mjs). By AI agents, Wed Nov 11 2026. No macro, syntax, notation, axiom, sorry.
-/
import Derived.Test.YthijkjnngfnfdaaGreatDoorRows
import GoSem.ClaimSeven
namespace Go.Proofs.YthijkjnngfnfdaaGreatDoor
namespace Rows

/-- THE TIED CARD OF 'laws.FnItemLine'. -/
def fnItemLineCard : Claim7 := { stood := { row := fnItemLineRow, standIns := [], harness := (true, "893c0d95dc9f604085932581bbdde0bdffdf785f86aa10a477935159139795e7"), looks := false }, kinds := [], alts := [], laidByText := true, laidKinds := [.data, .data, .data, .data, .pinned], laidTests := true, laidLooks := .later }
def FnItemLineCardSaid : Prop := Claim7.holds Tryz.pinned (.plain (OpenSpec.ofChange fnItemLineSpec)) fnItemLineCard

/-- THE TIED CARD OF 'laws.FnReadItem'. -/
def fnReadItemCard : Claim7 := { stood := { row := fnReadItemRow, standIns := [], harness := (true, "893c0d95dc9f604085932581bbdde0bdffdf785f86aa10a477935159139795e7"), looks := false }, kinds := [], alts := [], laidByText := true, laidKinds := [.data, .data, .data, .data, .pinned], laidTests := true, laidLooks := .later }
def FnReadItemCardSaid : Prop := Claim7.holds Tryz.pinned (.plain (OpenSpec.ofChange fnReadItemSpec)) fnReadItemCard

/-- THE TIED CARD OF 'laws.FnPrintDocument'. -/
def fnPrintDocumentCard : Claim7 := { stood := { row := fnPrintDocumentRow, standIns := [], harness := (true, "893c0d95dc9f604085932581bbdde0bdffdf785f86aa10a477935159139795e7"), looks := false }, kinds := [], alts := [], laidByText := true, laidKinds := [.data, .data, .data, .data, .pinned], laidTests := true, laidLooks := .later }
def FnPrintDocumentCardSaid : Prop := Claim7.holds Tryz.pinned (.plain (OpenSpec.ofChange fnPrintDocumentSpec)) fnPrintDocumentCard

/-- THE TIED CARD OF 'laws.FnReadDocument'. -/
def fnReadDocumentCard : Claim7 := { stood := { row := fnReadDocumentRow, standIns := [], harness := (true, "893c0d95dc9f604085932581bbdde0bdffdf785f86aa10a477935159139795e7"), looks := false }, kinds := [], alts := [], laidByText := true, laidKinds := [.data, .data, .data, .data, .pinned], laidTests := true, laidLooks := .later }
def FnReadDocumentCardSaid : Prop := Claim7.holds Tryz.pinned (.plain (OpenSpec.ofChange fnReadDocumentSpec)) fnReadDocumentCard

/-- THE TIED CARD OF 'laws.FnFormatDocument'. -/
def fnFormatDocumentCard : Claim7 := { stood := { row := fnFormatDocumentRow, standIns := [], harness := (true, "893c0d95dc9f604085932581bbdde0bdffdf785f86aa10a477935159139795e7"), looks := false }, kinds := [], alts := [], laidByText := true, laidKinds := [.data, .data, .data, .data, .pinned], laidTests := true, laidLooks := .later }
def FnFormatDocumentCardSaid : Prop := Claim7.holds Tryz.pinned (.plain (OpenSpec.ofChange fnFormatDocumentSpec)) fnFormatDocumentCard

/-- THE TIED CARD OF 'laws.FnExactItemLine'. -/
def fnExactItemLineCard : Claim7 := { stood := { row := fnExactItemLineRow, standIns := [], harness := (true, "893c0d95dc9f604085932581bbdde0bdffdf785f86aa10a477935159139795e7"), looks := false }, kinds := [], alts := [], laidByText := true, laidKinds := [.data, .data, .data, .data, .pinned], laidTests := true, laidLooks := .later }
def FnExactItemLineCardSaid : Prop := Claim7.holds Tryz.pinned (.plain (OpenSpec.ofChange fnExactItemLineSpec)) fnExactItemLineCard

/-- THE TIED CARD OF 'laws.FnExactPrintDocument'. -/
def fnExactPrintDocumentCard : Claim7 := { stood := { row := fnExactPrintDocumentRow, standIns := [], harness := (true, "893c0d95dc9f604085932581bbdde0bdffdf785f86aa10a477935159139795e7"), looks := false }, kinds := [], alts := [], laidByText := true, laidKinds := [.data, .data, .data, .data, .pinned], laidTests := true, laidLooks := .later }
def FnExactPrintDocumentCardSaid : Prop := Claim7.holds Tryz.pinned (.plain (OpenSpec.ofChange fnExactPrintDocumentSpec)) fnExactPrintDocumentCard

/-- THE SECOND FORM's CARD OF 'laws.FnItemLine'. -/
def fnItemLineUptoCard : Claim7 := { stood := { row := fnItemLineUptoRow, standIns := [], harness := (true, "893c0d95dc9f604085932581bbdde0bdffdf785f86aa10a477935159139795e7"), looks := false }, kinds := [], alts := [], laidByText := true, laidKinds := [.data, .data, .data, .data, .pinned], laidTests := true, laidLooks := .later }
def FnItemLineUptoCardSaid : Prop := Claim7.holds Tryz.pinned (.plain (OpenSpec.upto fnItemLineSpec)) fnItemLineUptoCard

/-- THE SECOND FORM's CARD OF 'laws.FnReadItem'. -/
def fnReadItemUptoCard : Claim7 := { stood := { row := fnReadItemUptoRow, standIns := [], harness := (true, "893c0d95dc9f604085932581bbdde0bdffdf785f86aa10a477935159139795e7"), looks := false }, kinds := [], alts := [], laidByText := true, laidKinds := [.data, .data, .data, .data, .pinned], laidTests := true, laidLooks := .later }
def FnReadItemUptoCardSaid : Prop := Claim7.holds Tryz.pinned (.plain (OpenSpec.upto fnReadItemSpec)) fnReadItemUptoCard

/-- THE SECOND FORM's CARD OF 'laws.FnPrintDocument'. -/
def fnPrintDocumentUptoCard : Claim7 := { stood := { row := fnPrintDocumentUptoRow, standIns := [], harness := (true, "893c0d95dc9f604085932581bbdde0bdffdf785f86aa10a477935159139795e7"), looks := false }, kinds := [], alts := [], laidByText := true, laidKinds := [.data, .data, .data, .data, .pinned], laidTests := true, laidLooks := .later }
def FnPrintDocumentUptoCardSaid : Prop := Claim7.holds Tryz.pinned (.plain (OpenSpec.upto fnPrintDocumentSpec)) fnPrintDocumentUptoCard

/-- THE SECOND FORM's CARD OF 'laws.FnReadDocument'. -/
def fnReadDocumentUptoCard : Claim7 := { stood := { row := fnReadDocumentUptoRow, standIns := [], harness := (true, "893c0d95dc9f604085932581bbdde0bdffdf785f86aa10a477935159139795e7"), looks := false }, kinds := [], alts := [], laidByText := true, laidKinds := [.data, .data, .data, .data, .pinned], laidTests := true, laidLooks := .later }
def FnReadDocumentUptoCardSaid : Prop := Claim7.holds Tryz.pinned (.plain (OpenSpec.upto fnReadDocumentSpec)) fnReadDocumentUptoCard

/-- THE SECOND FORM's CARD OF 'laws.FnFormatDocument'. -/
def fnFormatDocumentUptoCard : Claim7 := { stood := { row := fnFormatDocumentUptoRow, standIns := [], harness := (true, "893c0d95dc9f604085932581bbdde0bdffdf785f86aa10a477935159139795e7"), looks := false }, kinds := [], alts := [], laidByText := true, laidKinds := [.data, .data, .data, .data, .pinned], laidTests := true, laidLooks := .later }
def FnFormatDocumentUptoCardSaid : Prop := Claim7.holds Tryz.pinned (.plain (OpenSpec.upto fnFormatDocumentSpec)) fnFormatDocumentUptoCard

/-- THE SECOND FORM's CARD OF 'laws.FnExactItemLine'. -/
def fnExactItemLineUptoCard : Claim7 := { stood := { row := fnExactItemLineUptoRow, standIns := [], harness := (true, "893c0d95dc9f604085932581bbdde0bdffdf785f86aa10a477935159139795e7"), looks := false }, kinds := [], alts := [], laidByText := true, laidKinds := [.data, .data, .data, .data, .pinned], laidTests := true, laidLooks := .later }
def FnExactItemLineUptoCardSaid : Prop := Claim7.holds Tryz.pinned (.plain (OpenSpec.upto fnExactItemLineSpec)) fnExactItemLineUptoCard

/-- THE SECOND FORM's CARD OF 'laws.FnExactPrintDocument'. -/
def fnExactPrintDocumentUptoCard : Claim7 := { stood := { row := fnExactPrintDocumentUptoRow, standIns := [], harness := (true, "893c0d95dc9f604085932581bbdde0bdffdf785f86aa10a477935159139795e7"), looks := false }, kinds := [], alts := [], laidByText := true, laidKinds := [.data, .data, .data, .data, .pinned], laidTests := true, laidLooks := .later }
def FnExactPrintDocumentUptoCardSaid : Prop := Claim7.holds Tryz.pinned (.plain (OpenSpec.upto fnExactPrintDocumentSpec)) fnExactPrintDocumentUptoCard
end Rows
end Go.Proofs.YthijkjnngfnfdaaGreatDoor
