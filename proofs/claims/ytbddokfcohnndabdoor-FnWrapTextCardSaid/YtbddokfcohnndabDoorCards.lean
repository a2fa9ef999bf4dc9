/-
  DERIVED. GIVEN WITH THE SEED: THE CARDS: each row of YtbddokfcohnndabDoorRows.lean that lists a variable, with what it lists TIED to the program's text (the seventh form; the later family's looks); each row that meets fmt, with fmt's text TOLD by the authors' own Lean function (tested against real Go, not proved from fmt's source: count such statements apart). THE CARD IS WHAT COUNTS. Prove the row's statement (the work); the ties are given (YtbddokfcohnndabDoorTie.lean); close each card by the builder's one call (the guide's Derived/Test/ToyasCard.lean, 'card_holds'). Laid BY PROGRAM, IN A SANDBOX (cutbox-door.mjs). By AI agents, Wed Nov 11 2026. No macro, syntax, notation, axiom, sorry.
-/
import Derived.Test.YtbddokfcohnndabDoorRows
import GoSem.ClaimSeven
namespace Go.Proofs.YtbddokfcohnndabDoor
namespace Rows

/-- THE TIED CARD OF 'laws.FnExactWrapText'. -/
def fnExactWrapTextCard : Claim7 := { stood := { row := fnExactWrapTextRow, standIns := [], harness := (true, "b38c6804bdc3b410948456c93eeb8dc884bfad4ff73fb2055d2d4c1915671258"), looks := false }, kinds := [], alts := [], laidByText := true, laidKinds := [.listed, .data], laidTests := true, laidLooks := .later }
def FnExactWrapTextCardSaid : Prop := Claim7.holds Tryd.pinned (.plain (OpenSpec.ofChange fnExactWrapTextSpec)) fnExactWrapTextCard

/-- THE TIED CARD OF 'laws.FnWrapText'. -/
def fnWrapTextCard : Claim7 := { stood := { row := fnWrapTextRow, standIns := [], harness := (true, "b38c6804bdc3b410948456c93eeb8dc884bfad4ff73fb2055d2d4c1915671258"), looks := false }, kinds := [], alts := [], laidByText := true, laidKinds := [.listed, .data], laidTests := true, laidLooks := .later }
def FnWrapTextCardSaid : Prop := Claim7.holds Tryd.pinned (.plain (OpenSpec.ofChange fnWrapTextSpec)) fnWrapTextCard

/-- THE SECOND FORM's CARD OF 'laws.FnExactWrapText'. -/
def fnExactWrapTextUptoCard : Claim7 := { stood := { row := fnExactWrapTextUptoRow, standIns := [], harness := (true, "b38c6804bdc3b410948456c93eeb8dc884bfad4ff73fb2055d2d4c1915671258"), looks := false }, kinds := [], alts := [], laidByText := true, laidKinds := [.listed, .data], laidTests := true, laidLooks := .later }
def FnExactWrapTextUptoCardSaid : Prop := Claim7.holds Tryd.pinned (.plain (OpenSpec.upto fnExactWrapTextSpec)) fnExactWrapTextUptoCard

/-- THE SECOND FORM's CARD OF 'laws.FnWrapText'. -/
def fnWrapTextUptoCard : Claim7 := { stood := { row := fnWrapTextUptoRow, standIns := [], harness := (true, "b38c6804bdc3b410948456c93eeb8dc884bfad4ff73fb2055d2d4c1915671258"), looks := false }, kinds := [], alts := [], laidByText := true, laidKinds := [.listed, .data], laidTests := true, laidLooks := .later }
def FnWrapTextUptoCardSaid : Prop := Claim7.holds Tryd.pinned (.plain (OpenSpec.upto fnWrapTextSpec)) fnWrapTextUptoCard
end Rows
end Go.Proofs.YtbddokfcohnndabDoor
