/-
  DERIVED. GIVEN WITH THE SEED: THE CARDS: each row of YtiolpmpbjdclnaaGreatDoorRows.lean that lists a variable, with what it lists TIED to the program's text (the seventh form; the later family's looks); each row that meets fmt, with fmt's text TOLD by the authors' own Lean function (tested against real Go, not proved from fmt's source: count such statements apart). THE CARD IS WHAT COUNTS. Prove the row's statement (the work); the ties are given (YtiolpmpbjdclnaaGreatDoorTie.lean); close each card by the builder's one call (the guide's Derived/Test/ToyasCard.lean, 'card_holds'). Laid BY PROGRAM, IN A SANDBOX (cutbox-door.mjs). By AI agents, Wed Nov 11 2026. No macro, syntax, notation, axiom, sorry.
-/
import Derived.Test.YtiolpmpbjdclnaaGreatDoorRows
import GoSem.ClaimSeven
namespace Go.Proofs.YtiolpmpbjdclnaaGreatDoor
namespace Rows

/-- THE TIED CARD OF 'laws.FnExprValid'. -/
def fnExprValidCard : Claim7 := { stood := { row := fnExprValidRow, standIns := [], harness := (true, "f869930338f15cadd1dca487d75176844c310d5795c4354a65f2d1a99b164acb"), looks := false }, kinds := [], alts := [], laidByText := true, laidKinds := [.data, .data, .data, .data, .pinned], laidTests := true, laidLooks := .later }
def FnExprValidCardSaid : Prop := Claim7.holds Tryz.pinned (.plain (OpenSpec.ofChange fnExprValidSpec)) fnExprValidCard

/-- THE TIED CARD OF 'laws.FnExprEnd'. -/
def fnExprEndCard : Claim7 := { stood := { row := fnExprEndRow, standIns := [], harness := (true, "f869930338f15cadd1dca487d75176844c310d5795c4354a65f2d1a99b164acb"), looks := false }, kinds := [], alts := [], laidByText := true, laidKinds := [.data, .data, .data, .data, .pinned], laidTests := true, laidLooks := .later }
def FnExprEndCardSaid : Prop := Claim7.holds Tryz.pinned (.plain (OpenSpec.ofChange fnExprEndSpec)) fnExprEndCard

/-- THE TIED CARD OF 'laws.FnExprParts'. -/
def fnExprPartsCard : Claim7 := { stood := { row := fnExprPartsRow, standIns := [], harness := (true, "f869930338f15cadd1dca487d75176844c310d5795c4354a65f2d1a99b164acb"), looks := false }, kinds := [], alts := [], laidByText := true, laidKinds := [.data, .data, .data, .data, .pinned], laidTests := true, laidLooks := .later }
def FnExprPartsCardSaid : Prop := Claim7.holds Tryz.pinned (.plain (OpenSpec.ofChange fnExprPartsSpec)) fnExprPartsCard

/-- THE TIED CARD OF 'laws.FnExprDepth'. -/
def fnExprDepthCard : Claim7 := { stood := { row := fnExprDepthRow, standIns := [], harness := (true, "f869930338f15cadd1dca487d75176844c310d5795c4354a65f2d1a99b164acb"), looks := false }, kinds := [], alts := [], laidByText := true, laidKinds := [.data, .data, .data, .data, .pinned], laidTests := true, laidLooks := .later }
def FnExprDepthCardSaid : Prop := Claim7.holds Tryz.pinned (.plain (OpenSpec.ofChange fnExprDepthSpec)) fnExprDepthCard

/-- THE TIED CARD OF 'laws.FnExactExprParts'. -/
def fnExactExprPartsCard : Claim7 := { stood := { row := fnExactExprPartsRow, standIns := [], harness := (true, "f869930338f15cadd1dca487d75176844c310d5795c4354a65f2d1a99b164acb"), looks := false }, kinds := [], alts := [], laidByText := true, laidKinds := [.data, .data, .data, .data, .pinned], laidTests := true, laidLooks := .later }
def FnExactExprPartsCardSaid : Prop := Claim7.holds Tryz.pinned (.plain (OpenSpec.ofChange fnExactExprPartsSpec)) fnExactExprPartsCard

/-- THE TIED CARD OF 'laws.FnExactExprText'. -/
def fnExactExprTextCard : Claim7 := { stood := { row := fnExactExprTextRow, standIns := [], harness := (true, "f869930338f15cadd1dca487d75176844c310d5795c4354a65f2d1a99b164acb"), looks := false }, kinds := [], alts := [], laidByText := true, laidKinds := [.data, .data, .data, .data, .pinned], laidTests := true, laidLooks := .later }
def FnExactExprTextCardSaid : Prop := Claim7.holds Tryz.pinned (.plain (OpenSpec.ofChange fnExactExprTextSpec)) fnExactExprTextCard

/-- THE TIED CARD OF 'laws.FnExprText'. -/
def fnExprTextCard : Claim7 := { stood := { row := fnExprTextRow, standIns := [], harness := (true, "f869930338f15cadd1dca487d75176844c310d5795c4354a65f2d1a99b164acb"), looks := false }, kinds := [], alts := [], laidByText := true, laidKinds := [.data, .data, .data, .data, .pinned], laidTests := true, laidLooks := .later }
def FnExprTextCardSaid : Prop := Claim7.holds Tryz.pinned (.plain (OpenSpec.ofChange fnExprTextSpec)) fnExprTextCard

/-- THE SECOND FORM's CARD OF 'laws.FnExprValid'. -/
def fnExprValidUptoCard : Claim7 := { stood := { row := fnExprValidUptoRow, standIns := [], harness := (true, "f869930338f15cadd1dca487d75176844c310d5795c4354a65f2d1a99b164acb"), looks := false }, kinds := [], alts := [], laidByText := true, laidKinds := [.data, .data, .data, .data, .pinned], laidTests := true, laidLooks := .later }
def FnExprValidUptoCardSaid : Prop := Claim7.holds Tryz.pinned (.plain (OpenSpec.upto fnExprValidSpec)) fnExprValidUptoCard

/-- THE SECOND FORM's CARD OF 'laws.FnExprEnd'. -/
def fnExprEndUptoCard : Claim7 := { stood := { row := fnExprEndUptoRow, standIns := [], harness := (true, "f869930338f15cadd1dca487d75176844c310d5795c4354a65f2d1a99b164acb"), looks := false }, kinds := [], alts := [], laidByText := true, laidKinds := [.data, .data, .data, .data, .pinned], laidTests := true, laidLooks := .later }
def FnExprEndUptoCardSaid : Prop := Claim7.holds Tryz.pinned (.plain (OpenSpec.upto fnExprEndSpec)) fnExprEndUptoCard

/-- THE SECOND FORM's CARD OF 'laws.FnExprParts'. -/
def fnExprPartsUptoCard : Claim7 := { stood := { row := fnExprPartsUptoRow, standIns := [], harness := (true, "f869930338f15cadd1dca487d75176844c310d5795c4354a65f2d1a99b164acb"), looks := false }, kinds := [], alts := [], laidByText := true, laidKinds := [.data, .data, .data, .data, .pinned], laidTests := true, laidLooks := .later }
def FnExprPartsUptoCardSaid : Prop := Claim7.holds Tryz.pinned (.plain (OpenSpec.upto fnExprPartsSpec)) fnExprPartsUptoCard

/-- THE SECOND FORM's CARD OF 'laws.FnExprDepth'. -/
def fnExprDepthUptoCard : Claim7 := { stood := { row := fnExprDepthUptoRow, standIns := [], harness := (true, "f869930338f15cadd1dca487d75176844c310d5795c4354a65f2d1a99b164acb"), looks := false }, kinds := [], alts := [], laidByText := true, laidKinds := [.data, .data, .data, .data, .pinned], laidTests := true, laidLooks := .later }
def FnExprDepthUptoCardSaid : Prop := Claim7.holds Tryz.pinned (.plain (OpenSpec.upto fnExprDepthSpec)) fnExprDepthUptoCard

/-- THE SECOND FORM's CARD OF 'laws.FnExactExprParts'. -/
def fnExactExprPartsUptoCard : Claim7 := { stood := { row := fnExactExprPartsUptoRow, standIns := [], harness := (true, "f869930338f15cadd1dca487d75176844c310d5795c4354a65f2d1a99b164acb"), looks := false }, kinds := [], alts := [], laidByText := true, laidKinds := [.data, .data, .data, .data, .pinned], laidTests := true, laidLooks := .later }
def FnExactExprPartsUptoCardSaid : Prop := Claim7.holds Tryz.pinned (.plain (OpenSpec.upto fnExactExprPartsSpec)) fnExactExprPartsUptoCard

/-- THE SECOND FORM's CARD OF 'laws.FnExactExprText'. -/
def fnExactExprTextUptoCard : Claim7 := { stood := { row := fnExactExprTextUptoRow, standIns := [], harness := (true, "f869930338f15cadd1dca487d75176844c310d5795c4354a65f2d1a99b164acb"), looks := false }, kinds := [], alts := [], laidByText := true, laidKinds := [.data, .data, .data, .data, .pinned], laidTests := true, laidLooks := .later }
def FnExactExprTextUptoCardSaid : Prop := Claim7.holds Tryz.pinned (.plain (OpenSpec.upto fnExactExprTextSpec)) fnExactExprTextUptoCard

/-- THE SECOND FORM's CARD OF 'laws.FnExprText'. -/
def fnExprTextUptoCard : Claim7 := { stood := { row := fnExprTextUptoRow, standIns := [], harness := (true, "f869930338f15cadd1dca487d75176844c310d5795c4354a65f2d1a99b164acb"), looks := false }, kinds := [], alts := [], laidByText := true, laidKinds := [.data, .data, .data, .data, .pinned], laidTests := true, laidLooks := .later }
def FnExprTextUptoCardSaid : Prop := Claim7.holds Tryz.pinned (.plain (OpenSpec.upto fnExprTextSpec)) fnExprTextUptoCard
end Rows
end Go.Proofs.YtiolpmpbjdclnaaGreatDoor
