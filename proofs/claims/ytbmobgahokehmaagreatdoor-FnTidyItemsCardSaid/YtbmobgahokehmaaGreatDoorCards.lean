/-
  DERIVED. GIVEN WITH THE SEED: THE CARDS: each row of YtbmobgahokehmaaGreatDoorRows.lean that lists a variable, with what it lists TIED to the program's text (the seventh form; the later family's looks); each row that meets fmt, with fmt's text TOLD by the authors' own Lean function (tested against real Go, not proved from fmt's source: count such statements apart). THE CARD IS WHAT COUNTS. Prove the row's statement (the work); the ties are given (YtbmobgahokehmaaGreatDoorTie.lean); close each card by the builder's one call (the guide's Derived/Test/ToyasCard.lean, 'card_holds'). Laid BY PROGRAM, IN A SANDBOX (cutbox-door.mjs). By AI agents, Wed Nov 11 2026. No macro, syntax, notation, axiom, sorry.
-/
import Derived.Test.YtbmobgahokehmaaGreatDoorRows
import GoSem.ClaimSeven
namespace Go.Proofs.YtbmobgahokehmaaGreatDoor
namespace Rows

/-- THE TIED CARD OF 'laws.FnItemValid'. -/
def fnItemValidCard : Claim7 := { stood := { row := fnItemValidRow, standIns := [], harness := (true, "3c46938230eb403ffdfdf388a8b2593fe5ac44945a3e63bfff0cf265f049f5cf"), looks := false }, kinds := [], alts := [], laidByText := true, laidKinds := [.data, .data, .data, .data, .pinned], laidTests := true, laidLooks := .later }
def FnItemValidCardSaid : Prop := Claim7.holds Tryz.pinned (.plain (OpenSpec.ofChange fnItemValidSpec)) fnItemValidCard

/-- THE TIED CARD OF 'laws.FnDocumentValid'. -/
def fnDocumentValidCard : Claim7 := { stood := { row := fnDocumentValidRow, standIns := [], harness := (true, "3c46938230eb403ffdfdf388a8b2593fe5ac44945a3e63bfff0cf265f049f5cf"), looks := false }, kinds := [], alts := [], laidByText := true, laidKinds := [.data, .data, .data, .data, .pinned], laidTests := true, laidLooks := .later }
def FnDocumentValidCardSaid : Prop := Claim7.holds Tryz.pinned (.plain (OpenSpec.ofChange fnDocumentValidSpec)) fnDocumentValidCard

/-- THE TIED CARD OF 'laws.FnDepthsOf'. -/
def fnDepthsOfCard : Claim7 := { stood := { row := fnDepthsOfRow, standIns := [], harness := (true, "3c46938230eb403ffdfdf388a8b2593fe5ac44945a3e63bfff0cf265f049f5cf"), looks := false }, kinds := [], alts := [], laidByText := true, laidKinds := [.data, .data, .data, .data, .pinned], laidTests := true, laidLooks := .later }
def FnDepthsOfCardSaid : Prop := Claim7.holds Tryz.pinned (.plain (OpenSpec.ofChange fnDepthsOfSpec)) fnDepthsOfCard

/-- THE TIED CARD OF 'laws.FnTidyItems'. -/
def fnTidyItemsCard : Claim7 := { stood := { row := fnTidyItemsRow, standIns := [], harness := (true, "3c46938230eb403ffdfdf388a8b2593fe5ac44945a3e63bfff0cf265f049f5cf"), looks := false }, kinds := [], alts := [], laidByText := true, laidKinds := [.data, .data, .data, .data, .pinned], laidTests := true, laidLooks := .later }
def FnTidyItemsCardSaid : Prop := Claim7.holds Tryz.pinned (.plain (OpenSpec.ofChange fnTidyItemsSpec)) fnTidyItemsCard

/-- THE TIED CARD OF 'laws.FnExactItemValid'. -/
def fnExactItemValidCard : Claim7 := { stood := { row := fnExactItemValidRow, standIns := [], harness := (true, "3c46938230eb403ffdfdf388a8b2593fe5ac44945a3e63bfff0cf265f049f5cf"), looks := false }, kinds := [], alts := [], laidByText := true, laidKinds := [.data, .data, .data, .data, .pinned], laidTests := true, laidLooks := .later }
def FnExactItemValidCardSaid : Prop := Claim7.holds Tryz.pinned (.plain (OpenSpec.ofChange fnExactItemValidSpec)) fnExactItemValidCard

/-- THE TIED CARD OF 'laws.FnExactDocumentValid'. -/
def fnExactDocumentValidCard : Claim7 := { stood := { row := fnExactDocumentValidRow, standIns := [], harness := (true, "3c46938230eb403ffdfdf388a8b2593fe5ac44945a3e63bfff0cf265f049f5cf"), looks := false }, kinds := [], alts := [], laidByText := true, laidKinds := [.data, .data, .data, .data, .pinned], laidTests := true, laidLooks := .later }
def FnExactDocumentValidCardSaid : Prop := Claim7.holds Tryz.pinned (.plain (OpenSpec.ofChange fnExactDocumentValidSpec)) fnExactDocumentValidCard

/-- THE TIED CARD OF 'laws.FnExactDepthsOf'. -/
def fnExactDepthsOfCard : Claim7 := { stood := { row := fnExactDepthsOfRow, standIns := [], harness := (true, "3c46938230eb403ffdfdf388a8b2593fe5ac44945a3e63bfff0cf265f049f5cf"), looks := false }, kinds := [], alts := [], laidByText := true, laidKinds := [.data, .data, .data, .data, .pinned], laidTests := true, laidLooks := .later }
def FnExactDepthsOfCardSaid : Prop := Claim7.holds Tryz.pinned (.plain (OpenSpec.ofChange fnExactDepthsOfSpec)) fnExactDepthsOfCard

/-- THE TIED CARD OF 'laws.FnExactTidyItems'. -/
def fnExactTidyItemsCard : Claim7 := { stood := { row := fnExactTidyItemsRow, standIns := [], harness := (true, "3c46938230eb403ffdfdf388a8b2593fe5ac44945a3e63bfff0cf265f049f5cf"), looks := false }, kinds := [], alts := [], laidByText := true, laidKinds := [.data, .data, .data, .data, .pinned], laidTests := true, laidLooks := .later }
def FnExactTidyItemsCardSaid : Prop := Claim7.holds Tryz.pinned (.plain (OpenSpec.ofChange fnExactTidyItemsSpec)) fnExactTidyItemsCard

/-- THE SECOND FORM's CARD OF 'laws.FnItemValid'. -/
def fnItemValidUptoCard : Claim7 := { stood := { row := fnItemValidUptoRow, standIns := [], harness := (true, "3c46938230eb403ffdfdf388a8b2593fe5ac44945a3e63bfff0cf265f049f5cf"), looks := false }, kinds := [], alts := [], laidByText := true, laidKinds := [.data, .data, .data, .data, .pinned], laidTests := true, laidLooks := .later }
def FnItemValidUptoCardSaid : Prop := Claim7.holds Tryz.pinned (.plain (OpenSpec.upto fnItemValidSpec)) fnItemValidUptoCard

/-- THE SECOND FORM's CARD OF 'laws.FnDocumentValid'. -/
def fnDocumentValidUptoCard : Claim7 := { stood := { row := fnDocumentValidUptoRow, standIns := [], harness := (true, "3c46938230eb403ffdfdf388a8b2593fe5ac44945a3e63bfff0cf265f049f5cf"), looks := false }, kinds := [], alts := [], laidByText := true, laidKinds := [.data, .data, .data, .data, .pinned], laidTests := true, laidLooks := .later }
def FnDocumentValidUptoCardSaid : Prop := Claim7.holds Tryz.pinned (.plain (OpenSpec.upto fnDocumentValidSpec)) fnDocumentValidUptoCard

/-- THE SECOND FORM's CARD OF 'laws.FnDepthsOf'. -/
def fnDepthsOfUptoCard : Claim7 := { stood := { row := fnDepthsOfUptoRow, standIns := [], harness := (true, "3c46938230eb403ffdfdf388a8b2593fe5ac44945a3e63bfff0cf265f049f5cf"), looks := false }, kinds := [], alts := [], laidByText := true, laidKinds := [.data, .data, .data, .data, .pinned], laidTests := true, laidLooks := .later }
def FnDepthsOfUptoCardSaid : Prop := Claim7.holds Tryz.pinned (.plain (OpenSpec.upto fnDepthsOfSpec)) fnDepthsOfUptoCard

/-- THE SECOND FORM's CARD OF 'laws.FnTidyItems'. -/
def fnTidyItemsUptoCard : Claim7 := { stood := { row := fnTidyItemsUptoRow, standIns := [], harness := (true, "3c46938230eb403ffdfdf388a8b2593fe5ac44945a3e63bfff0cf265f049f5cf"), looks := false }, kinds := [], alts := [], laidByText := true, laidKinds := [.data, .data, .data, .data, .pinned], laidTests := true, laidLooks := .later }
def FnTidyItemsUptoCardSaid : Prop := Claim7.holds Tryz.pinned (.plain (OpenSpec.upto fnTidyItemsSpec)) fnTidyItemsUptoCard

/-- THE SECOND FORM's CARD OF 'laws.FnExactItemValid'. -/
def fnExactItemValidUptoCard : Claim7 := { stood := { row := fnExactItemValidUptoRow, standIns := [], harness := (true, "3c46938230eb403ffdfdf388a8b2593fe5ac44945a3e63bfff0cf265f049f5cf"), looks := false }, kinds := [], alts := [], laidByText := true, laidKinds := [.data, .data, .data, .data, .pinned], laidTests := true, laidLooks := .later }
def FnExactItemValidUptoCardSaid : Prop := Claim7.holds Tryz.pinned (.plain (OpenSpec.upto fnExactItemValidSpec)) fnExactItemValidUptoCard

/-- THE SECOND FORM's CARD OF 'laws.FnExactDocumentValid'. -/
def fnExactDocumentValidUptoCard : Claim7 := { stood := { row := fnExactDocumentValidUptoRow, standIns := [], harness := (true, "3c46938230eb403ffdfdf388a8b2593fe5ac44945a3e63bfff0cf265f049f5cf"), looks := false }, kinds := [], alts := [], laidByText := true, laidKinds := [.data, .data, .data, .data, .pinned], laidTests := true, laidLooks := .later }
def FnExactDocumentValidUptoCardSaid : Prop := Claim7.holds Tryz.pinned (.plain (OpenSpec.upto fnExactDocumentValidSpec)) fnExactDocumentValidUptoCard

/-- THE SECOND FORM's CARD OF 'laws.FnExactDepthsOf'. -/
def fnExactDepthsOfUptoCard : Claim7 := { stood := { row := fnExactDepthsOfUptoRow, standIns := [], harness := (true, "3c46938230eb403ffdfdf388a8b2593fe5ac44945a3e63bfff0cf265f049f5cf"), looks := false }, kinds := [], alts := [], laidByText := true, laidKinds := [.data, .data, .data, .data, .pinned], laidTests := true, laidLooks := .later }
def FnExactDepthsOfUptoCardSaid : Prop := Claim7.holds Tryz.pinned (.plain (OpenSpec.upto fnExactDepthsOfSpec)) fnExactDepthsOfUptoCard

/-- THE SECOND FORM's CARD OF 'laws.FnExactTidyItems'. -/
def fnExactTidyItemsUptoCard : Claim7 := { stood := { row := fnExactTidyItemsUptoRow, standIns := [], harness := (true, "3c46938230eb403ffdfdf388a8b2593fe5ac44945a3e63bfff0cf265f049f5cf"), looks := false }, kinds := [], alts := [], laidByText := true, laidKinds := [.data, .data, .data, .data, .pinned], laidTests := true, laidLooks := .later }
def FnExactTidyItemsUptoCardSaid : Prop := Claim7.holds Tryz.pinned (.plain (OpenSpec.upto fnExactTidyItemsSpec)) fnExactTidyItemsUptoCard
end Rows
end Go.Proofs.YtbmobgahokehmaaGreatDoor
