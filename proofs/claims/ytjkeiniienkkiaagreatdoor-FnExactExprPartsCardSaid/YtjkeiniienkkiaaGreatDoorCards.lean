/-
  DERIVED. GIVEN WITH THE SEED: THE CARDS: each row of YtjkeiniienkkiaaGreatDoorRows.lean that lists a variable, with what it lists TIED to the program's text (the seventh form; the later family's looks); each row that meets fmt, with fmt's text TOLD by the authors' own Lean function (tested against real Go, not proved from fmt's source: count such statements apart). THE CARD IS WHAT COUNTS. Prove the row's statement (the work); the ties are given (YtjkeiniienkkiaaGreatDoorTie.lean); close each card by the builder's one call (the guide's Derived/Test/ToyasCard.lean, 'card_holds'). Laid BY PROGRAM, IN A SANDBOX (cutbox-door.mjs). By AI agents, Wed Nov 11 2026. No macro, syntax, notation, axiom, sorry.
-/
import Derived.Test.YtjkeiniienkkiaaGreatDoorRows
import GoSem.ClaimSeven
namespace Go.Proofs.YtjkeiniienkkiaaGreatDoor
namespace Rows

/-- THE TIED CARD OF 'laws.FnExprValid'. -/
def fnExprValidCard : Claim7 := { stood := { row := fnExprValidRow, standIns := [], harness := (true, "6ebce0c56c7ba5f61fc3b1c0ade5cb21b1959cd974b8bf7a2d8689e40ea0f353"), looks := false }, kinds := [], alts := [], laidByText := true, laidKinds := [.data, .data, .data, .data, .pinned], laidTests := true, laidLooks := .later }
def FnExprValidCardSaid : Prop := Claim7.holds Tryz.pinned (.plain (OpenSpec.ofChange fnExprValidSpec)) fnExprValidCard

/-- THE TIED CARD OF 'laws.FnExactExprEnd'. -/
def fnExactExprEndCard : Claim7 := { stood := { row := fnExactExprEndRow, standIns := [], harness := (true, "6ebce0c56c7ba5f61fc3b1c0ade5cb21b1959cd974b8bf7a2d8689e40ea0f353"), looks := false }, kinds := [], alts := [], laidByText := true, laidKinds := [.data, .data, .data, .data, .pinned], laidTests := true, laidLooks := .later }
def FnExactExprEndCardSaid : Prop := Claim7.holds Tryz.pinned (.plain (OpenSpec.ofChange fnExactExprEndSpec)) fnExactExprEndCard

/-- THE TIED CARD OF 'laws.FnExprEnd'. -/
def fnExprEndCard : Claim7 := { stood := { row := fnExprEndRow, standIns := [], harness := (true, "6ebce0c56c7ba5f61fc3b1c0ade5cb21b1959cd974b8bf7a2d8689e40ea0f353"), looks := false }, kinds := [], alts := [], laidByText := true, laidKinds := [.data, .data, .data, .data, .pinned], laidTests := true, laidLooks := .later }
def FnExprEndCardSaid : Prop := Claim7.holds Tryz.pinned (.plain (OpenSpec.ofChange fnExprEndSpec)) fnExprEndCard

/-- THE TIED CARD OF 'laws.FnExactExprParts'. -/
def fnExactExprPartsCard : Claim7 := { stood := { row := fnExactExprPartsRow, standIns := [], harness := (true, "6ebce0c56c7ba5f61fc3b1c0ade5cb21b1959cd974b8bf7a2d8689e40ea0f353"), looks := false }, kinds := [], alts := [], laidByText := true, laidKinds := [.data, .data, .data, .data, .pinned], laidTests := true, laidLooks := .later }
def FnExactExprPartsCardSaid : Prop := Claim7.holds Tryz.pinned (.plain (OpenSpec.ofChange fnExactExprPartsSpec)) fnExactExprPartsCard

/-- THE TIED CARD OF 'laws.FnExprParts'. -/
def fnExprPartsCard : Claim7 := { stood := { row := fnExprPartsRow, standIns := [], harness := (true, "6ebce0c56c7ba5f61fc3b1c0ade5cb21b1959cd974b8bf7a2d8689e40ea0f353"), looks := false }, kinds := [], alts := [], laidByText := true, laidKinds := [.data, .data, .data, .data, .pinned], laidTests := true, laidLooks := .later }
def FnExprPartsCardSaid : Prop := Claim7.holds Tryz.pinned (.plain (OpenSpec.ofChange fnExprPartsSpec)) fnExprPartsCard

/-- THE TIED CARD OF 'laws.FnExactExprDepth'. -/
def fnExactExprDepthCard : Claim7 := { stood := { row := fnExactExprDepthRow, standIns := [], harness := (true, "6ebce0c56c7ba5f61fc3b1c0ade5cb21b1959cd974b8bf7a2d8689e40ea0f353"), looks := false }, kinds := [], alts := [], laidByText := true, laidKinds := [.data, .data, .data, .data, .pinned], laidTests := true, laidLooks := .later }
def FnExactExprDepthCardSaid : Prop := Claim7.holds Tryz.pinned (.plain (OpenSpec.ofChange fnExactExprDepthSpec)) fnExactExprDepthCard

/-- THE TIED CARD OF 'laws.FnExprDepth'. -/
def fnExprDepthCard : Claim7 := { stood := { row := fnExprDepthRow, standIns := [], harness := (true, "6ebce0c56c7ba5f61fc3b1c0ade5cb21b1959cd974b8bf7a2d8689e40ea0f353"), looks := false }, kinds := [], alts := [], laidByText := true, laidKinds := [.data, .data, .data, .data, .pinned], laidTests := true, laidLooks := .later }
def FnExprDepthCardSaid : Prop := Claim7.holds Tryz.pinned (.plain (OpenSpec.ofChange fnExprDepthSpec)) fnExprDepthCard

/-- THE SECOND FORM's CARD OF 'laws.FnExprValid'. -/
def fnExprValidUptoCard : Claim7 := { stood := { row := fnExprValidUptoRow, standIns := [], harness := (true, "6ebce0c56c7ba5f61fc3b1c0ade5cb21b1959cd974b8bf7a2d8689e40ea0f353"), looks := false }, kinds := [], alts := [], laidByText := true, laidKinds := [.data, .data, .data, .data, .pinned], laidTests := true, laidLooks := .later }
def FnExprValidUptoCardSaid : Prop := Claim7.holds Tryz.pinned (.plain (OpenSpec.upto fnExprValidSpec)) fnExprValidUptoCard

/-- THE SECOND FORM's CARD OF 'laws.FnExactExprEnd'. -/
def fnExactExprEndUptoCard : Claim7 := { stood := { row := fnExactExprEndUptoRow, standIns := [], harness := (true, "6ebce0c56c7ba5f61fc3b1c0ade5cb21b1959cd974b8bf7a2d8689e40ea0f353"), looks := false }, kinds := [], alts := [], laidByText := true, laidKinds := [.data, .data, .data, .data, .pinned], laidTests := true, laidLooks := .later }
def FnExactExprEndUptoCardSaid : Prop := Claim7.holds Tryz.pinned (.plain (OpenSpec.upto fnExactExprEndSpec)) fnExactExprEndUptoCard

/-- THE SECOND FORM's CARD OF 'laws.FnExprEnd'. -/
def fnExprEndUptoCard : Claim7 := { stood := { row := fnExprEndUptoRow, standIns := [], harness := (true, "6ebce0c56c7ba5f61fc3b1c0ade5cb21b1959cd974b8bf7a2d8689e40ea0f353"), looks := false }, kinds := [], alts := [], laidByText := true, laidKinds := [.data, .data, .data, .data, .pinned], laidTests := true, laidLooks := .later }
def FnExprEndUptoCardSaid : Prop := Claim7.holds Tryz.pinned (.plain (OpenSpec.upto fnExprEndSpec)) fnExprEndUptoCard

/-- THE SECOND FORM's CARD OF 'laws.FnExactExprParts'. -/
def fnExactExprPartsUptoCard : Claim7 := { stood := { row := fnExactExprPartsUptoRow, standIns := [], harness := (true, "6ebce0c56c7ba5f61fc3b1c0ade5cb21b1959cd974b8bf7a2d8689e40ea0f353"), looks := false }, kinds := [], alts := [], laidByText := true, laidKinds := [.data, .data, .data, .data, .pinned], laidTests := true, laidLooks := .later }
def FnExactExprPartsUptoCardSaid : Prop := Claim7.holds Tryz.pinned (.plain (OpenSpec.upto fnExactExprPartsSpec)) fnExactExprPartsUptoCard

/-- THE SECOND FORM's CARD OF 'laws.FnExprParts'. -/
def fnExprPartsUptoCard : Claim7 := { stood := { row := fnExprPartsUptoRow, standIns := [], harness := (true, "6ebce0c56c7ba5f61fc3b1c0ade5cb21b1959cd974b8bf7a2d8689e40ea0f353"), looks := false }, kinds := [], alts := [], laidByText := true, laidKinds := [.data, .data, .data, .data, .pinned], laidTests := true, laidLooks := .later }
def FnExprPartsUptoCardSaid : Prop := Claim7.holds Tryz.pinned (.plain (OpenSpec.upto fnExprPartsSpec)) fnExprPartsUptoCard

/-- THE SECOND FORM's CARD OF 'laws.FnExactExprDepth'. -/
def fnExactExprDepthUptoCard : Claim7 := { stood := { row := fnExactExprDepthUptoRow, standIns := [], harness := (true, "6ebce0c56c7ba5f61fc3b1c0ade5cb21b1959cd974b8bf7a2d8689e40ea0f353"), looks := false }, kinds := [], alts := [], laidByText := true, laidKinds := [.data, .data, .data, .data, .pinned], laidTests := true, laidLooks := .later }
def FnExactExprDepthUptoCardSaid : Prop := Claim7.holds Tryz.pinned (.plain (OpenSpec.upto fnExactExprDepthSpec)) fnExactExprDepthUptoCard

/-- THE SECOND FORM's CARD OF 'laws.FnExprDepth'. -/
def fnExprDepthUptoCard : Claim7 := { stood := { row := fnExprDepthUptoRow, standIns := [], harness := (true, "6ebce0c56c7ba5f61fc3b1c0ade5cb21b1959cd974b8bf7a2d8689e40ea0f353"), looks := false }, kinds := [], alts := [], laidByText := true, laidKinds := [.data, .data, .data, .data, .pinned], laidTests := true, laidLooks := .later }
def FnExprDepthUptoCardSaid : Prop := Claim7.holds Tryz.pinned (.plain (OpenSpec.upto fnExprDepthSpec)) fnExprDepthUptoCard
end Rows
end Go.Proofs.YtjkeiniienkkiaaGreatDoor
