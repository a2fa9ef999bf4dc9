/-
  DERIVED. GIVEN WITH THE SEED: THE CARDS: each row of YtkeinhhpikfjcaaDoorRows.lean that lists a variable, with what it lists TIED to the program's text (the seventh form; the later family's looks); each row that meets fmt, with fmt's text TOLD by the authors' own Lean function (tested against real Go, not proved from fmt's source: count such statements apart). THE CARD IS WHAT COUNTS. Prove the row's statement (the work); the ties are given (YtkeinhhpikfjcaaDoorTie.lean); close each card by the builder's one call (the guide's Derived/Test/ToyasCard.lean, 'card_holds'). Laid BY PROGRAM, IN A SANDBOX (cutbox-door.mjs). By AI agents, Wed Nov 11 2026. No macro, syntax, notation, axiom, sorry.
-/
import Derived.Test.YtkeinhhpikfjcaaDoorRows
import GoSem.ClaimSeven
namespace Go.Proofs.YtkeinhhpikfjcaaDoor
namespace Rows

/-- THE TIED CARD OF 'laws.FnCellValid'. -/
def fnCellValidCard : Claim7 := { stood := { row := fnCellValidRow, standIns := [], harness := (true, "f1cb8237c1a4aaf28c337ede9cd8c9005db9a54afbb69000f314fa37d9ae8cc4"), looks := false }, kinds := [], alts := [], laidByText := true, laidKinds := [.data, .data, .data, .data, .pinned], laidTests := true, laidLooks := .later }
def FnCellValidCardSaid : Prop := Claim7.holds Tryd.pinned (.plain (OpenSpec.ofChange fnCellValidSpec)) fnCellValidCard

/-- THE TIED CARD OF 'laws.FnExactCellValid'. -/
def fnExactCellValidCard : Claim7 := { stood := { row := fnExactCellValidRow, standIns := [], harness := (true, "f1cb8237c1a4aaf28c337ede9cd8c9005db9a54afbb69000f314fa37d9ae8cc4"), looks := false }, kinds := [], alts := [], laidByText := true, laidKinds := [.data, .data, .data, .data, .pinned], laidTests := true, laidLooks := .later }
def FnExactCellValidCardSaid : Prop := Claim7.holds Tryd.pinned (.plain (OpenSpec.ofChange fnExactCellValidSpec)) fnExactCellValidCard

/-- THE SECOND FORM's CARD OF 'laws.FnCellValid'. -/
def fnCellValidUptoCard : Claim7 := { stood := { row := fnCellValidUptoRow, standIns := [], harness := (true, "f1cb8237c1a4aaf28c337ede9cd8c9005db9a54afbb69000f314fa37d9ae8cc4"), looks := false }, kinds := [], alts := [], laidByText := true, laidKinds := [.data, .data, .data, .data, .pinned], laidTests := true, laidLooks := .later }
def FnCellValidUptoCardSaid : Prop := Claim7.holds Tryd.pinned (.plain (OpenSpec.upto fnCellValidSpec)) fnCellValidUptoCard

/-- THE SECOND FORM's CARD OF 'laws.FnExactCellValid'. -/
def fnExactCellValidUptoCard : Claim7 := { stood := { row := fnExactCellValidUptoRow, standIns := [], harness := (true, "f1cb8237c1a4aaf28c337ede9cd8c9005db9a54afbb69000f314fa37d9ae8cc4"), looks := false }, kinds := [], alts := [], laidByText := true, laidKinds := [.data, .data, .data, .data, .pinned], laidTests := true, laidLooks := .later }
def FnExactCellValidUptoCardSaid : Prop := Claim7.holds Tryd.pinned (.plain (OpenSpec.upto fnExactCellValidSpec)) fnExactCellValidUptoCard
end Rows
end Go.Proofs.YtkeinhhpikfjcaaDoor
