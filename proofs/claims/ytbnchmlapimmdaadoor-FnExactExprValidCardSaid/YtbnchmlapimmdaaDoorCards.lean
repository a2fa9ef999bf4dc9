/-
  DERIVED. GIVEN WITH THE SEED: THE CARDS: each row of YtbnchmlapimmdaaDoorRows.lean that lists a variable, with what it lists TIED to the program's text (the seventh form; the later family's looks); each row that meets fmt, with fmt's text TOLD by the authors' own Lean function (tested against real Go, not proved from fmt's source: count such statements apart). THE CARD IS WHAT COUNTS. Prove the row's statement (the work); the ties are given (YtbnchmlapimmdaaDoorTie.lean); close each card by the builder's one call (the guide's Derived/Test/ToyasCard.lean, 'card_holds'). Laid BY PROGRAM, IN A SANDBOX (cutbox-door.mjs). By AI agents, Wed Nov 11 2026. No macro, syntax, notation, axiom, sorry.
-/
import Derived.Test.YtbnchmlapimmdaaDoorRows
import GoSem.ClaimSeven
namespace Go.Proofs.YtbnchmlapimmdaaDoor
namespace Rows

/-- THE TIED CARD OF 'laws.FnExactValueValid'. -/
def fnExactValueValidCard : Claim7 := { stood := { row := fnExactValueValidRow, standIns := [], harness := (true, "9f5a7dd0178fa7f944a62a82fb76a95ecbb97ec44ba72a92cd8487aaf115cb3c"), looks := false }, kinds := [], alts := [], laidByText := true, laidKinds := [.data, .data, .data, .data, .pinned], laidTests := true, laidLooks := .later }
def FnExactValueValidCardSaid : Prop := Claim7.holds Tryd.pinned (.plain (OpenSpec.ofChange fnExactValueValidSpec)) fnExactValueValidCard

/-- THE TIED CARD OF 'laws.FnExactExprValid'. -/
def fnExactExprValidCard : Claim7 := { stood := { row := fnExactExprValidRow, standIns := [], harness := (true, "9f5a7dd0178fa7f944a62a82fb76a95ecbb97ec44ba72a92cd8487aaf115cb3c"), looks := false }, kinds := [], alts := [], laidByText := true, laidKinds := [.data, .data, .data, .data, .pinned], laidTests := true, laidLooks := .later }
def FnExactExprValidCardSaid : Prop := Claim7.holds Tryd.pinned (.plain (OpenSpec.ofChange fnExactExprValidSpec)) fnExactExprValidCard

/-- THE SECOND FORM's CARD OF 'laws.FnExactValueValid'. -/
def fnExactValueValidUptoCard : Claim7 := { stood := { row := fnExactValueValidUptoRow, standIns := [], harness := (true, "9f5a7dd0178fa7f944a62a82fb76a95ecbb97ec44ba72a92cd8487aaf115cb3c"), looks := false }, kinds := [], alts := [], laidByText := true, laidKinds := [.data, .data, .data, .data, .pinned], laidTests := true, laidLooks := .later }
def FnExactValueValidUptoCardSaid : Prop := Claim7.holds Tryd.pinned (.plain (OpenSpec.upto fnExactValueValidSpec)) fnExactValueValidUptoCard

/-- THE SECOND FORM's CARD OF 'laws.FnExactExprValid'. -/
def fnExactExprValidUptoCard : Claim7 := { stood := { row := fnExactExprValidUptoRow, standIns := [], harness := (true, "9f5a7dd0178fa7f944a62a82fb76a95ecbb97ec44ba72a92cd8487aaf115cb3c"), looks := false }, kinds := [], alts := [], laidByText := true, laidKinds := [.data, .data, .data, .data, .pinned], laidTests := true, laidLooks := .later }
def FnExactExprValidUptoCardSaid : Prop := Claim7.holds Tryd.pinned (.plain (OpenSpec.upto fnExactExprValidSpec)) fnExactExprValidUptoCard
end Rows
end Go.Proofs.YtbnchmlapimmdaaDoor
