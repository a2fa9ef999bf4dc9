/-
  DERIVED. GIVEN WITH THE SEED: THE CARDS: each row of YtncehcklppakcaaGreatDoorRows.lean that lists a variable, with what it lists TIED to the program's text (the seventh form; the later family's looks); each row that meets fmt, with fmt's text TOLD by the authors' own Lean function (tested against real Go, not proved from fmt's source: count such statements apart). THE CARD IS WHAT COUNTS. Prove the row's statement (the work); the ties are given (YtncehcklppakcaaGreatDoorTie.lean); close each card by the builder's one call (the guide's Derived/Test/ToyasCard.lean, 'card_holds'). Laid BY PROGRAM, IN A SANDBOX (cutbox-door.mjs). By AI agents, Wed Nov 11 2026. No macro, syntax, notation, axiom, sorry.
-/
import Derived.Test.YtncehcklppakcaaGreatDoorRows
import GoSem.ClaimSeven
namespace Go.Proofs.YtncehcklppakcaaGreatDoor
namespace Rows

/-- THE TIED CARD OF 'laws.FnExactExprText'. -/
def fnExactExprTextCard : Claim7 := { stood := { row := fnExactExprTextRow, standIns := [], harness := (true, "8e502f108b9d272e48417932fee4d873bffe8dd71cfe7568e6544d2f64060c39"), looks := false }, kinds := [], alts := [], laidByText := true, laidKinds := [.data, .data, .data, .data, .pinned], laidTests := true, laidLooks := .later }
def FnExactExprTextCardSaid : Prop := Claim7.holds Tryz.pinned (.plain (OpenSpec.ofChange fnExactExprTextSpec)) fnExactExprTextCard

/-- THE TIED CARD OF 'laws.FnExprText'. -/
def fnExprTextCard : Claim7 := { stood := { row := fnExprTextRow, standIns := [], harness := (true, "8e502f108b9d272e48417932fee4d873bffe8dd71cfe7568e6544d2f64060c39"), looks := false }, kinds := [], alts := [], laidByText := true, laidKinds := [.data, .data, .data, .data, .pinned], laidTests := true, laidLooks := .later }
def FnExprTextCardSaid : Prop := Claim7.holds Tryz.pinned (.plain (OpenSpec.ofChange fnExprTextSpec)) fnExprTextCard

/-- THE TIED CARD OF 'laws.FnReadExpr'. -/
def fnReadExprCard : Claim7 := { stood := { row := fnReadExprRow, standIns := [], harness := (true, "8e502f108b9d272e48417932fee4d873bffe8dd71cfe7568e6544d2f64060c39"), looks := false }, kinds := [], alts := [], laidByText := true, laidKinds := [.data, .data, .data, .data, .pinned], laidTests := true, laidLooks := .later }
def FnReadExprCardSaid : Prop := Claim7.holds Tryz.pinned (.plain (OpenSpec.ofChange fnReadExprSpec)) fnReadExprCard

/-- THE TIED CARD OF 'laws.FnExprSound'. -/
def fnExprSoundCard : Claim7 := { stood := { row := fnExprSoundRow, standIns := [], harness := (true, "8e502f108b9d272e48417932fee4d873bffe8dd71cfe7568e6544d2f64060c39"), looks := false }, kinds := [], alts := [], laidByText := true, laidKinds := [.data, .data, .data, .data, .pinned], laidTests := true, laidLooks := .later }
def FnExprSoundCardSaid : Prop := Claim7.holds Tryz.pinned (.plain (OpenSpec.ofChange fnExprSoundSpec)) fnExprSoundCard

/-- THE TIED CARD OF 'laws.FnParentheses'. -/
def fnParenthesesCard : Claim7 := { stood := { row := fnParenthesesRow, standIns := [], harness := (true, "8e502f108b9d272e48417932fee4d873bffe8dd71cfe7568e6544d2f64060c39"), looks := false }, kinds := [], alts := [], laidByText := true, laidKinds := [.data, .data, .data, .data, .pinned], laidTests := true, laidLooks := .later }
def FnParenthesesCardSaid : Prop := Claim7.holds Tryz.pinned (.plain (OpenSpec.ofChange fnParenthesesSpec)) fnParenthesesCard

/-- THE TIED CARD OF 'laws.FnFormatExpr'. -/
def fnFormatExprCard : Claim7 := { stood := { row := fnFormatExprRow, standIns := [], harness := (true, "8e502f108b9d272e48417932fee4d873bffe8dd71cfe7568e6544d2f64060c39"), looks := false }, kinds := [], alts := [], laidByText := true, laidKinds := [.data, .data, .data, .data, .pinned], laidTests := true, laidLooks := .later }
def FnFormatExprCardSaid : Prop := Claim7.holds Tryz.pinned (.plain (OpenSpec.ofChange fnFormatExprSpec)) fnFormatExprCard

/-- THE SECOND FORM's CARD OF 'laws.FnExactExprText'. -/
def fnExactExprTextUptoCard : Claim7 := { stood := { row := fnExactExprTextUptoRow, standIns := [], harness := (true, "8e502f108b9d272e48417932fee4d873bffe8dd71cfe7568e6544d2f64060c39"), looks := false }, kinds := [], alts := [], laidByText := true, laidKinds := [.data, .data, .data, .data, .pinned], laidTests := true, laidLooks := .later }
def FnExactExprTextUptoCardSaid : Prop := Claim7.holds Tryz.pinned (.plain (OpenSpec.upto fnExactExprTextSpec)) fnExactExprTextUptoCard

/-- THE SECOND FORM's CARD OF 'laws.FnExprText'. -/
def fnExprTextUptoCard : Claim7 := { stood := { row := fnExprTextUptoRow, standIns := [], harness := (true, "8e502f108b9d272e48417932fee4d873bffe8dd71cfe7568e6544d2f64060c39"), looks := false }, kinds := [], alts := [], laidByText := true, laidKinds := [.data, .data, .data, .data, .pinned], laidTests := true, laidLooks := .later }
def FnExprTextUptoCardSaid : Prop := Claim7.holds Tryz.pinned (.plain (OpenSpec.upto fnExprTextSpec)) fnExprTextUptoCard

/-- THE SECOND FORM's CARD OF 'laws.FnReadExpr'. -/
def fnReadExprUptoCard : Claim7 := { stood := { row := fnReadExprUptoRow, standIns := [], harness := (true, "8e502f108b9d272e48417932fee4d873bffe8dd71cfe7568e6544d2f64060c39"), looks := false }, kinds := [], alts := [], laidByText := true, laidKinds := [.data, .data, .data, .data, .pinned], laidTests := true, laidLooks := .later }
def FnReadExprUptoCardSaid : Prop := Claim7.holds Tryz.pinned (.plain (OpenSpec.upto fnReadExprSpec)) fnReadExprUptoCard

/-- THE SECOND FORM's CARD OF 'laws.FnExprSound'. -/
def fnExprSoundUptoCard : Claim7 := { stood := { row := fnExprSoundUptoRow, standIns := [], harness := (true, "8e502f108b9d272e48417932fee4d873bffe8dd71cfe7568e6544d2f64060c39"), looks := false }, kinds := [], alts := [], laidByText := true, laidKinds := [.data, .data, .data, .data, .pinned], laidTests := true, laidLooks := .later }
def FnExprSoundUptoCardSaid : Prop := Claim7.holds Tryz.pinned (.plain (OpenSpec.upto fnExprSoundSpec)) fnExprSoundUptoCard

/-- THE SECOND FORM's CARD OF 'laws.FnParentheses'. -/
def fnParenthesesUptoCard : Claim7 := { stood := { row := fnParenthesesUptoRow, standIns := [], harness := (true, "8e502f108b9d272e48417932fee4d873bffe8dd71cfe7568e6544d2f64060c39"), looks := false }, kinds := [], alts := [], laidByText := true, laidKinds := [.data, .data, .data, .data, .pinned], laidTests := true, laidLooks := .later }
def FnParenthesesUptoCardSaid : Prop := Claim7.holds Tryz.pinned (.plain (OpenSpec.upto fnParenthesesSpec)) fnParenthesesUptoCard

/-- THE SECOND FORM's CARD OF 'laws.FnFormatExpr'. -/
def fnFormatExprUptoCard : Claim7 := { stood := { row := fnFormatExprUptoRow, standIns := [], harness := (true, "8e502f108b9d272e48417932fee4d873bffe8dd71cfe7568e6544d2f64060c39"), looks := false }, kinds := [], alts := [], laidByText := true, laidKinds := [.data, .data, .data, .data, .pinned], laidTests := true, laidLooks := .later }
def FnFormatExprUptoCardSaid : Prop := Claim7.holds Tryz.pinned (.plain (OpenSpec.upto fnFormatExprSpec)) fnFormatExprUptoCard
end Rows
end Go.Proofs.YtncehcklppakcaaGreatDoor
