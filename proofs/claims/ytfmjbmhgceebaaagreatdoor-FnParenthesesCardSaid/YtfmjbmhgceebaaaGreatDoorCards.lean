/-
  DERIVED. GIVEN WITH THE SEED: THE CARDS: each row of YtfmjbmhgceebaaaGreatDoorRows.lean that lists a variable, with what it lists TIED to the program's text (the seventh form; the later family's looks); each row that meets fmt, with fmt's text TOLD by the authors' own Lean function (tested against real Go, not proved from fmt's source: count such statements apart). THE CARD IS WHAT COUNTS. Prove the row's statement (the work); the ties are given (YtfmjbmhgceebaaaGreatDoorTie.lean); close each card by the builder's one call (the guide's Derived/Test/ToyasCard.lean, 'card_holds'). Laid BY PROGRAM, IN A SANDBOX (cutbox-door.mjs). By AI agents, Wed Nov 11 2026. No macro, syntax, notation, axiom, sorry.
-/
import Derived.Test.YtfmjbmhgceebaaaGreatDoorRows
import GoSem.ClaimSeven
namespace Go.Proofs.YtfmjbmhgceebaaaGreatDoor
namespace Rows

/-- THE TIED CARD OF 'laws.FnExactExprText'. -/
def fnExactExprTextCard : Claim7 := { stood := { row := fnExactExprTextRow, standIns := [], harness := (true, "e933cf5cd06310872317f5948099ff320db7dd18c39d5da6a66d6d4a7bbad8b3"), looks := false }, kinds := [], alts := [], laidByText := true, laidKinds := [.data, .data, .data, .data, .pinned], laidTests := true, laidLooks := .later }
def FnExactExprTextCardSaid : Prop := Claim7.holds Tryz.pinned (.plain (OpenSpec.ofChange fnExactExprTextSpec)) fnExactExprTextCard

/-- THE TIED CARD OF 'laws.FnExprText'. -/
def fnExprTextCard : Claim7 := { stood := { row := fnExprTextRow, standIns := [], harness := (true, "e933cf5cd06310872317f5948099ff320db7dd18c39d5da6a66d6d4a7bbad8b3"), looks := false }, kinds := [], alts := [], laidByText := true, laidKinds := [.data, .data, .data, .data, .pinned], laidTests := true, laidLooks := .later }
def FnExprTextCardSaid : Prop := Claim7.holds Tryz.pinned (.plain (OpenSpec.ofChange fnExprTextSpec)) fnExprTextCard

/-- THE TIED CARD OF 'laws.FnReadExpr'. -/
def fnReadExprCard : Claim7 := { stood := { row := fnReadExprRow, standIns := [], harness := (true, "e933cf5cd06310872317f5948099ff320db7dd18c39d5da6a66d6d4a7bbad8b3"), looks := false }, kinds := [], alts := [], laidByText := true, laidKinds := [.data, .data, .data, .data, .pinned], laidTests := true, laidLooks := .later }
def FnReadExprCardSaid : Prop := Claim7.holds Tryz.pinned (.plain (OpenSpec.ofChange fnReadExprSpec)) fnReadExprCard

/-- THE TIED CARD OF 'laws.FnExprSound'. -/
def fnExprSoundCard : Claim7 := { stood := { row := fnExprSoundRow, standIns := [], harness := (true, "e933cf5cd06310872317f5948099ff320db7dd18c39d5da6a66d6d4a7bbad8b3"), looks := false }, kinds := [], alts := [], laidByText := true, laidKinds := [.data, .data, .data, .data, .pinned], laidTests := true, laidLooks := .later }
def FnExprSoundCardSaid : Prop := Claim7.holds Tryz.pinned (.plain (OpenSpec.ofChange fnExprSoundSpec)) fnExprSoundCard

/-- THE TIED CARD OF 'laws.FnParentheses'. -/
def fnParenthesesCard : Claim7 := { stood := { row := fnParenthesesRow, standIns := [], harness := (true, "e933cf5cd06310872317f5948099ff320db7dd18c39d5da6a66d6d4a7bbad8b3"), looks := false }, kinds := [], alts := [], laidByText := true, laidKinds := [.data, .data, .data, .data, .pinned], laidTests := true, laidLooks := .later }
def FnParenthesesCardSaid : Prop := Claim7.holds Tryz.pinned (.plain (OpenSpec.ofChange fnParenthesesSpec)) fnParenthesesCard

/-- THE TIED CARD OF 'laws.FnFormatExpr'. -/
def fnFormatExprCard : Claim7 := { stood := { row := fnFormatExprRow, standIns := [], harness := (true, "e933cf5cd06310872317f5948099ff320db7dd18c39d5da6a66d6d4a7bbad8b3"), looks := false }, kinds := [], alts := [], laidByText := true, laidKinds := [.data, .data, .data, .data, .pinned], laidTests := true, laidLooks := .later }
def FnFormatExprCardSaid : Prop := Claim7.holds Tryz.pinned (.plain (OpenSpec.ofChange fnFormatExprSpec)) fnFormatExprCard

/-- THE TIED CARD OF 'laws.FnExactFormatExpr'. -/
def fnExactFormatExprCard : Claim7 := { stood := { row := fnExactFormatExprRow, standIns := [], harness := (true, "e933cf5cd06310872317f5948099ff320db7dd18c39d5da6a66d6d4a7bbad8b3"), looks := false }, kinds := [], alts := [], laidByText := true, laidKinds := [.data, .data, .data, .data, .pinned], laidTests := true, laidLooks := .later }
def FnExactFormatExprCardSaid : Prop := Claim7.holds Tryz.pinned (.plain (OpenSpec.ofChange fnExactFormatExprSpec)) fnExactFormatExprCard

/-- THE SECOND FORM's CARD OF 'laws.FnExactExprText'. -/
def fnExactExprTextUptoCard : Claim7 := { stood := { row := fnExactExprTextUptoRow, standIns := [], harness := (true, "e933cf5cd06310872317f5948099ff320db7dd18c39d5da6a66d6d4a7bbad8b3"), looks := false }, kinds := [], alts := [], laidByText := true, laidKinds := [.data, .data, .data, .data, .pinned], laidTests := true, laidLooks := .later }
def FnExactExprTextUptoCardSaid : Prop := Claim7.holds Tryz.pinned (.plain (OpenSpec.upto fnExactExprTextSpec)) fnExactExprTextUptoCard

/-- THE SECOND FORM's CARD OF 'laws.FnExprText'. -/
def fnExprTextUptoCard : Claim7 := { stood := { row := fnExprTextUptoRow, standIns := [], harness := (true, "e933cf5cd06310872317f5948099ff320db7dd18c39d5da6a66d6d4a7bbad8b3"), looks := false }, kinds := [], alts := [], laidByText := true, laidKinds := [.data, .data, .data, .data, .pinned], laidTests := true, laidLooks := .later }
def FnExprTextUptoCardSaid : Prop := Claim7.holds Tryz.pinned (.plain (OpenSpec.upto fnExprTextSpec)) fnExprTextUptoCard

/-- THE SECOND FORM's CARD OF 'laws.FnReadExpr'. -/
def fnReadExprUptoCard : Claim7 := { stood := { row := fnReadExprUptoRow, standIns := [], harness := (true, "e933cf5cd06310872317f5948099ff320db7dd18c39d5da6a66d6d4a7bbad8b3"), looks := false }, kinds := [], alts := [], laidByText := true, laidKinds := [.data, .data, .data, .data, .pinned], laidTests := true, laidLooks := .later }
def FnReadExprUptoCardSaid : Prop := Claim7.holds Tryz.pinned (.plain (OpenSpec.upto fnReadExprSpec)) fnReadExprUptoCard

/-- THE SECOND FORM's CARD OF 'laws.FnExprSound'. -/
def fnExprSoundUptoCard : Claim7 := { stood := { row := fnExprSoundUptoRow, standIns := [], harness := (true, "e933cf5cd06310872317f5948099ff320db7dd18c39d5da6a66d6d4a7bbad8b3"), looks := false }, kinds := [], alts := [], laidByText := true, laidKinds := [.data, .data, .data, .data, .pinned], laidTests := true, laidLooks := .later }
def FnExprSoundUptoCardSaid : Prop := Claim7.holds Tryz.pinned (.plain (OpenSpec.upto fnExprSoundSpec)) fnExprSoundUptoCard

/-- THE SECOND FORM's CARD OF 'laws.FnParentheses'. -/
def fnParenthesesUptoCard : Claim7 := { stood := { row := fnParenthesesUptoRow, standIns := [], harness := (true, "e933cf5cd06310872317f5948099ff320db7dd18c39d5da6a66d6d4a7bbad8b3"), looks := false }, kinds := [], alts := [], laidByText := true, laidKinds := [.data, .data, .data, .data, .pinned], laidTests := true, laidLooks := .later }
def FnParenthesesUptoCardSaid : Prop := Claim7.holds Tryz.pinned (.plain (OpenSpec.upto fnParenthesesSpec)) fnParenthesesUptoCard

/-- THE SECOND FORM's CARD OF 'laws.FnFormatExpr'. -/
def fnFormatExprUptoCard : Claim7 := { stood := { row := fnFormatExprUptoRow, standIns := [], harness := (true, "e933cf5cd06310872317f5948099ff320db7dd18c39d5da6a66d6d4a7bbad8b3"), looks := false }, kinds := [], alts := [], laidByText := true, laidKinds := [.data, .data, .data, .data, .pinned], laidTests := true, laidLooks := .later }
def FnFormatExprUptoCardSaid : Prop := Claim7.holds Tryz.pinned (.plain (OpenSpec.upto fnFormatExprSpec)) fnFormatExprUptoCard

/-- THE SECOND FORM's CARD OF 'laws.FnExactFormatExpr'. -/
def fnExactFormatExprUptoCard : Claim7 := { stood := { row := fnExactFormatExprUptoRow, standIns := [], harness := (true, "e933cf5cd06310872317f5948099ff320db7dd18c39d5da6a66d6d4a7bbad8b3"), looks := false }, kinds := [], alts := [], laidByText := true, laidKinds := [.data, .data, .data, .data, .pinned], laidTests := true, laidLooks := .later }
def FnExactFormatExprUptoCardSaid : Prop := Claim7.holds Tryz.pinned (.plain (OpenSpec.upto fnExactFormatExprSpec)) fnExactFormatExprUptoCard
end Rows
end Go.Proofs.YtfmjbmhgceebaaaGreatDoor
