/-
  DERIVED. GIVEN WITH THE SEED: THE CARDS: each row of YthillfgjpalpcaaGreatDoorRows.lean that lists a variable, with what it lists TIED to the program's text (the seventh form; the later family's looks); each row that meets fmt, with fmt's text TOLD by the authors' own Lean function (tested against real Go, not proved from fmt's source: count such statements apart). THE CARD IS WHAT COUNTS. Prove the row's statement (the work); the ties are given (YthillfgjpalpcaaGreatDoorTie.lean); close each card by the builder's one call (the guide's Derived/Test/ToyasCard.lean, 'card_holds'). Laid BY PROGRAM, IN A SANDBOX (cutbox-door.mjs). By AI agents, Wed Nov 11 2026. No macro, syntax, notation, axiom, sorry.
-/
import Derived.Test.YthillfgjpalpcaaGreatDoorRows
import GoSem.ClaimSeven
namespace Go.Proofs.YthillfgjpalpcaaGreatDoor
namespace Rows

/-- THE TIED CARD OF 'laws.FnExactEvaluate'. -/
def fnExactEvaluateCard : Claim7 := { stood := { row := fnExactEvaluateRow, standIns := [], harness := (true, "8c4c2531c2e098ab1d5c44e440961ce058cb2ce3b2ad583ecc8e9e154069f85a"), looks := true }, kinds := [], alts := [], laidByText := true, laidKinds := [.data, .data, .data, .data, .pinned, .pinned], laidTests := true, laidLooks := .later }
def FnExactEvaluateCardSaid : Prop := Claim7.holds Tryz.pinned (.plain (OpenSpec.ofChange fnExactEvaluateSpec)) fnExactEvaluateCard

/-- THE TIED CARD OF 'laws.FnEvaluate'. -/
def fnEvaluateCard : Claim7 := { stood := { row := fnEvaluateRow, standIns := [], harness := (true, "8c4c2531c2e098ab1d5c44e440961ce058cb2ce3b2ad583ecc8e9e154069f85a"), looks := true }, kinds := [], alts := [], laidByText := true, laidKinds := [.data, .data, .data, .data, .pinned, .pinned], laidTests := true, laidLooks := .later }
def FnEvaluateCardSaid : Prop := Claim7.holds Tryz.pinned (.plain (OpenSpec.ofChange fnEvaluateSpec)) fnEvaluateCard

/-- THE TIED CARD OF 'laws.FnEvaluateChoice'. -/
def fnEvaluateChoiceCard : Claim7 := { stood := { row := fnEvaluateChoiceRow, standIns := [], harness := (true, "8c4c2531c2e098ab1d5c44e440961ce058cb2ce3b2ad583ecc8e9e154069f85a"), looks := true }, kinds := [], alts := [], laidByText := true, laidKinds := [.data, .data, .data, .data, .pinned, .pinned], laidTests := true, laidLooks := .later }
def FnEvaluateChoiceCardSaid : Prop := Claim7.holds Tryz.pinned (.plain (OpenSpec.ofChange fnEvaluateChoiceSpec)) fnEvaluateChoiceCard

/-- THE TIED CARD OF 'laws.FnEvaluateSame'. -/
def fnEvaluateSameCard : Claim7 := { stood := { row := fnEvaluateSameRow, standIns := [], harness := (true, "8c4c2531c2e098ab1d5c44e440961ce058cb2ce3b2ad583ecc8e9e154069f85a"), looks := true }, kinds := [], alts := [], laidByText := true, laidKinds := [.data, .data, .data, .data, .pinned, .pinned], laidTests := true, laidLooks := .later }
def FnEvaluateSameCardSaid : Prop := Claim7.holds Tryz.pinned (.plain (OpenSpec.ofChange fnEvaluateSameSpec)) fnEvaluateSameCard

/-- THE TIED CARD OF 'laws.FnEvaluateBound'. -/
def fnEvaluateBoundCard : Claim7 := { stood := { row := fnEvaluateBoundRow, standIns := [], harness := (true, "8c4c2531c2e098ab1d5c44e440961ce058cb2ce3b2ad583ecc8e9e154069f85a"), looks := true }, kinds := [], alts := [], laidByText := true, laidKinds := [.data, .data, .data, .data, .pinned, .pinned], laidTests := true, laidLooks := .later }
def FnEvaluateBoundCardSaid : Prop := Claim7.holds Tryz.pinned (.plain (OpenSpec.ofChange fnEvaluateBoundSpec)) fnEvaluateBoundCard

/-- THE TIED CARD OF 'laws.FnExactBindingsValid'. -/
def fnExactBindingsValidCard : Claim7 := { stood := { row := fnExactBindingsValidRow, standIns := [], harness := (true, "8c4c2531c2e098ab1d5c44e440961ce058cb2ce3b2ad583ecc8e9e154069f85a"), looks := true }, kinds := [], alts := [], laidByText := true, laidKinds := [.data, .data, .data, .data, .pinned], laidTests := true, laidLooks := .later }
def FnExactBindingsValidCardSaid : Prop := Claim7.holds Tryz.pinned (.plain (OpenSpec.ofChange fnExactBindingsValidSpec)) fnExactBindingsValidCard

/-- THE TIED CARD OF 'laws.FnBindingsValid'. -/
def fnBindingsValidCard : Claim7 := { stood := { row := fnBindingsValidRow, standIns := [], harness := (true, "8c4c2531c2e098ab1d5c44e440961ce058cb2ce3b2ad583ecc8e9e154069f85a"), looks := true }, kinds := [], alts := [], laidByText := true, laidKinds := [.data, .data, .data, .data, .pinned], laidTests := true, laidLooks := .later }
def FnBindingsValidCardSaid : Prop := Claim7.holds Tryz.pinned (.plain (OpenSpec.ofChange fnBindingsValidSpec)) fnBindingsValidCard

/-- THE TIED CARD OF 'laws.FnExactNamesIn'. -/
def fnExactNamesInCard : Claim7 := { stood := { row := fnExactNamesInRow, standIns := [], harness := (true, "8c4c2531c2e098ab1d5c44e440961ce058cb2ce3b2ad583ecc8e9e154069f85a"), looks := true }, kinds := [], alts := [], laidByText := true, laidKinds := [.data, .data, .data, .data, .pinned], laidTests := true, laidLooks := .later }
def FnExactNamesInCardSaid : Prop := Claim7.holds Tryz.pinned (.plain (OpenSpec.ofChange fnExactNamesInSpec)) fnExactNamesInCard

/-- THE TIED CARD OF 'laws.FnNamesIn'. -/
def fnNamesInCard : Claim7 := { stood := { row := fnNamesInRow, standIns := [], harness := (true, "8c4c2531c2e098ab1d5c44e440961ce058cb2ce3b2ad583ecc8e9e154069f85a"), looks := true }, kinds := [], alts := [], laidByText := true, laidKinds := [.data, .data, .data, .data, .pinned], laidTests := true, laidLooks := .later }
def FnNamesInCardSaid : Prop := Claim7.holds Tryz.pinned (.plain (OpenSpec.ofChange fnNamesInSpec)) fnNamesInCard

/-- THE SECOND FORM's CARD OF 'laws.FnExactEvaluate'. -/
def fnExactEvaluateUptoCard : Claim7 := { stood := { row := fnExactEvaluateUptoRow, standIns := [], harness := (true, "8c4c2531c2e098ab1d5c44e440961ce058cb2ce3b2ad583ecc8e9e154069f85a"), looks := true }, kinds := [], alts := [], laidByText := true, laidKinds := [.data, .data, .data, .data, .pinned, .pinned], laidTests := true, laidLooks := .later }
def FnExactEvaluateUptoCardSaid : Prop := Claim7.holds Tryz.pinned (.plain (OpenSpec.upto fnExactEvaluateSpec)) fnExactEvaluateUptoCard

/-- THE SECOND FORM's CARD OF 'laws.FnEvaluate'. -/
def fnEvaluateUptoCard : Claim7 := { stood := { row := fnEvaluateUptoRow, standIns := [], harness := (true, "8c4c2531c2e098ab1d5c44e440961ce058cb2ce3b2ad583ecc8e9e154069f85a"), looks := true }, kinds := [], alts := [], laidByText := true, laidKinds := [.data, .data, .data, .data, .pinned, .pinned], laidTests := true, laidLooks := .later }
def FnEvaluateUptoCardSaid : Prop := Claim7.holds Tryz.pinned (.plain (OpenSpec.upto fnEvaluateSpec)) fnEvaluateUptoCard

/-- THE SECOND FORM's CARD OF 'laws.FnEvaluateChoice'. -/
def fnEvaluateChoiceUptoCard : Claim7 := { stood := { row := fnEvaluateChoiceUptoRow, standIns := [], harness := (true, "8c4c2531c2e098ab1d5c44e440961ce058cb2ce3b2ad583ecc8e9e154069f85a"), looks := true }, kinds := [], alts := [], laidByText := true, laidKinds := [.data, .data, .data, .data, .pinned, .pinned], laidTests := true, laidLooks := .later }
def FnEvaluateChoiceUptoCardSaid : Prop := Claim7.holds Tryz.pinned (.plain (OpenSpec.upto fnEvaluateChoiceSpec)) fnEvaluateChoiceUptoCard

/-- THE SECOND FORM's CARD OF 'laws.FnEvaluateSame'. -/
def fnEvaluateSameUptoCard : Claim7 := { stood := { row := fnEvaluateSameUptoRow, standIns := [], harness := (true, "8c4c2531c2e098ab1d5c44e440961ce058cb2ce3b2ad583ecc8e9e154069f85a"), looks := true }, kinds := [], alts := [], laidByText := true, laidKinds := [.data, .data, .data, .data, .pinned, .pinned], laidTests := true, laidLooks := .later }
def FnEvaluateSameUptoCardSaid : Prop := Claim7.holds Tryz.pinned (.plain (OpenSpec.upto fnEvaluateSameSpec)) fnEvaluateSameUptoCard

/-- THE SECOND FORM's CARD OF 'laws.FnEvaluateBound'. -/
def fnEvaluateBoundUptoCard : Claim7 := { stood := { row := fnEvaluateBoundUptoRow, standIns := [], harness := (true, "8c4c2531c2e098ab1d5c44e440961ce058cb2ce3b2ad583ecc8e9e154069f85a"), looks := true }, kinds := [], alts := [], laidByText := true, laidKinds := [.data, .data, .data, .data, .pinned, .pinned], laidTests := true, laidLooks := .later }
def FnEvaluateBoundUptoCardSaid : Prop := Claim7.holds Tryz.pinned (.plain (OpenSpec.upto fnEvaluateBoundSpec)) fnEvaluateBoundUptoCard

/-- THE SECOND FORM's CARD OF 'laws.FnExactBindingsValid'. -/
def fnExactBindingsValidUptoCard : Claim7 := { stood := { row := fnExactBindingsValidUptoRow, standIns := [], harness := (true, "8c4c2531c2e098ab1d5c44e440961ce058cb2ce3b2ad583ecc8e9e154069f85a"), looks := true }, kinds := [], alts := [], laidByText := true, laidKinds := [.data, .data, .data, .data, .pinned], laidTests := true, laidLooks := .later }
def FnExactBindingsValidUptoCardSaid : Prop := Claim7.holds Tryz.pinned (.plain (OpenSpec.upto fnExactBindingsValidSpec)) fnExactBindingsValidUptoCard

/-- THE SECOND FORM's CARD OF 'laws.FnBindingsValid'. -/
def fnBindingsValidUptoCard : Claim7 := { stood := { row := fnBindingsValidUptoRow, standIns := [], harness := (true, "8c4c2531c2e098ab1d5c44e440961ce058cb2ce3b2ad583ecc8e9e154069f85a"), looks := true }, kinds := [], alts := [], laidByText := true, laidKinds := [.data, .data, .data, .data, .pinned], laidTests := true, laidLooks := .later }
def FnBindingsValidUptoCardSaid : Prop := Claim7.holds Tryz.pinned (.plain (OpenSpec.upto fnBindingsValidSpec)) fnBindingsValidUptoCard

/-- THE SECOND FORM's CARD OF 'laws.FnExactNamesIn'. -/
def fnExactNamesInUptoCard : Claim7 := { stood := { row := fnExactNamesInUptoRow, standIns := [], harness := (true, "8c4c2531c2e098ab1d5c44e440961ce058cb2ce3b2ad583ecc8e9e154069f85a"), looks := true }, kinds := [], alts := [], laidByText := true, laidKinds := [.data, .data, .data, .data, .pinned], laidTests := true, laidLooks := .later }
def FnExactNamesInUptoCardSaid : Prop := Claim7.holds Tryz.pinned (.plain (OpenSpec.upto fnExactNamesInSpec)) fnExactNamesInUptoCard

/-- THE SECOND FORM's CARD OF 'laws.FnNamesIn'. -/
def fnNamesInUptoCard : Claim7 := { stood := { row := fnNamesInUptoRow, standIns := [], harness := (true, "8c4c2531c2e098ab1d5c44e440961ce058cb2ce3b2ad583ecc8e9e154069f85a"), looks := true }, kinds := [], alts := [], laidByText := true, laidKinds := [.data, .data, .data, .data, .pinned], laidTests := true, laidLooks := .later }
def FnNamesInUptoCardSaid : Prop := Claim7.holds Tryz.pinned (.plain (OpenSpec.upto fnNamesInSpec)) fnNamesInUptoCard
end Rows
end Go.Proofs.YthillfgjpalpcaaGreatDoor
