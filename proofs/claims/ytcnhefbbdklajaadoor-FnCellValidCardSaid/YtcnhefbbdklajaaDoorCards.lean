/-
  DERIVED. GIVEN WITH THE SEED: THE CARDS: each row of YtcnhefbbdklajaaDoorRows.lean that lists a variable, with what it lists TIED to the program's text (the seventh form; the later family's looks); each row that meets fmt, with fmt's text TOLD by the authors' own Lean function (tested against real Go, not proved from fmt's source: count such statements apart). THE CARD IS WHAT COUNTS. Prove the row's statement (the work); the ties are given (YtcnhefbbdklajaaDoorTie.lean); close each card by the builder's one call (the guide's Derived/Test/ToyasCard.lean, 'card_holds'). Laid BY PROGRAM, IN A SANDBOX (cutbox-door.mjs). By AI agents, Wed Nov 11 2026. No macro, syntax, notation, axiom, sorry.
-/
import Derived.Test.YtcnhefbbdklajaaDoorRows
import GoSem.ClaimSeven
namespace Go.Proofs.YtcnhefbbdklajaaDoor
namespace Rows

/-- THE TIED CARD OF 'laws.FnExactCellValid'. -/
def fnExactCellValidCard : Claim7 := { stood := { row := fnExactCellValidRow, standIns := [], harness := (true, "8f36810c4c0fe9832e9e72387319d60fb13c327fb8125699004528e120a987b9"), looks := false }, kinds := [], alts := [], laidByText := true, laidKinds := [.data, .data, .data, .data, .pinned], laidTests := true, laidLooks := .later }
def FnExactCellValidCardSaid : Prop := Claim7.holds Tryd.pinned (.plain (OpenSpec.ofChange fnExactCellValidSpec)) fnExactCellValidCard

/-- THE TIED CARD OF 'laws.FnCellValid'. -/
def fnCellValidCard : Claim7 := { stood := { row := fnCellValidRow, standIns := [], harness := (true, "8f36810c4c0fe9832e9e72387319d60fb13c327fb8125699004528e120a987b9"), looks := false }, kinds := [], alts := [], laidByText := true, laidKinds := [.data, .data, .data, .data, .pinned], laidTests := true, laidLooks := .later }
def FnCellValidCardSaid : Prop := Claim7.holds Tryd.pinned (.plain (OpenSpec.ofChange fnCellValidSpec)) fnCellValidCard

/-- THE TIED CARD OF 'laws.FnExactExprValid'. -/
def fnExactExprValidCard : Claim7 := { stood := { row := fnExactExprValidRow, standIns := [], harness := (true, "8f36810c4c0fe9832e9e72387319d60fb13c327fb8125699004528e120a987b9"), looks := false }, kinds := [], alts := [], laidByText := true, laidKinds := [.data, .data, .data, .data, .pinned], laidTests := true, laidLooks := .later }
def FnExactExprValidCardSaid : Prop := Claim7.holds Tryd.pinned (.plain (OpenSpec.ofChange fnExactExprValidSpec)) fnExactExprValidCard

/-- THE TIED CARD OF 'laws.FnExactExprDepth'. -/
def fnExactExprDepthCard : Claim7 := { stood := { row := fnExactExprDepthRow, standIns := [], harness := (true, "8f36810c4c0fe9832e9e72387319d60fb13c327fb8125699004528e120a987b9"), looks := false }, kinds := [], alts := [], laidByText := true, laidKinds := [.data, .data, .data, .data, .pinned], laidTests := true, laidLooks := .later }
def FnExactExprDepthCardSaid : Prop := Claim7.holds Tryd.pinned (.plain (OpenSpec.ofChange fnExactExprDepthSpec)) fnExactExprDepthCard

/-- THE SECOND FORM's CARD OF 'laws.FnExactCellValid'. -/
def fnExactCellValidUptoCard : Claim7 := { stood := { row := fnExactCellValidUptoRow, standIns := [], harness := (true, "8f36810c4c0fe9832e9e72387319d60fb13c327fb8125699004528e120a987b9"), looks := false }, kinds := [], alts := [], laidByText := true, laidKinds := [.data, .data, .data, .data, .pinned], laidTests := true, laidLooks := .later }
def FnExactCellValidUptoCardSaid : Prop := Claim7.holds Tryd.pinned (.plain (OpenSpec.upto fnExactCellValidSpec)) fnExactCellValidUptoCard

/-- THE SECOND FORM's CARD OF 'laws.FnCellValid'. -/
def fnCellValidUptoCard : Claim7 := { stood := { row := fnCellValidUptoRow, standIns := [], harness := (true, "8f36810c4c0fe9832e9e72387319d60fb13c327fb8125699004528e120a987b9"), looks := false }, kinds := [], alts := [], laidByText := true, laidKinds := [.data, .data, .data, .data, .pinned], laidTests := true, laidLooks := .later }
def FnCellValidUptoCardSaid : Prop := Claim7.holds Tryd.pinned (.plain (OpenSpec.upto fnCellValidSpec)) fnCellValidUptoCard

/-- THE SECOND FORM's CARD OF 'laws.FnExactExprValid'. -/
def fnExactExprValidUptoCard : Claim7 := { stood := { row := fnExactExprValidUptoRow, standIns := [], harness := (true, "8f36810c4c0fe9832e9e72387319d60fb13c327fb8125699004528e120a987b9"), looks := false }, kinds := [], alts := [], laidByText := true, laidKinds := [.data, .data, .data, .data, .pinned], laidTests := true, laidLooks := .later }
def FnExactExprValidUptoCardSaid : Prop := Claim7.holds Tryd.pinned (.plain (OpenSpec.upto fnExactExprValidSpec)) fnExactExprValidUptoCard

/-- THE SECOND FORM's CARD OF 'laws.FnExactExprDepth'. -/
def fnExactExprDepthUptoCard : Claim7 := { stood := { row := fnExactExprDepthUptoRow, standIns := [], harness := (true, "8f36810c4c0fe9832e9e72387319d60fb13c327fb8125699004528e120a987b9"), looks := false }, kinds := [], alts := [], laidByText := true, laidKinds := [.data, .data, .data, .data, .pinned], laidTests := true, laidLooks := .later }
def FnExactExprDepthUptoCardSaid : Prop := Claim7.holds Tryd.pinned (.plain (OpenSpec.upto fnExactExprDepthSpec)) fnExactExprDepthUptoCard
end Rows
end Go.Proofs.YtcnhefbbdklajaaDoor
