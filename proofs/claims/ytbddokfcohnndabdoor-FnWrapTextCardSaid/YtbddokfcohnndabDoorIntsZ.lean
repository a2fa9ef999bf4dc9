/-
  Any numbers, as cells.
-/
import Derived.Test.YtbddokfcohnndabDoorRows
import Derived.WalkKit
namespace Go.Proofs.YtbddokfcohnndabDoor
open Go.RowKit
set_option linter.unusedVariables false

/-- Any numbers, as cells. -/
def intsZ (L : List Int) : List Value := L.map (Value.int .i64)
theorem intsZ_length (L : List Int) : (intsZ L).length = L.length := by simp [intsZ]
theorem intsZ_at (L : List Int) (k : Nat) (h : k < L.length) : (intsZ L)[k]? = some (.int .i64 L[k]) := by simp [intsZ, h]

end Go.Proofs.YtbddokfcohnndabDoor
