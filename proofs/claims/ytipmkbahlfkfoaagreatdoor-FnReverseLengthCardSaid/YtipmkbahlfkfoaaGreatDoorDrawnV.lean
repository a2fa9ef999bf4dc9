/-
  Drawn values: short cells, at most 14 of them, at most four of which have parts.
-/
import Derived.Test.YtipmkbahlfkfoaaGreatDoorBaseD
namespace Go.Proofs.YtipmkbahlfkfoaaGreatDoor
open Go.RowKit
set_option linter.unusedVariables false

/-- Drawn cells. -/
def DrawnV (w : World) (e : Ending) (w' : World) : Prop :=
  ∃ (v : Value) (l : List Cl), e = .returned v ∧ RowC w' v l ∧ (∀ c ∈ l, c.2.1.size ≤ 60) ∧ 1 ≤ l.length ∧ l.length ≤ 14 ∧ nmC l ≤ 4 ∧ Below w.heap.size w w'

end Go.Proofs.YtipmkbahlfkfoaaGreatDoor
