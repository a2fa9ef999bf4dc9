/-
  laws.szCellS, toCellS, eqCellS, by their contracts.
-/
import Derived.Test.YthijkjnngfnfdaaGreatDoorZz
import Derived.Test.YthijkjnngfnfdaaGreatDoorPToCell
import Derived.Test.YthijkjnngfnfdaaGreatDoorPBaseX
import Derived.Test.YthijkjnngfnfdaaGreatDoorPBaseE
set_option linter.unusedVariables false
set_option maxHeartbeats 4000000
set_option maxRecDepth 100000
namespace Go.Proofs.YthijkjnngfnfdaaGreatDoor
open Go.RowKit
end Go.Proofs.YthijkjnngfnfdaaGreatDoor
