/-
  laws.szCell, toCell, eqCell, and the same for slices: szCellS, toCellS, eqCellS.
-/
import Derived.Test.YthijkjnngfnfdaaGreatDoorZz
import Derived.Test.YthijkjnngfnfdaaGreatDoorPOpenCells
import Derived.Test.YthijkjnngfnfdaaGreatDoorPBaseA
import Derived.Deep.RegionHeld3
import Derived.RegionTactic
import Derived.Deep.DrawnRows
import Derived.Laws.OwnMore
import Derived.Laws.Rows
set_option linter.unusedVariables false
set_option maxHeartbeats 2000000
set_option maxRecDepth 100000
namespace Go.Proofs.YthijkjnngfnfdaaGreatDoor
open Go.RowKit
end Go.Proofs.YthijkjnngfnfdaaGreatDoor
