/-
  How an argument that is a slice of cells is opened.
-/
import Derived.Test.YthijkjnngfnfdaaGreatDoorZz
import Derived.Test.YthijkjnngfnfdaaGreatDoorPBaseE
import Derived.Deep.Slices
import Derived.Deep.Strs
import Derived.Deep.Fields
import Derived.ChangeSame
set_option linter.unusedVariables false
set_option maxRecDepth 100000
namespace Go.Proofs.YthijkjnngfnfdaaGreatDoor
open Go.RowKit Go.ChangeShapes Go.WideShapes Go.Deep
end Go.Proofs.YthijkjnngfnfdaaGreatDoor
