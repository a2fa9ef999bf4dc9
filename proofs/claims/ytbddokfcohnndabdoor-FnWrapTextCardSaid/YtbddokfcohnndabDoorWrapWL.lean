/-
  The best lines of words.
-/
import Derived.Test.YtbddokfcohnndabDoorWrapB
namespace Go.Proofs.YtbddokfcohnndabDoor
set_option linter.unusedVariables false

/-- The best lines. -/
def wlB (L : List ByteArray) (x : Int) : List Nat := if fitB L x then bestL x.toNat (szW L) else []

end Go.Proofs.YtbddokfcohnndabDoor
