/-
  The walk of laws.FnExactTidyItems, whole.
-/
import Derived.Test.YtbmobgahokehmaaGreatDoorWalkTidyX
import Derived.Test.YtbmobgahokehmaaGreatDoorCopyS
namespace Go.Proofs.YtbmobgahokehmaaGreatDoor
open Go.RowKit
set_option linter.unusedVariables false

theorem fnExactTidyItems_core (a0 : Option Addr) (len0 cap0 : Nat) (l : List It) (w : World) (hrow : ArgIs w a0 len0 cap0 l) (htab : Tab w) :
    Calls Tryz.prog 10 #[.slice a0 len0 cap0] w fun e w' => e = .returned (.bool true) ∧ Below w.heap.size w w' :=
  fnExactTidyItems_of (fun u k nm t l w hr hl => l11Copy_any u k nm t l w hr hl) a0 len0 cap0 l w hrow htab

end Go.Proofs.YtbmobgahokehmaaGreatDoor
