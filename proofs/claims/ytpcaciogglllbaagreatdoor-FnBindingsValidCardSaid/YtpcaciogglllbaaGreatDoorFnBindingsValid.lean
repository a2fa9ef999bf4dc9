/-
  FnBindingsValid: for every code the program and the reference agree whether the drawn bindings are valid; if they are and there is a first one, those behind it are valid, and with the first one behind them all once more they are not; no condition but the card's.
-/
import Derived.Test.YtpcaciogglllbaaGreatDoorRows
import Derived.Test.YtpcaciogglllbaaGreatDoorWalkBindingsValid
import Derived.Test.YtpcaciogglllbaaGreatDoorCards
import Derived.Test.YtpcaciogglllbaaGreatDoorTie
import Derived.Lib.LaidTab
import Derived.LaidMore
import Derived.Lay
import Derived.SevenTiedAt
import Derived.Stop.Joined
import Derived.WalkKit
import Derived.ProofKit
import Derived.OpenShut
import Derived.ShutString
import Derived.ChangeOld
import Derived.Below
import Derived.Test.YtpcaciogglllbaaGreatDoorFnBindingsValidA
namespace Go.Proofs.YtpcaciogglllbaaGreatDoor.fnBindingsValid
open Go.ChangeShapes Go.WideShapes Go.ChangeAt Go.RowKit
open Go.ChangeMaps (open_string shut_string)
set_option linter.unusedVariables false

theorem proved : Rows.FnBindingsValidCardSaid :=
  Claim7.holds_tied_plain_at .later [] [.data, .data, .data, .data, .pinned] true Rows.fnBindingsValidCard.stood.harness Rows.fnBindingsValidCard.stood.looks over (fun _ h => by cases h) (by as_aux_lemma => kernel_rfl) (fun _ h => by cases h) fnBindingsValid_row_tie rfl ⟨rfl, rfl⟩ (by as_aux_lemma => kernel_rfl) rfl
    (fun f fn hf hfn => by
      obtain rfl : f = 9 := Option.some.inj ((show Tryz.prog.funcNamed "loop.example/configformatter/laws.FnBindingsValid" = some 9 by kernel_rfl).symm.trans hf) |>.symm
      obtain rfl : fn = Tryz.f9 := (Option.some.inj (Tryz.func9.symm.trans hfn)).symm
      exact ⟨by as_aux_lemma => kernel_rfl, fun j t ht => by
        rw [Tryz.params9] at ht
        have hm : t ∈ [37] := by simpa using Array.mem_of_getElem? ht
        have hall : ([37].all fun u => !Tryz.prog.wantsStandIn u) = true := by kernel_rfl
        exact (show Tryz.prog.wantsStandIn t = false by simpa using List.all_eq_true.1 hall t hm)⟩)
    (by as_aux_lemma => kernel_rfl)
end Go.Proofs.YtpcaciogglllbaaGreatDoor.fnBindingsValid
