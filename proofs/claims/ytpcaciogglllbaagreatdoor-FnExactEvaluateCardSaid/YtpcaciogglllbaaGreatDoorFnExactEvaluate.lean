/-
  FnExactEvaluate: for every list of cells and every list of bindings that are not too long, the program's value and its second result are the reference's, and the arguments stay as they were; no condition but the card's.
-/
import Derived.Test.YtpcaciogglllbaaGreatDoorRows
import Derived.Test.YtpcaciogglllbaaGreatDoorQWalkExactEvaluate
import Derived.Test.YtpcaciogglllbaaGreatDoorCards
import Derived.Test.YtpcaciogglllbaaGreatDoorTie
import Derived.Lib.LaidTab
import Derived.LaidMore
import Derived.Lay
import Derived.SevenTiedAt
import Derived.Stop.Joined
import Derived.WalkKit
import Derived.ProofKit
import Derived.OpenShut
import Derived.ShutString
import Derived.ChangeOld
import Derived.Below
import Derived.Test.YtpcaciogglllbaaGreatDoorFnExactEvaluateA
namespace Go.Proofs.YtpcaciogglllbaaGreatDoor.fnExactEvaluate
open Go.ChangeShapes Go.WideShapes Go.ChangeAt Go.RowKit
open Go.ChangeMaps (open_string shut_string)
set_option linter.unusedVariables false

theorem proved : Rows.FnExactEvaluateCardSaid :=
  Claim7.holds_tied_plain_at .later [] [.data, .data, .data, .data, .pinned, .pinned] true Rows.fnExactEvaluateCard.stood.harness Rows.fnExactEvaluateCard.stood.looks over (fun _ h => by cases h) (by as_aux_lemma => kernel_rfl) (fun _ h => by cases h) fnExactEvaluate_row_tie rfl ⟨rfl, rfl⟩ (by as_aux_lemma => kernel_rfl) rfl
    (fun f fn hf hfn => by
      obtain rfl : f = 3 := Option.some.inj ((show Tryz.prog.funcNamed "loop.example/configformatter/laws.FnExactEvaluate" = some 3 by kernel_rfl).symm.trans hf) |>.symm
      obtain rfl : fn = Tryz.f3 := (Option.some.inj (Tryz.func3.symm.trans hfn)).symm
      exact ⟨by as_aux_lemma => kernel_rfl, fun j t ht => by
        rw [Tryz.params3] at ht
        have hm : t ∈ [22, 23] := by simpa using Array.mem_of_getElem? ht
        have hall : ([22, 23].all fun u => !Tryz.prog.wantsStandIn u) = true := by kernel_rfl
        exact (show Tryz.prog.wantsStandIn t = false by simpa using List.all_eq_true.1 hall t hm)⟩)
    (by as_aux_lemma => kernel_rfl)
end Go.Proofs.YtpcaciogglllbaaGreatDoor.fnExactEvaluate
