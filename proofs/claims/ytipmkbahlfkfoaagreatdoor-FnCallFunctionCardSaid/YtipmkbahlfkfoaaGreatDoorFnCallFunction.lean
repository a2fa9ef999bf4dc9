/-
  For every code the law holds: the program's CallFunction answers as the reference does at the drawn name and values; reversing twice leads back; a list has its first part; the least number is not greater than the greatest one.
-/
import Derived.Test.YtipmkbahlfkfoaaGreatDoorRows
import Derived.Test.YtipmkbahlfkfoaaGreatDoorWalkCallFunction
import Derived.Test.YtipmkbahlfkfoaaGreatDoorCards
import Derived.Test.YtipmkbahlfkfoaaGreatDoorTie
import Derived.Lib.LaidTab
import Derived.LaidMore
import Derived.Lay
import Derived.SevenTiedAt
import Derived.Stop.Joined
import Derived.WalkKit
import Derived.ProofKit
import Derived.OpenShut
import Derived.ShutString
import Derived.ChangeOld
import Derived.Below
import Derived.Test.YtipmkbahlfkfoaaGreatDoorFnCallFunctionA
namespace Go.Proofs.YtipmkbahlfkfoaaGreatDoor.fnCallFunction
open Go.ChangeShapes Go.WideShapes Go.ChangeAt Go.RowKit
open Go.ChangeMaps (open_string shut_string)
set_option linter.unusedVariables false

theorem proved : Rows.FnCallFunctionCardSaid :=
  Claim7.holds_tied_plain_at .later [] [.data, .data, .data, .data, .pinned, .pinned] true Rows.fnCallFunctionCard.stood.harness Rows.fnCallFunctionCard.stood.looks over (fun _ h => by cases h) (by as_aux_lemma => kernel_rfl) (fun _ h => by cases h) fnCallFunction_row_tie rfl ⟨rfl, rfl⟩ (by as_aux_lemma => kernel_rfl) rfl
    (fun f fn hf hfn => by
      obtain rfl : f = 4 := Option.some.inj ((show Tryz.prog.funcNamed "loop.example/configformatter/laws.FnCallFunction" = some 4 by kernel_rfl).symm.trans hf) |>.symm
      obtain rfl : fn = Tryz.f4 := (Option.some.inj (Tryz.func4.symm.trans hfn)).symm
      exact ⟨by as_aux_lemma => kernel_rfl, fun j t ht => by
        rw [Tryz.params4] at ht
        have hm : t ∈ [34] := by simpa using Array.mem_of_getElem? ht
        have hall : ([34].all fun u => !Tryz.prog.wantsStandIn u) = true := by kernel_rfl
        exact (show Tryz.prog.wantsStandIn t = false by simpa using List.all_eq_true.1 hall t hm)⟩)
    (by as_aux_lemma => kernel_rfl)
end Go.Proofs.YtipmkbahlfkfoaaGreatDoor.fnCallFunction
