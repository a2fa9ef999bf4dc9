/-
  Entries next to each other have the same width, and no name is longer.
-/
import Derived.Test.YtegdjjjpoahamaaGreatDoorRows
import Derived.Test.YtegdjjjpoahamaaGreatDoorWalkAlignWidths
import Derived.Test.YtegdjjjpoahamaaGreatDoorCards
import Derived.Test.YtegdjjjpoahamaaGreatDoorTie
import Derived.Lib.LaidTab
import Derived.LaidMore
import Derived.Lay
import Derived.SevenTiedAt
import Derived.Stop.Joined
import Derived.WalkKit
import Derived.ProofKit
import Derived.OpenShut
import Derived.ShutString
import Derived.ChangeOld
import Derived.Below
import Derived.Test.YtegdjjjpoahamaaGreatDoorFnAlignWidthsA
set_option linter.unusedVariables false
set_option maxHeartbeats 4000000
namespace Go.Proofs.YtegdjjjpoahamaaGreatDoor.fnAlignWidths
open Go.ChangeShapes Go.WideShapes Go.ChangeAt Go.RowKit
open Go.ChangeMaps (open_string shut_string)
theorem proved:Rows.FnAlignWidthsCardSaid:=
 Claim7.holds_tied_plain_at .later [] [.data, .data, .data, .data, .pinned] true Rows.fnAlignWidthsCard.stood.harness Rows.fnAlignWidthsCard.stood.looks over (fun _ h=>by cases h) (by as_aux_lemma=>kernel_rfl) (fun _ h=>by cases h) fnAlignWidths_row_tie rfl ⟨rfl,rfl⟩ (by as_aux_lemma=>kernel_rfl) rfl
  (fun f fn hf hfn=>by
    obtain rfl:f=3:=Option.some.inj ((show Tryz.prog.funcNamed "loop.example/configformatter/laws.FnAlignWidths" =some 3 by kernel_rfl).symm.trans hf)|>.symm
    obtain rfl:fn=Tryz.f3:=(Option.some.inj (Tryz.func3.symm.trans hfn)).symm
    exact ⟨by as_aux_lemma=>kernel_rfl,fun j t ht=>by
     rw [Tryz.params3] at ht
     have hm:t∈[22]:=by simpa using Array.mem_of_getElem? ht
     have hall:([22].all fun u=> !Tryz.prog.wantsStandIn u)=true:=by kernel_rfl
     exact (show Tryz.prog.wantsStandIn t=false by simpa using List.all_eq_true.1 hall t hm)⟩)
  (by as_aux_lemma=>kernel_rfl)
end Go.Proofs.YtegdjjjpoahamaaGreatDoor.fnAlignWidths
