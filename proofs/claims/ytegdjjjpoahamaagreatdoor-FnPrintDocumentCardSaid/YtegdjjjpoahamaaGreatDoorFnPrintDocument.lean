/-
  The text of drawn items is the reference's; it is read as the items, and has a line for every item.
-/
import Derived.Test.YtegdjjjpoahamaaGreatDoorRows
import Derived.Test.YtegdjjjpoahamaaGreatDoorQQP
import Derived.Test.YtegdjjjpoahamaaGreatDoorCards
import Derived.Test.YtegdjjjpoahamaaGreatDoorTie
import Derived.Lib.LaidTab
import Derived.LaidMore
import Derived.Lay
import Derived.SevenTiedAt
import Derived.Stop.Joined
import Derived.WalkKit
import Derived.ProofKit
import Derived.OpenShut
import Derived.ShutString
import Derived.ChangeOld
import Derived.Below
import Derived.Test.YtegdjjjpoahamaaGreatDoorFnPrintDocumentA
set_option linter.unusedVariables false
set_option maxHeartbeats 4000000
namespace Go.Proofs.YtegdjjjpoahamaaGreatDoor.fnPrintDocument
open Go.ChangeShapes Go.WideShapes Go.ChangeAt Go.RowKit
open Go.ChangeMaps (open_string shut_string)
theorem proved:Rows.FnPrintDocumentCardSaid:=
 Claim7.holds_tied_plain_at .later [] [.data, .data, .data, .data, .pinned] true Rows.fnPrintDocumentCard.stood.harness Rows.fnPrintDocumentCard.stood.looks over (fun _ h=>by cases h) (by as_aux_lemma=>kernel_rfl) (fun _ h=>by cases h) fnPrintDocument_row_tie rfl ⟨rfl,rfl⟩ (by as_aux_lemma=>kernel_rfl) rfl
  (fun f fn hf hfn=>by
    obtain rfl:f=10:=Option.some.inj ((show Tryz.prog.funcNamed "loop.example/configformatter/laws.FnPrintDocument" =some 10 by kernel_rfl).symm.trans hf)|>.symm
    obtain rfl:fn=Tryz.f10:=(Option.some.inj (Tryz.func10.symm.trans hfn)).symm
    exact ⟨by as_aux_lemma=>kernel_rfl,fun j t ht=>by
     rw [Tryz.params10] at ht
     have hm:t∈[22]:=by simpa using Array.mem_of_getElem? ht
     have hall:([22].all fun u=> !Tryz.prog.wantsStandIn u)=true:=by kernel_rfl
     exact (show Tryz.prog.wantsStandIn t=false by simpa using List.all_eq_true.1 hall t hm)⟩)
  (by as_aux_lemma=>kernel_rfl)
end Go.Proofs.YtegdjjjpoahamaaGreatDoor.fnPrintDocument
