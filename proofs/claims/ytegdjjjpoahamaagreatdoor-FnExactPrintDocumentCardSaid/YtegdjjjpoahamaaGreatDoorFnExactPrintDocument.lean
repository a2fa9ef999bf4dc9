/-
  PrintDocument returns, for all items, what the reference returns, and leaves the items as they were.
-/
import Derived.Test.YtegdjjjpoahamaaGreatDoorRows
import Derived.Test.YtegdjjjpoahamaaGreatDoorQQXad
import Derived.Test.YtegdjjjpoahamaaGreatDoorCards
import Derived.Test.YtegdjjjpoahamaaGreatDoorTie
import Derived.Lib.LaidTab
import Derived.LaidMore
import Derived.Lay
import Derived.SevenTiedAt
import Derived.Stop.Joined
import Derived.WalkKit
import Derived.ProofKit
import Derived.OpenShut
import Derived.ShutString
import Derived.ChangeOld
import Derived.Below
import Derived.Test.YtegdjjjpoahamaaGreatDoorFnExactPrintDocumentA
set_option linter.unusedVariables false
set_option maxHeartbeats 4000000
namespace Go.Proofs.YtegdjjjpoahamaaGreatDoor.fnExactPrintDocument
open Go.ChangeShapes Go.WideShapes Go.ChangeAt Go.RowKit
open Go.ChangeMaps (open_string shut_string)
theorem proved:Rows.FnExactPrintDocumentCardSaid:=
 Claim7.holds_tied_plain_at .later [] [.data, .data, .data, .data, .pinned] true Rows.fnExactPrintDocumentCard.stood.harness Rows.fnExactPrintDocumentCard.stood.looks over (fun _ h=>by cases h) (by as_aux_lemma=>kernel_rfl) (fun _ h=>by cases h) fnExactPrintDocument_row_tie rfl ⟨rfl,rfl⟩ (by as_aux_lemma=>kernel_rfl) rfl
  (fun f fn hf hfn=>by
    obtain rfl:f=11:=Option.some.inj ((show Tryz.prog.funcNamed "loop.example/configformatter/laws.FnExactPrintDocument" =some 11 by kernel_rfl).symm.trans hf)|>.symm
    obtain rfl:fn=Tryz.f11:=(Option.some.inj (Tryz.func11.symm.trans hfn)).symm
    exact ⟨by as_aux_lemma=>kernel_rfl,fun j t ht=>by
     rw [Tryz.params11] at ht
     have hm:t∈[42]:=by simpa using Array.mem_of_getElem? ht
     have hall:([42].all fun u=> !Tryz.prog.wantsStandIn u)=true:=by kernel_rfl
     exact (show Tryz.prog.wantsStandIn t=false by simpa using List.all_eq_true.1 hall t hm)⟩)
  (by as_aux_lemma=>kernel_rfl)
end Go.Proofs.YtegdjjjpoahamaaGreatDoor.fnExactPrintDocument
