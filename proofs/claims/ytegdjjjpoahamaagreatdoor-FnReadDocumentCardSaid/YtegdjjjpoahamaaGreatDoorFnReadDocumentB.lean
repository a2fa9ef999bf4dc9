/-
  FnReadDocument: the closed facts of its row, one by one: together in one equation they want more memory than the kernel is given.
-/
import Derived.Test.YtegdjjjpoahamaaGreatDoorRows
import Derived.Test.YtegdjjjpoahamaaGreatDoorCards
import Derived.Stop.Joined
import Derived.WalkKit
import Derived.ProofKit
set_option linter.unusedVariables false
namespace Go.Proofs.YtegdjjjpoahamaaGreatDoor.fnReadDocument
open Go.ChangeShapes Go.WideShapes Go.ChangeAt Go.RowKit
theorem b2 {a b:Bool} (ha:a=true) (hb:b=true):(a&&b)=true:=by rw [ha,hb];rfl
theorem lWf:Rows.fnReadDocumentRow.wf (OpenSpec.ofChange Rows.fnReadDocumentSpec)=true:=by kernel_rfl
theorem lInPlace:(Rows.fnReadDocumentRow.inPlace==Tryz.prog.inPlace 12)=true:=by kernel_rfl
theorem lUnfollowed:(Rows.fnReadDocumentRow.unfollowed==Tryz.prog.unfollowed 12)=true:=by kernel_rfl
theorem lRecurses:(Rows.fnReadDocumentRow.recurses==Tryz.prog.recurses 12)=true:=by kernel_rfl
theorem lNamed:(Rows.fnReadDocumentRow.named==Tryz.prog.varsNamed 12)=true:=by kernel_rfl
theorem lMay:Tryz.prog.mayEnter=true:=by kernel_rfl
theorem lLifted:(Rows.fnReadDocumentRow.lifted==Tryz.prog.liftsFinal)=true:=by kernel_rfl
theorem lMake:(Tryz.prog.make==some Rows.fnReadDocumentRow.make)=true:=by kernel_rfl
theorem lHeard:Tryz.prog.stopsHeard=true:=by kernel_rfl
theorem closed:joinedFacts Tryz.prog 12 Tryz.f12 Rows.fnReadDocumentSpec Rows.fnReadDocumentRow=true:=by
 unfold joinedFacts
 refine b2 (b2 (b2 (b2 (b2 (b2 (b2 (b2 (b2 (b2 (b2 (b2 (b2 (b2 (b2 (b2 (b2 (b2 (b2 (b2 (b2 (b2 (b2 (b2 (b2 (b2 (b2 (b2 (b2 (b2 (b2 ?_ ?_) ?_) ?_) ?_) ?_) ?_) ?_) ?_) ?_) ?_) ?_) ?_) ?_) ?_) ?_) ?_) ?_) ?_) ?_) ?_) ?_) ?_) ?_) ?_) ?_) ?_) ?_) ?_) ?_) ?_) ?_
 ·exact lWf
 ·kernel_rfl
 ·kernel_rfl
 ·kernel_rfl
 ·kernel_rfl
 ·kernel_rfl
 ·kernel_rfl
 ·kernel_rfl
 ·kernel_rfl
 ·exact lInPlace
 ·exact lUnfollowed
 ·exact lRecurses
 ·exact lNamed
 ·kernel_rfl
 ·kernel_rfl
 ·kernel_rfl
 ·kernel_rfl
 ·kernel_rfl
 ·kernel_rfl
 ·kernel_rfl
 ·kernel_rfl
 ·kernel_rfl
 ·kernel_rfl
 ·kernel_rfl
 ·exact lHeard
 ·exact lMay
 ·exact lLifted
 ·exact lMake
 ·kernel_rfl
 ·kernel_rfl
 ·kernel_rfl
 ·kernel_rfl
end Go.Proofs.YtegdjjjpoahamaaGreatDoor.fnReadDocument
