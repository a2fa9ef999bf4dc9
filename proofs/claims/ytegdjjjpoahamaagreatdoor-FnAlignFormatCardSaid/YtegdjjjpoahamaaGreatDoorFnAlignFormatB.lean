/-
  FnAlignFormat: the closed facts of its row, one by one: together in one equation they want more memory than the kernel is given.
-/
import Derived.Test.YtegdjjjpoahamaaGreatDoorRows
import Derived.Test.YtegdjjjpoahamaaGreatDoorCards
import Derived.Stop.Joined
import Derived.WalkKit
import Derived.ProofKit
set_option linter.unusedVariables false
namespace Go.Proofs.YtegdjjjpoahamaaGreatDoor.fnAlignFormat
open Go.ChangeShapes Go.WideShapes Go.ChangeAt Go.RowKit
theorem b2 {a b:Bool} (ha:a=true) (hb:b=true):(a&&b)=true:=by rw [ha,hb];rfl
theorem lWf:Rows.fnAlignFormatRow.wf (OpenSpec.ofChange Rows.fnAlignFormatSpec)=true:=by kernel_rfl
theorem lInPlace:(Rows.fnAlignFormatRow.inPlace==Tryz.prog.inPlace 6)=true:=by kernel_rfl
theorem lUnfollowed:(Rows.fnAlignFormatRow.unfollowed==Tryz.prog.unfollowed 6)=true:=by kernel_rfl
theorem lRecurses:(Rows.fnAlignFormatRow.recurses==Tryz.prog.recurses 6)=true:=by kernel_rfl
theorem lNamed:(Rows.fnAlignFormatRow.named==Tryz.prog.varsNamed 6)=true:=by kernel_rfl
theorem lMay:Tryz.prog.mayEnter=true:=by kernel_rfl
theorem lLifted:(Rows.fnAlignFormatRow.lifted==Tryz.prog.liftsFinal)=true:=by kernel_rfl
theorem lMake:(Tryz.prog.make==some Rows.fnAlignFormatRow.make)=true:=by kernel_rfl
theorem lHeard:Tryz.prog.stopsHeard=true:=by kernel_rfl
theorem closed:joinedFacts Tryz.prog 6 Tryz.f6 Rows.fnAlignFormatSpec Rows.fnAlignFormatRow=true:=by
 unfold joinedFacts
 refine b2 (b2 (b2 (b2 (b2 (b2 (b2 (b2 (b2 (b2 (b2 (b2 (b2 (b2 (b2 (b2 (b2 (b2 (b2 (b2 (b2 (b2 (b2 (b2 (b2 (b2 (b2 (b2 (b2 (b2 (b2 ?_ ?_) ?_) ?_) ?_) ?_) ?_) ?_) ?_) ?_) ?_) ?_) ?_) ?_) ?_) ?_) ?_) ?_) ?_) ?_) ?_) ?_) ?_) ?_) ?_) ?_) ?_) ?_) ?_) ?_) ?_) ?_
 ·exact lWf
 ·kernel_rfl
 ·kernel_rfl
 ·kernel_rfl
 ·kernel_rfl
 ·kernel_rfl
 ·kernel_rfl
 ·kernel_rfl
 ·kernel_rfl
 ·exact lInPlace
 ·exact lUnfollowed
 ·exact lRecurses
 ·exact lNamed
 ·kernel_rfl
 ·kernel_rfl
 ·kernel_rfl
 ·kernel_rfl
 ·kernel_rfl
 ·kernel_rfl
 ·kernel_rfl
 ·kernel_rfl
 ·kernel_rfl
 ·kernel_rfl
 ·kernel_rfl
 ·exact lHeard
 ·exact lMay
 ·exact lLifted
 ·exact lMake
 ·kernel_rfl
 ·kernel_rfl
 ·kernel_rfl
 ·kernel_rfl
end Go.Proofs.YtegdjjjpoahamaaGreatDoor.fnAlignFormat
