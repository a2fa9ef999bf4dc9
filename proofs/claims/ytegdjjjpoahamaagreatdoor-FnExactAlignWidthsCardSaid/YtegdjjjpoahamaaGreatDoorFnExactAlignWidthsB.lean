/-
  FnExactAlignWidths: the closed facts of its row, one by one: together in one equation they want more memory than the kernel is given.
-/
import Derived.Test.YtegdjjjpoahamaaGreatDoorRows
import Derived.Test.YtegdjjjpoahamaaGreatDoorCards
import Derived.Stop.Joined
import Derived.WalkKit
import Derived.ProofKit
namespace Go.Proofs.YtegdjjjpoahamaaGreatDoor.fnExactAlignWidths
open Go.ChangeShapes Go.WideShapes Go.ChangeAt Go.RowKit

theorem b2 {a b : Bool} (ha : a = true) (hb : b = true) : (a && b) = true := by rw [ha, hb]; rfl

theorem lWf : Rows.fnExactAlignWidthsRow.wf (OpenSpec.ofChange Rows.fnExactAlignWidthsSpec) = true := by kernel_rfl
theorem lInPlace : (Rows.fnExactAlignWidthsRow.inPlace == Tryz.prog.inPlace 7) = true := by kernel_rfl
theorem lUnfollowed : (Rows.fnExactAlignWidthsRow.unfollowed == Tryz.prog.unfollowed 7) = true := by kernel_rfl
theorem lRecurses : (Rows.fnExactAlignWidthsRow.recurses == Tryz.prog.recurses 7) = true := by kernel_rfl
theorem lNamed : (Rows.fnExactAlignWidthsRow.named == Tryz.prog.varsNamed 7) = true := by kernel_rfl
theorem lMay : Tryz.prog.mayEnter = true := by kernel_rfl
theorem lLifted : (Rows.fnExactAlignWidthsRow.lifted == Tryz.prog.liftsFinal) = true := by kernel_rfl
theorem lMake : (Tryz.prog.make == some Rows.fnExactAlignWidthsRow.make) = true := by kernel_rfl
theorem lHeard : Tryz.prog.stopsHeard = true := by kernel_rfl

theorem closed : joinedFacts Tryz.prog 7 Tryz.f7 Rows.fnExactAlignWidthsSpec Rows.fnExactAlignWidthsRow = true := by
  unfold joinedFacts
  refine b2 (b2 (b2 (b2 (b2 (b2 (b2 (b2 (b2 (b2 (b2 (b2 (b2 (b2 (b2 (b2 (b2 (b2 (b2 (b2 (b2 (b2 (b2 (b2 (b2 (b2 (b2 (b2 (b2 (b2 (b2 ?_ ?_) ?_) ?_) ?_) ?_) ?_) ?_) ?_) ?_) ?_) ?_) ?_) ?_) ?_) ?_) ?_) ?_) ?_) ?_) ?_) ?_) ?_) ?_) ?_) ?_) ?_) ?_) ?_) ?_) ?_) ?_
  · exact lWf
  · kernel_rfl
  · kernel_rfl
  · kernel_rfl
  · kernel_rfl
  · kernel_rfl
  · kernel_rfl
  · kernel_rfl
  · kernel_rfl
  · exact lInPlace
  · exact lUnfollowed
  · exact lRecurses
  · exact lNamed
  · kernel_rfl
  · kernel_rfl
  · kernel_rfl
  · kernel_rfl
  · kernel_rfl
  · kernel_rfl
  · kernel_rfl
  · kernel_rfl
  · kernel_rfl
  · kernel_rfl
  · kernel_rfl
  · exact lHeard
  · exact lMay
  · exact lLifted
  · exact lMake
  · kernel_rfl
  · kernel_rfl
  · kernel_rfl
  · kernel_rfl
end Go.Proofs.YtegdjjjpoahamaaGreatDoor.fnExactAlignWidths
