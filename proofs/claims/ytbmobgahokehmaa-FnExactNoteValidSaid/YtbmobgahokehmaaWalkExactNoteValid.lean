/-
  The walk of laws.FnExactNoteValid.
-/
import Derived.Test.YtbmobgahokehmaaNoteS
import Derived.Test.YtbmobgahokehmaaNoteI
namespace Go.Proofs.Ytbmobgahokehmaa
open Go.RowKit
set_option linter.unusedVariables false

set_option maxHeartbeats 1000000 in
theorem fnExactNoteValid_core (s : ByteArray) (w : World) (hs : s.size ≤ maxLen) :
    Calls Try.prog 4 #[.string s] w fun e w' => e = .returned (.bool true) ∧ Below w.heap.size w w' := by
  have HMX := Lib.hid hs
  unfold maxLen at hs
  by_cases hl : s.size ≤ 1048576
  · cases h9 : noteB s
    all_goals
      go_enter Try.func4, Try.ntmps4
      go_wp2_with fail
      refine (note_spec s _ HMX.out).mono ?_
      rintro e w' ⟨rfl, rfl⟩
      rw [h9]
      go_wp2_with fail
      refine (note_impl s _ HMX.out).mono ?_
      rintro e w' ⟨rfl, rfl⟩
      rw [h9]
      go_wp2
      go_ret
      exact ⟨rfl, Below.refl _ _⟩
  · go_enter Try.func4, Try.ntmps4
    go_wp2
    go_ret
    exact ⟨rfl, Below.refl _ _⟩

end Go.Proofs.Ytbmobgahokehmaa
