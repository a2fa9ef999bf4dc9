/-
  The walk of laws.FnExactNameValid.
-/
import Derived.Test.YtiehdnompeibiaaNameV
import Derived.Test.YtiehdnompeibiaaNameS
namespace Go.Proofs.Ytiehdnompeibiaa
open Go.RowKit
set_option linter.unusedVariables false

set_option maxHeartbeats 2000000 in
theorem fnExactNameValid_core (s : ByteArray) (w : World) (hs : s.size ≤ maxLen) :
    Calls Try.prog 3 #[.string s] w fun e w' => e = .returned (.bool true) ∧ Below w.heap.size w w' := by
  have HMX := Lib.hid hs
  unfold maxLen at hs
  by_cases hl : s.size ≤ 1048576
  · go_enter Try.func3, Try.ntmps3
    go_wp2_with fail
    refine (nameValid_spec s _ HMX.out).mono ?_
    rintro e w' ⟨rfl, rfl⟩
    go_wp2_with fail
    refine (nameValid_impl s _ HMX.out).mono ?_
    rintro e w1 ⟨rfl, hb1⟩
    have HB1 := Lib.hid hb1; clear hb1
    generalize nameL s.data.toList = x
    cases x
    all_goals
      go_wp2
      go_ret
      exact ⟨rfl, HB1.out⟩
  · go_enter Try.func3, Try.ntmps3
    go_wp2
    go_ret
    exact ⟨rfl, Below.refl _ _⟩

end Go.Proofs.Ytiehdnompeibiaa
