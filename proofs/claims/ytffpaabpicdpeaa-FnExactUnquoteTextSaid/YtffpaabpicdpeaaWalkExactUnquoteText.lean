/-
  The walk of laws.FnExactUnquoteText.
-/
import Derived.Test.YtffpaabpicdpeaaUnqSpec
import Derived.Test.YtffpaabpicdpeaaUnqImpl
import Derived.Test.YtffpaabpicdpeaaRows2
namespace Go.Proofs.Ytffpaabpicdpeaa
open Go.RowKit
set_option linter.unusedVariables false

set_option maxRecDepth 100000 in
set_option maxHeartbeats 2000000 in
theorem fnExactUnquoteText_core (s : ByteArray) (w : World) (hs : s.size ≤ maxLen) :
    Calls Try.prog 6 #[.string s] w fun e w' => e = .returned (.bool true) ∧ Below w.heap.size w w' := by
  have HMX := Lib.hid hs
  unfold maxLen at hs
  by_cases hl : s.size ≤ 1048576
  · have cs := fun w' => unquoteText_spec s w' HMX.out
    have ci := fun w' => unquoteText_impl s w' HMX.out
    generalize unqT s = q at cs ci
    generalize unqOK s = ok at cs ci
    have CS := Lib.hid cs; have CI := Lib.hid ci
    clear cs ci
    go_enter Try.func6, Try.ntmps6
    go_wp2_with fail
    refine (CS.out _).mono ?_
    rintro e w' ⟨rfl, rfl⟩
    go_wp2_with fail
    refine (CI.out _).mono ?_
    rintro e w1 ⟨rfl, hb1⟩
    have HB1 := Lib.hid hb1; clear hb1
    cases ok
    all_goals
      go_wp2
      go_ret
      exact ⟨rfl, HB1.out⟩
  · go_enter Try.func6, Try.ntmps6
    go_wp2
    go_ret
    exact ⟨rfl, Below.refl _ _⟩

end Go.Proofs.Ytffpaabpicdpeaa
