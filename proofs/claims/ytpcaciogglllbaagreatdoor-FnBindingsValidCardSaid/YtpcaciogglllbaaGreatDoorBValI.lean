/-
  impl.BindingsValid, by its contract.
-/
import Derived.Test.YtpcaciogglllbaaGreatDoorBoundI
namespace Go.Proofs.YtpcaciogglllbaaGreatDoor
open Go.RowKit
set_option linter.unusedVariables false

set_option maxRecDepth 100000 in
set_option maxHeartbeats 4000000 in
theorem bindingsValid_impl (v : Value) (env : List Bd) (w : World) (hr : RowB w v env) (hz : ShortB env) (htab : Tab w) :
    Calls Tryz.prog 30 #[v] w fun e w' => e = .returned (.bool (bindOK env)) ∧ Below w.heap.size w w' := by
  have HB := Lib.hid (boundValues_any v env w hr hz htab)
  obtain ⟨ao, cap, rfl, -⟩ := hr
  clear hz htab
  go_enter Tryz.func30, Tryz.ntmps30
  go_wp2_with fail
  refine HB.out.mono ?_
  rintro e w1 ⟨hb1, ⟨B, rfl, hok, -⟩ | ⟨rfl, hno⟩⟩
  · have HOK := Lib.hid hok; have HB1 := Lib.hid hb1; clear hok hb1
    go_wp2
    go_ret
    exact ⟨ret_b HOK.out.symm, HB1.out⟩
  · have HOK := Lib.hid hno; have HB1 := Lib.hid hb1; clear hno hb1
    go_wp2
    go_ret
    exact ⟨ret_b HOK.out.symm, HB1.out⟩

end Go.Proofs.YtpcaciogglllbaaGreatDoor
