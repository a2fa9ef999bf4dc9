/-
  The walk of laws.FnExactFractionValid.
-/
import Derived.Test.YtnapknogfdkgbaaFracTo
import Derived.Deep.RegionHeld3
namespace Go.Proofs.Ytnapknogfdkgbaa
open Go.RowKit
set_option linter.unusedVariables false

set_option maxRecDepth 100000 in
set_option maxHeartbeats 2000000 in
theorem fnExactFractionValid_core (t b : Int) (w : World) :
    Calls Try.prog 3 #[.agg #[.int .i64 t, .int .i64 b]] w fun e w' => e = .returned (.bool true) ∧ Below w.heap.size w w' := by
  go_enter Try.func3, Try.ntmps3
  go_wp2_with fail
  refine (toF _ _ _).mono ?_
  rintro e w1 ⟨rfl, hb1⟩
  have z11 : w1.cell? ⟨w.heap.size, 0, none⟩ = some (.int .i64 t) := keptC hb1 (by simp [go_sem])
  have z12 : w1.cell? ⟨w.heap.size, 1, none⟩ = some (.int .i64 b) := keptC hb1 (by simp [go_sem])
  have HB1 := Lib.hid (((Below.refl _ w).alloc (Nat.le_refl _) _).trans (hb1.mono (by first | (simp; done) | (simp; omega)))); clear hb1
  go_wp2_with fail
  refine (valid_spec _ _ _).mono ?_
  rintro e w2 ⟨rfl, hb2⟩
  have z21 := keptC hb2 z11; have z22 := keptC hb2 z12
  have HB2 := Lib.hid (HB1.out.trans (hb2.mono HB1.out.size)); clear hb2 HB1 z11 z12
  go_wp2_with fail
  refine (toF _ _ _).mono ?_
  rintro e w3 ⟨rfl, hb3⟩
  have z31 := keptC hb3 z21; have z32 := keptC hb3 z22
  have HB3 := Lib.hid (HB2.out.trans (hb3.mono HB2.out.size)); clear hb3 HB2 z21 z22
  go_wp2_with fail
  refine (valid_impl _ _ _).mono ?_
  rintro e w4 ⟨rfl, hb4⟩
  have HB4 := Lib.hid (HB3.out.trans (hb4.mono HB3.out.size)); clear hb4 HB3 z31 z32
  generalize vB t b = v
  cases v
  all_goals
    go_wp2
    go_ret
    exact ⟨rfl, HB4.out⟩

end Go.Proofs.Ytnapknogfdkgbaa
