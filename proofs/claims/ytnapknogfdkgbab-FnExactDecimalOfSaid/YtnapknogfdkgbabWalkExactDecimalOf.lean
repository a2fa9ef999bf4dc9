/-
  The walk of laws.FnExactDecimalOf.
-/
import Derived.Test.YtnapknogfdkgbabDecSpec
import Derived.Test.YtnapknogfdkgbabFracAt
namespace Go.Proofs.Ytnapknogfdkgbab
open Go.RowKit
set_option linter.unusedVariables false

set_option maxHeartbeats 1000000 in
theorem eqF_one (t b : Int) (w : World) :
    Calls Try.prog 7 #[.agg #[.int .i64 t, .int .i64 b], .agg #[.int .i64 t, .int .i64 b]] w fun e w' => e = .returned (.bool true) ∧ Below w.heap.size w w' := by
  go_enter Try.func7, Try.ntmps7
  go_wp2
  go_ret
  exact ⟨rfl, (((Below.refl _ w).alloc (Nat.le_refl _) _).alloc (by simp) _)⟩

set_option maxRecDepth 100000 in
set_option maxHeartbeats 2000000 in
theorem fnExactDecimalOf_core (s : ByteArray) (w : World) (hs : s.size ≤ maxLen) :
    Calls Try.prog 3 #[.string s] w fun e w' => e = .returned (.bool true) ∧ Below w.heap.size w w' := by
  unfold maxLen at hs
  by_cases hl : s.size ≤ 1048576
  · have cs := fun w' => decimal_spec s w' (by omega)
    have ci := fun w' => decimal_impl s w' (by omega)
    generalize opT (decV s.data.toList) (decX s.data.toList) (decY s.data.toList) = rT at cs ci
    generalize opB (decV s.data.toList) (decX s.data.toList) (decY s.data.toList) = rB at cs ci
    generalize opOK (decV s.data.toList) (decX s.data.toList) (decY s.data.toList) = ok at cs ci
    have HS := Lib.hid cs; have HI := Lib.hid ci; clear cs ci
    go_enter Try.func3, Try.ntmps3
    go_wp2_with fail
    refine (HS.out _).mono ?_
    rintro e w1 ⟨rfl, hb1⟩
    have HB1 := Lib.hid hb1; clear hb1
    go_wp2_with fail
    refine (HI.out _).mono ?_
    rintro e w2 ⟨rfl, hb2⟩
    have F2 : Hid (FrAt w2 w1.heap.size rT rB) := FrAt.keep (FrAt.new _ _ _ _) hb2
    have HB2 := Lib.hid ((HB1.out.alloc HB1.out.size _).trans (hb2.mono (by have := HB1.out.size; simp; omega))); clear hb2 HB1
    obtain ⟨d0, d1⟩ := F2.out.al (.cells #[.int .i64 rT, .int .i64 rB] 23)
    go_wp2_with fail
    refine (eqF_one _ _ _).mono ?_
    rintro e w3 ⟨rfl, hb3⟩
    have HB3 := Lib.hid ((HB2.out.alloc HB2.out.size _).trans (hb3.mono (by have := HB2.out.size; simp; omega))); clear hb3 HB2
    cases ok
    all_goals
      go_wp2
      go_ret
      exact ⟨rfl, HB3.out⟩
  · go_enter Try.func3, Try.ntmps3
    go_wp2
    go_ret
    exact ⟨rfl, Below.refl _ _⟩

end Go.Proofs.Ytnapknogfdkgbab
