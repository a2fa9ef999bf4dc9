/-
  The walk of laws.FnExactReadFraction.
-/
import Derived.Test.YtpgbfagacpondaaDoorReadSAll
import Derived.Test.YtpgbfagacpondaaDoorReadI
import Derived.Test.YtpgbfagacpondaaDoorFracTo
namespace Go.Proofs.YtpgbfagacpondaaDoor
open Go.RowKit
set_option linter.unusedVariables false

set_option maxRecDepth 100000 in
set_option maxHeartbeats 2000000 in
theorem fnExactReadFraction_core (s : ByteArray) (w : World) (hs : s.size ≤ maxLen) (htab : Tab w) :
    Calls Tryd.prog 5 #[.string s] w fun e w' => e = .returned (.bool true) ∧ Below w.heap.size w w' := by
  unfold maxLen at hs
  by_cases hl : s.size ≤ 1048576
  · have cs := fun w' => readFraction_spec s w' (by omega)
    have ci := fun w' (h : Tab w') => readFraction_impl s w' (by omega) h
    generalize rdT s = rT at cs ci
    generalize rdB s = rB at cs ci
    generalize rdOK s = ok at cs ci
    have HS := Lib.hid cs; have HI := Lib.hid ci; clear cs ci
    go_enter Tryd.func5, Tryd.ntmps5
    go_wp2_with fail
    refine (HS.out _).mono ?_
    rintro e w1 ⟨rfl, hb1⟩
    have T1 := Lib.hid (htab.keep hb1)
    have HB1 := Lib.hid hb1; clear hb1
    go_wp2_with fail
    refine (HI.out _ (T1.out.al _)).mono ?_
    rintro e w2 ⟨rfl, hb2⟩
    have F2 : Hid (FrAt w2 w1.heap.size rT rB) := FrAt.keep (FrAt.new _ _ _ _) hb2
    have HB2 := Lib.hid ((HB1.out.alloc HB1.out.size _).trans (hb2.mono (by have := HB1.out.size; simp; omega))); clear hb2 HB1
    obtain ⟨d0, d1⟩ := F2.out.al (.cells #[.int .i64 rT, .int .i64 rB] 25)
    go_wp2_with fail
    refine (eqF_same _ _ _).mono ?_
    rintro e w3 ⟨rfl, hb3⟩
    have HB3 := Lib.hid ((HB2.out.alloc HB2.out.size _).trans (hb3.mono (by have := HB2.out.size; simp; omega))); clear hb3 HB2
    cases ok
    all_goals
      go_wp2
      go_ret
      exact ⟨rfl, HB3.out⟩
  · go_enter Tryd.func5, Tryd.ntmps5
    go_wp2
    go_ret
    exact ⟨rfl, Below.refl _ _⟩

end Go.Proofs.YtpgbfagacpondaaDoor
