/-
  The walk of laws.FnExactFractionText.
-/
import Derived.Test.YtpgbfagacpondaaDoorTextS
import Derived.Test.YtpgbfagacpondaaDoorTextI
import Derived.Test.YtpgbfagacpondaaDoorFracTo
namespace Go.Proofs.YtpgbfagacpondaaDoor
open Go.RowKit
set_option linter.unusedVariables false

set_option maxHeartbeats 2000000 in
theorem fnExactFractionText_core (t b : Int) (w : World) (htab : Tab w) :
    Calls Tryd.prog 3 #[.agg #[.int .i64 t, .int .i64 b]] w fun e w' => e = .returned (.bool true) ∧ Below w.heap.size w w' := by
  have cs := fun w' => fractionText_spec t b w'
  have ci := fun w' (h : Tab w') => fractionText_impl t b w' h
  generalize (⟨(textF t b).toArray⟩ : ByteArray) = Z at cs ci
  have HS := Lib.hid cs; have HI := Lib.hid ci; clear cs ci
  go_enter Tryd.func3, Tryd.ntmps3
  go_wp2_with fail
  refine (toF t b _).mono ?_
  rintro e w1 ⟨rfl, hb1⟩
  have F1 : Hid (FrAt w1 w.heap.size t b) := FrAt.keep (FrAt.new _ _ _ _) hb1
  have T1 := Lib.hid ((htab.al _).keep hb1)
  have HB1 := Lib.hid (((Below.refl _ w).alloc (Nat.le_refl _) _).trans (hb1.mono (by simp))); clear hb1
  go_wp2_with fail
  refine (HS.out _).mono ?_
  rintro e w2 ⟨rfl, hb2⟩
  have F2 : Hid (FrAt w2 w.heap.size t b) := F1.out.keep hb2
  have T2 := Lib.hid (T1.out.keep hb2)
  have HB2 := Lib.hid (HB1.out.trans (hb2.mono HB1.out.size)); clear hb2
  obtain ⟨d0, d1⟩ := F2.out
  go_wp2_with fail
  refine (toF t b _).mono ?_
  rintro e w3 ⟨rfl, hb3⟩
  have T3 := Lib.hid (T2.out.keep hb3)
  have HB3 := Lib.hid (HB2.out.trans (hb3.mono HB2.out.size)); clear hb3
  go_wp2_with fail
  refine (HI.out _ T3.out).mono ?_
  rintro e w4 ⟨rfl, hb4⟩
  have HB4 := Lib.hid (HB3.out.trans (hb4.mono HB3.out.size)); clear hb4
  go_wp2
  go_ret
  exact ⟨rfl, HB4.out⟩

end Go.Proofs.YtpgbfagacpondaaDoor
