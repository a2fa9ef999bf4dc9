/-
  The walk of laws.FnExactCellValid.
-/
import Derived.Test.YtkeinhhpikfjcaaDoorCellI
import Derived.Test.YtkeinhhpikfjcaaDoorCellS
import Derived.Test.YtkeinhhpikfjcaaDoorToCell1
namespace Go.Proofs.YtkeinhhpikfjcaaDoor
open Go.RowKit
set_option linter.unusedVariables false

set_option maxRecDepth 100000 in
set_option maxHeartbeats 4000000 in
theorem fnExactCellValid_core (k : Int) (s : ByteArray) (m : Int) (w : World) (hs : s.size ≤ maxLen) (htab : Tab w) :
    Calls Tryd.prog 4 #[.agg #[.int .i64 k, .string s, .int .i64 m]] w fun e w' => e = .returned (.bool true) ∧ Below w.heap.size w w' := by
  have HMX := Lib.hid hs
  unfold maxLen at hs
  by_cases hl : s.size ≤ 1048576
  · have hl' : (s.size : Int) ≤ 1048576 := by omega
    have CS := Lib.hid (fun w' => cellValid_spec k m s w' hl)
    have CI := Lib.hid (fun w' h => cellValid_impl k m s w' HMX.out h)
    go_enter Tryd.func4, Tryd.ntmps4
    go_wp2_with fail
    refine (szCell_any k m s 1048576 _ HMX.out (by omega) (by omega)).mono ?_
    rintro e w1 ⟨rfl, hb1⟩
    obtain ⟨d0, d1, d2⟩ := boxed hb1
    have B1 := Lib.hid (((Below.refl w.heap.size w).alloc (Nat.le_refl _) _).trans (hb1.mono (by simp)))
    have X1 := Lib.hid (((Below.refl (w.alloc (.cells #[.int .i64 k, .string s, .int .i64 m] 29)).heap.size _).trans hb1)); clear hb1
    rw [if_pos hl']
    go_wp2_with fail
    refine (toCell_any k m s _).mono ?_
    rintro e w2 ⟨rfl, hb2⟩
    have X2 := Lib.hid (X1.out.trans (hb2.mono X1.out.size)); clear hb2
    go_wp2_with fail
    refine (CS.out _).mono ?_
    rintro e w3 ⟨rfl, hb3⟩
    have X3 := Lib.hid (X2.out.trans (hb3.mono X2.out.size)); clear hb3
    obtain ⟨f0, f1, f2⟩ := boxed X3.out
    go_wp2_with fail
    refine (toCell_any k m s _).mono ?_
    rintro e w4 ⟨rfl, hb4⟩
    have X4 := Lib.hid (X3.out.trans (hb4.mono X3.out.size)); clear hb4
    have B4 := Lib.hid (((Below.refl w.heap.size w).alloc (Nat.le_refl _) _).trans (X4.out.mono (by simp)))
    go_wp2_with fail
    refine (CI.out _ (htab.keep B4.out)).mono ?_
    rintro e w5 ⟨rfl, hb5⟩
    have B5 := Lib.hid (B4.out.trans (hb5.mono B4.out.size)); clear hb5
    generalize cellB k s m = ok
    cases ok
    all_goals
      go_wp2
      go_ret
      exact ⟨rfl, B5.out⟩
  · have hl' : ¬ (s.size : Int) ≤ 1048576 := by omega
    go_enter Tryd.func4, Tryd.ntmps4
    go_wp2_with fail
    refine (szCell_any k m s 1048576 _ HMX.out (by omega) (by omega)).mono ?_
    rintro e w1 ⟨rfl, hb1⟩
    have B1 := Lib.hid (((Below.refl w.heap.size w).alloc (Nat.le_refl _) _).trans (hb1.mono (by simp))); clear hb1
    rw [if_neg (by omega)]
    go_wp2
    go_ret
    exact ⟨rfl, B1.out⟩

end Go.Proofs.YtkeinhhpikfjcaaDoor
