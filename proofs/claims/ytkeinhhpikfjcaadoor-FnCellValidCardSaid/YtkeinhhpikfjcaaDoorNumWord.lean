/-
  impl.numberWord, by its contract.
-/
import Derived.Test.YtkeinhhpikfjcaaDoorCellPlain
import Derived.Test.YtkeinhhpikfjcaaDoorReadI
import Derived.Test.YtkeinhhpikfjcaaDoorFracAt
namespace Go.Proofs.YtkeinhhpikfjcaaDoor
open Go.RowKit
set_option linter.unusedVariables false

set_option maxRecDepth 100000 in
set_option maxHeartbeats 4000000 in
theorem numberWord_any (s : ByteArray) (w : World) (hs : s.size ≤ 2097152) (htab : Tab w) :
    Calls Tryd.prog 25 #[.string s] w fun e w' => e = .returned (.bool (numB s)) ∧ Below w.heap.size w w' := by
  have ci := readFraction_impl s w hs htab
  cases ho : rdOK s with
  | false =>
    have HB := Lib.hid (show numB s = false by simp [numB, ho])
    rw [HB.out]
    rw [ho] at ci
    generalize rdT s = T at ci
    generalize rdB s = B at ci
    have CI := Lib.hid ci; clear ci ho
    go_enter Tryd.func25, Tryd.ntmps25
    go_wp2_with fail
    refine (CI.out).mono ?_
    rintro e w1 ⟨rfl, hb1⟩
    have B1 := Lib.hid hb1; clear hb1
    go_wp2
    go_ret
    exact ⟨rfl, B1.out.alloc B1.out.size _⟩
  | true =>
    obtain ⟨b1, b2⟩ := rd_bottom s ho
    have HN : numB s = (decide (0 ≤ rdT s) && ((1000000 : Int).tmod (rdB s) == 0)) := by simp [numB, ho]
    rw [ho] at ci
    generalize rdT s = T at ci HN
    generalize rdB s = B at ci HN b1 b2
    obtain ⟨b, rfl⟩ := Int.eq_ofNat_of_zero_le (show 0 ≤ B by omega)
    by_cases h0 : 0 ≤ T
    · have HM := Lib.hid (show numB s = decide (1000000 % b = 0) by
        rw [HN, decide_eq_true h0, Bool.true_and, show (1000000 : Int).tmod (b : Int) = ((1000000 % b : Nat) : Int) from tm 1000000 b, Bool.eq_iff_iff, beq_iff_eq, decide_eq_true_eq]; omega)
      rw [HM.out]
      have CI := Lib.hid ci; clear ci HN ho
      go_enter Tryd.func25, Tryd.ntmps25
      go_wp2_with fail
      refine (CI.out).mono ?_
      rintro e w1 ⟨rfl, hb1⟩
      have B1 := Lib.hid (hb1.alloc hb1.size (.cells #[.int .i64 T, .int .i64 (b : Int)] 41)); clear hb1
      go_wp2_with fail
      refine (decimal_m T b _ (by omega)).mono ?_
      rintro e w2 ⟨rfl, hb2⟩
      have B2 := Lib.hid (B1.out.trans (hb2.mono B1.out.size)); clear hb2
      go_wp2
      go_ret
      exact ⟨rfl, B2.out⟩
    · have HM := Lib.hid (show numB s = false by rw [HN, decide_eq_false h0]; rfl)
      rw [HM.out]
      have CI := Lib.hid ci; clear ci HN ho
      go_enter Tryd.func25, Tryd.ntmps25
      go_wp2_with fail
      refine (CI.out).mono ?_
      rintro e w1 ⟨rfl, hb1⟩
      have B1 := Lib.hid hb1; clear hb1
      go_wp2
      go_ret
      exact ⟨rfl, B1.out.alloc B1.out.size _⟩

end Go.Proofs.YtkeinhhpikfjcaaDoor
