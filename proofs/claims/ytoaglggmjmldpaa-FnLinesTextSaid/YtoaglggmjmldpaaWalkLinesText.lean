/-
  The walk of laws.FnLinesText.
-/
import Derived.Test.YtoaglggmjmldpaaJoinImpl
import Derived.Test.YtoaglggmjmldpaaLinesImpl
import Derived.Test.YtoaglggmjmldpaaSameTexts
import Derived.Test.YtoaglggmjmldpaaSplit
import Derived.Test.YtoaglggmjmldpaaAlive
import Derived.Test.YtoaglggmjmldpaaDrawLinesText
namespace Go.Proofs.Ytoaglggmjmldpaa
open Go.RowKit
set_option linter.unusedVariables false

set_option maxRecDepth 100000 in
set_option maxHeartbeats 2000000 in
theorem fnLinesText_core (a0 : Option Addr) (len0 cap0 : Nat) (w : World) (hrow : CodeRow w a0 len0 cap0) :
    Calls Try.prog 5 #[.slice a0 len0 cap0] w fun e w' => e = .returned (.bool true) ∧ Below w.heap.size w w' := by
  have hcap := hrow.1; have hmx := hrow.2.1
  unfold maxLen at hmx
  by_cases hl : len0 ≤ 1048576
  · go_enter Try.func5, Try.ntmps5
    go_wp2_with fail
    refine (drawLinesText_any a0 len0 cap0 _ hrow).mono ?_
    rintro e w1 ⟨L, v1, rfl, hL, hsz, hown1, hb⟩
    have B1 := Lib.hid hb; have R1 := Lib.hid (RowOf.of_own hown1)
    have Z := Lib.hid (show Sized L from fun t ht => by have := hsz t ht; unfold maxLen; omega)
    clear hb hrow hown1 hsz
    go_wp2_with fail
    refine (linesText_impl _ L _ R1.out Z.out).mono ?_
    rintro e w2 ⟨rfl, hb2⟩
    have B2 := Lib.hid (B1.out.trans (hb2.mono B1.out.size)); have R2 := Lib.hid (R1.out.mono hb2)
    clear hb2 B1 R1
    go_wp2_with fail
    refine (linesText_spec _ L _ R2.out Z.out).mono ?_
    rintro e w' ⟨rfl, hw'⟩
    subst hw'
    by_cases hj : joinOk L = true
    · have HJ := Lib.hid (lines_join L hj)
      have HS := Lib.hid (show (joinB L).size ≤ maxLen by
        have := (lines_join L hj).1
        simp only [textB, Bool.and_eq_true, decide_eq_true_eq] at this
        unfold maxLen; omega)
      rw [hj]
      clear hj
      generalize joinB L = s at HJ HS ⊢
      have e1 : (s.toList == s.toList) = true := by simp
      go_wp2_with fail
      refine (linesOf_impl s _ HS.out).mono ?_
      rintro e w3 ⟨v3, rfl, hown3, hb3⟩
      have B3 := Lib.hid (B2.out.trans (hb3.mono B2.out.size)); have R3 := Lib.hid (R2.out.mono hb3); have S3 := Lib.hid (RowOf.of_own hown3)
      clear hown3 hb3 B2 R2
      rw [HJ.out.2] at S3
      go_wp2_with fail
      refine (sameTexts_any _ _ _ _ _ S3.out R3.out).mono ?_
      rintro e w4 ⟨rfl, n4, hw4⟩
      have B4 := Lib.hid (show Below w.heap.size w w4 by rw [hw4]; exact B3.out.trans ⟨rfl, rfl, rfl, Nat.le_refl _, fun _ _ => rfl⟩)
      clear hw4 B3 R3 S3
      rw [show decide (L = L) = true by simp]
      go_wp2_with fail
      refine (textValid_impl s _ HS.out).mono ?_
      rintro e w' ⟨rfl, hw'⟩
      subst hw'
      rw [HJ.out.1]
      go_wp2
      go_ret
      exact ⟨rfl, B4.out⟩
    · rw [show joinB L = ⟨#[]⟩ by rw [joinB, if_neg hj]; rfl, Bool.eq_false_iff.mpr hj]
      clear hj R2
      go_wp2_with fail
      refine (alive_any _).mono ?_
      rintro e w' ⟨rfl, hw'⟩
      subst hw'
      go_wp2
      go_ret
      exact ⟨rfl, B2.out⟩
  · go_enter Try.func5, Try.ntmps5
    go_wp2
    go_ret
    exact ⟨rfl, Below.refl _ _⟩

end Go.Proofs.Ytoaglggmjmldpaa
