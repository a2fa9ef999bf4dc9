/-
  The walk of laws.FnLinesOf.
-/
import Derived.Test.YtoaglggmjmldpaaJoinImpl
import Derived.Test.YtoaglggmjmldpaaLinesImpl
import Derived.Test.YtoaglggmjmldpaaSameTexts
import Derived.Test.YtoaglggmjmldpaaSplit
import Derived.Test.YtoaglggmjmldpaaAlive
import Derived.Test.YtoaglggmjmldpaaDrawLinesOf
namespace Go.Proofs.Ytoaglggmjmldpaa
open Go.RowKit
set_option linter.unusedVariables false

theorem linesTo_sized (s : ByteArray) (k : Nat) : ∀ t ∈ linesTo s k, t.size ≤ s.size := by
  induction k with
  | zero => intro t ht; simp [linesTo] at ht
  | succ k ih =>
    intro t ht
    simp only [linesTo] at ht
    split at ht
    · rcases List.mem_append.1 ht with ht | ht
      · exact ih t ht
      · simp only [List.mem_singleton] at ht; subst ht; rw [ByteArray.size_extract]; omega
    · exact ih t ht
theorem linesB_sized (s : ByteArray) (h : s.size ≤ maxLen) : Sized (linesB s) := by
  intro t ht
  refine Nat.le_trans ?_ h
  unfold linesB at ht
  split at ht
  · unfold linesAll at ht
    split at ht
    · rcases List.mem_append.1 ht with ht | ht
      · exact linesTo_sized s _ t ht
      · simp only [List.mem_singleton] at ht; subst ht; rw [ByteArray.size_extract]; omega
    · exact linesTo_sized s _ t ht
  · cases ht

set_option maxRecDepth 100000 in
set_option maxHeartbeats 2000000 in
theorem fnLinesOf_core (a0 : Option Addr) (len0 cap0 : Nat) (w : World) (hrow : CodeRow w a0 len0 cap0) :
    Calls Try.prog 4 #[.slice a0 len0 cap0] w fun e w' => e = .returned (.bool true) ∧ Below w.heap.size w w' := by
  have hcap := hrow.1; have hmx := hrow.2.1
  unfold maxLen at hmx
  by_cases hl : len0 ≤ 1048576
  · go_enter Try.func4, Try.ntmps4
    go_wp2_with fail
    refine (drawLinesOf_any a0 len0 cap0 _ hrow).mono ?_
    rintro e w1 ⟨s, rfl, hs, hb⟩
    have HB := Lib.hid hb
    clear hb hrow
    have hsm : s.size ≤ maxLen := by unfold maxLen; omega
    go_wp2_with fail
    refine (linesOf_impl s _ hsm).mono ?_
    rintro e w2 ⟨v2, rfl, hown2, hb2⟩
    have R2 := Lib.hid (RowOf.of_own hown2); have B2 := Lib.hid (HB.out.trans (hb2.mono HB.out.size))
    clear hown2 hb2 HB
    go_wp2_with fail
    refine (linesOf_spec s _ hsm).mono ?_
    rintro e w3 ⟨v3, rfl, hown3, hb3⟩
    have R3 := Lib.hid (RowOf.of_own hown3); have B3 := Lib.hid (B2.out.trans (hb3.mono B2.out.size))
    have R23 := Lib.hid (R2.out.mono hb3)
    clear hown3 hb3 B2 R2
    go_wp2_with fail
    refine (sameTexts_any _ _ _ _ _ R23.out R3.out).mono ?_
    rintro e w4 ⟨rfl, n4, hw4⟩
    have B4 := Lib.hid (show Below w.heap.size w w4 by rw [hw4]; exact B3.out.trans ⟨rfl, rfl, rfl, Nat.le_refl _, fun _ _ => rfl⟩)
    have R4 := Lib.hid (show RowOf w4 v2 (strs (linesB s)) by rw [hw4]; exact R23.out.drewN _)
    clear hw4 B3 R3 R23
    rw [show decide (linesB s = linesB s) = true by simp]
    go_wp2_with fail
    refine (textValid_spec s _ hsm).mono ?_
    rintro e w' ⟨rfl, hw'⟩
    subst hw'
    by_cases ht : textB s = true
    · rw [ht]
      have HJ := Lib.hid (join_lines s ht (by omega))
      clear ht
      go_wp2_with fail
      refine (linesText_impl _ _ _ R4.out (linesB_sized s hsm)).mono ?_
      rintro e w5 ⟨rfl, hb5⟩
      have B5 := Lib.hid (B4.out.trans (hb5.mono B4.out.size))
      clear hb5 B4 R4
      rw [HJ.out.1]
      rcases HJ.out.2 with hj | hj
      · rw [hj]
        clear HJ hj
        have e1 : (s.toList == s.toList) = true := by simp
        go_wp2
        go_ret
        exact ⟨rfl, B5.out⟩
      · rw [hj]
        clear HJ hj
        have e1 : ((s ++ { data := #[10] }).toList == (s ++ { data := #[10] }).toList) = true := by simp
        have e2 : ((s ++ { data := #[10] }).toList == s.toList) = false := by
          simp only [ByteArray.toList_eq, beq_eq_false_iff_ne, ne_eq]
          intro he
          have := congrArg List.length he
          simp at this
        go_wp2
        go_ret
        exact ⟨rfl, B5.out⟩
    · rw [Bool.eq_false_iff.mpr ht]
      obtain ⟨ao, cap, hv, -⟩ := R4.out
      rw [strs_length, show linesB s = [] by rw [linesB, if_neg ht]] at hv
      rw [hv]
      clear ht hv R4
      go_wp2_with fail
      refine (alive_any _).mono ?_
      rintro e w' ⟨rfl, hw'⟩
      subst hw'
      go_wp2
      go_ret
      exact ⟨rfl, B4.out⟩
  · go_enter Try.func4, Try.ntmps4
    go_wp2
    go_ret
    exact ⟨rfl, Below.refl _ _⟩

end Go.Proofs.Ytoaglggmjmldpaa
