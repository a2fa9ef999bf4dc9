/-
  The walk of laws.FnTextValid.
-/
import Derived.Test.YtoaglggmjmldpaaTexts
import Derived.Test.YtoaglggmjmldpaaAlive
import Derived.Test.YtoaglggmjmldpaaDrawTextValid
namespace Go.Proofs.Ytoaglggmjmldpaa
open Go.RowKit
set_option linter.unusedVariables false

theorem okL_part (l : List UInt8) (k : Nat) (h : okL l = true) : okL (l.take k) = true := by
  simp only [okL, List.all_eq_true] at h ⊢
  intro x hx
  exact h x (List.mem_of_mem_take hx)

theorem textB_part (s : ByteArray) (n : Nat) (h : textB s = true) : textB (s.extract 0 n) = true := by
  simp only [textB, Bool.and_eq_true, decide_eq_true_eq] at h ⊢
  refine ⟨by rw [ByteArray.size_extract]; omega, ?_⟩
  have e : (s.extract 0 n).data.toList = s.data.toList.take n := by
    simp [ByteArray.data_extract, List.extract]
  rw [e]
  exact okL_part _ _ h.2
theorem one_size (s : ByteArray) : (s ++ ⟨#[1]⟩).size = s.size + 1 := by rw [ByteArray.size_append]; rfl
theorem textB_one (s : ByteArray) : textB (s ++ ⟨#[1]⟩) = false := by
  have e : (s ++ ⟨#[1]⟩).data.toList = s.data.toList ++ [1] := by
    simp
  rw [textB, e, okL_snoc]
  simp [okI, plainI]

set_option maxHeartbeats 1000000 in
theorem fnTextValid_core (a0 : Option Addr) (len0 cap0 : Nat) (w : World) (hrow : CodeRow w a0 len0 cap0) :
    Calls Try.prog 3 #[.slice a0 len0 cap0] w fun e w' => e = .returned (.bool true) ∧ Below w.heap.size w w' := by
  have hcap := hrow.1; have hmx := hrow.2.1
  unfold maxLen at hmx
  by_cases hl : len0 ≤ 1048576
  · go_enter Try.func3, Try.ntmps3
    go_wp2_with fail
    refine (drawTextValid_any a0 len0 cap0 _ hrow).mono ?_
    rintro e w1 ⟨s, rfl, hs, hb⟩
    have HB := Lib.hid hb
    clear hb hrow
    go_wp2_with fail
    refine (textValid_impl s _ (by unfold maxLen; omega)).mono ?_
    rintro e w' ⟨rfl, rfl⟩
    go_wp2_with fail
    refine (textValid_spec s _ (by unfold maxLen; omega)).mono ?_
    rintro e w' ⟨rfl, rfl⟩
    by_cases ht : textB s = true
    · rw [ht]
      have HT := Lib.hid ht; clear ht
      go_wp2_with fail
      refine (textValid_impl _ _ (by unfold maxLen; simp; omega)).mono ?_
      rintro e w' ⟨rfl, rfl⟩
      rw [textB_part s _ HT.out]
      go_wp2_with fail
      refine (textValid_impl _ _ (by have := one_size s; unfold maxLen; omega)).mono ?_
      rintro e w' ⟨rfl, rfl⟩
      rw [textB_one s]
      go_wp2_with fail
      refine (alive_any _).mono ?_
      rintro e w' ⟨rfl, rfl⟩
      go_wp2
      go_ret
      exact ⟨rfl, HB.out⟩
    · rw [Bool.eq_false_iff.mpr ht]
      go_wp2_with fail
      refine (textValid_impl _ _ (by have := one_size s; unfold maxLen; omega)).mono ?_
      rintro e w' ⟨rfl, rfl⟩
      rw [textB_one s]
      go_wp2_with fail
      refine (alive_any _).mono ?_
      rintro e w' ⟨rfl, rfl⟩
      go_wp2
      go_ret
      exact ⟨rfl, HB.out⟩
  · go_enter Try.func3, Try.ntmps3
    go_wp2
    go_ret
    exact ⟨rfl, Below.refl _ _⟩

end Go.Proofs.Ytoaglggmjmldpaa
