/-
  impl.smallLetter, impl.digit, impl.partByte, by their contracts.
-/
import Derived.Test.YtkeinhhpikfjcaaDoorRows
import Derived.Test.YtkeinhhpikfjcaaDoorNamePlain
import Derived.WalkKit
import Derived.WalkSpells
import Derived.Lib.Hide
import Derived.BigQuiet
import Derived.Deep.QuietTactic
namespace Go.Proofs.YtkeinhhpikfjcaaDoor
open Go.RowKit
set_option linter.unusedVariables false

theorem smallLetter_any (n : Int) (w : World) (_h0 : 0 ≤ n) (_h1 : n ≤ 255) :
    Calls Tryd.prog 47 #[.int .u8 n] w fun e w' => e = .returned (.bool (ltrI n)) ∧ w = w' := by
  by_cases a : 97 ≤ n
  · by_cases b : n ≤ 122
    · have hp : ltrI n = true := by simp [ltrI, a, b]
      rw [hp]; clear hp
      go_enter Tryd.func47, Tryd.ntmps47
      go_wp2
      go_ret
      exact ⟨rfl, rfl⟩
    · have hp : ltrI n = false := by simp [ltrI, b]
      rw [hp]; clear hp
      go_enter Tryd.func47, Tryd.ntmps47
      go_wp2
      go_ret
      exact ⟨rfl, rfl⟩
  · have hp : ltrI n = false := by simp [ltrI, a]
    rw [hp]; clear hp
    go_enter Tryd.func47, Tryd.ntmps47
    go_wp2
    go_ret
    exact ⟨rfl, rfl⟩

theorem digit_any (n : Int) (w : World) (_h0 : 0 ≤ n) (_h1 : n ≤ 255) :
    Calls Tryd.prog 56 #[.int .u8 n] w fun e w' => e = .returned (.bool (digI n)) ∧ w = w' := by
  by_cases a : 48 ≤ n
  · by_cases b : n ≤ 57
    · have hp : digI n = true := by simp [digI, a, b]
      rw [hp]; clear hp
      go_enter Tryd.func56, Tryd.ntmps56
      go_wp2
      go_ret
      exact ⟨rfl, rfl⟩
    · have hp : digI n = false := by simp [digI, b]
      rw [hp]; clear hp
      go_enter Tryd.func56, Tryd.ntmps56
      go_wp2
      go_ret
      exact ⟨rfl, rfl⟩
  · have hp : digI n = false := by simp [digI, a]
    rw [hp]; clear hp
    go_enter Tryd.func56, Tryd.ntmps56
    go_wp2
    go_ret
    exact ⟨rfl, rfl⟩

set_option maxHeartbeats 1000000 in
theorem partByte_any (n : Int) (w : World) (h0 : 0 ≤ n) (h1 : n ≤ 255) :
    Calls Tryd.prog 48 #[.int .u8 n] w fun e w' => e = .returned (.bool (parI n)) ∧ w = w' := by
  cases hl : ltrI n with
  | true =>
    have HL := Lib.hid hl
    rw [show parI n = true by simp [parI, hl]]; clear hl
    go_enter Tryd.func48, Tryd.ntmps48
    go_wp2_with fail
    refine (smallLetter_any n _ h0 h1).mono ?_
    rintro e w' ⟨rfl, rfl⟩
    rw [HL.out]
    go_wp2
    go_ret
    exact ⟨rfl, rfl⟩
  | false =>
    have HL := Lib.hid hl
    cases hd : digI n with
    | true =>
      have HD := Lib.hid hd
      rw [show parI n = true by simp [parI, hd]]; clear hl hd
      go_enter Tryd.func48, Tryd.ntmps48
      go_wp2_with fail
      refine (smallLetter_any n _ h0 h1).mono ?_
      rintro e w' ⟨rfl, rfl⟩
      rw [HL.out]
      go_wp2_with fail
      refine (digit_any n _ h0 h1).mono ?_
      rintro e w' ⟨rfl, rfl⟩
      rw [HD.out]
      go_wp2
      go_ret
      exact ⟨rfl, rfl⟩
    | false =>
      have HD := Lib.hid hd
      have HP := Lib.hid (show parI n = (n == 95) by simp [parI, hl, hd]); clear hl hd
      go_enter Tryd.func48, Tryd.ntmps48
      go_wp2_with fail
      refine (smallLetter_any n _ h0 h1).mono ?_
      rintro e w' ⟨rfl, rfl⟩
      rw [HL.out]
      go_wp2_with fail
      refine (digit_any n _ h0 h1).mono ?_
      rintro e w' ⟨rfl, rfl⟩
      rw [HD.out]
      go_wp2
      go_ret
      exact ⟨by rw [HP.out]; rfl, rfl⟩

end Go.Proofs.YtkeinhhpikfjcaaDoor
