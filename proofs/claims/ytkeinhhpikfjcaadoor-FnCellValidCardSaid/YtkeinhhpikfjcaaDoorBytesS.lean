/-
  spec.l3Letter, spec.l3Digit, by their contracts.
-/
import Derived.Test.YtkeinhhpikfjcaaDoorRows
import Derived.Test.YtkeinhhpikfjcaaDoorNamePlain
import Derived.WalkKit
import Derived.WalkSpells
import Derived.Lib.Hide
import Derived.BigQuiet
import Derived.Deep.QuietTactic
namespace Go.Proofs.YtkeinhhpikfjcaaDoor
open Go.RowKit
set_option linter.unusedVariables false

theorem l3Letter_any (n : Int) (w : World) (_h0 : 0 ≤ n) (_h1 : n ≤ 255) :
    Calls Tryd.prog 32 #[.int .u8 n] w fun e w' => e = .returned (.bool (ltrI n)) ∧ w = w' := by
  by_cases a : 97 ≤ n
  · by_cases b : n ≤ 122
    · have hp : ltrI n = true := by simp [ltrI, a, b]
      rw [hp]; clear hp
      go_enter Tryd.func32, Tryd.ntmps32
      go_wp2
      go_ret
      exact ⟨rfl, rfl⟩
    · have hp : ltrI n = false := by simp [ltrI, b]
      rw [hp]; clear hp
      go_enter Tryd.func32, Tryd.ntmps32
      go_wp2
      go_ret
      exact ⟨rfl, rfl⟩
  · have hp : ltrI n = false := by simp [ltrI, a]
    rw [hp]; clear hp
    go_enter Tryd.func32, Tryd.ntmps32
    go_wp2
    go_ret
    exact ⟨rfl, rfl⟩

theorem l3Digit_any (n : Int) (w : World) (_h0 : 0 ≤ n) (_h1 : n ≤ 255) :
    Calls Tryd.prog 33 #[.int .u8 n] w fun e w' => e = .returned (.bool (digI n)) ∧ w = w' := by
  by_cases a : 48 ≤ n
  · by_cases b : n ≤ 57
    · have hp : digI n = true := by simp [digI, a, b]
      rw [hp]; clear hp
      go_enter Tryd.func33, Tryd.ntmps33
      go_wp2
      go_ret
      exact ⟨rfl, rfl⟩
    · have hp : digI n = false := by simp [digI, b]
      rw [hp]; clear hp
      go_enter Tryd.func33, Tryd.ntmps33
      go_wp2
      go_ret
      exact ⟨rfl, rfl⟩
  · have hp : digI n = false := by simp [digI, a]
    rw [hp]; clear hp
    go_enter Tryd.func33, Tryd.ntmps33
    go_wp2
    go_ret
    exact ⟨rfl, rfl⟩

end Go.Proofs.YtkeinhhpikfjcaaDoor
