/-
  There are no more best lines than words.
-/
import Derived.Test.YtbddokfcohnndabDoorWrapWL
namespace Go.Proofs.YtbddokfcohnndabDoor
set_option linter.unusedVariables false

theorem wlB_len (L : List ByteArray) (x : Int) : (wlB L x).length ≤ 20 := by
  unfold wlB
  by_cases hf : fitB L x = true
  · rw [if_pos hf]
    obtain ⟨n, rfl, h1, h2, h3⟩ := fit_S hf
    have h4 := (best_len h3).1
    have h7 := fit_len hf
    rw [szW_len] at h4
    rw [Int.toNat_natCast]
    omega
  · rw [if_neg hf]; simp

end Go.Proofs.YtbddokfcohnndabDoor
