/-
  There are no more lines than words.
-/
import Derived.Test.YtbddokfcohnndaaWrapGI
import Derived.Test.YtbddokfcohnndaaWrapWL
namespace Go.Proofs.Ytbddokfcohnndaa
set_option linter.unusedVariables false

theorem glB_len (L : List ByteArray) (x : Int) : (glB L x).length ≤ 20 := by
  unfold glB
  by_cases hf : fitB L x = true
  · rw [if_pos hf]
    obtain ⟨n, rfl, h1, h2, h3⟩ := fit_S hf
    obtain ⟨c, hc⟩ := gl_ok _ _ rfl h3
    obtain ⟨-, h4, h5⟩ := costR_sum _ _ _ _ hc
    have h6 := len_sum _ h5
    have h7 := fit_len hf
    rw [szW_len] at h4
    omega
  · rw [if_neg hf]; simp
theorem wlB_len (L : List ByteArray) (x : Int) : (wlB L x).length ≤ 20 := by
  unfold wlB
  by_cases hf : fitB L x = true
  · rw [if_pos hf]
    obtain ⟨n, rfl, h1, h2, h3⟩ := fit_S hf
    have h4 := (best_len h3).1
    have h7 := fit_len hf
    rw [szW_len] at h4
    rw [Int.toNat_natCast]
    omega
  · rw [if_neg hf]; simp

end Go.Proofs.Ytbddokfcohnndaa
