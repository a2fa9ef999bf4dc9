/-
  What stands before and behind the first byte of a kind, plainly.
-/
import Derived.Lib.Bytealg
namespace Go.Proofs.YtpgbfagacpondaaDoor
set_option linter.unusedVariables false

theorem ixc_cases (l : List UInt8) (c : UInt8) : (Lib.indexByte l c = -1 ∧ c ∉ l) ∨ ∃ k : Nat, Lib.indexByte l c = k ∧ k < l.length ∧ c ∉ l.take k ∧ l = l.take k ++ c :: l.drop (k + 1) := by
  induction l with
  | nil => left; simp [Lib.indexByte]
  | cons b t ih =>
    simp only [Lib.indexByte]
    by_cases hb : (b == c) = true
    · right
      refine ⟨0, ?_, by simp, by simp, ?_⟩
      · rw [if_pos hb]; rfl
      · simp at hb; simp [hb]
    · rw [if_neg hb]
      have hb' : c ≠ b := by intro e; apply hb; simp [e]
      rcases ih with ⟨h1, h2⟩ | ⟨k, h1, h2, h3, h4⟩
      · left
        rw [if_pos (by rw [h1]; rfl)]
        exact ⟨rfl, by simp [hb', h2]⟩
      · right
        refine ⟨k + 1, ?_, by simp [h2], by simp [hb', h3], ?_⟩
        · rw [if_neg (by rw [h1, beq_iff_eq]; omega), h1]; omega
        · simp only [List.take_succ_cons, List.drop_succ_cons, List.cons_append]
          rw [← h4]

end Go.Proofs.YtpgbfagacpondaaDoor
