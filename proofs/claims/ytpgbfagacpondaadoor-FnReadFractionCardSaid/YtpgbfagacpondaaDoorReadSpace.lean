/-
  No text of a fraction has a space; what is read is written back.
-/
import Derived.Test.YtpgbfagacpondaaDoorReadBack
namespace Go.Proofs.YtpgbfagacpondaaDoor
open Go.RowKit
set_option linter.unusedVariables false

theorem dgt_ne32 (n : Nat) (h : n < 10) : (32 : UInt8) ≠ dgt n := by
  match n, h with
  | 0, _ | 1, _ | 2, _ | 3, _ | 4, _ | 5, _ | 6, _ | 7, _ | 8, _ | 9, _ => decide
theorem dec_no32 (n : Nat) : (32 : UInt8) ∉ Lib.decDigits n := by
  induction n using Nat.strongRecOn with
  | _ n ih =>
    by_cases h : n < 10
    · rw [dec_small h]; simpa using dgt_ne32 n h
    · rw [dec_big h]
      have := ih (n / 10) (by omega)
      simp only [List.mem_append, List.mem_singleton, not_or]
      exact ⟨this, dgt_ne32 _ (Nat.mod_lt _ (by omega))⟩
theorem frs_no32 (f : Nat) : ∀ r b, 0 < b → r < b → (32 : UInt8) ∉ frs f r b := by
  induction f with
  | zero => intro r b _ _; simp [frs]
  | succ f ih =>
    intro r b hb hr
    unfold frs
    split
    · simp
    · simp only [List.mem_cons, not_or]
      exact ⟨dgt_ne32 _ (Nat.div_lt_of_lt_mul (by omega)), ih _ _ hb (Nat.mod_lt _ hb)⟩
theorem pos_no32 (t b : Nat) (hb : 0 < b) : (32 : UInt8) ∉ posText t b := by
  have h1 := dec_no32 (t / b); have h2 := dec_no32 t; have h3 := dec_no32 b
  have h4 := frs_no32 6 (t % b) b hb (Nat.mod_lt _ hb)
  unfold posText decText
  split
  · split
    · simp [h1]
    · simp [h1, h4]
  · simp [h2, h3]
theorem text_no32 (t b : Int) : (32 : UInt8) ∉ textF t b := by
  unfold textF
  split
  · rename_i hv
    obtain ⟨v1, v2, v3, v4⟩ := vB_bd hv
    unfold fracT
    split
    · have := pos_no32 (-t).toNat b.toNat (by omega)
      simp [this]
    · exact pos_no32 t.toNat b.toNat (by omega)
  · simp
theorem read_text (s : ByteArray) (h : rdOK s = true) : textF (rdT s) (rdB s) = s.data.toList := by
  unfold rdT rdB
  rw [if_pos h, if_pos h]
  simp only [rdOK, Bool.and_eq_true, beq_iff_eq] at h
  exact h.2
theorem read_space (s : ByteArray) : rdOK (s ++ ⟨#[32]⟩) = false := by
  rw [Bool.eq_false_iff]
  intro h
  have e := read_text _ h
  have := text_no32 (rdT (s ++ ⟨#[32]⟩)) (rdB (s ++ ⟨#[32]⟩))
  rw [e] at this
  apply this
  simp

end Go.Proofs.YtpgbfagacpondaaDoor
