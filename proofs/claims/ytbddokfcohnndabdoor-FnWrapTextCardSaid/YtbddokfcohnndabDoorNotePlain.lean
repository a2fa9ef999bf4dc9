/-
  Notes, plainly.
-/
import Derived.Test.YtbddokfcohnndabDoorJoin
import Derived.Test.YtbddokfcohnndabDoorNamePlain
namespace Go.Proofs.YtbddokfcohnndabDoor
set_option linter.unusedVariables false

/-- A note. -/
def noteB (s : ByteArray) : Bool := textB s && (decide (s.size ≤ 60) && (!hasL s.data.toList 10 && (s.data.toList.head? != some 32 && s.data.toList.getLast? != some 32)))
def emB (s : ByteArray) : Bool := s.size == 0
theorem em_t {s : ByteArray} (h : emB s = true) : (s.toList == []) = true ∧ s.toList = [] ∧ s.toList.isEmpty = true ∧ (!s.toList.isEmpty) = false := by
  have : s.toList = [] := by
    rw [ByteArray.toList_eq]
    exact List.length_eq_zero_iff.mp (by rw [Array.length_toList]; exact beq_iff_eq.mp h)
  rw [this]; exact ⟨rfl, rfl, rfl, rfl⟩
theorem em_f {s : ByteArray} (h : emB s = false) : (s.toList == []) = false ∧ s.toList ≠ [] ∧ s.toList.isEmpty = false ∧ (!s.toList.isEmpty) = true := by
  have hn : s.toList ≠ [] := by
    intro e
    rw [ByteArray.toList_eq] at e
    have h2 : s.data.toList.length = 0 := by rw [e]; rfl
    rw [Array.length_toList] at h2
    have h3 : s.size = 0 := h2
    unfold emB at h; rw [h3] at h; cases h
  have hi : s.toList.isEmpty = false := by rw [Bool.eq_false_iff]; exact fun k => hn (List.isEmpty_iff.mp k)
  exact ⟨beq_eq_false_iff_ne.mpr hn, hn, hi, by rw [hi]; rfl⟩
theorem okL_appN (a b : List UInt8) : okL (a ++ b) = (okL a && okL b) := by simp [okL]
theorem note_space (s : ByteArray) : noteB (s ++ ⟨#[32]⟩) = false := by
  unfold noteB
  have : (s ++ (⟨#[32]⟩ : ByteArray)).data.toList = s.data.toList ++ [32] := by rw [ByteArray.data_append, Array.toList_append]
  rw [this, List.getLast?_concat]
  simp
theorem note_more {s : ByteArray} (h : noteB s = true) (hl : s.size ≤ 50) : noteB (((⟨#[97, 32]⟩ : ByteArray) ++ s) ++ ⟨#[32, 98]⟩) = true := by
  unfold noteB at h ⊢
  have e : (((⟨#[97, 32]⟩ : ByteArray) ++ s) ++ ⟨#[32, 98]⟩).data.toList = [97, 32] ++ s.data.toList ++ [32, 98] := by simp [ByteArray.data_append]
  have hz : (((⟨#[97, 32]⟩ : ByteArray) ++ s) ++ ⟨#[32, 98]⟩).size = s.size + 4 := by
    rw [ByteArray.size_append, ByteArray.size_append]; show 2 + s.size + 2 = _; omega
  simp only [Bool.and_eq_true, decide_eq_true_eq, textB] at h ⊢
  obtain ⟨⟨h1, h2⟩, h3, h4, h5, h6⟩ := h
  rw [hz, e]
  refine ⟨⟨by omega, ?_⟩, by omega, ?_, ?_, ?_⟩
  · rw [okL_appN, okL_appN, h2]; rfl
  · simp only [hasL, List.any_append] at h4 ⊢
    simp only [Bool.not_eq_true'] at h4 ⊢
    rw [h4]; rfl
  · simp
  · rw [show [97, 32] ++ s.data.toList ++ [32, 98] = ([97, 32] ++ s.data.toList ++ [32]) ++ [98] by simp, List.getLast?_concat]; decide

end Go.Proofs.YtbddokfcohnndabDoor
