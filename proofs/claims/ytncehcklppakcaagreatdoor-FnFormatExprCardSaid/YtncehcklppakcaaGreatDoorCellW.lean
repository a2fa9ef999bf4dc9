/-
  What the reference asks of cells where it only walks through them (okM: how many parts) and where it prints them (okW: a number may have any short word): plainly.
-/
import Derived.Test.YtncehcklppakcaaGreatDoorCellPlain
namespace Go.Proofs.YtncehcklppakcaaGreatDoor
set_option linter.unusedVariables false

def okM (c : Cl) : Bool := decide (0 ≤ c.2.2) && decide (c.2.2 ≤ 8)
theorem okM_many {c : Cl} (h : okM c = true) : 0 ≤ c.2.2 ∧ c.2.2 ≤ 8 := by
  simpa only [okM, Bool.and_eq_true, decide_eq_true_eq] using h
theorem okM_of {c : Cl} (h : okC c = true) : okM c = true := by
  have := okC_many h
  simp only [okM, Bool.and_eq_true, decide_eq_true_eq]; exact this
theorem okM_all {l : List Cl} (h : l.all okM = true) (f : Nat) (hf : f < l.length) : okM l[f] = true := by
  rw [List.all_eq_true] at h; exact h _ (List.getElem_mem hf)
theorem allM_of {l : List Cl} (h : l.all okC = true) : l.all okM = true := by
  rw [List.all_eq_true] at h ⊢; exact fun c hc => okM_of (h c hc)
def okW (c : Cl) : Bool := okC c || (c.1 == 1 && (c.2.2 == 0 && decide (c.2.1.size ≤ 60)))
theorem okW_cases {c : Cl} (h : okW c = true) : okC c = true ∨ (c.1 = 1 ∧ c.2.2 = 0 ∧ c.2.1.size ≤ 60) := by
  simp only [okW, Bool.or_eq_true, Bool.and_eq_true, beq_iff_eq, decide_eq_true_eq] at h; exact h
theorem okW_of {c : Cl} (h : okC c = true) : okW c = true := by rw [okW, h]; rfl
theorem okW_ne {k m : Int} {s : ByteArray} (h : okW (k, s, m) = true) (hk : k ≠ 1) : okC (k, s, m) = true := (okW_cases h).resolve_right (fun h => hk h.1)
theorem okW_size {c : Cl} (h : okW c = true) : c.2.1.size ≤ 60 := by
  rcases okW_cases h with h | h
  · simp only [okC, cellB, Bool.and_eq_true] at h; exact word_len _ _ h.1
  · exact h.2.2
theorem okW_M {c : Cl} (h : okW c = true) : okM c = true := by
  rcases okW_cases h with h | h
  · exact okM_of h
  · simp only [okM, Bool.and_eq_true, decide_eq_true_eq]; omega
theorem okW_all {l : List Cl} (h : l.all okW = true) (f : Nat) (hf : f < l.length) : okW l[f] = true := by
  rw [List.all_eq_true] at h; exact h _ (List.getElem_mem hf)
theorem allW_of {l : List Cl} (h : l.all okC = true) : l.all okW = true := by
  rw [List.all_eq_true] at h ⊢; exact fun c hc => okW_of (h c hc)
theorem allM_ofW {l : List Cl} (h : l.all okW = true) : l.all okM = true := by
  rw [List.all_eq_true] at h ⊢; exact fun c hc => okW_M (h c hc)

end Go.Proofs.YtncehcklppakcaaGreatDoor
