/-
  Marks on rows of slices of cells.
-/
import Derived.Test.YtipmkbahlfkfoaaGreatDoorBaseE
import Derived.Test.YtipmkbahlfkfoaaGreatDoorBaseL
namespace Go.Proofs.YtipmkbahlfkfoaaGreatDoor
open Go.RowKit
set_option linter.unusedVariables false

/-- Rows of marked cells. -/
def marksSS : Nat → List (List Cl) → List (List Cl)
  | _, [] => []
  | m, l :: ls => marksC m l.length :: marksSS (m + l.length * 3) ls
theorem marksSS_length (m : Nat) (ls : List (List Cl)) : (marksSS m ls).length = ls.length := by
  induction ls generalizing m with
  | nil => rfl
  | cons l ls ih => simp [marksSS, ih]
theorem marksSS_at (ls : List (List Cl)) : ∀ (m k : Nat) (h : k < (marksSS m ls).length) (h' : k < ls.length), (marksSS m ls)[k] = marksC (m + lenSS (ls.take k) * 3) ls[k].length := by
  induction ls with
  | nil => intro m k h h'; simp at h'
  | cons l ls ih =>
    intro m k h h'
    cases k with
    | zero => simp [marksSS, lenSS]
    | succ k =>
      simp only [marksSS, List.getElem_cons_succ, List.take_succ_cons]
      rw [ih (m + l.length * 3) k (by simpa [marksSS] using h) (by simpa using h')]
      congr 1
      simp [lenSS]; omega
/-- Rows of which the first k are marked. -/
def mkdSS (m k : Nat) (ls : List (List Cl)) : List (List Cl) := (marksSS m ls).take k ++ ls.drop k
theorem mkdSS_length (m k : Nat) (ls : List (List Cl)) : (mkdSS m k ls).length = ls.length := by
  rw [mkdSS, List.length_append, List.length_take, List.length_drop, marksSS_length]; omega
theorem mkdSS_at (m k : Nat) (ls : List (List Cl)) (h : k < ls.length) : (mkdSS m k ls)[k]'(by rw [mkdSS_length]; exact h) = ls[k] := by
  simp only [mkdSS]
  rw [List.getElem_append_right (by simp; omega)]
  simp [marksSS_length, Nat.min_eq_left (Nat.le_of_lt h)]
theorem mkdSS_next (m k : Nat) (ls : List (List Cl)) (h : k < ls.length) : (mkdSS m k ls).set k (marksC (m + lenSS (ls.take k) * 3) ls[k].length) = mkdSS m (k + 1) ls := by
  have hm : k < (marksSS m ls).length := by rw [marksSS_length]; exact h
  have hl : ((marksSS m ls).take k).length = k := by rw [List.length_take]; omega
  unfold mkdSS
  rw [List.set_append_right _ _ (by omega), hl, Nat.sub_self, List.drop_eq_getElem_cons h, List.set_cons_zero, List.take_succ_eq_append_getElem hm, marksSS_at ls m k hm h, List.append_assoc]
  rfl

end Go.Proofs.YtipmkbahlfkfoaaGreatDoor
