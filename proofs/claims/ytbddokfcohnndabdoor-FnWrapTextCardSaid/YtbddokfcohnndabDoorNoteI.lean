/-
  impl.NoteValid, by its contract.
-/
import Derived.Test.YtbddokfcohnndabDoorNotePlain
import Derived.Below
import Derived.Test.YtbddokfcohnndabDoorPlainLine
namespace Go.Proofs.YtbddokfcohnndabDoor
open Go.RowKit
set_option linter.unusedVariables false

theorem last_get (s : ByteArray) (h : 0 < s.size) : s.data.toList.getLast? = some s[s.size - 1] := by
  have hl : s.data.toList.length = s.size := by rw [Array.length_toList]; rfl
  rw [List.getLast?_eq_getElem?, hl, List.getElem?_eq_getElem (by omega)]; rfl
theorem head_get (s : ByteArray) (h : 0 < s.size) : s.data.toList.head? = some s[0] := by
  have hl : s.data.toList.length = s.size := by rw [Array.length_toList]; rfl
  rw [List.head?_eq_getElem?, List.getElem?_eq_getElem (by omega)]; rfl
/-- A text that begins or ends with a space. -/
def spacedB (s : ByteArray) : Bool := s.data.toList.head? == some 32 || s.data.toList.getLast? == some 32
theorem note_plain (s : ByteArray) : noteB s = (decide (s.size ≤ 60) && (plainL s.data.toList && !spacedB s)) := by
  unfold noteB spacedB textB
  rw [plain_iff]
  by_cases h : s.size ≤ 60
  · rw [decide_eq_true h, decide_eq_true (show s.size ≤ 20000 by omega)]
    simp only [Bool.true_and, Bool.not_or, bne]
    rw [Bool.and_assoc]
  · rw [decide_eq_false h]; simp
theorem spaced_at (s : ByteArray) (h : 0 < s.size) : spacedB s = ((((s[0].toNat : Int)) == 32) || (((s[s.size - 1].toNat : Int)) == 32)) := by
  unfold spacedB
  rw [head_get s h, last_get s h, show (32 : Int) = ((32 : UInt8).toNat : Int) from rfl, byte_eq, byte_eq]
  rfl

set_option maxHeartbeats 1000000 in
theorem spaced_any (s : ByteArray) (w : World) (hs : s.size ≤ maxLen) :
    Calls Tryd.prog 31 #[.string s] w fun e w' => e = .returned (.bool (spacedB s)) ∧ w = w' := by
  unfold maxLen at hs
  cases h : emB s with
  | true =>
    obtain ⟨a1, a2, a3, a4⟩ := em_t h
    have hz : s.data.toList = [] := by rw [← ByteArray.toList_eq]; exact a2
    rw [show spacedB s = false by unfold spacedB; rw [hz]; rfl]
    clear hz
    go_enter Tryd.func31, Tryd.ntmps31
    go_wp2
    go_ret
    exact ⟨rfl, rfl⟩
  | false =>
    obtain ⟨a1, a2, a3, a4⟩ := em_f h
    have hp : 0 < s.size := by
      rcases Nat.eq_zero_or_pos s.size with e | e
      · exfalso; unfold emB at h; rw [e] at h; cases h
      · exact e
    rw [spaced_at s hp]
    have e1 : ((s.size : Int) - 1).toNat = s.size - 1 := by omega
    cases h1 : ((s[0].toNat : Int) == 32)
    · cases h2 : ((s[s.size - 1].toNat : Int) == 32)
      all_goals
        go_enter Tryd.func31, Tryd.ntmps31
        go_wp2
        go_ret
        exact ⟨rfl, rfl⟩
    · go_enter Tryd.func31, Tryd.ntmps31
      go_wp2
      go_ret
      exact ⟨rfl, rfl⟩

set_option maxHeartbeats 1000000 in
theorem note_impl (s : ByteArray) (w : World) (hs : s.size ≤ maxLen) :
    Calls Tryd.prog 15 #[.string s] w fun e w' => e = .returned (.bool (noteB s)) ∧ w = w' := by
  have HMX := Lib.hid hs
  unfold maxLen at hs
  rw [note_plain]
  by_cases h : s.size ≤ 60
  · rw [decide_eq_true h, Bool.true_and]
    have z : decide ((s.size : Int) ≤ 60) = true := decide_eq_true (by omega)
    cases hp : plainL s.data.toList with
    | false =>
      go_enter Tryd.func15, Tryd.ntmps15
      go_wp2_with fail
      refine (plainLine_any s _ HMX.out).mono ?_
      rintro e w' ⟨rfl, rfl⟩
      rw [hp]
      go_wp2
      go_ret
      exact ⟨rfl, rfl⟩
    | true =>
      cases h9 : spacedB s
      all_goals
        go_enter Tryd.func15, Tryd.ntmps15
        go_wp2_with fail
        refine (plainLine_any s _ HMX.out).mono ?_
        rintro e w' ⟨rfl, rfl⟩
        rw [hp]
        go_wp2_with fail
        refine (spaced_any s _ HMX.out).mono ?_
        rintro e w' ⟨rfl, rfl⟩
        rw [h9]
        go_wp2
        go_ret
        exact ⟨rfl, rfl⟩
  · rw [decide_eq_false h, Bool.false_and]
    have z : decide ((s.size : Int) ≤ 60) = false := decide_eq_false (by omega)
    go_enter Tryd.func15, Tryd.ntmps15
    go_wp2
    go_ret
    exact ⟨rfl, rfl⟩

end Go.Proofs.YtbddokfcohnndabDoor
