/-
  spec.NoteValid, by its contract.
-/
import Derived.Test.YtbddokfcohnndabDoorNoteI
import Derived.Test.YtbddokfcohnndabDoorTextsSpec
import Derived.Test.YtbddokfcohnndabDoorHas
namespace Go.Proofs.YtbddokfcohnndabDoor
open Go.RowKit
set_option linter.unusedVariables false

theorem note_of (s : ByteArray) : noteB s = (textB s && (decide (s.size ≤ 60) && (!hasL s.data.toList 10 && !spacedB s))) := by
  unfold noteB spacedB
  simp only [Bool.not_or, bne]

set_option maxHeartbeats 1000000 in
theorem note_spec (s : ByteArray) (w : World) (hs : s.size ≤ maxLen) :
    Calls Tryd.prog 13 #[.string s] w fun e w' => e = .returned (.bool (noteB s)) ∧ w = w' := by
  have HMX := Lib.hid hs
  have HHX := Lib.hid (l1Has_any s 10 w hs (by omega) (by omega))
  unfold maxLen at hs
  rw [note_of]
  cases h0 : textB s with
  | false =>
    go_enter Tryd.func13, Tryd.ntmps13
    go_wp2_with fail
    refine (textValid_spec s _ HMX.out).mono ?_
    rintro e w' ⟨rfl, rfl⟩
    rw [h0]
    go_wp2
    go_ret
    exact ⟨rfl, rfl⟩
  | true =>
    by_cases h : s.size ≤ 60
    · rw [decide_eq_true h]
      have z : decide ((s.size : Int) ≤ 60) = true := decide_eq_true (by omega)
      cases hh : hasL s.data.toList 10 with
      | true =>
        go_enter Tryd.func13, Tryd.ntmps13
        go_wp2_with fail
        refine (textValid_spec s _ HMX.out).mono ?_
        rintro e w' ⟨rfl, rfl⟩
        rw [h0]
        go_wp2_with fail
        refine HHX.out.mono ?_
        rintro e w' ⟨rfl, rfl⟩
        rw [hh]
        go_wp2
        go_ret
        exact ⟨rfl, rfl⟩
      | false =>
        cases he : emB s with
        | true =>
          obtain ⟨a1, a2, a3, a4⟩ := em_t he
          have hz : s.data.toList = [] := by rw [← ByteArray.toList_eq]; exact a2
          rw [show spacedB s = false by unfold spacedB; rw [hz]; rfl]
          clear hz
          go_enter Tryd.func13, Tryd.ntmps13
          go_wp2_with fail
          refine (textValid_spec s _ HMX.out).mono ?_
          rintro e w' ⟨rfl, rfl⟩
          rw [h0]
          go_wp2_with fail
          refine HHX.out.mono ?_
          rintro e w' ⟨rfl, rfl⟩
          rw [hh]
          go_wp2
          go_ret
          exact ⟨rfl, rfl⟩
        | false =>
          obtain ⟨a1, a2, a3, a4⟩ := em_f he
          have hp : 0 < s.size := by
            rcases Nat.eq_zero_or_pos s.size with e | e
            · exfalso; unfold emB at he; rw [e] at he; cases he
            · exact e
          rw [spaced_at s hp]
          have e1 : ((s.size : Int) - 1).toNat = s.size - 1 := by omega
          cases h1 : ((s[0].toNat : Int) == 32)
          · have n1 : ((s[0].toNat : Int) != 32) = true := by rw [bne, h1]; rfl
            cases h2 : ((s[s.size - 1].toNat : Int) == 32)
            all_goals
              have n2 := congrArg Bool.not h2
              rw [show (!((s[s.size - 1].toNat : Int) == 32)) = ((s[s.size - 1].toNat : Int) != 32) from rfl] at n2
              simp only [Bool.not_true, Bool.not_false] at n2
              go_enter Tryd.func13, Tryd.ntmps13
              go_wp2_with fail
              refine (textValid_spec s _ HMX.out).mono ?_
              rintro e w' ⟨rfl, rfl⟩
              rw [h0]
              go_wp2_with fail
              refine HHX.out.mono ?_
              rintro e w' ⟨rfl, rfl⟩
              rw [hh]
              go_wp2
              go_ret
              exact ⟨rfl, rfl⟩
          · have n1 : ((s[0].toNat : Int) != 32) = false := by rw [bne, h1]; rfl
            go_enter Tryd.func13, Tryd.ntmps13
            go_wp2_with fail
            refine (textValid_spec s _ HMX.out).mono ?_
            rintro e w' ⟨rfl, rfl⟩
            rw [h0]
            go_wp2_with fail
            refine HHX.out.mono ?_
            rintro e w' ⟨rfl, rfl⟩
            rw [hh]
            go_wp2
            go_ret
            exact ⟨rfl, rfl⟩
    · rw [decide_eq_false h]
      have z : decide ((s.size : Int) ≤ 60) = false := decide_eq_false (by omega)
      go_enter Tryd.func13, Tryd.ntmps13
      go_wp2_with fail
      refine (textValid_spec s _ HMX.out).mono ?_
      rintro e w' ⟨rfl, rfl⟩
      rw [h0]
      go_wp2
      go_ret
      exact ⟨rfl, rfl⟩

end Go.Proofs.YtbddokfcohnndabDoor
