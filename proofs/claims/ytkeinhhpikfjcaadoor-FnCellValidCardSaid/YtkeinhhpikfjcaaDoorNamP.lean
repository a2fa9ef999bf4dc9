/-
  impl.plainName, by its contract: a name without points.
-/
import Derived.Test.YtkeinhhpikfjcaaDoorNameV
import Derived.Test.YtkeinhhpikfjcaaDoorJoin
namespace Go.Proofs.YtkeinhhpikfjcaaDoor
open Go.RowKit
set_option linter.unusedVariables false

/-- A name without points. -/
def simpB (s : ByteArray) : Bool := nameL s.data.toList && !hasL s.data.toList 46
theorem has_dot (l : List UInt8) : hasL l 46 = true ↔ (46 : UInt8) ∈ l := by
  unfold hasL
  rw [List.any_eq_true]
  constructor
  · rintro ⟨b, hb, h⟩
    rw [show (46 : Int) = ((46 : UInt8).toNat : Int) from rfl, byte_eq, beq_iff_eq] at h
    rw [← h]; exact hb
  · intro h; exact ⟨46, h, rfl⟩
theorem simp_part (l : List UInt8) : (nameL l && !hasL l 46) = (partB l && (l != trueL && l != falseL)) := by
  by_cases h : (46 : UInt8) ∈ l
  · rw [(has_dot l).mpr h]
    have : partB l = false := by
      rw [partB_iff]
      have : l.all (fun b => parI (b.toNat : Int)) = false := by
        rw [List.all_eq_false]
        exact ⟨46, h, by decide⟩
      rw [this, Bool.and_false]
    rw [this]; simp
  · have hh : hasL l 46 = false := by rw [Bool.eq_false_iff]; exact fun k => h ((has_dot l).mp k)
    rw [hh, Bool.not_false, Bool.and_true]
    unfold nameL
    rw [nameR_part l h]

set_option maxHeartbeats 1000000 in
theorem plainName_any (s : ByteArray) (w : World) (hs : s.size ≤ maxLen) :
    Calls Tryd.prog 27 #[.string s] w fun e w' => e = .returned (.bool (simpB s)) ∧ w = w' := by
  have HP := Lib.hid (simp_part s.data.toList)
  unfold simpB
  rw [HP.out]
  cases hp : partB s.data.toList with
  | false =>
    go_enter Tryd.func27, Tryd.ntmps27
    go_wp2_with fail
    refine (namePart_any s _ hs).mono ?_
    rintro e w' ⟨rfl, rfl⟩
    rw [hp]
    go_wp2
    go_ret
    exact ⟨rfl, rfl⟩
  | true =>
    cases ht : (s.toList == [116, 114, 117, 101]) with
    | true =>
      have e1 : (s.data.toList == trueL) = true := by rw [← str_true]; exact ht
      have HE := Lib.hid (show (s.data.toList != trueL && s.data.toList != falseL) = false by simp [bne, e1])
      rw [HE.out]; clear e1
      go_enter Tryd.func27, Tryd.ntmps27
      go_wp2_with fail
      refine (namePart_any s _ hs).mono ?_
      rintro e w' ⟨rfl, rfl⟩
      rw [hp]
      go_wp2
      go_ret
      exact ⟨rfl, rfl⟩
    | false =>
      have e1 : (s.data.toList == trueL) = false := by rw [← str_true]; exact ht
      cases hf : (s.toList == [102, 97, 108, 115, 101]) with
      | true =>
        have e2 : (s.data.toList == falseL) = true := by rw [← str_false]; exact hf
        have HE := Lib.hid (show (s.data.toList != trueL && s.data.toList != falseL) = false by simp [bne, e1, e2])
        rw [HE.out]; clear e1 e2
        go_enter Tryd.func27, Tryd.ntmps27
        go_wp2_with fail
        refine (namePart_any s _ hs).mono ?_
        rintro e w' ⟨rfl, rfl⟩
        rw [hp]
        go_wp2
        go_ret
        exact ⟨rfl, rfl⟩
      | false =>
        have e2 : (s.data.toList == falseL) = false := by rw [← str_false]; exact hf
        have HE := Lib.hid (show (s.data.toList != trueL && s.data.toList != falseL) = true by simp [bne, e1, e2])
        rw [HE.out]; clear e1 e2
        go_enter Tryd.func27, Tryd.ntmps27
        go_wp2_with fail
        refine (namePart_any s _ hs).mono ?_
        rintro e w' ⟨rfl, rfl⟩
        rw [hp]
        go_wp2
        go_ret
        exact ⟨rfl, rfl⟩

end Go.Proofs.YtkeinhhpikfjcaaDoor
