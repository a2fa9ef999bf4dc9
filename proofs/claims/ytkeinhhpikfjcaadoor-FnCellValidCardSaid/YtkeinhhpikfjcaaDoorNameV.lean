/-
  impl.NameValid, by its contract.
-/
import Derived.Test.YtkeinhhpikfjcaaDoorNameI
namespace Go.Proofs.YtkeinhhpikfjcaaDoor
open Go.RowKit
set_option linter.unusedVariables false

def strN : Value → Nat
  | .string s => s.size
  | _ => 0
def boolN : Value → Nat
  | .bool true => 1
  | _ => 0
theorem cutP_le (s : ByteArray) (c : UInt8) : (cutP s c).size ≤ s.size := by
  unfold cutP; split
  · exact Nat.le_refl _
  · simp [ByteArray.size_extract]; omega
/-- What is behind the first point is shorter. -/
theorem cutQ_le (s : ByteArray) (c : UInt8) : (cutQ s c).size + boolN (.bool (cutB s c)) ≤ s.size ∧ (cutQ s c).size ≤ s.size := by
  have hl : s.data.toList.length = s.size := by rw [Array.length_toList]; rfl
  have hi := indexByte_lt s.data.toList c
  unfold cutQ cutB
  by_cases h : Lib.indexByte s.data.toList c < 0
  · rw [if_pos h, decide_eq_true h]
    show (0 : Nat) + 0 ≤ _ ∧ (0 : Nat) ≤ _
    omega
  · rw [if_neg h, decide_eq_false h, ByteArray.size_extract]
    show _ + 1 ≤ _ ∧ _
    omega
/-- A name is a part, and a name behind the point, if there is one. -/
theorem name_cut (s : ByteArray) : nameR 0 s.data.toList = (partB (cutP s 46).data.toList && (!cutB s 46 || nameR 0 (cutQ s 46).data.toList)) := by
  have hl : s.data.toList.length = s.size := by rw [Array.length_toList]; rfl
  unfold cutP cutQ cutB
  rcases ixc_cases s.data.toList 46 with ⟨h1, h2⟩ | ⟨k, h1, h2, h3, h4⟩
  · rw [h1, if_pos (by omega), nameR_part _ h2]; simp
  · rw [h1, if_neg (by omega), if_neg (by omega)]
    rw [show decide ((k : Int) < 0) = false from decide_eq_false (by omega)]
    have e1 : (s.extract 0 ((k : Int)).toNat).data.toList = s.data.toList.take k := by simp [ByteArray.data_extract]
    have e2 : (s.extract (((k : Int)).toNat + 1) s.size).data.toList = s.data.toList.drop (k + 1) := by
      simp [ByteArray.data_extract]
      exact List.take_of_length_le (by rw [List.length_drop]; show _ ≤ s.data.size - _; simp)
    rw [e1, e2]
    conv => lhs; rw [h4, nameR_app, nameR_part _ h3]
    simp

theorem str_true (s : ByteArray) : (s.toList == [116, 114, 117, 101]) = (s.data.toList == trueL) := by rw [ByteArray.toList_eq]; rfl
theorem str_false (s : ByteArray) : (s.toList == [102, 97, 108, 115, 101]) = (s.data.toList == falseL) := by rw [ByteArray.toList_eq]; rfl

set_option maxHeartbeats 2000000 in
theorem nameValid_impl (s : ByteArray) (w : World) (hs : s.size ≤ maxLen) :
    Calls Tryd.prog 26 #[.string s] w fun e w' => e = .returned (.bool (nameL s.data.toList)) ∧ Below w.heap.size w w' := by
  have HMX := Lib.hid hs
  unfold maxLen at hs
  cases ht : (s.toList == [116, 114, 117, 101]) with
  | true =>
    have hn : nameL s.data.toList = false := by rw [str_true] at ht; simp [nameL, bne, ht]
    rw [hn]; clear hn
    go_enter Tryd.func26, Tryd.ntmps26
    go_wp2
    go_ret
    exact ⟨rfl, Below.refl _ _⟩
  | false =>
    cases hf : (s.toList == [102, 97, 108, 115, 101]) with
    | true =>
      have hn : nameL s.data.toList = false := by rw [str_false] at hf; simp [nameL, bne, hf]
      rw [hn]; clear hn
      go_enter Tryd.func26, Tryd.ntmps26
      go_wp2
      go_ret
      exact ⟨rfl, Below.refl _ _⟩
    | false =>
      have HN := Lib.hid (show nameL s.data.toList = nameR 0 s.data.toList by
        rw [str_true] at ht; rw [str_false] at hf; simp [nameL, bne, ht, hf])
      have HC := Lib.hid (name_cut s)
      have hz1 := cutP_le s 46
      have hz2 := (cutQ_le s 46).2
      go_enter Tryd.func26, Tryd.ntmps26
      go_wp2_with fail
      refine (cut_one s 46 _ HMX.out).mono ?_
      rintro e w1 ⟨rfl, hb1⟩
      have HB1 := Lib.hid hb1; clear hb1
      go_wp2_with fail
      go_loopw [3, 4, 5] (fun p r m wr => ∃ (a b : ByteArray) (c : Bool), p = .string a ∧ r = .string b ∧ m = .bool c ∧ a.size ≤ s.size ∧ b.size ≤ s.size ∧ nameR 0 s.data.toList = (partB a.data.toList && (!c || nameR 0 b.data.toList)) ∧ Below w.heap.size w wr) (fun _ r m _ => strN r + boolN m)
      case atStart => exact ⟨_, _, _, rfl, rfl, rfl, hz1, hz2, HC.out, HB1.out⟩
      case round =>
        obtain ⟨a, b, c, rfl, rfl, rfl, ha, hb, hn, hbel⟩ := hrel
        have HX := Lib.hid hn; have HB := Lib.hid hbel; clear hn hbel
        cases c with
        | false =>
          go_wp2_with fail
          refine (namePart_any a _ (by unfold maxLen; omega)).mono ?_
          rintro e w' ⟨rfl, rfl⟩
          go_wp2
          go_ret
          exact ⟨ret_boolN (by rw [HN.out, HX.out]; simp), HB.out⟩
        | true =>
          cases hp : partB a.data.toList with
          | false =>
            have HP := Lib.hid hp; clear hp
            go_wp2_with fail
            refine (namePart_any a _ (by unfold maxLen; omega)).mono ?_
            rintro e w' ⟨rfl, rfl⟩
            rw [HP.out]
            go_wp2_with fail
            refine (namePart_any a _ (by unfold maxLen; omega)).mono ?_
            rintro e w' ⟨rfl, rfl⟩
            rw [HP.out]
            go_wp2
            go_ret
            exact ⟨ret_boolN (by rw [HN.out, HX.out, HP.out]; rfl), HB.out⟩
          | true =>
            have HP := Lib.hid hp; clear hp
            have q1 := cutP_le b 46
            have q2 := cutQ_le b 46
            go_wp2_with fail
            refine (namePart_any a _ (by unfold maxLen; omega)).mono ?_
            rintro e w' ⟨rfl, rfl⟩
            rw [HP.out]
            go_wp2_with fail
            refine (cut_one b 46 _ (by unfold maxLen; omega)).mono ?_
            rintro e w2 ⟨rfl, hb2⟩
            have HB2 := Lib.hid (HB.out.trans (hb2.mono HB.out.size)); clear hb2
            go_wp2
            go_roundw
            case rel => exact ⟨_, _, _, rfl, rfl, rfl, by omega, by omega, by rw [HX.out, HP.out, name_cut b]; simp, HB2.out⟩
            case measure =>
              show (cutQ b 46).size + boolN (.bool (cutB b 46)) < b.size + 1
              omega

end Go.Proofs.YtkeinhhpikfjcaaDoor
