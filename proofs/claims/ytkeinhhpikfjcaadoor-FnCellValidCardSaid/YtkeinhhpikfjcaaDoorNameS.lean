/-
  spec.NameValid, by its contract.
-/
import Derived.Test.YtkeinhhpikfjcaaDoorBytesS
namespace Go.Proofs.YtkeinhhpikfjcaaDoor
open Go.RowKit
set_option linter.unusedVariables false

theorem ret_boolS {a b : Bool} (h : a = b) : Ending.returned (.bool a) = .returned (.bool b) := by rw [h]
theorem drop_cons (s : ByteArray) (k : Nat) (h : k < s.size) : s.data.toList.drop k = s[k] :: s.data.toList.drop (k + 1) := by
  rw [List.drop_eq_getElem_cons (by simpa using h)]; rfl
theorem strS_true (s : ByteArray) : (s.toList == [116, 114, 117, 101]) = (s.data.toList == trueL) := by rw [ByteArray.toList_eq]; rfl
theorem strS_false (s : ByteArray) : (s.toList == [102, 97, 108, 115, 101]) = (s.data.toList == falseL) := by rw [ByteArray.toList_eq]; rfl

theorem nameR_dot1 (s : ByteArray) (k n : Nat) (h : k < s.size) (h1 : ((s[k].toNat : Int) == 46) = true) (h2 : 0 < n) : nameR n (s.data.toList.drop k) = nameR 0 (s.data.toList.drop (k + 1)) := by
  rw [drop_cons s k h, nameR, if_pos (by rw [h1, decide_eq_true h2]; rfl)]
theorem nameR_no (s : ByteArray) (k n : Nat) (h : k < s.size) (h1 : ¬ (((s[k].toNat : Int) == 46) = true ∧ 0 < n)) : nameR n (s.data.toList.drop k) = if badN n (s[k].toNat : Int) = true then false else if 12 < n + 1 then false else nameR (n + 1) (s.data.toList.drop (k + 1)) := by
  rw [drop_cons s k h, nameR, if_neg (by simpa using h1)]

set_option maxHeartbeats 2000000 in
theorem nameValid_spec (s : ByteArray) (w : World) (hs : s.size ≤ maxLen) :
    Calls Tryd.prog 19 #[.string s] w fun e w' => e = .returned (.bool (nameL s.data.toList)) ∧ w = w' := by
  unfold maxLen at hs
  have hlen : s.data.toList.length = s.size := by rw [Array.length_toList]; rfl
  have HLEN := Lib.hid hlen; clear hlen
  go_enter Tryd.func19, Tryd.ntmps19
  go_wp2
  go_loop [3, 4] (fun z i => ∃ k n : Nat, k ≤ s.size ∧ n ≤ 12 ∧ i = .int .i64 (k : Int) ∧ z = .int .i64 (n : Int) ∧ nameR n (s.data.toList.drop k) = nameR 0 s.data.toList) (fun _ i => s.size - (intOf i).toNat)
  case atStart => exact ⟨0, 0, Nat.zero_le _, by omega, rfl, rfl, rfl⟩
  case round =>
    obtain ⟨k, n, hk, hn12, rfl, rfl, hr⟩ := hrel
    have HR := Lib.hid hr; clear hr
    by_cases hlt : k < s.size
    · have hbk : (s[k].toNat : Int) ≤ 255 := by have := s[k].toNat_lt; omega
      by_cases hd : ((s[k].toNat : Int) == 46) = true ∧ 0 < n
      · obtain ⟨d1, d2⟩ := hd
        have HQ := Lib.hid (nameR_dot1 s k n hlt d1 d2)
        have d3 : decide (0 < (n : Int)) = true := decide_eq_true (by omega)
        go_wp2
        go_round
        case rel => exact ⟨k + 1, 0, by omega, by omega, by go_num, rfl, by rw [← HQ.out]; exact HR.out⟩
        case measure => simp [intOf]; omega
      · have HQ := Lib.hid (nameR_no s k n hlt hd)
        have HBN := Lib.hid (show badN n (s[k].toNat : Int) = (!ltrI (s[k].toNat : Int) && ((n == 0) || (!digI (s[k].toNat : Int) && ((s[k].toNat : Int) != 95)))) from rfl)
        have hff : nameR 0 s.data.toList = false → nameL s.data.toList = false := fun h => by simp [nameL, h]
        have HFF := Lib.hid hff; clear hff
        cases hl : ltrI (s[k].toNat : Int) with
        | true =>
          have HL := Lib.hid hl
          have HBF := Lib.hid (show badN n (s[k].toNat : Int) = false by rw [HBN.out, hl]; rfl)
          clear hl
          by_cases h46 : ((s[k].toNat : Int) == 46) = true
          · have hn0 : ¬ 0 < n := fun h => hd ⟨h46, h⟩
            have d3 : decide (0 < (n : Int)) = false := decide_eq_false (by omega)
            have d5 : decide (0 < n) = false := decide_eq_false (by omega)
            exfalso
            rw [beq_iff_eq] at h46
            have := HL.out
            rw [h46] at this
            simp [ltrI] at this
          · have h46' := Bool.eq_false_iff.mpr h46
            clear h46 hd
            go_wp2_with fail
            refine (l3Letter_any _ _ (by omega) (by omega)).mono ?_
            rintro e w' ⟨rfl, rfl⟩
            rw [HL.out]
            by_cases h12 : 12 < n + 1
            · have HZ := Lib.hid (HFF.out (by rw [← HR.out, HQ.out, HBF.out, if_pos h12]; rfl))
              go_wp2
              go_ret
              exact ⟨ret_boolS HZ.out.symm, rfl⟩
            · have HZ := Lib.hid (show nameR (n + 1) (s.data.toList.drop (k + 1)) = nameR 0 s.data.toList by rw [← HR.out, HQ.out, HBF.out, if_neg h12]; rfl)
              go_wp2
              go_round
              case rel => exact ⟨k + 1, n + 1, by omega, by omega, by go_num, by go_num, HZ.out⟩
              case measure => simp [intOf]; omega
        | false =>
          have HL := Lib.hid hl; clear hl
          by_cases hn0 : n = 0
          · have HBF := Lib.hid (show badN n (s[k].toNat : Int) = true by rw [HBN.out, HL.out, hn0]; rfl)
            have HZ := Lib.hid (HFF.out (by rw [← HR.out, HQ.out, HBF.out]; rfl))
            have d3 : decide (0 < (n : Int)) = false := decide_eq_false (by omega)
            have d5 : decide (0 < n) = false := decide_eq_false (by omega)
            have d4 : ((n : Int) == 0) = true := beq_iff_eq.mpr (by omega)
            clear hd hn0
            cases h46 : ((s[k].toNat : Int) == 46)
            all_goals
              go_wp2_with fail
              refine (l3Letter_any _ _ (by omega) (by omega)).mono ?_
              rintro e w' ⟨rfl, rfl⟩
              rw [HL.out]
              go_wp2
              go_ret
              exact ⟨ret_boolS HZ.out.symm, rfl⟩
          · have h46 : ((s[k].toNat : Int) == 46) = false := Bool.eq_false_iff.mpr (fun h => hd ⟨h, by omega⟩)
            have d4 : ((n : Int) == 0) = false := beq_eq_false_iff_ne.mpr (by omega)
            have hz0 : (n == 0) = false := beq_eq_false_iff_ne.mpr hn0
            have HNB := Lib.hid (show badN n (s[k].toNat : Int) = (!digI (s[k].toNat : Int) && ((s[k].toNat : Int) != 95)) by rw [HBN.out, HL.out, hz0]; rfl)
            clear hd hn0 hz0
            cases hdg : digI (s[k].toNat : Int) with
            | true =>
              have HD := Lib.hid hdg; clear hdg
              have HBF := Lib.hid (show badN n (s[k].toNat : Int) = false by rw [HNB.out, HD.out]; rfl)
              go_wp2_with fail
              refine (l3Letter_any _ _ (by omega) (by omega)).mono ?_
              rintro e w' ⟨rfl, rfl⟩
              rw [HL.out]
              go_wp2_with fail
              refine (l3Digit_any _ _ (by omega) (by omega)).mono ?_
              rintro e w' ⟨rfl, rfl⟩
              rw [HD.out]
              by_cases h12 : 12 < n + 1
              · have HZ := Lib.hid (HFF.out (by rw [← HR.out, HQ.out, HBF.out, if_pos h12]; rfl))
                go_wp2
                go_ret
                exact ⟨ret_boolS HZ.out.symm, rfl⟩
              · have HZ := Lib.hid (show nameR (n + 1) (s.data.toList.drop (k + 1)) = nameR 0 s.data.toList by rw [← HR.out, HQ.out, HBF.out, if_neg h12]; rfl)
                go_wp2
                go_round
                case rel => exact ⟨k + 1, n + 1, by omega, by omega, by go_num, by go_num, HZ.out⟩
                case measure => simp [intOf]; omega
            | false =>
              have HD := Lib.hid hdg; clear hdg
              have HB3 := Lib.hid (show badN n (s[k].toNat : Int) = ((s[k].toNat : Int) != 95) by rw [HNB.out, HD.out]; rfl)
              cases h95 : ((s[k].toNat : Int) != 95) with
              | true =>
                have HZ := Lib.hid (HFF.out (by rw [← HR.out, HQ.out, HB3.out, h95]; rfl))
                go_wp2_with fail
                refine (l3Letter_any _ _ (by omega) (by omega)).mono ?_
                rintro e w' ⟨rfl, rfl⟩
                rw [HL.out]
                go_wp2_with fail
                refine (l3Digit_any _ _ (by omega) (by omega)).mono ?_
                rintro e w' ⟨rfl, rfl⟩
                rw [HD.out]
                go_wp2
                go_ret
                exact ⟨ret_boolS HZ.out.symm, rfl⟩
              | false =>
                have HBF := Lib.hid (show badN n (s[k].toNat : Int) = false by rw [HB3.out, h95])
                go_wp2_with fail
                refine (l3Letter_any _ _ (by omega) (by omega)).mono ?_
                rintro e w' ⟨rfl, rfl⟩
                rw [HL.out]
                go_wp2_with fail
                refine (l3Digit_any _ _ (by omega) (by omega)).mono ?_
                rintro e w' ⟨rfl, rfl⟩
                rw [HD.out]
                by_cases h12 : 12 < n + 1
                · have HZ := Lib.hid (HFF.out (by rw [← HR.out, HQ.out, HBF.out, if_pos h12]; rfl))
                  go_wp2
                  go_ret
                  exact ⟨ret_boolS HZ.out.symm, rfl⟩
                · have HZ := Lib.hid (show nameR (n + 1) (s.data.toList.drop (k + 1)) = nameR 0 s.data.toList by rw [← HR.out, HQ.out, HBF.out, if_neg h12]; rfl)
                  go_wp2
                  go_round
                  case rel => exact ⟨k + 1, n + 1, by omega, by omega, by go_num, by go_num, HZ.out⟩
                  case measure => simp [intOf]; omega
    · have HE := Lib.hid (show nameR 0 s.data.toList = decide (0 < n) by rw [← HR.out, List.drop_eq_nil_of_le (by rw [HLEN.out]; omega), nameR])
      have HNL := Lib.hid (show nameL s.data.toList = (decide (0 < n) && ((!(s.toList == [116, 114, 117, 101])) && (!(s.toList == [102, 97, 108, 115, 101])))) by rw [strS_true, strS_false, nameL, HE.out]; rfl)
      by_cases hn0 : 0 < n
      · have d3 : decide (0 < (n : Int)) = true := decide_eq_true (by omega)
        have HN1 := Lib.hid (show decide (0 < n) = true from decide_eq_true hn0)
        cases ht : (s.toList == [116, 114, 117, 101]) with
        | true =>
          go_wp2
          go_ret
          exact ⟨ret_boolS (by rw [HNL.out, HN1.out, ht]; rfl), rfl⟩
        | false =>
          cases hf : (s.toList == [102, 97, 108, 115, 101])
          all_goals
            go_wp2
            go_ret
            exact ⟨ret_boolS (by rw [HNL.out, HN1.out, ht, hf]; rfl), rfl⟩
      · have d3 : decide (0 < (n : Int)) = false := decide_eq_false (by omega)
        have d5 : decide (0 < n) = false := decide_eq_false (by omega)
        have HN1 := Lib.hid (show decide (0 < n) = false from decide_eq_false hn0)
        go_wp2
        go_ret
        exact ⟨ret_boolS (by rw [HNL.out, HN1.out]; rfl), rfl⟩

end Go.Proofs.YtkeinhhpikfjcaaDoor
