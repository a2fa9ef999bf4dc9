/-
  impl.namePart, impl.NameValid, by their contracts.
-/
import Derived.Test.YtkeinhhpikfjcaaDoorBytes
import Derived.Test.YtkeinhhpikfjcaaDoorCut
import Derived.Test.YtkeinhhpikfjcaaDoorCutPlain
import Derived.Below
namespace Go.Proofs.YtkeinhhpikfjcaaDoor
open Go.RowKit
set_option linter.unusedVariables false

theorem ret_boolN {a b : Bool} (h : a = b) : Ending.returned (.bool a) = .returned (.bool b) := by rw [h]
theorem snoc_take (s : ByteArray) (k : Nat) (h : k < s.size) : s.data.toList.take (k + 1) = s.data.toList.take k ++ [s[k]] := by
  rw [List.take_succ_eq_append_getElem (by simpa using h)]; rfl
theorem part_size {l : List UInt8} (h : l.length = 0 ∨ 12 < l.length) : partB l = false := by
  rw [partB_iff]
  rcases h with h | h
  · rw [decide_eq_false (show ¬ 1 ≤ l.length by omega)]; rfl
  · rw [decide_eq_false (show ¬ l.length ≤ 12 by omega)]; simp
theorem first_cons (s : ByteArray) (h : 0 < s.size) : ∃ t, s.data.toList = s[0] :: t := by
  have hl : 0 < s.data.toList.length := by simpa using h
  refine ⟨s.data.toList.drop 1, ?_⟩
  rw [show s[0] = s.data.toList[0] from rfl]
  conv => lhs; rw [← List.drop_zero (l := s.data.toList)]
  rw [List.drop_eq_getElem_cons hl]
theorem part_first (s : ByteArray) (h : 0 < s.size) (hb : ltrI (s[0].toNat : Int) = false) : partB s.data.toList = false := by
  obtain ⟨t, e⟩ := first_cons s h
  rw [e]; simp [partB, hb]
theorem part_all (s : ByteArray) (h : 0 < s.size) (h12 : s.size ≤ 12) (hb : ltrI (s[0].toNat : Int) = true) : partB s.data.toList = s.data.toList.all (fun b => parI (b.toNat : Int)) := by
  have hl : s.data.toList.length = s.size := by rw [Array.length_toList]; rfl
  obtain ⟨t, e⟩ := first_cons s h
  rw [e] at hl ⊢
  have ht : t.length < 12 := by simp only [List.length_cons] at hl; omega
  simp [partB, hb, ht, parI]

set_option maxHeartbeats 1000000 in
theorem namePart_any (s : ByteArray) (w : World) (hs : s.size ≤ maxLen) :
    Calls Tryd.prog 39 #[.string s] w fun e w' => e = .returned (.bool (partB s.data.toList)) ∧ w = w' := by
  unfold maxLen at hs
  have hlen : s.data.toList.length = s.size := by rw [Array.length_toList]; rfl
  by_cases h0 : s.size = 0
  · rw [part_size (.inl (by omega))]
    have z1 : ((s.size : Int) == 0) = true := beq_iff_eq.mpr (by omega)
    clear h0 hlen
    go_enter Tryd.func39, Tryd.ntmps39
    go_wp2
    go_ret
    exact ⟨rfl, rfl⟩
  · have z1 : ((s.size : Int) == 0) = false := beq_eq_false_iff_ne.mpr (by omega)
    by_cases h12 : s.size ≤ 12
    · have z2 : decide (12 < (s.size : Int)) = false := decide_eq_false (by omega)
      have z3 : 0 < s.size := by omega
      have hb0 : (s[0].toNat : Int) ≤ 255 := by have := s[0].toNat_lt; omega
      cases hl : ltrI (s[0].toNat : Int) with
      | false =>
        rw [part_first s z3 hl]
        have HL := Lib.hid hl; clear hl hlen h0
        go_enter Tryd.func39, Tryd.ntmps39
        go_wp2_with fail
        refine (smallLetter_any _ _ (by omega) (by omega)).mono ?_
        rintro e w' ⟨rfl, rfl⟩
        rw [HL.out]
        go_wp2
        go_ret
        exact ⟨rfl, rfl⟩
      | true =>
        have HA := Lib.hid (part_all s z3 h12 hl)
        have HL := Lib.hid hl; have HN := Lib.hid hlen; clear hl hlen h0
        go_enter Tryd.func39, Tryd.ntmps39
        go_wp2_with fail
        refine (smallLetter_any _ _ (by omega) (by omega)).mono ?_
        rintro e w' ⟨rfl, rfl⟩
        rw [HL.out]
        go_wp2_with fail
        go_loop [3, 20] (fun _ i => ∃ k : Nat, k ≤ s.size ∧ i = .int .i64 (k : Int) ∧ (s.data.toList.take k).all (fun b => parI (b.toNat : Int)) = true) (fun _ i => s.size - (intOf i).toNat)
        case atStart => exact ⟨0, Nat.zero_le _, rfl, rfl⟩
        case round =>
          obtain ⟨k, hk, rfl, hok⟩ := hrel
          have HK := Lib.hid hok; clear hok
          by_cases hlt : k < s.size
          · have hbk : (s[k].toNat : Int) ≤ 255 := by have := s[k].toNat_lt; omega
            cases hp : parI (s[k].toNat : Int) with
            | true =>
              have HP := Lib.hid hp; clear hp
              have HQ := Lib.hid (show (s.data.toList.take (k + 1)).all (fun b => parI (b.toNat : Int)) = true by rw [snoc_take s k hlt, List.all_append, HK.out]; simp [HP.out])
              go_wp2_with fail
              refine (partByte_any _ _ (by omega) (by omega)).mono ?_
              rintro e w' ⟨rfl, rfl⟩
              rw [HP.out]
              go_wp2
              go_round
              case rel => exact ⟨k + 1, by omega, by go_num, HQ.out⟩
              case measure => simp [intOf]; omega
            | false =>
              have HP := Lib.hid hp; clear hp
              have HQ := Lib.hid (show s.data.toList.all (fun b => parI (b.toNat : Int)) = false by
                rw [List.all_eq_false]
                exact ⟨s[k], by show s.data.toList[k] ∈ _; exact List.getElem_mem _, by rw [HP.out]; simp⟩)
              go_wp2_with fail
              refine (partByte_any _ _ (by omega) (by omega)).mono ?_
              rintro e w' ⟨rfl, rfl⟩
              rw [HP.out]
              go_wp2
              go_ret
              exact ⟨ret_boolN (by rw [HA.out, HQ.out]), rfl⟩
          · go_wp2
            go_ret
            exact ⟨ret_boolN (by rw [HA.out, ← HK.out, List.take_of_length_le (by rw [HN.out]; omega)]), rfl⟩
    · rw [part_size (.inr (by omega))]
      have z2 : decide (12 < (s.size : Int)) = true := decide_eq_true (by omega)
      clear h0 hlen h12
      go_enter Tryd.func39, Tryd.ntmps39
      go_wp2
      go_ret
      exact ⟨rfl, rfl⟩

end Go.Proofs.YtkeinhhpikfjcaaDoor
