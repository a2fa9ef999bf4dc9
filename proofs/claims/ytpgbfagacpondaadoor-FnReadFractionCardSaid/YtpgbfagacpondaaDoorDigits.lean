/-
  impl.digitsNumber and spec.l2Digits, by their contracts.
-/
import Derived.Test.YtpgbfagacpondaaDoorFrac
import Derived.Test.YtpgbfagacpondaaDoorDigitsPlain
namespace Go.Proofs.YtpgbfagacpondaaDoor
open Go.RowKit
set_option linter.unusedVariables false

theorem tk_snoc (s : ByteArray) (k : Nat) (h : k < s.size) : s.data.toList.take (k + 1) = s.data.toList.take k ++ [s[k]] := by
  rw [List.take_succ_eq_append_getElem (by simpa using h)]; rfl
theorem dOK_no_size {l : List UInt8} {m : Nat} (h : l.length = 0 ∨ m < l.length) : dOK l m = false := by
  simp only [dOK, Bool.and_eq_false_imp, Bool.and_eq_true, decide_eq_true_eq]; omega
theorem dOK_no_digit (s : ByteArray) (m k : Nat) (hk : k < s.size) (h : isD s[k] = false) : dOK s.data.toList m = false := by
  have : allD s.data.toList = false := allD_take_false _ (k + 1) (by rw [tk_snoc s k hk, allD_snoc, h, Bool.and_false])
  simp [dOK, this]
theorem isD_lo {b : UInt8} (h : (b.toNat : Int) < 48) : isD b = false := by simp [isD]; omega
theorem isD_hi {b : UInt8} (h : 57 < (b.toNat : Int)) : isD b = false := by simp [isD]; omega
theorem isD_in {b : UInt8} (h0 : 48 ≤ (b.toNat : Int)) (h1 : (b.toNat : Int) ≤ 57) : isD b = true := by simp [isD]; omega

set_option maxHeartbeats 2000000 in
theorem digitsNumber_any (s : ByteArray) (most : Nat) (w : World) (hs : s.size ≤ maxLen) (hm : most ≤ 10) :
    Calls Tryd.prog 48 #[.string s, .int .i64 (most : Int)] w fun e w' => e = .returned (.tuple #[.int .i64 (dN s.data.toList most : Nat), .bool (dOK s.data.toList most)]) ∧ w = w' := by
  unfold maxLen at hs
  have hlen : s.data.toList.length = s.size := by rw [Array.length_toList]; rfl
  by_cases hsz : 1 ≤ s.size ∧ s.size ≤ most
  · obtain ⟨h1, h2⟩ := hsz
    by_cases hall : allD s.data.toList = true
    · have ho : dOK s.data.toList most = true := by simp [dOK, hlen, h1, h2, hall]
      rw [ho, show dN s.data.toList most = valD s.data.toList by simp [dN, ho]]
      have HA := Lib.hid hall; have HL := Lib.hid hlen
      clear ho hall hlen
      have z1 : ((s.size : Int) == 0) = false := by rw [beq_eq_false_iff_ne]; omega
      have z2 : decide (most < s.size) = false := by simp; omega
      go_enter Tryd.func48, Tryd.ntmps48
      go_wp2
      go_loop [6, 7, 19] (fun n _ i => ∃ k : Nat, k ≤ s.size ∧ i = .int .i64 (k : Int) ∧ n = .int .i64 ((valD (s.data.toList.take k) : Nat) : Int)) (fun _ _ i => s.size - (intOf i).toNat)
      case atStart => exact ⟨0, Nat.zero_le _, rfl, rfl⟩
      case round =>
        obtain ⟨k, hk, rfl, rfl⟩ := hrel
        by_cases hlt : k < s.size
        · have hd : isD s[k] = true := by
            have := allD_take _ (k + 1) HA.out; rw [tk_snoc s k hlt, allD_snoc] at this; simp only [Bool.and_eq_true] at this; exact this.2
          have hdd : 48 ≤ (s[k].toNat : Int) ∧ (s[k].toNat : Int) ≤ 57 := by simp [isD] at hd; omega
          obtain ⟨d1, d2⟩ := hdd
          have hv := valD_bd (s.data.toList.take k) (allD_take _ k HA.out) (by rw [List.length_take, HL.out]; omega)
          have HS := Lib.hid (show valD (s.data.toList.take (k + 1)) = valD (s.data.toList.take k) * 10 + (s[k].toNat - 48) by rw [tk_snoc s k hlt, valD_snoc])
          clear hd
          generalize valD (s.data.toList.take k) = v at hv HS ⊢
          go_wp2
          go_round
          case rel => exact ⟨k + 1, by omega, by go_num, by rw [HS.out]; go_num⟩
          case measure => simp [intOf]; omega
        · obtain rfl : k = s.size := by omega
          rw [show s.data.toList.take s.size = s.data.toList from List.take_of_length_le (by rw [HL.out]; exact Nat.le_refl _)]
          go_wp2
          go_ret2
          exact ⟨rfl, rfl⟩
    · have hall' := Bool.eq_false_iff.mpr hall
      have ho : dOK s.data.toList most = false := by simp [dOK, hall']
      rw [ho, show dN s.data.toList most = 0 by simp [dN, ho]]
      have HA := Lib.hid hall'; have HL := Lib.hid hlen
      clear ho hall hall' hlen
      have z1 : ((s.size : Int) == 0) = false := by rw [beq_eq_false_iff_ne]; omega
      have z2 : decide (most < s.size) = false := by simp; omega
      go_enter Tryd.func48, Tryd.ntmps48
      go_wp2
      go_loop [6, 7, 19] (fun n _ i => ∃ k : Nat, k ≤ s.size ∧ i = .int .i64 (k : Int) ∧ allD (s.data.toList.take k) = true ∧ n = .int .i64 ((valD (s.data.toList.take k) : Nat) : Int)) (fun _ _ i => s.size - (intOf i).toNat)
      case atStart => exact ⟨0, Nat.zero_le _, rfl, rfl, rfl⟩
      case round =>
        obtain ⟨k, hk, rfl, hkd, rfl⟩ := hrel
        have HK := Lib.hid hkd; clear hkd
        have hlt : k < s.size := by
          by_cases h : k < s.size
          · exact h
          · have h1 := HK.out; have h2 := HA.out
            rw [List.take_of_length_le (by rw [HL.out]; omega), h2] at h1; cases h1
        have hv := valD_bd (s.data.toList.take k) HK.out (by rw [List.length_take, HL.out]; omega)
        have hb0 : (s[k].toNat : Int) ≤ 255 := by have := s[k].toNat_lt; omega
        have HS := Lib.hid (show valD (s.data.toList.take (k + 1)) = valD (s.data.toList.take k) * 10 + (s[k].toNat - 48) by rw [tk_snoc s k hlt, valD_snoc])
        by_cases d1 : 48 ≤ (s[k].toNat : Int)
        · by_cases d2 : (s[k].toNat : Int) ≤ 57
          · have HD := Lib.hid (show allD (s.data.toList.take (k + 1)) = true by rw [tk_snoc s k hlt, allD_snoc, HK.out, isD_in d1 d2]; rfl)
            generalize valD (s.data.toList.take k) = v at hv HS ⊢
            go_wp2
            go_round
            case rel => exact ⟨k + 1, by omega, by go_num, HD.out, by rw [HS.out]; go_num⟩
            case measure => simp [intOf]; omega
          · generalize valD (s.data.toList.take k) = v at hv HS ⊢
            go_wp2
            go_ret2
            exact ⟨rfl, rfl⟩
        · generalize valD (s.data.toList.take k) = v at hv HS ⊢
          go_wp2
          go_ret2
          exact ⟨rfl, rfl⟩
  · have ho : dOK s.data.toList most = false := dOK_no_size (by rw [hlen]; omega)
    rw [ho, show dN s.data.toList most = 0 by simp [dN, ho]]
    clear ho hlen
    by_cases h0 : s.size = 0
    · have z1 : ((s.size : Int) == 0) = true := beq_iff_eq.mpr (by omega)
      clear hsz h0
      go_enter Tryd.func48, Tryd.ntmps48
      go_wp2
      go_ret2
      exact ⟨rfl, rfl⟩
    · have z1 : ((s.size : Int) == 0) = false := by rw [beq_eq_false_iff_ne]; omega
      have z2 : decide (most < s.size) = true := by simp; omega
      clear hsz h0
      go_enter Tryd.func48, Tryd.ntmps48
      go_wp2
      go_ret2
      exact ⟨rfl, rfl⟩

/-- From a place on. -/
def runAt (s : ByteArray) (at0 most : Nat) : Nat := runD (s.data.toList.drop at0) most
def valAt (s : ByteArray) (at0 k : Nat) : Nat := valD ((s.data.toList.drop at0).take k)

theorem drop_snoc (s : ByteArray) (a k : Nat) (h : a + k < s.size) : (s.data.toList.drop a).take (k + 1) = (s.data.toList.drop a).take k ++ [s[a + k]] := by
  have hl : s.data.toList.length = s.size := by rw [Array.length_toList]; rfl
  rw [List.take_succ_eq_append_getElem (by rw [List.length_drop]; omega), List.getElem_drop]; rfl
theorem drop_at (s : ByteArray) (a k : Nat) (h : a + k < s.size) : (s.data.toList.drop a)[k]? = some s[a + k] := by
  have hl : s.data.toList.length = s.size := by rw [Array.length_toList]; rfl
  rw [List.getElem?_drop, List.getElem?_eq_getElem (by omega)]; rfl

set_option maxHeartbeats 2000000 in
theorem l2Digits_any (s : ByteArray) (a most : Nat) (w : World) (hs : s.size ≤ 2097152) (ha : a ≤ s.size) (hm : most ≤ 10) :
    Calls Tryd.prog 28 #[.string s, .int .i64 (a : Int), .int .i64 (most : Int)] w fun e w' => e = .returned (.tuple #[.int .i64 ((valAt s a (runAt s a most) : Nat) : Int), .int .i64 ((a + runAt s a most : Nat) : Int)]) ∧ w = w' := by
  have hl : s.data.toList.length = s.size := by rw [Array.length_toList]; rfl
  have hld : (s.data.toList.drop a).length = s.size - a := by rw [List.length_drop, hl]
  have HL := Lib.hid hld; clear hl hld
  go_enter Tryd.func28, Tryd.ntmps28
  go_wp2
  go_loop [8, 1] (fun n i => ∃ k : Nat, a + k ≤ s.size ∧ k ≤ most ∧ i = .int .i64 ((a + k : Nat) : Int) ∧ allD ((s.data.toList.drop a).take k) = true ∧ n = .int .i64 ((valAt s a k : Nat) : Int)) (fun _ i => s.size - (intOf i).toNat)
  case atStart => exact ⟨0, by omega, by omega, rfl, by simp [allD], by simp [valAt, valD]⟩
  case round =>
    obtain ⟨k, hk, hkm, rfl, hkd, rfl⟩ := hrel
    have HK := Lib.hid hkd; clear hkd
    have hv : valAt s a k < 10000000000 := valD_bd _ HK.out (by rw [List.length_take]; omega)
    have fin : (k = s.size - a ∨ k = most ∨ ∃ b, (s.data.toList.drop a)[k]? = some b ∧ isD b = false) → runAt s a most = k := fun h => runD_unique (by rw [HL.out]; omega) hkm HK.out (by rw [HL.out]; exact h)
    have HF := Lib.hid fin; clear fin
    by_cases hlt : a + k < s.size
    · have hb0 : (s[a + k].toNat : Int) ≤ 255 := by have := s[a + k].toNat_lt; omega
      have HD := Lib.hid (drop_at s a k hlt)
      by_cases hkl : k < most
      · by_cases d1 : 48 ≤ (s[a + k].toNat : Int)
        · by_cases d2 : (s[a + k].toNat : Int) ≤ 57
          · have HN := Lib.hid (show allD ((s.data.toList.drop a).take (k + 1)) = true by rw [drop_snoc s a k hlt, allD_snoc, HK.out, isD_in d1 d2]; rfl)
            have HV := Lib.hid (show valAt s a (k + 1) = valAt s a k * 10 + (s[a + k].toNat - 48) by unfold valAt; rw [drop_snoc s a k hlt, valD_snoc])
            generalize valAt s a k = v at hv HV ⊢
            go_wp2
            go_round
            case rel => exact ⟨k + 1, by omega, by omega, by go_num, HN.out, by rw [HV.out]; go_num⟩
            case measure => simp [intOf]; omega
          · have HR := Lib.hid (HF.out (.inr (.inr ⟨_, HD.out, isD_hi (by omega)⟩)))
            go_wp2
            go_ret2
            exact ⟨by rw [HR.out]; go_num, rfl⟩
        · have HR := Lib.hid (HF.out (.inr (.inr ⟨_, HD.out, isD_lo (by omega)⟩)))
          go_wp2
          go_ret2
          exact ⟨by rw [HR.out]; go_num, rfl⟩
      · have HR := Lib.hid (HF.out (.inr (.inl (by omega))))
        by_cases d1 : 48 ≤ (s[a + k].toNat : Int)
        · by_cases d2 : (s[a + k].toNat : Int) ≤ 57
          · go_wp2
            go_ret2
            exact ⟨by rw [HR.out]; go_num, rfl⟩
          · go_wp2
            go_ret2
            exact ⟨by rw [HR.out]; go_num, rfl⟩
        · go_wp2
          go_ret2
          exact ⟨by rw [HR.out]; go_num, rfl⟩
    · have HR := Lib.hid (HF.out (.inl (by omega)))
      go_wp2
      go_ret2
      exact ⟨by rw [HR.out]; go_num, rfl⟩

end Go.Proofs.YtpgbfagacpondaaDoor
