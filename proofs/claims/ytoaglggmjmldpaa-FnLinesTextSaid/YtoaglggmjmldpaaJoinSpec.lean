/-
  spec.l1Has and spec.LinesText, by their contracts.
-/
import Derived.Test.YtoaglggmjmldpaaTexts
import Derived.Test.YtoaglggmjmldpaaLinesSpec
import Derived.Test.YtoaglggmjmldpaaJoin
import Derived.Test.YtoaglggmjmldpaaRows2
namespace Go.Proofs.Ytoaglggmjmldpaa
open Go.RowKit
set_option linter.unusedVariables false

set_option maxHeartbeats 1000000 in
theorem l1Has_any (s : ByteArray) (n : Int) (w : World) (hs : s.size ≤ maxLen) (h0 : 0 ≤ n) (h1 : n ≤ 255) :
    Calls Try.prog 39 #[.string s, .int .u8 n] w fun e w' => e = .returned (.bool (hasL s.data.toList n)) ∧ w = w' := by
  unfold maxLen at hs
  go_enter Try.func39, Try.ntmps39
  go_wp2
  go_loop [5] (fun i => ∃ k : Nat, k ≤ s.size ∧ i = .int .i64 k ∧ hasL (s.data.toList.take k) n = false) (fun i => s.size - (intOf i).toNat)
  case atStart => exact ⟨0, Nat.zero_le _, rfl, rfl⟩
  case round =>
    obtain ⟨k, hk, rfl, hok⟩ := hrel
    have HK := Lib.hid hok; clear hok
    by_cases hlt : k < s.size
    · by_cases he : ((s[k].toNat : Int) == n) = true
      · have HE := Lib.hid (hasL_good s k n hlt he)
        go_wp2
        go_ret
        exact ⟨ret_bool HE.out.symm, rfl⟩
      · have he' : ((s[k].toNat : Int) == n) = false := by simpa using he
        have HE := Lib.hid (hasL_next s k n hlt HK.out he')
        clear he
        go_wp2
        go_round
        case rel => exact ⟨k + 1, by omega, by go_num, HE.out⟩
        case measure => simp [intOf]; omega
    · go_wp2
      go_ret
      have := HK.out
      rw [List.take_of_length_le (by simp; omega)] at this
      exact ⟨ret_bool this.symm, rfl⟩

/-- Texts whose lengths are lengths. -/
def Sized (L : List ByteArray) : Prop := ∀ t ∈ L, t.size ≤ maxLen

theorem lineAt_get (L : List ByteArray) (k : Nat) (h : k < L.length) : lineAt L k = L[k] := by simp [lineAt, List.getElem?_eq_getElem h]
theorem textB_line (t : ByteArray) (n : Nat) (h : n + t.size + 1 ≤ 20000) : (textB t && !hasL t.data.toList 10) = plainL t.data.toList := by
  rw [plain_iff, textB]
  have : decide (t.size ≤ 20000) = true := by simp; omega
  rw [this, Bool.true_and]

/-- The result of joining lines. -/
def Joins (L : List ByteArray) (e : Ending) : Prop := e = .returned (.tuple #[.string (joinB L), .bool (joinOk L)])

theorem joins_bad (L : List ByteArray) (k : Nat) (hk : k < L.length) (h : okAt L k = false) : Joins L (.returned (.tuple #[.string ⟨#[]⟩, .bool false])) := by
  have hb := joinOk_bad L k hk h
  have hj : joinB L = ⟨#[]⟩ := by rw [joinB, hb]; rfl
  rw [Joins, hb, hj]
theorem joins_good (L : List ByteArray) (h : ∀ j, j < L.length → okAt L j = true) : Joins L (.returned (.tuple #[.string (accTo L L.length), .bool true])) := by
  have hb := joinOk_good L h
  have hj : joinB L = accTo L L.length := by rw [joinB, hb]; rfl
  rw [Joins, hb, hj]

set_option maxRecDepth 100000 in
set_option maxHeartbeats 2000000 in
theorem linesText_spec (v : Value) (L : List ByteArray) (w : World) (h : RowOf w v (strs L)) (hz : Sized L) :
    Calls Try.prog 22 #[v] w fun e w' => Joins L e ∧ w = w' := by
  obtain ⟨ao, cap, rfl, h1, h2, h3⟩ := h
  simp only [strs_length] at h1 ⊢
  unfold maxLen at h2
  have H3 := Lib.hid h3; clear h3
  have HZ := Lib.hid hz; clear hz
  go_enter Try.func22, Try.ntmps22
  go_wp2
  go_loop [4, 5] (fun o i => ∃ k : Nat, k ≤ L.length ∧ i = .int .i64 k ∧ o = .string (accTo L k) ∧ (∀ j, j < k → okAt L j = true)) (fun _ i => L.length - (intOf i).toNat)
  case atStart => exact ⟨0, Nat.zero_le _, rfl, rfl, fun j hj => by omega⟩
  case round =>
    obtain ⟨k, hk, rfl, rfl, hok⟩ := hrel
    have HK := Lib.hid hok
    have hacc := acc_le L k hok
    clear hok
    by_cases hlt : k < L.length
    · obtain ⟨b, o, hA, -, cc⟩ := H3.out.resolve_left (by intro h; have h' := congrArg List.length h; rw [strs_length] at h'; simp only [List.length_nil] at h'; omega)
      subst hA
      obtain ⟨t, ht⟩ : ∃ t, L[k] = t := ⟨_, rfl⟩
      have d1 := cc k (.string t) (by simp [strs, hlt, ht])
      have hts : t.size ≤ maxLen := by rw [← ht]; exact HZ.out _ (List.getElem_mem _)
      have HT := Lib.hid (show lineAt L k = t by rw [lineAt_get L k hlt, ht])
      have hts' := hts
      unfold maxLen at hts'
      clear cc ht
      go_wp2_with fail
      refine (textValid_spec t _ hts).mono ?_
      rintro e w' ⟨rfl, rfl⟩
      by_cases hv : textB t = true
      · rw [hv]
        have HV := Lib.hid hv; clear hv
        go_wp2_with fail
        refine (l1Has_any t 10 _ hts (by omega) (by omega)).mono ?_
        rintro e w' ⟨rfl, rfl⟩
        by_cases hh : hasL t.data.toList 10 = true
        · rw [hh]
          have HO := Lib.hid (show okAt L k = false by
            simp only [okAt, HT.out, plain_iff, hh]; simp)
          clear hh
          go_wp2
          go_ret2
          exact ⟨joins_bad L k hlt HO.out, rfl⟩
        · rw [Bool.eq_false_iff.mpr hh]
          have h20 : t.size ≤ 20000 := by have := HV.out; simp only [textB, Bool.and_eq_true, decide_eq_true_eq] at this; exact this.1
          have HP := Lib.hid (show plainL t.data.toList = true by
            have hv := HV.out
            simp only [textB, Bool.and_eq_true] at hv
            rw [plain_iff, hv.2, Bool.eq_false_iff.mpr hh]; rfl)
          clear hh
          by_cases hroom : (accTo L k).size + t.size + 1 ≤ 20000
          · have HO := Lib.hid (show okAt L k = true by
              rw [okAt, HT.out, HP.out]; simp; omega)
            have HA := Lib.hid (show accTo L (k + 1) = accTo L k ++ t ++ ⟨#[10]⟩ by show accTo L k ++ lineAt L k ++ _ = _; rw [HT.out])
            go_wp2
            go_round
            case rel => exact ⟨k + 1, by omega, by go_num, by rw [HA.out], fun j hj => by
              by_cases hjk : j = k
              · rw [hjk]; exact HO.out
              · exact HK.out j (by omega)⟩
            case measure => simp [intOf]; omega
          · have HO := Lib.hid (show okAt L k = false by
              rw [okAt, HT.out, HP.out]; simp; omega)
            go_wp2
            go_ret2
            exact ⟨joins_bad L k hlt HO.out, rfl⟩
      · rw [Bool.eq_false_iff.mpr hv]
        have HO := Lib.hid (show okAt L k = false by
          rw [okAt, HT.out]
          by_cases hroom : (accTo L k).size + t.size + 1 ≤ 20000
          · rw [← textB_line t _ hroom, Bool.eq_false_iff.mpr hv]; rfl
          · simp only [hroom, decide_false, Bool.and_false])
        clear hv
        go_wp2
        go_ret2
        exact ⟨joins_bad L k hlt HO.out, rfl⟩
    · obtain rfl : k = L.length := by omega
      go_wp2
      go_ret2
      exact ⟨joins_good L HK.out, rfl⟩

end Go.Proofs.Ytoaglggmjmldpaa
