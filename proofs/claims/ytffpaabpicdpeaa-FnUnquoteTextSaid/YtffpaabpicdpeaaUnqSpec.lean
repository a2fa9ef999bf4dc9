/-
  spec.UnquoteText, by its contract.
-/
import Derived.Test.YtffpaabpicdpeaaQuoteSpec
import Derived.Test.YtffpaabpicdpeaaRows2
namespace Go.Proofs.Ytffpaabpicdpeaa
open Go.RowKit
set_option linter.unusedVariables false

theorem list_len (s : ByteArray) : s.data.toList.length = s.size := by rw [Array.length_toList]; rfl
theorem unq_long {s : ByteArray} (h : unqOK s = true) : 2 ≤ s.size := by
  simp only [unqOK, Bool.and_eq_true, decide_eq_true_eq] at h
  have := congrArg List.length h.2
  rw [list_len] at this
  simp [quoteL] at this
  omega
theorem unq_first {s : ByteArray} (h : unqOK s = true) (hl : 0 < s.size) : s[0] = 34 := by
  simp only [unqOK, Bool.and_eq_true, decide_eq_true_eq] at h
  have h2 : s.data.toList[0]? = some 34 := by rw [← h.2]; rfl
  rw [List.getElem?_eq_getElem (by rw [list_len]; omega)] at h2
  exact Option.some.inj h2
theorem unq_last {s : ByteArray} (h : unqOK s = true) (hl : s.size - 1 < s.size) : s[s.size - 1] = 34 := by
  simp only [unqOK, Bool.and_eq_true, decide_eq_true_eq] at h
  have h2 : s.data.toList.getLast? = some 34 := by rw [← h.2]; simp [quoteL, List.getLast?_cons]
  rw [List.getLast?_eq_getElem?, list_len, List.getElem?_eq_getElem (by rw [list_len]; omega)] at h2
  exact Option.some.inj h2
theorem unq_short {s : ByteArray} (h : s.size < 2) : unqOK s = false := by
  cases e : unqOK s with
  | false => rfl
  | true => have := unq_long e; omega
theorem unq_first_no {s : ByteArray} (hl : 0 < s.size) (h : s[0] ≠ 34) : unqOK s = false := by
  cases e : unqOK s with
  | false => rfl
  | true => exact absurd (unq_first e hl) h
theorem unq_last_no {s : ByteArray} (hl : s.size - 1 < s.size) (h : s[s.size - 1] ≠ 34) : unqOK s = false := by
  cases e : unqOK s with
  | false => rfl
  | true => exact absurd (unq_last e hl) h
theorem drop_two (s : ByteArray) (k : Nat) (h : k + 1 < s.size) : s.data.toList.drop k = s[k] :: s[k + 1] :: s.data.toList.drop (k + 2) := by
  rw [List.drop_eq_getElem_cons (by rw [list_len]; omega), List.drop_eq_getElem_cons (by rw [list_len]; omega)]; rfl
theorem loose_plain (s : ByteArray) (k : Nat) (h : k + 1 < s.size) (hc : s[k] ≠ 92) : looseL (s.data.toList.drop k) = s[k] :: looseL (s.data.toList.drop (k + 1)) := by
  rw [drop_two s k h, List.drop_eq_getElem_cons (i := k + 1) (by rw [list_len]; omega)]
  simp only [looseL, hc, if_false]; rfl
theorem loose_back (s : ByteArray) (k : Nat) (h : k + 1 < s.size) (hc : s[k] = 92) : looseL (s.data.toList.drop k) = (if s[k + 1] = 110 then 10 else s[k + 1]) :: looseL (s.data.toList.drop (k + 2)) := by
  rw [drop_two s k h]
  simp only [looseL, hc, if_true]
theorem loose_done (s : ByteArray) (k : Nat) (h : ¬ k + 1 < s.size) : looseL (s.data.toList.drop k) = [] := by
  have : (s.data.toList.drop k).length ≤ 1 := by rw [List.length_drop, list_len]; omega
  generalize s.data.toList.drop k = l at this ⊢
  match l, this with
  | [], _ => rfl
  | [_], _ => rfl
/-- Whether the text that was read is quoted so. -/
theorem unq_again {s q : ByteArray} (hq : q.data.toList = unqL s) (h : unqOK s = true) : quoteT q = s ∧ q = unqT s := by
  have hq' : q = ⟨(unqL s).toArray⟩ := ba_eq (by rw [ba_list, hq])
  have e : unqT s = q := by unfold unqT; rw [if_pos h, hq']
  have := unq_quote h
  rw [e] at this
  exact ⟨this.2, e.symm⟩
theorem unq_not {s q : ByteArray} (h2 : 2 ≤ s.size) (hq : q.data.toList = unqL s) (h : unqOK s = false) : ((quoteT q).toList == s.toList) = false := by
  rw [beq_eq_false_iff_ne]
  intro e
  rw [ByteArray.toList_eq, ByteArray.toList_eq] at e
  have hq' : q = ⟨(unqL s).toArray⟩ := ba_eq (by rw [ba_list, hq])
  cases ht : textB q with
  | false =>
    rw [quoteT_none ht] at e
    have : s.size = 0 := by rw [← list_len, ← e]; rfl
    omega
  | true =>
    have e1 : quoteL q.data.toList = s.data.toList := by unfold quoteT at e; rw [if_pos ht] at e; simpa using e
    rw [(unq_of ht e1).1] at h
    cases h

set_option maxRecDepth 100000 in
set_option maxHeartbeats 4000000 in
theorem unquoteText_spec (s : ByteArray) (w : World) (hs : s.size ≤ maxLen) :
    Calls Try.prog 15 #[.string s] w fun e w' => e = .returned (.tuple #[.string (unqT s), .bool (unqOK s)]) ∧ w = w' := by
  have HMX := Lib.hid hs
  unfold maxLen at hs
  by_cases h2 : s.size < 2
  · have e := unq_short h2
    rw [unq_no e, e]; clear e
    go_enter Try.func15, Try.ntmps15
    go_wp2
    go_ret2
    exact ⟨rfl, rfl⟩
  have q0 : 0 < s.size := by omega
  have q1 : s.size - 1 < s.size := by omega
  have b0 : (s[0].toNat : Int) ≤ 255 := by have := s[0].toNat_lt; omega
  by_cases h3 : s[0] = 34
  case neg =>
    have e := unq_first_no q0 h3
    rw [unq_no e, e]; clear e
    have t1 : ((s[0].toNat : Int) != 34) = true := by
      rw [bne_iff_ne]; intro e; exact h3 (UInt8.toNat_inj.mp (by rw [show (34 : UInt8).toNat = 34 from rfl]; omega))
    clear h3
    go_enter Try.func15, Try.ntmps15
    go_wp2
    go_ret2
    exact ⟨rfl, rfl⟩
  have t1 : ((s[0].toNat : Int) != 34) = false := by rw [h3]; rfl
  clear h3
  have ei : ((s.size : Int) - 1).toNat = s.size - 1 := by omega
  by_cases h4 : s[s.size - 1] = 34
  case neg =>
    have e := unq_last_no q1 h4
    rw [unq_no e, e]; clear e
    have t2 : ((s[s.size - 1].toNat : Int) != 34) = true := by
      rw [bne_iff_ne]; intro e; exact h4 (UInt8.toNat_inj.mp (by rw [show (34 : UInt8).toNat = 34 from rfl]; omega))
    clear h4
    go_enter Try.func15, Try.ntmps15
    go_wp2
    go_ret2
    exact ⟨rfl, rfl⟩
  have t2 : ((s[s.size - 1].toNat : Int) != 34) = false := by rw [h4]; rfl
  clear h4
  have HU := Lib.hid (show looseL (s.data.toList.drop 1) = unqL s from rfl)
  have t8 : decide ((s.size : Int) < 2) = false := decide_eq_false (by omega)
  have t8' : decide (s.size < 2) = false := decide_eq_false (by omega)
  go_enter Try.func15, Try.ntmps15
  go_wp2
  clear t1 t2
  go_loop [4, 5] (fun o i => ∃ (k : Nat) (q : ByteArray), 1 ≤ k ∧ k ≤ s.size ∧ i = .int .i64 k ∧ o = .string q ∧ q.data.toList ++ looseL (s.data.toList.drop k) = unqL s ∧ q.size ≤ k) (fun _ i => s.size - (intOf i).toNat)
  case atStart => exact ⟨1, ⟨#[]⟩, Nat.le_refl _, by omega, rfl, rfl, by rw [HU.out]; rfl, Nat.zero_le _⟩
  case round =>
    obtain ⟨k, q, hk1, hk, rfl, rfl, hq, hz⟩ := hrel
    have HQ := Lib.hid hq
    clear hq
    by_cases hlt : k + 1 < s.size
    · have hlt0 : k < s.size := by omega
      have hb0 : (s[k].toNat : Int) ≤ 255 := by have := s[k].toNat_lt; omega
      have HO := Lib.hid (one_list s k hlt0)
      have hoz : (s.extract k (k + 1)).size = 1 := by rw [ByteArray.size_extract]; omega
      have t0 : decide ((k : Int) < (s.size : Int) - 1) = true := decide_eq_true (by omega)
      by_cases h92 : s[k] = 92
      · have HN := Lib.hid (loose_back s k hlt h92)
        have t1 : ((s[k].toNat : Int) != 92) = false := by rw [h92]; rfl
        have hb1 : (s[k + 1].toNat : Int) ≤ 255 := by have := s[k + 1].toNat_lt; omega
        have HO1 := Lib.hid (one_list s (k + 1) hlt)
        have hoz1 : (s.extract (k + 1) (k + 1 + 1)).size = 1 := by rw [ByteArray.size_extract]; omega
        clear h92
        by_cases h110 : s[k + 1] = 110
        · have HC := Lib.hid (show (if s[k + 1] = 110 then 10 else s[k + 1]) = (10 : UInt8) by rw [if_pos h110])
          have t2 : ((s[k + 1].toNat : Int) == 110) = true := by rw [h110]; rfl
          clear h110
          go_wp2
          go_round
          case rel => exact ⟨k + 2, _, by omega, by omega, by go_num, rfl, by have h5 := HQ.out; rw [HN.out, HC.out] at h5; rw [← h5]; simp, by rw [ByteArray.size_append]; show q.size + 1 ≤ _; omega⟩
          case measure => simp [intOf]; omega
        · have HC := Lib.hid (show (if s[k + 1] = 110 then 10 else s[k + 1]) = s[k + 1] by rw [if_neg h110])
          have t2 : ((s[k + 1].toNat : Int) == 110) = false := by
            rw [beq_eq_false_iff_ne]; intro e; exact h110 (UInt8.toNat_inj.mp (by rw [show (110 : UInt8).toNat = 110 from rfl]; omega))
          clear h110
          go_wp2
          go_round
          case rel => exact ⟨k + 2, _, by omega, by omega, by go_num, rfl, by have h5 := HQ.out; have h6 := HO1.out; rw [HN.out, HC.out] at h5; rw [← h5]; simp only [ByteArray.data_append, Array.toList_append, h6]; simp, by rw [ByteArray.size_append, hoz1]; omega⟩
          case measure => simp [intOf]; omega
      · have HN := Lib.hid (loose_plain s k hlt h92)
        have t1 : ((s[k].toNat : Int) != 92) = true := by
          rw [bne_iff_ne]; intro e; exact h92 (UInt8.toNat_inj.mp (by rw [show (92 : UInt8).toNat = 92 from rfl]; omega))
        clear h92
        go_wp2
        go_round
        case rel => exact ⟨k + 1, _, by omega, by omega, by go_num, rfl, by have h5 := HQ.out; have h6 := HO.out; rw [HN.out] at h5; rw [← h5]; simp only [ByteArray.data_append, Array.toList_append, h6]; simp, by rw [ByteArray.size_append, hoz]; omega⟩
        case measure => simp [intOf]; omega
    · have t0 : decide ((k : Int) < (s.size : Int) - 1) = false := decide_eq_false (by omega)
      have hqu : q.data.toList = unqL s := by have h5 := HQ.out; rw [loose_done s k hlt] at h5; simpa using h5
      have hqz : q.size ≤ 9223372036854775807 := by omega
      cases hok : unqOK s with
      | true =>
        obtain ⟨g1, g2⟩ := unq_again hqu hok
        have G1 := Lib.hid g1; have G2 := Lib.hid g2
        have HK := Lib.hid hok
        clear g1 g2 hqu hok
        go_wp2_with fail
        refine (quoteText_spec q _ (by unfold maxLen; omega)).mono ?_
        rintro e w' ⟨rfl, rfl⟩
        have t3 : ((quoteT q).toList == s.toList) = true := by rw [G1.out]; simp
        go_wp2
        go_ret2
        exact ⟨by rw [HK.out, ← G2.out]; rfl, rfl⟩
      | false =>
        have t3 := unq_not (by omega) hqu hok
        have G2 := Lib.hid (unq_no hok)
        have HK := Lib.hid hok
        clear hqu hok
        go_wp2_with fail
        refine (quoteText_spec q _ (by unfold maxLen; omega)).mono ?_
        rintro e w' ⟨rfl, rfl⟩
        go_wp2
        go_ret2
        exact ⟨by rw [HK.out, G2.out]; rfl, rfl⟩

end Go.Proofs.Ytffpaabpicdpeaa
