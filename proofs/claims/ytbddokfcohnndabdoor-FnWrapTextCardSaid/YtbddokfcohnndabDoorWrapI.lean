/-
  impl's lineLength, fullLine, lineCost, by their contracts.
-/
import Derived.Test.YtbddokfcohnndabDoorWrapB
import Derived.Test.YtbddokfcohnndabDoorRows2
import Derived.Test.YtbddokfcohnndabDoorSized
namespace Go.Proofs.YtbddokfcohnndabDoor
open Go.RowKit
set_option linter.unusedVariables false

theorem slen_next {L : List ByteArray} {k : Nat} (hk : k < L.length) : slen (szW L) (k + 1) = slen (szW L) k + L[k].size + 1 := by
  unfold slen szW
  rw [← List.map_take, ← List.map_take, List.take_succ_eq_append_getElem hk, List.map_append, List.sum_append]
  simp; omega
theorem slen_le {L : List ByteArray} {k : Nat} (hz : ∀ s ∈ L, s.size ≤ 40) : slen (szW L) k ≤ 41 * k ∧ -1 ≤ slen (szW L) k := by
  induction k with
  | zero => simp [slen]
  | succ k ih =>
    by_cases hk : k < L.length
    · rw [slen_next hk]
      have := hz L[k] (List.getElem_mem hk)
      omega
    · have e : slen (szW L) (k + 1) = slen (szW L) k + 1 := by
        unfold slen
        rw [List.take_of_length_le (by rw [szW_len]; omega), List.take_of_length_le (by rw [szW_len]; omega)]
        omega
      omega
theorem slen_take (L : List ByteArray) (k j : Nat) (h : j ≤ k) : slen (szW (L.take k)) j = slen (szW L) j := by
  unfold slen szW
  rw [← List.map_take, ← List.map_take, List.take_take, Nat.min_eq_left h]
/-- A part of a row from its beginning. -/
theorem RowOf.front {w : World} {ao : Option Addr} {cap k : Nat} {L : List Value} (h : RowOf w (.slice ao L.length cap) L) (hk : k ≤ L.length) : RowOf w (.slice ao k cap) (L.take k) := by
  obtain ⟨ao', cap', hv, h1, h2, h3⟩ := h
  injection hv with e1 e2 e3
  subst e1 e3
  have hl : (L.take k).length = k := by rw [List.length_take]; omega
  refine ⟨ao, cap, by rw [hl], by omega, h2, ?_⟩
  rcases h3 with h3 | ⟨b, off, ha, hlt, hj⟩
  · left; rw [h3]; simp
  · refine .inr ⟨b, off, ha, hlt, fun j t ht => hj j t ?_⟩
    rw [List.getElem?_take] at ht
    split at ht
    · exact ht
    · cases ht
theorem RowOf.back {w : World} {b off cap k : Nat} {L : List Value} (h : RowOf w (.slice (some ⟨b, off, none⟩) L.length cap) L) (hk : k ≤ L.length) : RowOf w (.slice (some ⟨b, off + k, none⟩) (L.length - k) (cap - k)) (L.drop k) := by
  obtain ⟨ao', cap', hv, h1, h2, h3⟩ := h
  injection hv with e1 e2 e3
  subst e1 e3
  have hl : (L.drop k).length = L.length - k := by rw [List.length_drop]
  refine ⟨some ⟨b, off + k, none⟩, cap - k, by rw [hl], by omega, by omega, ?_⟩
  rcases h3 with h3 | ⟨b', off', ha, hlt, hj⟩
  · left; rw [h3]; simp
  · injection ha with ha
    injection ha with a1 a2
    subst a1 a2
    refine .inr ⟨b, off + k, rfl, hlt, fun j t ht => ?_⟩
    rw [List.getElem?_drop] at ht
    rw [show off + k + j = off + (k + j) by omega]
    exact hj _ t ht
theorem RowOf.rest {w : World} {b off cap k n : Nat} {L : List Value} (hn : L.length = n) (h : RowOf w (.slice (some ⟨b, off, none⟩) n cap) L) (hk : k ≤ n) : RowOf w (.slice (if cap = k then some ⟨b, off, none⟩ else some ⟨b, off + k, none⟩) (n - k) (cap - k)) (L.drop k) := by
  subst hn
  by_cases hc : cap = k
  · have h0 : L.drop k = [] := by
      obtain ⟨ao', cap', hv, h1, h2, h3⟩ := h
      injection hv with e1 e2 e3
      exact List.drop_eq_nil_of_le (by omega)
    rw [if_pos hc, h0, show L.length - k = 0 by have := congrArg List.length h0; rw [List.length_drop] at this; exact this]
    exact ⟨_, _, rfl, Nat.zero_le _, by unfold maxLen; obtain ⟨ao', cap', hv, h1, h2, h3⟩ := h; injection hv with e1 e2 e3; unfold maxLen at h2; omega, .inl rfl⟩
  · rw [if_neg hc]; exact h.back hk
theorem strs_take (L : List ByteArray) (k : Nat) : strs (L.take k) = (strs L).take k := by simp [strs]
theorem strs_drop (L : List ByteArray) (k : Nat) : strs (L.drop k) = (strs L).drop k := by simp [strs]
theorem szW_take (L : List ByteArray) (k : Nat) : szW (L.take k) = (szW L).take k := by simp [szW]
theorem szW_drop (L : List ByteArray) (k : Nat) : szW (L.drop k) = (szW L).drop k := by simp [szW]
theorem ret_int {a b : Int} (h : a = b) : Ending.returned (.int .i64 a) = .returned (.int .i64 b) := by rw [h]

set_option maxRecDepth 100000 in
set_option maxHeartbeats 2000000 in
theorem lineLength_any (ao : Option Addr) (cap : Nat) (L : List ByteArray) (w : World) (h : RowOf w (.slice ao L.length cap) (strs L)) (hz : ∀ s ∈ L, s.size ≤ 40) (hl : L.length ≤ 20) :
    Calls Tryd.prog 46 #[.slice ao L.length cap] w fun e w' => e = .returned (.int .i64 (slen (szW L) L.length)) ∧ w = w' := by
  obtain ⟨ao', cap', hv, h1, h2, h3⟩ := h
  injection hv with e1 e2 e3
  subst e1 e3
  simp only [strs_length] at h1
  unfold maxLen at h2
  have H3 := Lib.hid h3; have HZ := Lib.hid hz
  clear h3 hz e2
  go_enter Tryd.func46, Tryd.ntmps46
  go_wp2
  go_loop [3, 5, 11] (fun a _ i => ∃ k : Nat, k ≤ L.length ∧ i = .int .i64 k ∧ a = .int .i64 (slen (szW L) k - k + L.length)) (fun _ _ i => L.length - (intOf i).toNat)
  case atStart => exact ⟨0, Nat.zero_le _, rfl, by simp [slen]; omega⟩
  case round =>
    obtain ⟨k, hk, rfl, rfl⟩ := hrel
    by_cases hlt : k < L.length
    · obtain ⟨b, o, hA, -, cc⟩ := H3.out.resolve_left (by intro h; have h' := congrArg List.length h; rw [strs_length] at h'; simp only [List.length_nil] at h'; omega)
      subst hA
      have HNX := Lib.hid (slen_next hlt)
      have hts : L[k].size ≤ 40 := HZ.out _ (List.getElem_mem _)
      have d1 := cc k (.string L[k]) (by simp [strs, hlt])
      have hb := slen_le (L := L) (k := k) HZ.out
      generalize L[k] = t at d1 hts HNX
      obtain ⟨x, hx⟩ : ∃ x, slen (szW L) k = x := ⟨_, rfl⟩
      rw [hx] at hb HNX ⊢
      clear cc hx
      go_wp2
      go_round
      case rel => exact ⟨k + 1, by omega, by go_num, by rw [HNX.out]; go_num⟩
      case measure => simp [intOf]; omega
    · obtain rfl : k = L.length := by omega
      go_wp2
      go_ret
      exact ⟨ret_int (by omega), rfl⟩

set_option maxRecDepth 100000 in
set_option maxHeartbeats 2000000 in
theorem fullLine_any (ao : Option Addr) (cap : Nat) (L : List ByteArray) (x : Int) (w : World) (h : RowOf w (.slice ao L.length cap) (strs L)) (hz : ∀ s ∈ L, s.size ≤ 40) (hl : L.length ≤ 20) :
    Calls Tryd.prog 35 #[.slice ao L.length cap, .int .i64 x] w fun e w' => e = .returned (.int .i64 (fuA x (szW L) : Int)) ∧ w = w' := by
  have HR := Lib.hid h; have HZ := Lib.hid hz
  have h1 : L.length ≤ cap := by obtain ⟨ao', cap', hv, h1, h2, h3⟩ := h; injection hv with e1 e2 e3; subst e3; rw [strs_length] at h1; exact h1
  have h2 : cap ≤ maxLen := by obtain ⟨ao', cap', hv, h1, h2, h3⟩ := h; injection hv with e1 e2 e3; subst e3; exact h2
  unfold maxLen at h2
  clear h hz
  go_enter Tryd.func35, Tryd.ntmps35
  go_wp2
  go_loop [5] (fun i => ∃ k : Nat, k ≤ L.length ∧ i = .int .i64 k ∧ k ≤ fuA x (szW L)) (fun i => L.length - (intOf i).toNat)
  case atStart => exact ⟨0, Nat.zero_le _, rfl, Nat.zero_le _⟩
  case round =>
    obtain ⟨k, hk, rfl, hf⟩ := hrel
    have HF := Lib.hid hf; clear hf
    by_cases hlt : k < L.length
    · have hlk : (L.take (k + 1)).length = k + 1 := by rw [List.length_take]; omega
      have HC := Lib.hid (lineLength_any ao cap (L.take (k + 1)) w (by rw [hlk, strs_take]; exact RowOf.front (by rw [strs_length]; exact HR.out) (by rw [strs_length]; omega)) (fun s hs => HZ.out s (List.mem_of_mem_take hs)) (by omega))
      rw [hlk, slen_take L (k + 1) (k + 1) (Nat.le_refl _)] at HC
      have HN := Lib.hid (fu_next (w := x) (S := szW L) (k := k) (by rw [szW_len]; exact hlt))
      have HS := Lib.hid (fu_step (w := x) HF.out)
      generalize slen (szW L) (k + 1) = y at HC HN HS
      go_wp2_with fail
      refine HC.out.mono ?_
      rintro e w' ⟨rfl, rfl⟩
      by_cases hy : y ≤ x
      · have HE := Lib.hid (show k + 1 ≤ fuA x (szW L) from HN.out.mpr hy)
        go_wp2
        go_round
        case rel => exact ⟨k + 1, by omega, by go_num, HE.out⟩
        case measure => simp [intOf]; omega
      · have HE := Lib.hid (HS.out (fun h => hy h.2))
        go_wp2
        go_ret
        exact ⟨ret_int (by rw [HE.out]), rfl⟩
    · have HE := Lib.hid (show fuA x (szW L) = k by have := fu_le x (szW L); rw [szW_len] at this; have := HF.out; omega)
      go_wp2
      go_ret
      exact ⟨ret_int (by rw [HE.out]), rfl⟩

set_option maxRecDepth 100000 in
set_option maxHeartbeats 2000000 in
theorem lineCost_any (ao : Option Addr) (cap m : Nat) (L : List ByteArray) (x : Int) (w : World) (h : RowOf w (.slice ao L.length cap) (strs L)) (hz : ∀ s ∈ L, s.size ≤ 40) (hl : L.length ≤ 20) (hx : x ≤ 40) (hm0 : m ≠ 0) (hm : m ≤ fuA x (szW L)) :
    Calls Tryd.prog 37 #[.slice ao L.length cap, .int .i64 (m : Int), .int .i64 x] w fun e w' => e = .returned (.int .i64 (lineC x (szW L) m : Int)) ∧ w = w' := by
  have HR := Lib.hid h; have HZ := Lib.hid hz
  have h1 : L.length ≤ cap := by obtain ⟨ao', cap', hv, h1, h2, h3⟩ := h; injection hv with e1 e2 e3; subst e3; rw [strs_length] at h1; exact h1
  have h2 : cap ≤ maxLen := by obtain ⟨ao', cap', hv, h1, h2, h3⟩ := h; injection hv with e1 e2 e3; subst e3; exact h2
  unfold maxLen at h2
  have hml : m ≤ L.length := by have := fu_le x (szW L); rw [szW_len] at this; omega
  have hsl := fu_len hm hm0
  have hs0 := slen_pos (S := szW L) (m := m) (by omega)
  clear h hz
  by_cases he : m = L.length
  · have e : lineC x (szW L) m = 0 := by unfold lineC; rw [if_pos (by rw [szW_len]; exact he)]
    rw [e]; clear e
    have hb : ((m : Int) == (L.length : Int)) = true := by simp; omega
    go_enter Tryd.func37, Tryd.ntmps37
    go_wp2
    go_ret
    exact ⟨rfl, rfl⟩
  · have hb : ((m : Int) == (L.length : Int)) = false := by simp; omega
    have hlk : (L.take m).length = m := by rw [List.length_take]; omega
    have HC := Lib.hid (lineLength_any ao cap (L.take m) w (by rw [hlk, strs_take]; exact RowOf.front (by rw [strs_length]; exact HR.out) (by rw [strs_length]; omega)) (fun s hs => HZ.out s (List.mem_of_mem_take hs)) (by omega))
    rw [hlk, slen_take L m m (Nat.le_refl _)] at HC
    have HE := Lib.hid (show ((lineC x (szW L) m : Nat) : Int) = (x - slen (szW L) m) * (x - slen (szW L) m) by
      unfold lineC; rw [if_neg (by rw [szW_len]; exact he)]
      have : ((x - slen (szW L) m).toNat : Int) = x - slen (szW L) m := by omega
      rw [Int.natCast_mul, this])
    rw [HE.out]
    clear he HE
    generalize slen (szW L) m = y at *
    have hwr : IntKind.i64.wrap ((x - y) * (x - y)) = (x - y) * (x - y) := by
      rw [IntWalk.i64_in _ ?_]
      have h40 : (x - y) * (x - y) ≤ 40 * 40 := Int.mul_le_mul (by omega) (by omega) (by omega) (by omega)
      have h00 : 0 ≤ (x - y) * (x - y) := Int.mul_nonneg (by omega) (by omega)
      omega
    go_enter Tryd.func37, Tryd.ntmps37
    go_wp2_with fail
    refine HC.out.mono ?_
    rintro e w' ⟨rfl, rfl⟩
    go_wp2
    go_ret
    exact ⟨rfl, rfl⟩

end Go.Proofs.YtbddokfcohnndabDoor
