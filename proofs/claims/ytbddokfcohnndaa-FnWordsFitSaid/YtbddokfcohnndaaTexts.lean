/-
  Contracts of chapter 1's functions, impl's and spec's.
-/
import Derived.Test.YtbddokfcohnndaaRows
import Derived.Test.YtbddokfcohnndaaPlain
import Derived.WalkKit
import Derived.WalkSpells
import Derived.Lib.Hide
import Derived.BigQuiet
import Derived.Deep.QuietTactic
namespace Go.Proofs.Ytbddokfcohnndaa
open Go.RowKit

set_option maxHeartbeats 400000 in
theorem plainByte_any (n : Int) (w : World) (_h0 : 0 ≤ n) (_h1 : n ≤ 255) :
    Calls Try.prog 52 #[.int .u8 n] w fun e w' => e = .returned (.bool (plainI n)) ∧ w = w' := by
  by_cases a : 32 ≤ n
  · by_cases b : n ≤ 126
    · have hp : plainI n = true := by simp [plainI, a, b]
      rw [hp]; clear hp
      go_enter Try.func52, Try.ntmps52
      go_wp2
      go_ret
      exact ⟨rfl, rfl⟩
    · have hp : plainI n = false := by simp [plainI, b]
      rw [hp]; clear hp
      go_enter Try.func52, Try.ntmps52
      go_wp2
      go_ret
      exact ⟨rfl, rfl⟩
  · have hp : plainI n = false := by simp [plainI, a]
    rw [hp]; clear hp
    go_enter Try.func52, Try.ntmps52
    go_wp2
    go_ret
    exact ⟨rfl, rfl⟩

/-- 'n is in lo..hi'. -/
def inI (n lo hi : Int) : Bool := decide (lo ≤ n) && decide (n ≤ hi)

set_option maxHeartbeats 400000 in
theorem l1In_any (n lo hi : Int) (w : World) :
    Calls Try.prog 34 #[.int .i64 n, .int .i64 lo, .int .i64 hi] w fun e w' => e = .returned (.bool (inI n lo hi)) ∧ w = w' := by
  by_cases a : lo ≤ n
  · by_cases b : n ≤ hi
    · have hp : inI n lo hi = true := by simp [inI, a, b]
      rw [hp]; clear hp
      go_enter Try.func34, Try.ntmps34
      go_wp2
      go_ret
      exact ⟨rfl, rfl⟩
    · have hp : inI n lo hi = false := by simp [inI, b]
      rw [hp]; clear hp
      go_enter Try.func34, Try.ntmps34
      go_wp2
      go_ret
      exact ⟨rfl, rfl⟩
  · have hp : inI n lo hi = false := by simp [inI, a]
    rw [hp]; clear hp
    go_enter Try.func34, Try.ntmps34
    go_wp2
    go_ret
    exact ⟨rfl, rfl⟩

theorem okI_ten {n : Int} (h : n = 10) : okI n = true := by subst h; rfl
theorem okI_bad {n : Int} (h : (n != 10) = true ∧ (!plainI n) = true) : okI n = false := by
  obtain ⟨a, b⟩ := h
  simp only [bne_iff_ne, ne_eq, Bool.not_eq_true'] at a b
  simp [okI, a, b]
theorem okI_good {n : Int} (h : (n != 10) = false ∨ (!plainI n) = false) : okI n = true := by
  rcases h with h | h
  · simp only [bne_eq_false_iff_eq] at h; exact okI_ten h
  · simp only [Bool.not_eq_false'] at h; simp [okI, h]
theorem okI_bad' {n : Int} (h : (n != 10) = true ∧ (!inI n 32 126) = true) : okI n = false := okI_bad h
theorem okI_good' {n : Int} (h : (n != 10) = false ∨ (!inI n 32 126) = false) : okI n = true := okI_good h
theorem textB_bad (s : ByteArray) (k : Nat) (hk : k < s.size) (h : okI (s[k].toNat : Int) = false) : textB s = false := by
  simp [textB, okL_at s k hk h]
theorem textB_good (s : ByteArray) (hl : s.size ≤ 20000) (k : Nat) (hk : ¬ k < s.size) (h : okL (s.data.toList.take k) = true) : textB s = true := by
  rw [List.take_of_length_le (by simp; omega)] at h
  simp [textB, hl, h]
theorem textB_long (s : ByteArray) (hl : ¬ s.size ≤ 20000) : textB s = false := by simp [textB, hl]
theorem textB_all (s : ByteArray) (k : Nat) (hk : ¬ k < s.size) (h : okL (s.data.toList.take k) = true) : textB s = decide ((s.size : Int) ≤ 20000) := by
  rw [List.take_of_length_le (by simp; omega)] at h
  rw [textB, h, Bool.and_true]
  by_cases a : s.size ≤ 20000
  · simp [a]; omega
  · simp [a]; omega
theorem okL_next (s : ByteArray) (k : Nat) (hk : k < s.size) (h : okL (s.data.toList.take k) = true) (hb : okI (s[k].toNat : Int) = true) : okL (s.data.toList.take (k + 1)) = true := by
  rw [take_snoc s k hk, okL_snoc, h, hb]; rfl
theorem ret_bool {a b : Bool} (h : a = b) : Ending.returned (.bool a) = .returned (.bool b) := by rw [h]

set_option maxHeartbeats 1000000 in
theorem textValid_impl (s : ByteArray) (w : World) (hs : s.size ≤ maxLen) :
    Calls Try.prog 44 #[.string s] w fun e w' => e = .returned (.bool (textB s)) ∧ w = w' := by
  unfold maxLen at hs
  by_cases hlen : s.size ≤ 20000
  · go_enter Try.func44, Try.ntmps44
    go_wp2
    go_loop [3, 9] (fun _ i => ∃ k : Nat, k ≤ s.size ∧ i = .int .i64 k ∧ okL (s.data.toList.take k) = true) (fun _ i => s.size - (intOf i).toNat)
    case atStart => exact ⟨0, Nat.zero_le _, rfl, rfl⟩
    case round =>
      obtain ⟨k, hk, rfl, hok⟩ := hrel
      have HK := Lib.hid hok; clear hok
      by_cases hlt : k < s.size
      · have hb0 : (s[k].toNat : Int) ≤ 255 := by have := s[k].toNat_lt; omega
        go_wp2_with (go_at_call 52; refine (plainByte_any _ _ (by omega) (by omega)).mono ?_; rintro e w' ⟨rfl, rfl⟩)
        · go_round
          case rel => exact ⟨k + 1, by omega, by go_num, okL_next s k hlt HK.out (okI_ten (by assumption))⟩
          case measure => simp [intOf]; omega
        · go_ret
          exact ⟨ret_bool (textB_bad s k hlt (okI_bad (by assumption))).symm, rfl⟩
        · go_round
          case rel => exact ⟨k + 1, by omega, by go_num, okL_next s k hlt HK.out (okI_good (by assumption))⟩
          case measure => simp [intOf]; omega
      · go_wp2
        go_ret
        exact ⟨ret_bool (textB_good s hlen k hlt HK.out).symm, rfl⟩
  · rw [textB_long s hlen]
    go_enter Try.func44, Try.ntmps44
    go_wp2
    go_ret
    exact ⟨rfl, rfl⟩

end Go.Proofs.Ytbddokfcohnndaa
