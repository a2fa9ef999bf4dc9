/-
  spec.l1Has, by its contract.
-/
import Derived.Test.YtbddokfcohnndabDoorTexts
import Derived.Test.YtbddokfcohnndabDoorJoin
namespace Go.Proofs.YtbddokfcohnndabDoor
open Go.RowKit
set_option linter.unusedVariables false

set_option maxHeartbeats 1000000 in
theorem l1Has_any (s : ByteArray) (n : Int) (w : World) (hs : s.size ≤ maxLen) (h0 : 0 ≤ n) (h1 : n ≤ 255) :
    Calls Tryd.prog 27 #[.string s, .int .u8 n] w fun e w' => e = .returned (.bool (hasL s.data.toList n)) ∧ w = w' := by
  unfold maxLen at hs
  go_enter Tryd.func27, Tryd.ntmps27
  go_wp2
  go_loop [5] (fun i => ∃ k : Nat, k ≤ s.size ∧ i = .int .i64 k ∧ hasL (s.data.toList.take k) n = false) (fun i => s.size - (intOf i).toNat)
  case atStart => exact ⟨0, Nat.zero_le _, rfl, rfl⟩
  case round =>
    obtain ⟨k, hk, rfl, hok⟩ := hrel
    have HK := Lib.hid hok; clear hok
    by_cases hlt : k < s.size
    · by_cases he : ((s[k].toNat : Int) == n) = true
      · have HE := Lib.hid (hasL_good s k n hlt he)
        go_wp2
        go_ret
        exact ⟨ret_bool HE.out.symm, rfl⟩
      · have he' : ((s[k].toNat : Int) == n) = false := by simpa using he
        have HE := Lib.hid (hasL_next s k n hlt HK.out he')
        clear he
        go_wp2
        go_round
        case rel => exact ⟨k + 1, by omega, by go_num, HE.out⟩
        case measure => simp [intOf]; omega
    · go_wp2
      go_ret
      have := HK.out
      rw [List.take_of_length_le (by simp; omega)] at this
      exact ⟨ret_bool this.symm, rfl⟩

end Go.Proofs.YtbddokfcohnndabDoor
