/-
  laws.sameTexts compares two slices of texts.
-/
import Derived.Test.YtbddokfcohnndabDoorStrs
import Derived.Test.YtbddokfcohnndabDoorRows2
namespace Go.Proofs.YtbddokfcohnndabDoor
open Go.RowKit
set_option linter.unusedVariables false

set_option maxRecDepth 100000 in
set_option maxHeartbeats 2000000 in
theorem sameTexts_any (v1 v2 : Value) (A B : List ByteArray) (w : World) (h1 : RowOf w v1 (strs A)) (h2 : RowOf w v2 (strs B)) :
    Calls Tryd.prog 11 #[v1, v2] w fun e w' => e = .returned (.bool (decide (A = B))) ∧ ∃ n, w' = w.drewN n := by
  obtain ⟨a1, c1, rfl, l1, m1, r1⟩ := h1
  obtain ⟨a2, c2, rfl, l2, m2, r2⟩ := h2
  simp only [strs_length] at l1 l2 ⊢
  unfold maxLen at m1 m2
  have R1 := Lib.hid r1; have R2 := Lib.hid r2
  clear r1 r2
  by_cases hlen : A.length = B.length
  · have hb0 : ((A.length : Int) != (B.length : Int)) = false := by simp; omega
    have HLEN := Lib.hid hlen; clear hlen
    go_enter Tryd.func11, Tryd.ntmps11
    go_wp2
    go_loopw [5] (fun i wr => ∃ k n : Nat, k ≤ A.length ∧ i = .int .i64 k ∧ A.take k = B.take k ∧ wr = w.drewN n) (fun i _ => A.length - (intOf i).toNat)
    case atStart => exact ⟨0, 0, Nat.zero_le _, rfl, rfl, rfl⟩
    case round =>
      obtain ⟨k, n, hk, rfl, heq, rfl⟩ := hrel
      have HEQ := Lib.hid heq; clear heq
      by_cases hlt : k < A.length
      · have hltB : k < B.length := by have := HLEN.out; omega
        obtain ⟨b1, o1, hA1, -, cc1⟩ := R1.out.resolve_left (by intro h; have h' := congrArg List.length h; rw [strs_length] at h'; simp only [List.length_nil] at h'; omega)
        obtain ⟨b2, o2, hA2, -, cc2⟩ := R2.out.resolve_left (by intro h; have h' := congrArg List.length h; rw [strs_length] at h'; simp only [List.length_nil] at h'; omega)
        subst hA1 hA2
        have d1 := cc1 k (.string A[k]) (by simp [strs, hlt])
        have d2 := cc2 k (.string B[k]) (by simp [strs, hltB])
        clear cc1 cc2
        go_wp2_with fail
        go_quiet (fail)
        go_wp2
        · go_ret
          have hne : (A[k].toList == B[k].toList) = false := by simpa using ‹(!A[k].toList == B[k].toList) = true›
          exact ⟨ret_bool (ne_at hlt hltB (text_ne hne)).symm, n + nq, by simp⟩
        · have heq : (A[k].toList == B[k].toList) = true := by simpa using ‹(!A[k].toList == B[k].toList) = false›
          go_roundw
          case rel => exact ⟨k + 1, _, by omega, by go_num, take_next HEQ.out hlt hltB (text_eq heq), rfl⟩
          case measure => simp [intOf]; omega
      · go_wp2
        go_ret
        exact ⟨ret_bool (eq_whole HEQ.out (by omega) (by have := HLEN.out; omega)).symm, _, rfl⟩
  · have hb0 : ((A.length : Int) != (B.length : Int)) = true := by simp; omega
    have hd : decide (A = B) = false := by simp; intro h; exact hlen (by rw [h])
    rw [hd]; clear hd
    clear hlen
    go_enter Tryd.func11, Tryd.ntmps11
    go_wp2
    go_ret
    exact ⟨rfl, 0, rfl⟩

end Go.Proofs.YtbddokfcohnndabDoor
