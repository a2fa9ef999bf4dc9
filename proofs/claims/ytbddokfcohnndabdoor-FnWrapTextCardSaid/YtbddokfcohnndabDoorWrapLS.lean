/-
  spec.l15Length, by its contract.
-/
import Derived.Test.YtbddokfcohnndabDoorWrapI
namespace Go.Proofs.YtbddokfcohnndabDoor
open Go.RowKit
set_option linter.unusedVariables false

set_option maxRecDepth 100000 in
set_option maxHeartbeats 2000000 in
theorem l15Length_any (v : Value) (L : List ByteArray) (f m : Nat) (w : World) (h : RowOf w v (strs L)) (hz : ∀ s ∈ L, s.size ≤ 40) (hl : L.length ≤ 20) (hm : f + m ≤ L.length) :
    Calls Tryd.prog 29 #[v, .int .i64 (f : Int), .int .i64 ((f + m : Nat) : Int)] w fun e w' => e = .returned (.int .i64 (slen ((szW L).drop f) m)) ∧ w = w' := by
  obtain ⟨ao, cap, rfl, h1, h2, h3⟩ := h
  simp only [strs_length] at h1 ⊢
  unfold maxLen at h2
  have H3 := Lib.hid h3; have HZ := Lib.hid hz
  clear h3 hz
  go_enter Tryd.func29, Tryd.ntmps29
  go_wp2
  go_loop [7, 8] (fun a i => ∃ k : Nat, k ≤ m ∧ i = .int .i64 ((f + k : Nat) : Int) ∧ a = .int .i64 (slen ((szW L).drop f) k - k + m)) (fun _ i => f + m - (intOf i).toNat)
  case atStart => exact ⟨0, Nat.zero_le _, rfl, by simp [slen]; omega⟩
  case round =>
    obtain ⟨k, hk, rfl, rfl⟩ := hrel
    by_cases hlt : k < m
    · obtain ⟨b, o, hA, -, cc⟩ := H3.out.resolve_left (by intro h; have h' := congrArg List.length h; rw [strs_length] at h'; simp only [List.length_nil] at h'; omega)
      subst hA
      have hfk : f + k < L.length := by omega
      have HNX := Lib.hid (show slen ((szW L).drop f) (k + 1) = slen ((szW L).drop f) k + L[f + k].size + 1 by
        have := slen_next (L := L.drop f) (k := k) (by rw [List.length_drop]; omega)
        rw [szW_drop] at this
        rw [this, List.getElem_drop])
      have hts : L[f + k].size ≤ 40 := HZ.out _ (List.getElem_mem _)
      have d1 := cc (f + k) (.string L[f + k]) (by simp [strs, hfk])
      have hb := slen_le (L := L.drop f) (k := k) (fun s hs => HZ.out s (List.mem_of_mem_drop hs))
      rw [szW_drop] at hb
      generalize L[f + k] = t at d1 hts HNX
      obtain ⟨x, hx⟩ : ∃ x, slen ((szW L).drop f) k = x := ⟨_, rfl⟩
      rw [hx] at hb HNX ⊢
      clear cc hx
      go_wp2
      go_round
      case rel => exact ⟨k + 1, by omega, by go_num, by rw [HNX.out]; go_num⟩
      case measure => simp [intOf]; omega
    · obtain rfl : k = m := by omega
      go_wp2
      go_ret
      exact ⟨ret_int (by omega), rfl⟩

end Go.Proofs.YtbddokfcohnndabDoor
