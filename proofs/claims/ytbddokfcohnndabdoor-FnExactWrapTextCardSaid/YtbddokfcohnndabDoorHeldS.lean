/-
  laws.heldStringS, by its contract.
-/
import Derived.Test.YtbddokfcohnndabDoorMarkS
import Derived.Test.YtbddokfcohnndabDoorMark
import Derived.Test.YtbddokfcohnndabDoorStrs
import Derived.Test.YtbddokfcohnndabDoorRows2
import Derived.Test.YtbddokfcohnndabDoorRead
import Derived.Deep.RegionHeld3
namespace Go.Proofs.YtbddokfcohnndabDoor
open Go.RowKit
set_option linter.unusedVariables false

set_option maxRecDepth 100000 in
set_option maxHeartbeats 2000000 in
theorem heldStringS_any (m n : Nat) (v : Value) (w : World) (hm : m ≤ 1000000) (hn : n ≤ 1000000) (h : RowOf w v (marks m n)) :
    Calls Tryd.prog 9 #[v, .int .i64 (m : Int)] w fun e w' => e = .returned (.int .i64 ((m + n : Nat) : Int)) ∧ Below w.heap.size w w' := by
  obtain ⟨ao, cap, rfl, h1, h2, h3⟩ := h
  simp only [marks_length] at h1 ⊢
  unfold maxLen at h2
  by_cases hn0 : n = 0
  · subst hn0
    clear h3
    go_enter Tryd.func9, Tryd.ntmps9
    go_wp2
    refine wp_loop_rounds 1 ?_
    rw [rounds_succ]
    go_wp2
    go_ret
    exact ⟨rfl, Below.refl _ _⟩
  · obtain ⟨b, off, rfl, hlt, hc⟩ := h3.resolve_left (by intro h; have h' := congrArg List.length h; rw [marks_length] at h'; simp only [List.length_nil] at h'; omega)
    have HC := Lib.hid hc
    clear h3 hc
    go_enter Tryd.func9, Tryd.ntmps9
    go_wp2
    go_loopw [1, 5] (fun a i wr => ∃ k : Nat, k ≤ n ∧ i = .int .i64 (k : Int) ∧ a = .int .i64 ((m + k : Nat) : Int) ∧ Below w.heap.size w wr) (fun _ i _ => n - (intOf i).toNat)
    case atStart => exact ⟨0, Nat.zero_le _, rfl, rfl, Below.refl _ _⟩
    case round =>
      obtain ⟨k, hk, rfl, rfl, hb⟩ := hrel
      have HB := Lib.hid hb; clear hb
      by_cases hkn : k < n
      · have hcell : wr.cell? ⟨b, off + k, none⟩ = some (.string (markB (m + k))) := (HB.out.cell (p := ⟨b, off + k, none⟩) hlt).trans (HC.out k _ (marks_at m n k hkn))
        have hbw : b < wr.heap.size := by have := HB.out.size; omega
        have bk0 : (0 : Int) ≤ (k : Int) := by omega
        have bk1 : (k : Int) < (n : Int) := by omega
        go_wp2_with fail
        go_region_held3 (fun w' => w'.cell? ⟨b, off + k, none⟩ = some (.string (markB (m + k))))
          (first
            | go_keep
            | (rw [hb1.cell (by exact hbw)]; assumption))
          ((go_at_call 19; refine (markText_any (m + k) _ (by omega)).mono ?_; rintro e w1 ⟨rfl, hb1⟩))
        go_wp2
        go_roundw
        case rel => exact ⟨k + 1, by omega, by go_num, by go_num, HB.out.drew.trans (hb1.mono HB.out.size)⟩
        case measure => simp [intOf]; omega
      · obtain rfl : k = n := by omega
        go_wp2
        go_ret
        exact ⟨rfl, HB.out⟩

end Go.Proofs.YtbddokfcohnndabDoor
