/-
  laws.sameLists at two slices that read as the same lists of cells.
-/
import Derived.Test.YtipmkbahlfkfoaaGreatDoorSameCells
import Derived.Test.YtipmkbahlfkfoaaGreatDoorBaseE
import Derived.Deep.RegionWith
namespace Go.Proofs.YtipmkbahlfkfoaaGreatDoor
open Go.RowKit
set_option linter.unusedVariables false

theorem drewL (w : World) : Below w.heap.size w w.drew := ⟨rfl, rfl, rfl, Nat.le_refl _, fun _ _ => rfl⟩

set_option maxRecDepth 100000 in
set_option maxHeartbeats 4000000 in
theorem sameLists_same (v1 v2 : Value) (ls : List (List Cl)) (w : World) (h1 : RowLs w v1 ls) (h2 : RowLs w v2 ls) :
    Calls Tryz.prog 29 #[v1, v2] w fun e w' => e = .returned (.bool true) ∧ Below w.heap.size w w' := by
  obtain ⟨a1, c1, rfl, l1, m1, r1⟩ := h1
  obtain ⟨a2, c2, rfl, l2, m2, r2⟩ := h2
  unfold maxLen at m1 m2
  have R1 := Lib.hid r1; have R2 := Lib.hid r2
  clear r1 r2
  go_enter Tryz.func29, Tryz.ntmps29
  go_wp2
  go_loopw [5] (fun i wr => ∃ k : Nat, k ≤ ls.length ∧ i = .int .i64 (k : Int) ∧ Below w.heap.size w wr) (fun i _ => ls.length - (intOf i).toNat)
  case atStart => exact ⟨0, Nat.zero_le _, rfl, Below.refl _ _⟩
  case round =>
    obtain ⟨k, hk, rfl, hb⟩ := hrel
    have HB := Lib.hid hb; clear hb
    by_cases hlt : k < ls.length
    · obtain ⟨b1, o1, rfl, lt1, cc1⟩ := R1.out.resolve_left (by rintro rfl; simp at hlt)
      obtain ⟨b2, o2, rfl, lt2, cc2⟩ := R2.out.resolve_left (by rintro rfl; simp at hlt)
      obtain ⟨u1, p1, x1⟩ := cc1 k hlt
      obtain ⟨u2, p2, x2⟩ := cc2 k hlt
      have d1 := (HB.out.cell (p := ⟨b1, _, none⟩) lt1).trans p1
      have d2 := (HB.out.cell (p := ⟨b2, _, none⟩) lt2).trans p2
      have X1 := Lib.hid (x1.mono HB.out); have X2 := Lib.hid (x2.mono HB.out)
      clear cc1 cc2 p1 p2 x1 x2
      have bk0 : (0 : Int) ≤ (k : Int) := by omega
      have bk1 : (k : Int) < (ls.length : Int) := by omega
      go_wp2_with fail
      go_region_with ((go_at_call 21; refine (sameCells_same _ _ ls[k] _ (X1.out.mono (drewL wr)) (X2.out.mono (drewL wr))).mono ?_; rintro e w1 ⟨rfl, hb1⟩))
      all_goals
        have HB2 := Lib.hid (HB.out.trans (((drewL wr).trans hb1).mono HB.out.size))
        clear hb1
        (try go_wp2)
        go_roundw
        case rel => exact ⟨k + 1, by omega, by go_num, HB2.out⟩
        case measure => simp [intOf]; omega
    · obtain rfl : k = ls.length := by omega
      go_wp2
      go_ret
      exact ⟨rfl, HB.out⟩

end Go.Proofs.YtipmkbahlfkfoaaGreatDoor
