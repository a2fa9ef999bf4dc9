/-
  laws.sameCells at two slices that read as the same cells.
-/
import Derived.Test.YtbmobgahokehmaaGreatDoorBaseE
import Derived.Deep.QuietTactic
import Derived.BigQuiet
namespace Go.Proofs.YtbmobgahokehmaaGreatDoor
open Go.RowKit
set_option linter.unusedVariables false

set_option maxRecDepth 100000 in
set_option maxHeartbeats 4000000 in
theorem sameCells_same (v1 v2 : Value) (l : List Cl) (w : World) (h1 : RowC w v1 l) (h2 : RowC w v2 l) :
    Calls Tryz.prog 79 #[v1, v2] w fun e w' => e = .returned (.bool true) ∧ Below w.heap.size w w' := by
  obtain ⟨a1, c1, rfl, p1, q1, r1⟩ := h1
  obtain ⟨a2, c2, rfl, p2, q2, r2⟩ := h2
  unfold maxLen at q1 q2
  have R1 := Lib.hid r1; have R2 := Lib.hid r2
  clear r1 r2
  go_enter Tryz.func79, Tryz.ntmps79
  go_wp2_with fail
  go_loopw [5] (fun i wr => ∃ k : Nat, k ≤ l.length ∧ i = .int .i64 (k : Int) ∧ Below w.heap.size w wr) (fun i _ => l.length - (intOf i).toNat)
  case atStart => exact ⟨0, Nat.zero_le _, rfl, Below.refl _ _⟩
  case round =>
    obtain ⟨k, hk, rfl, hb⟩ := hrel
    have HB := Lib.hid hb; clear hb
    by_cases hlt : k < l.length
    · obtain ⟨b1, o1, rfl, hl1, cc1⟩ := R1.out.resolve_left (by rintro rfl; simp at hlt)
      obtain ⟨b2, o2, rfl, hl2, cc2⟩ := R2.out.resolve_left (by rintro rfl; simp at hlt)
      obtain ⟨x0, x1, x2⟩ := cc1 k hlt
      obtain ⟨y0, y1, y2⟩ := cc2 k hlt
      have d0 := (HB.out.cell (p := ⟨b1, _, none⟩) hl1).trans x0
      have d1 := (HB.out.cell (p := ⟨b1, _, none⟩) hl1).trans x1
      have d2 := (HB.out.cell (p := ⟨b1, _, none⟩) hl1).trans x2
      have e0 := (HB.out.cell (p := ⟨b2, _, none⟩) hl2).trans y0
      have e1 := (HB.out.cell (p := ⟨b2, _, none⟩) hl2).trans y1
      have e2 := (HB.out.cell (p := ⟨b2, _, none⟩) hl2).trans y2
      generalize l[k].1 = kk at d0 e0
      generalize l[k].2.1 = ss at d1 e1
      generalize l[k].2.2 = mm at d2 e2
      clear cc1 cc2 x0 x1 x2 y0 y1 y2
      go_wp2_with fail
      go_quiet (fail)
      have HQ := Lib.hid (show Below w.heap.size w (wr.drewN nq) from HB.out.trans ⟨rfl, rfl, rfl, Nat.le_refl _, fun _ _ => rfl⟩)
      go_wp2
      go_roundw
      case rel => exact ⟨k + 1, by omega, by go_num, HQ.out⟩
      case measure => simp [intOf]; omega
    · obtain rfl : k = l.length := by omega
      go_wp2
      go_ret
      exact ⟨rfl, HB.out⟩

end Go.Proofs.YtbmobgahokehmaaGreatDoor
