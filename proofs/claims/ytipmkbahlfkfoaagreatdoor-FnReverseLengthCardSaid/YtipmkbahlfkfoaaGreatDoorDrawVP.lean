/-
  spec.DrawValueParts, by its contract.
-/
import Derived.Test.YtipmkbahlfkfoaaGreatDoorDrawnV
namespace Go.Proofs.YtipmkbahlfkfoaaGreatDoor
open Go.RowKit
set_option linter.unusedVariables false

set_option maxHeartbeats 1000000 in
theorem drawValueParts_any (a : Option Addr) (len cap : Nat) (w : World) (h : CodeRow w a len cap) :
    Calls Tryz.prog 27 #[.slice a len cap] w (DrawnV w) := by
  go_enter Tryz.func27, Tryz.ntmps27
  go_wp2_with fail
  refine (open_codes a len cap _ h).mono ?_
  rintro e w1 ⟨rfl, hr1, hb1, hs1⟩
  have HB := Lib.hid hb1; have HS := Lib.hid hs1
  clear hb1 hs1
  go_wp2_with fail
  refine (value_all 2 (by omega) w.heap.size 0 9 _ (by decide) (by omega) (by omega) hr1).mono ?_
  rintro e w2 ⟨v, l, rfl, ho, hsh, hl1, ⟨hl14, -, hnm⟩, hr2, hg2⟩
  have HB2 := Lib.hid (HB.out.trans (grown_below hg2 (by have := HS.out; omega) (Nat.le_refl _)))
  have HRW := Lib.hid (RowC.of_own ho).1; have HSH := Lib.hid hsh
  have e13 : cv (2 + 1) = 13 := by decide
  rw [e13] at hl14 hnm
  clear hg2 hr2 HB HS hr1 ho hsh
  go_wp2
  go_ret
  exact ⟨v, l, rfl, HRW.out, HSH.out, hl1, hl14, by omega, HB2.out⟩

end Go.Proofs.YtipmkbahlfkfoaaGreatDoor
