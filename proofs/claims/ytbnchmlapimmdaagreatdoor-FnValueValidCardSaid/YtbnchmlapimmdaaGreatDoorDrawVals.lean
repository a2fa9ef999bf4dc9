/-
  spec.DrawValueValid, DrawValueText, DrawValueParts: short cells, at most 14 of them, at most four of which have parts.
-/
import Derived.Test.YtbnchmlapimmdaaGreatDoorDrawValue
namespace Go.Proofs.YtbnchmlapimmdaaGreatDoor
open Go.RowKit
set_option linter.unusedVariables false

/-- Drawn cells. -/
def DrawnV (w : World) (e : Ending) (w' : World) : Prop :=
  ∃ (v : Value) (l : List Cl), e = .returned v ∧ RowC w' v l ∧ (∀ c ∈ l, c.2.1.size ≤ 60) ∧ 1 ≤ l.length ∧ l.length ≤ 14 ∧ nmC l ≤ 4 ∧ Below w.heap.size w w'

set_option maxHeartbeats 1000000 in
theorem drawValueValid_any (a : Option Addr) (len cap : Nat) (w : World) (h : CodeRow w a len cap) :
    Calls Tryz.prog 13 #[.slice a len cap] w (DrawnV w) := by
  go_enter Tryz.func13, Tryz.ntmps13
  go_wp2_with fail
  refine (open_codes a len cap _ h).mono ?_
  rintro e w1 ⟨rfl, hr1, hb1, hs1⟩
  have HB := Lib.hid hb1; have HS := Lib.hid hs1
  clear hb1 hs1
  go_wp2_with fail
  refine (value_all 2 (by omega) w.heap.size 0 2 _ (by decide) (by omega) (by omega) hr1).mono ?_
  rintro e w2 ⟨v, l, rfl, ho, hsh, hl1, ⟨hl14, -, hnm⟩, hr2, hg2⟩
  have HB2 := Lib.hid (HB.out.trans (grown_below hg2 (by have := HS.out; omega) (Nat.le_refl _)))
  have HRW := Lib.hid (RowC.of_own ho).1; have HSH := Lib.hid hsh
  have e13 : cv (2 + 1) = 13 := by decide
  rw [e13] at hl14 hnm
  clear hg2 hr2 HB HS hr1 ho hsh
  go_wp2
  go_ret
  exact ⟨v, l, rfl, HRW.out, HSH.out, hl1, hl14, by omega, HB2.out⟩

set_option maxHeartbeats 1000000 in
theorem drawValueText_any (a : Option Addr) (len cap : Nat) (w : World) (h : CodeRow w a len cap) :
    Calls Tryz.prog 17 #[.slice a len cap] w (DrawnV w) := by
  go_enter Tryz.func17, Tryz.ntmps17
  go_wp2_with fail
  refine (open_codes a len cap _ h).mono ?_
  rintro e w1 ⟨rfl, hr1, hb1, hs1⟩
  have HB := Lib.hid hb1; have HS := Lib.hid hs1
  clear hb1 hs1
  go_wp2_with fail
  refine (value_all 2 (by omega) w.heap.size 0 6 _ (by decide) (by omega) (by omega) hr1).mono ?_
  rintro e w2 ⟨v, l, rfl, ho, hsh, hl1, ⟨hl14, -, hnm⟩, hr2, hg2⟩
  have HB2 := Lib.hid (HB.out.trans (grown_below hg2 (by have := HS.out; omega) (Nat.le_refl _)))
  have HRW := Lib.hid (RowC.of_own ho).1; have HSH := Lib.hid hsh
  have e13 : cv (2 + 1) = 13 := by decide
  rw [e13] at hl14 hnm
  clear hg2 hr2 HB HS hr1 ho hsh
  go_wp2
  go_ret
  exact ⟨v, l, rfl, HRW.out, HSH.out, hl1, hl14, by omega, HB2.out⟩

set_option maxHeartbeats 1000000 in
theorem drawValueParts_any (a : Option Addr) (len cap : Nat) (w : World) (h : CodeRow w a len cap) :
    Calls Tryz.prog 23 #[.slice a len cap] w (DrawnV w) := by
  go_enter Tryz.func23, Tryz.ntmps23
  go_wp2_with fail
  refine (open_codes a len cap _ h).mono ?_
  rintro e w1 ⟨rfl, hr1, hb1, hs1⟩
  have HB := Lib.hid hb1; have HS := Lib.hid hs1
  clear hb1 hs1
  go_wp2_with fail
  refine (value_all 2 (by omega) w.heap.size 0 9 _ (by decide) (by omega) (by omega) hr1).mono ?_
  rintro e w2 ⟨v, l, rfl, ho, hsh, hl1, ⟨hl14, -, hnm⟩, hr2, hg2⟩
  have HB2 := Lib.hid (HB.out.trans (grown_below hg2 (by have := HS.out; omega) (Nat.le_refl _)))
  have HRW := Lib.hid (RowC.of_own ho).1; have HSH := Lib.hid hsh
  have e13 : cv (2 + 1) = 13 := by decide
  rw [e13] at hl14 hnm
  clear hg2 hr2 HB HS hr1 ho hsh
  go_wp2
  go_ret
  exact ⟨v, l, rfl, HRW.out, HSH.out, hl1, hl14, by omega, HB2.out⟩

end Go.Proofs.YtbnchmlapimmdaaGreatDoor
