/-
  The walk of laws.FnExactExprEnd.
-/
import Derived.Test.YtjkeiniienkkiaaGreatDoorFind
import Derived.Test.YtjkeiniienkkiaaGreatDoorFindS
import Derived.Test.YtjkeiniienkkiaaGreatDoorEqCellS
namespace Go.Proofs.YtjkeiniienkkiaaGreatDoor
open Go.RowKit
set_option linter.unusedVariables false

set_option maxRecDepth 100000 in
set_option maxHeartbeats 4000000 in
theorem fnExactExprEnd_core (a0 : Option Addr) (len0 cap0 : Nat) (l : List Cl) (a1 : Int) (w : World) (hrow : ArgRow w a0 len0 cap0 l) (htab : Tab w) :
    Calls Tryz.prog 4 #[.slice a0 len0 cap0, .int .i64 a1] w fun e w' => e = .returned (.bool true) ∧ Below w.heap.size w w' := by
  obtain ⟨hlen, hr, hz⟩ := hrow
  have HR := Lib.hid hr; have HZ := Lib.hid hz
  clear hr hz
  go_enter Tryz.func4, Tryz.ntmps4
  go_wp2_with fail
  refine (szCellS_any _ l 1048576 _ HR.out HZ.out (by omega) (by omega)).mono ?_
  rintro e w1 ⟨⟨m, rfl, hm⟩, hb1⟩
  have HB1 := Lib.hid hb1; clear hb1
  by_cases hm0 : 0 ≤ m
  · obtain ⟨hl, hsh⟩ := hm hm0
    have HSH := Lib.hid (show ShortC l from fun c hc => by have := hsh c hc; omega)
    have hl' : l.length ≤ 1048576 := by omega
    clear hm hsh
    go_wp2_with fail
    refine (toCellS_any _ l _ (HR.out.mono HB1.out) hl').mono ?_
    rintro e w2 ⟨v2, rfl, ho2, hb2⟩
    have R2 := Lib.hid (RowC.of_own ho2).1; have HB2 := Lib.hid (HB1.out.trans (hb2.mono HB1.out.size)); clear ho2 hb2
    go_wp2_with fail
    refine (exprEnd_spec _ l a1 _ R2.out HSH.out hl').mono ?_
    rintro e w3 ⟨rfl, hb3⟩
    have HB3 := Lib.hid (HB2.out.trans (hb3.mono HB2.out.size)); clear hb3
    go_wp2_with fail
    refine (toCellS_any _ l _ (HR.out.mono HB3.out) hl').mono ?_
    rintro e w4 ⟨v4, rfl, ho4, hb4⟩
    have R4 := Lib.hid (RowC.of_own ho4).1; have HB4 := Lib.hid (HB3.out.trans (hb4.mono HB3.out.size)); clear ho4 hb4
    go_wp2_with fail
    refine (exprEnd_impl _ l a1 _ R4.out HZ.out (htab.keep HB4.out)).mono ?_
    rintro e w5 ⟨rfl, hb5⟩
    have R5 := Lib.hid (R4.out.mono hb5)
    have HB5 := Lib.hid (HB4.out.trans (hb5.mono HB4.out.size)); clear hb5
    generalize endA l a1 = dd
    have hdd : (dd != dd) = false := by simp
    all_goals
      go_wp2_with fail
      refine (toCellS_any _ l _ (HR.out.mono HB5.out) hl').mono ?_
      rintro e w6 ⟨v6, rfl, ho6, hb6⟩
      have R6 := Lib.hid (RowC.of_own ho6).1; have HB6 := Lib.hid (HB5.out.trans (hb6.mono HB5.out.size))
      have R56 := Lib.hid (R5.out.mono hb6)
      clear ho6 hb6
      go_wp2_with fail
      refine (eqCellS_same _ _ l _ R56.out R6.out).mono ?_
      rintro e w7 ⟨rfl, hb7⟩
      have HB7 := Lib.hid (HB6.out.trans (hb7.mono HB6.out.size)); clear hb7
      go_wp2
      go_ret
      exact ⟨rfl, HB7.out⟩
  · clear hm
    go_wp2
    go_ret
    exact ⟨rfl, HB1.out⟩

end Go.Proofs.YtjkeiniienkkiaaGreatDoor
