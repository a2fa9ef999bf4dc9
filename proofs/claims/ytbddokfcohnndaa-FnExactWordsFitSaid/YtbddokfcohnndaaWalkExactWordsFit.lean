/-
  The walk of laws.FnExactWordsFit.
-/
import Derived.Test.YtbddokfcohnndaaWrapFI
import Derived.Test.YtbddokfcohnndaaWrapFS
import Derived.Test.YtbddokfcohnndaaStringS
import Derived.Test.YtbddokfcohnndaaEqStringS
namespace Go.Proofs.Ytbddokfcohnndaa
open Go.RowKit
set_option linter.unusedVariables false

set_option maxRecDepth 100000 in
set_option maxHeartbeats 2000000 in
theorem fnExactWordsFit_core (a0 : Option Addr) (len0 cap0 : Nat) (L : List ByteArray) (a1 : Int) (w : World) (h : TextRow w a0 len0 cap0 L) :
    Calls Try.prog 3 #[.slice a0 len0 cap0, .int .i64 a1] w fun e w' => e = .returned (.bool true) ∧ Below w.heap.size w w' := by
  obtain ⟨hlen, hrow, hz⟩ := h
  have R0 := Lib.hid hrow; have Z := Lib.hid hz; have HL := Lib.hid hlen
  clear hrow hz hlen
  go_enter Try.func3, Try.ntmps3
  go_wp2_with fail
  refine (szStringS_any _ L 1048576 _ R0.out Z.out (by omega) (by omega)).mono ?_
  rintro e w' ⟨⟨m, rfl, hm⟩, hw'⟩
  subst hw'
  by_cases hm0 : 0 ≤ m
  · have hlm : L.length ≤ 1048576 := by have := hm hm0; omega
    clear hm
    go_wp2_with fail
    refine (toStringS_any _ L _ R0.out hlm).mono ?_
    rintro e w1 ⟨v1, rfl, hown1, hb1⟩
    have R1 := Lib.hid (RowOf.of_own hown1); have B1 := Lib.hid hb1
    clear hown1 hb1
    go_wp2_with fail
    refine (wordsFit_spec _ L a1 _ R1.out Z.out).mono ?_
    rintro e w' ⟨rfl, hw'⟩
    subst hw'
    clear R1
    go_wp2_with fail
    refine (toStringS_any _ L _ (R0.out.mono B1.out) hlm).mono ?_
    rintro e w2 ⟨v2, rfl, hown2, hb2⟩
    have R2 := Lib.hid (RowOf.of_own hown2); have B2 := Lib.hid (B1.out.trans (hb2.mono B1.out.size))
    clear hown2 hb2 B1
    go_wp2_with fail
    refine (wordsFit_impl _ L a1 _ R2.out Z.out).mono ?_
    rintro e w' ⟨rfl, hw'⟩
    subst hw'
    generalize fitB L a1 = x
    have e1 : (x != x) = false := by simp
    go_wp2_with fail
    refine (toStringS_any _ L _ (R0.out.mono B2.out) hlm).mono ?_
    rintro e w4 ⟨v4, rfl, hown4, hb4⟩
    have R4 := Lib.hid (RowOf.of_own hown4); have B4 := Lib.hid (B2.out.trans (hb4.mono B2.out.size))
    have R34 := Lib.hid (R2.out.mono hb4)
    clear hown4 hb4 B2 R2
    go_wp2_with fail
    refine (eqStringS_any _ _ L L _ R34.out R4.out).mono ?_
    rintro e w5 ⟨rfl, n5, hw5⟩
    have B5 := Lib.hid (show Below w.heap.size w w5 by rw [hw5]; exact B4.out.trans ⟨rfl, rfl, rfl, Nat.le_refl _, fun _ _ => rfl⟩)
    clear hw5 B4 R4 R34
    rw [show decide (L = L) = true by simp]
    go_wp2
    go_ret
    exact ⟨rfl, B5.out⟩
  · clear hm
    go_wp2
    go_ret
    exact ⟨rfl, Below.refl _ _⟩

end Go.Proofs.Ytbddokfcohnndaa
