/-
  The walk of laws.FnExactWrapCost.
-/
import Derived.Test.YtbddokfcohnndaaWrapCI
import Derived.Test.YtbddokfcohnndaaWrapCS
import Derived.Test.YtbddokfcohnndaaIntsZR
import Derived.Test.YtbddokfcohnndaaEqStringS
namespace Go.Proofs.Ytbddokfcohnndaa
open Go.RowKit
set_option linter.unusedVariables false

set_option maxRecDepth 100000 in
set_option maxHeartbeats 4000000 in
theorem fnExactWrapCost_core (a0 : Option Addr) (len0 cap0 : Nat) (L : List ByteArray) (a1 : Int) (a2 : Option Addr) (len2 cap2 : Nat) (ls : List Int) (w : World) (h : TextRow w a0 len0 cap0 L) (hi : IntRow w a2 len2 cap2 ls) :
    Calls Try.prog 4 #[.slice a0 len0 cap0, .int .i64 a1, .slice a2 len2 cap2] w fun e w' => e = .returned (.bool true) ∧ Below w.heap.size w w' := by
  obtain ⟨hlen, hrow, hz⟩ := h
  obtain ⟨rfl, hir⟩ := hi
  have R0 := Lib.hid hrow; have Z := Lib.hid hz; have HL := Lib.hid hlen; have I0 := Lib.hid hir
  have hi2 : ls.length ≤ maxLen := by obtain ⟨ao', cap', hv, h1, h2, h3⟩ := hir; injection hv with e1 e2 e3; rw [intsZ_length] at h1; omega
  unfold maxLen at hi2
  clear hrow hz hlen hir
  by_cases hln : ls.length ≤ 1048576
  case neg =>
    go_enter Try.func4, Try.ntmps4
    go_wp2
    go_ret
    exact ⟨rfl, Below.refl _ _⟩
  case pos =>
  go_enter Try.func4, Try.ntmps4
  go_wp2_with fail
  refine (szStringS_any _ L 1048576 _ R0.out Z.out (by omega) (by omega)).mono ?_
  rintro e w' ⟨⟨m, rfl, hm⟩, hw'⟩
  subst hw'
  by_cases hm0 : 0 ≤ m
  · have hlm : L.length ≤ 1048576 := by have := hm hm0; omega
    clear hm
    go_wp2_with fail
    refine (toStringS_any _ L _ R0.out hlm).mono ?_
    rintro e w1 ⟨v1, rfl, hown1, hb1⟩
    have R1 := Lib.hid (RowOf.of_own hown1); have B1 := Lib.hid hb1
    clear hown1 hb1
    go_wp2_with fail
    refine (toIntS_any _ ls _ (I0.out.mono B1.out) hln).mono ?_
    rintro e w2 ⟨v2, rfl, hown2, hb2⟩
    have R2 := Lib.hid (RowOf.of_own hown2); have B2 := Lib.hid (B1.out.trans (hb2.mono B1.out.size)); have R12 := Lib.hid (R1.out.mono hb2)
    clear hown2 hb2 B1 R1
    go_wp2_with fail
    refine (wrapCost_spec _ _ L a1 ls _ R12.out Z.out R2.out).mono ?_
    rintro e w' ⟨rfl, hw'⟩
    subst hw'
    clear R12 R2
    go_wp2_with fail
    refine (toStringS_any _ L _ (R0.out.mono B2.out) hlm).mono ?_
    rintro e w3 ⟨v3, rfl, hown3, hb3⟩
    have R3 := Lib.hid (RowOf.of_own hown3); have B3 := Lib.hid (B2.out.trans (hb3.mono B2.out.size))
    clear hown3 hb3 B2
    go_wp2_with fail
    refine (toIntS_any _ ls _ (I0.out.mono B3.out) hln).mono ?_
    rintro e w4 ⟨v4, rfl, hown4, hb4⟩
    have I4 := Lib.hid (RowOf.of_own hown4); have B4 := Lib.hid (B3.out.trans (hb4.mono B3.out.size)); have R4 := Lib.hid (R3.out.mono hb4)
    clear hown4 hb4 B3 R3
    go_wp2_with fail
    refine (wrapCost_impl _ _ L a1 ls _ R4.out Z.out I4.out).mono ?_
    rintro e w' ⟨rfl, hw'⟩
    subst hw'
    generalize costW L a1 ls = x
    have e1 : (x != x) = false := by simp
    go_wp2_with fail
    refine (toStringS_any _ L _ (R0.out.mono B4.out) hlm).mono ?_
    rintro e w5 ⟨v5, rfl, hown5, hb5⟩
    have R5 := Lib.hid (RowOf.of_own hown5); have B5 := Lib.hid (B4.out.trans (hb5.mono B4.out.size)); have R45 := Lib.hid (R4.out.mono hb5); have I5 := Lib.hid (I4.out.mono hb5)
    clear hown5 hb5 B4 R4 I4
    go_wp2_with fail
    refine (eqStringS_any _ _ L L _ R45.out R5.out).mono ?_
    rintro e w6 ⟨rfl, n6, hw6⟩
    have hb6 : Below w5.heap.size w5 w6 := by rw [hw6]; exact ⟨rfl, rfl, rfl, Nat.le_refl _, fun _ _ => rfl⟩
    have B6 := Lib.hid (B5.out.trans (hb6.mono B5.out.size)); have I6 := Lib.hid (I5.out.mono hb6)
    clear hw6 hb6 B5 R5 R45 I5
    rw [show decide (L = L) = true by simp]
    go_wp2_with fail
    refine (toIntS_any _ ls _ (I0.out.mono B6.out) hln).mono ?_
    rintro e w7 ⟨v7, rfl, hown7, hb7⟩
    have I7 := Lib.hid (RowOf.of_own hown7); have B7 := Lib.hid (B6.out.trans (hb7.mono B6.out.size)); have I67 := Lib.hid (I6.out.mono hb7)
    clear hown7 hb7 B6 I6
    go_wp2_with fail
    refine (eqIntZ_same _ _ ls _ I67.out I7.out).mono ?_
    rintro e w8 ⟨rfl, hb8⟩
    have B8 := Lib.hid (B7.out.trans (hb8.mono B7.out.size))
    clear hb8 B7
    go_wp2
    go_ret
    exact ⟨rfl, B8.out⟩
  · clear hm
    go_wp2
    go_ret
    exact ⟨rfl, Below.refl _ _⟩

end Go.Proofs.Ytbddokfcohnndaa
