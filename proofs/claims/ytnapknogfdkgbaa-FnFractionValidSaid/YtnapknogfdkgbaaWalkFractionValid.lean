/-
  The walk of laws.FnFractionValid.
-/
import Derived.Test.YtnapknogfdkgbaaFracDrawV
import Derived.Test.YtnapknogfdkgbaaFracHeld
import Derived.Test.YtnapknogfdkgbaaFracOps
import Derived.Test.YtnapknogfdkgbaaAlive
namespace Go.Proofs.Ytnapknogfdkgbaa
open Go.RowKit
set_option linter.unusedVariables false

theorem keptV {W w1 : World} (hb : Below W.heap.size W w1) {p : Addr} {v : Value} (h : W.cell? p = some v) : w1.cell? p = some v := by
  rw [hb.cell (World.block_lt_of_cell? W _ h)]; exact h
theorem vB_double {t b : Int} (h : vB t b = true) : vB (2 * t) (2 * b) = false := by
  rw [Bool.eq_false_iff]; intro k; rw [vB_iff] at k
  have : Int.gcd (2 * t) (2 * b) = 2 * Int.gcd t b := by rw [Int.gcd_mul_left]; rfl
  omega

set_option maxRecDepth 100000 in
set_option maxHeartbeats 2000000 in
theorem fnFractionValid_core (a0 : Option Addr) (len0 cap0 : Nat) (w : World) (hrow : CodeRow w a0 len0 cap0) :
    Calls Try.prog 11 #[.slice a0 len0 cap0] w fun e w' => e = .returned (.bool true) ∧ Below w.heap.size w w' := by
  have hcap := hrow.1; have hmx := hrow.2.1
  unfold maxLen at hmx
  by_cases hl : len0 ≤ 1048576
  · go_enter Try.func11, Try.ntmps11
    go_wp2_with fail
    refine (drawFractionValid_any a0 len0 cap0 _ hrow).mono ?_
    rintro e w1 ⟨t, b, rfl, hb1⟩
    have HB1 := Lib.hid hb1; clear hb1 hrow
    go_wp2_with fail
    refine (valid_impl t b _).mono ?_
    rintro e w2 ⟨rfl, hb2⟩
    have c20 : w2.cell? ⟨w1.heap.size, 0, none⟩ = some (.int .i64 t) := keptV hb2 (by simp [go_sem])
    have c21 : w2.cell? ⟨w1.heap.size, 1, none⟩ = some (.int .i64 b) := keptV hb2 (by simp [go_sem])
    have HB2 := Lib.hid ((HB1.out.alloc HB1.out.size _).trans (hb2.mono (by have := HB1.out.size; simp; omega))); clear hb2 HB1
    go_wp2_with fail
    refine (valid_spec t b _).mono ?_
    rintro e w3 ⟨rfl, hb3⟩
    have c30 := keptV hb3 c20; have c31 := keptV hb3 c21
    have HB3 := Lib.hid (HB2.out.trans (hb3.mono HB2.out.size)); clear hb3 HB2 c20 c21
    by_cases hv : vB t b = true
    · have HD := Lib.hid (vB_double hv)
      obtain ⟨t1, t2, t3, t4⟩ := vB_bd hv
      rw [hv]; clear hv
      go_wp2_with fail
      refine (valid_impl _ _ _).mono ?_
      rintro e w4 ⟨rfl, hb4⟩
      rw [HD.out]
      have HB4 := Lib.hid (HB3.out.trans (hb4.mono HB3.out.size)); clear hb4 HB3
      go_wp2_with fail
      refine (valid_impl _ _ _).mono ?_
      rintro e w5 ⟨rfl, hb5⟩
      rw [show vB 0 0 = false by decide]
      have HB5 := Lib.hid (HB4.out.trans (hb5.mono HB4.out.size)); clear hb5 HB4
      go_wp2_with fail
      refine (alive_any _).mono ?_
      rintro e w' ⟨rfl, rfl⟩
      go_wp2
      go_ret
      exact ⟨rfl, HB5.out⟩
    · have hv' := Bool.eq_false_iff.mpr hv
      rw [hv']; clear hv hv'
      go_wp2_with fail
      refine (valid_impl _ _ _).mono ?_
      rintro e w5 ⟨rfl, hb5⟩
      rw [show vB 0 0 = false by decide]
      have HB5 := Lib.hid (HB3.out.trans (hb5.mono HB3.out.size)); clear hb5 HB3
      go_wp2_with fail
      refine (alive_any _).mono ?_
      rintro e w' ⟨rfl, rfl⟩
      go_wp2
      go_ret
      exact ⟨rfl, HB5.out⟩
  · go_enter Try.func11, Try.ntmps11
    go_wp2
    go_ret
    exact ⟨rfl, Below.refl _ _⟩

end Go.Proofs.Ytnapknogfdkgbaa
