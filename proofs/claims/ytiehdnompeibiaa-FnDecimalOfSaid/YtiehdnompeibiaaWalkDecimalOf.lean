/-
  The walk of laws.FnDecimalOf.
-/
import Derived.Test.YtiehdnompeibiaaDecZero
import Derived.Test.YtiehdnompeibiaaDecImpl
import Derived.Test.YtiehdnompeibiaaDecSpec
import Derived.Test.YtiehdnompeibiaaFracAt
import Derived.Test.YtiehdnompeibiaaAlive
import Derived.Test.YtiehdnompeibiaaDrawDecimalOf
namespace Go.Proofs.Ytiehdnompeibiaa
open Go.RowKit
set_option linter.unusedVariables false

theorem zero_list (s : ByteArray) : (⟨#[48]⟩ ++ s : ByteArray).data.toList = 48 :: s.data.toList := by simp
theorem zero_size (s : ByteArray) : (⟨#[48]⟩ ++ s : ByteArray).size = 1 + s.size := by rw [ByteArray.size_append]; rfl

set_option maxRecDepth 100000 in
set_option maxHeartbeats 4000000 in
theorem fnDecimalOf_core (a0 : Option Addr) (len0 cap0 : Nat) (w : World) (hrow : CodeRow w a0 len0 cap0) :
    Calls Try.prog 10 #[.slice a0 len0 cap0] w fun e w' => e = .returned (.bool true) ∧ Below w.heap.size w w' := by
  have hcap := hrow.1; have hmx := hrow.2.1
  unfold maxLen at hmx
  by_cases hl : len0 ≤ 1048576
  · go_enter Try.func10, Try.ntmps10
    go_wp2_with fail
    refine (drawDecimalOf_any a0 len0 cap0 _ hrow).mono ?_
    rintro e w1 ⟨s, rfl, hs, hb1⟩
    have HB1 := Lib.hid hb1; clear hb1 hrow
    have cs := fun w' => decimal_spec s w' (by omega)
    have ci := fun w' => decimal_impl s w' (by omega)
    have cz := fun w' => decimal_impl (⟨#[48]⟩ ++ s) w' (by rw [zero_size]; omega)
    have key : opOK (decV s.data.toList) (decX s.data.toList) (decY s.data.toList) = true →
        vB (opT (decV s.data.toList) (decX s.data.toList) (decY s.data.toList)) (opB (decV s.data.toList) (decX s.data.toList) (decY s.data.toList)) = true ∧ 0 ≤ opT (decV s.data.toList) (decX s.data.toList) (decY s.data.toList) ∧ (1000000 : Int).tmod (opB (decV s.data.toList) (decX s.data.toList) (decY s.data.toList)) = 0 ∧ 1 ≤ opB (decV s.data.toList) (decX s.data.toList) (decY s.data.toList) ∧
        (opOK (decV (48 :: s.data.toList)) (decX (48 :: s.data.toList)) (decY (48 :: s.data.toList)) = true → opT (decV (48 :: s.data.toList)) (decX (48 :: s.data.toList)) (decY (48 :: s.data.toList)) = opT (decV s.data.toList) (decX s.data.toList) (decY s.data.toList) ∧ opB (decV (48 :: s.data.toList)) (decX (48 :: s.data.toList)) (decY (48 :: s.data.toList)) = opB (decV s.data.toList) (decX s.data.toList) (decY s.data.toList)) := by
      intro h
      simp only [opOK, Bool.and_eq_true] at h
      obtain ⟨f1, f2, f3, f4⟩ := dec_frac h.1 h.2
      rw [h.1, (op_true _ _).1, (op_true _ _).2.1]
      refine ⟨f1, f2, f3, f4, fun g => ?_⟩
      simp only [opOK, Bool.and_eq_true] at g
      rw [g.1, (op_true _ _).1, (op_true _ _).2.1, (decXY_zero _).1, (decXY_zero _).2]
      exact ⟨rfl, rfl⟩
    have kno : opOK (decV s.data.toList) (decX s.data.toList) (decY s.data.toList) = false → opT (decV s.data.toList) (decX s.data.toList) (decY s.data.toList) = 0 ∧ opB (decV s.data.toList) (decX s.data.toList) (decY s.data.toList) = 0 := by
      intro h
      cases hv : decV s.data.toList with
      | false => exact ⟨(op_false _ _).1, (op_false _ _).2.1⟩
      | true =>
        rw [hv, (op_true _ _).2.2] at h
        rw [(op_true _ _).1, (op_true _ _).2.1]
        exact mk_no h
    rw [zero_list] at cz
    generalize opT (decV s.data.toList) (decX s.data.toList) (decY s.data.toList) = rT at cs ci key kno
    generalize opB (decV s.data.toList) (decX s.data.toList) (decY s.data.toList) = rB at cs ci key kno
    generalize opOK (decV s.data.toList) (decX s.data.toList) (decY s.data.toList) = ok at cs ci key kno
    generalize opT (decV (48 :: s.data.toList)) (decX (48 :: s.data.toList)) (decY (48 :: s.data.toList)) = zT at cz key
    generalize opB (decV (48 :: s.data.toList)) (decX (48 :: s.data.toList)) (decY (48 :: s.data.toList)) = zB at cz key
    generalize opOK (decV (48 :: s.data.toList)) (decX (48 :: s.data.toList)) (decY (48 :: s.data.toList)) = zok at cz key
    have HS := Lib.hid cs; have HI := Lib.hid ci; have HZ := Lib.hid cz; have KY := Lib.hid key; have KN := Lib.hid kno
    clear cs ci cz key kno
    go_wp2_with fail
    refine (HI.out _).mono ?_
    rintro e w2 ⟨rfl, hb2⟩
    have HB2 := Lib.hid (HB1.out.trans (hb2.mono HB1.out.size)); clear hb2 HB1
    go_wp2_with fail
    refine (HS.out _).mono ?_
    rintro e w3 ⟨rfl, hb3⟩
    have F2 : Hid (FrAt w3 w2.heap.size rT rB) := FrAt.keep (FrAt.new _ _ _ _) hb3
    have HB3 := Lib.hid ((HB2.out.alloc HB2.out.size _).trans (hb3.mono (by have := HB2.out.size; simp; omega))); clear hb3 HB2
    obtain ⟨d0, d1⟩ := F2.out.al (.cells #[.int .i64 rT, .int .i64 rB] 40)
    have HB4 := Lib.hid (HB3.out.alloc HB3.out.size (.cells #[.int .i64 rT, .int .i64 rB] 40))
    cases ok with
    | false =>
      obtain ⟨k1, k2⟩ := KN.out rfl
      subst k1 k2
      go_wp2_with fail
      refine (alive_any _).mono ?_
      rintro e w' ⟨rfl, rfl⟩
      go_wp2
      go_ret
      exact ⟨rfl, HB4.out⟩
    | true =>
      obtain ⟨k1, k2, k3, k4, k5⟩ := KY.out rfl
      have K1 := Lib.hid k1; have K3 := Lib.hid k3; have K5 := Lib.hid k5
      clear k1 k3 k5
      have F4 := Lib.hid (F2.out.al (.cells #[.int .i64 rT, .int .i64 rB] 40))
      go_wp2_with fail
      refine (HZ.out _).mono ?_
      rintro e w5 ⟨rfl, hb5⟩
      have F5 : Hid (FrAt w5 w2.heap.size rT rB) := F4.out.keep hb5
      have HB5 := Lib.hid (HB4.out.trans (hb5.mono HB4.out.size)); clear hb5 HB4 F4 d0 d1
      obtain ⟨d0, d1⟩ := F5.out.al (.cells #[.int .i64 zT, .int .i64 zB] 40)
      have F6 := Lib.hid (F5.out.al (.cells #[.int .i64 zT, .int .i64 zB] 40))
      have G6 : Hid (FrAt (w5.alloc (.cells #[.int .i64 zT, .int .i64 zB] 40)) w5.heap.size zT zB) := FrAt.new _ _ _ _
      have HB6 := Lib.hid (HB5.out.alloc HB5.out.size (.cells #[.int .i64 zT, .int .i64 zB] 40))
      go_wp2_with fail
      refine (valid_impl rT rB _).mono ?_
      rintro e w7 ⟨rfl, hb7⟩
      rw [K1.out]
      have F7 := Lib.hid (F6.out.keep hb7); have G7 := Lib.hid (G6.out.keep hb7)
      have HB7 := Lib.hid (HB6.out.trans (hb7.mono HB6.out.size))
      clear hb7 HB6 F6 G6 d0 d1
      obtain ⟨d0, d1⟩ := F7.out
      obtain ⟨g0, g1⟩ := G7.out
      have t1 : decide (0 ≤ rT) = true := decide_eq_true k2
      have t2 : (rB == 0) = false := beq_eq_false_iff_ne.mpr (by omega)
      have t3 : (1000000 : Int).tmod rB = 0 := K3.out
      cases zok with
      | false =>
        go_wp2
        go_ret
        exact ⟨rfl, HB7.out⟩
      | true =>
        obtain ⟨e1, e2⟩ := K5.out rfl
        subst e1 e2
        go_wp2
        go_ret
        exact ⟨rfl, HB7.out⟩
  · go_enter Try.func10, Try.ntmps10
    go_wp2
    go_ret
    exact ⟨rfl, Below.refl _ _⟩

end Go.Proofs.Ytiehdnompeibiaa
