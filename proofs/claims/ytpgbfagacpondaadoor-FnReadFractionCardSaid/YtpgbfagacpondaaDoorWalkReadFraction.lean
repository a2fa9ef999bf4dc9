/-
  The walk of laws.FnReadFraction.
-/
import Derived.Test.YtpgbfagacpondaaDoorReadSAll
import Derived.Test.YtpgbfagacpondaaDoorReadI
import Derived.Test.YtpgbfagacpondaaDoorReadSpace
import Derived.Test.YtpgbfagacpondaaDoorTextI
import Derived.Test.YtpgbfagacpondaaDoorFracAt
import Derived.Test.YtpgbfagacpondaaDoorAlive
import Derived.Test.YtpgbfagacpondaaDoorDrawReadFraction
namespace Go.Proofs.YtpgbfagacpondaaDoor
open Go.RowKit
set_option linter.unusedVariables false

set_option maxRecDepth 100000 in
set_option maxHeartbeats 4000000 in
theorem fnReadFraction_core (a0 : Option Addr) (len0 cap0 : Nat) (w : World) (hrow : CodeRow w a0 len0 cap0) (htab : Tab w) :
    Calls Tryd.prog 6 #[.slice a0 len0 cap0] w fun e w' => e = .returned (.bool true) ∧ Below w.heap.size w w' := by
  have hcap := hrow.1; have hmx := hrow.2.1
  unfold maxLen at hmx
  by_cases hl : len0 ≤ 1048576
  · go_enter Tryd.func6, Tryd.ntmps6
    go_wp2_with fail
    refine (drawReadFraction_any a0 len0 cap0 _ hrow).mono ?_
    rintro e w1 ⟨s, rfl, hs, hb1⟩
    have T1 := Lib.hid (htab.keep hb1)
    have HB1 := Lib.hid hb1; clear hb1 hrow htab
    have cs := fun w' => readFraction_spec s w' (by omega)
    have ci := fun w' (h : Tab w') => readFraction_impl s w' (by omega) h
    have cz := fun w' (h : Tab w') => readFraction_impl (s ++ ⟨#[32]⟩) w' (by rw [ByteArray.size_append]; show s.size + 1 ≤ _; omega) h
    have ct := fun w' (h : Tab w') => fractionText_impl (rdT s) (rdB s) w' h
    have key : rdOK s = true → (⟨(textF (rdT s) (rdB s)).toArray⟩ : ByteArray) = s := by
      intro h
      apply strL
      rw [← read_text s h]
    have kno : rdOK s = false → rdT s = 0 ∧ rdB s = 0 := by
      intro h; unfold rdT rdB; rw [h]; exact ⟨rfl, rfl⟩
    rw [read_space] at cz
    generalize (⟨(textF (rdT s) (rdB s)).toArray⟩ : ByteArray) = Z at ct key
    generalize rdT s = rT at cs ci ct kno
    generalize rdB s = rB at cs ci ct kno
    generalize rdOK s = ok at cs ci key kno
    generalize rdT (s ++ ⟨#[32]⟩) = zT at cz
    generalize rdB (s ++ ⟨#[32]⟩) = zB at cz
    have HS := Lib.hid cs; have HI := Lib.hid ci; have HZ := Lib.hid cz; have HT := Lib.hid ct; have KY := Lib.hid key; have KN := Lib.hid kno
    clear cs ci cz ct key kno
    go_wp2_with fail
    refine (HI.out _ T1.out).mono ?_
    rintro e w2 ⟨rfl, hb2⟩
    have T2 := Lib.hid (T1.out.keep hb2)
    have HB2 := Lib.hid (HB1.out.trans (hb2.mono HB1.out.size)); clear hb2 HB1 T1
    go_wp2_with fail
    refine (HS.out _).mono ?_
    rintro e w3 ⟨rfl, hb3⟩
    have T3 := Lib.hid ((T2.out.al _).keep hb3)
    have F2 : Hid (FrAt w3 w2.heap.size rT rB) := FrAt.keep (FrAt.new _ _ _ _) hb3
    have HB3 := Lib.hid ((HB2.out.alloc HB2.out.size _).trans (hb3.mono (by have := HB2.out.size; simp; omega))); clear hb3 HB2 T2
    obtain ⟨d0, d1⟩ := F2.out.al (.cells #[.int .i64 rT, .int .i64 rB] 25)
    have HB4 := Lib.hid (HB3.out.alloc HB3.out.size (.cells #[.int .i64 rT, .int .i64 rB] 25))
    have T4 := Lib.hid (T3.out.al (.cells #[.int .i64 rT, .int .i64 rB] 25))
    cases ok with
    | false =>
      obtain ⟨k1, k2⟩ := KN.out rfl
      subst k1 k2
      go_wp2_with fail
      refine (alive_any _).mono ?_
      rintro e w' ⟨rfl, rfl⟩
      go_wp2
      go_ret
      exact ⟨rfl, HB4.out⟩
    | true =>
      have k1 := KY.out rfl
      subst k1
      have F4 := Lib.hid (F2.out.al (.cells #[.int .i64 rT, .int .i64 rB] 25))
      go_wp2_with fail
      refine (HZ.out _ T4.out).mono ?_
      rintro e w5 ⟨rfl, hb5⟩
      have F5 : Hid (FrAt w5 w2.heap.size rT rB) := F4.out.keep hb5
      have T5 := Lib.hid (T4.out.keep hb5)
      have HB5 := Lib.hid (HB4.out.trans (hb5.mono HB4.out.size)); clear hb5 HB4 F4 d0 d1
      obtain ⟨d0, d1⟩ := F5.out.al (.cells #[.int .i64 zT, .int .i64 zB] 25)
      have HB6 := Lib.hid (HB5.out.alloc HB5.out.size (.cells #[.int .i64 zT, .int .i64 zB] 25))
      have T6 := Lib.hid (T5.out.al (.cells #[.int .i64 zT, .int .i64 zB] 25))
      go_wp2_with fail
      refine (HT.out _ T6.out).mono ?_
      rintro e w7 ⟨rfl, hb7⟩
      have HB7 := Lib.hid (HB6.out.trans (hb7.mono HB6.out.size))
      clear hb7 HB6 d0 d1
      go_wp2
      go_ret
      exact ⟨rfl, HB7.out⟩
  · go_enter Tryd.func6, Tryd.ntmps6
    go_wp2
    go_ret
    exact ⟨rfl, Below.refl _ _⟩

end Go.Proofs.YtpgbfagacpondaaDoor
