/-
  The walk of laws.FnNameValid.
-/
import Derived.Test.YtiehdnompeibiaaNameV
import Derived.Test.YtiehdnompeibiaaNameS
import Derived.Test.YtiehdnompeibiaaAlive
import Derived.Test.YtiehdnompeibiaaDrawNameV
namespace Go.Proofs.Ytiehdnompeibiaa
open Go.RowKit
set_option linter.unusedVariables false

theorem app_size (s : ByteArray) (a : Array UInt8) : (s ++ ⟨a⟩).size = s.size + a.size := by rw [ByteArray.size_append]; rfl
theorem app_list (s : ByteArray) (a : Array UInt8) : (s ++ ⟨a⟩).data.toList = s.data.toList ++ a.toList := by simp

set_option maxHeartbeats 2000000 in
theorem fnNameValid_core (a0 : Option Addr) (len0 cap0 : Nat) (w : World) (hrow : CodeRow w a0 len0 cap0) :
    Calls Try.prog 4 #[.slice a0 len0 cap0] w fun e w' => e = .returned (.bool true) ∧ Below w.heap.size w w' := by
  have hcap := hrow.1; have hmx := hrow.2.1
  unfold maxLen at hmx
  by_cases hl : len0 ≤ 1048576
  · go_enter Try.func4, Try.ntmps4
    go_wp2_with fail
    refine (drawNameValid_any a0 len0 cap0 _ hrow).mono ?_
    rintro e w1 ⟨s, rfl, hs, hb⟩
    have HB := Lib.hid hb
    clear hb hrow
    have z1 := app_size s #[46, 112, 97, 114, 116]
    have z2 := app_size s #[46]
    have q1 : (s ++ ⟨#[46, 112, 97, 114, 116]⟩ : ByteArray).size ≤ 100 := by rw [z1]; show s.size + 5 ≤ _; omega
    have q2 : (s ++ ⟨#[46]⟩ : ByteArray).size ≤ 100 := by rw [z2]; show s.size + 1 ≤ _; omega
    clear z1 z2
    have HM := Lib.hid (show nameL s.data.toList = true → nameL (s ++ ⟨#[46, 112, 97, 114, 116]⟩ : ByteArray).data.toList = true from fun h => by
      rw [app_list]; exact name_more _ [112, 97, 114, 116] h (by decide))
    have HD := Lib.hid (show nameL (s ++ ⟨#[46]⟩ : ByteArray).data.toList = false by rw [app_list]; exact name_dot _)
    go_wp2_with fail
    refine (nameValid_impl s _ (by unfold maxLen; omega)).mono ?_
    rintro e w2 ⟨rfl, hb2⟩
    have HB2 := Lib.hid (HB.out.trans (hb2.mono HB.out.size)); clear hb2 HB
    go_wp2_with fail
    refine (nameValid_spec s _ (by unfold maxLen; omega)).mono ?_
    rintro e w' ⟨rfl, rfl⟩
    cases hn : nameL s.data.toList with
    | true =>
      have HN := Lib.hid (HM.out hn); clear hn HM
      go_wp2_with fail
      refine (nameValid_impl _ _ (by unfold maxLen; omega)).mono ?_
      rintro e w3 ⟨rfl, hb3⟩
      rw [HN.out]
      have HB3 := Lib.hid (HB2.out.trans (hb3.mono HB2.out.size)); clear hb3 HB2
      go_wp2_with fail
      refine (nameValid_impl _ _ (by unfold maxLen; omega)).mono ?_
      rintro e w4 ⟨rfl, hb4⟩
      rw [HD.out]
      have HB4 := Lib.hid (HB3.out.trans (hb4.mono HB3.out.size)); clear hb4 HB3
      go_wp2_with fail
      refine (nameValid_impl _ _ (by decide)).mono ?_
      rintro e w5 ⟨rfl, hb5⟩
      rw [show nameL ({ data := #[116, 114, 117, 101] } : ByteArray).data.toList = false by decide]
      have HB5 := Lib.hid (HB4.out.trans (hb5.mono HB4.out.size)); clear hb5 HB4
      go_wp2_with fail
      refine (alive_any _).mono ?_
      rintro e w' ⟨rfl, rfl⟩
      go_wp2
      go_ret
      exact ⟨rfl, HB5.out⟩
    | false =>
      clear hn HM
      go_wp2_with fail
      refine (nameValid_impl _ _ (by unfold maxLen; omega)).mono ?_
      rintro e w4 ⟨rfl, hb4⟩
      rw [HD.out]
      have HB4 := Lib.hid (HB2.out.trans (hb4.mono HB2.out.size)); clear hb4 HB2
      go_wp2_with fail
      refine (nameValid_impl _ _ (by decide)).mono ?_
      rintro e w5 ⟨rfl, hb5⟩
      rw [show nameL ({ data := #[116, 114, 117, 101] } : ByteArray).data.toList = false by decide]
      have HB5 := Lib.hid (HB4.out.trans (hb5.mono HB4.out.size)); clear hb5 HB4
      go_wp2_with fail
      refine (alive_any _).mono ?_
      rintro e w' ⟨rfl, rfl⟩
      go_wp2
      go_ret
      exact ⟨rfl, HB5.out⟩
  · go_enter Try.func4, Try.ntmps4
    go_wp2
    go_ret
    exact ⟨rfl, Below.refl _ _⟩

end Go.Proofs.Ytiehdnompeibiaa
