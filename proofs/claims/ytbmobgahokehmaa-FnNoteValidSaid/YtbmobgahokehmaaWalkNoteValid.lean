/-
  The walk of laws.FnNoteValid.
-/
import Derived.Test.YtbmobgahokehmaaNoteS
import Derived.Test.YtbmobgahokehmaaNoteI
import Derived.Test.YtbmobgahokehmaaAlive
import Derived.Test.YtbmobgahokehmaaDrawNoteValid
namespace Go.Proofs.Ytbmobgahokehmaa
open Go.RowKit
set_option linter.unusedVariables false

theorem sp_size (s : ByteArray) : (s ++ ⟨#[32]⟩).size = s.size + 1 := by rw [ByteArray.size_append]; rfl
theorem ab_size (s : ByteArray) : (((⟨#[97, 32]⟩ : ByteArray) ++ s) ++ ⟨#[32, 98]⟩).size = s.size + 4 := by
  rw [ByteArray.size_append, ByteArray.size_append]; show 2 + s.size + 2 = _; omega

set_option maxHeartbeats 2000000 in
theorem fnNoteValid_core (a0 : Option Addr) (len0 cap0 : Nat) (w : World) (hrow : CodeRow w a0 len0 cap0) :
    Calls Try.prog 3 #[.slice a0 len0 cap0] w fun e w' => e = .returned (.bool true) ∧ Below w.heap.size w w' := by
  have hcap := hrow.1; have hmx := hrow.2.1
  unfold maxLen at hmx
  by_cases hl : len0 ≤ 1048576
  · have HD := Lib.hid (drawNoteValid_any a0 len0 cap0 w hrow)
    go_enter Try.func3, Try.ntmps3
    go_wp2_with fail
    refine HD.out.mono ?_
    rintro e w1 ⟨s, rfl, hs, hb⟩
    have HB := Lib.hid hb
    have HSP := Lib.hid (note_space s)
    have HMO := Lib.hid (fun (h : noteB s = true) (h2 : s.size ≤ 50) => note_more h h2)
    have z1 := sp_size s
    have z2 := ab_size s
    clear hb hrow
    go_wp2_with fail
    refine (note_impl s _ (by unfold maxLen; omega)).mono ?_
    rintro e w' ⟨rfl, rfl⟩
    go_wp2_with fail
    refine (note_spec s _ (by unfold maxLen; omega)).mono ?_
    rintro e w' ⟨rfl, rfl⟩
    cases h9 : noteB s with
    | false =>
      clear h9
      go_wp2_with fail
      refine (note_impl _ _ (by unfold maxLen; omega)).mono ?_
      rintro e w' ⟨rfl, rfl⟩
      rw [HSP.out]
      go_wp2_with fail
      refine (alive_any _).mono ?_
      rintro e w' ⟨rfl, rfl⟩
      go_wp2
      go_ret
      exact ⟨rfl, HB.out⟩
    | true =>
      by_cases h50 : s.size ≤ 50
      · have HM := Lib.hid (HMO.out h9 h50)
        clear h9
        have z3 : decide (50 < (s.size : Int)) = false := decide_eq_false (by omega)
        go_wp2_with fail
        refine (note_impl _ _ (by unfold maxLen; omega)).mono ?_
        rintro e w' ⟨rfl, rfl⟩
        rw [HM.out]
        go_wp2_with fail
        refine (note_impl _ _ (by unfold maxLen; omega)).mono ?_
        rintro e w' ⟨rfl, rfl⟩
        rw [HSP.out]
        go_wp2_with fail
        refine (alive_any _).mono ?_
        rintro e w' ⟨rfl, rfl⟩
        go_wp2
        go_ret
        exact ⟨rfl, HB.out⟩
      · clear h9
        have z3 : decide (50 < (s.size : Int)) = true := decide_eq_true (by omega)
        go_wp2_with fail
        refine (note_impl _ _ (by unfold maxLen; omega)).mono ?_
        rintro e w' ⟨rfl, rfl⟩
        rw [HSP.out]
        go_wp2_with fail
        refine (alive_any _).mono ?_
        rintro e w' ⟨rfl, rfl⟩
        go_wp2
        go_ret
        exact ⟨rfl, HB.out⟩
  · go_enter Try.func3, Try.ntmps3
    go_wp2
    go_ret
    exact ⟨rfl, Below.refl _ _⟩

end Go.Proofs.Ytbmobgahokehmaa
