/-
  The walk of laws.FnCellValid.
-/
import Derived.Test.YtcnhefbbdklajaaDoorDrawCellV
import Derived.Test.YtcnhefbbdklajaaDoorCellI
import Derived.Test.YtcnhefbbdklajaaDoorCellS
import Derived.Test.YtcnhefbbdklajaaDoorAlive
namespace Go.Proofs.YtcnhefbbdklajaaDoor
open Go.RowKit
set_option linter.unusedVariables false

theorem cell_ten (s : ByteArray) : cellB 10 s 0 = false := by simp [cellB, wordB]
theorem cell_parts (s : ByteArray) : cellB 1 s 1 = false := by simp [cellB, manyB]

set_option maxRecDepth 100000 in
set_option maxHeartbeats 4000000 in
theorem fnCellValid_core (a0 : Option Addr) (len0 cap0 : Nat) (w : World) (hrow : CodeRow w a0 len0 cap0) (htab : Tab w) :
    Calls Tryd.prog 4 #[.slice a0 len0 cap0] w fun e w' => e = .returned (.bool true) ∧ Below w.heap.size w w' := by
  have hcap := hrow.1; have hmx := hrow.2.1
  unfold maxLen at hmx
  by_cases hl : len0 ≤ 1048576
  · go_enter Tryd.func4, Tryd.ntmps4
    go_wp2_with fail
    refine (drawCellValid_any a0 len0 cap0 _ hrow).mono ?_
    rintro e w1 ⟨k, m, s, rfl, hs, hb⟩
    have HB := Lib.hid (hb.alloc hb.size (.cells #[.int .i64 k, .string s, .int .i64 m] 26))
    have CB1 := Lib.hid (BlkC.new w1 #[.int .i64 k, .string s, .int .i64 m])
    clear hb hrow
    go_wp2_with fail
    refine (cellValid_impl k m s _ (by unfold maxLen; omega) (htab.keep HB.out)).mono ?_
    rintro e w2 ⟨rfl, hb2⟩
    have HB2 := Lib.hid (HB.out.trans (hb2.mono HB.out.size))
    have CB2 := Lib.hid (CB1.out.below hb2)
    obtain ⟨c0, c1, c2, -, -, -⟩ := CB2.out.all
    clear hb2 CB1 HB
    go_wp2_with fail
    refine (cellValid_spec k m s _ (by omega)).mono ?_
    rintro e w3 ⟨rfl, hb3⟩
    have HB3 := Lib.hid (HB2.out.trans (hb3.mono HB2.out.size))
    have CB3 := Lib.hid (CB2.out.below hb3)
    obtain ⟨d0, d1, d2, -, -, -⟩ := CB3.out.all
    clear hb3 CB2 HB2 c0 c1 c2
    generalize cellB k s m = ok
    cases ok
    all_goals
      go_wp2_with fail
      refine (cellValid_impl 10 0 s _ (by unfold maxLen; omega) (htab.keep HB3.out)).mono ?_
      rintro e w4 ⟨rfl, hb4⟩
      rw [cell_ten]
      have HB4 := Lib.hid (HB3.out.trans (hb4.mono HB3.out.size)); clear hb4
      go_wp2_with fail
      refine (cellValid_impl 1 1 _ _ (by decide) (htab.keep HB4.out)).mono ?_
      rintro e w5 ⟨rfl, hb5⟩
      rw [cell_parts]
      have HB5 := Lib.hid (HB4.out.trans (hb5.mono HB4.out.size)); clear hb5
      go_wp2_with fail
      refine (alive_any _).mono ?_
      rintro e w' ⟨rfl, rfl⟩
      go_wp2
      go_ret
      exact ⟨rfl, HB5.out⟩
  · go_enter Tryd.func4, Tryd.ntmps4
    go_wp2
    go_ret
    exact ⟨rfl, Below.refl _ _⟩

end Go.Proofs.YtcnhefbbdklajaaDoor
