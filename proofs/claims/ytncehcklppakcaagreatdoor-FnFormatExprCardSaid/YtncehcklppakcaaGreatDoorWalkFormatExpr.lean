/-
  The walk of laws.FnFormatExpr.
-/
import Derived.Test.YtncehcklppakcaaGreatDoorBaseW
import Derived.Test.YtncehcklppakcaaGreatDoorBaseF
import Derived.Test.YtncehcklppakcaaGreatDoorSameCells
import Derived.Test.YtncehcklppakcaaGreatDoorAlive
namespace Go.Proofs.YtncehcklppakcaaGreatDoor
open Go.RowKit
set_option linter.unusedVariables false

set_option maxRecDepth 100000 in
set_option maxHeartbeats 2000000 in
theorem fnFormatExpr_core (a0 : Option Addr) (len0 cap0 : Nat) (w : World) (hrow : CodeRow w a0 len0 cap0) (htab : Tab w) :
    Calls Tryz.prog 8 #[.slice a0 len0 cap0] w fun e w' => e = .returned (.bool true) ∧ Below w.heap.size w w' := by
  have hcap := hrow.1; have hmx := hrow.2.1
  unfold maxLen at hmx
  have HT := Lib.hid htab
  clear htab
  by_cases hl : len0 ≤ 1048576
  · go_enter Tryz.func8, Tryz.ntmps8
    go_wp2_with fail
    refine (drawFormatExpr_any a0 len0 cap0 _ hrow).mono ?_
    rintro e w1 ⟨s, rfl, hs, hn, hb⟩
    have HB := Lib.hid hb; have HIF := Lib.hid (sp_iff hn)
    clear hb hrow hn
    go_wp2_with fail
    refine (formatExpr_impl s _ (by omega) (HT.out.keep HB.out)).mono ?_
    rintro e w2 ⟨hb2, ⟨c, hrd, rfl⟩ | ⟨rfl, hno⟩⟩
    · have HB2 := Lib.hid (HB.out.trans (hb2.mono HB.out.size)); have HRD := Lib.hid hrd
      clear hb2 hrd HB
      go_wp2_with fail
      refine (formatExpr_spec s _ (by omega)).mono ?_
      rintro e w3 ⟨hb3, ⟨c3, hsp, rfl⟩ | ⟨rfl, hno⟩⟩
      rotate_left
      · exact absurd ((HIF.out c).mpr HRD.out) (hno c)
      obtain rfl := ((HIF.out c3).mp hsp).uniq HRD.out
      have HB3 := Lib.hid (HB2.out.trans (hb3.mono HB2.out.size))
      clear hb3 hsp HB2 HIF
      have htl : (⟨(textE c3).toArray⟩ : ByteArray).size ≤ 12000 := textE_len c3
      have HTX := Lib.hid (text_reads HRD.out.2)
      obtain ⟨TX, hTX⟩ : ∃ T, T = (⟨(textE c3).toArray⟩ : ByteArray) := ⟨_, rfl⟩
      rw [← hTX] at HTX htl ⊢
      have HE := Lib.hid hTX
      clear hTX
      go_wp2_with fail
      refine (formatExpr_impl TX _ (by omega) (HT.out.keep HB3.out)).mono ?_
      rintro e w4 ⟨hb4, ⟨c4, hrd4, rfl⟩ | ⟨rfl, hno⟩⟩
      rotate_left
      · exact absurd HTX.out (hno _)
      obtain rfl := hrd4.uniq HTX.out
      rw [← HE.out]
      have HB4 := Lib.hid (HB3.out.trans (hb4.mono HB3.out.size))
      clear hb4 hrd4 HB3
      go_wp2_with fail
      refine (readExpr_impl s _ (by omega) (HT.out.keep HB4.out)).mono ?_
      rintro e w5 ⟨hb5, ⟨v5, c5, rfl, hrd5, ho5⟩ | ⟨rfl, hno⟩⟩
      rotate_left
      · exact absurd HRD.out (hno _)
      obtain rfl := hrd5.uniq HRD.out
      have HB5 := Lib.hid (HB4.out.trans (hb5.mono HB4.out.size)); have HA5 := Lib.hid (RowC.of_own ho5).1
      clear hb5 ho5 hrd5 HB4
      go_wp2_with fail
      refine (readExpr_impl TX _ (by omega) (HT.out.keep HB5.out)).mono ?_
      rintro e w6 ⟨hb6, ⟨v6, c6, rfl, hrd6, ho6⟩ | ⟨rfl, hno⟩⟩
      rotate_left
      · exact absurd HTX.out (hno _)
      obtain rfl := hrd6.uniq HTX.out
      have HB6 := Lib.hid (HB5.out.trans (hb6.mono HB5.out.size)); have HA6 := Lib.hid (HA5.out.mono hb6); have HC6 := Lib.hid (RowC.of_own ho6).1
      clear hb6 ho6 hrd6 HB5 HA5
      go_wp2_with fail
      refine (sameCells_same v5 v6 c6 _ HA6.out HC6.out).mono ?_
      rintro e w7 ⟨rfl, hb7⟩
      have HB7 := Lib.hid (HB6.out.trans (hb7.mono HB6.out.size))
      clear hb7 HB6 HA6 HC6
      go_wp2
      go_ret
      exact ⟨rfl, HB7.out⟩
    · have HB2 := Lib.hid (HB.out.trans (hb2.mono HB.out.size)); have HNO := Lib.hid hno
      clear hb2 hno HB
      go_wp2_with fail
      refine (formatExpr_spec s _ (by omega)).mono ?_
      rintro e w3 ⟨hb3, ⟨c3, hsp, rfl⟩ | ⟨rfl, -⟩⟩
      · exact absurd ((HIF.out c3).mp hsp) (HNO.out c3)
      have HB3 := Lib.hid (HB2.out.trans (hb3.mono HB2.out.size))
      clear hb3 HB2
      go_wp2_with fail
      refine (alive_any _).mono ?_
      rintro e w' ⟨rfl, rfl⟩
      go_wp2
      go_ret
      exact ⟨rfl, HB3.out⟩
  · go_enter Tryz.func8, Tryz.ntmps8
    go_wp2
    go_ret
    exact ⟨rfl, Below.refl _ _⟩

end Go.Proofs.YtncehcklppakcaaGreatDoor
