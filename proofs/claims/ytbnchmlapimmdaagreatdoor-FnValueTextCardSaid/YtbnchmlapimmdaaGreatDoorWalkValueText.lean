/-
  The walk of laws.FnValueText.
-/
import Derived.Test.YtbnchmlapimmdaaGreatDoorBaseD
import Derived.Test.YtbnchmlapimmdaaGreatDoorTextV
import Derived.Test.YtbnchmlapimmdaaGreatDoorValST
import Derived.Test.YtbnchmlapimmdaaGreatDoorTextRead
import Derived.Test.YtbnchmlapimmdaaGreatDoorSameCells
namespace Go.Proofs.YtbnchmlapimmdaaGreatDoor
open Go.RowKit
set_option linter.unusedVariables false

theorem text_le (l : List Cl) : (⟨(textV l).toArray⟩ : ByteArray).size ≤ 12000 := by
  show (textV l).toArray.size ≤ 12000
  cases hok : okV l with
  | true => have := textV_short hok; simpa using this
  | false => rw [textV_no hok]; simp
theorem text_some {l : List Cl} (h : okV l = true) : ((⟨(textV l).toArray⟩ : ByteArray).toList == []) = false :=
  ls_no (s := ⟨(textV l).toArray⟩) (l := []) (by simpa using textV_ne h)

set_option maxRecDepth 100000 in
set_option maxHeartbeats 8000000 in
theorem fnValueText_core (a0 : Option Addr) (len0 cap0 : Nat) (w : World) (hrow : CodeRow w a0 len0 cap0) (htab : Tab w) :
    Calls Tryz.prog 4 #[.slice a0 len0 cap0] w fun e w' => e = .returned (.bool true) ∧ Below w.heap.size w w' := by
  have hcap := hrow.1; have hmx := hrow.2.1
  unfold maxLen at hmx
  by_cases hl : len0 ≤ 1048576
  · go_enter Tryz.func4, Tryz.ntmps4
    go_wp2_with fail
    refine (drawValueText_any a0 len0 cap0 _ hrow).mono ?_
    rintro e w1 ⟨v, l, rfl, hr, hs, hl1, hl14, -, hb⟩
    have HB := Lib.hid hb; have HR1 := Lib.hid hr
    have HSH := Lib.hid (show ShortC l from fun c hc => by have := hs c hc; omega)
    have HSZ := Lib.hid (show SizedC l from fun c hc => by have := hs c hc; unfold maxLen; omega)
    clear hb hrow hr hs
    obtain ⟨ao, cp, rfl, q1, q2, -⟩ := HR1.out
    unfold maxLen at q2
    go_wp2_with fail
    refine (valueText_impl _ l _ HR1.out HSH.out (htab.keep HB.out)).mono ?_
    rintro e w2 ⟨rfl, hb2⟩
    have HB2 := Lib.hid (HB.out.trans (hb2.mono HB.out.size)); have HR2 := Lib.hid (HR1.out.mono hb2); clear hb2 HB HR1
    go_wp2_with fail
    refine (valueText_spec _ l _ HR2.out HSH.out (by omega)).mono ?_
    rintro e w3 ⟨rfl, hb3⟩
    have HB3 := Lib.hid (HB2.out.trans (hb3.mono HB2.out.size)); have HR3 := Lib.hid (HR2.out.mono hb3); clear hb3 HB2 HR2
    have hts := text_le l
    have HTR := Lib.hid (show okV l = true → okE l = true → RdOK ⟨(textV l).toArray⟩ l from fun h1 h2 => by rw [textV_E h2 h1]; exact text_reads h2)
    have HTN := Lib.hid (fun h : okV l = false => show (⟨(textV l).toArray⟩ : ByteArray) = ⟨#[]⟩ by rw [textV_no h])
    have HTS := Lib.hid (fun h : okV l = true => text_some h)
    generalize (⟨(textV l).toArray⟩ : ByteArray) = T at hts HTR HTN HTS ⊢
    go_wp2_with fail
    refine (valueValid_spec _ l _ HR3.out HSH.out (by omega)).mono ?_
    rintro e w4 ⟨rfl, hb4⟩
    have HB4 := Lib.hid (HB3.out.trans (hb4.mono HB3.out.size)); have HR4 := Lib.hid (HR3.out.mono hb4); clear hb4 HB3 HR3
    cases hok : okV l with
    | false =>
      have HT0 := Lib.hid (HTN.out hok)
      rw [HT0.out]
      clear hok
      go_wp2_with fail
      refine (alive_any _).mono ?_
      rintro e w' ⟨rfl, rfl⟩
      go_wp2
      go_ret
      exact ⟨rfl, HB4.out⟩
    | true =>
      have hts1 := HTS.out hok
      have HRD := Lib.hid (HTR.out hok)
      clear hok
      go_wp2_with fail
      refine (readExpr_impl T _ (by omega) (htab.keep HB4.out)).mono ?_
      rintro e w5 ⟨hb5, ⟨v5, c5, rfl, hrd, ho5⟩ | ⟨rfl, hno⟩⟩
      · have HB5 := Lib.hid (HB4.out.trans (hb5.mono HB4.out.size)); have HR5 := Lib.hid (HR4.out.mono hb5)
        have HX5 := Lib.hid (RowC.of_own ho5).1; have HD5 := Lib.hid hrd
        clear hb5 hrd ho5
        go_wp2_with fail
        refine (exprValid_impl _ l _ HR5.out HSZ.out (htab.keep HB5.out)).mono ?_
        rintro e w6 ⟨rfl, hb6⟩
        have HB6 := Lib.hid (HB5.out.trans (hb6.mono HB5.out.size)); have HR6 := Lib.hid (HR5.out.mono hb6); have HX6 := Lib.hid (HX5.out.mono hb6); clear hb6
        cases hoe : okE l with
        | false =>
          clear hoe
          go_wp2
          go_ret
          exact ⟨rfl, HB6.out⟩
        | true =>
          obtain rfl := HD5.out.uniq (HRD.out hoe)
          clear hoe
          go_wp2_with fail
          refine (sameCells_same _ _ _ _ HX6.out HR6.out).mono ?_
          rintro e w7 ⟨rfl, hb7⟩
          have HB7 := Lib.hid (HB6.out.trans (hb7.mono HB6.out.size)); clear hb7
          go_wp2
          go_ret
          exact ⟨rfl, HB7.out⟩
      · have HB5 := Lib.hid (HB4.out.trans (hb5.mono HB4.out.size)); have HR5 := Lib.hid (HR4.out.mono hb5)
        have HNO := Lib.hid hno
        clear hb5 hno
        go_wp2_with fail
        refine (exprValid_impl _ l _ HR5.out HSZ.out (htab.keep HB5.out)).mono ?_
        rintro e w6 ⟨rfl, hb6⟩
        have HB6 := Lib.hid (HB5.out.trans (hb6.mono HB5.out.size)); clear hb6
        cases hoe : okE l with
        | false =>
          clear hoe
          go_wp2
          go_ret
          exact ⟨rfl, HB6.out⟩
        | true => exact absurd (HRD.out hoe) (HNO.out l)
  · go_enter Tryz.func4, Tryz.ntmps4
    go_wp2
    go_ret
    exact ⟨rfl, Below.refl _ _⟩

end Go.Proofs.YtbnchmlapimmdaaGreatDoor
