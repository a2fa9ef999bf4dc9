/-
  The walk of laws.FnExprText.
-/
import Derived.Test.YtncehcklppakcaaGreatDoorDrawExprT
import Derived.Test.YtncehcklppakcaaGreatDoorBaseP
import Derived.Test.YtncehcklppakcaaGreatDoorPrintST
import Derived.Test.YtncehcklppakcaaGreatDoorTextRead
import Derived.Test.YtncehcklppakcaaGreatDoorSameCells
import Derived.Test.YtncehcklppakcaaGreatDoorAlive
namespace Go.Proofs.YtncehcklppakcaaGreatDoor
open Go.RowKit
set_option linter.unusedVariables false

theorem short60 {l : List Cl} (h : ∀ c ∈ l, c.2.1.size ≤ 60) : SizedC l ∧ ShortC l := ⟨fun c hc => by have := h c hc; unfold maxLen; omega, fun c hc => by have := h c hc; omega⟩
theorem text_ba_len (l : List Cl) : (⟨(textE l).toArray⟩ : ByteArray).size ≤ 12000 := textE_len l

set_option maxRecDepth 100000 in
set_option maxHeartbeats 8000000 in
theorem fnExprText_core (a0 : Option Addr) (len0 cap0 : Nat) (w : World) (hrow : CodeRow w a0 len0 cap0) (htab : Tab w) :
    Calls Tryz.prog 4 #[.slice a0 len0 cap0] w fun e w' => e = .returned (.bool true) ∧ Below w.heap.size w w' := by
  have hcap := hrow.1; have hmx := hrow.2.1
  unfold maxLen at hmx
  by_cases hl : len0 ≤ 1048576
  · go_enter Tryz.func4, Tryz.ntmps4
    go_wp2_with fail
    refine (drawExprText_any a0 len0 cap0 _ hrow).mono ?_
    rintro e w1 ⟨v, l, rfl, hr, hs, hl60, hb⟩
    have HB := Lib.hid hb; have HR1 := Lib.hid hr; have HSH := Lib.hid (short60 hs)
    clear hb hrow hr hs
    obtain ⟨ao, cp, rfl, q1, q2, -⟩ := HR1.out
    unfold maxLen at q2
    go_wp2_with fail
    refine (exprText_impl _ l _ HR1.out HSH.out.1 (htab.keep HB.out)).mono ?_
    rintro e w2 ⟨rfl, hb2⟩
    have HB2 := Lib.hid (HB.out.trans (hb2.mono HB.out.size)); have HR2 := Lib.hid (HR1.out.mono hb2); clear hb2 HB HR1
    go_wp2_with fail
    refine (exprText_spec _ l _ HR2.out HSH.out.2 (by omega)).mono ?_
    rintro e w3 ⟨rfl, hb3⟩
    have HB3 := Lib.hid (HB2.out.trans (hb3.mono HB2.out.size)); have HR3 := Lib.hid (HR2.out.mono hb3); clear hb3 HB2 HR2
    have hts := text_ba_len l
    have HTR := Lib.hid (fun h : okE l = true => text_reads h)
    have HTN := Lib.hid (fun h : okE l = false => show (⟨(textE l).toArray⟩ : ByteArray) = ⟨#[]⟩ by rw [textE_no h])
    generalize (⟨(textE l).toArray⟩ : ByteArray) = T at hts HTR HTN ⊢
    go_wp2_with fail
    refine (exprValid_spec _ l _ HR3.out HSH.out.2 (by omega)).mono ?_
    rintro e w4 ⟨rfl, hb4⟩
    have HB4 := Lib.hid (HB3.out.trans (hb4.mono HB3.out.size)); have HR4 := Lib.hid (HR3.out.mono hb4); clear hb4 HB3 HR3
    cases hok : okE l with
    | false =>
      have HT0 := Lib.hid (HTN.out hok)
      rw [HT0.out]
      clear hok
      go_wp2_with fail
      refine (alive_any _).mono ?_
      rintro e w' ⟨rfl, rfl⟩
      go_wp2
      go_ret
      exact ⟨rfl, HB4.out⟩
    | true =>
      have HRD := Lib.hid (HTR.out hok)
      clear hok
      go_wp2_with fail
      refine (readExpr_impl T _ (by omega) (htab.keep HB4.out)).mono ?_
      rintro e w5 ⟨hb5, ⟨v5, c5, rfl, hrd, ho5⟩ | ⟨rfl, hno⟩⟩
      · obtain rfl := hrd.uniq HRD.out
        have HB5 := Lib.hid (HB4.out.trans (hb5.mono HB4.out.size)); have HR5 := Lib.hid (HR4.out.mono hb5)
        have HX5 := Lib.hid (RowC.of_own ho5).1
        clear hb5 hrd ho5
        go_wp2_with fail
        refine (sameCells_same _ _ _ _ HX5.out HR5.out).mono ?_
        rintro e w6 ⟨rfl, hb6⟩
        have HB6 := Lib.hid (HB5.out.trans (hb6.mono HB5.out.size)); clear hb6
        go_wp2
        go_ret
        exact ⟨rfl, HB6.out⟩
      · exact absurd HRD.out (hno l)
  · go_enter Tryz.func4, Tryz.ntmps4
    go_wp2
    go_ret
    exact ⟨rfl, Below.refl _ _⟩

end Go.Proofs.YtncehcklppakcaaGreatDoor
