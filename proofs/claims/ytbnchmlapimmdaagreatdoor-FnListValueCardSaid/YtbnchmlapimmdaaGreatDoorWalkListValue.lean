/-
  The walk of laws.FnListValue.
-/
import Derived.Test.YtbnchmlapimmdaaGreatDoorDrawListV
import Derived.Test.YtbnchmlapimmdaaGreatDoorListI
import Derived.Test.YtbnchmlapimmdaaGreatDoorPartsI
import Derived.Test.YtbnchmlapimmdaaGreatDoorSameLists
import Derived.Test.YtbnchmlapimmdaaGreatDoorBaseD
namespace Go.Proofs.YtbnchmlapimmdaaGreatDoor
open Go.RowKit
set_option linter.unusedVariables false

theorem few_len {ls : List (List Cl)} (h : ∀ l ∈ ls, FewC l) : lenSS ls ≤ 5 * ls.length := by
  induction ls with
  | nil => simp [lenSS]
  | cons a t ih =>
    have h1 := (h a (by simp)).2.2
    have h2 := ih (fun l hl => h l (by simp [hl]))
    simp only [lenSS, List.flatten_cons, List.length_append, List.length_cons] at h2 ⊢
    omega
theorem listR_yes {ls : List (List Cl)} (h : listOK ls = true) : (∀ l ∈ ls, okV l = true) ∧ okV (listV ls) = true ∧ listR ls = listV ls := by
  have h' := h
  rw [listOK, Bool.and_eq_true, List.all_eq_true] at h'
  exact ⟨h'.1, h'.2, by rw [listR, if_pos h]⟩

set_option maxRecDepth 100000 in
set_option maxHeartbeats 4000000 in
theorem fnListValue_core (a0 : Option Addr) (len0 cap0 : Nat) (w : World) (hrow : CodeRow w a0 len0 cap0) (htab : Tab w) :
    Calls Tryz.prog 6 #[.slice a0 len0 cap0] w fun e w' => e = .returned (.bool true) ∧ Below w.heap.size w w' := by
  have hcap := hrow.1; have hmx := hrow.2.1
  unfold maxLen at hmx
  by_cases hl : len0 ≤ 1048576
  · go_enter Tryz.func6, Tryz.ntmps6
    go_wp2_with fail
    refine (drawListValue_any a0 len0 cap0 _ hrow).mono ?_
    rintro e w1 ⟨v, ls, rfl, hr, hf, hl9, hb⟩
    have HB := Lib.hid hb; have HR1 := Lib.hid hr
    have HSH := Lib.hid (show ∀ l ∈ ls, ShortC l from fun l hl c hc => by have := (hf l hl).1 c hc; omega)
    have hlen := few_len hf
    have hl1 : ls.length + lenSS ls ≤ 1048576 := by omega
    clear hb hrow hr hf hlen
    obtain ⟨ao, cp, rfl, q1, q2, -⟩ := HR1.out
    unfold maxLen at q2
    go_wp2_with fail
    refine (listValue_impl _ ls _ HR1.out HSH.out (htab.keep HB.out)).mono ?_
    rintro e w2 ⟨v2, rfl, ho2, hb2⟩
    have HB2 := Lib.hid (HB.out.trans (hb2.mono HB.out.size)); have HR2 := Lib.hid (HR1.out.mono hb2); have HO2 := Lib.hid ho2; clear hb2 HB ho2
    go_wp2_with fail
    refine (listValue_spec _ ls _ HR2.out HSH.out hl1).mono ?_
    rintro e w3 ⟨v3, rfl, ho3, hb3⟩
    have HB3 := Lib.hid (HB2.out.trans (hb3.mono HB2.out.size)); have HR3 := Lib.hid (HR2.out.mono hb3); have HX2 := Lib.hid ((RowC.of_own HO2.out).1.mono hb3); have HX3 := Lib.hid (RowC.of_own ho3).1; clear hb3 ho3 HB2 HR2
    have HO3 := Lib.hid (own_shape HO2.out)
    go_wp2_with fail
    refine (sameCells_same _ _ _ _ HX2.out HX3.out).mono ?_
    rintro e w4 ⟨rfl, hb4⟩
    have HB4 := Lib.hid (HB3.out.trans (hb4.mono HB3.out.size)); have HR4 := Lib.hid (HR3.out.mono hb4); have HX4 := Lib.hid (HX2.out.mono hb4); clear hb4 HB3 HR3 HX2 HX3
    obtain ⟨a2, c2, rfl⟩ := HO3.out
    cases hok : listOK ls with
    | false =>
      have HE := Lib.hid (show listR ls = [] by rw [listR, hok]; rfl)
      clear hok
      go_wp2_with fail
      refine (alive_any _).mono ?_
      rintro e w' ⟨rfl, rfl⟩
      go_wp2
      go_ret
      exact ⟨rfl, HB4.out⟩
    | true =>
      obtain ⟨h1, h2, h3⟩ := listR_yes hok
      have HPV := Lib.hid (show partsV (listR ls) = ls by rw [h3]; exact parts_listV h1 h2)
      have HSL := Lib.hid (show ShortC (listR ls) by rw [h3]; exact okV_short h2)
      have HV := Lib.hid (show okV (listR ls) = true by rw [h3]; exact h2)
      clear hok h1 h2 h3
      go_wp2_with fail
      refine (valueValid_impl _ _ _ HX4.out HSL.out (htab.keep HB4.out)).mono ?_
      rintro e w5 ⟨rfl, hb5⟩
      rw [HV.out]
      have HB5 := Lib.hid (HB4.out.trans (hb5.mono HB4.out.size)); have HR5 := Lib.hid (HR4.out.mono hb5); have HX5 := Lib.hid (HX4.out.mono hb5); clear hb5 HB4 HR4 HX4
      go_wp2_with fail
      refine (valueParts_impl _ _ _ HX5.out HSL.out (htab.keep HB5.out)).mono ?_
      rintro e w6 ⟨v6, us6, rfl, ho6, hb6⟩
      have HB6 := Lib.hid (HB5.out.trans (hb6.mono HB5.out.size)); have HR6 := Lib.hid (HR5.out.mono hb6)
      have HX6 := Lib.hid (show RowLs w6 v6 ls by have := ho6.reads; rwa [HPV.out] at this)
      clear hb6 ho6
      go_wp2_with fail
      refine (sameLists_same _ _ ls _ HX6.out HR6.out).mono ?_
      rintro e w7 ⟨rfl, hb7⟩
      have HB7 := Lib.hid (HB6.out.trans (hb7.mono HB6.out.size)); clear hb7
      go_wp2
      go_ret
      exact ⟨rfl, HB7.out⟩
  · go_enter Tryz.func6, Tryz.ntmps6
    go_wp2
    go_ret
    exact ⟨rfl, Below.refl _ _⟩

end Go.Proofs.YtbnchmlapimmdaaGreatDoor
