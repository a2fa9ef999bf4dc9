/-
  The walk of laws.FnValueParts.
-/
import Derived.Test.YtbnchmlapimmdaaGreatDoorBaseD
import Derived.Test.YtbnchmlapimmdaaGreatDoorListI
import Derived.Test.YtbnchmlapimmdaaGreatDoorPartsI
import Derived.Test.YtbnchmlapimmdaaGreatDoorPartsS
import Derived.Test.YtbnchmlapimmdaaGreatDoorSameLists
namespace Go.Proofs.YtbnchmlapimmdaaGreatDoor
open Go.RowKit
set_option linter.unusedVariables false

theorem partsV_short {l : List Cl} (h : okV l = true) : ∀ p ∈ partsV l, ShortC p := by
  intro p hp
  by_cases hh : okV l = true ∧ ∃ c t, l = c :: t ∧ c.1 = 5
  · obtain ⟨hok, c, t, hl, h5⟩ := hh
    exact okV_short ((list_partsV hok hl h5).2.1 p hp)
  · have : partsV l = [] := by rw [partsV, if_neg hh]
    rw [this] at hp; cases hp

set_option maxRecDepth 100000 in
set_option maxHeartbeats 4000000 in
theorem fnValueParts_core (a0 : Option Addr) (len0 cap0 : Nat) (w : World) (hrow : CodeRow w a0 len0 cap0) (htab : Tab w) :
    Calls Tryz.prog 5 #[.slice a0 len0 cap0] w fun e w' => e = .returned (.bool true) ∧ Below w.heap.size w w' := by
  have hcap := hrow.1; have hmx := hrow.2.1
  unfold maxLen at hmx
  by_cases hl : len0 ≤ 1048576
  · go_enter Tryz.func5, Tryz.ntmps5
    go_wp2_with fail
    refine (drawValueParts_any a0 len0 cap0 _ hrow).mono ?_
    rintro e w1 ⟨v, l, rfl, hr, hs, hl1, hl14, -, hb⟩
    have HB := Lib.hid hb; have HR1 := Lib.hid hr; have HSH := Lib.hid (show ShortC l from fun c hc => by have := hs c hc; omega)
    clear hb hrow hr hs
    obtain ⟨ao, cp, rfl, q1, q2, -⟩ := HR1.out
    unfold maxLen at q2
    go_wp2_with fail
    refine (valueParts_impl _ l _ HR1.out HSH.out (htab.keep HB.out)).mono ?_
    rintro e w2 ⟨v2, us2, rfl, ho2, hb2⟩
    have HB2 := Lib.hid (HB.out.trans (hb2.mono HB.out.size)); have HR2 := Lib.hid (HR1.out.mono hb2); have HX2 := Lib.hid ho2.reads; clear hb2 HB ho2 HR1
    go_wp2_with fail
    refine (valueParts_spec _ l _ HR2.out HSH.out (by omega)).mono ?_
    rintro e w3 ⟨v3, us3, rfl, ho3, hb3⟩
    have HB3 := Lib.hid (HB2.out.trans (hb3.mono HB2.out.size)); have HR3 := Lib.hid (HR2.out.mono hb3); have HX3 := Lib.hid (HX2.out.mono hb3); have HY3 := Lib.hid ho3.reads; clear hb3 ho3 HB2 HR2 HX2
    obtain ⟨a2, c2, hv2, p1, p2, -⟩ := HX3.out
    subst hv2
    unfold maxLen at p2
    go_wp2_with fail
    refine (sameLists_same _ _ _ _ HX3.out HY3.out).mono ?_
    rintro e w4 ⟨rfl, hb4⟩
    have HB4 := Lib.hid (HB3.out.trans (hb4.mono HB3.out.size)); have HR4 := Lib.hid (HR3.out.mono hb4); have HX4 := Lib.hid (HX3.out.mono hb4); clear hb4 HB3 HR3 HX3 HY3
    go_wp2_with fail
    refine (valueValid_spec _ l _ HR4.out HSH.out (by omega)).mono ?_
    rintro e w5 ⟨rfl, hb5⟩
    have HB5 := Lib.hid (HB4.out.trans (hb5.mono HB4.out.size)); have HR5 := Lib.hid (HR4.out.mono hb5); have HX5 := Lib.hid (HX4.out.mono hb5); clear hb5 HB4 HR4 HX4
    have HR5c := HR5.out
    obtain ⟨ao', cp', hv, -, -, h3⟩ := HR5c
    simp only [Value.slice.injEq] at hv
    obtain ⟨rfl, -, rfl⟩ := hv
    obtain ⟨b, o, rfl, hbl, cc⟩ := h3.resolve_left (by rintro rfl; simp at hl1)
    obtain ⟨d0, d1, d2⟩ := cc 0 hl1
    rw [Nat.zero_mul, Nat.add_zero] at d0 d1 d2
    cases hok : okV l with
    | false =>
      have HE := Lib.hid (show (partsV l).length = 0 by rw [partsV, if_neg (by rintro ⟨h, -⟩; rw [hok] at h; cases h)]; rfl)
      have he := HE.out
      clear hok cc h3
      go_wp2_with fail
      refine (alive_any _).mono ?_
      rintro e w' ⟨rfl, rfl⟩
      go_wp2
      go_ret
      exact ⟨rfl, HB5.out⟩
    | true =>
      by_cases h5 : l[0].1 = 5
      · obtain ⟨c, t, hl0⟩ : ∃ c t, l = c :: t := by cases l with | nil => simp at hl1 | cons a t => exact ⟨a, t, rfl⟩
        have hc5 : c.1 = 5 := by subst hl0; simpa using h5
        obtain ⟨k1, k2, k3⟩ := list_partsV hok hl0 hc5
        have hm : l[0].2.2 = ((partsV l).length : Int) := by subst hl0; rw [k3]; rfl
        have HSP := Lib.hid (partsV_short hok)
        obtain ⟨y1, y2⟩ := listOK_yes k2 (by rw [k1]; exact hok)
        have HY1 := Lib.hid y1; have HY2 := Lib.hid (y2.trans k1)
        rw [h5] at d0
        rw [hm] at d2
        clear hok k1 k2 k3 hl0 hc5 hm y1 y2 h3 cc h5
        go_wp2_with fail
        refine (listValue_impl _ _ _ HX5.out HSP.out (htab.keep HB5.out)).mono ?_
        rintro e w6 ⟨v6, rfl, ho6, hb6⟩
        rw [HY1.out]
        have HB6 := Lib.hid (HB5.out.trans (hb6.mono HB5.out.size)); have HR6 := Lib.hid (HR5.out.mono hb6)
        have HX6 := Lib.hid (show RowC w6 v6 l by have := (RowC.of_own ho6).1; rwa [HY2.out] at this)
        have e2 := (hb6.cell (p := ⟨b, o + 2, none⟩) hbl).trans d2
        have hbl6 : b < w6.heap.size := by have := hb6.size; omega
        clear hb6 ho6 d0 d1 d2
        go_wp2_with fail
        refine (sameCells_same _ _ l _ HX6.out HR6.out).mono ?_
        rintro e w7 ⟨rfl, hb7⟩
        have HB7 := Lib.hid (HB6.out.trans (hb7.mono HB6.out.size))
        have e3 := (hb7.cell (p := ⟨b, o + 2, none⟩) hbl6).trans e2
        clear hb7
        go_wp2
        go_ret
        exact ⟨rfl, HB7.out⟩
      · have he : (partsV l).length = 0 := by
          rw [partsV, if_neg]
          · rfl
          · rintro ⟨-, c, t, hl0, hc5⟩
            subst hl0
            exact h5 (by simpa using hc5)
        have hne : (l[0].1 != 5) = true := bne_iff_ne.mpr h5
        generalize l[0].1 = kk at d0 hne
        clear hok cc h3 h5
        go_wp2_with fail
        refine (alive_any _).mono ?_
        rintro e w' ⟨rfl, rfl⟩
        go_wp2
        go_ret
        exact ⟨rfl, HB5.out⟩
  · go_enter Tryz.func5, Tryz.ntmps5
    go_wp2
    go_ret
    exact ⟨rfl, Below.refl _ _⟩

end Go.Proofs.YtbnchmlapimmdaaGreatDoor
