/-
  The walk of laws.FnReverseLength.
-/
import Derived.Test.YtipmkbahlfkfoaaGreatDoorCallW
import Derived.Test.YtipmkbahlfkfoaaGreatDoorSameLists
import Derived.Test.YtipmkbahlfkfoaaGreatDoorPartsI
import Derived.Test.YtipmkbahlfkfoaaGreatDoorPartsS
import Derived.Test.YtipmkbahlfkfoaaGreatDoorDrawVP
namespace Go.Proofs.YtipmkbahlfkfoaaGreatDoor
open Go.RowKit
set_option linter.unusedVariables false

theorem callRR_valL {nm : ByteArray} {ls : List (List Cl)} {r : List Cl} (hok : ∀ l ∈ ls, okV l = true) (h : callF nm ls = some r) : callRK nm ls = true ∧ callRR nm ls = r := by
  obtain ⟨h1, h2⟩ := callRK_yes (nm := nm) hok
  rw [h1, h2, callOK, callR, h]
  exact ⟨rfl, rfl⟩
theorem one_okL {P : List Cl → Prop} {r : List Cl} (h : P r) : ∀ l ∈ [r], P l := by
  intro l hl; rw [List.mem_singleton] at hl; subst hl; exact h
theorem partsV_some {l : List Cl} (h : partsV l ≠ []) : okV l = true ∧ kdV l = 5 := by
  unfold partsV at h
  split at h
  · rename_i k
    obtain ⟨hok, c, t, rfl, h5⟩ := k
    exact ⟨hok, h5⟩
  · exact absurd rfl h

set_option maxRecDepth 100000 in
set_option maxHeartbeats 8000000 in
theorem fnReverseLength_core (a0 : Option Addr) (len0 cap0 : Nat) (w : World) (hrow : CodeRow w a0 len0 cap0) (htab : Tab w) :
    Calls Tryz.prog 5 #[.slice a0 len0 cap0] w fun e w' => e = .returned (.bool true) ∧ Below w.heap.size w w' := by
  have hcap := hrow.1; have hmx := hrow.2.1
  unfold maxLen at hmx
  by_cases hl : len0 ≤ 1048576
  · go_enter Tryz.func5, Tryz.ntmps5
    go_wp2_with fail
    refine (drawValueParts_any a0 len0 cap0 _ hrow).mono ?_
    rintro e w1 ⟨v, l, rfl, hr, hs, hl1, hl14, -, hb⟩
    have HB := Lib.hid hb; have HR1 := Lib.hid hr; have HSH := Lib.hid (show ShortC l from fun c hc => by have := hs c hc; omega)
    clear hb hrow hr hs
    obtain ⟨ao, cp, rfl, q1, q2, -⟩ := HR1.out
    unfold maxLen at q2
    go_wp2_with fail
    refine (valueParts_impl _ l _ HR1.out HSH.out (htab.keep HB.out)).mono ?_
    rintro e w2 ⟨v2, us2, rfl, ho2, hb2⟩
    have HB2 := Lib.hid (HB.out.trans (hb2.mono HB.out.size)); have HR2 := Lib.hid (HR1.out.mono hb2); have HP2 := Lib.hid ho2.reads; clear hb2 HB HR1 ho2
    go_wp2_with fail
    refine (valueParts_spec _ l _ HR2.out HSH.out (by omega)).mono ?_
    rintro e w3 ⟨v3, us3, rfl, ho3, hb3⟩
    have HB3 := Lib.hid (HB2.out.trans (hb3.mono HB2.out.size)); have HR3 := Lib.hid (HR2.out.mono hb3); have HP3 := Lib.hid (HP2.out.mono hb3); have HQ3 := Lib.hid ho3.reads; clear hb3 ho3 HB2 HR2 HP2
    go_wp2_with fail
    refine (sameLists_same _ _ _ _ HP3.out HQ3.out).mono ?_
    rintro e w4 ⟨rfl, hb4⟩
    have HB4 := Lib.hid (HB3.out.trans (hb4.mono HB3.out.size)); have HR4 := Lib.hid (HR3.out.mono hb4); have HP4 := Lib.hid (HP3.out.mono hb4); clear hb4 HB3 HR3 HP3 HQ3
    obtain ⟨ap, cpp, rfl, p1, p2, p3⟩ := HP4.out
    have HP3 := Lib.hid p3
    unfold maxLen at p2
    clear p3
    by_cases hne : partsV l = []
    · rw [hne] at HP4 p1 ⊢
      clear hne HP3
      go_wp2_with fail
      refine (alive_any _).mono ?_
      rintro e w' ⟨rfl, rfl⟩
      go_wp2
      go_ret
      exact ⟨rfl, HB4.out⟩
    · obtain ⟨hok, h5⟩ := partsV_some hne
      obtain ⟨q, n, e1, hq, e2, e3, e4, hn0, hn8⟩ := rev_len hok h5 hne
      obtain ⟨k1, k2⟩ := callRR_valL (one_okL (P := fun l => okV l = true) hok) e1
      obtain ⟨k3, k4⟩ := callRR_valL (one_okL (P := fun l => okV l = true) hok) e2
      obtain ⟨k5, k6⟩ := callRR_valL (one_okL (P := fun l => okV l = true) hq) e3
      have hlast : ∃ z, (partsV l).getLast? = some z := by
        cases h : (partsV l).getLast? with
        | none => exact absurd (List.getLast?_eq_none_iff.mp h) hne
        | some z => exact ⟨z, rfl⟩
      obtain ⟨z, hz⟩ := hlast
      rw [hz] at e4
      obtain ⟨k7, k8⟩ := callRR_valL (one_okL (P := fun l => okV l = true) hq) e4
      have hp0 : 0 < (partsV l).length := List.length_pos_iff.mpr hne
      have hzi : (partsV l)[(partsV l).length - 1]'(by omega) = z := by
        rw [List.getLast?_eq_getElem?, List.getElem?_eq_getElem (by omega)] at hz
        exact Option.some.inj hz
      obtain ⟨bb, oo, rfl, hbl, cc⟩ := HP3.out.resolve_left hne
      obtain ⟨u, cu, hru⟩ := cc ((partsV l).length - 1) (by omega)
      rw [hzi] at hru
      have HRU := Lib.hid hru
      have HK1 := Lib.hid k1; have HK2 := Lib.hid k2; have HK3 := Lib.hid k3; have HK4 := Lib.hid k4
      have HK5 := Lib.hid k5; have HK6 := Lib.hid k6; have HK7 := Lib.hid k7; have HK8 := Lib.hid k8
      have HSL := Lib.hid (one_okL (P := ShortC) HSH.out); have HSQ := Lib.hid (one_okL (P := ShortC) (okV_short hq))
      have HLT := Lib.hid (RowLs_lit1 HR4.out)
      have HB4a := Lib.hid (HB4.out.alloc HB4.out.size (.cells #[.slice ao l.length cp] 24))
      have HTB := Lib.hid (htab.keep HB4a.out)
      obtain ⟨pl, hpl⟩ : ∃ pl, pl = (partsV l).length - 1 := ⟨_, rfl⟩
      rw [← hpl] at cu
      have hplI : ((partsV l).length : Int) - 1 = (pl : Int) := by omega
      have hplN : pl < (partsV l).length := by omega
      have CU := Lib.hid cu
      clear hok h5 e1 e2 e3 e4 hz hzi k1 k2 k3 k4 k5 k6 k7 k8 cc hru HP3 cu hq
      generalize (partsV l).length = pn at hp0 hplI hplN hpl HP4 p1 ⊢
      clear hpl
      go_wp2_with fail
      refine (callFunction_impl nmReverse _ [l] _ (by decide) HLT.out HSL.out (by simp) HTB.out).mono ?_
      rintro e w5 ⟨v5, rfl, ho5, hb5⟩
      rw [HK1.out]
      have HX5 := Lib.hid (show RowC w5 v5 q by have := (RowC.of_own ho5).1; rwa [HK2.out] at this)
      obtain ⟨a5, c5, hv5, -⟩ := HX5.out
      subst hv5
      have HR5 := Lib.hid ((HR4.out.al _).mono hb5); have HU5 := Lib.hid ((HRU.out.al (.cells #[.slice ao l.length cp] 24)).mono hb5)
      have C5 := Lib.hid ((hb5.cell (p := ⟨bb, oo + pl, none⟩) (by simp; omega)).trans (((Below.refl w4.heap.size w4).alloc (Nat.le_refl _) (.cells #[.slice ao l.length cp] 24)).cell (p := ⟨bb, oo + pl, none⟩) hbl |>.trans CU.out))
      have hz5 : w4.heap.size ≤ w5.heap.size := by have := hb5.size; simp at this; omega
      have HB5 := Lib.hid (HB4a.out.trans (hb5.mono HB4a.out.size)); clear hb5 ho5
      have HLT5 := Lib.hid (RowLs_lit1 HR5.out)
      have HB5a := Lib.hid (HB5.out.alloc HB5.out.size (.cells #[.slice ao l.length cp] 24))
      have HTB5 := Lib.hid (htab.keep HB5a.out)
      go_wp2_with fail
      refine (callFunction_impl nmLength _ [l] _ (by decide) HLT5.out HSL.out (by simp) HTB5.out).mono ?_
      rintro e w6 ⟨v6, rfl, ho6, hb6⟩
      rw [HK3.out]
      have HX6 := Lib.hid (show RowC w6 v6 (numV n 1) by have := (RowC.of_own ho6).1; rwa [HK4.out] at this)
      have HQ6 := Lib.hid ((HX5.out.al _).mono hb6); have HU6 := Lib.hid ((HU5.out.al (.cells #[.slice ao l.length cp] 24)).mono hb6)
      have C6 := Lib.hid ((hb6.cell (p := ⟨bb, oo + pl, none⟩) (by simp; omega)).trans (((Below.refl w5.heap.size w5).alloc (Nat.le_refl _) (.cells #[.slice ao l.length cp] 24)).cell (p := ⟨bb, oo + pl, none⟩) (by simp; omega) |>.trans C5.out))
      have hz6 : w5.heap.size ≤ w6.heap.size := by have := hb6.size; simp at this; omega
      have HB6 := Lib.hid (HB5a.out.trans (hb6.mono HB5a.out.size)); clear hb6 ho6
      have HLT6 := Lib.hid (RowLs_lit1 HQ6.out)
      have HB6a := Lib.hid (HB6.out.alloc HB6.out.size (.cells #[.slice a5 q.length c5] 24))
      have HTB6 := Lib.hid (htab.keep HB6a.out)
      go_wp2_with fail
      refine (callFunction_impl nmLength _ [q] _ (by decide) HLT6.out HSQ.out (by simp) HTB6.out).mono ?_
      rintro e w7 ⟨v7, rfl, ho7, hb7⟩
      rw [HK5.out]
      have HX7 := Lib.hid (show RowC w7 v7 (numV n 1) by have := (RowC.of_own ho7).1; rwa [HK6.out] at this)
      have HQ7 := Lib.hid ((HQ6.out.al (.cells #[.slice a5 q.length c5] 24)).mono hb7); have HN7 := Lib.hid ((HX6.out.al (.cells #[.slice a5 q.length c5] 24)).mono hb7); have HU7 := Lib.hid ((HU6.out.al (.cells #[.slice a5 q.length c5] 24)).mono hb7)
      have C7 := Lib.hid ((hb7.cell (p := ⟨bb, oo + pl, none⟩) (by simp; omega)).trans (((Below.refl w6.heap.size w6).alloc (Nat.le_refl _) (.cells #[.slice a5 q.length c5] 24)).cell (p := ⟨bb, oo + pl, none⟩) (by simp; omega) |>.trans C6.out))
      have hz7 : w6.heap.size ≤ w7.heap.size := by have := hb7.size; simp at this; omega
      have HB7 := Lib.hid (HB6a.out.trans (hb7.mono HB6a.out.size)); clear hb7 ho7
      have HLT7 := Lib.hid (RowLs_lit1 HQ7.out)
      have HB7a := Lib.hid (HB7.out.alloc HB7.out.size (.cells #[.slice a5 q.length c5] 24))
      have HTB7 := Lib.hid (htab.keep HB7a.out)
      go_wp2_with fail
      refine (callFunction_impl nmFirst _ [q] _ (by decide) HLT7.out HSQ.out (by simp) HTB7.out).mono ?_
      rintro e w8 ⟨v8, rfl, ho8, hb8⟩
      rw [HK7.out]
      have HX8 := Lib.hid (show RowC w8 v8 z by have := (RowC.of_own ho8).1; rwa [HK8.out] at this)
      have HA8 := Lib.hid ((HN7.out.al (.cells #[.slice a5 q.length c5] 24)).mono hb8); have HC8 := Lib.hid ((HX7.out.al (.cells #[.slice a5 q.length c5] 24)).mono hb8); have HU8 := Lib.hid ((HU7.out.al (.cells #[.slice a5 q.length c5] 24)).mono hb8)
      have C8 := Lib.hid ((hb8.cell (p := ⟨bb, oo + pl, none⟩) (by simp; omega)).trans (((Below.refl w7.heap.size w7).alloc (Nat.le_refl _) (.cells #[.slice a5 q.length c5] 24)).cell (p := ⟨bb, oo + pl, none⟩) (by simp; omega) |>.trans C7.out))
      have hz8 : w7.heap.size ≤ w8.heap.size := by have := hb8.size; simp at this; omega
      have HB8 := Lib.hid (HB7a.out.trans (hb8.mono HB7a.out.size)); clear hb8 ho8
      go_wp2_with fail
      refine (sameCells_same _ _ _ _ HA8.out HC8.out).mono ?_
      rintro e w9 ⟨rfl, hb9⟩
      have d9 : w9.cell? ⟨bb, oo + pl, none⟩ = some u := (hb9.cell (p := ⟨bb, oo + pl, none⟩) (by simp; omega)).trans C8.out
      have HX9 := Lib.hid (HX8.out.mono hb9); have HU9 := Lib.hid (HU8.out.mono hb9)
      have HB9 := Lib.hid (HB8.out.trans (hb9.mono HB8.out.size)); clear hb9
      go_wp2_with fail
      refine (sameCells_same _ _ _ _ HX9.out HU9.out).mono ?_
      rintro e w10 ⟨rfl, hb10⟩
      have HB10 := Lib.hid (HB9.out.trans (hb10.mono HB9.out.size)); clear hb10
      go_wp2
      go_ret
      exact ⟨rfl, HB10.out⟩
  · go_enter Tryz.func5, Tryz.ntmps5
    go_wp2
    go_ret
    exact ⟨rfl, Below.refl _ _⟩

end Go.Proofs.YtipmkbahlfkfoaaGreatDoor
