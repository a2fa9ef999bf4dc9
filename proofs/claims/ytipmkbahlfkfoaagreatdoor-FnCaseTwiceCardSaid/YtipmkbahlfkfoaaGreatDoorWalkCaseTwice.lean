/-
  The walk of laws.FnCaseTwice.
-/
import Derived.Test.YtipmkbahlfkfoaaGreatDoorCallW
namespace Go.Proofs.YtipmkbahlfkfoaaGreatDoor
open Go.RowKit
set_option linter.unusedVariables false

theorem callRR_valU {nm : ByteArray} {ls : List (List Cl)} {r : List Cl} (hok : ∀ l ∈ ls, okV l = true) (h : callF nm ls = some r) : callRK nm ls = true ∧ callRR nm ls = r := by
  obtain ⟨h1, h2⟩ := callRK_yes (nm := nm) hok
  rw [h1, h2, callOK, callR, h]
  exact ⟨rfl, rfl⟩
theorem one_okU {P : List Cl → Prop} {r : List Cl} (h : P r) : ∀ l ∈ [r], P l := by
  intro l hl; rw [List.mem_singleton] at hl; subst hl; exact h

set_option maxRecDepth 100000 in
set_option maxHeartbeats 8000000 in
theorem fnCaseTwice_core (a0 : Option Addr) (len0 cap0 : Nat) (w : World) (hrow : CodeRow w a0 len0 cap0) (htab : Tab w) :
    Calls Tryz.prog 6 #[.slice a0 len0 cap0] w fun e w' => e = .returned (.bool true) ∧ Below w.heap.size w w' := by
  have hcap := hrow.1; have hmx := hrow.2.1
  unfold maxLen at hmx
  by_cases hl : len0 ≤ 1048576
  · go_enter Tryz.func6, Tryz.ntmps6
    go_wp2_with fail
    refine (drawCallFunction_any a0 len0 cap0 _ hrow).mono ?_
    rintro e w1 ⟨nm, v, ls, rfl, hn8, hr, hf, hl9, hb⟩
    have HB := Lib.hid hb; have HR1 := Lib.hid hr
    have HSH := Lib.hid (show ∀ l ∈ ls, ShortC l from fun l hl c hc => by have := (hf l hl).1 c hc; omega)
    have hlen := few_len9 hf
    have hl1 : ls.length + lenSS ls ≤ 1048576 := by omega
    have hnz : nm.size ≤ 1048576 := by omega
    clear hb hrow hr hf hlen
    obtain ⟨ao, cp, rfl, q1, q2, -⟩ := HR1.out
    unfold maxLen at q2
    go_wp2_with fail
    refine (callFunction_impl nm _ ls _ hnz HR1.out HSH.out (by omega) (htab.keep HB.out)).mono ?_
    rintro e w2 ⟨v2, rfl, ho2, hb2⟩
    have HB2 := Lib.hid (HB.out.trans (hb2.mono HB.out.size)); have HR2 := Lib.hid (HR1.out.mono hb2); have HO2 := Lib.hid ho2; clear hb2 HB ho2
    go_wp2_with fail
    refine (callFunction_spec nm _ ls _ hnz HR2.out HSH.out hl1).mono ?_
    rintro e w3 ⟨v3, rfl, ho3, hb3⟩
    have HB3 := Lib.hid (HB2.out.trans (hb3.mono HB2.out.size)); have HX2 := Lib.hid ((RowC.of_own HO2.out).1.mono hb3); have HX3 := Lib.hid (RowC.of_own ho3).1; clear hb3 ho3 HB2 HR2
    have HO3 := Lib.hid (own_shape HO2.out)
    go_wp2_with fail
    refine (sameCells_same _ _ _ _ HX2.out HX3.out).mono ?_
    rintro e w4 ⟨rfl, hb4⟩
    have HB4 := Lib.hid (HB3.out.trans (hb4.mono HB3.out.size)); have HX4 := Lib.hid (HX2.out.mono hb4); clear hb4 HB3 HX2 HX3
    obtain ⟨a2, c2, rfl⟩ := HO3.out
    by_cases hcase : callRK nm ls = true ∧ nm = nmUpper
    · obtain ⟨hok, hnm⟩ := hcase
      have t1 : nm.toList = [117, 112, 112, 101, 114] := by rw [hnm]; decide +kernel
      obtain ⟨hF, hV⟩ := callRR_ok hok
      rw [hok]
      obtain ⟨r, hr⟩ : ∃ r, callRR nm ls = r := ⟨_, rfl⟩
      rw [hr] at hF hV HX4 ⊢
      rw [hnm] at hF
      obtain ⟨m, h1, hmo, h2⟩ := case_twice hF
      have HSR := Lib.hid (one_okU (P := ShortC) (okV_short hV)); have HSM := Lib.hid (one_okU (P := ShortC) (okV_short hmo))
      obtain ⟨k1, k2⟩ := callRR_valU (one_okU (P := fun l => okV l = true) hV) h1
      obtain ⟨k3, k4⟩ := callRR_valU (one_okU (P := fun l => okV l = true) hmo) h2
      have HK1 := Lib.hid k1; have HK2 := Lib.hid k2; have HK3 := Lib.hid k3; have HK4 := Lib.hid k4
      clear hok hnm hF hV hr HO2 HO3 h1 h2 hmo k1 k2 k3 k4
      have HLT := Lib.hid (RowLs_lit1 HX4.out)
      have HB4a := Lib.hid (HB4.out.alloc HB4.out.size (.cells #[.slice a2 r.length c2] 24))
      have HTB2 := Lib.hid (htab.keep HB4a.out)
      go_wp2_with fail
      refine (callFunction_impl nmLower _ [r] _ (by decide) HLT.out HSR.out (by simp) HTB2.out).mono ?_
      rintro e w5 ⟨v5, rfl, ho5, hb5⟩
      rw [HK1.out]
      have HX5 := Lib.hid (show RowC w5 v5 m by have := (RowC.of_own ho5).1; rwa [HK2.out] at this)
      obtain ⟨a5, c5, rfl⟩ := own_shape ho5
      rw [HK2.out] at HX5 ⊢
      have HR5 := Lib.hid ((HX4.out.al _).mono hb5)
      have HB5 := Lib.hid (HB4a.out.trans (hb5.mono HB4a.out.size)); clear hb5 ho5
      have HLT5 := Lib.hid (RowLs_lit1 HX5.out)
      have HB5a := Lib.hid (HB5.out.alloc HB5.out.size (.cells #[.slice a5 m.length c5] 24))
      have HTB5 := Lib.hid (htab.keep HB5a.out)
      go_wp2_with fail
      refine (callFunction_impl nmUpper _ [m] _ (by decide) HLT5.out HSM.out (by simp) HTB5.out).mono ?_
      rintro e w6 ⟨v6, rfl, ho6, hb6⟩
      rw [HK3.out]
      have HX6 := Lib.hid (show RowC w6 v6 r by have := (RowC.of_own ho6).1; rwa [HK4.out] at this)
      have HR6 := Lib.hid ((HR5.out.al _).mono hb6)
      have HB6 := Lib.hid (HB5a.out.trans (hb6.mono HB5a.out.size)); clear hb6 ho6
      go_wp2_with fail
      refine (sameCells_same _ _ r _ HX6.out HR6.out).mono ?_
      rintro e w7 ⟨rfl, hb7⟩
      have HB7 := Lib.hid (HB6.out.trans (hb7.mono HB6.out.size)); clear hb7
      go_wp2
      go_ret
      exact ⟨rfl, HB7.out⟩
    · clear HO2 HO3
      cases hok : callRK nm ls with
      | false =>
        clear hok hcase
        go_wp2_with fail
        refine (alive_any _).mono ?_
        rintro e w' ⟨rfl, rfl⟩
        go_wp2
        go_ret
        exact ⟨rfl, HB4.out⟩
      | true =>
        have t1 : ¬ nm.toList = [117, 112, 112, 101, 114] := toList_neW (fun e => hcase ⟨hok, e⟩)
        have t1b := beq_eq_false_iff_ne.mpr t1
        clear hok hcase
        go_wp2_with fail
        refine (alive_any _).mono ?_
        rintro e w' ⟨rfl, rfl⟩
        go_wp2
        go_ret
        exact ⟨rfl, HB4.out⟩
  · go_enter Tryz.func6, Tryz.ntmps6
    go_wp2
    go_ret
    exact ⟨rfl, Below.refl _ _⟩

end Go.Proofs.YtipmkbahlfkfoaaGreatDoor
