/-
  The walk of laws.FnItemValid.
-/
import Derived.Test.YtbmobgahokehmaaGreatDoorDrawItemValid
import Derived.Test.YtbmobgahokehmaaGreatDoorItemI
import Derived.Test.YtbmobgahokehmaaGreatDoorItemS
import Derived.Test.YtbmobgahokehmaaGreatDoorBaseD
namespace Go.Proofs.YtbmobgahokehmaaGreatDoor
open Go.RowKit
set_option linter.unusedVariables false

set_option maxRecDepth 100000 in
set_option maxHeartbeats 8000000 in
theorem fnItemValid_core (a0 : Option Addr) (len0 cap0 : Nat) (w : World) (hrow : CodeRow w a0 len0 cap0) (htab : Tab w) :
    Calls Tryz.prog 3 #[.slice a0 len0 cap0] w fun e w' => e = .returned (.bool true) ∧ Below w.heap.size w w' := by
  have hcap := hrow.1; have hmx := hrow.2.1
  unfold maxLen at hmx
  by_cases hl : len0 ≤ 1048576
  · have HD := Lib.hid (drawItemValid_any a0 len0 cap0 w hrow); have HT := Lib.hid htab
    clear hrow htab
    go_enter Tryz.func3, Tryz.ntmps3
    go_wp2_with fail
    refine HD.out.mono ?_
    rintro e w1 ⟨i, au, c, rfl, hr1, hf, hb1⟩
    obtain ⟨k, nm, l, t⟩ := i
    obtain ⟨f1, f2, f3, f4⟩ := hf
    simp only at f1 f2 f3 f4 hr1 ⊢
    have HB1 := Lib.hid (hb1.alloc hb1.size (.cells #[.int .i64 k, .string nm, .slice au l.length c, .string t] 25))
    have HR1 := Lib.hid (hr1.al (.cells #[.int .i64 k, .string nm, .slice au l.length c, .string t] 25))
    have HX1 := Lib.hid (It4.new w1 (.int .i64 k) (.string nm) (.slice au l.length c) (.string t) 25)
    have HSH := Lib.hid (show ShortC l from fun c hc => by have := f2 c hc; omega)
    have HSZ := Lib.hid (show SizedC l from fun c hc => by have := f2 c hc; unfold maxLen; omega)
    have HI := Lib.hid (fun (k : Int) (w' : World) (h : RowC w' (.slice au l.length c) l) (ht : Tab w') => itemValid_impl (k, nm, l, t) (.slice au l.length c) w' h (by unfold maxLen; show nm.size ≤ _; omega) HSZ.out (by unfold maxLen; show t.size ≤ _; omega) ht)
    have HS := Lib.hid (fun (w' : World) (h : RowC w' (.slice au l.length c) l) => itemValid_spec (k, nm, l, t) (.slice au l.length c) w' h (by unfold maxLen; show nm.size ≤ _; omega) HSH.out (by show l.length ≤ _; omega) (by unfold maxLen; show t.size ≤ _; omega))
    have HA := Lib.hid (fun (w' : World) (ht : Tab w') => itemValid_impl (1, ⟨#[97]⟩, [], ⟨#[]⟩) (.slice none 0 0) w' ⟨none, 0, rfl, Nat.le_refl _, by unfold maxLen; omega, .inl rfl⟩ (by decide) (fun c hc => by cases hc) (by decide) ht)
    have H6 := Lib.hid (show itemB (6, nm, l, t) = false from item_6 (k, nm, l, t))
    have H1 := Lib.hid (show itemB ((1 : Int), (⟨#[97]⟩ : ByteArray), ([] : List Cl), (⟨#[]⟩ : ByteArray)) = false from item_1 _ _ _ (by decide))
    clear hr1 hb1 f1 f2 f3 f4
    go_wp2_with fail
    refine (HI.out k _ HR1.out (HT.out.keep HB1.out)).mono ?_
    rintro e w2 ⟨rfl, hb2⟩
    have HB2 := Lib.hid (HB1.out.trans (hb2.mono HB1.out.size)); have HR2 := Lib.hid (HR1.out.mono hb2); have HX2 := Lib.hid (HX1.out.keep hb2)
    obtain ⟨⟨x0, x1, x2, x3⟩, -⟩ := HX2.out
    clear hb2
    go_wp2_with fail
    refine (HS.out _ HR2.out).mono ?_
    rintro e w3 ⟨rfl, hb3⟩
    have HB3 := Lib.hid (HB2.out.trans (hb3.mono HB2.out.size)); have HR3 := Lib.hid (HR2.out.mono hb3); have HX3 := Lib.hid (HX2.out.keep hb3)
    clear x0 x1 x2 x3
    obtain ⟨⟨x0, x1, x2, x3⟩, -⟩ := HX3.out
    have HB4 := Lib.hid (HB3.out.alloc HB3.out.size (.cells #[.int .i64 6, .string nm, .slice au l.length c, .string t] 25))
    clear hb3
    generalize itemB (k, nm, l, t) = ok
    cases ok
    all_goals
      go_wp2_with fail
      refine (HI.out 6 _ (HR3.out.al _) (HT.out.keep HB4.out)).mono ?_
      rintro e w5 ⟨rfl, hb5⟩
      rw [H6.out]
      have HB5 := Lib.hid (HB4.out.trans (hb5.mono HB4.out.size)); clear hb5
      go_wp2_with fail
      refine (HA.out _ (HT.out.keep HB5.out)).mono ?_
      rintro e w6 ⟨rfl, hb6⟩
      rw [H1.out]
      have HB6 := Lib.hid (HB5.out.trans (hb6.mono HB5.out.size)); clear hb6
      go_wp2_with fail
      refine (alive_any _).mono ?_
      rintro e w' ⟨rfl, rfl⟩
      go_wp2
      go_ret
      exact ⟨rfl, HB6.out⟩
  · go_enter Tryz.func3, Tryz.ntmps3
    go_wp2
    go_ret
    exact ⟨rfl, Below.refl _ _⟩

end Go.Proofs.YtbmobgahokehmaaGreatDoor
