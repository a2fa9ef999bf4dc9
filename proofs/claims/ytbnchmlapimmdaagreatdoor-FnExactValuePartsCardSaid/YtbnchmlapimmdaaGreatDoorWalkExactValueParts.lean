/-
  The walk of laws.FnExactValueParts.
-/
import Derived.Test.YtbnchmlapimmdaaGreatDoorPartsI
import Derived.Test.YtbnchmlapimmdaaGreatDoorPartsS
import Derived.Test.YtbnchmlapimmdaaGreatDoorNestW
namespace Go.Proofs.YtbnchmlapimmdaaGreatDoor
open Go.RowKit
set_option linter.unusedVariables false

theorem own_belowX {w w1 : World} {base : Nat} {e : TypeId} {size n : Nat} {v : Value} {xs : List Value} (h : w.ownsRow base e size v n xs) (hb : Below w.heap.size w w1) : w1.ownsRow base e size v n xs :=
  own_belowS h hb
theorem partsV_len (l : List Cl) : (partsV l).length ≤ 60 ∧ lenSS (partsV l) ≤ 60 := by
  by_cases h : okV l = true ∧ ∃ c t, l = c :: t ∧ c.1 = 5
  · obtain ⟨hok, c, t, hl, h5⟩ := h
    have h60 := ((okV_iff l).mp hok).1
    obtain ⟨h1, h2, h3⟩ := list_partsV hok hl h5
    have hal := ((okV_iff l).mp hok).2.1
    rw [List.all_eq_true] at hal
    have h8 := (okM_many (okW_M (okVC_W (hal c (by rw [hl]; simp))))).2
    refine ⟨by omega, ?_⟩
    have := congrArg List.length h1
    simp only [listV, List.length_cons] at this
    simp only [lenSS]; omega
  · have : partsV l = [] := by rw [partsV, if_neg h]
    rw [this]; simp [lenSS]

set_option maxRecDepth 100000 in
set_option maxHeartbeats 8000000 in
theorem fnExactValueParts_core (a0 : Option Addr) (len0 cap0 : Nat) (l : List Cl) (w : World) (hrow : ArgRow w a0 len0 cap0 l) (htab : Tab w) :
    Calls Tryz.prog 9 #[.slice a0 len0 cap0] w fun e w' => e = .returned (.bool true) ∧ Below w.heap.size w w' := by
  obtain ⟨hlen, hr, hz⟩ := hrow
  have HR := Lib.hid hr; have HZ := Lib.hid hz
  clear hr hz
  go_enter Tryz.func9, Tryz.ntmps9
  go_wp2_with fail
  refine (szCellS_any _ l 1048576 _ HR.out HZ.out (by omega) (by omega)).mono ?_
  rintro e w1 ⟨⟨m, rfl, hm⟩, hb1⟩
  have HB1 := Lib.hid hb1; clear hb1
  by_cases hm0 : 0 ≤ m
  · obtain ⟨hl, hsh⟩ := hm hm0
    have HSH := Lib.hid (show ShortC l from fun c hc => by have := hsh c hc; omega)
    have hl' : l.length ≤ 1048576 := by omega
    clear hm hsh
    go_wp2_with fail
    refine (toCellS_any _ l _ (HR.out.mono HB1.out) hl').mono ?_
    rintro e w2 ⟨v2, rfl, ho2, hb2⟩
    have R2 := Lib.hid (RowC.of_own ho2).1; have HB2 := Lib.hid (HB1.out.trans (hb2.mono HB1.out.size)); clear ho2 hb2
    have HP := Lib.hid (partsV_len l)
    have CS := Lib.hid (valueParts_spec v2 l w2 R2.out HSH.out hl')
    have CI := Lib.hid (fun v w' hr ht => valueParts_impl v l w' hr HSH.out ht)
    have hPP : ∃ P, partsV l = P := ⟨_, rfl⟩
    obtain ⟨P, hP⟩ := hPP
    rw [hP] at HP CS CI
    obtain ⟨hp8, hp9⟩ := HP.out
    clear hP HP
    go_wp2_with fail
    refine CS.out.mono ?_
    rintro e w3 ⟨v3, us3, rfl, ho3, hb3⟩
    have W3 := Lib.hid ho3.reads; have HB3 := Lib.hid (HB2.out.trans (hb3.mono HB2.out.size)); clear ho3 hb3 CS
    go_wp2_with fail
    refine (toCellS_any _ l _ (HR.out.mono HB3.out) hl').mono ?_
    rintro e w4 ⟨v4, rfl, ho4, hb4⟩
    have O4 := Lib.hid ho4; have Y4 := Lib.hid hb4; have W4 := Lib.hid (W3.out.mono hb4); have HB4 := Lib.hid (HB3.out.trans (hb4.mono HB3.out.size)); clear ho4 hb4
    go_wp2_with fail
    refine (CI.out v4 _ (RowC.of_own O4.out).1 (htab.keep HB4.out)).mono ?_
    rintro e w5 ⟨v5, us5, rfl, ho5, hb5⟩
    have G5 := Lib.hid ho5; have O5 := Lib.hid (own_belowX O4.out hb5); have W5 := Lib.hid (W4.out.mono hb5)
    have HB5 := Lib.hid (HB4.out.trans (hb5.mono HB4.out.size)); have Y5 := Lib.hid hb5; clear ho5 hb5
    go_wp2_with fail
    refine (eqCellSS_same v5 v3 P _ G5.out.reads W5.out).mono ?_
    rintro e w6 ⟨rfl, hb6⟩
    have G6 := Lib.hid (G5.out.below hb6); have O6 := Lib.hid (own_belowX O5.out hb6); have W6 := Lib.hid (W5.out.mono hb6)
    have HB6 := Lib.hid (HB5.out.trans (hb6.mono HB5.out.size)); have Y6 := Lib.hid (Y5.out.trans (hb6.mono Y5.out.size)); clear hb6
    go_wp2_with fail
    refine (toCellS_any _ l _ (HR.out.mono HB6.out) hl').mono ?_
    rintro e w7 ⟨v7, rfl, ho7, hb7⟩
    have R7 := Lib.hid (RowC.of_own ho7).1
    have G7 := Lib.hid (G6.out.below hb7); have O7 := Lib.hid (own_belowX O6.out hb7); have W7 := Lib.hid (W6.out.mono hb7)
    have HB7 := Lib.hid (HB6.out.trans (hb7.mono HB6.out.size)); have Y7 := Lib.hid (Y6.out.trans (hb7.mono Y6.out.size)); clear ho7 hb7
    go_wp2_with fail
    refine (eqCellS_same _ _ l _ (RowC.of_own O7.out).1 R7.out).mono ?_
    rintro e w8 ⟨rfl, hb8⟩
    have G8 := Lib.hid (G7.out.below hb8); have O8 := Lib.hid (own_belowX O7.out hb8); have W8 := Lib.hid (W7.out.mono hb8)
    have HB8 := Lib.hid (HB7.out.trans (hb8.mono HB7.out.size))
    have X7 := Lib.hid (show Below w3.heap.size w3 w7 from Y4.out.trans ((show Below w4.heap.size w4 w7 from Y7.out).mono Y4.out.size)); have Y8 := Lib.hid hb8; clear hb8
    go_wp2_with fail
    refine (markCellS_full _ 1 v4 l _ (by omega) hl' O8.out).mono ?_
    rintro e w9 ⟨rfl, -, hg9⟩
    have X8 := Lib.hid (show Below w3.heap.size w3 w8 from X7.out.trans (Y8.out.mono X7.out.size))
    have X9 := Lib.hid (X8.out.grown hg9 X8.out.size (fun q hq => (O8.out.lt q hq).1))
    have W9 := Lib.hid (W3.out.mono X9.out)
    have G9 := Lib.hid (G8.out.keep (fun x hx hlt => hg9.block x hlt (fun he => by have := (O4.out.lt x he.symm).2; omega)))
    have HB9 := Lib.hid (HB8.out.grown hg9 HB8.out.size (fun q hq => by have h1 := (O8.out.lt q hq).1; have := HB3.out.size; omega))
    have HSZ9 := Lib.hid hg9.size
    clear hg9 X8 W8 G8 O8 HB8
    generalize hn3 : ((1 + l.length * 3 : Nat) : Int) = n3
    have hn30 : 0 ≤ n3 := by omega
    clear hn3
    go_wp2_with fail
    refine (eqCellSS_same v5 v3 P _ G9.out.reads W9.out).mono ?_
    rintro e w10 ⟨rfl, hb10⟩
    have G10 := Lib.hid (G9.out.below hb10); have X10 := Lib.hid (X9.out.trans (hb10.mono X9.out.size))
    have HB10 := Lib.hid (HB9.out.trans (hb10.mono HB9.out.size)); have HSZ10 := Lib.hid hb10.size; clear hb10
    go_wp2_with fail
    have hb410 : w4.heap.size ≤ w10.heap.size := by have h1 := (show w4.heap.size ≤ w9.heap.size from Nat.le_trans (Nat.le_trans Y7.out.size Y8.out.size) HSZ9.out); exact Nat.le_trans h1 HSZ10.out
    refine (markCellSS_any _ 1 v5 us5 P _ (by omega) (by omega) (by omega) hb410 G10.out).mono ?_
    rintro e w11 ⟨rfl, ho11, hg11⟩
    generalize hnq : ((1 + lenSS P * 3 : Nat) : Int) = nq
    have hnq0 : 0 ≤ nq := by omega
    have hnn : (nq != nq) = false := by simp
    have HNQ := Lib.hid hnq; clear hnq
    have h43 : w3.heap.size ≤ w4.heap.size := Y4.out.size
    have X11 := Lib.hid (X10.out.trans (hg11.below.mono h43))
    have HB11 := Lib.hid (HB10.out.trans (hg11.below.mono HB4.out.size))
    have G11 := Lib.hid ho11
    clear ho11 hg11
    go_wp2_with fail
    refine (heldCellSS_any 1 v5 P _ (by omega) (by omega) G11.out.reads).mono ?_
    rintro e w11b ⟨rfl, hb11b⟩
    rw [HNQ.out]
    have G11b := Lib.hid (G11.out.below hb11b); have X11b := Lib.hid (X11.out.trans (hb11b.mono X11.out.size))
    have HB11b := Lib.hid (HB11.out.trans (hb11b.mono HB11.out.size)); clear hb11b
    go_wp2_with fail
    refine (toCellS_any _ l _ (HR.out.mono HB11b.out) hl').mono ?_
    rintro e w12 ⟨v12, rfl, ho12, hb12⟩
    have R12 := Lib.hid (RowC.of_own ho12).1
    have G12 := Lib.hid (G11b.out.below hb12); have X12 := Lib.hid (X11b.out.trans (hb12.mono X11b.out.size))
    have HB12 := Lib.hid (HB11b.out.trans (hb12.mono HB11b.out.size)); clear ho12 hb12
    go_wp2_with fail
    refine (CI.out v12 _ R12.out (htab.keep HB12.out)).mono ?_
    rintro e w13 ⟨v13, us13, rfl, ho13, hb13⟩
    have G13 := Lib.hid (G12.out.below hb13); have X13 := Lib.hid (X12.out.trans (hb13.mono X12.out.size))
    have HB13 := Lib.hid (HB12.out.trans (hb13.mono HB12.out.size))
    have N13 := Lib.hid ho13.reads
    clear ho13 hb13
    go_wp2_with fail
    refine (eqCellSS_same v13 v3 P _ N13.out (W3.out.mono X13.out)).mono ?_
    rintro e w14 ⟨rfl, hb14⟩
    have G14 := Lib.hid (G13.out.below hb14)
    have HB14 := Lib.hid (HB13.out.trans (hb14.mono HB13.out.size)); clear hb14
    go_wp2_with fail
    refine (heldCellSS_any 1 v5 P _ (by omega) (by omega) G14.out.reads).mono ?_
    rintro e w15 ⟨rfl, hb15⟩
    rw [HNQ.out]
    have HB15 := Lib.hid (HB14.out.trans (hb15.mono HB14.out.size)); clear hb15
    go_wp2
    go_ret
    exact ⟨rfl, HB15.out⟩
  · clear hm
    go_wp2
    go_ret
    exact ⟨rfl, HB1.out⟩

end Go.Proofs.YtbnchmlapimmdaaGreatDoor
