/-
  The walk of laws.FnExactExprParts.
-/
import Derived.Test.YtjkeiniienkkiaaGreatDoorFindP
import Derived.Test.YtjkeiniienkkiaaGreatDoorFindSP
import Derived.Test.YtjkeiniienkkiaaGreatDoorEqCellS
import Derived.Test.YtjkeiniienkkiaaGreatDoorIntRows
namespace Go.Proofs.YtjkeiniienkkiaaGreatDoor
open Go.RowKit
set_option linter.unusedVariables false

theorem own_below {w w1 : World} {base : Nat} {e : TypeId} {size n : Nat} {v : Value} {xs : List Value} (h : w.ownsRow base e size v n xs) (hb : Below w.heap.size w w1) : w1.ownsRow base e size v n xs :=
  h.kept (row := none) ⟨hb.os, hb.tape, hb.output, hb.size, fun i hi _ => hb.block i hi⟩ (by cases hv : v.ownBlock with | none => exact .inl rfl | some x => exact .inr (by simp))
theorem partsA_len (l : List Cl) (a : Int) : (partsA l a).length ≤ 8 := by
  unfold partsA
  split
  · rename_i h
    rw [kidsL_length]
    obtain ⟨hok, h0, h1⟩ := h
    have hal := ((okE_iff l).mp hok).2.1
    have hk : a.toNat < l.length := by omega
    have := okC_many (okC_all hal a.toNat hk)
    rw [List.getD_eq_getElem?_getD, amL_at l _ hk]
    simp only [Option.getD_some]; omega
  · simp

set_option maxRecDepth 100000 in
set_option maxHeartbeats 8000000 in
theorem fnExactExprParts_core (a0 : Option Addr) (len0 cap0 : Nat) (l : List Cl) (a1 : Int) (w : World) (hrow : ArgRow w a0 len0 cap0 l) (htab : Tab w) :
    Calls Tryz.prog 6 #[.slice a0 len0 cap0, .int .i64 a1] w fun e w' => e = .returned (.bool true) ∧ Below w.heap.size w w' := by
  obtain ⟨hlen, hr, hz⟩ := hrow
  have HR := Lib.hid hr; have HZ := Lib.hid hz
  clear hr hz
  go_enter Tryz.func6, Tryz.ntmps6
  go_wp2_with fail
  refine (szCellS_any _ l 1048576 _ HR.out HZ.out (by omega) (by omega)).mono ?_
  rintro e w1 ⟨⟨m, rfl, hm⟩, hb1⟩
  have HB1 := Lib.hid hb1; clear hb1
  by_cases hm0 : 0 ≤ m
  · obtain ⟨hl, hsh⟩ := hm hm0
    have HSH := Lib.hid (show ShortC l from fun c hc => by have := hsh c hc; omega)
    have hl' : l.length ≤ 1048576 := by omega
    clear hm hsh
    go_wp2_with fail
    refine (toCellS_any _ l _ (HR.out.mono HB1.out) hl').mono ?_
    rintro e w2 ⟨v2, rfl, ho2, hb2⟩
    have R2 := Lib.hid (RowC.of_own ho2).1; have HB2 := Lib.hid (HB1.out.trans (hb2.mono HB1.out.size)); clear ho2 hb2
    have HP := Lib.hid (partsA_len l a1)
    have CS := Lib.hid (exprParts_spec v2 l a1 w2 R2.out HSH.out hl')
    have CI := Lib.hid (fun v w' hr ht => exprParts_impl v l a1 w' hr HZ.out ht)
    have hPP : ∃ P, partsA l a1 = P := ⟨_, rfl⟩
    obtain ⟨P, hP⟩ := hPP
    rw [hP] at HP CS CI
    have hp8 := HP.out
    clear hP HP
    go_wp2_with fail
    refine CS.out.mono ?_
    rintro e w3 ⟨v3, rfl, ho3, hb3⟩
    have W3 := Lib.hid (RowI.of_own ho3).1; have HB3 := Lib.hid (HB2.out.trans (hb3.mono HB2.out.size)); clear ho3 hb3 CS
    go_wp2_with fail
    refine (toCellS_any _ l _ (HR.out.mono HB3.out) hl').mono ?_
    rintro e w4 ⟨v4, rfl, ho4, hb4⟩
    have O4 := Lib.hid ho4; have Y4 := Lib.hid hb4; have W4 := Lib.hid (W3.out.mono hb4); have HB4 := Lib.hid (HB3.out.trans (hb4.mono HB3.out.size)); clear ho4 hb4
    go_wp2_with fail
    refine (CI.out v4 _ (RowC.of_own O4.out).1 (htab.keep HB4.out)).mono ?_
    rintro e w5 ⟨v5, rfl, ho5, hb5⟩
    have G5 := Lib.hid ho5; have O5 := Lib.hid (own_below O4.out hb5); have W5 := Lib.hid (W4.out.mono hb5)
    have HB5 := Lib.hid (HB4.out.trans (hb5.mono HB4.out.size)); have Y5 := Lib.hid hb5; clear ho5 hb5
    go_wp2_with fail
    refine (eqIntS_same v5 v3 P _ (RowI.of_own G5.out).1 W5.out).mono ?_
    rintro e w6 ⟨rfl, hb6⟩
    have G6 := Lib.hid (own_below G5.out hb6); have O6 := Lib.hid (own_below O5.out hb6); have W6 := Lib.hid (W5.out.mono hb6)
    have HB6 := Lib.hid (HB5.out.trans (hb6.mono HB5.out.size)); have Y6 := Lib.hid (Y5.out.trans (hb6.mono Y5.out.size)); clear hb6
    go_wp2_with fail
    refine (toCellS_any _ l _ (HR.out.mono HB6.out) hl').mono ?_
    rintro e w7 ⟨v7, rfl, ho7, hb7⟩
    have R7 := Lib.hid (RowC.of_own ho7).1
    have G7 := Lib.hid (own_below G6.out hb7); have O7 := Lib.hid (own_below O6.out hb7); have W7 := Lib.hid (W6.out.mono hb7)
    have HB7 := Lib.hid (HB6.out.trans (hb7.mono HB6.out.size)); have Y7 := Lib.hid (Y6.out.trans (hb7.mono Y6.out.size)); clear ho7 hb7
    go_wp2_with fail
    refine (eqCellS_same _ _ l _ (RowC.of_own O7.out).1 R7.out).mono ?_
    rintro e w8 ⟨rfl, hb8⟩
    have G8 := Lib.hid (own_below G7.out hb8); have O8 := Lib.hid (own_below O7.out hb8); have W8 := Lib.hid (W7.out.mono hb8)
    have HB8 := Lib.hid (HB7.out.trans (hb8.mono HB7.out.size))
    have X7 := Lib.hid (show Below w3.heap.size w3 w7 from Y4.out.trans ((show Below w4.heap.size w4 w7 from Y7.out).mono Y4.out.size)); have Y8 := Lib.hid hb8; clear hb8
    go_wp2_with fail
    refine (markCellS_own _ 1 _ v4 _ _ (by omega) hl' O8.out).mono ?_
    rintro e w9 ⟨rfl, hg9⟩
    have X8 := Lib.hid (show Below w3.heap.size w3 w8 from X7.out.trans (Y8.out.mono X7.out.size))
    have X9 := Lib.hid (X8.out.grown hg9 X8.out.size (fun q hq => (O8.out.lt q hq).1))
    have W9 := Lib.hid (W3.out.mono X9.out)
    have G9 := Lib.hid (G8.out.kept hg9 (by
      cases hv : v5.ownBlock with
      | none => exact .inl rfl
      | some q => exact .inr (fun he => by have h1 := (G8.out.lt q hv).1; have h2 := (O4.out.lt q he.symm).2; omega)))
    have HB9 := Lib.hid (HB8.out.grown hg9 HB8.out.size (fun q hq => by have h1 := (O8.out.lt q hq).1; have := HB3.out.size; omega))
    clear hg9 X8 W8 G8 O8 HB8
    generalize hn3 : ((1 + l.length * 3 : Nat) : Int) = n3
    have hn30 : 0 ≤ n3 := by omega
    clear hn3
    go_wp2_with fail
    refine (eqIntS_same v5 v3 P _ (RowI.of_own G9.out).1 W9.out).mono ?_
    rintro e w10 ⟨rfl, hb10⟩
    have G10 := Lib.hid (own_below G9.out hb10); have X10 := Lib.hid (X9.out.trans (hb10.mono X9.out.size))
    have HB10 := Lib.hid (HB9.out.trans (hb10.mono HB9.out.size)); clear hb10
    go_wp2_with fail
    refine (markIntS_own _ 1 _ v5 P _ (by omega) (by omega) G10.out).mono ?_
    rintro e w11 ⟨rfl, ho11, hg11⟩
    generalize hnq : ((1 + P.length : Nat) : Int) = nq
    have hnq0 : 0 ≤ nq := by omega
    have hnn : (nq != nq) = false := by simp
    have HNQ := Lib.hid hnq; clear hnq
    have h43 : w3.heap.size ≤ w4.heap.size := Y4.out.size
    have X11 := Lib.hid (X10.out.grown hg11 X10.out.size (fun q hq => by have := (G10.out.lt q hq).1; omega))
    have HB11 := Lib.hid (HB10.out.grown hg11 HB10.out.size (fun q hq => by have h1 := (G10.out.lt q hq).1; have := HB4.out.size; omega))
    have G11 := Lib.hid ho11
    clear ho11 hg11
    have HI := Lib.hid (show ∀ (ww : World), ww.ownsRow w4.heap.size 3 1 v5 P.length (ints (mks 1 P.length)) → RowI ww v5 (mks 1 P.length) from fun ww h => (RowI.of_own h).1)
    go_wp2_with fail
    refine (heldIntS_any 1 P.length v5 _ (by omega) (by omega) (HI.out _ G11.out)).mono ?_
    rintro e w' ⟨rfl, rfl⟩
    rw [HNQ.out]
    go_wp2_with fail
    refine (toCellS_any _ l _ (HR.out.mono HB11.out) hl').mono ?_
    rintro e w12 ⟨v12, rfl, ho12, hb12⟩
    have R12 := Lib.hid (RowC.of_own ho12).1
    have G12 := Lib.hid (own_below G11.out hb12); have X12 := Lib.hid (X11.out.trans (hb12.mono X11.out.size))
    have HB12 := Lib.hid (HB11.out.trans (hb12.mono HB11.out.size)); clear ho12 hb12
    go_wp2_with fail
    refine (CI.out v12 _ R12.out (htab.keep HB12.out)).mono ?_
    rintro e w13 ⟨v13, rfl, ho13, hb13⟩
    have G13 := Lib.hid (own_below G12.out hb13); have X13 := Lib.hid (X12.out.trans (hb13.mono X12.out.size))
    have HB13 := Lib.hid (HB12.out.trans (hb13.mono HB12.out.size))
    have N13 := Lib.hid (RowI.of_own ho13).1
    clear ho13 hb13
    go_wp2_with fail
    refine (eqIntS_same v13 v3 P _ N13.out (W3.out.mono X13.out)).mono ?_
    rintro e w14 ⟨rfl, hb14⟩
    have G14 := Lib.hid (own_below G13.out hb14)
    have HB14 := Lib.hid (HB13.out.trans (hb14.mono HB13.out.size)); clear hb14
    go_wp2_with fail
    refine (heldIntS_any 1 P.length v5 _ (by omega) (by omega) (HI.out _ G14.out)).mono ?_
    rintro e w' ⟨rfl, rfl⟩
    rw [HNQ.out]
    go_wp2
    go_ret
    exact ⟨rfl, HB14.out⟩
  · clear hm
    go_wp2
    go_ret
    exact ⟨rfl, HB1.out⟩

end Go.Proofs.YtjkeiniienkkiaaGreatDoor
