/-
  The walk of laws.FnExactCallFunction.
-/
import Derived.Test.YtipmkbahlfkfoaaGreatDoorCallI
import Derived.Test.YtipmkbahlfkfoaaGreatDoorCallSF
import Derived.Test.YtipmkbahlfkfoaaGreatDoorNestW
import Derived.Test.YtipmkbahlfkfoaaGreatDoorOpenCellSS
namespace Go.Proofs.YtipmkbahlfkfoaaGreatDoor
open Go.RowKit
set_option linter.unusedVariables false

set_option maxRecDepth 100000 in
set_option maxHeartbeats 8000000 in
theorem fnExactCallFunction_core (nm : ByteArray) (a0 : Option Addr) (len0 cap0 : Nat) (ls : List (List Cl)) (w : World) (hnmax : nm.size ≤ maxLen) (hrow : ArgLs w a0 len0 cap0 ls) (htab : Tab w) :
    Calls Tryz.prog 3 #[.string nm, .slice a0 len0 cap0] w fun e w' => e = .returned (.bool true) ∧ Below w.heap.size w w' := by
  obtain ⟨hlen, hr, hz⟩ := hrow
  have HR := Lib.hid hr; have HZ := Lib.hid hz
  clear hr hz
  go_enter Tryz.func3, Tryz.ntmps3
  by_cases hnm : nm.size ≤ 1048576
  case neg =>
    go_wp2
    go_ret
    exact ⟨rfl, Below.refl _ _⟩
  go_wp2_with fail
  refine (szCellSS_any _ ls 1048576 _ HR.out HZ.out (by omega) (by omega)).mono ?_
  rintro e w1 ⟨⟨m, rfl, hm⟩, hb1⟩
  have HB1 := Lib.hid hb1; clear hb1
  by_cases hm0 : 0 ≤ m
  · obtain ⟨hl, hsh⟩ := hm hm0
    have HSH := Lib.hid (show ∀ l ∈ ls, ShortC l from fun l hl c hc => by have := hsh l hl c hc; omega)
    have hl1 : ls.length + lenSS ls ≤ 1048576 := by omega
    have hl2 : ls.length ≤ 1048576 := by omega
    have HLL := Lib.hid (show ∀ l ∈ ls, l.length ≤ 1048576 from fun l hl => by
      obtain ⟨k, hk, rfl⟩ := List.getElem_of_mem hl
      have := lenSS_in ls k hk; omega)
    have hR60 := callRR_len nm ls
    clear hm hsh hl
    go_wp2_with fail
    refine (toCellSS_any _ ls _ (HR.out.mono HB1.out) hl2 HLL.out).mono ?_
    rintro e w2 ⟨v2, us2, rfl, ho2, hb2⟩
    have R2 := Lib.hid ho2.reads; have HB2 := Lib.hid (HB1.out.trans (hb2.mono HB1.out.size)); clear ho2 hb2
    have CS := Lib.hid (callFunction_spec nm v2 ls w2 hnm R2.out HSH.out hl1)
    have CI := Lib.hid (fun v w' hr ht => callFunction_impl nm v ls w' hnm hr HSH.out hl2 ht)
    obtain ⟨P, hP⟩ : ∃ P, callRR nm ls = P := ⟨_, rfl⟩
    obtain ⟨ok, hok⟩ : ∃ ok, callRK nm ls = ok := ⟨_, rfl⟩
    rw [hP, hok] at CS CI
    rw [hP] at hR60
    have hbb : (ok != ok) = false := by cases ok <;> rfl
    clear hP hok
    go_wp2_with fail
    refine CS.out.mono ?_
    rintro e w3 ⟨v3, rfl, ho3, hb3⟩
    have W3 := Lib.hid (RowC.of_own ho3).1; have HB3 := Lib.hid (HB2.out.trans (hb3.mono HB2.out.size)); clear ho3 hb3 CS
    go_wp2_with fail
    refine (toCellSS_any _ ls _ (HR.out.mono HB3.out) hl2 HLL.out).mono ?_
    rintro e w4 ⟨v4, us4, rfl, ho4, hb4⟩
    have O4 := Lib.hid ho4; have Y4 := Lib.hid hb4; have W4 := Lib.hid (W3.out.mono hb4); have HB4 := Lib.hid (HB3.out.trans (hb4.mono HB3.out.size)); clear ho4 hb4
    go_wp2_with fail
    refine (CI.out v4 _ O4.out.reads (htab.keep HB4.out)).mono ?_
    rintro e w5 ⟨v5, rfl, ho5, hb5⟩
    have G5 := Lib.hid ho5; have O5 := Lib.hid (O4.out.below hb5); have W5 := Lib.hid (W4.out.mono hb5)
    have HB5 := Lib.hid (HB4.out.trans (hb5.mono HB4.out.size)); have Y5 := Lib.hid hb5; clear ho5 hb5
    go_wp2_with fail
    refine (eqCellS_same v5 v3 P _ (RowC.of_own G5.out).1 W5.out).mono ?_
    rintro e w6 ⟨rfl, hb6⟩
    have G6 := Lib.hid (own_belowS G5.out hb6); have O6 := Lib.hid (O5.out.below hb6)
    have HB6 := Lib.hid (HB5.out.trans (hb6.mono HB5.out.size)); have Y6 := Lib.hid (Y5.out.trans (hb6.mono Y5.out.size)); clear hb6
    go_wp2_with fail
    refine (toCellSS_any _ ls _ (HR.out.mono HB6.out) hl2 HLL.out).mono ?_
    rintro e w7 ⟨v7, us7, rfl, ho7, hb7⟩
    have R7 := Lib.hid ho7.reads
    have G7 := Lib.hid (own_belowS G6.out hb7); have O7 := Lib.hid (O6.out.below hb7)
    have HB7 := Lib.hid (HB6.out.trans (hb7.mono HB6.out.size)); have Y7 := Lib.hid (Y6.out.trans (hb7.mono Y6.out.size)); clear ho7 hb7
    go_wp2_with fail
    refine (eqCellSS_same _ _ ls _ O7.out.reads R7.out).mono ?_
    rintro e w8 ⟨rfl, hb8⟩
    have G8 := Lib.hid (own_belowS G7.out hb8); have O8 := Lib.hid (O7.out.below hb8)
    have HB8 := Lib.hid (HB7.out.trans (hb8.mono HB7.out.size)); have Y8 := Lib.hid (Y7.out.trans (hb8.mono Y7.out.size)); clear hb8
    have X8 := Lib.hid (show Below w3.heap.size w3 w8 from Y4.out.trans ((show Below w4.heap.size w4 w8 from Y8.out).mono Y4.out.size))
    have h38 : w3.heap.size ≤ w8.heap.size := X8.out.size
    go_wp2_with fail
    refine (markCellSS_any _ 1 v4 us4 ls _ (by omega) (by omega) hl2 h38 O8.out).mono ?_
    rintro e w9 ⟨rfl, -, hf9⟩
    have X9 := Lib.hid (X8.out.trans hf9.below)
    have W9 := Lib.hid (W3.out.mono X9.out)
    have G9 := Lib.hid (own_keep G8.out (fun x hx => hf9.rest x (G8.out.lt x hx).2 (fun u hu he => by
      obtain ⟨j, hj, rfl⟩ := List.getElem_of_mem hu
      have h1 := ((O4.out.each j hj (by have := O4.out.len; omega)).lt x he).2
      have h2 := (G8.out.lt x hx).1
      omega)))
    have HB9 := Lib.hid (HB8.out.trans (hf9.below.mono HB3.out.size))
    have HSZ9 := Lib.hid hf9.size
    clear hf9
    generalize hn3 : ((1 + lenSS ls * 3 : Nat) : Int) = n3
    have hn30 : 0 ≤ n3 := by omega
    clear hn3
    go_wp2_with fail
    refine (eqCellS_same v5 v3 P _ (RowC.of_own G9.out).1 W9.out).mono ?_
    rintro e w10 ⟨rfl, hb10⟩
    have G10 := Lib.hid (own_belowS G9.out hb10); have X10 := Lib.hid (X9.out.trans (hb10.mono X9.out.size))
    have HB10 := Lib.hid (HB9.out.trans (hb10.mono HB9.out.size)); have HSZ10 := Lib.hid hb10.size; clear hb10
    go_wp2_with fail
    refine (markCellS_full _ 1 v5 P _ (by omega) (by omega) G10.out).mono ?_
    rintro e w11 ⟨rfl, ho11, hg11⟩
    generalize hnq : ((1 + P.length * 3 : Nat) : Int) = nq
    have hnq0 : 0 ≤ nq := by omega
    have hnn : (nq != nq) = false := by simp
    have HNQ := Lib.hid hnq; clear hnq
    have h43 : w3.heap.size ≤ w4.heap.size := Y4.out.size
    have hw4 : w.heap.size ≤ w4.heap.size := HB4.out.size
    have X11 := Lib.hid (X10.out.grown hg11 X10.out.size (fun q hq => by have := (G10.out.lt q hq).1; omega))
    have HB11 := Lib.hid (HB10.out.grown hg11 HB10.out.size (fun q hq => by have := (G10.out.lt q hq).1; omega))
    have G11 := Lib.hid (show w11.ownsRow w4.heap.size 39 3 v5 (marksC 1 P.length).length (flatC (marksC 1 P.length)) by rw [marksC_length]; exact ho11)
    clear ho11 hg11
    go_wp2_with fail
    refine (heldCellS_any 1 P.length v5 _ (by omega) (by omega) (RowC.of_own G11.out).1).mono ?_
    rintro e w11b ⟨rfl, hb11b⟩
    rw [HNQ.out]
    have G11b := Lib.hid (own_belowS G11.out hb11b); have X11b := Lib.hid (X11.out.trans (hb11b.mono X11.out.size))
    have HB11b := Lib.hid (HB11.out.trans (hb11b.mono HB11.out.size)); clear hb11b
    go_wp2_with fail
    refine (toCellSS_any _ ls _ (HR.out.mono HB11b.out) hl2 HLL.out).mono ?_
    rintro e w12 ⟨v12, us12, rfl, ho12, hb12⟩
    have R12 := Lib.hid ho12.reads
    have G12 := Lib.hid (own_belowS G11b.out hb12); have X12 := Lib.hid (X11b.out.trans (hb12.mono X11b.out.size))
    have HB12 := Lib.hid (HB11b.out.trans (hb12.mono HB11b.out.size)); clear ho12 hb12
    go_wp2_with fail
    refine (CI.out v12 _ R12.out (htab.keep HB12.out)).mono ?_
    rintro e w13 ⟨v13, rfl, ho13, hb13⟩
    have G13 := Lib.hid (own_belowS G12.out hb13); have X13 := Lib.hid (X12.out.trans (hb13.mono X12.out.size))
    have HB13 := Lib.hid (HB12.out.trans (hb13.mono HB12.out.size))
    have N13 := Lib.hid (RowC.of_own ho13).1
    clear ho13 hb13
    go_wp2_with fail
    refine (eqCellS_same v13 v3 P _ N13.out (W3.out.mono X13.out)).mono ?_
    rintro e w14 ⟨rfl, hb14⟩
    have G14 := Lib.hid (own_belowS G13.out hb14)
    have HB14 := Lib.hid (HB13.out.trans (hb14.mono HB13.out.size)); clear hb14
    go_wp2_with fail
    refine (heldCellS_any 1 P.length v5 _ (by omega) (by omega) (RowC.of_own G14.out).1).mono ?_
    rintro e w15 ⟨rfl, hb15⟩
    rw [HNQ.out]
    have HB15 := Lib.hid (HB14.out.trans (hb15.mono HB14.out.size)); clear hb15
    go_wp2
    go_ret
    exact ⟨rfl, HB15.out⟩
  · clear hm
    go_wp2
    go_ret
    exact ⟨rfl, HB1.out⟩

end Go.Proofs.YtipmkbahlfkfoaaGreatDoor
