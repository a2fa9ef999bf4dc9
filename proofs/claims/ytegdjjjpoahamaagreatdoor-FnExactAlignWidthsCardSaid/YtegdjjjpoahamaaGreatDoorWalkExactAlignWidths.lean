/-
  The walk of laws.FnExactAlignWidths.
-/
import Derived.Test.YtegdjjjpoahamaaGreatDoorAlignWI
import Derived.Test.YtegdjjjpoahamaaGreatDoorAlignWS
import Derived.Test.YtegdjjjpoahamaaGreatDoorOpenItems
import Derived.Test.YtegdjjjpoahamaaGreatDoorItemM
import Derived.Test.YtegdjjjpoahamaaGreatDoorIntRows
import Derived.Test.YtegdjjjpoahamaaGreatDoorItemT
import Derived.Test.YtegdjjjpoahamaaGreatDoorItemW
namespace Go.Proofs.YtegdjjjpoahamaaGreatDoor
open Go.RowKit
set_option linter.unusedVariables false

theorem fit_shortW {l : List It} (h : ShortI l) : FitI l := by
  intro i hi
  obtain ⟨h1, h2, h3, h4⟩ := h i hi
  exact ⟨by unfold maxLen; omega, fun c hc => by have := h2 c hc; unfold maxLen; omega, by unfold maxLen; omega⟩
theorem wdD_len (l : List It) : (wdD l).length ≤ 30 := by
  unfold wdD
  split
  · rename_i h
    rw [wdL_length]; exact ((docB_iff l).mp h).1
  · simp

set_option maxRecDepth 100000 in
set_option maxHeartbeats 8000000 in
theorem fnExactAlignWidths_core (a0 : Option Addr) (len0 cap0 : Nat) (l : List It) (w : World) (hrow : ArgIs w a0 len0 cap0 l) (htab : Tab w) :
    Calls Tryz.prog 7 #[.slice a0 len0 cap0] w fun e w' => e = .returned (.bool true) ∧ Below w.heap.size w w' := by
  obtain ⟨hlen, hr, hz⟩ := hrow
  have HR := Lib.hid hr; have HZ := Lib.hid hz
  clear hr hz
  go_enter Tryz.func7, Tryz.ntmps7
  go_wp2_with fail
  refine (szItemS_any _ l 1048576 _ HR.out HZ.out (by omega) (by omega)).mono ?_
  rintro e w1 ⟨⟨m, rfl, hm⟩, hb1⟩
  have HB1 := Lib.hid hb1; clear hb1
  by_cases hm0 : 0 ≤ m
  · obtain ⟨hl, hsh⟩ := hm hm0
    have HSH := Lib.hid (short_ofI (n := 1048576) (by omega) hsh (by omega))
    have hl' : l.length ≤ 1048576 := by omega
    have hn' : lenI l ≤ 1048576 := by omega
    have HLL := Lib.hid (show ∀ b ∈ l, b.2.2.1.length ≤ 1048576 from fun b hb => (HSH.out b hb).2.2.1)
    clear hm hsh
    go_wp2_with fail
    refine (toItemS_any _ l _ (HR.out.mono HB1.out) hl' HLL.out).mono ?_
    rintro e w2 ⟨v2, us2, rfl, ho2, hb2⟩
    have R2 := Lib.hid ho2.reads; have HB2 := Lib.hid (HB1.out.trans (hb2.mono HB1.out.size)); clear ho2 hb2
    have HP := Lib.hid (wdD_len l)
    have CS := Lib.hid (alignWidths_spec v2 l w2 R2.out HSH.out hl')
    have CI := Lib.hid (fun v w' hr ht => alignWidths_impl v l w' hr (fit_shortW HSH.out) ht)
    have hPP : ∃ P, wdD l = P := ⟨_, rfl⟩
    obtain ⟨P, hP⟩ := hPP
    rw [hP] at HP CS CI
    have hp8 := HP.out
    clear hP HP
    go_wp2_with fail
    refine CS.out.mono ?_
    rintro e w3 ⟨v3, rfl, ho3, hb3⟩
    have W3 := Lib.hid (RowI.of_own ho3).1; have HB3 := Lib.hid (HB2.out.trans (hb3.mono HB2.out.size)); clear ho3 hb3 CS
    go_wp2_with fail
    refine (toItemS_any _ l _ (HR.out.mono HB3.out) hl' HLL.out).mono ?_
    rintro e w4 ⟨v4, us4, rfl, ho4, hb4⟩
    have O4 := Lib.hid ho4; have Y4 := Lib.hid hb4; have W4 := Lib.hid (W3.out.mono hb4); have HB4 := Lib.hid (HB3.out.trans (hb4.mono HB3.out.size)); clear ho4 hb4
    go_wp2_with fail
    refine (CI.out v4 _ O4.out.reads (htab.keep HB4.out)).mono ?_
    rintro e w5 ⟨v5, rfl, ho5, hb5⟩
    have G5 := Lib.hid ho5; have O5 := Lib.hid (O4.out.below hb5); have W5 := Lib.hid (W4.out.mono hb5)
    have HB5 := Lib.hid (HB4.out.trans (hb5.mono HB4.out.size)); have Y5 := Lib.hid hb5; clear ho5 hb5
    go_wp2_with fail
    refine (eqIntS_same v5 v3 P _ (RowI.of_own G5.out).1 W5.out).mono ?_
    rintro e w6 ⟨rfl, hb6⟩
    have G6 := Lib.hid (own_belowS G5.out hb6); have O6 := Lib.hid (O5.out.below hb6); have W6 := Lib.hid (W5.out.mono hb6)
    have HB6 := Lib.hid (HB5.out.trans (hb6.mono HB5.out.size)); have Y6 := Lib.hid (Y5.out.trans (hb6.mono Y5.out.size)); clear hb6
    go_wp2_with fail
    refine (toItemS_any _ l _ (HR.out.mono HB6.out) hl' HLL.out).mono ?_
    rintro e w7 ⟨v7, us7, rfl, ho7, hb7⟩
    have R7 := Lib.hid ho7.reads
    have G7 := Lib.hid (own_belowS G6.out hb7); have O7 := Lib.hid (O6.out.below hb7); have W7 := Lib.hid (W6.out.mono hb7)
    have HB7 := Lib.hid (HB6.out.trans (hb7.mono HB6.out.size)); have Y7 := Lib.hid (Y6.out.trans (hb7.mono Y6.out.size)); clear ho7 hb7
    go_wp2_with fail
    refine (eqItemS_same _ _ l _ O7.out.reads R7.out).mono ?_
    rintro e w8 ⟨rfl, hb8⟩
    have G8 := Lib.hid (own_belowS G7.out hb8); have O8 := Lib.hid (O7.out.below hb8); have W8 := Lib.hid (W7.out.mono hb8)
    have HB8 := Lib.hid (HB7.out.trans (hb8.mono HB7.out.size))
    have X7 := Lib.hid (show Below w3.heap.size w3 w7 from Y4.out.trans ((show Below w4.heap.size w4 w7 from Y7.out).mono Y4.out.size)); have Y8 := Lib.hid hb8; clear hb8
    go_wp2_with fail
    refine (markItemS_any w3.heap.size 1 v4 us4 l _ (by omega) hn' hl' (Nat.le_trans X7.out.size Y8.out.size) O8.out).mono ?_
    rintro e w9 ⟨rfl, -, hg9⟩
    have X8 := Lib.hid (show Below w3.heap.size w3 w8 from X7.out.trans (Y8.out.mono X7.out.size))
    have X9 := Lib.hid (X8.out.trans hg9.below)
    have W9 := Lib.hid (W3.out.mono X9.out)
    have G9 := Lib.hid (own_keep G8.out (fun g hg => hg9.rest g (G8.out.lt g hg).2 (fun he => by have h1 := (G8.out.lt g hg).1; have h2 := (O4.out.row.lt g he).2; omega) (fun u hu he => by
      obtain ⟨q, hq, rfl⟩ := List.mem_iff_getElem.mp hu
      have h1 := (G8.out.lt g hg).1; have h2 := ((O4.out.each q hq (by have := O4.out.len; omega)).lt g he).2; omega)))
    have HB9 := Lib.hid (HB8.out.trans (hg9.below.mono (by have := HB3.out.size; omega)))
    clear hg9 X8 W8 G8 O8 HB8
    generalize hn3 : ((1 + spanI l : Nat) : Int) = n3
    have hn30 : 0 ≤ n3 := by omega
    clear hn3
    go_wp2_with fail
    refine (eqIntS_same v5 v3 P _ (RowI.of_own G9.out).1 W9.out).mono ?_
    rintro e w10 ⟨rfl, hb10⟩
    have G10 := Lib.hid (own_belowS G9.out hb10); have X10 := Lib.hid (X9.out.trans (hb10.mono X9.out.size))
    have HB10 := Lib.hid (HB9.out.trans (hb10.mono HB9.out.size)); clear hb10
    go_wp2_with fail
    refine (markIntS_own _ 1 _ v5 P _ (by omega) (by omega) G10.out).mono ?_
    rintro e w11 ⟨rfl, ho11, hg11⟩
    generalize hnq : ((1 + P.length : Nat) : Int) = nq
    have hnq0 : 0 ≤ nq := by omega
    have hnn : (nq != nq) = false := by simp
    have HNQ := Lib.hid hnq; clear hnq
    have h43 : w3.heap.size ≤ w4.heap.size := Y4.out.size
    have X11 := Lib.hid (X10.out.grown hg11 X10.out.size (fun q hq => by have := (G10.out.lt q hq).1; omega))
    have HB11 := Lib.hid (HB10.out.grown hg11 HB10.out.size (fun q hq => by have h1 := (G10.out.lt q hq).1; have := HB4.out.size; omega))
    have G11 := Lib.hid ho11
    clear ho11 hg11
    have HI := Lib.hid (show ∀ (ww : World), ww.ownsRow w4.heap.size 3 1 v5 P.length (ints (mks 1 P.length)) → RowI ww v5 (mks 1 P.length) from fun ww h => (RowI.of_own h).1)
    go_wp2_with fail
    refine (heldIntS_any 1 P.length v5 _ (by omega) (by omega) (HI.out _ G11.out)).mono ?_
    rintro e w' ⟨rfl, rfl⟩
    rw [HNQ.out]
    go_wp2_with fail
    refine (toItemS_any _ l _ (HR.out.mono HB11.out) hl' HLL.out).mono ?_
    rintro e w12 ⟨v12, us12, rfl, ho12, hb12⟩
    have R12 := Lib.hid ho12.reads
    have G12 := Lib.hid (own_belowS G11.out hb12); have X12 := Lib.hid (X11.out.trans (hb12.mono X11.out.size))
    have HB12 := Lib.hid (HB11.out.trans (hb12.mono HB11.out.size)); clear ho12 hb12
    go_wp2_with fail
    refine (CI.out v12 _ R12.out (htab.keep HB12.out)).mono ?_
    rintro e w13 ⟨v13, rfl, ho13, hb13⟩
    have G13 := Lib.hid (own_belowS G12.out hb13); have X13 := Lib.hid (X12.out.trans (hb13.mono X12.out.size))
    have HB13 := Lib.hid (HB12.out.trans (hb13.mono HB12.out.size))
    have N13 := Lib.hid (RowI.of_own ho13).1
    clear ho13 hb13
    go_wp2_with fail
    refine (eqIntS_same v13 v3 P _ N13.out (W3.out.mono X13.out)).mono ?_
    rintro e w14 ⟨rfl, hb14⟩
    have G14 := Lib.hid (own_belowS G13.out hb14)
    have HB14 := Lib.hid (HB13.out.trans (hb14.mono HB13.out.size)); clear hb14
    go_wp2_with fail
    refine (heldIntS_any 1 P.length v5 _ (by omega) (by omega) (HI.out _ G14.out)).mono ?_
    rintro e w' ⟨rfl, rfl⟩
    rw [HNQ.out]
    go_wp2
    go_ret
    exact ⟨rfl, HB14.out⟩
  · clear hm
    go_wp2
    go_ret
    exact ⟨rfl, HB1.out⟩

end Go.Proofs.YtegdjjjpoahamaaGreatDoor
