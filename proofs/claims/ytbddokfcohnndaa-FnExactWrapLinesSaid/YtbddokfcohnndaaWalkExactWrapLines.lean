/-
  The walk of laws.FnExactWrapLines.
-/
import Derived.Test.YtbddokfcohnndaaWrapWI
import Derived.Test.YtbddokfcohnndaaWrapWS
import Derived.Test.YtbddokfcohnndaaStringS
import Derived.Test.YtbddokfcohnndaaEqStringS
import Derived.Test.YtbddokfcohnndaaMarkS
import Derived.Test.YtbddokfcohnndaaIntR
import Derived.Test.YtbddokfcohnndaaWrapLen
namespace Go.Proofs.Ytbddokfcohnndaa
open Go.RowKit
set_option linter.unusedVariables false

set_option maxRecDepth 100000 in
set_option maxHeartbeats 8000000 in
theorem fnExactWrapLines_core (a0 : Option Addr) (len0 cap0 : Nat) (L : List ByteArray) (a1 : Int) (w : World) (h : TextRow w a0 len0 cap0 L) :
    Calls Try.prog 6 #[.slice a0 len0 cap0, .int .i64 a1] w fun e w' => e = .returned (.bool true) ∧ Below w.heap.size w w' := by
  obtain ⟨hlen, hrow, hz⟩ := h
  have R0 := Lib.hid hrow; have Z := Lib.hid hz; have HL := Lib.hid hlen
  clear hrow hz hlen
  go_enter Try.func6, Try.ntmps6
  go_wp2_with fail
  refine (szStringS_any _ L 1048576 _ R0.out Z.out (by omega) (by omega)).mono ?_
  rintro e w' ⟨⟨m, rfl, hm⟩, hw'⟩
  subst hw'
  by_cases hm0 : 0 ≤ m
  · have hlm : L.length ≤ 1048576 := by have := hm hm0; omega
    clear hm
    have CS := Lib.hid (fun v w' hr => wrapLines_spec v L a1 w' hr Z.out)
    have CI := Lib.hid (fun v w' hr => wrapLines_impl v L a1 w' hr Z.out)
    have hp20 := wlB_len L a1
    generalize wlB L a1 = P at CS CI hp20
    go_wp2_with fail
    refine (toStringS_any _ L _ R0.out hlm).mono ?_
    rintro e w1 ⟨v1, rfl, hown1, hb1⟩
    have R1 := Lib.hid (RowOf.of_own hown1); have B1 := Lib.hid hb1
    clear hown1 hb1
    go_wp2_with fail
    refine (CS.out _ _ R1.out).mono ?_
    rintro e w2 ⟨v2, rfl, hown2, hb2⟩
    have G2 := Lib.hid (RowI.of_own hown2).1; have B2 := Lib.hid (B1.out.trans (hb2.mono B1.out.size))
    clear hown2 hb2 B1 R1
    go_wp2_with fail
    refine (toStringS_any _ L _ (R0.out.mono B2.out) hlm).mono ?_
    rintro e w3 ⟨v3, rfl, hown3, hb3⟩
    have O3 := Lib.hid hown3; have B3 := Lib.hid (B2.out.trans (hb3.mono B2.out.size)); have G3 := Lib.hid (G2.out.mono hb3); have X3 := Lib.hid hb3; have G2' := Lib.hid G2.out; have OB3 := Lib.hid (fun q hq => (O3.out.lt q hq).2)
    clear hown3 hb3 G2
    go_wp2_with fail
    refine (CI.out _ _ (RowOf.of_own O3.out)).mono ?_
    rintro e w4 ⟨v4, rfl, hown4, hb4⟩
    have I4 := Lib.hid hown4; have O4 := Lib.hid (own_belowS O3.out hb4); have B4 := Lib.hid (B3.out.trans (hb4.mono B3.out.size)); have G4 := Lib.hid (G3.out.mono hb4); have X4 := Lib.hid (X3.out.trans (hb4.mono X3.out.size)); have Y4 := Lib.hid hb4
    clear hown4 hb4 O3 B3 G3
    go_wp2_with fail
    refine (eqIntS_same v4 v2 P _ (RowI.of_own I4.out).1 G4.out).mono ?_
    rintro e w5 ⟨rfl, hb5⟩
    have I5 := Lib.hid (own_belowS I4.out hb5); have O5 := Lib.hid (own_belowS O4.out hb5); have B5 := Lib.hid (B4.out.trans (hb5.mono B4.out.size)); have G5 := Lib.hid (G4.out.mono hb5); have X5 := Lib.hid (X4.out.trans (hb5.mono X4.out.size)); have Y5 := Lib.hid (Y4.out.trans (hb5.mono Y4.out.size))
    clear hb5 I4 O4 B4 G4 X4 Y4
    go_wp2_with fail
    refine (toStringS_any _ L _ (R0.out.mono B5.out) hlm).mono ?_
    rintro e w6 ⟨v6, rfl, hown6, hb6⟩
    have R6 := Lib.hid (RowOf.of_own hown6)
    have I6 := Lib.hid (own_belowS I5.out hb6); have O6 := Lib.hid (own_belowS O5.out hb6); have B6 := Lib.hid (B5.out.trans (hb6.mono B5.out.size)); have G6 := Lib.hid (G5.out.mono hb6); have X6 := Lib.hid (X5.out.trans (hb6.mono X5.out.size)); have Y6 := Lib.hid (Y5.out.trans (hb6.mono Y5.out.size))
    clear hown6 hb6 I5 O5 B5 G5 X5 Y5
    go_wp2_with fail
    refine (eqStringS_any _ _ L L _ (RowOf.of_own O6.out) R6.out).mono ?_
    rintro e w7 ⟨rfl, n7, hw7⟩
    have hb7 : Below w6.heap.size w6 w7 := by rw [hw7]; exact ⟨rfl, rfl, rfl, Nat.le_refl _, fun _ _ => rfl⟩
    have I7 := Lib.hid (own_belowS I6.out hb7); have O7 := Lib.hid (own_belowS O6.out hb7); have B7 := Lib.hid (B6.out.trans (hb7.mono B6.out.size)); have G7 := Lib.hid (G6.out.mono hb7); have X7 := Lib.hid (X6.out.trans (hb7.mono X6.out.size)); have Y7 := Lib.hid (Y6.out.trans (hb7.mono Y6.out.size))
    clear hw7 hb7 I6 O6 B6 G6 X6 Y6 R6
    rw [show decide (L = L) = true by simp]
    have hx3 : w2.heap.size ≤ w3.heap.size := X3.out.size
    go_wp2_with fail
    refine (markStringS_own w2.heap.size 1 _ v3 _ _ (by omega) (by omega) O7.out).mono ?_
    rintro e w8 ⟨rfl, -, hg8⟩
    have X8 := Lib.hid (X7.out.grown hg8 X7.out.size (fun q hq => (O7.out.lt q hq).1))
    have G8 := Lib.hid ((RowI.mono (w := w2) (G2'.out) X8.out))
    have I8 := Lib.hid (I7.out.kept hg8 (by
      cases hq : v4.ownBlock with
      | none => exact .inl rfl
      | some y => right; intro e; have h1 := (I7.out.lt y hq).1; have h2 := (OB3.out _ e.symm); omega))
    have B8 := Lib.hid (B7.out.grown hg8 B7.out.size (fun q hq => Nat.le_trans B2.out.size (O7.out.lt q hq).1))
    have Y8 := Lib.hid (show w3.heap.size ≤ w8.heap.size from Nat.le_trans Y7.out.size hg8.size)
    clear hg8 I7 O7 B7 G7 X7 Y7
    generalize hn3 : ((1 + L.length : Nat) : Int) = n3
    have hn30 : 0 ≤ n3 := by omega
    clear hn3
    go_wp2_with fail
    refine (eqIntS_same v4 v2 P _ (RowI.of_own I8.out).1 G8.out).mono ?_
    rintro e w9 ⟨rfl, hb9⟩
    have I9 := Lib.hid (own_belowS I8.out hb9); have B9 := Lib.hid (B8.out.trans (hb9.mono B8.out.size)); have X9 := Lib.hid (X8.out.trans (hb9.mono X8.out.size))
    clear hb9 I8 B8 G8 X8
    go_wp2_with fail
    refine (markIntS_own _ 1 _ v4 P _ (by omega) (by omega) I9.out).mono ?_
    rintro e w10 ⟨rfl, ho10, hg10⟩
    generalize hnq : ((1 + P.length : Nat) : Int) = nq
    have hnq0 : 0 ≤ nq := by omega
    have hnn : (nq != nq) = false := by simp
    have HNQ := Lib.hid hnq; clear hnq
    have X10 := Lib.hid (X9.out.grown hg10 X9.out.size (fun q hq => by have := (I9.out.lt q hq).1; omega))
    have B10 := Lib.hid (B9.out.grown hg10 B9.out.size (fun q hq => by have h1 := (I9.out.lt q hq).1; have := B2.out.size; omega))
    have I10 := Lib.hid ho10
    clear ho10 hg10 I9 B9 X9
    have HI := Lib.hid (show ∀ (ww : World), ww.ownsRow w3.heap.size 3 1 v4 P.length (ints (mks 1 P.length)) → RowI ww v4 (mks 1 P.length) from fun ww h => (RowI.of_own h).1)
    go_wp2_with fail
    refine (heldIntS_any 1 P.length v4 _ (by omega) (by omega) (HI.out _ I10.out)).mono ?_
    rintro e w' ⟨rfl, rfl⟩
    rw [HNQ.out]
    go_wp2_with fail
    refine (toStringS_any _ L _ (R0.out.mono B10.out) hlm).mono ?_
    rintro e w11 ⟨v11, rfl, hown11, hb11⟩
    have R11 := Lib.hid (RowOf.of_own hown11)
    have I11 := Lib.hid (own_belowS I10.out hb11); have B11 := Lib.hid (B10.out.trans (hb11.mono B10.out.size)); have X11 := Lib.hid (X10.out.trans (hb11.mono X10.out.size))
    clear hown11 hb11 I10 B10 X10
    go_wp2_with fail
    refine (CI.out _ _ R11.out).mono ?_
    rintro e w12 ⟨v12, rfl, ho12, hb12⟩
    have N12 := Lib.hid (RowI.of_own ho12).1
    have I12 := Lib.hid (own_belowS I11.out hb12); have B12 := Lib.hid (B11.out.trans (hb12.mono B11.out.size)); have X12 := Lib.hid (X11.out.trans (hb12.mono X11.out.size))
    clear ho12 hb12 I11 B11 X11 R11
    go_wp2_with fail
    refine (eqIntS_same v12 v2 P _ N12.out (G2'.out.mono X12.out)).mono ?_
    rintro e w13 ⟨rfl, hb13⟩
    have I13 := Lib.hid (own_belowS I12.out hb13); have B13 := Lib.hid (B12.out.trans (hb13.mono B12.out.size))
    clear hb13 I12 B12
    go_wp2_with fail
    refine (heldIntS_any 1 P.length v4 _ (by omega) (by omega) (HI.out _ I13.out)).mono ?_
    rintro e w' ⟨rfl, rfl⟩
    rw [HNQ.out]
    go_wp2
    go_ret
    exact ⟨rfl, B13.out⟩
  · clear hm
    go_wp2
    go_ret
    exact ⟨rfl, Below.refl _ _⟩

end Go.Proofs.Ytbddokfcohnndaa
