/-
  The walk of laws.FnExprParts.
-/
import Derived.Test.YtiolpmpbjdclnaaGreatDoorFindP
import Derived.Test.YtiolpmpbjdclnaaGreatDoorFindSP
import Derived.Test.YtiolpmpbjdclnaaGreatDoorWalkExprEnd
import Derived.Test.YtiolpmpbjdclnaaGreatDoorSameInts
namespace Go.Proofs.YtiolpmpbjdclnaaGreatDoor
open Go.RowKit
set_option linter.unusedVariables false

theorem RowI.of_new {w : World} {b m : Nat} {v : Value} {L : List Nat} (ho : w.ownsRow b 3 1 v m (ints L)) : RowI w v L := (RowI.of_own ho).1

set_option maxRecDepth 100000 in
set_option maxHeartbeats 8000000 in
theorem fnExprParts_core (a0 : Option Addr) (len0 cap0 : Nat) (w : World) (hrow : CodeRow w a0 len0 cap0) (htab : Tab w) :
    Calls Tryz.prog 5 #[.slice a0 len0 cap0] w fun e w' => e = .returned (.bool true) ∧ Below w.heap.size w w' := by
  have hcap := hrow.1; have hmx := hrow.2.1
  unfold maxLen at hmx
  by_cases hl : len0 ≤ 1048576
  · go_enter Tryz.func5, Tryz.ntmps5
    go_wp2_with fail
    refine (drawExprParts_any a0 len0 cap0 _ hrow).mono ?_
    rintro e w1 ⟨v, l, p, rfl, hr, hs, hl60, hp0, hp1, hb⟩
    have HB := Lib.hid hb; have HR1 := Lib.hid hr; have HSH := Lib.hid hs
    clear hb hrow hr hs
    obtain ⟨ao, cp, rfl, q1, q2, -⟩ := HR1.out
    unfold maxLen at q2
    have CI := Lib.hid (exprParts_impl _ l p _ HR1.out (shortE_sized HSH.out) (htab.keep HB.out))
    have CS := Lib.hid (fun w' hr => exprParts_spec (.slice ao l.length cp) l p w' hr (shortE_short HSH.out) (by omega))
    have hPP : ∃ P, partsA l p = P := ⟨_, rfl⟩
    obtain ⟨P, hP⟩ := hPP
    rw [hP] at CI CS
    have HP := Lib.hid hP; clear hP
    go_wp2_with fail
    refine CI.out.mono ?_
    rintro e w2 ⟨v2, rfl, ho2, hb2⟩
    have HB2 := Lib.hid (HB.out.trans (hb2.mono HB.out.size)); have HR2 := Lib.hid (HR1.out.mono hb2); have I2 := Lib.hid (RowI.of_new ho2); clear hb2 ho2 HB HR1 CI
    obtain ⟨xo, xc, rfl, x1, x2, -⟩ := I2.out
    unfold maxLen at x2
    go_wp2_with fail
    refine (CS.out _ HR2.out).mono ?_
    rintro e w3 ⟨v3, rfl, ho3, hb3⟩
    have HB3 := Lib.hid (HB2.out.trans (hb3.mono HB2.out.size)); have HR3 := Lib.hid (HR2.out.mono hb3); have I3 := Lib.hid (I2.out.mono hb3); have J3 := Lib.hid (RowI.of_new ho3); clear hb3 ho3 HB2 HR2 I2 CS
    go_wp2_with fail
    refine (sameInts_same _ v3 P _ I3.out J3.out).mono ?_
    rintro e w4 ⟨rfl, hb4⟩
    have HB4 := Lib.hid (HB3.out.trans (hb4.mono HB3.out.size)); have HR4 := Lib.hid (HR3.out.mono hb4); have I4 := Lib.hid (I3.out.mono hb4); clear hb4 HB3 HR3 I3 J3
    go_wp2_with fail
    refine (exprValid_spec _ l _ HR4.out (shortE_short HSH.out) (by omega)).mono ?_
    rintro e w5 ⟨rfl, hb5⟩
    have HB5 := Lib.hid (HB4.out.trans (hb5.mono HB4.out.size)); have HR5 := Lib.hid (HR4.out.mono hb5); have I5 := Lib.hid (I4.out.mono hb5); clear hb5 HB4 HR4 I4
    by_cases hin : okE l = true ∧ 0 ≤ p ∧ p < (l.length : Int)
    · obtain ⟨hok, h0, h1⟩ := hin
      obtain ⟨k, rfl⟩ := Int.eq_ofNat_of_zero_le h0
      have hkl : k < l.length := by omega
      obtain ⟨m, t, d, hm, hx, hx1⟩ := inside_ok hok k hkl
      have hPK := partsA_yes (a := (k : Int)) rfl hkl hok hm
      rw [HP.out] at hPK
      have hPL : P.length = m := by rw [hPK, kidsL_length]
      subst hPL
      have HPK := Lib.hid hPK; have HX := Lib.hid hx
      have hal := ((okE_iff l).mp hok).2.1
      have HET := Lib.hid (endA_yes (a := (k : Int)) rfl hkl hok hx1)
      have hle := hx.le
      have htl := hx1.le.2 (by omega)
      rw [amL_length] at htl
      have HEN := Lib.hid (show ∀ g g' e : Nat, Exs (amL l) 1 g g' e → endA l (g : Int) = (g' : Int) from fun g g' e h => by
        have h1 := h.le; have h2 := h1.2 (by omega); rw [amL_length] at h2
        exact endA_yes rfl (by omega) hok h)
      obtain ⟨ao', cp', hv, -, -, hq⟩ := HR5.out
      simp only [Value.slice.injEq] at hv
      obtain ⟨rfl, -, rfl⟩ := hv
      obtain ⟨b, off, rfl, hbl, hcc⟩ := hq.resolve_left (by rintro rfl; simp at hkl)
      obtain ⟨-, -, c2⟩ := hcc k hkl
      have hmm : l[k].2.2 = (P.length : Int) := by
        have h1 := okC_many (okC_all hal k hkl)
        rw [amL_at l k hkl] at hm; injection hm with hm; omega
      rw [hmm] at c2
      have C2 := Lib.hid c2
      obtain ⟨xo', xc', hv2, -, -, hq2⟩ := I5.out
      simp only [Value.slice.injEq] at hv2
      obtain ⟨rfl, -, rfl⟩ := hv2
      have Q2 := Lib.hid hq2
      have HST := Lib.hid (show Exs (amL l) 0 (k + 1) (k + 1) 0 from .nil _)
      have hm60 : P.length ≤ 60 := by omega
      have hbk1 : decide (l.length ≤ k) = false := decide_eq_false (by omega)
      have hbk2 : decide ((k : Int) < 0) = false := decide_eq_false (by omega)
      rw [hok]
      clear hok hm hx hx1 hcc hmm hal hq hq2 hPK c2
      go_wp2_with fail
      go_loopw [6, 7] (fun nx i wr => ∃ j g e : Nat, j ≤ P.length ∧ i = .int .i64 (j : Int) ∧ nx = .int .i64 (g : Int) ∧ Exs (amL l) j (k + 1) g e ∧ Below w5.heap.size w5 wr) (fun _ i _ => P.length - (intOf i).toNat)
      case atStart => exact ⟨0, k + 1, 0, Nat.zero_le _, rfl, by go_num, HST.out, Below.refl _ _⟩
      case round =>
        obtain ⟨j, g, e, hj, rfl, rfl, hxj, hbw⟩ := hrel
        have HXJ := Lib.hid hxj; have HBW := Lib.hid hbw
        have HBW0 := Lib.hid (HB5.out.trans (hbw.mono HB5.out.size))
        clear hxj hbw
        by_cases hlt : j < P.length
        · obtain ⟨kk, g', d0, d1, d2, j1, j2, j3, j4, j5, j6⟩ := kid_at HX.out j hlt
          obtain ⟨rfl, -⟩ := HXJ.out.uniq j2
          rw [← HPK.out] at j1
          have hjP : j < P.length := by omega
          rw [List.getElem?_eq_getElem hjP] at j1; injection j1 with j1
          obtain ⟨xb, rfl, hxl, xcc⟩ := Q2.out.resolve_left (by rintro rfl; simp at hjP)
          have e1 := xcc j hjP
          rw [j1] at e1
          have e2 := (HBW.out.cell (p := ⟨xb, j, none⟩) hxl).trans e1
          have hgg : ((g : Int) != (g : Int)) = false := by simp
          have HE := Lib.hid (HEN.out g g' d1 j3); have HJ4 := Lib.hid j4
          have l3 := j3.le.2 (by omega)
          rw [amL_length] at l3
          clear xcc e1 j1 j2 j3 j4 j5 j6
          go_wp2_with fail
          refine (exprEnd_impl _ l (g : Int) _ (HR5.out.mono HBW.out) (shortE_sized HSH.out) (htab.keep HBW0.out)).mono ?_
          rintro e3 w6 ⟨rfl, hb6⟩
          rw [HE.out]
          have HB6 := Lib.hid (HBW.out.trans (hb6.mono HBW.out.size)); clear hb6
          go_wp2
          go_roundw
          case rel => exact ⟨j + 1, g', _, by omega, by go_num, rfl, HJ4.out, HB6.out⟩
          case measure => simp [intOf]; omega
        · obtain rfl : j = P.length := by omega
          have HJJ := Lib.hid hlt; clear hlt
          obtain ⟨rfl, -⟩ := HXJ.out.uniq HX.out
          have c2' := (HBW.out.cell (p := ⟨b, off + k * 3 + 2, none⟩) hbl).trans C2.out
          have hjj : ((P.length : Int) == (P.length : Int)) = true := by simp
          have hgg : ((g : Int) == (g : Int)) = true := by simp
          go_wp2_with fail
          refine (exprEnd_impl _ l (k : Int) _ (HR5.out.mono HBW.out) (shortE_sized HSH.out) (htab.keep HBW0.out)).mono ?_
          rintro e3 w6 ⟨rfl, hb6⟩
          rw [HET.out]
          have HB6 := Lib.hid (HBW0.out.trans (hb6.mono HBW0.out.size)); clear hb6
          go_wp2
          go_ret
          exact ⟨rfl, HB6.out⟩
    · have hPN := partsA_no hin
      rw [HP.out] at hPN
      subst hPN
      cases hok : okE l with
      | false =>
        go_wp2_with fail
        refine (alive_any _).mono ?_
        rintro e w' ⟨rfl, rfl⟩
        go_wp2
        go_ret
        exact ⟨rfl, HB5.out⟩
      | true =>
        by_cases hp : p < 0
        · clear hok hin
          go_wp2_with fail
          refine (alive_any _).mono ?_
          rintro e w' ⟨rfl, rfl⟩
          go_wp2
          go_ret
          exact ⟨rfl, HB5.out⟩
        · have hge : (l.length : Int) ≤ p := by
            by_cases h : p < (l.length : Int)
            · exact absurd ⟨hok, by omega, h⟩ hin
            · omega
          clear hok hin
          go_wp2_with fail
          refine (alive_any _).mono ?_
          rintro e w' ⟨rfl, rfl⟩
          go_wp2
          go_ret
          exact ⟨rfl, HB5.out⟩
  · go_enter Tryz.func5, Tryz.ntmps5
    go_wp2
    go_ret
    exact ⟨rfl, Below.refl _ _⟩

end Go.Proofs.YtiolpmpbjdclnaaGreatDoor
