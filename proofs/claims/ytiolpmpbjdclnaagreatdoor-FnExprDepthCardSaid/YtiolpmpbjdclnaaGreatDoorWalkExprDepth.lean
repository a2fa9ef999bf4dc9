/-
  The walk of laws.FnExprDepth.
-/
import Derived.Test.YtiolpmpbjdclnaaGreatDoorFindP
import Derived.Test.YtiolpmpbjdclnaaGreatDoorFindSP
import Derived.Test.YtiolpmpbjdclnaaGreatDoorWalkExprEnd
import Derived.Test.YtiolpmpbjdclnaaGreatDoorExprS3
namespace Go.Proofs.YtiolpmpbjdclnaaGreatDoor
open Go.RowKit
set_option linter.unusedVariables false

set_option maxRecDepth 100000 in
set_option maxHeartbeats 8000000 in
theorem fnExprDepth_core (a0 : Option Addr) (len0 cap0 : Nat) (w : World) (hrow : CodeRow w a0 len0 cap0) (htab : Tab w) :
    Calls Tryz.prog 6 #[.slice a0 len0 cap0] w fun e w' => e = .returned (.bool true) ∧ Below w.heap.size w w' := by
  have hcap := hrow.1; have hmx := hrow.2.1
  unfold maxLen at hmx
  by_cases hl : len0 ≤ 1048576
  · go_enter Tryz.func6, Tryz.ntmps6
    go_wp2_with fail
    refine (drawExprDepth_any a0 len0 cap0 _ hrow).mono ?_
    rintro e w1 ⟨v, l, rfl, hr, hs, hl60, hb⟩
    have HB := Lib.hid hb; have HR1 := Lib.hid hr; have HSH := Lib.hid hs
    clear hb hrow hr hs
    obtain ⟨ao, cp, rfl, q1, q2, -⟩ := HR1.out
    unfold maxLen at q2
    go_wp2_with fail
    refine (exprDepth_impl _ l _ HR1.out (shortE_sized HSH.out) (htab.keep HB.out)).mono ?_
    rintro e w2 ⟨rfl, hb2⟩
    have HB2 := Lib.hid (HB.out.trans (hb2.mono HB.out.size)); have HR2 := Lib.hid (HR1.out.mono hb2); clear hb2 HB HR1
    go_wp2_with fail
    refine (exprDepth_spec _ l _ HR2.out (shortE_short HSH.out) (by omega)).mono ?_
    rintro e w3 ⟨rfl, hb3⟩
    rw [show depS l = depI l from rfl]
    have HB3 := Lib.hid (HB2.out.trans (hb3.mono HB2.out.size)); have HR3 := Lib.hid (HR2.out.mono hb3); clear hb3 HB2 HR2
    cases hok : okE l with
    | false =>
      rw [depI_no hok]
      have hm1 : ((-1 : Int) != -1) = false := by decide
      clear hok
      go_wp2_with fail
      refine (alive_any _).mono ?_
      rintro e w' ⟨rfl, rfl⟩
      go_wp2
      go_ret
      exact ⟨rfl, HB3.out⟩
    | true =>
      obtain ⟨-, hal, D, hD, hX⟩ := (okE_iff l).mp hok
      have hDI : depI l = (D : Int) := by rw [depI, if_pos hok, hX.depE]
      obtain ⟨m, d, hm, hx, rfl⟩ := hX.inv
      have hlX := hX.le
      have hl1 : 0 < l.length := by omega
      rw [hDI]
      have HPK := Lib.hid (partsA_yes (a := (0 : Int)) (k := 0) rfl hl1 hok hm)
      have HX := Lib.hid hx
      have hml : m ≤ 60 := by have := hx.le; omega
      have HEN := Lib.hid (show ∀ g g' e : Nat, Exs (amL l) 1 g g' e → endA l (g : Int) = (g' : Int) from fun g g' e h => by
        have h1 := h.le; have h2 := h1.2 (by omega); rw [amL_length] at h2
        exact endA_yes rfl (by omega) hok h)
      have HSB := Lib.hid (show ∀ g g' e : Nat, Exs (amL l) 1 g g' e → e ≤ 12 → depI ((l.take g').drop g) = (e : Int) from fun g g' e h he => (okE_sub hok h he).2)
      obtain ⟨ao', cp', hv, -, -, hq⟩ := HR3.out
      simp only [Value.slice.injEq] at hv
      obtain ⟨rfl, -, rfl⟩ := hv
      obtain ⟨b, off, rfl, hbl, -⟩ := hq.resolve_left (by rintro rfl; simp at hl1)
      have CI := Lib.hid (exprParts_impl _ l 0 _ HR3.out (shortE_sized HSH.out) (htab.keep HB3.out))
      rw [HPK.out] at CI
      have hKK : ∃ P, kidsL (amL l) (0 + 1) m = P := ⟨_, rfl⟩
      obtain ⟨P, hP⟩ := hKK
      rw [hP] at CI
      have hPL : P.length = m := by rw [← hP, kidsL_length]
      subst hPL
      have HP := Lib.hid hP
      have HST := Lib.hid (show Exs (amL l) 0 (0 + 1) (0 + 1) 0 from .nil _)
      have hne : (((d + 1 : Nat) : Int) != ((d + 1 : Nat) : Int)) = false := by simp
      have hd12 : d + 1 ≤ 12 := hD
      clear hP hok hm hx hX hal hDI hq HPK
      go_wp2_with fail
      refine CI.out.mono ?_
      rintro e w4 ⟨v4, rfl, ho4, hb4⟩
      have HB4 := Lib.hid (HB3.out.trans (hb4.mono HB3.out.size)); have HR4 := Lib.hid (HR3.out.mono hb4); have I4 := Lib.hid (RowI.of_own ho4).1; clear hb4 ho4 HB3 HR3 CI
      obtain ⟨xo, xc, rfl, x1, x2, hq2⟩ := I4.out
      unfold maxLen at x2
      have Q2 := Lib.hid hq2; clear hq2
      go_wp2_with fail
      go_loopw [5, 7, 8] (fun ms i _ wr => ∃ j g e : Nat, j ≤ P.length ∧ i = .int .i64 (j : Int) ∧ ms = .int .i64 (e : Int) ∧ Exs (amL l) j (0 + 1) g e ∧ Below w4.heap.size w4 wr) (fun _ i _ _ => P.length - (intOf i).toNat)
      case atStart => exact ⟨0, 0 + 1, 0, Nat.zero_le _, rfl, rfl, HST.out, Below.refl _ _⟩
      case round =>
        obtain ⟨j, g, e, hj, rfl, rfl, hxj, hbw⟩ := hrel
        have HXJ := Lib.hid hxj; have HBW := Lib.hid hbw
        have HBW0 := Lib.hid (HB4.out.trans (hbw.mono HB4.out.size))
        clear hxj hbw
        by_cases hlt : j < P.length
        · obtain ⟨kk, g', d0, d1, d2, j1, j2, j3, j4, j5, j6⟩ := kid_at HX.out j hlt
          obtain ⟨rfl, rfl⟩ := HXJ.out.uniq j2
          rw [HP.out] at j1
          rw [List.getElem?_eq_getElem hlt] at j1; injection j1 with j1
          obtain ⟨xb, rfl, hxl, xcc⟩ := Q2.out.resolve_left (by rintro rfl; simp at hlt)
          have e1 := xcc j hlt
          rw [j1] at e1
          have E1 := Lib.hid e1
          have e2 := (HBW.out.cell (p := ⟨xb, j, none⟩) hxl).trans e1
          have HE := Lib.hid (HEN.out g g' d1 j3); have HJ4 := Lib.hid j4
          have hd1 : d1 ≤ 12 := by omega
          have HS := Lib.hid (HSB.out g g' d1 j3 hd1)
          have l3 := j3.le
          have l3' := l3.2 (by omega)
          rw [amL_length] at l3'
          have hgg : g < g' := by omega
          have hgc : ¬ g = cp := by omega
          clear xcc e1 j1 j2 j3 j4 j5 j6 l3
          go_wp2_with fail
          refine (exprEnd_impl _ l (g : Int) _ (HR4.out.mono HBW.out) (shortE_sized HSH.out) (htab.keep HBW0.out)).mono ?_
          rintro e3 w6 ⟨rfl, hb6⟩
          rw [HE.out]
          have HB6 := Lib.hid (HBW.out.trans (hb6.mono HBW.out.size)); have HB60 := Lib.hid (HBW0.out.trans (hb6.mono HBW0.out.size))
          have e4 := (HB6.out.cell (p := ⟨xb, j, none⟩) hxl).trans E1.out
          clear hb6
          have HSUB := Lib.hid ((HR4.out.mono HB6.out).sub g g' (by omega) l3')
          go_wp2_with fail
          refine (exprDepth_impl _ ((l.take g').drop g) _ HSUB.out (fun c hc => shortE_sized HSH.out c (List.mem_of_mem_take (List.mem_of_mem_drop hc))) (htab.keep HB60.out)).mono ?_
          rintro e5 w7 ⟨rfl, hb7⟩
          rw [HS.out]
          have HB7 := Lib.hid (HB6.out.trans (hb7.mono HB6.out.size)); clear hb7
          go_wp2
          go_roundw
          case rel => exact ⟨j + 1, g', max e d1, by omega, by go_num, by first | rfl | (congr 1; omega), HJ4.out, HB7.out⟩
          case measure => simp [intOf]; omega
        · obtain rfl : j = P.length := by omega
          obtain ⟨-, rfl⟩ := HXJ.out.uniq HX.out
          have hee : (((e + 1 : Nat) : Int) == (e : Int) + 1) = true := by simp
          go_wp2
          go_ret
          exact ⟨ret_b (decide_eq_true (by omega)), HBW0.out⟩
  · go_enter Tryz.func6, Tryz.ntmps6
    go_wp2
    go_ret
    exact ⟨rfl, Below.refl _ _⟩

end Go.Proofs.YtiolpmpbjdclnaaGreatDoor
