/-
  spec's l5Depth, ExprValid, ExprDepth, by their contracts.
-/
import Derived.Test.YtncehcklppakcaaGreatDoorExprS
namespace Go.Proofs.YtncehcklppakcaaGreatDoor
open Go.RowKit
set_option linter.unusedVariables false

set_option maxRecDepth 100000 in
set_option maxHeartbeats 4000000 in
theorem l5Depth_any (v : Value) (l : List Cl) (h60 : l.length ≤ 60) (hok : l.all okM = true) (j : Nat) : ∀ (f t d : Nat) (w : World), Exs (amL l) 1 f t d → t - f ≤ j → RowC w v l →
    Calls Tryz.prog 41 #[v, .int .i64 (f : Int)] w fun e w' => e = .returned (.int .i64 (d : Int)) ∧ Below w.heap.size w w' := by
  induction j with
  | zero => intro f t d w h hj; have := h.le; omega
  | succ j ih =>
    intro f t d w h hj hr
    obtain ⟨m, e, hm, hx, rfl⟩ := h.inv
    have HK := Lib.hid (l5Kids_any v l f m t e w hr h60 hok hm hx)
    have HR := Lib.hid hr
    obtain ⟨ao, cap, rfl, h1, h2, h3⟩ := hr
    unfold maxLen at h2
    have hdep := ExsS.dep hx
    have htl := h.le.2 (by omega)
    rw [amL_length] at htl
    have hml : m ≤ 60 := by have := hx.le; omega
    have IH := Lib.hid ih; have HX := Lib.hid hx
    have HLEN := Lib.hid (kidsL_length (amL l) m (f + 1))
    have HST := Lib.hid (show Exs (amL l) 0 (f + 1) (f + 1) 0 from .nil _)
    clear h3 ih h hm hx
    go_enter Tryz.func41, Tryz.ntmps41
    go_wp2_with fail
    refine HK.out.mono ?_
    rintro e1 w1 ⟨v1, rfl, hown1, hb1⟩
    obtain ⟨hri, -⟩ := RowI.of_own hown1
    have HB1 := Lib.hid hb1
    generalize hL : kidsL (amL l) (f + 1) m = L at *
    have HLL := Lib.hid hL; clear hL
    obtain ⟨bo, cp, rfl, g1, g2, g3⟩ := hri
    have hLm := HLEN.out
    rw [hLm] at g1 ⊢
    unfold maxLen at g2
    have G3 := Lib.hid g3
    clear g3 hb1 hown1 hLm
    go_wp2_with fail
    go_loopw [5, 7] (fun dp i wr => ∃ k e0 : Nat, k ≤ m ∧ i = .int .i64 (k : Int) ∧ dp = .int .i64 (e0 : Int) ∧ (∃ g, Exs (amL l) k (f + 1) g e0) ∧ Below w1.heap.size w1 wr) (fun _ i _ => m - (intOf i).toNat)
    case atStart => exact ⟨0, 0, Nat.zero_le _, rfl, rfl, ⟨_, HST.out⟩, Below.refl _ _⟩
    case round =>
      obtain ⟨k, e0, hk, rfl, rfl, hgx, hb⟩ := hrel
      have HG := Lib.hid hgx; have HB := Lib.hid hb; clear hgx hb
      by_cases hlt : k < m
      · obtain ⟨kk, g', d0, d1, d2, j1, j2, j3, j4, j5, j6⟩ := kid_at HX.out k hlt
        obtain ⟨gx, hgx⟩ := HG.out
        obtain ⟨rfl, rfl⟩ := hgx.uniq j2
        rw [HLL.out] at j1
        have hkL : k < L.length := by rw [HLEN.out]; exact hlt
        rw [List.getElem?_eq_getElem hkL] at j1; injection j1 with j1
        obtain ⟨b, rfl, hbl, cc⟩ := G3.out.resolve_left (by rintro rfl; simp at hkL)
        have c1 := cc k hkL
        rw [j1] at c1
        have c1' := (HB.out.cell (p := ⟨b, k, none⟩) hbl).trans c1
        have l2 := j2.le; have l3 := j3.le; have l5 := j5.le; have p2 := ExsS.dep j2; have p3 := ExsS.dep j3
        have HJ3 := Lib.hid j3; have HJ4 := Lib.hid j4
        clear cc c1 j1 j2 j3 j4 j5 hgx HG
        go_wp2_with fail
        refine (IH.out _ g' d1 _ HJ3.out (by omega) (HR.out.mono (HB1.out.trans (HB.out.mono HB1.out.size)))).mono ?_
        rintro e2 w2 ⟨rfl, hb2⟩
        have HB2 := Lib.hid (HB.out.trans (hb2.mono HB.out.size)); clear hb2
        go_wp2
        go_roundw
        case rel => exact ⟨k + 1, max e0 d1, by omega, by go_num, by first | rfl | (congr 1; omega), ⟨_, HJ4.out⟩, HB2.out⟩
        case measure => simp [intOf]; omega
      · obtain rfl : k = m := by omega
        obtain ⟨gx, hgx⟩ := HG.out
        obtain ⟨-, rfl⟩ := hgx.uniq HX.out
        have HBB := Lib.hid (HB1.out.trans (HB.out.mono HB1.out.size))
        clear hgx
        go_wp2
        go_ret
        exact ⟨ret_iS (by omega), HBB.out⟩

theorem okS_cell {l : List Cl} (h : ¬ l.all okC = true) : okE l = false := by
  rw [Bool.eq_false_iff]; intro h'; exact h ((okE_iff l).mp h').2.1
theorem all_takeS {l : List Cl} {k : Nat} (h : k < l.length) : (l.take (k + 1)).all okC = ((l.take k).all okC && okC l[k]) := by
  rw [List.take_succ_eq_append_getElem h, List.all_append]; simp

set_option maxRecDepth 100000 in
set_option maxHeartbeats 4000000 in
theorem exprValid_spec (v : Value) (l : List Cl) (w : World) (hr : RowC w v l) (hz : ShortC l) (hl : l.length ≤ 1048576) :
    Calls Tryz.prog 15 #[v] w fun e w' => e = .returned (.bool (okE l)) ∧ Below w.heap.size w w' := by
  have HR := Lib.hid hr
  obtain ⟨ao, cap, rfl, h1, h2, h3⟩ := hr
  unfold maxLen at h2
  have H3 := Lib.hid h3; have HZ := Lib.hid hz; clear h3 hz
  have key : ∃ b, okE l = b := ⟨_, rfl⟩
  obtain ⟨bk, hbk⟩ := key
  rw [hbk]
  have HBK := Lib.hid hbk; clear hbk
  go_enter Tryz.func15, Tryz.ntmps15
  go_wp2
  go_loopw [3] (fun i wr => ∃ k : Nat, k ≤ l.length ∧ i = .int .i64 (k : Int) ∧ (l.take k).all okC = true ∧ Below w.heap.size w wr) (fun i _ => l.length - (intOf i).toNat)
  case atStart => exact ⟨0, Nat.zero_le _, rfl, rfl, Below.refl _ _⟩
  case round =>
    obtain ⟨k, hk, rfl, hok, hb⟩ := hrel
    have HOK := Lib.hid hok; have HB := Lib.hid hb; clear hok hb
    by_cases hlt : k < l.length
    · obtain ⟨b, o, rfl, hbl, cc⟩ := H3.out.resolve_left (by rintro rfl; simp at hlt)
      obtain ⟨c0, c1, c2⟩ := cc k hlt
      have d0 : wr.cell? ⟨b, o + k * 3, none⟩ = some (.int .i64 l[k].1) := (HB.out.cell (p := ⟨b, _, none⟩) hbl).trans c0
      have d1 : wr.cell? ⟨b, o + k * 3 + 1, none⟩ = some (.string l[k].2.1) := (HB.out.cell (p := ⟨b, _, none⟩) hbl).trans c1
      have d2 : wr.cell? ⟨b, o + k * 3 + 2, none⟩ = some (.int .i64 l[k].2.2) := (HB.out.cell (p := ⟨b, _, none⟩) hbl).trans c2
      have hzk : l[k].2.1.size ≤ 1048576 := HZ.out _ (List.getElem_mem _)
      have HT := Lib.hid (all_takeS hlt)
      have HC := Lib.hid (show okC l[k] = cellB l[k].1 l[k].2.1 l[k].2.2 from rfl)
      generalize l[k].1 = kk at d0 HC
      generalize l[k].2.1 = ss at d1 HC hzk
      generalize l[k].2.2 = mm at d2 HC
      have HZK := Lib.hid hzk
      clear cc c0 c1 c2 hzk
      go_wp2_with fail
      refine (cellValid_spec kk mm ss _ HZK.out).mono ?_
      rintro e w1 ⟨rfl, hb1⟩
      have HB1 := Lib.hid (HB.out.trans (hb1.mono HB.out.size)); clear hb1
      cases hcb : cellB kk ss mm with
      | true =>
        have HN := Lib.hid (show (l.take (k + 1)).all okC = true by rw [HT.out, HOK.out, HC.out, hcb]; rfl)
        clear hcb
        go_wp2
        go_roundw
        case rel => exact ⟨k + 1, by omega, by go_num, HN.out, HB1.out⟩
        case measure => simp [intOf]; omega
      | false =>
        have HN := Lib.hid (okS_cell (l := l) (fun h => by
          have := okC_all h k hlt
          rw [HC.out, hcb] at this; cases this))
        clear hcb
        go_wp2
        go_ret
        exact ⟨ret_b (HN.out.symm.trans HBK.out), HB1.out⟩
    · obtain rfl : k = l.length := by omega
      have HAL := Lib.hid (show l.all okC = true by have := HOK.out; rwa [List.take_of_length_le (Nat.le_refl _)] at this)
      by_cases hin : 1 ≤ l.length ∧ l.length ≤ 60
      · have HIN := Lib.hid (show inI (l.length : Int) 1 60 = true by simp [inI]; omega)
        cases hsc : scA ((amL l).drop 0) 0 1 with
        | none =>
          have HE := Lib.hid (endI_none hsc)
          have HN := Lib.hid (show okE l = false by
            rw [Bool.eq_false_iff]; intro h'
            obtain ⟨-, -, d, -, hx⟩ := (okE_iff l).mp h'
            rw [hx.sc0] at hsc; cases hsc)
          have hne : ((-1 : Int) == (l.length : Int)) = false := beq_eq_false_iff_ne.mpr (by omega)
          clear hsc
          go_wp2_with fail
          refine (l1In_any _ _ _ _).mono ?_
          rintro e w' ⟨rfl, rfl⟩
          rw [HIN.out]
          go_wp2_with fail
          refine (l5End_any _ l 0 _ (HR.out.mono HB.out) hin.2 (allM_of HAL.out) (Nat.zero_le _)).mono ?_
          rintro e w' ⟨rfl, rfl⟩
          rw [HE.out]
          go_wp2
          go_ret
          exact ⟨ret_b (HN.out.symm.trans HBK.out), HB.out⟩
        | some t =>
          have HE := Lib.hid (endI_some hsc)
          obtain ⟨d, hx⟩ := exs_of_sc (amL l) (amL l).length 1 0 t (by omega) hsc
          have HX := Lib.hid hx
          have hdep := ExsS.dep hx
          have hle := hx.le.2 (by omega)
          rw [amL_length] at hle
          clear hsc hx
          by_cases htl : t = l.length
          · subst htl
            have HN := Lib.hid (show okE l = decide ((d : Int) ≤ 12) by
              rw [Bool.eq_iff_iff, okE_iff, decide_eq_true_eq]
              constructor
              · rintro ⟨-, -, d', hd, hx'⟩
                obtain ⟨-, rfl⟩ := HX.out.uniq hx'; omega
              · intro hd; exact ⟨hin.2, HAL.out, d, by omega, HX.out⟩)
            have hne : ((l.length : Int) == (l.length : Int)) = true := beq_self_eq_true _
            go_wp2_with fail
            refine (l1In_any _ _ _ _).mono ?_
            rintro e w' ⟨rfl, rfl⟩
            rw [HIN.out]
            go_wp2_with fail
            refine (l5End_any _ l 0 _ (HR.out.mono HB.out) hin.2 (allM_of HAL.out) (Nat.zero_le _)).mono ?_
            rintro e w' ⟨rfl, rfl⟩
            rw [HE.out]
            go_wp2_with fail
            refine (l5Depth_any _ l hin.2 (allM_of HAL.out) l.length 0 l.length d _ HX.out (by omega) (HR.out.mono HB.out)).mono ?_
            rintro e w2 ⟨rfl, hb2⟩
            have HB2 := Lib.hid (HB.out.trans (hb2.mono HB.out.size)); clear hb2
            by_cases hd : (d : Int) ≤ 12
            · have HN2 := Lib.hid (show okE l = true by rw [HN.out, decide_eq_true hd])
              go_wp2
              go_ret
              exact ⟨ret_b (HN2.out.symm.trans HBK.out), HB2.out⟩
            · go_wp2
              go_ret
              exact ⟨ret_b (HN.out.symm.trans HBK.out), HB2.out⟩
          · have HN := Lib.hid (show okE l = false by
              rw [Bool.eq_false_iff]; intro h'
              obtain ⟨-, -, d', -, hx'⟩ := (okE_iff l).mp h'
              exact htl (HX.out.uniq hx').1)
            have hne : ((t : Int) == (l.length : Int)) = false := beq_eq_false_iff_ne.mpr (by omega)
            have hne2 : (t == l.length) = false := beq_eq_false_iff_ne.mpr htl
            go_wp2_with fail
            refine (l1In_any _ _ _ _).mono ?_
            rintro e w' ⟨rfl, rfl⟩
            rw [HIN.out]
            go_wp2_with fail
            refine (l5End_any _ l 0 _ (HR.out.mono HB.out) hin.2 (allM_of HAL.out) (Nat.zero_le _)).mono ?_
            rintro e w' ⟨rfl, rfl⟩
            rw [HE.out]
            go_wp2
            go_ret
            exact ⟨ret_b (HN.out.symm.trans HBK.out), HB.out⟩
      · have HIN := Lib.hid (show inI (l.length : Int) 1 60 = false by simp [inI]; omega)
        have HN := Lib.hid (show okE l = false by
          rw [Bool.eq_false_iff]; intro h'
          obtain ⟨h60, -, d, -, hx⟩ := (okE_iff l).mp h'
          have := hx.le; omega)
        go_wp2_with fail
        refine (l1In_any _ _ _ _).mono ?_
        rintro e w' ⟨rfl, rfl⟩
        rw [HIN.out]
        go_wp2
        go_ret
        exact ⟨ret_b (HN.out.symm.trans HBK.out), HB.out⟩

end Go.Proofs.YtncehcklppakcaaGreatDoor
