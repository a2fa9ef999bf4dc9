/-
  impl's writer of expressions: without parentheses; impl.ExprText.
-/
import Derived.Test.YtfmjbmhgceebaaaGreatDoorPrintI3
import Derived.Deep.DeepCutAuto
namespace Go.Proofs.YtfmjbmhgceebaaaGreatDoor
open Go.RowKit
set_option linter.unusedVariables false

/-- What a node and its cell are in a later world. -/
structure NodeIn (w1 w : World) (l : List Cl) (lv : Value) (S : Nat → Prop) (N f t : Nat) (c : Cl) (ks : List Pt) (v : Value) (qs : List Nat) : Prop where
  own : w1.ownsRow 0 49 1 v c.2.2.toNat (ptrs qs)
  tree : ∃ d, TrS w1 (amL l) S qs (f + 1) t d
  text : Tx l c.2.2.toNat (f + 1) t ks
  le : f + 1 ≤ t ∧ t ≤ 60
  ok : okC c = true
  low : N < w1.heap.size
  parts : w1.cell? ⟨N, 2, none⟩ = some v
theorem nodeIn {w1 w : World} {l : List Cl} {lv : Value} {S : Nat → Prop} {N f t d : Nat} {x : Pt} (hB : Base w1 l lv S) (hT : TrS w1 (amL l) S [N] f t d) (hX : Tx l 1 f t [x]) (hb : Below w1.heap.size w1 w) :
    ∃ c ks v qs lb o cap, x = (rkC c, bareT c ks) ∧ lv = .slice (some ⟨lb, o, none⟩) l.length cap ∧ f < l.length ∧ NodeIn w1 w l lv S N f t c ks v qs ∧
      w.cell? ⟨N, 0, none⟩ = some (.int .i64 (f : Int)) ∧ w.cell? ⟨N, 2, none⟩ = some v ∧
      w.cell? ⟨lb, o + f * 3, none⟩ = some (.int .i64 c.1) ∧ w.cell? ⟨lb, o + f * 3 + 1, none⟩ = some (.string c.2.1) ∧ w.cell? ⟨lb, o + f * 3 + 2, none⟩ = some (.int .i64 c.2.2) := by
  obtain ⟨c, ks, hc, hks, rfl⟩ := hX.inv
  obtain ⟨m, e, v, qs, hm, hS, hN, ho, hr, ht, -⟩ := hT.inv
  obtain ⟨lb, o, cap, rfl, hfl, c0, c1, c2, hok⟩ := hB.at hb hc
  have hm' := amL_some hc
  rw [hm] at hm'; injection hm' with hm'; subst hm'
  have hn := hN.keep hb
  obtain ⟨_, hx⟩ := hks.exs
  have hle := hx.le
  have hle2 := hT.exs.le.2 (by simp)
  rw [amL_length] at hle2
  have := hB.short
  exact ⟨c, ks, v, qs, lb, o, cap, rfl, rfl, hfl, ⟨ho, ⟨e, ht⟩, hks, ⟨by omega, by omega⟩, hok, hN.lt, hN.cell 2⟩, hn.cell 0, hn.cell 2, c0, c1, c2⟩

set_option maxRecDepth 100000 in
set_option maxHeartbeats 4000000 in
theorem bare_step {w1 : World} {l : List Cl} {lv : Value} {S : Nat → Prop} {b j : Nat} (hB : Base w1 l lv S) (ih : ExprOK w1 l lv S b j) : BareOK w1 l lv S b (j + 1) := by
  intro N f t d x T w hT hX hj hb hw hlen
  obtain ⟨⟨k, s, m⟩, ks, v, qs, lb, o, cap, rfl, rfl, hfl, hN, n0, n2, c0, c1, c2⟩ := nodeIn hB hT hX hb
  have h60 := hB.short
  have hwl := hw.list
  have hle := hN.le
  have HIH := Lib.hid ih; have HB := Lib.hid hb; have HW := Lib.hid hw; have HN := Lib.hid hN; have HBB := Lib.hid hB
  simp only at c0 c1 c2
  have ln := (cell_low n0).2; have ll := (cell_low c0).2; have lb' := HW.out.lt.2
  simp only at ln ll
  have e1 : ¬ N = w.heap.size := by omega
  have e2 : ¬ lb = w.heap.size := by omega
  have e3 : ¬ b = w.heap.size := by omega
  clear hT hX ih hb hw hN hB
  go_enter Tryz.func58, Tryz.ntmps58
  go_upto_region 0 with fail
  go_cut [4] (fun x wx => x = .pointer (some ⟨w.heap.size, 0, none⟩) ∧ wx = (w.alloc (.cells #[.int .i64 k, .string s, .int .i64 m] 41)).drew)
  case first =>
    go_region
    all_goals (go_wp2_with fail; go_meet; exact ⟨rfl, rfl⟩)
  case rest =>
    obtain ⟨rfl, hwc⟩ := hcut
    have HCP := Lib.hid (show CpAt wc w.heap.size k s m by rw [hwc]; exact CpAt.new w k s m)
    have hbA : Below w.heap.size w wc := by rw [hwc]; exact ((Below.refl _ _).alloc (Nat.le_refl _) _).drew
    have HWA := Lib.hid (HW.out.later hbA)
    have HBA := Lib.hid (HB.out.trans (hbA.mono HB.out.size))
    have HKA := Lib.hid (KT.below hbA)
    have g2 : wc.cell? ⟨N, 2, none⟩ = some v := (hbA.cell (p := ⟨N, 2, none⟩) ln).trans n2
    clear hwc hbA n0 n2 c0 c1 c2 hwl ln ll lb' e1 e2 e3
    generalize w.heap.size = CG at HCP
    obtain ⟨k0, k1, k2⟩ := HCP.out.cells
    have hks := HN.out.ok
    have hwl : s.size ≤ 60 := by simp only [okC, cellB, Bool.and_eq_true] at hks; exact word_len _ _ hks.1
    have hsl := size_list s
    by_cases h2 : k = 2
    · subst h2
      have HT := Lib.hid (show textB s = true by simp only [okC, cellB, wordB, Bool.and_eq_true] at hks; have := hks.1; simp at this; exact this.1)
      have HE := Lib.hid (show bareT (2, s, m) ks = quoteL s.data.toList from rfl)
      clear hks
      have HQ := Lib.hid (show (quoteT s).data.toList = quoteL s.data.toList by rw [quoteT, if_pos HT.out])
      have hql : (quoteT s).size ≤ 122 := by
        rw [← size_list, HQ.out]
        have := (quoteI_len s.data.toList).2
        simp only [quoteL, List.length_cons, List.length_append, List.length_nil]; omega
      go_wp2_with fail
      go_region_with (first
        | (go_at_call 84; refine (quoteText_impl s _ (by unfold maxLen; omega)).mono ?_; rintro e wq ⟨rfl, hbq⟩; have HWQ := Lib.hid ((show WrAt _ b _ T wc.drew from HWA.out).later hbq); have HBQ := Lib.hid (HBA.out.drew.trans (hbq.mono HBA.out.size)); have HKQ := Lib.hid ((HKA.out.trans (show KT wc wc.drew from KT.refl wc)).trans (KT.below hbq)); clear hbq)
        | (go_at_call 83; refine (wString_any _ b _ _ _ _ HWQ.out (by omega) HBQ.out.size).mono ?_; rintro e w4 ⟨rfl, h4, hb4, hk4⟩))
      all_goals
        have W4 := Lib.hid h4; have HB4 := Lib.hid (HBQ.out.trans hb4); have HK4 := Lib.hid (HKQ.out.trans hk4); clear h4 hb4 hk4
        go_wp2
        go_end0
        exact ⟨rfl, by have := W4.out; rw [HQ.out] at this; exact this, HB4.out, HK4.out⟩
    by_cases h5 : k = 5
    · subst h5
      have HE := Lib.hid (show bareT (5, s, m) ks = 91 :: (joinT ks ++ [93]) from rfl)
      clear hks h2
      obtain ⟨e0, ht⟩ := HN.out.tree
      have HTT := Lib.hid ht; clear ht
      go_wp2_with fail
      refine (series_any HBB.out HIH.out ⟨#[91]⟩ ⟨#[93]⟩ v _ (f + 1) t e0 qs ks T wc HN.out.own HTT.out HN.out.text (by omega) HBA.out HWA.out (by rw [show (⟨#[91]⟩ : ByteArray).size = 1 from rfl, show (⟨#[93]⟩ : ByteArray).size = 1 from rfl]; omega)).mono ?_
      rintro e w4 ⟨rfl, h4, hb4, hk4⟩
      have W4 := Lib.hid h4; have HB4 := Lib.hid hb4; have HK4 := Lib.hid (HKA.out.trans hk4); clear h4 hb4 hk4
      go_wp2
      go_end0
      exact ⟨rfl, by have := W4.out; rw [HE.out]; simpa using this, HB4.out, HK4.out⟩
    by_cases h6 : k = 6
    · subst h6
      have HE := Lib.hid (show bareT (6, s, m) ks = s.data.toList ++ (40 :: (joinT ks ++ [41])) from rfl)
      clear hks h2 h5
      obtain ⟨e0, ht⟩ := HN.out.tree
      have HTT := Lib.hid ht; clear ht
      have HOP := Lib.hid (show (s ++ (⟨#[40]⟩ : ByteArray)).data.toList = s.data.toList ++ [40] by simp)
      have hos : (s ++ (⟨#[40]⟩ : ByteArray)).size = s.size + 1 := by rw [← size_list, HOP.out, List.length_append, hsl]; rfl
      go_wp2_with fail
      go_region_with ((go_at_call 85; refine (series_any HBB.out HIH.out (s ++ ⟨#[40]⟩) ⟨#[41]⟩ v _ (f + 1) t e0 qs ks T wc.drew HN.out.own HTT.out HN.out.text (by omega) HBA.out.drew HWA.out (by rw [hos, show (⟨#[41]⟩ : ByteArray).size = 1 from rfl]; omega)).mono ?_; rintro e w4 ⟨rfl, h4, hb4, hk4⟩))
      all_goals
        have W4 := Lib.hid h4; have HB4 := Lib.hid hb4; have HK4 := Lib.hid ((HKA.out.trans (show KT wc wc.drew from KT.refl wc)).trans hk4); clear h4 hb4 hk4
        go_wp2
        go_end0
        exact ⟨rfl, by have := W4.out; rw [HE.out]; simpa using this, HB4.out, HK4.out⟩
    by_cases h7 : k = 7
    · subst h7
      have HE := Lib.hid (show bareT (7, s, m) ks = s.data.toList ++ parT 7 (ptAt ks 0) from rfl)
      clear hks h2 h5 h6
      have hm1 : m.toNat = 1 := by
        have := HN.out.ok
        simp only [okC, cellB, manyB, Bool.and_eq_true] at this
        have := this.2
        simp at this; omega
      obtain ⟨e0, ht⟩ := HN.out.tree
      have hq1 : qs.length = 1 := (own_len HN.out.own).trans hm1
      obtain ⟨g0, g0', x0, y0, p0, -, -, b0, b0', b0''⟩ := parts_at ht HN.out.text 0 (by show 0 < m.toNat; omega) (by omega)
      have hx0 : ptAt ks 0 = x0 := by rw [ptAt, List.getD_eq_getElem?_getD, y0]; rfl
      obtain ⟨ao, cap', rfl, p1, p2, p3⟩ := own_ptr HN.out.own
      obtain ⟨blk, rfl, hbl, cc⟩ := p3.resolve_left (by rintro rfl; simp at hq1)
      have c0 : w1.cell? ⟨blk, 0, none⟩ = _ := cc 0 (by omega)
      generalize qs[0] = q0 at p0 c0
      have HC0 := Lib.hid c0; have HP0 := Lib.hid p0
      have pl0 := parT_len 7 x0
      rw [hx0] at HE
      rw [hq1] at p1 g2
      unfold maxLen at p2
      have HG2 := Lib.hid (show w1.cell? ⟨N, 2, none⟩ = some (.slice (some ⟨blk, 0, none⟩) 1 cap') by rw [HN.out.parts, hq1])
      have hnl := HN.out.low
      clear cc p0 c0 y0 ht p3 hx0 g2
      go_wp2_with fail
      go_region_with ((go_at_call 83; refine (wString_any _ b _ T s _ (show WrAt _ b _ T wc.drew from HWA.out) (by omega) HBA.out.drew.size).mono ?_; rintro e w4 ⟨rfl, h4, hb4, hk4⟩))
      all_goals
        have W4 := Lib.hid h4; have HB4 := Lib.hid (HBA.out.drew.trans hb4); have HK4 := Lib.hid ((HKA.out.trans (show KT wc wc.drew from KT.refl wc)).trans hk4); clear h4 hb4 hk4
        have d2 : w4.cell? ⟨N, 2, none⟩ = _ := (HB4.out.cell (p := ⟨N, 2, none⟩) hnl).trans HG2.out
        have d4 : w4.cell? ⟨blk, 0, none⟩ = some (.pointer (some ⟨q0, 0, none⟩)) := (HB4.out.cell (p := ⟨blk, 0, none⟩) hbl).trans HC0.out
        go_wp2_with fail
        refine (HIH.out.part HP0.out 6 _ w4 (by omega) (by omega) (by omega) HB4.out W4.out (by simp only [List.length_append]; omega)).mono ?_
        rintro e w5 ⟨rfl, h5, hb5, hk5⟩
        have W5 := Lib.hid h5; have HB5 := Lib.hid hb5; have HK5 := Lib.hid (HK4.out.trans hk5); clear h5 hb5 hk5
        go_wp2
        go_end0
        exact ⟨rfl, by have := W5.out; rw [HE.out]; simpa using this, HB5.out, HK5.out⟩
    by_cases h8 : k = 8
    · subst h8
      clear hks h2 h5 h6 h7
      obtain ⟨e0, ht⟩ := HN.out.tree
      have HTT := Lib.hid ht; clear ht
      have hm2 : m = 2 := by
        have := HN.out.ok
        simp only [okC, cellB, manyB, Bool.and_eq_true] at this
        simpa using this.2
      subst hm2
      go_wp2_with fail
      go_region_with ((go_at_call 86; refine (binary_any HBB.out HIH.out s v (f + 1) t e0 qs ks T wc.drew HN.out.ok HN.out.own HTT.out HN.out.text (by omega) HBA.out.drew HWA.out (by omega)).mono ?_; rintro e w4 ⟨rfl, h4, hb4, hk4⟩))
      all_goals
        have W4 := Lib.hid h4; have HB4 := Lib.hid hb4; have HK4 := Lib.hid ((HKA.out.trans (show KT wc wc.drew from KT.refl wc)).trans hk4); clear h4 hb4 hk4
        go_wp2
        go_end0
        exact ⟨rfl, W4.out, HB4.out, HK4.out⟩
    by_cases h9 : k = 9
    · subst h9
      clear hks h2 h5 h6 h7 h8
      obtain ⟨e0, ht⟩ := HN.out.tree
      have HTT := Lib.hid ht; clear ht
      have hm3 : m = 3 := by
        have := HN.out.ok
        simp only [okC, cellB, manyB, Bool.and_eq_true] at this
        simpa using this.2
      subst hm3
      go_wp2_with fail
      refine (choice_any HBB.out HIH.out v (f + 1) t e0 qs ks T wc HN.out.own HTT.out HN.out.text (by omega) HBA.out HWA.out (by omega)).mono ?_
      rintro e w4 ⟨rfl, h4, hb4, hk4⟩
      have W4 := Lib.hid h4; have HB4 := Lib.hid hb4; have HK4 := Lib.hid (HKA.out.trans hk4); clear h4 hb4 hk4
      go_wp2
      go_end0
      exact ⟨rfl, W4.out, HB4.out, HK4.out⟩
    have HE := Lib.hid (show bareT (k, s, m) ks = s.data.toList by simp [bareT, h2, h5, h6, h7, h8, h9])
    have q2 : (k == 2) = false := beq_eq_false_iff_ne.mpr h2
    have q5 : (k == 5) = false := beq_eq_false_iff_ne.mpr h5
    have q6 : (k == 6) = false := beq_eq_false_iff_ne.mpr h6
    have q7 : (k == 7) = false := beq_eq_false_iff_ne.mpr h7
    have q8 : (k == 8) = false := beq_eq_false_iff_ne.mpr h8
    have q9 : (k == 9) = false := beq_eq_false_iff_ne.mpr h9
    clear hks h2 h5 h6 h7 h8 h9
    go_wp2_with fail
    go_region_with ((go_at_call 83; refine (wString_any _ b _ T s _ (show WrAt _ b _ T wc.drew from HWA.out) (by omega) HBA.out.drew.size).mono ?_; rintro e w4 ⟨rfl, h4, hb4, hk4⟩))
    all_goals
      have W4 := Lib.hid h4; have HB4 := Lib.hid (HBA.out.drew.trans hb4); have HK4 := Lib.hid ((HKA.out.trans (show KT wc wc.drew from KT.refl wc)).trans hk4); clear h4 hb4 hk4
      go_wp2
      go_end0
      exact ⟨rfl, by have := W4.out; rw [HE.out]; exact this, HB4.out, HK4.out⟩

theorem expr_all {w1 : World} {l : List Cl} {lv : Value} {S : Nat → Prop} {b : Nat} (hB : Base w1 l lv S) : ∀ j, ExprOK w1 l lv S b j := by
  intro j
  induction j with
  | zero =>
    intro N f t d x least T w hT hX hj
    have := hT.exs.le
    simp at this; omega
  | succ j ih => exact expr_step hB (bare_step hB ih)

theorem wordB_ne {k m : Int} {s : ByteArray} (h : okC (k, s, m) = true) (h5 : k ≠ 5) (h9 : k ≠ 9) (h2 : k ≠ 2) : s.data.toList ≠ [] := by
  intro hs
  obtain rfl : s = ⟨#[]⟩ := ba_eq (by rw [hs])
  simp only [okC, cellB, Bool.and_eq_true] at h
  have h := h.1
  unfold wordB at h
  repeat' split at h
  all_goals first
    | exact h5 ‹_›
    | exact h9 ‹_›
    | exact h2 ‹_›
    | (revert h; decide)
theorem bareT_ne {c : Cl} (h : okC c = true) (ks : List Pt) : bareT c ks ≠ [] := by
  obtain ⟨k, s, m⟩ := c
  have hw := wordB_ne h
  unfold bareT
  repeat' split
  all_goals first
    | (simp [quoteL]; done)
    | (simp; done)
    | (simp_all; done)
theorem textE_ne {l : List Cl} (hok : okE l = true) : textE l ≠ [] := by
  obtain ⟨x, h⟩ := okE_tx hok
  rw [textE_of hok h]
  obtain ⟨c, ks, hc, -, rfl⟩ := h.inv
  obtain ⟨hl, he⟩ := List.getElem?_eq_some_iff.mp hc
  exact bareT_ne (by rw [← he]; exact okC_all ((okE_iff l).mp hok).2.1 _ hl) ks

set_option maxRecDepth 100000 in
set_option maxHeartbeats 4000000 in
theorem exprText_impl (v : Value) (l : List Cl) (w : World) (hr : RowC w v l) (hz : SizedC l) (htab : Tab w) :
    Calls Tryz.prog 13 #[v] w fun e w' => e = .returned (.string ⟨(textE l).toArray⟩) ∧ Below w.heap.size w w' := by
  have HC := Lib.hid (exprTree_any v l w hr hz htab)
  have HR := Lib.hid hr
  obtain ⟨ao, cap, rfl, h1, h2, h3⟩ := hr
  unfold maxLen at h2
  clear h3 hz
  go_enter Tryz.func13, Tryz.ntmps13
  go_wp2_with fail
  refine HC.out.mono ?_
  rintro e w1 ⟨hb1, ⟨N, d, rfl, hok, hd, ht⟩ | ⟨rfl, hno⟩⟩
  · have HB := Lib.hid hb1; have HT := Lib.hid ht
    obtain ⟨x, hx⟩ := okE_tx hok
    have hoi := (okE_iff l).mp hok
    have HE := Lib.hid (textE_of hok hx); have HNE := Lib.hid (textE_ne hok)
    have HBS := Lib.hid (show Base w1 l _ (fun b => w.heap.size ≤ b ∧ b < w1.heap.size) from ⟨HR.out.mono hb1, hoi.2.1, hoi.1, fun b h => h.2⟩)
    have HX := Lib.hid hx
    have hlx := (hx.short hoi.2.1).1
    have hl60 := hoi.1
    have PB := Lib.hid (parT_bare (x := x) (r := 0 + 1) (by have := (hx.rk hoi.2.1 x (by simp)).1; omega))
    clear hb1 hok ht hx hoi
    have HN := Lib.hid (WrAt.new w1 (.slice ao l.length cap))
    have HBN := Lib.hid ((Below.refl w1.heap.size w1).alloc (Nat.le_refl _) (.cells #[.slice ao l.length cap, .pointer none, .slice none 0 0] 55))
    go_wp2_with fail
    refine (expr_all (b := w1.heap.size) HBS.out l.length N 0 l.length d x 0 [] _ HT.out HX.out (by omega) (by omega) (by omega) HBN.out HN.out (by simp; omega)).mono ?_
    rintro e w2 ⟨rfl, h4, hb4, hk4⟩
    rw [PB.out, List.nil_append, ← HE.out] at h4
    have W4 := Lib.hid h4; have HB4 := Lib.hid hb4; clear h4 hb4 hk4
    go_wp2_with fail
    refine (wText_any _ w1.heap.size _ _ _ W4.out HNE.out).mono ?_
    rintro e w3 ⟨rfl, hb5⟩
    have HB5 := Lib.hid (HB.out.trans ((HB4.out.trans hb5).mono HB.out.size)); clear hb5
    go_wp2
    go_ret
    exact ⟨rfl, HB5.out⟩
  · have HE := Lib.hid (textE_no hno)
    have HB := Lib.hid hb1
    clear hb1 hno
    go_wp2
    go_ret
    exact ⟨by rw [HE.out]; rfl, HB.out⟩

end Go.Proofs.YtfmjbmhgceebaaaGreatDoor
