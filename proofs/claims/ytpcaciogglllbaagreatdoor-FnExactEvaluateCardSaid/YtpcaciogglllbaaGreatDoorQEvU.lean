/- Part of the proof of FnExactEvaluate. -/
import Derived.Test.YtpcaciogglllbaaGreatDoorQEvV
namespace Go.Proofs.YtpcaciogglllbaaGreatDoor
open Go.RowKit
set_option linter.unusedVariables false

set_option maxRecDepth 100000 in
set_option maxHeartbeats 4000000 in
theorem val_unary {v ev : Value} {l : List Cl} {env : List Bd} {j : Nat} (h60 : l.length ≤ 60) (hok : l.all okC = true) (he : ∀ b ∈ env, nmL b.1 = true ∧ okV b.2 = true) (ih : ValOK v ev l env j) (f t : Nat) (s : ByteArray) (m : Int) (ks : List (Option (List Cl))) (w : World) (hc : l[f]? = some (7, s, m)) (hks : Ev l env m.toNat (f + 1) t ks) (hj : t - f ≤ j + 1) (hr : RowC w v l) (hrb : RowB w ev env) :
    Calls Tryz.prog 41 #[v, .int .i64 (f : Int), ev] w (NewCB ((combV env (7, s, m) ks).getD []) (combV env (7, s, m) ks).isSome w) := by
  obtain ⟨hfl, he0⟩ := List.getElem?_eq_some_iff.mp hc
  have hokc : okC (7, s, m) = true := by rw [← he0]; exact okC_all hok f hfl
  obtain rfl : m = 1 := by
    have := hokc
    simp only [okC, cellB, manyB, Bool.and_eq_true] at this
    simpa using this.2
  obtain ⟨dk, hxk⟩ := hks.exs
  have hkl := hxk.le
  have HKI := Lib.hid (fun w' hr' => l5Kids_any v l f _ t dk w' hr' h60 (allM_of hok) (amL_some hc) hxk)
  have HIH := Lib.hid ih; have HR := Lib.hid hr; have HRB := Lib.hid hrb; have HX := Lib.hid hks; have HOK := Lib.hid hokc
  have HV := Lib.hid (fun (k : Nat) (x : List Cl) (hk : ks[k]? = some (some x)) => hks.ok hok he _ (List.mem_of_getElem? hk) x rfl)
  obtain ⟨x0, rfl⟩ : ∃ x0, ks = [x0] := by
    have := hks.len
    match ks, this with
    | [x0], _ => exact ⟨x0, rfl⟩
  obtain ⟨gg0, gg0', y0, z0, u0, t0, b0, b0', b0''⟩ := ev_part hks 0 (by decide)
  obtain rfl : x0 = y0 := by simpa using z0
  have HQ := Lib.hid (show ∀ v, x0 = some v → combV env (7, s, 1) [x0] = if s.data.toList = [33] ∧ kdV v = 3 then some (truV (falseW v)) else if s.data.toList = [45] ∧ kdV v = 1 then some (numV (-aT v) (aB v)) else none from fun v hv => by subst hv; simp [combV])
  have HQ0 := Lib.hid (show x0 = none → combV env (7, s, 1) [x0] = none from fun hv => by subst hv; simp [combV])
  have hsw : s.toList = [33] ∨ s.toList = [45] := by
    rw [ByteArray.toList_eq]
    have := hokc
    simp only [okC, cellB, wordB, Bool.and_eq_true] at this
    simpa using this.1
  have hsd : s.toList = s.data.toList := ByteArray.toList_eq ..
  obtain ⟨ao, cap, rfl, h1, h2, h3⟩ := hr
  unfold maxLen at h2
  obtain ⟨b, o, rfl, hbl, cc⟩ := h3.resolve_left (by rintro rfl; simp at hfl)
  obtain ⟨c0, c1, c2⟩ := cc f hfl
  rw [he0] at c0 c1 c2
  simp only at c0 c1 c2
  have e2 : ¬ b = w.heap.size := by omega
  clear cc h3 hc hks ih he0 hxk hokc hok he hrb
  have HCP := Lib.hid (CpE.new w 7 s 1)
  have hbA := (Below.refl w.heap.size w).alloc (Nat.le_refl _) (.cells #[.int .i64 7, .string s, .int .i64 1] 44)
  have HBA := Lib.hid hbA
  go_enter Tryz.func41, Tryz.ntmps41
  go_wp2_with fail
  refine (HKI.out _ (HR.out.mono HBA.out)).mono ?_
  rintro e1 w1 ⟨v1, rfl, hown1, hb1⟩
  obtain ⟨hri, hrl⟩ := RowI.of_own hown1
  have hLm := kidsL_length (amL l) (1 : Int).toNat (f + 1)
  have HB1 := Lib.hid (HBA.out.trans (hb1.mono HBA.out.size))
  have HCP1 := Lib.hid (HCP.out.keep hb1)
  have HR1 := Lib.hid (HR.out.mono HB1.out)
  have HRB1 := Lib.hid (HRB.out.mono HB1.out)
  generalize hL : kidsL (amL l) (f + 1) (1 : Int).toNat = L at hri hLm
  have HL := Lib.hid hL; clear hL
  obtain ⟨bo, cp, rfl, g1, g2, g3⟩ := hri
  rw [hLm] at g1
  rw [hLm]
  unfold maxLen at g2
  have HG3 := Lib.hid g3
  clear g3 hb1 hbA hown1 hrl HCP HBA c0 c1 c2 e2
  generalize w.heap.size = CG at HCP1
  obtain ⟨-, k0, k1, k2⟩ := HCP1.out
  obtain ⟨bk, rfl, hbk, hck⟩ := kidE_cell HG3.out (by rw [hLm]; decide)
  have q0 := hck 0 gg0 (by rw [← HL.out]; exact u0)
  have HP0 := Lib.hid (fun w' hr' hb' => HIH.out gg0 gg0' x0 w' t0 (by omega) hr' hb')
  clear hck z0 u0 t0 b0 b0' b0''
  go_wp2_with fail
  refine (HP0.out _ HR1.out HRB1.out).mono ?_
  rintro e w2 ⟨u, rfl, hown, hb2⟩
  have HB2 := Lib.hid (HB1.out.trans (hb2.mono HB1.out.size))
  have HR2 := Lib.hid (HR1.out.mono hb2)
  have HRB2 := Lib.hid (HRB1.out.mono hb2)
  have HCP2 := Lib.hid (HCP1.out.keep hb2)
  have hbk2 := Nat.lt_of_lt_of_le hbk hb2.size
  obtain ⟨-, k0, k1, k2⟩ := HCP2.out
  clear q0
  cases x0 with
  | none =>
    have HN := Lib.hid (HQ0.out rfl)
    clear hown hb2 hsw hsd
    go_wp2
    exact bodyPost_ret (v := .tuple #[.slice (some ⟨_, 0, none⟩) 0 0, .bool false]) (by simp [results, Tryz.results41, go_sem]; rfl) rfl (newCB_no HB2.out (by simp) (by rw [HN.out]; rfl) (by rw [HN.out]; rfl))
  | some v0 =>
    have hokv := HV.out 0 v0 rfl
    obtain ⟨ub, uo, uc, rfl, hup, hul, p0, p1, hru⟩ := val_head (l := v0) hown hokv
    clear hown hb2
    rcases hsw with hs | hs
    · have hs2 : ¬ s.toList = [45] := by rw [hs]; decide
      by_cases hk : kdV v0 = 3
      · have HN := Lib.hid ((HQ.out v0 rfl).trans (if_pos ⟨hsd.symm.trans hs, hk⟩))
        rw [hk] at p0
        have htl : ((wdV v0).toList == [102, 97, 108, 115, 101]) = falseW v0 := by rw [ByteArray.toList_eq]; rfl
        cases hf : falseW v0
        all_goals
          rw [hf] at htl HN
          have htl2 := htl
          simp only [beq_iff_eq, beq_eq_false_iff_ne, ne_eq] at htl2
          generalize wdV v0 = sv at p1 htl htl2
          clear hk hf hsd
          go_wp2_with fail
          refine (l9Truth_any _ _).mono ?_
          rintro e w4 ⟨u2, rfl, hown2, hb4⟩
          have HO := Lib.hid (own_base (base' := w.heap.size) hown2 (fun g hg => Nat.le_trans HB2.out.size (hown2.lt g hg).1))
          have HBN := Lib.hid (HB2.out.trans (hb4.mono HB2.out.size))
          clear hown2 hb4
          go_wp2
          exact bodyPost_ret (v := .tuple #[u2, .bool true]) (by simp [results, Tryz.results41, go_sem]) rfl (by rw [HN.out]; exact ⟨u2, rfl, HO.out, HBN.out⟩)
      · have HN := Lib.hid ((HQ.out v0 rfl).trans ((if_neg (fun q => hk q.2)).trans (if_neg (fun q => hs2 (hsd.trans q.1)))))
        have hkb : (kdV v0 == 3) = false := beq_false_of_ne hk
        generalize kdV v0 = kv at p0 hkb
        clear hk hsd
        go_wp2
        exact bodyPost_ret (v := .tuple #[.slice (some ⟨_, 0, none⟩) 0 0, .bool false]) (by simp [results, Tryz.results41, go_sem]; rfl) rfl (newCB_no HB2.out (by simp) (by rw [HN.out]; rfl) (by rw [HN.out]; rfl))
    · have hs2 : ¬ s.toList = [33] := by rw [hs]; decide
      by_cases hk : kdV v0 = 1
      · have HN := Lib.hid ((HQ.out v0 rfl).trans ((if_neg (fun q => hs2 (hsd.trans q.1))).trans (if_pos ⟨hsd.symm.trans hs, hk⟩)))
        rw [hk] at p0
        have hvb := numE_ok hokv hk
        obtain ⟨r1, r2, -⟩ := (vB_iff _ _).mp hvb
        have hsz := (okV_len hokv).2
        have HRF := Lib.hid (fun w' => readFraction_spec (wdV v0) w' (by omega))
        have hTd : aT v0 = rdT (wdV v0) := rfl
        have hBd : aB v0 = rdB (wdV v0) := rfl
        rw [← hTd, ← hBd] at HRF
        generalize aT v0 = T at HRF HN r1 r2
        generalize aB v0 = B at HRF HN
        generalize rdOK (wdV v0) = okf at HRF
        generalize wdV v0 = sv at p1 HRF
        clear hk hsd hTd hBd hvb hsz
        go_wp2_with fail
        refine (HRF.out _).mono ?_
        rintro e w3 ⟨rfl, hb3⟩
        have HB3 := Lib.hid (HB2.out.trans (hb3.mono HB2.out.size))
        have HB3a := Lib.hid (HB3.out.alloc HB3.out.size (.cells #[.int .i64 T, .int .i64 B] 94))
        clear hb3 p0 p1 k0 k1 k2
        go_wp2_with fail
        refine (l9Number_any _ _ _).mono ?_
        rintro e w4 ⟨u2, rfl, hown2, hb4⟩
        have HO := Lib.hid (own_base (base' := w.heap.size) hown2 (fun g hg => Nat.le_trans HB3a.out.size (hown2.lt g hg).1))
        have HBN := Lib.hid (HB3a.out.trans (hb4.mono HB3a.out.size))
        clear hown2 hb4
        go_wp2
        exact bodyPost_ret (v := .tuple #[u2, .bool true]) (by simp [results, Tryz.results41, go_sem]) rfl (by rw [HN.out]; exact ⟨u2, rfl, HO.out, HBN.out⟩)
      · have HN := Lib.hid ((HQ.out v0 rfl).trans ((if_neg (fun q => hs2 (hsd.trans q.1))).trans (if_neg (fun q => hk q.2))))
        have hkb : (kdV v0 == 1) = false := beq_false_of_ne hk
        generalize kdV v0 = kv at p0 hkb
        clear hk hsd
        go_wp2
        exact bodyPost_ret (v := .tuple #[.slice (some ⟨_, 0, none⟩) 0 0, .bool false]) (by simp [results, Tryz.results41, go_sem]; rfl) rfl (newCB_no HB2.out (by simp) (by rw [HN.out]; rfl) (by rw [HN.out]; rfl))

end Go.Proofs.YtpcaciogglllbaaGreatDoor
