/- Part of the proof of FnExactEvaluate. -/
import Derived.Test.YtpcaciogglllbaaGreatDoorQEvV
namespace Go.Proofs.YtpcaciogglllbaaGreatDoor
open Go.RowKit
set_option linter.unusedVariables false

set_option maxRecDepth 100000 in
set_option maxHeartbeats 4000000 in
theorem val_choice {v ev : Value} {l : List Cl} {env : List Bd} {j : Nat} (h60 : l.length ≤ 60) (hok : l.all okC = true) (he : ∀ b ∈ env, nmL b.1 = true ∧ okV b.2 = true) (ih : ValOK v ev l env j) (f t : Nat) (s : ByteArray) (m : Int) (ks : List (Option (List Cl))) (w : World) (hc : l[f]? = some (9, s, m)) (hks : Ev l env m.toNat (f + 1) t ks) (hj : t - f ≤ j + 1) (hr : RowC w v l) (hrb : RowB w ev env) :
    Calls Tryz.prog 41 #[v, .int .i64 (f : Int), ev] w (NewCB ((combV env (9, s, m) ks).getD []) (combV env (9, s, m) ks).isSome w) := by
  obtain ⟨hfl, he0⟩ := List.getElem?_eq_some_iff.mp hc
  have hokc : okC (9, s, m) = true := by rw [← he0]; exact okC_all hok f hfl
  obtain rfl : m = 3 := by
    have := hokc
    simp only [okC, cellB, manyB, Bool.and_eq_true] at this
    simpa using this.2
  obtain ⟨dk, hxk⟩ := hks.exs
  have hkl := hxk.le
  have HKI := Lib.hid (fun w' hr' => l5Kids_any v l f _ t dk w' hr' h60 (allM_of hok) (amL_some hc) hxk)
  have HIH := Lib.hid ih; have HR := Lib.hid hr; have HRB := Lib.hid hrb; have HX := Lib.hid hks; have HOK := Lib.hid hokc
  have HV := Lib.hid (fun (k : Nat) (x : List Cl) (hk : ks[k]? = some (some x)) => hks.ok hok he _ (List.mem_of_getElem? hk) x rfl)
  obtain ⟨x0, x1, x2, rfl⟩ : ∃ x0 x1 x2, ks = [x0, x1, x2] := by
    have := hks.len
    match ks, this with
    | [x0, x1, x2], _ => exact ⟨x0, x1, x2, rfl⟩
  obtain ⟨gg0, gg0', y0, z0, u0, t0, b0, b0', b0''⟩ := ev_part hks 0 (by decide)
  obtain rfl : x0 = y0 := by simpa using z0
  obtain ⟨gg1, gg1', y1, z1, u1, t1, b1, b1', b1''⟩ := ev_part hks 1 (by decide)
  obtain rfl : x1 = y1 := by simpa using z1
  obtain ⟨gg2, gg2', y2, z2, u2, t2, b2, b2', b2''⟩ := ev_part hks 2 (by decide)
  obtain rfl : x2 = y2 := by simpa using z2
  have HQ := Lib.hid (show ∀ v, x0 = some v → combV env (9, s, 3) [x0, x1, x2] = if kdV v = 3 then (if trueW v = true then x1 else x2) else none from fun v hv => by subst hv; simp [combV])
  have HQ0 := Lib.hid (show x0 = none → combV env (9, s, 3) [x0, x1, x2] = none from fun hv => by subst hv; simp [combV])
  obtain ⟨ao, cap, rfl, h1, h2, h3⟩ := hr
  unfold maxLen at h2
  obtain ⟨b, o, rfl, hbl, cc⟩ := h3.resolve_left (by rintro rfl; simp at hfl)
  obtain ⟨c0, c1, c2⟩ := cc f hfl
  rw [he0] at c0 c1 c2
  simp only at c0 c1 c2
  have e2 : ¬ b = w.heap.size := by omega
  clear cc h3 hc hks ih he0 hxk hokc hok he hrb
  have HCP := Lib.hid (CpE.new w 9 s 3)
  have hbA := (Below.refl w.heap.size w).alloc (Nat.le_refl _) (.cells #[.int .i64 9, .string s, .int .i64 3] 44)
  have HBA := Lib.hid hbA
  go_enter Tryz.func41, Tryz.ntmps41
  go_wp2_with fail
  refine (HKI.out _ (HR.out.mono HBA.out)).mono ?_
  rintro e1 w1 ⟨v1, rfl, hown1, hb1⟩
  obtain ⟨hri, hrl⟩ := RowI.of_own hown1
  have hLm := kidsL_length (amL l) (3 : Int).toNat (f + 1)
  have HB1 := Lib.hid (HBA.out.trans (hb1.mono HBA.out.size))
  have HCP1 := Lib.hid (HCP.out.keep hb1)
  have HR1 := Lib.hid (HR.out.mono HB1.out)
  have HRB1 := Lib.hid (HRB.out.mono HB1.out)
  generalize hL : kidsL (amL l) (f + 1) (3 : Int).toNat = L at hri hLm
  have HL := Lib.hid hL; clear hL
  obtain ⟨bo, cp, rfl, g1, g2, g3⟩ := hri
  rw [hLm] at g1
  rw [hLm]
  unfold maxLen at g2
  have HG3 := Lib.hid g3
  clear g3 hb1 hbA hown1 hrl HCP HBA c0 c1 c2 e2
  generalize w.heap.size = CG at HCP1
  obtain ⟨-, k0, k1, k2⟩ := HCP1.out
  obtain ⟨bk, rfl, hbk, hck⟩ := kidE_cell HG3.out (by rw [hLm]; decide)
  have q0 := hck 0 gg0 (by rw [← HL.out]; exact u0)
  have HP0 := Lib.hid (fun w' hr' hb' => HIH.out gg0 gg0' x0 w' t0 (by omega) hr' hb')
  have q1 := hck 1 gg1 (by rw [← HL.out]; exact u1)
  have HP1 := Lib.hid (fun w' hr' hb' => HIH.out gg1 gg1' x1 w' t1 (by omega) hr' hb')
  have q2 := hck 2 gg2 (by rw [← HL.out]; exact u2)
  have HP2 := Lib.hid (fun w' hr' hb' => HIH.out gg2 gg2' x2 w' t2 (by omega) hr' hb')
  clear hck z0 u0 t0 b0 b0' b0'' z1 u1 t1 b1 b1' b1'' z2 u2 t2 b2 b2' b2''
  go_wp2_with fail
  refine (HP0.out _ HR1.out HRB1.out).mono ?_
  rintro e w2 ⟨u, rfl, hown, hb2⟩
  have HB2 := Lib.hid (HB1.out.trans (hb2.mono HB1.out.size))
  have HR2 := Lib.hid (HR1.out.mono hb2)
  have HRB2 := Lib.hid (HRB1.out.mono hb2)
  have HCP2 := Lib.hid (HCP1.out.keep hb2)
  have hbk2 := Nat.lt_of_lt_of_le hbk hb2.size
  have q1 := (hb2.cell (p := ⟨bk, 1, none⟩) hbk).trans q1
  have q2 := (hb2.cell (p := ⟨bk, 2, none⟩) hbk).trans q2
  clear k0 k1 k2 q0
  cases x0 with
  | none =>
    have HN := Lib.hid (HQ0.out rfl)
    clear hown hb2
    go_wp2
    exact bodyPost_ret (v := .tuple #[.slice (some ⟨_, 0, none⟩) 0 0, .bool false]) (by simp [results, Tryz.results41, go_sem]; rfl) rfl (newCB_no HB2.out (by simp) (by rw [HN.out]; rfl) (by rw [HN.out]; rfl))
  | some v0 =>
    have hokv := HV.out 0 v0 rfl
    obtain ⟨ub, uo, uc, rfl, hup, hul, p0, p1, hru⟩ := val_head (l := v0) hown hokv
    clear hown hb2
    by_cases hk : kdV v0 = 3
    · rw [hk] at p0
      by_cases ht : trueW v0 = true
      · have HN := Lib.hid ((HQ.out v0 rfl).trans ((if_pos hk).trans (if_pos ht)))
        have htl : (wdV v0).toList = [116, 114, 117, 101] := by rw [ByteArray.toList_eq]; simpa [trueW, trueL] using ht
        generalize wdV v0 = sv at p1 htl
        clear hk ht
        go_wp2_with fail
        refine (HP1.out _ HR2.out HRB2.out).mono ?_
        rintro e w3 ⟨u2, rfl, hown2, hb3⟩
        have HO := Lib.hid (own_base (base' := w.heap.size) hown2 (fun g hg => Nat.le_trans HB2.out.size (hown2.lt g hg).1))
        have HBN := Lib.hid (HB2.out.trans (hb3.mono HB2.out.size))
        clear hown2 hb3
        go_wp2
        exact bodyPost_ret (v := .tuple #[u2, .bool x1.isSome]) (by simp [results, Tryz.results41, go_sem]) rfl (by rw [HN.out]; exact ⟨u2, rfl, HO.out, HBN.out⟩)
      · have HN := Lib.hid ((HQ.out v0 rfl).trans ((if_pos hk).trans (if_neg ht)))
        have htl : ((wdV v0).toList == [116, 114, 117, 101]) = false := by
          rw [ByteArray.toList_eq]; simpa [trueW, trueL] using ht
        have htl2 : ¬ (wdV v0).toList = [116, 114, 117, 101] := by simpa using htl
        generalize wdV v0 = sv at p1 htl htl2
        clear hk ht
        go_wp2_with fail
        refine (HP2.out _ HR2.out HRB2.out).mono ?_
        rintro e w3 ⟨u2, rfl, hown2, hb3⟩
        have HO := Lib.hid (own_base (base' := w.heap.size) hown2 (fun g hg => Nat.le_trans HB2.out.size (hown2.lt g hg).1))
        have HBN := Lib.hid (HB2.out.trans (hb3.mono HB2.out.size))
        clear hown2 hb3
        go_wp2
        exact bodyPost_ret (v := .tuple #[u2, .bool x2.isSome]) (by simp [results, Tryz.results41, go_sem]) rfl (by rw [HN.out]; exact ⟨u2, rfl, HO.out, HBN.out⟩)
    · have HN := Lib.hid ((HQ.out v0 rfl).trans (if_neg hk))
      have hkb : (kdV v0 != 3) = true := bne_iff_ne.mpr hk
      generalize kdV v0 = kv at p0 hkb
      clear hk
      go_wp2
      exact bodyPost_ret (v := .tuple #[.slice (some ⟨_, 0, none⟩) 0 0, .bool false]) (by simp [results, Tryz.results41, go_sem]; rfl) rfl (newCB_no HB2.out (by simp) (by rw [HN.out]; rfl) (by rw [HN.out]; rfl))

end Go.Proofs.YtpcaciogglllbaaGreatDoor
