/- Part of the proof of FnExactEvaluate. -/
import Derived.Test.YtpcaciogglllbaaGreatDoorQEvV
namespace Go.Proofs.YtpcaciogglllbaaGreatDoor
open Go.RowKit
set_option linter.unusedVariables false

theorem envO_at {env : List Bd} {s : ByteArray} : ∀ (k : Nat) (h : k < env.length), (∀ q (hq : q < env.length), q < k → env[q].1 ≠ s) → env[k].1 = s → envO env s = some env[k].2 := by
  induction env with
  | nil => intro k h; simp at h
  | cons b bs ih =>
    intro k h hd he
    cases k with
    | zero => show (if b.1 = s then _ else _) = _; rw [if_pos (show b.1 = s from he)]; rfl
    | succ k =>
      show (if b.1 = s then _ else envO bs s) = _
      rw [if_neg (show ¬ b.1 = s from hd 0 (by simp) (by omega))]
      exact ih k (by simpa using h) (fun q hq hlt => by have := hd (q + 1) (by simpa using hq) (by omega); simpa using this) (by simpa using he)
theorem envO_not {env : List Bd} {s : ByteArray} (h : ∀ q (hq : q < env.length), env[q].1 ≠ s) : envO env s = none := by
  induction env with
  | nil => rfl
  | cons b bs ih =>
    show (if b.1 = s then _ else envO bs s) = _
    rw [if_neg (show ¬ b.1 = s from h 0 (by simp))]
    exact ih (fun q hq => by have := h (q + 1) (by simpa using hq); simpa using this)

set_option maxRecDepth 100000 in
set_option maxHeartbeats 4000000 in
theorem val_name {v ev : Value} {l : List Cl} {env : List Bd} {j : Nat} (h60 : l.length ≤ 60) (hok : l.all okC = true) (he : ∀ b ∈ env, nmL b.1 = true ∧ okV b.2 = true) (ih : ValOK v ev l env j) (f t : Nat) (s : ByteArray) (m : Int) (ks : List (Option (List Cl))) (w : World) (hc : l[f]? = some (4, s, m)) (hks : Ev l env m.toNat (f + 1) t ks) (hj : t - f ≤ j + 1) (hr : RowC w v l) (hrb : RowB w ev env) :
    Calls Tryz.prog 41 #[v, .int .i64 (f : Int), ev] w (NewCB ((combV env (4, s, m) ks).getD []) (combV env (4, s, m) ks).isSome w) := by
  obtain ⟨hfl, he0⟩ := List.getElem?_eq_some_iff.mp hc
  have hokc : okC (4, s, m) = true := by rw [← he0]; exact okC_all hok f hfl
  obtain rfl : m = 0 := by
    have := hokc
    simp only [okC, cellB, manyB, Bool.and_eq_true] at this
    simpa using this.2
  obtain ⟨dk, hxk⟩ := hks.exs
  have hkl := hxk.le
  have HKI := Lib.hid (fun w' hr' => l5Kids_any v l f _ t dk w' hr' h60 (allM_of hok) (amL_some hc) hxk)
  have HIH := Lib.hid ih; have HR := Lib.hid hr; have HRB := Lib.hid hrb; have HX := Lib.hid hks; have HOK := Lib.hid hokc
  have HV := Lib.hid (fun (k : Nat) (x : List Cl) (hk : ks[k]? = some (some x)) => hks.ok hok he _ (List.mem_of_getElem? hk) x rfl)
  have HQ := Lib.hid (show combV env (4, s, 0) ks = envO env s by simp [combV])
  have HZ := Lib.hid (fun b hb => (he b hb).2)
  obtain ⟨i0, hi, hz0, hz1, hz2⟩ := info_parts infoC
  obtain ⟨ao, cap, rfl, h1, h2, h3⟩ := hr
  unfold maxLen at h2
  obtain ⟨b, o, rfl, hbl, cc⟩ := h3.resolve_left (by rintro rfl; simp at hfl)
  obtain ⟨c0, c1, c2⟩ := cc f hfl
  rw [he0] at c0 c1 c2
  simp only at c0 c1 c2
  have e2 : ¬ b = w.heap.size := by omega
  have hrb2 := hrb
  obtain ⟨eao, ecap, hev, q1, q2, q3⟩ := hrb2
  subst hev
  unfold maxLen at q2
  have HE3 := Lib.hid q3; clear q3
  clear cc h3 hc hks ih he0 hxk hokc hok he hrb
  have HCP := Lib.hid (CpE.new w 4 s 0)
  have hbA := (Below.refl w.heap.size w).alloc (Nat.le_refl _) (.cells #[.int .i64 4, .string s, .int .i64 0] 44)
  have HBA := Lib.hid hbA
  go_enter Tryz.func41, Tryz.ntmps41
  go_wp2_with fail
  refine (HKI.out _ (HR.out.mono HBA.out)).mono ?_
  rintro e1 w1 ⟨v1, rfl, hown1, hb1⟩
  obtain ⟨hri, hrl⟩ := RowI.of_own hown1
  have hLm := kidsL_length (amL l) (0 : Int).toNat (f + 1)
  have HB1 := Lib.hid (HBA.out.trans (hb1.mono HBA.out.size))
  have HCP1 := Lib.hid (HCP.out.keep hb1)
  have HR1 := Lib.hid (HR.out.mono HB1.out)
  have HRB1 := Lib.hid (HRB.out.mono HB1.out)
  generalize hL : kidsL (amL l) (f + 1) (0 : Int).toNat = L at hri hLm
  have HL := Lib.hid hL; clear hL
  obtain ⟨bo, cp, rfl, g1, g2, g3⟩ := hri
  rw [hLm] at g1
  rw [hLm]
  unfold maxLen at g2
  have HG3 := Lib.hid g3
  clear g3 hb1 hbA hown1 hrl HCP HBA c0 c1 c2 e2
  generalize w.heap.size = CG at HCP1
  obtain ⟨-, k0, k1, k2⟩ := HCP1.out
  go_wp2_with fail
  clear k0 k1 k2
  go_loopw [10] (fun i wr => ∃ k : Nat, k ≤ env.length ∧ i = .int .i64 (k : Int) ∧ (∀ q (h : q < env.length), q < k → env[q].1 ≠ s) ∧ Below w1.heap.size w1 wr) (fun i _ => env.length - (intOf i).toNat)
  case atStart => exact ⟨0, Nat.zero_le _, rfl, fun q _ h => by omega, Below.refl _ _⟩
  case round =>
    obtain ⟨k, hk, rfl, hdf, hb⟩ := hrel
    have HDF := Lib.hid hdf
    have HBR := Lib.hid hb
    have HBW := Lib.hid (HB1.out.trans (hb.mono HB1.out.size))
    obtain ⟨-, k0, k1, k2⟩ := HCP1.out.keep hb
    clear hdf hb
    by_cases hlt : k < env.length
    · obtain ⟨eb, eo, rfl, hel, cc⟩ := HE3.out.resolve_left (by rintro rfl; simp at hlt)
      obtain ⟨u, c0, c1, hru⟩ := cc k hlt
      have d0 := (HBW.out.cell (p := ⟨eb, _, none⟩) hel).trans c0
      have d1 := (HBW.out.cell (p := ⟨eb, _, none⟩) hel).trans c1
      have hwr : Below wr.heap.size wr wr.drew := ⟨rfl, rfl, rfl, Nat.le_refl _, fun _ _ => rfl⟩
      have HRU := Lib.hid (hru.mono HBW.out)
      have hsz := ((okV_iff _).mp (HZ.out _ (List.getElem_mem hlt))).1
      have HBD := Lib.hid (HBW.out.trans (hwr.mono HBW.out.size))
      have HBDA := Lib.hid (show Below w.heap.size w (wr.alloc (.cells #[] 44)).drew from (HBW.out.alloc HBW.out.size (.cells #[] 44)).trans ⟨rfl, rfl, rfl, Nat.le_refl _, fun _ _ => rfl⟩)
      have HWD := Lib.hid (show Below wr.heap.size wr (wr.alloc (.cells #[] 44)).drew from ((Below.refl _ wr).alloc (Nat.le_refl _) (.cells #[] 44)).trans ⟨rfl, rfl, rfl, Nat.le_refl _, fun _ _ => rfl⟩)
      have hws := HBW.out.size
      have hne : ¬ eb = wr.heap.size := by omega
      have d2 : (wr.alloc (.cells #[] 44)).cell? ⟨eb, eo + k * 2 + 1, none⟩ = some u := (((Below.refl wr.heap.size wr).alloc (Nat.le_refl _) (.cells #[] 44)).cell (p := ⟨eb, _, none⟩) (by show eb < wr.heap.size; omega)).trans d1
      have d3 : (wr.drew.alloc (.cells #[] 44)).cell? ⟨eb, eo + k * 2 + 1, none⟩ = some u := d2
      clear cc c0 c1 hru hwr
      by_cases hee : env[k].1 = s
      · have HN := Lib.hid (HQ.out.trans (envO_at k hlt HDF.out hee))
        have ht : (env[k].1.toList == s.toList) = true := by rw [hee]; simp
        have ht2 : env[k].1.toList = s.toList := by rw [hee]
        generalize env[k].1 = nk at d0 ht ht2
        generalize env[k].2 = lk at HRU HN hsz
        clear hee
        have HL0 := Lib.hid (show ((wr.alloc (.cells #[] 44)).drew).ownsRow w.heap.size 44 3 (.slice (some ⟨wr.heap.size, 0, none⟩) 0 0) 0 [] from World.ownsRow_lit (e := 44) (size := 3) (base := w.heap.size) wr #[] 0 hws (by unfold maxLen; omega) rfl)
        clear d1 d3
        go_wp2_with fail
        go_region
        go_wp2_with (at_builtin; refine append_rowC rfl _ _ 26 rfl w.heap.size 44 i0 (.agg #[.int .i64 0, .string ByteArray.empty, .int .i64 0]) 32 Tryz.underlying26 hi hz0 hz1 hz2 (by decide) _ 0 [] rfl HL0.out _ lk rfl (HRU.out.mono HWD.out) (by unfold maxLen; omega) (by omega) (by simp; omega) ?_; intro v6 w6 hown6 hgrow6; have HO := Lib.hid (show w6.ownsRow w.heap.size 44 3 v6 lk.length (flatC lk) by simpa using hown6); have HBN := Lib.hid (HBDA.out.grown hgrow6 HBDA.out.size (fun q hq => (HL0.out.lt q hq).1)); clear hown6 hgrow6)
        exact bodyPost_ret (v := .tuple #[v6, .bool true]) (by simp [results, Tryz.results41, go_sem]) rfl (by rw [HN.out]; exact ⟨_, rfl, HO.out, HBN.out⟩)
      · have HN2 := Lib.hid (show ∀ q (h : q < env.length), q < k + 1 → env[q].1 ≠ s from fun q h hm => by
          by_cases hmi : q = k
          · subst hmi; exact hee
          · exact HDF.out q h (by omega))
        have ht : (env[k].1.toList == s.toList) = false := by
          rw [beq_eq_false_iff_ne, ByteArray.toList_eq, ByteArray.toList_eq]
          intro e; exact hee (ByteArray.ext (by simpa using e))
        generalize env[k].1 = nk at d0 ht
        clear hee
        go_wp2_with fail
        go_region
        go_wp2
        go_roundw
        case rel => exact ⟨k + 1, by omega, by go_num, HN2.out, HBR.out.trans ⟨rfl, rfl, rfl, Nat.le_refl _, fun _ _ => rfl⟩⟩
        case measure => simp [intOf]; omega
    · have HN := Lib.hid (HQ.out.trans (envO_not (fun q hq => HDF.out q hq (by omega))))
      obtain rfl : k = env.length := by omega
      clear k0 k1 k2
      go_wp2
      exact bodyPost_ret (v := .tuple #[.slice (some ⟨_, 0, none⟩) 0 0, .bool false]) (by simp [results, Tryz.results41, go_sem]; rfl) rfl (newCB_no HBW.out (by simp) (by rw [HN.out]; rfl) (by rw [HN.out]; rfl))

end Go.Proofs.YtpcaciogglllbaaGreatDoor
