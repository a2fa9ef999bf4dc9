/- Part of the proof of FnExactEvaluate. -/
import Derived.Test.YtpcaciogglllbaaGreatDoorQEvV
namespace Go.Proofs.YtpcaciogglllbaaGreatDoor
open Go.RowKit
set_option linter.unusedVariables false

theorem allO_none {ks : List (Option (List Cl))} {k : Nat} (h : ks[k]? = some none) : allO ks = none := by
  induction ks generalizing k with
  | nil => simp at h
  | cons x xs ih =>
    cases x with
    | none => rfl
    | some v =>
      cases k with
      | zero => simp at h
      | succ k => show (allO xs).map _ = none; rw [ih (k := k) (by simpa using h)]; rfl
theorem lenSS_bd {ls : List (List Cl)} (h : ∀ x ∈ ls, okV x = true) : lenSS ls ≤ 60 * ls.length := by
  induction ls with
  | nil => simp [lenSS]
  | cons a t ih =>
    have h1 := ((okV_iff _).mp (h a (List.mem_cons_self ..))).1
    have h2 := ih (fun x hx => h x (List.mem_cons_of_mem _ hx))
    have e : lenSS (a :: t) = a.length + lenSS t := by simp [lenSS]
    rw [e, List.length_cons]; omega
theorem infoCSE : (Tryz.prog.info? 26).map (fun i => (i.zero, i.size, i.bytes)) = some (some (.slice none 0 0), 1, 24) := by kernel_rfl

set_option maxRecDepth 100000 in
set_option maxHeartbeats 4000000 in
theorem val_list {v ev : Value} {l : List Cl} {env : List Bd} {j : Nat} (h60 : l.length ≤ 60) (hok : l.all okC = true) (he : ∀ b ∈ env, nmL b.1 = true ∧ okV b.2 = true) (ih : ValOK v ev l env j) (f t : Nat) (s : ByteArray) (m : Int) (ks : List (Option (List Cl))) (w : World) (hc : l[f]? = some (5, s, m)) (hks : Ev l env m.toNat (f + 1) t ks) (hj : t - f ≤ j + 1) (hr : RowC w v l) (hrb : RowB w ev env) :
    Calls Tryz.prog 41 #[v, .int .i64 (f : Int), ev] w (NewCB ((combV env (5, s, m) ks).getD []) (combV env (5, s, m) ks).isSome w) := by
  obtain ⟨hfl, he0⟩ := List.getElem?_eq_some_iff.mp hc
  have hokc : okC (5, s, m) = true := by rw [← he0]; exact okC_all hok f hfl
  obtain ⟨dk, hxk⟩ := hks.exs
  have hkl := hxk.le
  have HKI := Lib.hid (fun w' hr' => l5Kids_any v l f _ t dk w' hr' h60 (allM_of hok) (amL_some hc) hxk)
  have HIH := Lib.hid ih; have HR := Lib.hid hr; have HRB := Lib.hid hrb; have HX := Lib.hid hks; have HOK := Lib.hid hokc
  have HV := Lib.hid (fun (k : Nat) (x : List Cl) (hk : ks[k]? = some (some x)) => hks.ok hok he _ (List.mem_of_getElem? hk) x rfl)
  have HQ := Lib.hid (show combV env (5, s, m) ks = (allO ks).bind (lisO) by simp [combV])
  obtain ⟨j0, hj0, hy0, hy1, hy2⟩ := info_parts infoCSE
  have hm8 := okC_many hokc
  simp only at hm8
  have hM8 : m.toNat ≤ 8 := by omega
  obtain ⟨ao, cap, rfl, h1, h2, h3⟩ := hr
  unfold maxLen at h2
  obtain ⟨b, o, rfl, hbl, cc⟩ := h3.resolve_left (by rintro rfl; simp at hfl)
  obtain ⟨c0, c1, c2⟩ := cc f hfl
  rw [he0] at c0 c1 c2
  simp only at c0 c1 c2
  have e2 : ¬ b = w.heap.size := by omega
  clear cc h3 hc hks ih he0 hxk hokc hok he hrb
  have HCP := Lib.hid (CpE.new w 5 s m)
  have hbA := (Below.refl w.heap.size w).alloc (Nat.le_refl _) (.cells #[.int .i64 5, .string s, .int .i64 m] 44)
  have HBA := Lib.hid hbA
  go_enter Tryz.func41, Tryz.ntmps41
  go_wp2_with fail
  refine (HKI.out _ (HR.out.mono HBA.out)).mono ?_
  rintro e1 w1 ⟨v1, rfl, hown1, hb1⟩
  obtain ⟨hri, hrl⟩ := RowI.of_own hown1
  have hLm := kidsL_length (amL l) (m : Int).toNat (f + 1)
  have HB1 := Lib.hid (HBA.out.trans (hb1.mono HBA.out.size))
  have HCP1 := Lib.hid (HCP.out.keep hb1)
  have HR1 := Lib.hid (HR.out.mono HB1.out)
  have HRB1 := Lib.hid (HRB.out.mono HB1.out)
  generalize hL : kidsL (amL l) (f + 1) (m : Int).toNat = L at hri hLm
  have HL := Lib.hid hL; clear hL
  obtain ⟨bo, cp, rfl, g1, g2, g3⟩ := hri
  rw [hLm] at g1
  rw [hLm]
  unfold maxLen at g2
  have HG3 := Lib.hid g3
  clear g3 hb1 hbA hown1 hrl HCP HBA c0 c1 c2 e2
  generalize w.heap.size = CG at HCP1
  obtain ⟨-, k0, k1, k2⟩ := HCP1.out
  generalize m.toNat = M at hLm g1 HX HL hM8 ⊢
  have HLIT := Lib.hid (show OwnSS (w1.alloc (.cells #[] 26)) w1.heap.size (.slice (some ⟨w1.heap.size, 0, none⟩) 0 0) [] [] from ⟨World.ownsRow_lit (e := 26) (size := 1) (base := w1.heap.size) w1 #[] 0 (Nat.le_refl _) (by unfold maxLen; omega) rfl, rfl, fun k h => by simp at h, fun k h => by simp at h, fun i j h => by simp at h⟩)
  have HBL := Lib.hid ((Below.refl w1.heap.size w1).alloc (Nat.le_refl _) (.cells #[] 26))
  go_wp2_with fail
  clear k0 k1 k2
  go_loopw [23, 24] (fun a i wr => ∃ (k : Nat) (us : List Value) (ls : List (List Cl)), k ≤ M ∧ i = .int .i64 (k : Int) ∧ ls.length = k ∧ ks.take k = ls.map some ∧ (∀ x ∈ ls, okV x = true) ∧ OwnSS wr w1.heap.size a us ls ∧ Below w1.heap.size w1 wr) (fun _ i _ => M - (intOf i).toNat)
  case atStart => exact ⟨0, [], [], Nat.zero_le _, rfl, rfl, rfl, fun x hx => by simp at hx, HLIT.out, HBL.out⟩
  case round =>
    obtain ⟨k, us, ls, hk, rfl, hlk, htk, hov, hown, hb⟩ := hrel
    have HO := Lib.hid hown; have HBR := Lib.hid hb; have HTK := Lib.hid htk; have HOV := Lib.hid hov; have HLK := Lib.hid hlk
    have HBW := Lib.hid (HB1.out.trans (hb.mono HB1.out.size))
    obtain ⟨-, k0, k1, k2⟩ := HCP1.out.keep hb
    have hOR := hown.row
    rw [hlk] at hOR
    obtain ⟨aa, ac, rfl⟩ := own_shape hOR
    have HOR := Lib.hid hOR
    have hwr := HBR.out.size
    clear htk hov hown hb hOR hlk
    by_cases hlt : k < M
    · obtain ⟨gg, gg', x, z0, u0, t0, b0, b0', b0''⟩ := ev_part HX.out k hlt
      obtain ⟨bk, rfl, hbk, hck⟩ := kidE_cell HG3.out (by rw [hLm]; omega)
      have q0 : wr.cell? ⟨bk, k, none⟩ = some (.int .i64 (gg : Int)) := (HBR.out.cell (p := ⟨bk, k, none⟩) hbk).trans (hck k gg (by rw [← HL.out]; exact u0))
      have HP := Lib.hid (HIH.out gg gg' x wr t0 (by omega) (HR1.out.mono HBR.out) (HRB1.out.mono HBR.out))
      have HZ0 := Lib.hid z0
      clear hck z0 u0 t0 b0 b0' b0''
      go_wp2_with fail
      refine HP.out.mono ?_
      rintro e w3 ⟨u3, rfl, hown3, hb3⟩
      have HB3 := Lib.hid (HBW.out.trans (hb3.mono HBW.out.size))
      have hs3 := hb3.size
      cases x with
      | none =>
        have HN := Lib.hid (show combV env (5, s, m) ks = none by rw [HQ.out, allO_none HZ0.out]; rfl)
        clear hown3 hb3 k0 k1 k2
        go_wp2
        exact bodyPost_ret (v := .tuple #[.slice (some ⟨_, 0, none⟩) 0 0, .bool false]) (by simp [results, Tryz.results41, go_sem]; rfl) rfl (newCB_no HB3.out (by simp) (by rw [HN.out]; rfl) (by rw [HN.out]; rfl))
      | some vk =>
        have hokv := HV.out k vk HZ0.out
        have hown3 : w3.ownsRow wr.heap.size 44 3 u3 vk.length (flatC vk) := hown3
        obtain ⟨a3, c3, rfl⟩ := own_shape hown3
        have HT2 := Lib.hid (show ks.take (k + 1) = (ls ++ [vk]).map some by rw [List.take_add_one, HTK.out, HZ0.out, List.map_append]; rfl)
        have HOV2 := Lib.hid (show ∀ x ∈ ls ++ [vk], okV x = true from fun x hx => by
          rw [List.mem_append, List.mem_singleton] at hx
          rcases hx with hx | rfl
          · exact HOV.out x hx
          · exact hokv)
        have hown6 := own_belowS HOR.out hb3
        have HO6a := Lib.hid hown6
        go_wp2_with (at_builtin; refine wpList_append_lies _ rfl _ _ 99 rfl w1.heap.size 26 j0 (.slice none 0 0) 1 24 Tryz.underlying99 hj0 hy0 hy1 hy2 rfl (by decide) (.slice aa k ac) k us rfl (HO6a.out.alloc _) ⟨w3.heap.size, 0, none⟩ 1 1 [.slice a3 vk.length c3] rfl rfl (World.news_of_block (heap_alloc_new w3 _)) (by simp [Value.oneCell']) (by omega) (by unfold maxLen; omega) (by omega) (by simp; omega) (w3.heap.size + 1) (by simp) ?_; intro gq cap' w6 hown' hgrow hat hlt')
        have HN := Lib.hid (HO.out.push (gg := gq) hb3 hown3 _ hgrow (show w6.ownsRow w1.heap.size 26 1 _ (ls.length + 1) _ by rw [HLK.out]; exact hown') rfl hat hwr)
        have HB6 := Lib.hid (((HBR.out.trans (hb3.mono hwr)).alloc (by omega) (.cells #[.slice a3 vk.length c3] 26)).grown hgrow (by simp; omega) (fun x hx => (HOR.out.lt x hx).1))
        clear hown3 hgrow hown' hat hb3 hown6
        go_roundw
        case rel => exact ⟨k + 1, us ++ [.slice a3 vk.length c3], ls ++ [vk], by omega, by go_num, by rw [List.length_append, HLK.out]; rfl, HT2.out, HOV2.out, HN.out, HB6.out⟩
        case measure => simp [intOf]; omega
    · obtain rfl : k = M := by omega
      have HKS := Lib.hid (show ks = ls.map some by
        have h := HTK.out
        rwa [List.take_of_length_le (by rw [HX.out.len]; exact Nat.le_refl _)] at h)
      have HN := Lib.hid (show combV env (5, s, m) ks = lisO ls by rw [HQ.out, HKS.out, allO_some]; rfl)
      have hbd := lenSS_bd HOV.out
      have hlk := HLK.out
      have HLC := Lib.hid (l8List_any _ ls wr HO.out.reads (fun l hl => okV_short (HOV.out l hl)) (by omega))
      clear hbd
      go_wp2_with fail
      refine HLC.out.mono ?_
      rintro e w7 ⟨u, rfl, hown, hb7⟩
      have HO7 := Lib.hid (own_base (base' := w.heap.size) hown (fun g hg => Nat.le_trans HBW.out.size (hown.lt g hg).1))
      have HB7 := Lib.hid (HBW.out.trans (hb7.mono HBW.out.size))
      clear hown hb7
      go_wp2
      exact bodyPost_ret (v := .tuple #[u, .bool (okV (listV ls))]) (by simp [results, Tryz.results41, go_sem]) rfl (by rw [HN.out, (lisO_one _).1, (lisO_one _).2]; exact ⟨u, rfl, HO7.out, HB7.out⟩)

set_option maxRecDepth 100000 in
set_option maxHeartbeats 4000000 in
theorem val_call {v ev : Value} {l : List Cl} {env : List Bd} {j : Nat} (h60 : l.length ≤ 60) (hok : l.all okC = true) (he : ∀ b ∈ env, nmL b.1 = true ∧ okV b.2 = true) (ih : ValOK v ev l env j) (f t : Nat) (s : ByteArray) (m : Int) (ks : List (Option (List Cl))) (w : World) (hc : l[f]? = some (6, s, m)) (hks : Ev l env m.toNat (f + 1) t ks) (hj : t - f ≤ j + 1) (hr : RowC w v l) (hrb : RowB w ev env) :
    Calls Tryz.prog 41 #[v, .int .i64 (f : Int), ev] w (NewCB ((combV env (6, s, m) ks).getD []) (combV env (6, s, m) ks).isSome w) := by
  obtain ⟨hfl, he0⟩ := List.getElem?_eq_some_iff.mp hc
  have hokc : okC (6, s, m) = true := by rw [← he0]; exact okC_all hok f hfl
  obtain ⟨dk, hxk⟩ := hks.exs
  have hkl := hxk.le
  have HKI := Lib.hid (fun w' hr' => l5Kids_any v l f _ t dk w' hr' h60 (allM_of hok) (amL_some hc) hxk)
  have HIH := Lib.hid ih; have HR := Lib.hid hr; have HRB := Lib.hid hrb; have HX := Lib.hid hks; have HOK := Lib.hid hokc
  have HV := Lib.hid (fun (k : Nat) (x : List Cl) (hk : ks[k]? = some (some x)) => hks.ok hok he _ (List.mem_of_getElem? hk) x rfl)
  have HQ := Lib.hid (show combV env (6, s, m) ks = (allO ks).bind (callF s) by simp [combV])
  obtain ⟨j0, hj0, hy0, hy1, hy2⟩ := info_parts infoCSE
  have hm8 := okC_many hokc
  simp only at hm8
  have hM8 : m.toNat ≤ 8 := by omega
  obtain ⟨ao, cap, rfl, h1, h2, h3⟩ := hr
  unfold maxLen at h2
  obtain ⟨b, o, rfl, hbl, cc⟩ := h3.resolve_left (by rintro rfl; simp at hfl)
  obtain ⟨c0, c1, c2⟩ := cc f hfl
  rw [he0] at c0 c1 c2
  simp only at c0 c1 c2
  have e2 : ¬ b = w.heap.size := by omega
  clear cc h3 hc hks ih he0 hxk hokc hok he hrb
  have HCP := Lib.hid (CpE.new w 6 s m)
  have hbA := (Below.refl w.heap.size w).alloc (Nat.le_refl _) (.cells #[.int .i64 6, .string s, .int .i64 m] 44)
  have HBA := Lib.hid hbA
  go_enter Tryz.func41, Tryz.ntmps41
  go_wp2_with fail
  refine (HKI.out _ (HR.out.mono HBA.out)).mono ?_
  rintro e1 w1 ⟨v1, rfl, hown1, hb1⟩
  obtain ⟨hri, hrl⟩ := RowI.of_own hown1
  have hLm := kidsL_length (amL l) (m : Int).toNat (f + 1)
  have HB1 := Lib.hid (HBA.out.trans (hb1.mono HBA.out.size))
  have HCP1 := Lib.hid (HCP.out.keep hb1)
  have HR1 := Lib.hid (HR.out.mono HB1.out)
  have HRB1 := Lib.hid (HRB.out.mono HB1.out)
  generalize hL : kidsL (amL l) (f + 1) (m : Int).toNat = L at hri hLm
  have HL := Lib.hid hL; clear hL
  obtain ⟨bo, cp, rfl, g1, g2, g3⟩ := hri
  rw [hLm] at g1
  rw [hLm]
  unfold maxLen at g2
  have HG3 := Lib.hid g3
  clear g3 hb1 hbA hown1 hrl HCP HBA c0 c1 c2 e2
  generalize w.heap.size = CG at HCP1
  obtain ⟨-, k0, k1, k2⟩ := HCP1.out
  generalize m.toNat = M at hLm g1 HX HL hM8 ⊢
  have HLIT := Lib.hid (show OwnSS (w1.alloc (.cells #[] 26)) w1.heap.size (.slice (some ⟨w1.heap.size, 0, none⟩) 0 0) [] [] from ⟨World.ownsRow_lit (e := 26) (size := 1) (base := w1.heap.size) w1 #[] 0 (Nat.le_refl _) (by unfold maxLen; omega) rfl, rfl, fun k h => by simp at h, fun k h => by simp at h, fun i j h => by simp at h⟩)
  have HBL := Lib.hid ((Below.refl w1.heap.size w1).alloc (Nat.le_refl _) (.cells #[] 26))
  go_wp2_with fail
  clear k0 k1 k2
  go_loopw [23, 24] (fun a i wr => ∃ (k : Nat) (us : List Value) (ls : List (List Cl)), k ≤ M ∧ i = .int .i64 (k : Int) ∧ ls.length = k ∧ ks.take k = ls.map some ∧ (∀ x ∈ ls, okV x = true) ∧ OwnSS wr w1.heap.size a us ls ∧ Below w1.heap.size w1 wr) (fun _ i _ => M - (intOf i).toNat)
  case atStart => exact ⟨0, [], [], Nat.zero_le _, rfl, rfl, rfl, fun x hx => by simp at hx, HLIT.out, HBL.out⟩
  case round =>
    obtain ⟨k, us, ls, hk, rfl, hlk, htk, hov, hown, hb⟩ := hrel
    have HO := Lib.hid hown; have HBR := Lib.hid hb; have HTK := Lib.hid htk; have HOV := Lib.hid hov; have HLK := Lib.hid hlk
    have HBW := Lib.hid (HB1.out.trans (hb.mono HB1.out.size))
    obtain ⟨-, k0, k1, k2⟩ := HCP1.out.keep hb
    have hOR := hown.row
    rw [hlk] at hOR
    obtain ⟨aa, ac, rfl⟩ := own_shape hOR
    have HOR := Lib.hid hOR
    have hwr := HBR.out.size
    clear htk hov hown hb hOR hlk
    by_cases hlt : k < M
    · obtain ⟨gg, gg', x, z0, u0, t0, b0, b0', b0''⟩ := ev_part HX.out k hlt
      obtain ⟨bk, rfl, hbk, hck⟩ := kidE_cell HG3.out (by rw [hLm]; omega)
      have q0 : wr.cell? ⟨bk, k, none⟩ = some (.int .i64 (gg : Int)) := (HBR.out.cell (p := ⟨bk, k, none⟩) hbk).trans (hck k gg (by rw [← HL.out]; exact u0))
      have HP := Lib.hid (HIH.out gg gg' x wr t0 (by omega) (HR1.out.mono HBR.out) (HRB1.out.mono HBR.out))
      have HZ0 := Lib.hid z0
      clear hck z0 u0 t0 b0 b0' b0''
      go_wp2_with fail
      refine HP.out.mono ?_
      rintro e w3 ⟨u3, rfl, hown3, hb3⟩
      have HB3 := Lib.hid (HBW.out.trans (hb3.mono HBW.out.size))
      have hs3 := hb3.size
      cases x with
      | none =>
        have HN := Lib.hid (show combV env (6, s, m) ks = none by rw [HQ.out, allO_none HZ0.out]; rfl)
        clear hown3 hb3 k0 k1 k2
        go_wp2
        exact bodyPost_ret (v := .tuple #[.slice (some ⟨_, 0, none⟩) 0 0, .bool false]) (by simp [results, Tryz.results41, go_sem]; rfl) rfl (newCB_no HB3.out (by simp) (by rw [HN.out]; rfl) (by rw [HN.out]; rfl))
      | some vk =>
        have hokv := HV.out k vk HZ0.out
        have hown3 : w3.ownsRow wr.heap.size 44 3 u3 vk.length (flatC vk) := hown3
        obtain ⟨a3, c3, rfl⟩ := own_shape hown3
        have HT2 := Lib.hid (show ks.take (k + 1) = (ls ++ [vk]).map some by rw [List.take_add_one, HTK.out, HZ0.out, List.map_append]; rfl)
        have HOV2 := Lib.hid (show ∀ x ∈ ls ++ [vk], okV x = true from fun x hx => by
          rw [List.mem_append, List.mem_singleton] at hx
          rcases hx with hx | rfl
          · exact HOV.out x hx
          · exact hokv)
        have hown6 := own_belowS HOR.out hb3
        have HO6a := Lib.hid hown6
        go_wp2_with (at_builtin; refine wpList_append_lies _ rfl _ _ 99 rfl w1.heap.size 26 j0 (.slice none 0 0) 1 24 Tryz.underlying99 hj0 hy0 hy1 hy2 rfl (by decide) (.slice aa k ac) k us rfl (HO6a.out.alloc _) ⟨w3.heap.size, 0, none⟩ 1 1 [.slice a3 vk.length c3] rfl rfl (World.news_of_block (heap_alloc_new w3 _)) (by simp [Value.oneCell']) (by omega) (by unfold maxLen; omega) (by omega) (by simp; omega) (w3.heap.size + 1) (by simp) ?_; intro gq cap' w6 hown' hgrow hat hlt')
        have HN := Lib.hid (HO.out.push (gg := gq) hb3 hown3 _ hgrow (show w6.ownsRow w1.heap.size 26 1 _ (ls.length + 1) _ by rw [HLK.out]; exact hown') rfl hat hwr)
        have HB6 := Lib.hid (((HBR.out.trans (hb3.mono hwr)).alloc (by omega) (.cells #[.slice a3 vk.length c3] 26)).grown hgrow (by simp; omega) (fun x hx => (HOR.out.lt x hx).1))
        clear hown3 hgrow hown' hat hb3 hown6
        go_roundw
        case rel => exact ⟨k + 1, us ++ [.slice a3 vk.length c3], ls ++ [vk], by omega, by go_num, by rw [List.length_append, HLK.out]; rfl, HT2.out, HOV2.out, HN.out, HB6.out⟩
        case measure => simp [intOf]; omega
    · obtain rfl : k = M := by omega
      have HKS := Lib.hid (show ks = ls.map some by
        have h := HTK.out
        rwa [List.take_of_length_le (by rw [HX.out.len]; exact Nat.le_refl _)] at h)
      have HN := Lib.hid (show combV env (6, s, m) ks = callF s ls by rw [HQ.out, HKS.out, allO_some]; rfl)
      have hlk := HLK.out
      have HLC := Lib.hid (l9Call_any s _ ls wr HO.out.reads HOV.out)
      go_wp2_with fail
      refine HLC.out.mono ?_
      rintro e w7 ⟨u, rfl, hown, hb7⟩
      have HO7 := Lib.hid (own_base (base' := w.heap.size) hown (fun g hg => Nat.le_trans HBW.out.size (hown.lt g hg).1))
      have HB7 := Lib.hid (HBW.out.trans (hb7.mono HBW.out.size))
      clear hown hb7
      go_wp2
      exact bodyPost_ret (v := .tuple #[u, .bool (callOK s ls)]) (by simp [results, Tryz.results41, go_sem]) rfl (by rw [HN.out]; exact ⟨u, rfl, HO7.out, HB7.out⟩)

end Go.Proofs.YtpcaciogglllbaaGreatDoor
