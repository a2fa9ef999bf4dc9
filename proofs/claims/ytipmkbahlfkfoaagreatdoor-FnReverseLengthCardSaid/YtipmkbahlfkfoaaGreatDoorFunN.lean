/-
  leastNumber, greatestNumber and the closure of ofNumbers, by their contracts.
-/
import Derived.Test.YtipmkbahlfkfoaaGreatDoorFunC
import Derived.Test.YtipmkbahlfkfoaaGreatDoorSlicesM
namespace Go.Proofs.YtipmkbahlfkfoaaGreatDoor
open Go.RowKit
set_option linter.unusedVariables false

theorem infoFr : (Tryz.prog.info? 41).map (fun i => (i.zero, i.size, i.bytes)) = some (some (.agg #[.int .i64 0, .int .i64 0]), 2, 16) := by kernel_rfl
/-- The numbers of values, side by side. -/
noncomputable def flatN (ls : List (List Cl)) : List Value := ls.flatMap fun l => [.int .i64 (rdT (wdV l)), .int .i64 (rdB (wdV l))]
theorem flatN_length (ls : List (List Cl)) : (flatN ls).length = ls.length * 2 := by
  induction ls with
  | nil => rfl
  | cons l ls ih =>
    show ([Value.int .i64 (rdT (wdV l)), .int .i64 (rdB (wdV l))] ++ flatN ls).length = (ls.length + 1) * 2
    rw [List.length_append, ih]; simp; omega
theorem flatN_append (a b : List (List Cl)) : flatN (a ++ b) = flatN a ++ flatN b := by simp [flatN]
theorem flatN_at : ∀ (ls : List (List Cl)) (k : Nat) (h : k < ls.length), (flatN ls)[k * 2]? = some (.int .i64 (rdT (wdV ls[k]))) ∧ (flatN ls)[k * 2 + 1]? = some (.int .i64 (rdB (wdV ls[k]))) := by
  intro ls
  induction ls with
  | nil => intro k h; simp at h
  | cons l ls ih =>
    intro k h
    have e : flatN (l :: ls) = .int .i64 (rdT (wdV l)) :: .int .i64 (rdB (wdV l)) :: flatN ls := rfl
    cases k with
    | zero => rw [e]; exact ⟨rfl, rfl⟩
    | succ k =>
      rw [e, show (k + 1) * 2 = k * 2 + 1 + 1 by omega]
      simp only [List.getElem?_cons_succ, List.getElem_cons_succ]
      exact ih k (by simpa using h)
/-- A function of fractions picks the best one. -/
def DoesF (F : Value) (B : Nat) (W : World) (mn : Bool) : Prop :=
  ∃ K, F = .func (.func K) #[] #[] ∧ (∀ args w, (callFunc K args).run Tryz.prog w = .ok (.enter K args) w) ∧ ∀ (b o cap : Nat) (v : List Cl) (vs : List (List Cl)) (w : World), Up B W w → vs.length ≤ 1048576 → RowF w b o (v :: vs) → (∀ x ∈ v :: vs, vB (rdT (wdV x)) (rdB (wdV x)) = true) →
    Calls Tryz.prog K #[.slice (some ⟨b, o, none⟩) (vs.length + 1) cap] w fun e w' => e = .returned (.agg #[.int .i64 (rdT (wdV (bestB mn v vs))), .int .i64 (rdB (wdV (bestB mn v vs)))]) ∧ Below w.heap.size w w'
theorem DoesF.keep {F : Value} {B : Nat} {W W' : World} {mn : Bool} (h : DoesF F B W mn) (hb : Up B W W') : DoesF F B W' mn := by
  obtain ⟨K, h1, h2, h3⟩ := h
  exact ⟨K, h1, h2, fun b o cap v vs w a => h3 b o cap v vs w (hb.trans a)⟩

set_option maxRecDepth 100000 in
set_option maxHeartbeats 4000000 in
theorem least_any (b o cap : Nat) (v : List Cl) (vs : List (List Cl)) (w : World) (hl : vs.length ≤ 1048576) (hr : RowF w b o (v :: vs)) (hv : ∀ x ∈ v :: vs, vB (rdT (wdV x)) (rdB (wdV x)) = true) :
    Calls Tryz.prog 88 #[.slice (some ⟨b, o, none⟩) (vs.length + 1) cap] w fun e w' => e = .returned (.agg #[.int .i64 (rdT (wdV (bestB true v vs))), .int .i64 (rdB (wdV (bestB true v vs)))]) ∧ Below w.heap.size w w' := by
  have HB0 := Lib.hid ((Below.refl w.heap.size w).alloc (Nat.le_refl _) (.cells #[.int .i64 0, .int .i64 0] 41))
  have HC := Lib.hid (minF_any b o cap v vs (w.alloc (.cells #[.int .i64 0, .int .i64 0] 41)) hl ⟨by have := hr.1; simp; omega, fun k hk => ⟨(HB0.out.cell (p := ⟨b, _, none⟩) hr.1).trans (hr.2 k hk).1, (HB0.out.cell (p := ⟨b, _, none⟩) hr.1).trans (hr.2 k hk).2⟩⟩ hv)
  have F0 : Hid (Fr2 (w.alloc (.cells #[.int .i64 0, .int .i64 0] 41)) w.heap.size 0 0) := Lib.hid (by refine ⟨?_, ?_, ?_, ?_, ?_⟩ <;> simp [go_sem])
  clear hr hv
  generalize hTX : rdT (wdV (bestB true v vs)) = TX at HC
  generalize hBX : rdB (wdV (bestB true v vs)) = BX at HC
  go_enter Tryz.func88, Tryz.ntmps88
  go_wp2_with fail
  refine HC.out.mono ?_
  rintro e w1 ⟨rfl, hb1⟩
  have HF1 := Lib.hid (F0.out.keep hb1)
  have HB1 := Lib.hid (HB0.out.trans (hb1.mono HB0.out.size)); clear hb1
  obtain ⟨g0, g1, g2, g3, g4⟩ := HF1.out
  have HB2 := Lib.hid ((HB1.out.setCell (p := ⟨w.heap.size, 0, none⟩) (Nat.le_refl _) (.int .i64 TX)).setCell (p := ⟨w.heap.size, 1, none⟩) (Nat.le_refl _) (.int .i64 BX))
  go_wp2
  exact bodyPost_ret (v := .agg #[.int .i64 TX, .int .i64 BX]) (by simp [results, Tryz.results88, go_sem, g0, g1]) rfl ⟨rfl, HB2.out⟩

set_option maxRecDepth 100000 in
set_option maxHeartbeats 4000000 in
theorem greatest_any (b o cap : Nat) (v : List Cl) (vs : List (List Cl)) (w : World) (hl : vs.length ≤ 1048576) (hr : RowF w b o (v :: vs)) (hv : ∀ x ∈ v :: vs, vB (rdT (wdV x)) (rdB (wdV x)) = true) :
    Calls Tryz.prog 89 #[.slice (some ⟨b, o, none⟩) (vs.length + 1) cap] w fun e w' => e = .returned (.agg #[.int .i64 (rdT (wdV (bestB false v vs))), .int .i64 (rdB (wdV (bestB false v vs)))]) ∧ Below w.heap.size w w' := by
  have HB0 := Lib.hid ((Below.refl w.heap.size w).alloc (Nat.le_refl _) (.cells #[.int .i64 0, .int .i64 0] 41))
  have HC := Lib.hid (maxF_any b o cap v vs (w.alloc (.cells #[.int .i64 0, .int .i64 0] 41)) hl ⟨by have := hr.1; simp; omega, fun k hk => ⟨(HB0.out.cell (p := ⟨b, _, none⟩) hr.1).trans (hr.2 k hk).1, (HB0.out.cell (p := ⟨b, _, none⟩) hr.1).trans (hr.2 k hk).2⟩⟩ hv)
  have F0 : Hid (Fr2 (w.alloc (.cells #[.int .i64 0, .int .i64 0] 41)) w.heap.size 0 0) := Lib.hid (by refine ⟨?_, ?_, ?_, ?_, ?_⟩ <;> simp [go_sem])
  clear hr hv
  generalize hTX : rdT (wdV (bestB false v vs)) = TX at HC
  generalize hBX : rdB (wdV (bestB false v vs)) = BX at HC
  go_enter Tryz.func89, Tryz.ntmps89
  go_wp2_with fail
  refine HC.out.mono ?_
  rintro e w1 ⟨rfl, hb1⟩
  have HF1 := Lib.hid (F0.out.keep hb1)
  have HB1 := Lib.hid (HB0.out.trans (hb1.mono HB0.out.size)); clear hb1
  obtain ⟨g0, g1, g2, g3, g4⟩ := HF1.out
  have HB2 := Lib.hid ((HB1.out.setCell (p := ⟨w.heap.size, 0, none⟩) (Nat.le_refl _) (.int .i64 TX)).setCell (p := ⟨w.heap.size, 1, none⟩) (Nat.le_refl _) (.int .i64 BX))
  go_wp2
  exact bodyPost_ret (v := .agg #[.int .i64 TX, .int .i64 BX]) (by simp [results, Tryz.results89, go_sem, g0, g1]) rfl ⟨rfl, HB2.out⟩

open Classical in
noncomputable def numR (mn : Bool) (ls : List (List Cl)) : Option (List Cl) := match ls with | v :: vs => if ∀ x ∈ v :: vs, kdV x = 1 then some (bestB mn v vs) else none | _ => none

set_option maxRecDepth 100000 in
set_option maxHeartbeats 4000000 in
theorem ofNumbers1_any (fb B : Nat) (F : Value) (mn : Bool) (v : Value) (us : List Value) (ls : List (List Cl)) (w : World) (hc : w.cell? ⟨fb, 0, none⟩ = some F) (hF : DoesF F B w mn) (hr : RowV w (fun _ => True) v us) (hv : VlS w (fun _ => True) us ls) (hok : ∀ l ∈ ls, okV l = true) (hn : ls.length ≤ 1048576) (htab : Tab w) :
    Calls Tryz.prog 139 #[v, .pointer (some ⟨fb, 0, none⟩)] w (Res (numR mn ls) w) := by
  obtain ⟨j0, hj, hy0, hy1, hy2⟩ := info_parts infoFr
  have hfl : fb < w.heap.size := World.block_lt_of_cell? w _ hc
  have HNO := Lib.hid (show (∃ q ∈ ls, kdV q ≠ 1) → numR mn ls = none from fun ⟨q, h1, h2⟩ => by
    cases ls with
    | nil => cases h1
    | cons a t => exact if_neg (fun h => h2 (h q h1)))
  have hlen := hv.len
  have HV := Lib.hid hv; have HOK := Lib.hid hok; have HLEN := Lib.hid hlen; have HN := Lib.hid hn; have HT := Lib.hid htab; have HFD := Lib.hid hF; have HC := Lib.hid hc
  obtain ⟨ao, cap, rfl, h1, h2, h3⟩ := hr
  have hus : us.length ≤ 1048576 := by omega
  have H3 := Lib.hid h3
  have hcn := conc_num
  clear hv htab hok h3 h2 h1 hlen hn hF hc
  go_enter Tryz.func139, Tryz.ntmps139
  go_wp2_with fail
  go_loopw [4, 11] (fun a i wr => ∃ k : Nat, k ≤ us.length ∧ i = .int .i64 (k : Int) ∧ (∀ q ∈ ls.take k, kdV q = 1) ∧ wr.ownsRow w.heap.size 41 2 a k (flatN (ls.take k)) ∧ Below w.heap.size w wr) (fun _ i _ => us.length - (intOf i).toNat)
  case atStart => exact ⟨0, Nat.zero_le _, rfl, fun q h => by simp at h, World.ownsRow_nil _ _ _ _, Below.refl _ _⟩
  case round =>
    obtain ⟨k, hk, rfl, hall, hown, hb⟩ := hrel
    have HALL := Lib.hid hall; have HOR := Lib.hid hown; have HB := Lib.hid hb
    obtain ⟨aa, ac, rfl⟩ := own_shape hown
    clear hall hown hb
    by_cases hlt : k < us.length
    · have hkp : k < ls.length := by rw [← HLEN.out]; exact hlt
      obtain ⟨b, o, rfl, -, hbl, cc⟩ := H3.out.resolve_left (by rintro rfl; simp at hlt)
      have d0 : wr.cell? ⟨b, o + k, none⟩ = some us[k] := (HB.out.cell (p := ⟨b, _, none⟩) hbl).trans (cc k hlt)
      have hvk := HV.out.at k hlt hkp
      obtain ⟨Tk, xk, hTk⟩ := hvk.iface
      rw [hTk] at hvk d0
      have HTK := Lib.hid (show ls.take (k + 1) = ls.take k ++ [ls[k]] from List.take_succ_eq_append_getElem hkp)
      have hin : ls[k] ∈ ls := List.getElem_mem hkp
      have hokk := HOK.out ls[k] hin
      have HIN := Lib.hid hin
      generalize ls[k] = pk at hvk hokk HTK HIN
      clear cc hTk hin
      have hbs := HB.out.size
      rcases hvk.asN hokk with ⟨hatk, hkd⟩ | ⟨sk, hatk, hsk, rfl⟩
      · have HNN := Lib.hid (HNO.out ⟨pk, HIN.out, hkd⟩)
        have HBA := Lib.hid (HB.out.alloc hbs (.cells #[.int .i64 0, .int .i64 0] 152))
        clear hvk hokk hkd
        go_wp2
        go_ret
        exact Res.nil HBA.out HNN.out
      · have HA2 := Lib.hid (show ∀ q ∈ ls.take (k + 1), kdV q = 1 from fun q hq => by
          rw [HTK.out, List.mem_append, List.mem_singleton] at hq
          rcases hq with hq | rfl
          · exact HALL.out q hq
          · rfl)
        have HFA := Lib.hid (show flatN (ls.take (k + 1)) = flatN (ls.take k) ++ [.int .i64 (rdT sk), .int .i64 (rdB sk)] by rw [HTK.out, flatN_append]; rfl)
        generalize rdT sk = TS at hatk HFA
        generalize rdB sk = BS at hatk HFA
        have HBA := Lib.hid ((HB.out.alloc hbs (.cells #[.int .i64 TS, .int .i64 BS] 152)).alloc (by simp; omega) (.cells #[.int .i64 TS, .int .i64 BS] 41))
        clear hvk hokk hsk HTK HIN
        go_wp2_with (at_builtin; refine wpList_append_lies _ rfl _ _ 126 rfl w.heap.size 41 j0 (.agg #[.int .i64 0, .int .i64 0]) 2 16 Tryz.underlying126 hj hy0 hy1 hy2 rfl (by decide) (.slice aa k ac) k _ rfl ((HOR.out.alloc _).alloc _) ⟨wr.heap.size + 1, 0, none⟩ 1 1 [.int .i64 TS, .int .i64 BS] rfl rfl (World.news_of_block (by have := heap_alloc_new (wr.alloc (.cells #[.int .i64 TS, .int .i64 BS] 152)) (.cells #[.int .i64 TS, .int .i64 BS] 41); simpa using this)) (by simp [Value.oneCell']) (by omega) (by unfold maxLen; omega) (by omega) (by simp; omega) (wr.heap.size + 1 + 1) (by simp) ?_; intro gg cap' w6 hown' hgrow hat2 hlt'; have HO6 := Lib.hid (show w6.ownsRow w.heap.size 41 2 (.slice (some ⟨gg, 0, none⟩) (k + 1) cap') (k + 1) (flatN (ls.take (k + 1))) by rw [HFA.out]; exact hown'); have HB6 := Lib.hid (HBA.out.grown hgrow (by simp; omega) (fun x hx => (HOR.out.lt x hx).1)); clear hown' hgrow hat2)
        go_roundw
        case rel => exact ⟨k + 1, by omega, by go_num, HA2.out, HO6.out, HB6.out⟩
        case measure => simp [intOf]; omega
    · obtain rfl : k = us.length := by omega
      have htk : ls.take us.length = ls := List.take_of_length_le (by rw [HLEN.out]; exact Nat.le_refl _)
      rw [htk] at HALL HOR
      cases hls : ls with
      | nil =>
        subst hls
        have h0 : us.length = 0 := HLEN.out
        have hz : ((us.length : Int) == 0) = true := by rw [h0]; rfl
        clear H3 HOR HALL HNO htk
        go_wp2
        go_ret
        exact Res.nil HB.out rfl
      | cons q qs =>
        have hz : ((us.length : Int) == 0) = false := by rw [beq_eq_false_iff_ne, HLEN.out, hls]; simp; omega
        have hl2 : us.length = qs.length + 1 := by rw [HLEN.out, hls]; rfl
        have HRES := Lib.hid (show numR mn ls = some (bestB mn q qs) by rw [hls]; exact if_pos (by rw [← hls]; exact HALL.out))
        obtain ⟨g, hg, hgl, hcap⟩ : ∃ g, aa = some ⟨g, 0, none⟩ ∧ g < wr.heap.size ∧ us.length ≤ ac := by
          rcases HOR.out.2 with ⟨h1, h2⟩ | ⟨g', cap', cur, h1, _, _, h3', h4, _⟩
          · exact absurd h2 (by omega)
          · injection h1 with h1 h2 h5'
            subst h1
            exact ⟨g', rfl, (HOR.out.lt g' rfl).2, by omega⟩
        subst hg
        have HRF := Lib.hid (show RowF wr g 0 (q :: qs) by
          have hrf : RowF wr g 0 ls := by
            refine ⟨hgl, fun k hk => ?_⟩
            obtain ⟨f0, f1⟩ := flatN_at ls k hk
            have hku : k < us.length := by rw [HLEN.out]; exact hk
            rw [Nat.zero_add, HOR.out.cellAt _ (by omega), HOR.out.cellAt _ (by omega)]
            exact ⟨f0, f1⟩
          rw [hls] at hrf; exact hrf)
        have hkq : ∀ x ∈ q :: qs, okV x = true ∧ kdV x = 1 := fun x hx => ⟨HOK.out x (by rw [hls]; exact hx), HALL.out x (by rw [hls]; exact hx)⟩
        have hvB : ∀ x ∈ q :: qs, vB (rdT (wdV x)) (rdB (wdV x)) = true := fun x hx => rd_valid _ (num_read (hkq x hx).1 (hkq x hx).2).1
        have HBEST := Lib.hid (show okV (bestB mn q qs) = true ∧ ∀ w' S, VlS w' S [.iface 152 (.agg #[.int .i64 (rdT (wdV (bestB mn q qs))), .int .i64 (rdB (wdV (bestB mn q qs)))])] [bestB mn q qs] by
          have hm : bestB mn q qs ∈ q :: qs := by
            rcases best_mem mn qs q with h | h
            · rw [h]; exact List.mem_cons_self ..
            · exact List.mem_cons_of_mem _ h
          refine ⟨(hkq _ hm).1, fun w' S => ?_⟩
          rw [← hls] at hm
          obtain ⟨k, hk, hbk⟩ := List.mem_iff_getElem.mp hm
          have hvk := HV.out.at k (by rw [HLEN.out]; exact hk) hk
          obtain ⟨Tk, xk, hTk⟩ := hvk.iface
          rw [hTk, hbk] at hvk
          rcases hvk.asN (hkq _ (by rw [← hls]; exact hm)).1 with ⟨_, h1⟩ | ⟨s, _, hs, he⟩
          · exact absurd (hkq _ (by rw [← hls]; exact hm)).2 h1
          · rw [he]; exact .num hs .nil)
        have hqs : qs.length ≤ 1048576 := by omega
        obtain ⟨K, rfl, he, hcall⟩ := HFD.out
        have HK := Lib.hid (hcall g 0 ac q qs wr (Up.of HB.out) hqs HRF.out hvB)
        have hc2 : wr.cell? ⟨fb, 0, none⟩ = some (.func (.func K) #[] #[]) := (HB.out.cell (p := ⟨fb, _, none⟩) hfl).trans HC.out
        rw [hl2] at hz ⊢
        generalize hTX : rdT (wdV (bestB mn q qs)) = TX at HK HBEST
        generalize hBX : rdB (wdV (bestB mn q qs)) = BX at HK HBEST
        clear hTX hBX H3 HOR HALL HNO htk hl2 hkq hvB hls hcall HC
        go_wp2_with fail
        refine HK.out.mono ?_
        rintro e w1 ⟨rfl, hb1⟩
        have HB1 := Lib.hid (HB.out.trans (hb1.mono HB.out.size)); clear hb1
        go_wp2
        go_ret
        exact Res.val (S := fun _ => True) HB1.out (HBEST.out.2 _ _) (HT.out.keep HB1.out) HBEST.out.1 HRES.out

end Go.Proofs.YtipmkbahlfkfoaaGreatDoor
