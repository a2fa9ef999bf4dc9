/-
  impl's text of the four kinds of values, and ValueText, by their contracts.
-/
import Derived.Test.YtbnchmlapimmdaaGreatDoorAppV
import Derived.Test.YtbnchmlapimmdaaGreatDoorPrintS
import Derived.Test.YtbnchmlapimmdaaGreatDoorShelf
namespace Go.Proofs.YtbnchmlapimmdaaGreatDoor
open Go.RowKit
set_option linter.unusedVariables false

/-- A value whose text is that of its cells, in every world that keeps what W holds. -/
def TxOK (W : World) (u : Value) (p : List Cl) : Prop :=
  ∃ (T : TypeId) (x : Value) (K : FuncId), u = .iface T x ∧ (∀ w, (method 320 T x "loop.example/configformatter/impl.text").run Tryz.prog w = .ok (K, x) w) ∧ (∀ args w, (callFunc K args).run Tryz.prog w = .ok (.enter K args) w) ∧
    (okV p = true → ∀ (w : World), Below W.heap.size W w → Calls Tryz.prog K #[x] w fun e w' => e = .returned (.string ⟨(textV p).toArray⟩) ∧ Below w.heap.size w w')
theorem textV_1 {c : Cl} (hok : okV [c] = true) (h0 : c.2.2 = 0) : textV [c] = bareT c [] := by
  have h : Tx [c] 1 0 [c].length [(rkC c, bareT c [])] := .cons (g := 1) (c := c) (ks := []) rfl (by rw [h0]; exact .nil _) (.nil _)
  rw [textV_of hok h]
theorem comma_join (l : List (List UInt8)) : Lib.join l [44, 32] = commaL l := by
  cases l with
  | nil => rfl
  | cons x r => rw [Lib.join_cons]; rfl
theorem textV_short {l : List Cl} (hok : okV l = true) : (textV l).length ≤ 12000 := by
  obtain ⟨x, hx⟩ := okV_tx hok
  rw [textV_of hok hx]
  have h1 := Tx.shortW (allV_W ((okV_iff l).mp hok).2.1) hx
  have h2 := ((okV_iff l).mp hok).1
  have h3 : sumT [x] = x.2.length + 8 := by first | rfl | simp [sumT]
  omega

set_option maxRecDepth 100000 in
set_option maxHeartbeats 4000000 in
theorem text_text (s : ByteArray) (hs : okC (2, s, 0) = true) (w : World) :
    Calls Tryz.prog 219 #[.string s] w fun e w' => e = .returned (.string ⟨(quoteL s.data.toList).toArray⟩) ∧ Below w.heap.size w w' := by
  obtain ⟨htb, hsz⟩ : textB s = true ∧ s.size ≤ 60 := by
    simpa [okC, cellB, wordB, manyB] using hs
  have HQ := Lib.hid (show quoteT s = ⟨(quoteL s.data.toList).toArray⟩ by rw [quoteT, if_pos htb])
  rw [← HQ.out]
  have hm : s.size ≤ maxLen := by unfold maxLen; omega
  clear htb hs
  go_enter Tryz.func219, Tryz.ntmps219
  go_wp2_with fail
  refine (quoteText_impl s _ hm).mono ?_
  rintro e w1 ⟨rfl, hb1⟩
  have HB1 := Lib.hid hb1; clear hb1
  go_wp2
  go_ret
  exact ⟨rfl, HB1.out⟩

theorem infoS : (Tryz.prog.info? 9).map (fun i => (i.zero, i.size, i.bytes)) = some (some (.string ByteArray.empty), 1, 16) := by kernel_rfl

set_option maxRecDepth 100000 in
set_option maxHeartbeats 4000000 in
theorem text_list (W : World) (S : Nat → Prop) (x : Value) (us : List Value) (ps : List (List Cl)) (hx : RowV W S x us) (hl : us.length = ps.length) (hall : ∀ k (h : k < us.length) (h' : k < ps.length), TxOK W us[k] ps[k])
    (hok : ∀ p ∈ ps, okV p = true) (hokl : okV (listV ps) = true) (w : World) (hW : Below W.heap.size W w) :
    Calls Tryz.prog 210 #[x] w fun e w' => e = .returned (.string ⟨(textV (listV ps)).toArray⟩) ∧ Below w.heap.size w w' := by
  obtain ⟨i0, hi, hz0, hz1, hz2⟩ := info_parts infoS
  have HW := Lib.hid hW; have HALL := Lib.hid hall; have HOK := Lib.hid hok
  have hlen : ps.length ≤ 60 := by
    have := ((okV_iff _).mp hokl).2.1
    rw [List.all_eq_true] at this
    have := (okM_many (okW_M (okVC_W (this (5, ⟨#[]⟩, (ps.length : Int)) (by simp [listV]))))).2
    simp only at this; omega
  have HTX := Lib.hid (textV_listV hok hokl)
  have hsh := textV_short hokl
  rw [HTX.out] at hsh
  simp only [List.length_cons, List.length_append, List.length_nil] at hsh
  obtain ⟨ao, cap, rfl, h1, h2, h3⟩ := hx
  unfold maxLen at h2
  have H3 := Lib.hid h3
  have hby : i0.bytes * us.length ≤ 281474976710656 := by rw [hz2]; omega
  have HPL := Lib.hid (show ps.length = us.length from hl.symm)
  have hus : us.length ≤ 60 := by omega
  have HSH := Lib.hid hsh; have HLE := Lib.hid hlen
  clear hW hall h3 hok hl hsh hlen hokl
  go_enter Tryz.func210, Tryz.ntmps210
  go_wp2_with (at_make; refine wpList_make_full _ rfl _ _ 104 rfl w.heap.size 9 i0 (.string ByteArray.empty) 1 Tryz.underlying104 hi hz0 hz1 .i64 .i64 (us.length : Int) (us.length : Int) us.length rfl rfl rfl rfl hby (by unfold maxLen; omega) (Nat.le_refl _) ?_; intro w1 hown1 hgrow1)
  have hM : (madeCells (Value.string ByteArray.empty).cells (us.length * 1)).toList.length = us.length := by have := hown1.1; omega
  generalize (madeCells (Value.string ByteArray.empty).cells (us.length * 1)).toList = M at hown1 hM
  have B1 := Lib.hid ((Below.refl w.heap.size w).grown hgrow1 (Nat.le_refl _) (by simp))
  have HM := Lib.hid hM
  have O1 := Lib.hid hown1
  clear hgrow1 hM hown1 hby
  go_wp2_with fail
  go_loopw [11] (fun i wr => ∃ k : Nat, k ≤ us.length ∧ i = .int .i64 (k : Int) ∧ wr.ownsRow w.heap.size 9 1 (.slice (some ⟨w.heap.size, 0, none⟩) us.length us.length) us.length ((ps.take k).map (fun p => Value.string ⟨(textV p).toArray⟩) ++ M.drop k) ∧ Below w.heap.size w wr) (fun i _ => us.length - (intOf i).toNat)
  case atStart => exact ⟨0, Nat.zero_le _, rfl, by simpa using O1.out, B1.out⟩
  case round =>
    obtain ⟨k, hk, rfl, hown, hb⟩ := hrel
    have HOR := Lib.hid hown; have HB := Lib.hid hb
    clear hown hb
    by_cases hlt : k < us.length
    · obtain ⟨b, o, rfl, -, hbl, cc⟩ := H3.out.resolve_left (by rintro rfl; simp at hlt)
      have hWr : Below W.heap.size W wr := HW.out.trans (HB.out.mono HW.out.size)
      have d0 : wr.cell? ⟨b, o + k, none⟩ = some us[k] := (hWr.cell (p := ⟨b, _, none⟩) hbl).trans (cc k hlt)
      obtain ⟨T, xk, K, hu, hm, heK, hK⟩ := HALL.out k hlt (by rw [HPL.out]; exact hlt)
      rw [hu] at d0
      have HK := Lib.hid (hK (HOK.out _ (List.getElem_mem (by rw [HPL.out]; exact hlt))) wr hWr)
      have HNX := Lib.hid (show (((ps.take k).map (fun p => Value.string ⟨(textV p).toArray⟩) ++ M.drop k).set k (.string ⟨(textV (ps[k]'(by rw [HPL.out]; exact hlt))).toArray⟩)) = (ps.take (k + 1)).map (fun p => Value.string ⟨(textV p).toArray⟩) ++ M.drop (k + 1) by
        have hlk : ((ps.take k).map (fun p => Value.string ⟨(textV p).toArray⟩)).length = k := by rw [List.length_map, List.length_take, HPL.out]; omega
        have hmk : k < M.length := by rw [HM.out]; exact hlt
        rw [List.set_append_right _ _ (by omega), hlk, Nat.sub_self, List.drop_eq_getElem_cons hmk, List.set_cons_zero, List.take_succ_eq_append_getElem (by rw [HPL.out]; exact hlt), List.map_append, List.append_assoc]
        rfl)
      generalize textV (ps[k]'(by rw [HPL.out]; exact hlt)) = tk at HK HNX
      clear cc hK
      go_wp2_with fail
      refine HK.out.mono ?_
      rintro e w2 ⟨rfl, hb2⟩
      have HO2 := Lib.hid (HOR.out.kept (row := none) ⟨hb2.os, hb2.tape, hb2.output, hb2.size, fun i hi _ => hb2.block i hi⟩ (.inr (by simp [Value.ownBlock])))
      have HB2 := Lib.hid (HB.out.trans (hb2.mono HB.out.size))
      obtain ⟨u3, g3⟩ : ∃ u, w2.cell? ⟨w.heap.size, k, none⟩ = some u := by
        rw [HO2.out.cellAt k (by omega), List.getElem?_eq_getElem (by have := HO2.out.1; omega)]; exact ⟨_, rfl⟩
      have z3 := HO2.out.frozenAt k
      have HO3 := Lib.hid (show _ from HNX.out ▸ (HO2.out.stored k (.string ⟨tk.toArray⟩)).1)
      have HB3 := Lib.hid (HB2.out.setCell (p := ⟨w.heap.size, k, none⟩) (Nat.le_refl _) (.string ⟨tk.toArray⟩))
      clear hb2
      go_wp2
      go_roundw
      case rel => exact ⟨k + 1, by omega, by go_num, HO3.out, HB3.out⟩
      case measure => simp [intOf]; omega
    · obtain rfl : k = us.length := by omega
      have hlx : (ps.map (fun p => (⟨(textV p).toArray⟩ : ByteArray))).length = us.length := by rw [List.length_map, HPL.out]
      have hmm : (ps.map (fun p => (⟨(textV p).toArray⟩ : ByteArray))).map (·.data.toList) = ps.map textV := by
        rw [List.map_map]; exact List.map_congr_left fun p _ => rfl
      have hcells : ∀ (j : Nat) y, (ps.map (fun p => (⟨(textV p).toArray⟩ : ByteArray)))[j]? = some y → wr.cell? ⟨w.heap.size, 0 + j, none⟩ = some (.string y) := by
        intro j y hy
        have hj : j < us.length := by
          rw [← hlx]
          by_cases h : j < (ps.map (fun p => (⟨(textV p).toArray⟩ : ByteArray))).length
          · exact h
          · rw [List.getElem?_eq_none (by omega)] at hy; cases hy
        rw [Nat.zero_add, HOR.out.cellAt j (by omega), List.take_of_length_le (by rw [HPL.out]; exact Nat.le_refl _), List.getElem?_append_left (by rw [List.length_map, HPL.out]; exact hj)]
        rw [List.getElem?_map] at hy ⊢
        cases hpj : ps[j]? with
        | none => rw [hpj] at hy; cases hy
        | some p => rw [hpj] at hy; simp only [Option.map_some, Option.some.injEq] at hy ⊢; rw [hy]
      have hsep : (⟨#[44, 32]⟩ : ByteArray).data.toList = [44, 32] := rfl
      have HJ := Lib.hid (Tryz.strings_Join w.heap.size 0 us.length (ps.map (fun p => (⟨(textV p).toArray⟩ : ByteArray))) ⟨#[44, 32]⟩ wr hcells (by have := (HOR.out.lt w.heap.size rfl).2; exact this) (by rw [hlx]; omega) (by rw [hlx]; exact Nat.le_refl _)
        (by rw [hmm, hsep, comma_join]; have := HSH.out; omega))
      rw [hmm, hlx, hsep, comma_join] at HJ
      have HTX2 := Lib.hid (show (⟨(textV (listV ps)).toArray⟩ : ByteArray) = (⟨#[91]⟩ : ByteArray) ++ ⟨(commaL (ps.map textV)).toArray⟩ ++ ⟨#[93]⟩ by rw [HTX.out]; apply ByteArray.ext; simp)
      have hsz1 : (⟨(commaL (ps.map textV)).toArray⟩ : ByteArray).size ≤ 12000 := by
        have := HSH.out
        show (commaL (ps.map textV)).toArray.size ≤ 12000
        simp; omega
      generalize (⟨(commaL (ps.map textV)).toArray⟩ : ByteArray) = jj at HJ hsz1 HTX2
      clear hcells hmm hlx
      go_wp2_with fail
      refine HJ.out.mono ?_
      rintro e w3 ⟨rfl, hb3⟩
      have HB3 := Lib.hid (HB.out.trans (hb3.mono HB.out.size)); clear hb3
      go_wp2
      go_ret
      exact ⟨by rw [HTX2.out]; rfl, HB3.out⟩

/-- What text of a value answers. -/
theorem VlS.text_ok {W : World} {S : Nat → Prop} {us : List Value} {ps : List (List Cl)} (h : VlS W S us ps) (htab : Tab W) : ∀ k (hk : k < us.length) (hk' : k < ps.length), TxOK W us[k] ps[k] := by
  refine VlS.all (P := TxOK W) ?_ ?_ ?_ ?_ h
  · intro s hs
    refine ⟨_, _, 217, rfl, fun w => meth_text_num _ w, enters_of Tryz.func217 (by kernel_rfl) rfl, fun hok w hW => ?_⟩
    rw [textV_1 hok rfl, show bareT (1, s, 0) [] = s.data.toList from rfl, ← rd_text s hs]
    exact text_num _ _ w (htab.keep hW)
  · intro s hs
    refine ⟨_, _, 219, rfl, fun w => meth_text_text _ w, enters_of Tryz.func219 (by kernel_rfl) rfl, fun hok w hW => ?_⟩
    rw [textV_1 hok rfl, show bareT (2, s, 0) [] = quoteL s.data.toList from rfl]
    exact text_text s hs w
  · intro b
    refine ⟨_, _, 222, rfl, fun w => meth_text_truth _ w, enters_of Tryz.func222 (by kernel_rfl) rfl, fun hok w hW => ?_⟩
    rw [textV_1 hok rfl, show bareT (3, truW b, 0) [] = (truW b).data.toList from rfl]
    refine (text_truth b w).mono ?_
    rintro e w' ⟨rfl, rfl⟩
    exact ⟨rfl, Below.refl _ _⟩
  · intro v us ps hv hs hall
    refine ⟨_, _, 210, rfl, fun w => meth_text_list _ w, enters_of Tryz.func210 (by kernel_rfl) rfl, fun hok w hW => ?_⟩
    exact text_list W S v us ps hv hs.len hall (okV_parts hs.exs hok).1 hok w hW

set_option maxRecDepth 100000 in
set_option maxHeartbeats 4000000 in
theorem valueText_impl (v : Value) (l : List Cl) (w : World) (hr : RowC w v l) (hz : ShortC l) (htab : Tab w) :
    Calls Tryz.prog 18 #[v] w fun e w' => e = .returned (.string ⟨(textV l).toArray⟩) ∧ Below w.heap.size w w' := by
  have HC := Lib.hid (readValue_any v l w hr hz htab)
  obtain ⟨ao, cap, rfl, h1, h2, h3⟩ := hr
  unfold maxLen at h2
  clear h3 hz
  go_enter Tryz.func18, Tryz.ntmps18
  go_wp2_with fail
  refine HC.out.mono ?_
  rintro e w1 ⟨hb1, ⟨T0, x0, rfl, hok, hv⟩ | ⟨rfl, hno⟩⟩
  · obtain ⟨T, x, K, hu, hm, heK, hK⟩ := hv.text_ok (htab.keep hb1) 0 (by simp) (by simp)
    simp only [List.getElem_cons_zero, Value.iface.injEq] at hu
    obtain ⟨rfl, rfl⟩ := hu
    have HK := Lib.hid (hK hok w1 (Below.refl _ _))
    simp only [List.getElem_cons_zero] at HK
    have HB := Lib.hid hb1
    clear hb1 hv hok hK
    go_wp2_with fail
    refine HK.out.mono ?_
    rintro e w2 ⟨rfl, hb2⟩
    have HB2 := Lib.hid (HB.out.trans (hb2.mono HB.out.size)); clear hb2
    go_wp2
    go_ret
    exact ⟨rfl, HB2.out⟩
  · have HE := Lib.hid (textV_no hno)
    have HB := Lib.hid hb1
    clear hno hb1
    go_wp2
    go_ret
    exact ⟨by rw [HE.out]; rfl, HB.out⟩

end Go.Proofs.YtbnchmlapimmdaaGreatDoor
