/-
  impl.WrapText, by its contract.
-/
import Derived.Test.YtbddokfcohnndabDoorTabS
import Derived.Test.YtbddokfcohnndabDoorNoteI
import Derived.Test.YtbddokfcohnndabDoorWrapWI
namespace Go.Proofs.YtbddokfcohnndabDoor
open Go.RowKit
set_option linter.unusedVariables false

theorem few_sizedT {L : List ByteArray} (h : ∀ t ∈ L, t.size ≤ 60) : Sized L := fun t ht => by have := h t ht; unfold maxLen; omega

set_option maxRecDepth 100000 in
set_option maxHeartbeats 8000000 in
theorem wrapText_impl (s : ByteArray) (x : Int) (w : World) (hs : s.size ≤ maxLen) (ht : TabS w) :
    Calls Tryd.prog 6 #[.string s, .int .i64 x] w (NewTexts (wrapTB s x) w) := by
  obtain ⟨i0, hi, hz0, hz1, hz2⟩ := info_parts infoStr
  have HMX := Lib.hid hs
  have HN := Lib.hid (note_impl s w hs)
  clear hs
  cases hn : noteB s with
  | false =>
    have HD := Lib.hid (show wrapTB s x = [] by rw [wrapTB, hn]; rfl)
    rw [hn] at HN
    clear hn
    go_enter Tryd.func6, Tryd.ntmps6
    go_wp2_with fail
    refine HN.out.mono ?_
    rintro e w' ⟨rfl, rfl⟩
    go_wp2
    go_ret
    exact ⟨_, rfl, by rw [HD.out]; exact World.ownsRow_nil _ _ _ _, Below.refl _ _⟩
  | true =>
    have HD := Lib.hid (show wrapTB s x = linesT (wlB (fldB s) x) (fldB s) by rw [wrapTB, hn]; rfl)
    rw [hn] at HN
    have HF := Lib.hid (fields_any s w hn ht)
    obtain ⟨hf1, hf2⟩ := fldB_few (note_bytes hn).1
    have F1 := Lib.hid hf1
    have HLL := Lib.hid (linesT_len (wlB (fldB s) x) (fldB s))
    have HAT := Lib.hid (linesT_at (wlB (fldB s) x) (fldB s))
    obtain ⟨hk1, hk2⟩ := wlB_ok (fldB s) x
    have K1 := Lib.hid hk1
    have h20 := wlB_len (fldB s) x
    have HIN := Lib.hid (fun k (hk : k < (wlB (fldB s) x).length) => lines_in hk2 hk)
    have CW := Lib.hid (fun v w' hr => wrapLines_impl v (fldB s) x w' hr (few_sizedT hf1))
    generalize linesT (wlB (fldB s) x) (fldB s) = T at HD HLL HAT
    generalize wlB (fldB s) x = ls at HLL HAT K1 h20 HIN CW hk2
    generalize fldB s = W at HF hf2 F1 HAT HIN CW hk2
    clear hn hf1 hk1 hk2
    go_enter Tryd.func6, Tryd.ntmps6
    go_wp2_with fail
    refine HN.out.mono ?_
    rintro e w' ⟨rfl, rfl⟩
    go_wp2_with fail
    refine HF.out.mono ?_
    rintro e w1 ⟨v1, rfl, hr1, hb1⟩
    have R1 := Lib.hid hr1; have B1 := Lib.hid hb1
    clear hr1 hb1
    go_wp2_with fail
    refine (CW.out _ _ R1.out).mono ?_
    rintro e w2 ⟨v2, rfl, hown2, hb2⟩
    have P2 := Lib.hid (RowI.of_own hown2).1; have R2 := Lib.hid (R1.out.mono hb2); have B2 := Lib.hid (B1.out.trans (hb2.mono B1.out.size))
    clear hown2 hb2 R1 B1
    obtain ⟨ao4, cap4, rfl, q1, q2, q3⟩ := P2.out
    unfold maxLen at q2
    have P5 := Lib.hid q3
    clear q3 P2
    go_wp2_with fail
    go_loopw [5, 6, 8, 18] (fun a r _ k wr => ∃ (q : Nat) (ar : Option Addr) (cr : Nat), q ≤ ls.length ∧ k = .int .i64 (q : Int) ∧ r = .slice ar (W.length - (ls.take q).sum) cr ∧ RowOf w2 r (strs (W.drop (ls.take q).sum)) ∧ wr.ownsRow w2.heap.size 9 1 a q (strs (T.take q)) ∧ Below w2.heap.size w2 wr) (fun _ _ _ k _ => ls.length - (intOf k).toNat)
    case atStart =>
      obtain ⟨av, cv, hv, -⟩ := R2.out
      rw [strs_length] at hv
      exact ⟨0, av, cv, Nat.zero_le _, rfl, by simpa using hv, by simpa using R2.out, by simpa [strs] using World.ownsRow_nil _ _ _ _, Below.refl _ _⟩
    case round =>
      obtain ⟨q, ar, cr, hq, rfl, rfl, hrr, hown, hb⟩ := hrel
      obtain ⟨aa, ac, rfl⟩ := own_shape hown
      have HR := Lib.hid hrr; have HO := Lib.hid hown; have HB := Lib.hid hb
      clear hrr hown hb
      by_cases hlt : q < ls.length
      · obtain ⟨b, rfl, hbl, cc⟩ := P5.out.resolve_left (by rintro rfl; simp at hlt)
        have d1 := (HB.out.cell (p := ⟨b, q, none⟩) hbl).trans (cc q hlt)
        have hin := HIN.out q hlt
        have hm1 := K1.out _ (List.getElem_mem hlt)
        have HA := Lib.hid (HAT.out q hlt)
        have HNS := Lib.hid (show (ls.take (q + 1)).sum = (ls.take q).sum + ls[q] by rw [List.take_succ_eq_append_getElem hlt, List.sum_append]; simp)
        generalize ls[q] = m at d1 hin hm1 HA HNS
        generalize (ls.take q).sum = p at hin HA HNS HR ⊢
        clear cc
        have hld : (strs (W.drop p)).length = W.length - p := by rw [strs_length, List.length_drop]
        obtain ⟨ar', cr', hv, s1, s2, s3⟩ := HR.out
        injection hv with e1 e2 e3
        subst e1 e3
        rw [hld] at s1
        unfold maxLen at s2
        obtain ⟨b2, o2, rfl, hb2, -⟩ := s3.resolve_left (by intro h; have h' := congrArg List.length h; rw [hld, List.length_nil] at h'; omega)
        have hlm : ((W.drop p).take m).length = m := by rw [List.length_take, List.length_drop]; omega
        have HJ := Lib.hid (fun (wq : World) (hb : Below w2.heap.size w2 wq) => show Calls Tryd.prog 18 #[.slice (some ⟨b2, o2, none⟩) m cr, .string ⟨#[32]⟩] wq fun e w' => e = .returned (.string (jnW ((W.drop p).take m))) ∧ Below wq.heap.size wq w' by
          have h0 := joinW_any (some ⟨b2, o2, none⟩) cr ((W.drop p).take m) wq (by
            rw [hlm, strs_take]
            exact RowOf.front (k := m) (by rw [hld]; exact HR.out.mono hb) (by rw [hld]; omega)) (by intro h; rw [h] at hlm; simp at hlm; omega) (by omega) (fun y hy => F1.out y (List.mem_of_mem_drop (List.mem_of_mem_take hy)))
          rwa [hlm] at h0)
        have HBK := Lib.hid (RowOf.rest (k := m) hld HR.out (by omega))
        generalize jnW ((W.drop p).take m) = line at HA HJ
        clear hlm s3 e2
        go_wp2_with fail
        refine (HJ.out _ HB.out).mono ?_
        rintro e w3 ⟨rfl, hb3⟩
        have HB3 := Lib.hid (HB.out.trans (hb3.mono HB.out.size)); have HO3 := Lib.hid (own_belowS HO.out hb3)
        clear hb3
        go_wp2_with (at_builtin; refine wpList_append_own _ rfl _ _ 22 rfl w2.heap.size 9 i0 (.string ByteArray.empty) 1 16 Tryd.underlying22 hi hz0 hz1 hz2 rfl (by decide) _ _ _ rfl (HO3.out.alloc _) ⟨w3.heap.size, 0, none⟩ 1 1 [.string line] rfl rfl (World.news_of_block (cs := #[.string line]) (t := 9) (fr := (0, 0)) (heap_alloc_new w3 _)) (str_oneCell _) (by unfold maxLen; omega) (by omega) (by simp; exact Nat.le_succ_of_le HB3.out.size) ?_; intro v' w4 hown' hgrow hnil; have HB4 := Lib.hid ((HB3.out.alloc HB3.out.size _).grown hgrow (by have := HB3.out.size; simp; omega) (fun y hy => (HO3.out.lt y hy).1)); have HO4 := Lib.hid hown'; clear hown' hgrow hnil)
        go_roundw
        case rel =>
          refine ⟨q + 1, _, _, by omega, by go_num, by rw [HNS.out, Nat.sub_add_eq], ?_, ?_, HB4.out⟩
          · rw [HNS.out, ← List.drop_drop, strs_drop]; exact HBK.out
          · rw [HA.out, strs_append]; exact HO4.out
        case measure => simp [intOf]; omega
      · have hqe : q = ls.length := by omega
        have HG := Lib.hid (show T.take q = T by rw [List.take_of_length_le (by rw [HLL.out]; omega)])
        have HE := Lib.hid (show w2.heap.size = w2.heap.size ∧ q = T.length by rw [HLL.out]; exact ⟨rfl, hqe⟩)
        clear hqe
        go_wp2
        go_ret
        refine ⟨_, rfl, ?_, B2.out.trans (HB.out.mono B2.out.size)⟩
        rw [HD.out]
        have h9 := HO.out
        rw [HG.out] at h9
        rw [← HE.out.2]
        exact own_base h9 (fun g hg => Nat.le_trans B2.out.size (h9.lt g hg).1)

end Go.Proofs.YtbddokfcohnndabDoor
