/-
  spec.WrapText, by its contract.
-/
import Derived.Test.YtbddokfcohnndabDoorWrapT
import Derived.Test.YtbddokfcohnndabDoorNoteS
import Derived.Test.YtbddokfcohnndabDoorWrapWS
import Derived.Test.YtbddokfcohnndabDoorStrs
import Derived.Test.YtbddokfcohnndabDoorOwnK
import Derived.Deep.AppendLies
namespace Go.Proofs.YtbddokfcohnndabDoor
open Go.RowKit
set_option linter.unusedVariables false

theorem wlB_nil (x : Int) : wlB [] x = [] := by
  obtain ⟨h1, h2⟩ := wlB_ok [] x
  have := len_sum _ h1
  simp only [List.length_nil] at h2
  exact List.eq_nil_of_length_eq_zero (by omega)
theorem wrapTB_is (s : ByteArray) (x : Int) : wrapTB s x = linesT (wlB (if noteB s then fldB s else []) x) (if noteB s then fldB s else []) := by
  unfold wrapTB
  by_cases h : noteB s = true
  · rw [if_pos h, if_pos h]
  · rw [if_neg h, if_neg h, wlB_nil]; rfl
theorem few_sizedS {L : List ByteArray} (h : ∀ t ∈ L, t.size ≤ 60) : Sized L := fun t ht => by have := h t ht; unfold maxLen; omega
/-- What of the words is known at place k. -/
def FldAt (s : ByteArray) (k : Nat) (W : List ByteArray) (cur : ByteArray) : Prop :=
  (k ≤ s.size ∧ fldB s = W ++ (Lib.fieldsGo cur.data.toList (s.data.toList.drop k)).map mkB) ∨ (k = s.size + 1 ∧ fldB s = W)
theorem drop_byte (s : ByteArray) (k : Nat) (hk : k < s.size) : s.data.toList.drop k = s[k] :: s.data.toList.drop (k + 1) := List.drop_eq_getElem_cons (by rw [Array.length_toList]; exact hk)
theorem fld_start (s : ByteArray) : FldAt s 0 [] ⟨#[]⟩ := .inl ⟨Nat.zero_le _, rfl⟩
theorem fld_more {s : ByteArray} {k : Nat} {W : List ByteArray} {cur : ByteArray} (h : FldAt s k W cur) (hk : k < s.size) (hb : 32 ≤ s[k].toNat) (hs : ¬ (s[k].toNat : Int) = 32) : FldAt s (k + 1) W (cur ++ s.extract k (k + 1)) := by
  rcases h with ⟨-, h⟩ | ⟨h, -⟩
  · left
    refine ⟨hk, ?_⟩
    rw [h, drop_byte s k hk, Lib.fieldsGo, note_sp hb, if_neg (by simp; intro e; rw [e] at hs; simp at hs)]
    congr 3
    rw [ByteArray.data_append, Array.toList_append]
    congr 1
    have hd := drop_byte s k hk
    have e : (s.extract k (k + 1)).data.toList = (s.data.toList.drop k).take 1 := by simp [ByteArray.data_extract, List.take_drop]
    rw [e, hd]; rfl
  · omega
theorem mk_self (c : ByteArray) : mkB c.data.toList = c := by unfold mkB; simp
theorem fld_word {s : ByteArray} {k : Nat} {W : List ByteArray} {cur : ByteArray} (h : FldAt s k W cur) (hk : k ≤ s.size) (hs : (hk : k < s.size) → (s[k].toNat : Int) = 32) (hc : ¬ cur.toList = []) : FldAt s (k + 1) (W ++ [cur]) ⟨#[]⟩ := by
  have hne : cur.data.toList.isEmpty = false := by rw [ByteArray.toList_eq] at hc; simpa using hc
  rcases h with ⟨-, h⟩ | ⟨h, -⟩
  · by_cases hlt : k < s.size
    · left
      have h32 := hs hlt
      refine ⟨hlt, ?_⟩
      rw [h, drop_byte s k hlt, Lib.fieldsGo, note_sp (by omega), if_pos (by rw [beq_iff_eq]; exact UInt8.toNat_inj.mp (by have : (32 : UInt8).toNat = 32 := rfl; omega)), hne]
      simp [mk_self]
    · right
      refine ⟨by omega, ?_⟩
      rw [h, List.drop_eq_nil_of_le (by rw [Array.length_toList]; show s.size ≤ k; omega), Lib.fieldsGo, hne]
      simp [mk_self]
  · omega
theorem fld_none {s : ByteArray} {k : Nat} {W : List ByteArray} {cur : ByteArray} (h : FldAt s k W cur) (hk : k ≤ s.size) (hs : (hk : k < s.size) → (s[k].toNat : Int) = 32) (hc : cur.toList = []) : FldAt s (k + 1) W ⟨#[]⟩ := by
  have hne : cur.data.toList.isEmpty = true := by rw [ByteArray.toList_eq] at hc; simpa using hc
  rcases h with ⟨-, h⟩ | ⟨h, -⟩
  · by_cases hlt : k < s.size
    · left
      have h32 := hs hlt
      refine ⟨hlt, ?_⟩
      rw [h, drop_byte s k hlt, Lib.fieldsGo, note_sp (by omega), if_pos (by rw [beq_iff_eq]; exact UInt8.toNat_inj.mp (by have : (32 : UInt8).toNat = 32 := rfl; omega)), hne]
      rfl
    · right
      refine ⟨by omega, ?_⟩
      rw [h, List.drop_eq_nil_of_le (by rw [Array.length_toList]; show s.size ≤ k; omega), Lib.fieldsGo, hne]
      simp
  · omega
theorem fld_end {s : ByteArray} {W : List ByteArray} {cur : ByteArray} (h : FldAt s (s.size + 1) W cur) : W = fldB s := by
  rcases h with ⟨h, -⟩ | ⟨-, h⟩
  · omega
  · exact h.symm

set_option maxRecDepth 100000 in
set_option maxHeartbeats 8000000 in
theorem wrapText_spec (s : ByteArray) (x : Int) (w : World) (hs : s.size ≤ maxLen) :
    Calls Tryd.prog 5 #[.string s, .int .i64 x] w (NewTexts (wrapTB s x) w) := by
  obtain ⟨i0, hi, hz0, hz1, hz2⟩ := info_parts infoStr
  have HN := Lib.hid (fun w' => note_spec s w' hs)
  have HD := Lib.hid (wrapTB_is s x)
  have HFE := Lib.hid (show noteB s = true → s.size ≤ 60 ∧ ∀ (k : Nat) (hk : k < s.size), 32 ≤ s[k].toNat ∧ s[k].toNat ≤ 126 from fun h => note_bytes h)
  unfold maxLen at hs
  have HO1 := Lib.hid (show ((w.alloc (.cells #[] 9)).alloc (.cells #[] 9)).ownsRow w.heap.size 9 1 (.slice (some ⟨w.heap.size, 0, none⟩) 0 0) 0 [] from (World.ownsRow_lit (base := w.heap.size) (size := 1) (e := 9) w #[] 0 (Nat.le_refl _) (by unfold maxLen; omega) rfl).alloc _)
  have hsz : (w.alloc (.cells #[] 9)).heap.size = w.heap.size + 1 := by simp
  have HW1 := Lib.hid (show ((w.alloc (.cells #[] 9)).alloc (.cells #[] 9)).ownsRow (w.heap.size + 1) 9 1 (.slice (some ⟨w.heap.size + 1, 0, none⟩) 0 0) 0 [] by
    have := World.ownsRow_lit (base := w.heap.size + 1) (size := 1) (e := 9) (w.alloc (.cells #[] 9)) #[] 0 (by rw [hsz]; exact Nat.le_refl _) (by unfold maxLen; omega) rfl
    rwa [hsz] at this)
  have HB1 := Lib.hid (((Below.refl w.heap.size w).alloc (Nat.le_refl _) (.cells #[] 9)).alloc (by rw [hsz]; omega) (.cells #[] 9))
  have HS1 := Lib.hid (show w.heap.size + 1 ≤ ((w.alloc (.cells #[] 9)).alloc (.cells #[] 9)).heap.size by simp)
  clear hsz
  cases hn : noteB s
  case' false =>
    rw [hn] at HN HD
    simp only [Bool.false_eq_true, if_false] at HD
    have HDE := Lib.hid (show wrapTB s x = [] by rw [HD.out, wlB_nil]; rfl)
    have CW := Lib.hid (fun v w' hr => wrapLines_spec v [] x w' hr (fun t ht => absurd ht List.not_mem_nil))
    rw [wlB_nil] at CW
    have HRW := Lib.hid (RowOf.of_own (L := strs []) HW1.out)
    clear hn HFE HD HW1
    go_enter Tryd.func5, Tryd.ntmps5
    go_wp2
    refine wp_loop_rounds 1 ?_
    rw [rounds_succ]
    go_wp2_with fail
    refine (HN.out _).mono ?_
    rintro e w' ⟨rfl, hw'⟩
    subst hw'
    go_wp2_with fail
    refine (CW.out _ _ HRW.out).mono ?_
    rintro e w5 ⟨v2, rfl, hown2, hb2⟩
    obtain ⟨al, cl, rfl⟩ := own_shape hown2
    have HO5 := Lib.hid (own_belowS HO1.out hb2); have HB5 := Lib.hid (HB1.out.trans (hb2.mono HB1.out.size))
    clear hown2 hb2 HO1 HB1 HRW CW
    go_wp2
    refine wp_loop_rounds 1 ?_
    rw [rounds_succ]
    go_wp2
    go_ret
    exact ⟨_, rfl, by rw [HDE.out]; exact HO5.out, HB5.out⟩
  case' true =>
    obtain ⟨h60, hby⟩ := HFE.out hn
    have HBY := Lib.hid hby
    rw [hn] at HN HD
    simp only [if_true] at HD
    obtain ⟨hf1, hf2⟩ := fldB_few h60
    have F1 := Lib.hid hf1
    clear hn HFE hby hf1
    go_enter Tryd.func5, Tryd.ntmps5
    go_wp2
    go_loopw [6, 7, 8] (fun a c i wr => ∃ (k : Nat) (M : List ByteArray) (cur : ByteArray), i = .int .i64 (k : Int) ∧ c = .string cur ∧ k ≤ s.size + 1 ∧ cur.size ≤ k ∧ M.length ≤ k ∧ FldAt s k M cur ∧ wr.ownsRow (w.heap.size + 1) 9 1 a M.length (strs M) ∧ wr.ownsRow w.heap.size 9 1 (.slice (some ⟨w.heap.size, 0, none⟩) 0 0) 0 [] ∧ Below w.heap.size w wr ∧ w.heap.size + 1 ≤ wr.heap.size) (fun _ _ i _ => s.size + 1 - (intOf i).toNat)
    case atStart => exact ⟨0, [], _, rfl, rfl, by omega, by decide, Nat.le_refl _, fld_start s, HW1.out, HO1.out, HB1.out, HS1.out⟩
    case round =>
      clear HW1 HO1 HB1 HS1
      obtain ⟨k, M, cur, rfl, rfl, hk, hcs, hMk, hfl, hwo, hoo, hb, hsz⟩ := hrel
      obtain ⟨aw, cw, rfl⟩ := own_shape hwo
      have HW := Lib.hid hwo; have HO := Lib.hid hoo; have HB := Lib.hid hb; have HFL := Lib.hid hfl; have HS1 := Lib.hid hsz
      have HNE := Lib.hid (show (Value.slice (some ⟨w.heap.size, 0, none⟩) 0 0).ownBlock ≠ (Value.slice aw M.length cw).ownBlock from fun e => by
        have h := (hwo.lt w.heap.size e.symm).1
        omega)
      clear hwo hoo hb hfl hsz
      by_cases hlt : k < s.size
      · have hb0 := HBY.out k hlt
        by_cases hsp : (s[k].toNat : Int) = 32
        · by_cases hcu : cur.toList = []
          · have HFN := Lib.hid (fld_none HFL.out (by omega) (fun _ => hsp) hcu)
            go_wp2_with fail
            refine (HN.out _).mono ?_
            rintro e w' ⟨rfl, hw'⟩
            subst hw'
            go_wp2
            go_roundw
            case rel => exact ⟨k + 1, M, ⟨#[]⟩, by go_num, rfl, by omega, Nat.zero_le _, by omega, HFN.out, HW.out, HO.out, HB.out, HS1.out⟩
            case measure => (simp [intOf] <;> omega)
          · have HFN := Lib.hid (fld_word HFL.out (by omega) (fun _ => hsp) hcu)
            have hce : cur.toList.isEmpty = false := by simpa using hcu
            go_wp2_with fail
            refine (HN.out _).mono ?_
            rintro e w' ⟨rfl, hw'⟩
            subst hw'
            go_wp2_with (at_builtin; refine wpList_append_own _ rfl _ _ 22 rfl (w.heap.size + 1) 9 i0 (.string ByteArray.empty) 1 16 Tryd.underlying22 hi hz0 hz1 hz2 rfl (by decide) (.slice aw M.length cw) M.length _ rfl (HW.out.alloc _) ⟨wr.heap.size, 0, none⟩ 1 1 [.string cur] rfl rfl (World.news_of_block (cs := #[.string cur]) (t := 9) (fr := (0, 0)) (heap_alloc_new wr _)) (str_oneCell _) (by unfold maxLen; omega) (by omega) (by simp; have := HS1.out; omega) ?_; intro v' w6 hown' hgrow hnil; have HW6 := Lib.hid (show w6.ownsRow (w.heap.size + 1) 9 1 v' (M.length + 1) (strs (M ++ [cur])) by rw [strs_append]; exact hown'); have HO6 := Lib.hid ((HO.out.alloc _).kept hgrow (.inr HNE.out)); have HB6 := Lib.hid ((HB.out.alloc HB.out.size _).grown hgrow (by have := HB.out.size; simp; omega) (fun y hy => Nat.le_trans (Nat.le_succ _) (HW.out.lt y hy).1)); have HS6 := Lib.hid (show w.heap.size + 1 ≤ w6.heap.size by have h1 := hgrow.size; have h2 := HS1.out; simp at h1; omega); obtain ⟨a6, c6, rfl⟩ := own_shape HW6.out; clear hown' hgrow hnil)
            go_roundw
            case rel => exact ⟨k + 1, M ++ [cur], ⟨#[]⟩, by go_num, rfl, by omega, Nat.zero_le _, by rw [List.length_append, List.length_singleton]; omega, HFN.out, by rw [show (M ++ [cur]).length = M.length + 1 by simp]; exact HW6.out, HO6.out, HB6.out, HS6.out⟩
            case measure => (simp [intOf] <;> omega)
        · have HFN := Lib.hid (fld_more HFL.out hlt hb0.1 hsp)
          have hne : ((s[k].toNat : Int) != 32) = true := bne_iff_ne.mpr hsp
          have hxs : (cur ++ s.extract k (k + 1)).size ≤ k + 1 := by rw [ByteArray.size_append, ByteArray.size_extract]; omega
          have hcs2 : cur.size ≤ 61 := by omega
          go_wp2_with fail
          refine (HN.out _).mono ?_
          rintro e w' ⟨rfl, hw'⟩
          subst hw'
          go_wp2
          go_roundw
          case rel => exact ⟨k + 1, M, _, by go_num, rfl, by omega, hxs, by omega, HFN.out, HW.out, HO.out, HB.out, HS1.out⟩
          case measure => (simp [intOf] <;> omega)
      · by_cases hke : k = s.size
        · subst hke
          by_cases hcu : cur.toList = []
          · have HFN := Lib.hid (fld_none HFL.out (Nat.le_refl _) (fun h => absurd h (by omega)) hcu)
            go_wp2_with fail
            refine (HN.out _).mono ?_
            rintro e w' ⟨rfl, hw'⟩
            subst hw'
            go_wp2
            go_roundw
            case rel => exact ⟨s.size + 1, M, ⟨#[]⟩, by go_num, rfl, by omega, Nat.zero_le _, by omega, HFN.out, HW.out, HO.out, HB.out, HS1.out⟩
            case measure => (simp [intOf] <;> omega)
          · have HFN := Lib.hid (fld_word HFL.out (Nat.le_refl _) (fun h => absurd h (by omega)) hcu)
            have hce : cur.toList.isEmpty = false := by simpa using hcu
            go_wp2_with fail
            refine (HN.out _).mono ?_
            rintro e w' ⟨rfl, hw'⟩
            subst hw'
            go_wp2_with (at_builtin; refine wpList_append_own _ rfl _ _ 22 rfl (w.heap.size + 1) 9 i0 (.string ByteArray.empty) 1 16 Tryd.underlying22 hi hz0 hz1 hz2 rfl (by decide) (.slice aw M.length cw) M.length _ rfl (HW.out.alloc _) ⟨wr.heap.size, 0, none⟩ 1 1 [.string cur] rfl rfl (World.news_of_block (cs := #[.string cur]) (t := 9) (fr := (0, 0)) (heap_alloc_new wr _)) (str_oneCell _) (by unfold maxLen; omega) (by omega) (by simp; have := HS1.out; omega) ?_; intro v' w6 hown' hgrow hnil; have HW6 := Lib.hid (show w6.ownsRow (w.heap.size + 1) 9 1 v' (M.length + 1) (strs (M ++ [cur])) by rw [strs_append]; exact hown'); have HO6 := Lib.hid ((HO.out.alloc _).kept hgrow (.inr HNE.out)); have HB6 := Lib.hid ((HB.out.alloc HB.out.size _).grown hgrow (by have := HB.out.size; simp; omega) (fun y hy => Nat.le_trans (Nat.le_succ _) (HW.out.lt y hy).1)); have HS6 := Lib.hid (show w.heap.size + 1 ≤ w6.heap.size by have h1 := hgrow.size; have h2 := HS1.out; simp at h1; omega); obtain ⟨a6, c6, rfl⟩ := own_shape HW6.out; clear hown' hgrow hnil)
            go_roundw
            case rel => exact ⟨s.size + 1, M ++ [cur], ⟨#[]⟩, by go_num, rfl, by omega, Nat.zero_le _, by rw [List.length_append, List.length_singleton]; omega, HFN.out, by rw [show (M ++ [cur]).length = M.length + 1 by simp]; exact HW6.out, HO6.out, HB6.out, HS6.out⟩
            case measure => (simp [intOf] <;> omega)
        · have hke2 : k = s.size + 1 := by omega
          subst hke2
          have hMW := fld_end HFL.out
          rw [← hMW] at HD hf2 F1
          have HLL := Lib.hid (linesT_len (wlB M x) M)
          have HAT := Lib.hid (linesT_at (wlB M x) M)
          obtain ⟨hk1, hk2⟩ := wlB_ok M x
          have K1 := Lib.hid hk1
          have h20 := wlB_len M x
          have HIN := Lib.hid (fun k (hk : k < (wlB M x).length) => lines_in hk2 hk)
          have CW := Lib.hid (fun v w' hr => wrapLines_spec v M x w' hr (few_sizedS F1.out))
          generalize linesT (wlB M x) M = T at HD HLL HAT
          generalize wlB M x = ls at HLL HAT K1 h20 HIN CW hk2
          clear hk1 hMW HFL hMk hcs hk hlt hke HBY
          go_wp2_with fail
          refine (CW.out _ _ (RowOf.of_own HW.out)).mono ?_
          rintro e w5 ⟨v2, rfl, hown2, hb2⟩
          obtain ⟨al, cl, rfl⟩ := own_shape hown2
          have HO5 := Lib.hid (own_belowS HO.out hb2); have HB5 := Lib.hid (HB.out.trans (hb2.mono HB.out.size)); have HW5 := Lib.hid (own_belowS HW.out hb2)
          have HL5 := Lib.hid (own_base (base' := w.heap.size + 1) hown2 (fun g hg => Nat.le_trans HS1.out (hown2.lt g hg).1))
          have HN5 := Lib.hid (show (Value.slice (some ⟨w.heap.size, 0, none⟩) 0 0).ownBlock ≠ (Value.slice al ls.length cl).ownBlock from fun e => by
            have h := (HL5.out.lt w.heap.size e.symm).1
            omega)
          clear hown2 hb2 HO HB HW HS1 CW
          go_wp2
          go_loopw [5, 10, 11, 12, 13] (fun o a k _ _ wr => ∃ (q : Nat), q ≤ ls.length ∧ k = .int .i64 (q : Int) ∧ a = .int .i64 (((ls.take q).sum : Nat) : Int) ∧ wr.ownsRow w.heap.size 9 1 o q (strs (T.take q)) ∧ wr.ownsRow (w.heap.size + 1) 9 1 (.slice aw M.length cw) M.length (strs M) ∧ wr.ownsRow (w.heap.size + 1) 3 1 (.slice al ls.length cl) ls.length (ints ls) ∧ o.ownBlock ≠ (Value.slice aw M.length cw).ownBlock ∧ o.ownBlock ≠ (Value.slice al ls.length cl).ownBlock ∧ Below w.heap.size w wr) (fun _ _ k _ _ _ => ls.length - (intOf k).toNat)
          case atStart => exact ⟨0, Nat.zero_le _, rfl, rfl, HO5.out, HW5.out, HL5.out, HNE.out, HN5.out, HB5.out⟩
          case round =>
            clear HO5 HW5 HL5 HNE HN5 HB5
            obtain ⟨q, hq, rfl, rfl, hoo, hwo, hlo, hn1, hn2, hb⟩ := hrel
            obtain ⟨ao, co, rfl⟩ := own_shape hoo
            have HO := Lib.hid hoo; have HW := Lib.hid hwo; have HL := Lib.hid hlo; have HB := Lib.hid hb; have HN1 := Lib.hid hn1; have HN2 := Lib.hid hn2
            clear hoo hwo hlo hb hn1 hn2
            by_cases hlt : q < ls.length
            · obtain ⟨ao2, cl2, hv2, q1, q2, q3⟩ := (RowI.of_own HL.out).1
              injection hv2 with e1 e2 e3
              subst e1 e3
              obtain ⟨b, rfl, hbl, cc⟩ := q3.resolve_left (by rintro rfl; simp at hlt)
              have d1 := cc q hlt
              have hin := HIN.out q hlt
              have hm1 := K1.out _ (List.getElem_mem hlt)
              have HA := Lib.hid (HAT.out q hlt)
              have HNS := Lib.hid (show (ls.take (q + 1)).sum = (ls.take q).sum + ls[q] by rw [List.take_succ_eq_append_getElem hlt, List.sum_append]; simp)
              generalize ls[q] = m at d1 hin hm1 HA HNS
              generalize (ls.take q).sum = p at hin HA HNS ⊢
              obtain ⟨ao3, cw2, hv3, s1, s2, s3⟩ := RowOf.of_own HW.out
              injection hv3 with e1 e4 e3
              subst e1 e3
              rw [strs_length] at s1
              unfold maxLen at s2 q2
              obtain ⟨b2, o2, rfl, hb2, hcell⟩ := s3.resolve_left (by intro h; have h' := congrArg List.length h; rw [strs_length, List.length_nil] at h'; omega)
              have HC := Lib.hid (fun j (hj : j < M.length) => show wr.cell? ⟨b2, o2 + j, none⟩ = some (.string M[j]) from hcell j _ (by simp [strs, hj]))
              have d2 := HC.out p (by omega)
              have HJ1 := Lib.hid (show M[p]'(by omega) = jnW ((M.drop p).take 1) by rw [List.drop_eq_getElem_cons (by omega)]; rfl)
              have HJM := Lib.hid (fun j (h1 : 1 ≤ j) (h2 : p + j < M.length) => show jnW ((M.drop p).take (j + 1)) = jnW ((M.drop p).take j) ++ ⟨#[32]⟩ ++ M[p + j] by
                rw [List.take_succ_eq_append_getElem (by rw [List.length_drop]; omega), jnW_snoc _ _ (by intro h; have h' := congrArg List.length h; rw [List.length_take, List.length_drop, List.length_nil] at h'; omega), List.getElem_drop])
              have HJS := Lib.hid (fun j => show (jnW ((M.drop p).take j)).size ≤ 61 * 62 by
                have h1 := jnW_size ((M.drop p).take j) (fun y hy => F1.out y (List.mem_of_mem_drop (List.mem_of_mem_take hy)))
                rw [List.length_take, List.length_drop] at h1
                have : min j (M.length - p) ≤ 61 := by omega
                omega)
              rw [HJ1.out] at d2
              clear s3 e2 e4 q3 cc hcell HJ1
              go_wp2_with fail
              go_loopw [12, 13] (fun l i wx => ∃ j : Nat, 1 ≤ j ∧ j ≤ m ∧ i = .int .i64 (j : Int) ∧ l = .string (jnW ((M.drop p).take j)) ∧ wx = wr) (fun _ i _ => m - (intOf i).toNat)
              case atStart => exact ⟨1, Nat.le_refl _, hm1, rfl, rfl, rfl⟩
              case round =>
                obtain ⟨j, hj1, hj2, rfl, rfl, hwe⟩ := hrel
                subst hwe
                have hjs := HJS.out j
                by_cases hjm : j < m
                · have d3 := HC.out (p + j) (by omega)
                  have hys := F1.out _ (List.getElem_mem (show p + j < M.length by omega))
                  have HNX := HJM.out j hj1 (by omega)
                  generalize M[p + j] = y at d3 hys HNX
                  have HNX2 := Lib.hid HNX
                  generalize jnW ((M.drop p).take j) = l0 at hjs HNX2 ⊢
                  clear HNX
                  go_wp2_with fail
                  go_roundw
                  case rel => exact ⟨j + 1, by omega, by omega, by go_num, by rw [HNX2.out], by trivial⟩
                  case measure => simp [intOf]; omega
                · obtain rfl : j = m := by omega
                  generalize jnW ((M.drop p).take j) = line at HA hjs ⊢
                  have HN1' := Lib.hid (fun (g c' : Nat) (h : (Value.slice ao q co).ownBlock = some g ∨ g = wr.heap.size + 1) => show (Value.slice (some ⟨g, 0, none⟩) (q + 1) c').ownBlock ≠ (Value.slice (some ⟨b2, o2, none⟩) M.length cw).ownBlock from fun e => by
                    rcases h with h | rfl
                    · exact HN1.out (h.trans e)
                    · have := (HW.out.lt (wr.heap.size + 1) e.symm).2
                      omega)
                  have HN2' := Lib.hid (fun (g c' : Nat) (h : (Value.slice ao q co).ownBlock = some g ∨ g = wr.heap.size + 1) => show (Value.slice (some ⟨g, 0, none⟩) (q + 1) c').ownBlock ≠ (Value.slice (some ⟨b, 0, none⟩) ls.length cl).ownBlock from fun e => by
                    rcases h with h | rfl
                    · exact HN2.out (h.trans e)
                    · have := (HL.out.lt (wr.heap.size + 1) e.symm).2
                      omega)
                  go_wp2_with (at_builtin; refine wpList_append_lies _ rfl _ _ 22 rfl w.heap.size 9 i0 (.string ByteArray.empty) 1 16 Tryd.underlying22 hi hz0 hz1 hz2 rfl (by decide) (.slice ao q co) q _ rfl (HO.out.alloc _) ⟨wr.heap.size, 0, none⟩ 1 1 [.string line] rfl rfl (World.news_of_block (cs := #[.string line]) (t := 9) (fr := (0, 0)) (heap_alloc_new wr _)) (str_oneCell _) (by omega) (by unfold maxLen; omega) (by omega) (by simp; exact Nat.le_succ_of_le HB.out.size) (wr.heap.size + 1) (by simp) ?_; intro gg cap' w6 hown' hgrow hat hlt6; have HO6 := Lib.hid hown'; have HW6 := Lib.hid ((HW.out.alloc _).kept hgrow (.inr (fun e => HN1.out e.symm))); have HL6 := Lib.hid ((HL.out.alloc _).kept hgrow (.inr (fun e => HN2.out e.symm))); have HB6 := Lib.hid ((HB.out.alloc HB.out.size _).grown hgrow (by simp; exact Nat.le_succ_of_le HB.out.size) (fun y hy => (HO.out.lt y hy).1)); have HN16 := Lib.hid (HN1'.out gg cap' hat); have HN26 := Lib.hid (HN2'.out gg cap' hat); have d6 := (HL6.out.cellAt q (by omega)).trans ((HL.out.cellAt q (by omega)).symm.trans d1); clear hown' hgrow hat hlt6)
                  go_roundw
                  case rel => exact ⟨q + 1, by omega, by go_num, by rw [HNS.out]; go_num, by rw [HA.out, strs_append]; exact HO6.out, HW6.out, HL6.out, HN16.out, HN26.out, HB6.out⟩
                  case measure => simp [intOf]; omega
            · have hqe : q = ls.length := by omega
              have HG := Lib.hid (show T.take q = T by rw [List.take_of_length_le (by rw [HLL.out]; omega)])
              have HE := Lib.hid (show q = T.length by rw [HLL.out]; exact hqe)
              clear hqe
              go_wp2
              go_ret
              refine ⟨_, rfl, ?_, HB.out⟩
              rw [HD.out]
              have h9 := HO.out
              rw [HG.out] at h9
              rw [← HE.out]
              exact h9

end Go.Proofs.YtbddokfcohnndabDoor
