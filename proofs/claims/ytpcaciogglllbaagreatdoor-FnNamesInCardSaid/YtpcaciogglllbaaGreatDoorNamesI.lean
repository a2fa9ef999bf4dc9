/-
  impl.NamesIn, by its contract, over the library's contracts of slices.Sort and slices.Compact.
-/
import Derived.Test.YtpcaciogglllbaaGreatDoorNamesC
import Derived.Test.YtpcaciogglllbaaGreatDoorBaseX
import Derived.Test.YtpcaciogglllbaaGreatDoorStrs
import Derived.Test.YtpcaciogglllbaaGreatDoorShelfS
import Derived.Sort.OwnSorted
namespace Go.Proofs.YtpcaciogglllbaaGreatDoor
open Go.RowKit
set_option linter.unusedVariables false

theorem map_strs (xs : List ByteArray) : (xs.map (·.data.toList)).map Go.Proofs.encStr = strs xs := Lib.map_encStr xs
theorem strs_comp (l : List Cl) : (compL ((wordsN l).map (·.data.toList))).map Go.Proofs.encStr = strs (namesL l) := by
  rw [← names_comp, strs, List.map_map]
  apply List.map_congr_left
  intro x _
  simp [Go.Proofs.encStr]
theorem namesL_clen (l : List Cl) : (namesL l).length = (compL ((wordsN l).map (·.data.toList))).length := by rw [← names_comp, List.length_map]
theorem namesL_none {l : List Cl} (h : wordsN l = []) : namesL l = [] := by
  have := namesL_clen l
  rw [h] at this
  exact List.length_eq_zero_iff.mp (this.trans (by have := compL_len ([] : List (List UInt8)); simpa using this))

set_option maxRecDepth 100000 in
set_option maxHeartbeats 4000000 in
theorem namesI_yes (v : Value) (l : List Cl) (w : World) (hr : RowC w v l) (hz : SizedC l) (hok : okE l = true) (htab : Tab w) :
    Calls Tryz.prog 33 #[v] w (NewTexts (namesL l) w) := by
  have HV := Lib.hid (exprValid_impl v l w hr hz htab)
  rw [hok] at HV
  have h60 := ((okE_iff l).mp hok).1
  obtain ⟨j0, hj, hy0, hy1, hy2⟩ := info_parts infoStr
  obtain ⟨ao, cap, rfl, h1, h2, h3⟩ := hr
  unfold maxLen at h2
  have H3 := Lib.hid h3
  clear h3 hz hok htab
  go_enter Tryz.func33, Tryz.ntmps33
  go_wp2_with fail
  refine HV.out.mono ?_
  rintro e w0 ⟨rfl, hb0⟩
  have HB0 := Lib.hid hb0; clear hb0
  go_wp2_with fail
  go_loopw [3, 11] (fun out i wr => ∃ k : Nat, k ≤ l.length ∧ i = .int .i64 (k : Int) ∧ wr.ownsRow w.heap.size 9 1 out (wordsN (l.take k)).length (strs (wordsN (l.take k))) ∧ Below w.heap.size w wr) (fun _ i _ => l.length - (intOf i).toNat)
  case atStart => exact ⟨0, Nat.zero_le _, rfl, by rw [List.take_zero]; exact World.ownsRow_nil _ _ _ _, HB0.out⟩
  case round =>
    obtain ⟨k, hk, rfl, hown, hb⟩ := hrel
    have HO := Lib.hid hown; have HB := Lib.hid hb
    have hwl := wordsN_len (l.take k)
    rw [List.length_take] at hwl
    by_cases hlt : k < l.length
    · obtain ⟨aa, ac, rfl⟩ := own_shape hown
      clear hown hb
      obtain ⟨b, o, rfl, hbl, cc⟩ := H3.out.resolve_left (by rintro rfl; simp at hlt)
      obtain ⟨c0, c1, c2⟩ := cc k hlt
      have d0 : wr.cell? ⟨b, o + k * 3, none⟩ = some (.int .i64 l[k].1) := (HB.out.cell (p := ⟨b, _, none⟩) hbl).trans c0
      have d1 : wr.cell? ⟨b, o + k * 3 + 1, none⟩ = some (.string l[k].2.1) := (HB.out.cell (p := ⟨b, _, none⟩) hbl).trans c1
      have d2 : wr.cell? ⟨b, o + k * 3 + 2, none⟩ = some (.int .i64 l[k].2.2) := (HB.out.cell (p := ⟨b, _, none⟩) hbl).trans c2
      have HTK := Lib.hid (show wordsN (l.take (k + 1)) = if l[k].1 = 4 then wordsN (l.take k) ++ [l[k].2.1] else wordsN (l.take k) by rw [List.take_succ_eq_append_getElem hlt, wordsN_snoc])
      clear cc c0 c1 c2
      generalize l[k].1 = kk at d0 HTK
      generalize l[k].2.1 = ss at d1 HTK
      generalize l[k].2.2 = mm at d2
      generalize wordsN (l.take k) = xs at HO HTK hwl ⊢
      have HBA := Lib.hid (HB.out.alloc HB.out.size (.cells #[.int .i64 kk, .string ss, .int .i64 mm] 44))
      have HOA := Lib.hid (show (wr.alloc (.cells #[.int .i64 kk, .string ss, .int .i64 mm] 44)).ownsRow w.heap.size 9 1 (.slice aa xs.length ac) xs.length (strs xs) from HO.out.alloc _)
      have hbs := HB.out.size
      by_cases h4 : kk = 4
      · subst h4
        rw [if_pos rfl] at HTK
        have hxl : xs.length ≤ 60 := by omega
        have HNW := Lib.hid (show ((wr.alloc (.cells #[.int .i64 4, .string ss, .int .i64 mm] 44)).alloc (.cells #[.string ss] 9)).heap[wr.heap.size + 1]? = some (.cells #[.string ss] 9 (0, 0)) by
          have h := heap_alloc_new (wr.alloc (.cells #[.int .i64 4, .string ss, .int .i64 mm] 44)) (.cells #[.string ss] 9)
          simpa using h)
        go_wp2_with (at_builtin; go_loud (refine wpList_append_lies _ rfl _ _ 50 rfl w.heap.size 9 j0 (.string ByteArray.empty) 1 16 Tryz.underlying50 hj hy0 hy1 hy2 rfl (by decide) (.slice aa xs.length ac) xs.length _ rfl (HOA.out.alloc _) ⟨wr.heap.size + 1, 0, none⟩ 1 1 [.string ss] rfl rfl (World.news_of_block HNW.out) (by simp [Value.oneCell']) (by omega) (by unfold maxLen; omega) (by omega) (by simp; omega) (wr.heap.size + 1 + 1) (by simp) ?_; intro gg cap' w6 hown' hgrow hat2 hlt'; have HO6 := Lib.hid (show w6.ownsRow w.heap.size 9 1 (.slice (some ⟨gg, 0, none⟩) (xs.length + 1) cap') (xs ++ [ss]).length (strs (xs ++ [ss])) by rw [strs_append, List.length_append]; exact hown'); have HB6 := Lib.hid ((HBA.out.alloc (by simp; omega) (.cells #[.string ss] 9)).grown hgrow (by simp; omega) (fun x hx => (HO.out.lt x hx).1)); clear hown' hgrow hat2))
        go_roundw
        case rel => exact ⟨k + 1, by omega, by go_num, by rw [HTK.out]; exact HO6.out, HB6.out⟩
        case measure => simp [intOf]; omega
      · have hne : (kk == 4) = false := beq_eq_false_iff_ne.mpr h4
        rw [if_neg h4] at HTK
        clear h4
        go_wp2
        go_roundw
        case rel => exact ⟨k + 1, by omega, by go_num, by rw [HTK.out]; exact HOA.out, HBA.out⟩
        case measure => simp [intOf]; omega
    · obtain rfl : k = l.length := by omega
      rw [List.take_of_length_le (Nat.le_refl _)] at hown HO hwl
      have hz60 : (wordsN l).length ≤ 60 := by omega
      clear hwl hb
      rcases (show (∃ h : (wordsN l).length = 0, _ = Value.slice none 0 0) ∨ ∃ g c, _ = Value.slice (some ⟨g, 0, none⟩) (wordsN l).length c from by rcases hown.2 with ⟨h1, h2⟩ | ⟨g, cap, cur, h1, _⟩ <;> first | exact .inl ⟨h2, h1⟩ | exact .inr ⟨g, cap, h1⟩) with ⟨h0, rfl⟩ | ⟨g, c, rfl⟩
      · have HN := Lib.hid (namesL_none (List.length_eq_zero_iff.mp h0))
        clear hown h0
        go_wp2_with fail
        refine (Tryz.slices_Sort_string_none none 0 _).mono ?_
        rintro e w2 ⟨rfl, rfl⟩
        go_wp2_with fail
        refine (Tryz.slices_Compact_string_empty none 0 _).mono ?_
        rintro e w3 ⟨rfl, rfl⟩
        go_wp2
        go_ret
        rw [HN.out]
        exact ⟨_, rfl, World.ownsRow_nil _ _ _ _, HB.out⟩
      · have hlen : ((wordsN l).map (·.data.toList)).length = (wordsN l).length := by simp
        have hown2 : wr.ownsRow w.heap.size 9 1 (.slice (some ⟨g, 0, none⟩) (wordsN l).length c) (wordsN l).length (((wordsN l).map (·.data.toList)).map Go.Proofs.encStr) := by rw [map_strs]; exact hown
        obtain ⟨g', c', he, hbg, hgl, hnc, hcm, -, hH⟩ := Lib.holds_of_ownsRow hown2 (by simp)
        injection he with he1 he2 he3
        injection he1 with he1
        injection he1 with he1
        subst he1; subst he3
        have HS := Lib.hid (Tryz.slices_Sort_string g 0 c ((wordsN l).map (·.data.toList)) wr hH hgl (by rw [hlen]; omega))
        rw [hlen] at HS
        have HSRT := Lib.hid (show ∀ (n : Nat) (os : Array Obj), (Sort.grow (Sort.putRow Go.Proofs.encStr (Sort.ahead wr n) g 0 (sortL ((wordsN l).map (·.data.toList))).toArray) os).ownsRow w.heap.size 9 1 (.slice (some ⟨g, 0, none⟩) (wordsN l).length c) (wordsN l).length ((sortL ((wordsN l).map (·.data.toList))).map Go.Proofs.encStr) from fun n os => by
          rcases hown2.2 with ⟨h9, _⟩ | ⟨g2, cap2, cur, h9, hb9, hg9, hn9, hm9, hs9, ht9⟩
          · cases h9
          · injection h9 with h91 h92 h93
            injection h91 with h91
            injection h91 with h91
            subst h91; subst h93
            have := ownsRow_sorted (ss := (wordsN l).map (·.data.toList)) (w := wr) (n := n) (os := os) (ts := sortL ((wordsN l).map (·.data.toList))) (by rw [sortL_len]) hb9 hg9 (by rw [hlen]; exact hn9) hm9 hs9
            rw [hlen] at this
            exact this)
        have HGR := Lib.hid (fun n os => grownBy_sorted (w := wr) (g := g) (n := n) (os := os) (sortL ((wordsN l).map (·.data.toList))).toArray)
        have HBG := Lib.hid hbg
        generalize hxs : (wordsN l).length = m at *
        have HXS := Lib.hid hxs
        clear hown hown2 hH hlen hxs he2
        go_wp2_with fail
        refine HS.out.mono ?_
        rintro e w2 ⟨rfl, n, os, rfl⟩
        have HO2 := Lib.hid (HSRT.out n os)
        have HB2 := Lib.hid (HB.out.grown (HGR.out n os) HB.out.size (fun j hj => by cases hj; exact HBG.out))
        obtain ⟨g', c', he, -, -, -, -, -, hH2⟩ := Lib.holds_of_ownsRow HO2.out (by simp)
        injection he with he1 he2 he3
        injection he1 with he1
        injection he1 with he1
        subst he1; subst he3
        have hsl : (sortL ((wordsN l).map (·.data.toList))).length = m := by rw [sortL_len, List.length_map, HXS.out]
        have HC := Lib.hid (Tryz.slices_Compact_string g 0 c (sortL ((wordsN l).map (·.data.toList))) _ hH2 (by rw [hsl]; omega) (by rw [hsl]; exact hnc))
        rw [hsl] at HC
        have HCL := Lib.hid (show (Lib.compact (sortL ((wordsN l).map (·.data.toList)))).length ≤ m by have := Lib.compact_length_le (sortL ((wordsN l).map (·.data.toList))); rw [hsl] at this; exact this)
        clear hH2 he2
        have HSL := Lib.hid hsl; clear hsl
        generalize hzc : Lib.compact (sortL ((wordsN l).map (·.data.toList))) = zc at HC HCL
        have HZC := Lib.hid hzc; clear hzc
        go_wp2_with fail
        refine HC.out.mono ?_
        rintro e w3 ⟨rfl, q, rfl⟩
        have HO3 := Lib.hid (Lib.ownsRow_putRow (q := q) (k := zc.length) HO2.out (ys := zc ++ List.replicate (m - zc.length) []) (by simp; have := HCL.out; omega) HCL.out)
        have HB3 := Lib.hid (Lib.below_putRow (enc := Go.Proofs.encStr) (g := g) (q := q) (d := (zc ++ List.replicate (m - zc.length) []).toArray) HB2.out HBG.out)
        go_wp2
        go_ret
        refine ⟨_, rfl, ?_, HB3.out⟩
        have h := HO3.out
        rw [List.take_left' rfl] at h
        rw [namesL_clen, ← strs_comp, show compL ((wordsN l).map (·.data.toList)) = zc from HZC.out]
        exact h

set_option maxRecDepth 100000 in
set_option maxHeartbeats 4000000 in
theorem namesI_no (v : Value) (l : List Cl) (w : World) (hr : RowC w v l) (hz : SizedC l) (hok : okE l = false) (htab : Tab w) :
    Calls Tryz.prog 33 #[v] w (NewTexts [] w) := by
  have HV := Lib.hid (exprValid_impl v l w hr hz htab)
  rw [hok] at HV
  obtain ⟨ao, cap, rfl, -⟩ := hr
  clear hz hok htab
  go_enter Tryz.func33, Tryz.ntmps33
  go_wp2_with fail
  refine HV.out.mono ?_
  rintro e w0 ⟨rfl, hb0⟩
  have HB0 := Lib.hid hb0; clear hb0
  go_wp2
  go_ret
  exact ⟨_, rfl, World.ownsRow_nil _ _ _ _, HB0.out⟩
theorem namesIn_impl (v : Value) (l : List Cl) (w : World) (hr : RowC w v l) (hz : SizedC l) (htab : Tab w) :
    Calls Tryz.prog 33 #[v] w (NewTexts (namesV l) w) := by
  cases hok : okE l with
  | true => rw [show namesV l = namesL l by unfold namesV; rw [if_pos hok]]; exact namesI_yes v l w hr hz hok htab
  | false => rw [show namesV l = [] by unfold namesV; rw [if_neg (by rw [hok]; decide)]]; exact namesI_no v l w hr hz hok htab

end Go.Proofs.YtpcaciogglllbaaGreatDoor
