/-
  joinedTexts, by its contract.
-/
import Derived.Test.YtipmkbahlfkfoaaGreatDoorFunC
import Derived.Test.YtipmkbahlfkfoaaGreatDoorShelf
namespace Go.Proofs.YtipmkbahlfkfoaaGreatDoor
open Go.RowKit
set_option linter.unusedVariables false

theorem infoSJ : (Tryz.prog.info? 9).map (fun i => (i.zero, i.size, i.bytes)) = some (some (.string ByteArray.empty), 1, 16) := by kernel_rfl
open Classical in
noncomputable def joinR (p x : List Cl) : Option (List Cl) := if kdV p = 5 ∧ kdV x = 2 ∧ ∀ q ∈ partsV p, kdV q = 2 then texO (joinSep (wdV x) ((partsV p).map wdV)) else none
theorem foldl_join (sep : ByteArray) : ∀ (xs : List ByteArray) (a : ByteArray), (xs.foldl (fun a y => a ++ sep ++ y) a).data.toList = a.data.toList ++ Lib.joinTail sep.data.toList (xs.map (·.data.toList)) := by
  intro xs
  induction xs with
  | nil => intro a; simp [Lib.joinTail]
  | cons x xs ih => intro a; rw [List.foldl_cons, ih]; simp [Lib.joinTail]
theorem joinSep_is (sep : ByteArray) (xs : List ByteArray) : (⟨(Lib.join (xs.map (·.data.toList)) sep.data.toList).toArray⟩ : ByteArray) = joinSep sep xs := by
  cases xs with
  | nil => rfl
  | cons x xs =>
    rw [List.map_cons, Lib.join_cons, joinSep]
    apply ByteArray.ext
    apply Array.ext'
    rw [foldl_join]
theorem foldl_size (sep : ByteArray) (hs : sep.size ≤ 60) : ∀ (xs : List ByteArray) (a : ByteArray), (∀ x ∈ xs, x.size ≤ 60) → (xs.foldl (fun a y => a ++ sep ++ y) a).size ≤ a.size + 120 * xs.length := by
  intro xs
  induction xs with
  | nil => intro a _; simp
  | cons x xs ih =>
    intro a h
    rw [List.foldl_cons]
    have h1 := ih (a ++ sep ++ x) (fun y hy => h y (List.mem_cons_of_mem _ hy))
    have h2 := h x (List.mem_cons_self ..)
    have h3 : (a ++ sep ++ x).size = a.size + sep.size + x.size := by simp
    rw [List.length_cons]; omega
theorem joinSep_size (sep : ByteArray) (hs : sep.size ≤ 60) (xs : List ByteArray) (h : ∀ x ∈ xs, x.size ≤ 60) : (joinSep sep xs).size ≤ 120 * (xs.length + 1) := by
  cases xs with
  | nil => rw [joinSep]; decide
  | cons x xs =>
    rw [joinSep]
    have h1 := foldl_size sep hs xs x (fun y hy => h y (List.mem_cons_of_mem _ hy))
    have h2 := h x (List.mem_cons_self ..)
    rw [List.length_cons]; omega

set_option maxRecDepth 100000 in
set_option maxHeartbeats 4000000 in
theorem join_none (ao : Option Addr) (c : Nat) (sep : ByteArray) (w : World) :
    Calls Tryz.prog 149 #[.slice ao 0 c, .string sep] w fun e w' => e = .returned (.string ⟨#[]⟩) ∧ w = w' := by
  go_enter Tryz.func149, Tryz.ntmps149
  go_wp2
  go_ret
  exact ⟨rfl, rfl⟩

set_option maxRecDepth 100000 in
set_option maxHeartbeats 4000000 in
theorem joinedTexts_any (u u' : Value) (p q : List Cl) (w : World) (hv : VlS w (fun _ => True) [u] [p]) (hok : okV p = true) (hv' : VlS w (fun _ => True) [u'] [q]) (hok' : okV q = true) (htab : Tab w) :
    Calls Tryz.prog 95 #[u, u'] w (Res (joinR p q) w) := by
  obtain ⟨T, x, rfl⟩ := hv.iface
  obtain ⟨T2, x2, rfl⟩ := hv'.iface
  rcases hv.asL hok with ⟨has, hkd⟩ | ⟨has, us, ps, hr, hvs, rfl⟩
  · have HL := Lib.hid (show joinR p q = none by rw [joinR, if_neg (fun h => hkd h.1)])
    rcases hv'.asT hok' with ⟨hat, hkd2⟩ | ⟨s, hat, hs, rfl⟩
    · clear hv hv' htab hok hok' hkd hkd2
      go_enter Tryz.func95, Tryz.ntmps95
      go_wp2
      go_ret
      exact Res.nil (Below.refl _ _) HL.out
    · clear hv hv' htab hok hok' hkd hs
      go_enter Tryz.func95, Tryz.ntmps95
      go_wp2
      go_ret
      exact Res.nil (Below.refl _ _) HL.out
  · rcases hv'.asT hok' with ⟨hat, hkd2⟩ | ⟨s, hat, hs, rfl⟩
    · have HL := Lib.hid (show joinR (listV ps) q = none by rw [joinR, if_neg (fun h => hkd2 h.2.1)])
      clear hv hv' htab hok hok' hkd2 hr hvs
      go_enter Tryz.func95, Tryz.ntmps95
      go_wp2
      go_ret
      exact Res.nil (Below.refl _ _) HL.out
    · obtain ⟨j0, hj, hy0, hy1, hy2⟩ := info_parts infoSJ
      obtain ⟨hps, hpv⟩ := okV_parts hvs.exs hok
      have hsz : s.size ≤ 60 := by
        have := okVC_word (okV_head hok'); exact this
      have HSZ := Lib.hid hsz
      have HNO := Lib.hid (show (∃ q ∈ ps, kdV q ≠ 2) → joinR (listV ps) [(2, s, 0)] = none from fun ⟨q, h1, h2⟩ => by
        rw [joinR, if_neg]; rintro ⟨-, -, h⟩; rw [hpv] at h; exact h2 (h q h1))
      have HYES := Lib.hid (show (∀ q ∈ ps, kdV q = 2) → joinR (listV ps) [(2, s, 0)] = texO (joinSep s (ps.map wdV)) from fun h => by
        rw [joinR, if_pos ⟨rfl, rfl, by rw [hpv]; exact h⟩, hpv]; rfl)
      have hlen := hvs.len
      have hm : ps.length ≤ 8 := by
        have := okVC_many (okV_head (c := (5, ⟨#[]⟩, (ps.length : Int))) (t := ps.flatten) hok)
        simp only at this; omega
      have HV := Lib.hid hvs; have HPS := Lib.hid hps; have HLEN := Lib.hid hlen; have HM := Lib.hid hm
      obtain ⟨ao, cap, rfl, h1, h2, h3⟩ := hr
      have hus : us.length ≤ 8 := by omega
      have H3 := Lib.hid h3
      have hcl := conc_text
      clear hv hv' htab hok hok' hps hpv h3 h2 h1 hvs hlen hm hs hsz
      go_enter Tryz.func95, Tryz.ntmps95
      go_wp2_with fail
      go_loopw [9, 32] (fun a i wr => ∃ k : Nat, k ≤ us.length ∧ i = .int .i64 (k : Int) ∧ (∀ q ∈ ps.take k, kdV q = 2) ∧ wr.ownsRow w.heap.size 9 1 a k ((ps.take k).map (fun p => Value.string (wdV p))) ∧ Below w.heap.size w wr) (fun _ i _ => us.length - (intOf i).toNat)
      case atStart => exact ⟨0, Nat.zero_le _, rfl, fun q h => by simp at h, World.ownsRow_nil _ _ _ _, Below.refl _ _⟩
      case round =>
        obtain ⟨k, hk, rfl, hall, hown, hb⟩ := hrel
        have HALL := Lib.hid hall; have HOR := Lib.hid hown; have HB := Lib.hid hb
        obtain ⟨aa, ac, rfl⟩ := own_shape hown
        clear hall hown hb
        by_cases hlt : k < us.length
        · have hkp : k < ps.length := by rw [← HLEN.out]; exact hlt
          obtain ⟨b, o, rfl, -, hbl, cc⟩ := H3.out.resolve_left (by rintro rfl; simp at hlt)
          have d0 : wr.cell? ⟨b, o + k, none⟩ = some us[k] := (HB.out.cell (p := ⟨b, _, none⟩) hbl).trans (cc k hlt)
          have hvk := HV.out.at k hlt hkp
          obtain ⟨Tk, xk, hTk⟩ := hvk.iface
          rw [hTk] at hvk d0
          have HTK := Lib.hid (show ps.take (k + 1) = ps.take k ++ [ps[k]] from List.take_succ_eq_append_getElem hkp)
          have hin : ps[k] ∈ ps := List.getElem_mem hkp
          have hokk := HPS.out ps[k] hin
          have HIN := Lib.hid hin
          generalize ps[k] = pk at hvk hokk HTK HIN
          clear cc hTk hin
          rcases hvk.asT hokk with ⟨hatk, hkd⟩ | ⟨sk, hatk, hsk, rfl⟩
          · have HN := Lib.hid (HNO.out ⟨pk, HIN.out, hkd⟩)
            clear hvk hokk hkd
            go_wp2
            go_ret
            exact Res.nil HB.out HN.out
          · have HA2 := Lib.hid (show ∀ q ∈ ps.take (k + 1), kdV q = 2 from fun q hq => by
              rw [HTK.out, List.mem_append, List.mem_singleton] at hq
              rcases hq with hq | rfl
              · exact HALL.out q hq
              · rfl)
            have hbs := HB.out.size
            have HBW := Lib.hid (Below.mono ((Below.refl wr.heap.size wr)) hbs)
            clear hvk hokk hsk
            go_wp2_with (at_builtin; refine wpList_append_lies _ rfl _ _ 73 rfl w.heap.size 9 j0 (.string ByteArray.empty) 1 16 Tryz.underlying73 hj hy0 hy1 hy2 rfl (by decide) (.slice aa k ac) k _ rfl (HOR.out.alloc _) ⟨wr.heap.size, 0, none⟩ 1 1 [.string sk] rfl rfl (World.news_of_block (heap_alloc_new wr _)) (by simp [Value.oneCell']) (by omega) (by unfold maxLen; omega) (by omega) (by simp; omega) (wr.heap.size + 1) (by simp) ?_; intro gg cap' w6 hown' hgrow hat2 hlt'; have HO6 := Lib.hid (show w6.ownsRow w.heap.size 9 1 (.slice (some ⟨gg, 0, none⟩) (k + 1) cap') (k + 1) ((ps.take (k + 1)).map (fun p => Value.string (wdV p))) by rw [HTK.out, List.map_append]; exact hown'); have HB6 := Lib.hid ((HB.out.alloc hbs (.cells #[.string sk] 9)).grown hgrow (by simp; omega) (fun x hx => (HOR.out.lt x hx).1)); clear hown' hgrow hat2)
            go_roundw
            case rel => exact ⟨k + 1, by omega, by go_num, HA2.out, HO6.out, HB6.out⟩
            case measure => simp [intOf]; omega
        · obtain rfl : k = us.length := by omega
          have htk : ps.take us.length = ps := List.take_of_length_le (by rw [HLEN.out]; exact Nat.le_refl _)
          have HY := Lib.hid (HYES.out (by have := HALL.out; rwa [htk] at this))
          have HW60 := Lib.hid (show ∀ x ∈ ps.map wdV, x.size ≤ 60 from fun x hx => by
            obtain ⟨q, hq, rfl⟩ := List.mem_map.mp hx
            obtain ⟨c, t, rfl⟩ := okV_cons (HPS.out q hq)
            exact okVC_word (okV_head (HPS.out _ hq)))
          have HJS := Lib.hid (joinSep_size s HSZ.out (ps.map wdV) HW60.out)
          have hpl : (ps.map wdV).length = us.length := by rw [List.length_map, HLEN.out]
          by_cases h0 : us.length = 0
          · have HE := Lib.hid (show joinSep s (ps.map wdV) = ⟨#[]⟩ by
              rw [List.length_eq_zero_iff.mp (hpl.trans h0)]; rfl)
            rw [h0]
            have hj0 := fun w => join_none aa ac s w
            rw [htk] at HOR
            clear H3 HALL HOR htk hpl
            go_wp2_with fail
            refine (hj0 _).mono ?_
            rintro e w' ⟨rfl, rfl⟩
            go_wp2
            go_ret
            exact Res.text HB.out ⟨#[]⟩ (by decide) (by rw [HY.out, HE.out])
          · rw [htk] at HOR
            obtain ⟨g, hg, hgl, hcap⟩ : ∃ g, aa = some ⟨g, 0, none⟩ ∧ g < wr.heap.size ∧ us.length ≤ ac := by
              rcases HOR.out.2 with ⟨h1, h2⟩ | ⟨g', cap', cur, h1, _, _, h3', h4, _⟩
              · exact absurd h2 h0
              · injection h1 with h1 h2 h5'
                subst h1
                exact ⟨g', rfl, (HOR.out.lt g' rfl).2, by omega⟩
            subst hg
            have HJ := Lib.hid (Tryz.strings_Join g 0 ac (ps.map wdV) s wr (fun j y hy => by
                have hjl : j < us.length := by
                  by_cases h : j < (ps.map wdV).length
                  · omega
                  · rw [List.getElem?_eq_none (by omega)] at hy; cases hy
                rw [Nat.zero_add, HOR.out.cellAt j (by omega)]
                rw [List.getElem?_map] at hy ⊢
                cases hpj : ps[j]? with
                | none => rw [hpj] at hy; cases hy
                | some q => rw [hpj] at hy; simp only [Option.map_some, Option.some.injEq] at hy ⊢; rw [hy]) hgl (by omega) (by omega)
              (by
                have h1 := congrArg ByteArray.size (joinSep_is s (ps.map wdV))
                have h2 : (⟨(Lib.join ((ps.map wdV).map (·.data.toList)) s.data.toList).toArray⟩ : ByteArray).size = (Lib.join ((ps.map wdV).map (·.data.toList)) s.data.toList).length := by
                  show (Lib.join ((ps.map wdV).map (·.data.toList)) s.data.toList).toArray.size = _
                  simp
                have h3 := HJS.out
                omega))
            rw [joinSep_is, hpl] at HJ
            generalize joinSep s (ps.map wdV) = jj at HJ HY HJS
            have hjs : jj.size ≤ 1048576 := by have := HJS.out; omega
            clear H3 HALL HOR htk hpl
            go_wp2_with fail
            refine HJ.out.mono ?_
            rintro e w3 ⟨rfl, hb3⟩
            have HB3 := Lib.hid (HB.out.trans (hb3.mono HB.out.size)); clear hb3
            go_wp2
            go_ret
            exact Res.text HB3.out jj hjs HY.out

end Go.Proofs.YtipmkbahlfkfoaaGreatDoor
