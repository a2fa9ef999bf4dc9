/-
  impl.ValueParts, by its contract.
-/
import Derived.Test.YtipmkbahlfkfoaaGreatDoorBaseH
import Derived.Test.YtipmkbahlfkfoaaGreatDoorBaseE
namespace Go.Proofs.YtipmkbahlfkfoaaGreatDoor
open Go.RowKit
set_option linter.unusedVariables false

theorem as_num (x : Value) (w : World) : (Instr.typeAssert (.iface 152 x) 67 86 true).run Tryz.prog w = .ok (.tuple #[.slice none 0 0, .bool false]) w := by kernel_rfl
theorem as_text (x : Value) (w : World) : (Instr.typeAssert (.iface 151 x) 67 86 true).run Tryz.prog w = .ok (.tuple #[.slice none 0 0, .bool false]) w := by kernel_rfl
theorem as_truth (x : Value) (w : World) : (Instr.typeAssert (.iface 169 x) 67 86 true).run Tryz.prog w = .ok (.tuple #[.slice none 0 0, .bool false]) w := by kernel_rfl
theorem as_list (x : Value) (w : World) : (Instr.typeAssert (.iface 86 x) 67 86 true).run Tryz.prog w = .ok (.tuple #[x, .bool true]) w := by kernel_rfl
theorem as_nil (w : World) : (Instr.typeAssert .nilIface 67 86 true).run Tryz.prog w = .ok (.tuple #[.slice none 0 0, .bool false]) w := by kernel_rfl
theorem infoCS2 : (Tryz.prog.info? 24).map (fun i => (i.zero, i.size, i.bytes)) = some (some (.slice none 0 0), 1, 24) := by kernel_rfl
/-- What a value is: a list, or a value that no assertion takes for one. -/
theorem VlS.kind {w : World} {S : Nat → Prop} {T : TypeId} {x : Value} {l : List Cl} (h : VlS w S [.iface T x] [l]) :
    ((∀ w', (Instr.typeAssert (.iface T x) 67 86 true).run Tryz.prog w' = .ok (.tuple #[.slice none 0 0, .bool false]) w') ∧ partsV l = []) ∨
    ((∀ w', (Instr.typeAssert (.iface T x) 67 86 true).run Tryz.prog w' = .ok (.tuple #[x, .bool true]) w') ∧ ∃ us ps, RowV w S x us ∧ VlS w S us ps ∧ l = listV ps) := by
  have hno : ∀ c : Cl, c.1 ≠ 5 → partsV [c] = [] := fun c hc => by
    rw [partsV, if_neg]
    rintro ⟨-, d, t, hl, h5⟩
    injection hl with h1 h2
    subst h1; exact hc h5
  cases h with
  | num h1 h2 => exact .inl ⟨fun w' => as_num _ w', hno _ (show (1 : Int) ≠ 5 by decide)⟩
  | text h1 h2 => exact .inl ⟨fun w' => as_text _ w', hno _ (show (2 : Int) ≠ 5 by decide)⟩
  | truth h2 => exact .inl ⟨fun w' => as_truth _ w', hno _ (show (3 : Int) ≠ 5 by decide)⟩
  | list h1 h2 h3 => exact .inr ⟨fun w' => as_list _ w', _, _, h1, h2, rfl⟩

set_option maxRecDepth 100000 in
set_option maxHeartbeats 4000000 in
theorem valueParts_impl (v : Value) (l : List Cl) (w : World) (hr : RowC w v l) (hz : ShortC l) (htab : Tab w) :
    Calls Tryz.prog 28 #[v] w (NewSS (partsV l) w) := by
  obtain ⟨j0, hj, hy0, hy1, hy2⟩ := info_parts infoCS2
  have HC := Lib.hid (readValue_any v l w hr hz htab)
  obtain ⟨ao, cap, rfl, h1, h2, h3⟩ := hr
  unfold maxLen at h2
  clear h3 hz
  have hnil := as_nil
  go_enter Tryz.func28, Tryz.ntmps28
  go_wp2_with fail
  refine HC.out.mono ?_
  rintro e w1 ⟨hb1, ⟨T, x, rfl, hok, hv⟩ | ⟨rfl, hno⟩⟩
  · rcases hv.kind with ⟨hast, hpv⟩ | ⟨hast, us, ps, hrow, hvs, rfl⟩
    · have HP := Lib.hid hpv; have HB := Lib.hid hb1
      clear hb1 hv hok hpv
      go_wp2_with fail
      refine wp_loop_rounds 1 ?_
      rw [rounds_succ]
      go_wp2
      go_ret
      rw [HP.out]
      exact ⟨_, [], rfl, OwnSS.start _ _, HB.out⟩
    · have HAPP := Lib.hid (hvs.app_ok (htab.keep hb1))
      have hul := hvs.len
      have HUL := Lib.hid hul
      obtain ⟨hpok, hpv⟩ := okV_parts hvs.exs hok
      have HPV := Lib.hid hpv
      have HP60 := Lib.hid (fun p (hp : p ∈ ps) => ((okV_iff p).mp (hpok p hp)).1)
      have hps8 : ps.length ≤ 60 := by
        have := ((okV_iff _).mp hok).2.1
        rw [List.all_eq_true] at this
        have := (okM_many (okW_M (okVC_W (this (5, ⟨#[]⟩, (ps.length : Int)) (by simp [listV]))))).2
        simp only at this; omega
      have hus8 : us.length ≤ 60 := by omega
      obtain ⟨ax, cx, rfl, q1, q2, q3⟩ := hrow
      unfold maxLen at q2
      have Q3 := Lib.hid q3; have HB := Lib.hid hb1
      have hbs := hb1.size
      clear hv hok hvs hpok hpv q3 hb1 hul hps8
      go_wp2_with fail
      go_loopw [5, 16] (fun a i wr => ∃ (k : Nat) (us2 : List Value), k ≤ us.length ∧ i = .int .i64 (k : Int) ∧ OwnSS wr w1.heap.size a us2 (ps.take k) ∧ Below w1.heap.size w1 wr) (fun _ i _ => us.length - (intOf i).toNat)
      case atStart => exact ⟨0, [], Nat.zero_le _, rfl, OwnSS.start _ _, Below.refl _ _⟩
      case round =>
        obtain ⟨k, us2, hk, rfl, hown, hb⟩ := hrel
        have HO := Lib.hid hown; have HBR := Lib.hid hb
        clear hown hb
        by_cases hlt : k < us.length
        · obtain ⟨b, o, rfl, hSb, hbl, cc⟩ := Q3.out.resolve_left (by rintro rfl; simp at hlt)
          have d0 : wr.cell? ⟨b, o + k, none⟩ = some us[k] := (HBR.out.cell (p := ⟨b, _, none⟩) hbl).trans (cc k hlt)
          have hkp : k < ps.length := by rw [← HUL.out]; exact hlt
          obtain ⟨Tk, xk, K, hu, hm, heK, hK⟩ := HAPP.out k hlt hkp
          rw [hu] at d0
          have hpl := HP60.out _ (List.getElem_mem hkp)
          have hws := HBR.out.size
          have HK := Lib.hid (hK wr wr.heap.size (.slice none 0 0) [] HBR.out hws (Nat.le_refl _) (World.ownsRow_nil _ _ _ _) (by simp; omega))
          have hlk : (ps.take k).length = k := by rw [List.length_take]; omega
          have HLK := Lib.hid hlk
          have HTK := Lib.hid (show ps.take (k + 1) = ps.take k ++ [ps[k]] from List.take_succ_eq_append_getElem hkp)
          have hOR := HO.out.row
          rw [hlk] at hOR
          obtain ⟨aa, ac, rfl⟩ := own_shape hOR
          have HOR := Lib.hid hOR
          generalize ps[k] = sub at HK HTK hpl
          clear hOR hlk cc hK
          go_wp2_with fail
          refine HK.out.mono ?_
          rintro e w3 ⟨v3, rfl, ho3, hb3, hs3⟩
          have ho3' : w3.ownsRow wr.heap.size 39 3 v3 sub.length (flatC sub) := by simpa using ho3
          obtain ⟨a3, c3, rfl⟩ := own_shape ho3'
          have hown6 := own_keep HOR.out (fun x hx => hb3.block x (HOR.out.lt x hx).2)
          have HO3 := Lib.hid ho3'; have HB3 := Lib.hid hb3
          clear ho3 ho3' hb3
          go_wp2_with (at_builtin; refine wpList_append_lies _ rfl _ _ 27 rfl w1.heap.size 24 j0 (.slice none 0 0) 1 24 Tryz.underlying27 hj hy0 hy1 hy2 rfl (by decide) (.slice aa k ac) k us2 rfl (hown6.alloc _) ⟨w3.heap.size, 0, none⟩ 1 1 [.slice a3 sub.length c3] rfl rfl (World.news_of_block (heap_alloc_new w3 _)) (by simp [Value.oneCell']) (by omega) (by unfold maxLen; omega) (by omega) (by simp; omega) (w3.heap.size + 1) (by simp) ?_; intro gg cap' w6 hown' hgrow hat hlt'; have HN := Lib.hid (HO.out.push (gg := gg) HB3.out HO3.out _ hgrow (show w6.ownsRow w1.heap.size 24 1 _ ((ps.take k).length + 1) _ by rw [HLK.out]; exact hown') rfl hat hws); have HB6 := Lib.hid (((HBR.out.trans (HB3.out.mono hws)).alloc (by omega) (.cells #[.slice a3 sub.length c3] 24)).grown hgrow (by simp; omega) (fun x hx => (HOR.out.lt x hx).1)); clear hown' hgrow hat)
          go_roundw
          case rel => exact ⟨k + 1, us2 ++ [.slice a3 sub.length c3], by omega, by go_num, by rw [HTK.out]; exact HN.out, HB6.out⟩
          case measure => simp [intOf]; omega
        · obtain rfl : k = us.length := by omega
          have HF := Lib.hid (show ps.take us.length = ps from List.take_of_length_le (by rw [HUL.out]; exact Nat.le_refl _))
          have HOO := Lib.hid (show _ from HF.out ▸ HO.out)
          go_wp2
          go_ret
          rw [HPV.out]
          exact ⟨_, us2, rfl, HOO.out.lower hbs, HB.out.trans (HBR.out.mono hbs)⟩
  · have HP := Lib.hid (show partsV l = [] by rw [partsV, if_neg]; rintro ⟨h, -⟩; rw [hno] at h; cases h)
    have HB := Lib.hid hb1
    clear hb1 hno
    go_wp2_with fail
    refine wp_loop_rounds 1 ?_
    rw [rounds_succ]
    go_wp2
    go_ret
    rw [HP.out]
    exact ⟨_, [], rfl, OwnSS.start _ _, HB.out⟩

end Go.Proofs.YtipmkbahlfkfoaaGreatDoor
