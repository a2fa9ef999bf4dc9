/-
  The walk of laws.FnCallFunction.
-/
import Derived.Test.YtipmkbahlfkfoaaGreatDoorCallW
import Derived.Test.YtipmkbahlfkfoaaGreatDoorFracCmp
import Derived.Deep.RegionHeld3
namespace Go.Proofs.YtipmkbahlfkfoaaGreatDoor
open Go.RowKit
set_option linter.unusedVariables false

theorem callRR_val {nm : ByteArray} {ls : List (List Cl)} {r : List Cl} (hok : ∀ l ∈ ls, okV l = true) (h : callF nm ls = some r) : callRK nm ls = true ∧ callRR nm ls = r := by
  obtain ⟨h1, h2⟩ := callRK_yes (nm := nm) hok
  rw [h1, h2, callOK, callR, h]
  exact ⟨rfl, rfl⟩
theorem callRK_all {nm : ByteArray} {ls : List (List Cl)} (h : callRK nm ls = true) : ∀ l ∈ ls, okV l = true := by
  rw [callRK, Bool.and_eq_true, List.all_eq_true] at h
  exact h.1
theorem keptW {W w1 : World} (hb : Below W.heap.size W w1) {p : Addr} {v : Value} (h : W.cell? p = some v) : w1.cell? p = some v := by
  rw [hb.cell (World.block_lt_of_cell? W _ h)]; exact h
theorem kept5 {W w1 : World} (hb : Below W.heap.size W w1) {p1 p2 p3 p4 p5 : Addr} {v1 v2 v3 v4 v5 : Value} (h1 : W.cell? p1 = some v1) (h2 : W.cell? p2 = some v2) (h3 : W.cell? p3 = some v3) (h4 : W.cell? p4 = some v4) (h5 : W.cell? p5 = some v5) :
    w1.cell? p1 = some v1 ∧ w1.cell? p2 = some v2 ∧ w1.cell? p3 = some v3 ∧ w1.cell? p4 = some v4 ∧ w1.cell? p5 = some v5 := ⟨keptW hb h1, keptW hb h2, keptW hb h3, keptW hb h4, keptW hb h5⟩
theorem tru_word : wdV (truV true) = ⟨#[116, 114, 117, 101]⟩ ∧ (truV true).length = 1 := ⟨rfl, rfl⟩
theorem okV_pos {l : List Cl} (h : okV l = true) : 0 < l.length := by
  obtain ⟨c, t, rfl⟩ := okV_cons h; simp
theorem wdV_le {l : List Cl} (h : ShortC l) (h0 : 0 < l.length) : (wdV l).size ≤ 1048576 := by
  cases l with
  | nil => simp at h0
  | cons c t => exact h c (List.mem_cons_self ..)

set_option maxRecDepth 100000 in
set_option maxHeartbeats 8000000 in
theorem fnCallFunction_core (a0 : Option Addr) (len0 cap0 : Nat) (w : World) (hrow : CodeRow w a0 len0 cap0) (htab : Tab w) :
    Calls Tryz.prog 4 #[.slice a0 len0 cap0] w fun e w' => e = .returned (.bool true) ∧ Below w.heap.size w w' := by
  have hcap := hrow.1; have hmx := hrow.2.1
  unfold maxLen at hmx
  by_cases hl : len0 ≤ 1048576
  · go_enter Tryz.func4, Tryz.ntmps4
    go_wp2_with fail
    refine (drawCallFunction_any a0 len0 cap0 _ hrow).mono ?_
    rintro e w1 ⟨nm, v, ls, rfl, hn8, hr, hf, hl9, hb⟩
    have HB := Lib.hid hb; have HR1 := Lib.hid hr
    have HSH := Lib.hid (show ∀ l ∈ ls, ShortC l from fun l hl c hc => by have := (hf l hl).1 c hc; omega)
    have hlen := few_len9 hf
    have hl1 : ls.length + lenSS ls ≤ 1048576 := by omega
    have hnz : nm.size ≤ 1048576 := by omega
    clear hb hrow hr hf hlen
    obtain ⟨ao, cp, rfl, q1, q2, -⟩ := HR1.out
    unfold maxLen at q2
    go_wp2_with fail
    refine (callFunction_impl nm _ ls _ hnz HR1.out HSH.out (by omega) (htab.keep HB.out)).mono ?_
    rintro e w2 ⟨v2, rfl, ho2, hb2⟩
    have HB2 := Lib.hid (HB.out.trans (hb2.mono HB.out.size)); have HR2 := Lib.hid (HR1.out.mono hb2); have HO2 := Lib.hid ho2; clear hb2 HB ho2
    go_wp2_with fail
    refine (callFunction_spec nm _ ls _ hnz HR2.out HSH.out hl1).mono ?_
    rintro e w3 ⟨v3, rfl, ho3, hb3⟩
    have HB3 := Lib.hid (HB2.out.trans (hb3.mono HB2.out.size)); have HR3 := Lib.hid (HR2.out.mono hb3); have HX2 := Lib.hid ((RowC.of_own HO2.out).1.mono hb3); have HX3 := Lib.hid (RowC.of_own ho3).1; clear hb3 ho3 HB2 HR2
    have HO3 := Lib.hid (own_shape HO2.out)
    go_wp2_with fail
    refine (sameCells_same _ _ _ _ HX2.out HX3.out).mono ?_
    rintro e w4 ⟨rfl, hb4⟩
    have HB4 := Lib.hid (HB3.out.trans (hb4.mono HB3.out.size)); have HR4 := Lib.hid (HR3.out.mono hb4); have HX4 := Lib.hid (HX2.out.mono hb4); clear hb4 HB3 HR3 HX2 HX3
    obtain ⟨a2, c2, rfl⟩ := HO3.out
    cases hok : callRK nm ls with
    | false =>
      have HE := Lib.hid (show callRR nm ls = [] by rw [callRR, hok]; rfl)
      rw [HE.out]
      clear hok
      go_wp2_with fail
      refine (alive_any _).mono ?_
      rintro e w' ⟨rfl, rfl⟩
      go_wp2
      go_ret
      exact ⟨rfl, HB4.out⟩
    | true =>
      obtain ⟨hF, hV⟩ := callRR_ok hok
      have HAL := Lib.hid (callRK_all hok)
      obtain ⟨r, hr⟩ : ∃ r, callRR nm ls = r := ⟨_, rfl⟩
      rw [hr] at hF hV HX4 ⊢
      have HF := Lib.hid hF; have HV := Lib.hid hV; have HSR := Lib.hid (okV_short hV)
      have hr60 : r.length ≤ 60 := ((okV_iff _).mp hV).1
      have hr0 := okV_pos hV
      clear hok hF hV hr HO2 HO3
      have HTB := Lib.hid (htab.keep HB4.out)
      by_cases n1 : nm = nmReverse
      · have t1 : nm.toList = [114, 101, 118, 101, 114, 115, 101] := by rw [n1]; decide +kernel
        rw [n1] at HF
        clear n1
        obtain ⟨x, hx, hback⟩ := rev_back HAL.out HF.out
        subst hx
        have hxo := HAL.out x (List.mem_singleton.mpr rfl)
        have HZ1 := Lib.hid (show ∀ l ∈ [r], ShortC l from fun l hl => by rw [List.mem_singleton] at hl; subst hl; exact HSR.out)
        obtain ⟨k1, k2⟩ := callRR_val (fun l hl => by rw [List.mem_singleton] at hl; subst hl; exact HV.out) hback
        have HK1 := Lib.hid k1; have HK2 := Lib.hid k2
        obtain ⟨ao1, cp1, hsl, -, -, hcells⟩ := HR4.out
        injection hsl with hs1 hs2 hs3
        obtain ⟨bb, oo, rfl, hbl, cc⟩ := hcells.resolve_left (by simp)
        obtain ⟨u, cu, hru⟩ := cc 0 (by simp)
        rw [Nat.add_zero] at cu
        subst hs1
        have HRU := Lib.hid hru
        have HLT := Lib.hid (RowLs_lit1 HX4.out)
        have HB4a := Lib.hid (HB4.out.alloc HB4.out.size (.cells #[.slice a2 r.length c2] 24))
        have HTB2 := Lib.hid (htab.keep HB4a.out)
        have hl1' : [x].length = 1 := rfl
        clear k1 k2 hback hcells cc hru
        go_wp2_with fail
        refine (callFunction_impl nmReverse _ [r] _ (by decide) HLT.out HZ1.out (by simp) HTB2.out).mono ?_
        rintro e w5 ⟨v5, rfl, ho5, hb5⟩
        rw [HK1.out]
        have HX5 := Lib.hid (show RowC w5 v5 x by have := (RowC.of_own ho5).1; rwa [HK2.out] at this)
        have d0 : w5.cell? ⟨bb, oo, none⟩ = some u := (hb5.cell (p := ⟨bb, oo, none⟩) (by simp; omega)).trans (((Below.refl w4.heap.size w4).alloc (Nat.le_refl _) (.cells #[.slice a2 r.length c2] 24)).cell (p := ⟨bb, oo, none⟩) hbl |>.trans cu)
        have HRU5 := Lib.hid ((HRU.out.al _).mono hb5)
        have HB5 := Lib.hid (HB4a.out.trans (hb5.mono HB4a.out.size)); clear hb5 ho5 cu
        go_wp2_with fail
        refine (sameCells_same _ _ x _ HX5.out HRU5.out).mono ?_
        rintro e w6 ⟨rfl, hb6⟩
        have HB6 := Lib.hid (HB5.out.trans (hb6.mono HB5.out.size)); clear hb6
        go_wp2
        go_ret
        exact ⟨rfl, HB6.out⟩
      have t1 : ¬ nm.toList = [114, 101, 118, 101, 114, 115, 101] := toList_neW n1
      have t1b := beq_eq_false_iff_ne.mpr t1
      by_cases n2 : nm = nmFirst
      · have t2 : nm.toList = [102, 105, 114, 115, 116] := by rw [n2]; decide +kernel
        rw [n2] at HF
        clear n1 n2
        obtain ⟨x, hx, hback⟩ := first_in HF.out
        subst hx
        have hxo := HAL.out x (List.mem_singleton.mpr rfl)
        obtain ⟨ao1, cp1, hsl, -, -, hcells⟩ := HR4.out
        injection hsl with hs1 hs2 hs3
        obtain ⟨bb, oo, rfl, hbl, cc⟩ := hcells.resolve_left (by simp)
        obtain ⟨u, cu, hru⟩ := cc 0 (by simp)
        rw [Nat.add_zero] at cu
        subst hs1
        have hru' : RowC w4 u x := hru
        obtain ⟨au, cpu, rfl, -⟩ := id hru'
        have HZ1 := Lib.hid (show ∀ l ∈ [x, r], ShortC l from fun l hl => by
          rcases List.mem_cons.mp hl with rfl | hl
          · exact okV_short hxo
          · rw [List.mem_singleton] at hl; subst hl; exact HSR.out)
        obtain ⟨k1, k2⟩ := callRR_val (fun l hl => by
          rcases List.mem_cons.mp hl with rfl | hl
          · exact hxo
          · rw [List.mem_singleton] at hl; subst hl; exact HV.out) hback
        have HK1 := Lib.hid k1; have HK2 := Lib.hid k2
        have HLT := Lib.hid (RowLs_lit2 hru' HX4.out)
        have HB4a := Lib.hid (HB4.out.alloc HB4.out.size (.cells #[.slice au x.length cpu, .slice a2 r.length c2] 24))
        have HTB2 := Lib.hid (htab.keep HB4a.out)
        clear k1 k2 hback hcells cc hru hru'
        go_wp2_with fail
        refine (callFunction_impl nmContains _ [x, r] _ (by decide) HLT.out HZ1.out (by simp) HTB2.out).mono ?_
        rintro e w5 ⟨v5, rfl, ho5, hb5⟩
        rw [HK1.out]
        have hx5 : RowC w5 v5 (truV true) := by have := (RowC.of_own ho5).1; rwa [HK2.out] at this
        obtain ⟨b5, o5, cp5, rfl, g1, g2, g3, g4, g5, g6⟩ := hx5.head (by decide)
        have g5' : w5.cell? ⟨b5, o5 + 1, none⟩ = some (.string ⟨#[116, 114, 117, 101]⟩) := g5
        have HB5 := Lib.hid (HB4a.out.trans (hb5.mono HB4a.out.size)); clear hb5 ho5 cu g4 g5 g6 hx5
        rw [tru_word.2] at g1 ⊢
        unfold maxLen at g2
        go_wp2
        go_ret
        exact ⟨rfl, HB5.out⟩
      have t2 : ¬ nm.toList = [102, 105, 114, 115, 116] := toList_neW n2
      have t2b := beq_eq_false_iff_ne.mpr t2
      by_cases n3 : nm = nmMin
      · have t3 : nm.toList = [109, 105, 110] := by rw [n3]; decide +kernel
        rw [n3] at HF
        clear n1 n2 n3
        obtain ⟨m, hmx2, hle, hk1, hk2, -, hmo⟩ := min_le HAL.out HF.out
        obtain ⟨k1, k2⟩ := callRR_val HAL.out hmx2
        have HK1 := Lib.hid k1; have HK2 := Lib.hid k2
        have hm1 := one_of hmo hk2
        obtain ⟨e1, e2⟩ := num_read HV.out hk1
        obtain ⟨e3, e4⟩ := num_read hmo hk2
        have hv1 := rd_valid _ e1
        have hv2 := rd_valid _ e3
        have HC := Lib.hid (show cmpF (vB (rdT (wdV r)) (rdB (wdV r)) && vB (rdT (wdV m)) (rdB (wdV m))) (rdT (wdV r) * rdB (wdV m)) (rdT (wdV m) * rdB (wdV r)) ≤ 0 by
          rw [hv1, hv2]
          show cmpI _ _ ≤ 0
          unfold leV at hle
          unfold cmpI
          split
          · omega
          · split
            · omega
            · omega)
        have hzr := wdV_le HSR.out hr0
        have hzm := wdV_le (okV_short hmo) (by omega)
        have HE1 := Lib.hid e1
        clear k1 k2 hmx2 hle hk1 hk2 hmo e1 e2 e3 e4 hv1 hv2
        go_wp2_with fail
        refine (callFunction_impl nmMax _ ls _ (by decide) HR4.out HSH.out (by omega) HTB.out).mono ?_
        rintro e w5 ⟨v5, rfl, ho5, hb5⟩
        rw [HK1.out]
        have hx5 : RowC w5 v5 m := by have := (RowC.of_own ho5).1; rwa [HK2.out] at this
        obtain ⟨b5, o5, cp5, rfl, g1, g2, g3, g4, g5, g6⟩ := hx5.head (by omega)
        obtain ⟨b2, o2, cp2, hr2, f1, f2, f3, f4, f5, f6⟩ := (HX4.out.mono hb5).head hr0
        injection hr2 with hr2 _ hr3
        subst hr2; subst hr3
        unfold maxLen at g2 f2
        rw [hm1] at g1 ⊢
        have HB5 := Lib.hid (HB4.out.trans (hb5.mono HB4.out.size)); clear hb5 ho5 hx5
        have HTB5 := Lib.hid (htab.keep HB5.out)
        go_wp2_with fail
        refine (readFraction_impl (wdV r) _ (by omega) HTB5.out).mono ?_
        rintro e w6 ⟨rfl, hb6⟩
        have HB6 := Lib.hid (HB5.out.trans (hb6.mono HB5.out.size))
        have i4 := (hb6.cell (p := ⟨b5, _, none⟩) g3).trans g4
        have i5 := (hb6.cell (p := ⟨b5, _, none⟩) g3).trans g5
        have i6 := (hb6.cell (p := ⟨b5, _, none⟩) g3).trans g6
        clear hb6 g4 g5 g6 f4 f5 f6
        rw [fr, HE1.out]
        generalize kdV m = km at i4
        generalize myV m = mm at i6
        have HB6a := Lib.hid (HB6.out.alloc HB6.out.size (.cells #[.int .i64 (rdT (wdV r)), .int .i64 (rdB (wdV r))] 41))
        have HTB6 := Lib.hid (htab.keep HB6a.out)
        obtain ⟨z1, z2⟩ := FrAt.new w6 (rdT (wdV r)) (rdB (wdV r)) 41
        have hba : Below w6.heap.size w6 (w6.alloc (.cells #[.int .i64 (rdT (wdV r)), .int .i64 (rdB (wdV r))] 41)) := (Below.refl _ _).alloc (Nat.le_refl _) _
        have j4 := keptW hba i4
        have j5 := keptW hba i5
        have j6 := keptW hba i6
        clear hba i4 i5 i6
        go_wp2_with fail
        generalize hwa : w6.alloc (.cells #[.int .i64 (rdT (wdV r)), .int .i64 (rdB (wdV r))] 41) = wa at HB6a HTB6 z1 z2 j4 j5 j6 ⊢
        go_region_held3 (fun w' => w'.cell? ⟨w6.heap.size, 0, none⟩ = some (.int .i64 (rdT (wdV r))) ∧ w'.cell? ⟨w6.heap.size, 1, none⟩ = some (.int .i64 (rdB (wdV r))) ∧ w'.cell? ⟨b5, o5, none⟩ = some (.int .i64 km) ∧ w'.cell? ⟨b5, o5 + 1, none⟩ = some (.string (wdV m)) ∧ w'.cell? ⟨b5, o5 + 2, none⟩ = some (.int .i64 mm))
          (first
            | go_keep
            | (go_split_ands; exact kept5 hb8 (by assumption) (by assumption) (by assumption) (by assumption) (by assumption))
            | (go_split_ands; exact kept5 hb7 (by assumption) (by assumption) (by assumption) (by assumption) (by assumption)))
          (first
            | (go_at_call 25; refine (readNumber_any (wdV m) km mm _ (by omega) (by first | exact HTB6.out.drew | exact HTB6.out)).mono ?_; rintro e w7 ⟨rfl, hb7⟩; obtain ⟨y1, y2, y3, y4, y5⟩ := kept5 hb7 (by exact z1) (by exact z2) (by exact j4) (by exact j5) (by exact j6))
            | (go_at_call 24; refine (cmp_impl _ _ _ _ _).mono ?_; rintro e w8 ⟨rfl, hb8⟩; obtain ⟨x1, x2, x3, x4, x5⟩ := kept5 hb8 (by exact y1) (by exact y2) (by exact y3) (by exact y4) (by exact y5)))
        all_goals
          have HB8 := Lib.hid ((HB6a.out.drew.trans (hb7.mono (by have := HB6a.out.size; simpa using this))).trans (hb8.mono (by have := HB6a.out.size; have := hb7.size; simp at this; omega)))
          have hC := HC.out
          generalize cmpF (vB (rdT (wdV r)) (rdB (wdV r)) && vB (rdT (wdV m)) (rdB (wdV m))) (rdT (wdV r) * rdB (wdV m)) (rdT (wdV m) * rdB (wdV r)) = C at hC ⊢
          have hCb : decide (C ≤ 0) = true := decide_eq_true hC
          clear hb7 hb8
          go_wp2
          go_ret
          exact ⟨by first | rfl | exact congrArg (fun b => Ending.returned (.bool b)) hCb, HB8.out⟩
      have t3 : ¬ nm.toList = [109, 105, 110] := toList_neW n3
      have t3b := beq_eq_false_iff_ne.mpr t3
      clear n1 n2 n3
      go_wp2_with fail
      refine (valueValid_impl _ r _ HX4.out HSR.out HTB.out).mono ?_
      rintro e w5 ⟨rfl, hb5⟩
      rw [HV.out]
      have HB5 := Lib.hid (HB4.out.trans (hb5.mono HB4.out.size)); clear hb5
      go_wp2
      go_ret
      exact ⟨rfl, HB5.out⟩
  · go_enter Tryz.func4, Tryz.ntmps4
    go_wp2
    go_ret
    exact ⟨rfl, Below.refl _ _⟩

end Go.Proofs.YtipmkbahlfkfoaaGreatDoor
