/-
  spec.ValueValid, by its contract.
-/
import Derived.Test.YtbnchmlapimmdaaGreatDoorValPlain
import Derived.Test.YtbnchmlapimmdaaGreatDoorReadSAll
import Derived.Test.YtbnchmlapimmdaaGreatDoorExprS2
import Derived.Test.YtbnchmlapimmdaaGreatDoorAppendC
namespace Go.Proofs.YtbnchmlapimmdaaGreatDoor
open Go.RowKit
set_option linter.unusedVariables false

theorem flatC_word (l : List Cl) : ∀ (k : Nat) (h : k < l.length) (s : ByteArray), (flatC l).set (k * 3 + 1) (.string s) = flatC (l.set k (l[k].1, s, l[k].2.2)) := by
  induction l with
  | nil => intro k h; simp at h
  | cons a t ih =>
    intro k h s
    have e : ∀ (b : Cl) (r : List Cl), flatC (b :: r) = .int .i64 b.1 :: .string b.2.1 :: .int .i64 b.2.2 :: flatC r := fun b r => by simp [flatC]
    cases k with
    | zero => rw [e]; simp [e]
    | succ k =>
      have hk : k < t.length := by simpa using h
      rw [e, show (k + 1) * 3 + 1 = (k * 3 + 1) + 1 + 1 + 1 by omega]
      simp only [List.set_cons_succ, List.getElem_cons_succ]
      rw [ih k hk s, e]
/-- Cells of which the first k are made plain. -/
def plTo (l : List Cl) (k : Nat) : List Cl := (l.take k).map plC ++ l.drop k
theorem plTo_len (l : List Cl) (k : Nat) : (plTo l k).length = l.length := by
  rw [plTo, List.length_append, List.length_map, List.length_take, List.length_drop]; omega
theorem plTo_zero (l : List Cl) : plTo l 0 = l := by simp [plTo]
theorem plTo_all (l : List Cl) : plTo l l.length = l.map plC := by simp [plTo]
theorem plTo_at (l : List Cl) (k : Nat) (h : k < l.length) : (plTo l k)[k]'(by rw [plTo_len]; exact h) = l[k] := by
  simp only [plTo]
  rw [List.getElem_append_right (by simp; omega)]
  simp [Nat.min_eq_left (Nat.le_of_lt h)]
theorem plTo_num (l : List Cl) (k : Nat) (h : k < l.length) (h1 : l[k].1 = 1) : (plTo l k).set k (l[k].1, ⟨#[48]⟩, l[k].2.2) = plTo l (k + 1) := by
  have hm : (l.take k).map plC = (l.take k).map plC := rfl
  rw [plTo, plTo, List.take_succ_eq_append_getElem h, List.map_append, List.set_append_right _ _ (by simp; omega)]
  simp only [List.length_map, List.length_take, Nat.min_eq_left (Nat.le_of_lt h), Nat.sub_self]
  rw [List.drop_eq_getElem_cons h, List.set_cons_zero, List.append_assoc]
  have : plC l[k] = (l[k].1, ⟨#[48]⟩, l[k].2.2) := by unfold plC; rw [if_pos h1, h1]
  simp [this]
theorem plTo_oth (l : List Cl) (k : Nat) (h : k < l.length) (h1 : l[k].1 ≠ 1) : plTo l k = plTo l (k + 1) := by
  rw [plTo, plTo, List.take_succ_eq_append_getElem h, List.map_append, List.drop_eq_getElem_cons h, List.append_assoc]
  have : plC l[k] = l[k] := by unfold plC; rw [if_neg h1]
  simp [this]

theorem RowC.sub_al {w : World} {v : Value} {l : List Cl} (h : RowC w v l) (o : Obj) : RowC (w.alloc o) v l := h.mono ((Below.refl w.heap.size w).alloc (Nat.le_refl _) o)
theorem own_nil_lit (w : World) : (w.alloc (.cells #[] 27)).ownsRow w.heap.size 27 3 (.slice (some ⟨w.heap.size, 0, none⟩) 0 0) 0 [] :=
  World.ownsRow_lit (e := 27) (size := 3) (base := w.heap.size) w #[] 0 (Nat.le_refl _) (by unfold maxLen; omega) rfl
theorem own_belowT {w w1 : World} {base : Nat} {e : TypeId} {size n : Nat} {v : Value} {xs : List Value} (h : w.ownsRow base e size v n xs) (hb : Below w.heap.size w w1) : w1.ownsRow base e size v n xs :=
  h.kept (row := none) ⟨hb.os, hb.tape, hb.output, hb.size, fun i hi _ => hb.block i hi⟩ (by cases hv : v.ownBlock with | none => exact .inl rfl | some x => exact .inr (by simp))
theorem vC_take {l : List Cl} {k : Nat} (h : k < l.length) : (l.take (k + 1)).all vC = ((l.take k).all vC && vC l[k]) := by
  rw [List.take_succ_eq_append_getElem h, List.all_append]; simp
theorem okV_stop {l : List Cl} {k : Nat} (h : k < l.length) (hv : vC l[k] = false) : okV l = false := by
  rw [okV, Bool.and_eq_false_iff]
  left
  rw [List.all_eq_false]
  exact ⟨l[k], List.getElem_mem h, by rw [hv]; decide⟩

set_option maxRecDepth 100000 in
set_option maxHeartbeats 1000000 in
theorem valueValid_spec (v : Value) (l : List Cl) (w : World) (hr : RowC w v l) (hz : ShortC l) (hl : l.length ≤ 1048576) :
    Calls Tryz.prog 15 #[v] w fun e w' => e = .returned (.bool (okV l)) ∧ Below w.heap.size w w' := by
  obtain ⟨i0, hi, hz0, hz1, hz2⟩ := info_parts infoC
  have HR := Lib.hid hr; have HZ := Lib.hid hz
  obtain ⟨ao, cap, rfl, q1, q2, q3⟩ := hr
  unfold maxLen at q2
  have H3 := Lib.hid q3
  clear q3 hz
  go_enter Tryz.func15, Tryz.ntmps15
  go_wp2_with (at_builtin; refine append_rowC rfl _ _ 23 rfl w.heap.size 27 i0 (.agg #[.int .i64 0, .string ByteArray.empty, .int .i64 0]) 32 Tryz.underlying23 hi hz0 hz1 hz2 (by decide) _ 0 [] rfl (own_nil_lit w) _ l rfl (HR.out.sub_al _) (by unfold maxLen; omega) (by omega) (by simp) ?_)
  intro v1 w1 hown1 hgrow1
  have HB1 := Lib.hid (((Below.refl w.heap.size w).alloc (Nat.le_refl _) (.cells #[] 27)).grown hgrow1 (by simp) (by simp [Value.ownBlock]))
  have HO1 := Lib.hid (show w1.ownsRow w.heap.size 27 3 v1 l.length (flatC l) by simpa using hown1)
  clear hown1 hgrow1
  have HZP := Lib.hid (show ∀ c ∈ l.map plC, c.2.1.size ≤ 1048576 by
    intro c hc
    obtain ⟨d, hd, rfl⟩ := List.mem_map.mp hc
    unfold plC
    split
    · show (⟨#[48]⟩ : ByteArray).size ≤ 1048576
      decide
    · exact HZ.out d hd)
  have hv1 : (l = [] ∧ v1 = .slice none 0 0) ∨ ∃ g cp, v1 = .slice (some ⟨g, 0, none⟩) l.length cp ∧ l.length ≤ cp ∧ cp ≤ maxLen := by
    rcases HO1.out.2 with ⟨h1, h2⟩ | ⟨g, cp, cur, rfl, _, _, h3, h4, _⟩
    · exact .inl ⟨List.length_eq_zero_iff.mp h2, h1⟩
    · exact .inr ⟨g, cp, rfl, h3, h4⟩
  go_wp2_with fail
  go_loopw [4] (fun i wr => ∃ k : Nat, k ≤ l.length ∧ i = .int .i64 (k : Int) ∧ (l.take k).all vC = true ∧ wr.ownsRow w.heap.size 27 3 v1 l.length (flatC (plTo l k)) ∧ Below w.heap.size w wr) (fun i _ => l.length - (intOf i).toNat)
  case atStart => exact ⟨0, Nat.zero_le _, rfl, rfl, by rw [plTo_zero]; exact HO1.out, HB1.out⟩
  case round =>
    obtain ⟨k, hk, rfl, hvc, hown, hb⟩ := hrel
    have HVC := Lib.hid hvc; have HO := Lib.hid hown; have HB := Lib.hid hb
    clear hvc hown hb
    by_cases hlt : k < l.length
    · obtain ⟨b, o, rfl, hbl, cc⟩ := H3.out.resolve_left (by rintro rfl; simp at hlt)
      obtain ⟨g, cp, rfl, hcp1, hcp2⟩ := hv1.resolve_left (by rintro ⟨h, -⟩; rw [h] at hlt; simp at hlt)
      unfold maxLen at hcp2
      obtain ⟨c0, c1, c2⟩ := cc k hlt
      have d0 : wr.cell? ⟨b, o + k * 3, none⟩ = some (.int .i64 l[k].1) := (HB.out.cell (p := ⟨b, _, none⟩) hbl).trans c0
      have d1 : wr.cell? ⟨b, o + k * 3 + 1, none⟩ = some (.string l[k].2.1) := (HB.out.cell (p := ⟨b, _, none⟩) hbl).trans c1
      have HZK := Lib.hid (show l[k].2.1.size ≤ 2097152 by have := HZ.out _ (List.getElem_mem hlt); omega)
      have HT := Lib.hid (vC_take hlt)
      have HST := Lib.hid (okV_stop (l := l) hlt)
      have HNUM := Lib.hid (plTo_num l k hlt)
      have HOTH := Lib.hid (plTo_oth l k hlt)
      have HVK := Lib.hid (show vC l[k] = vC (l[k].1, l[k].2.1, l[k].2.2) from rfl)
      have HPA := Lib.hid (plTo_at l k hlt)
      have HPL := Lib.hid (plTo_len l k)
      have HFW := Lib.hid (flatC_word (plTo l k) k (by rw [HPL.out]; exact hlt) ⟨#[48]⟩)
      have HFW2 := Lib.hid (show l[k].1 = 1 → (flatC (plTo l k)).set (k * 3 + 1) (.string ⟨#[48]⟩) = flatC (plTo l (k + 1)) from fun h1 => by rw [HFW.out, ← HNUM.out h1, HPA.out])
      clear HFW HPA HNUM cc c0 c1 c2
      have hgbl : g ≠ b := by have := (HO.out.lt g rfl).1; omega
      have hbw : b < wr.heap.size := by have := HB.out.size; omega
      by_cases h1 : l[k].1 = 1
      · have HW2 := Lib.hid (HFW2.out h1)
        rw [h1] at d0
        have HVR := Lib.hid (show vC l[k] = rdOK l[k].2.1 by rw [vC, if_pos h1])
        have HRF := Lib.hid (fun w' => readFraction_spec l[k].2.1 w' HZK.out)
        clear HFW2 HOTH HVK
        generalize l[k].2.1 = ss at d1 HVR HRF HZK
        cases hrd : rdOK ss with
        | true =>
          have HN := Lib.hid (show (l.take (k + 1)).all vC = true by rw [HT.out, HVC.out, HVR.out, hrd]; rfl)
          have HRD := Lib.hid hrd
          clear hrd h1
          go_wp2_with fail
          refine (HRF.out _).mono ?_
          rintro e w2 ⟨rfl, hb2⟩
          rw [HRD.out]
          have hb3 := hb2.alloc hb2.size (.cells #[.int .i64 (rdT ss), .int .i64 (rdB ss)] 59)
          have HO3 := Lib.hid (own_belowT HO.out hb3)
          have HB3 := Lib.hid (HB.out.trans (hb3.mono HB.out.size))
          have S3 := Lib.hid (HO3.out.stored (k * 3 + 1) (.string ⟨#[48]⟩))
          have z3 := HO3.out.frozenAt (k * 3 + 1)
          obtain ⟨u3, g3⟩ : ∃ u, (w2.alloc (.cells #[.int .i64 (rdT ss), .int .i64 (rdB ss)] 59)).cell? ⟨g, k * 3 + 1, none⟩ = some u := by
            rw [HO3.out.cellAt (k * 3 + 1) (by omega), List.getElem?_eq_getElem (by have := HO3.out.1; omega)]; exact ⟨_, rfl⟩
          have HB4 := Lib.hid (HB3.out.setCell (p := ⟨g, k * 3 + 1, none⟩) (HO.out.lt g rfl).1 (.string ⟨#[48]⟩))
          have e0 : ((w2.alloc (.cells #[.int .i64 (rdT ss), .int .i64 (rdB ss)] 59)).setCell ⟨g, k * 3 + 1, none⟩ (.string ⟨#[48]⟩)).cell? ⟨b, o + k * 3, none⟩ = some (.int .i64 1) := by
            rw [HB4.out.cell (p := ⟨b, _, none⟩) hbl, ← HB.out.cell (p := ⟨b, _, none⟩) hbl]; exact d0
          have HO4 := Lib.hid (show _ from HW2.out ▸ S3.out.1)
          clear hb2 hb3 d0 d1 S3
          go_wp2
          go_roundw
          case rel => exact ⟨k + 1, by omega, by go_num, HN.out, HO4.out, HB4.out⟩
          case measure => simp [intOf]; omega
        | false =>
          have HN := Lib.hid (HST.out (by rw [HVR.out, hrd]))
          have HRD := Lib.hid hrd
          clear hrd h1
          go_wp2_with fail
          refine (HRF.out _).mono ?_
          rintro e w2 ⟨rfl, hb2⟩
          rw [HRD.out]
          have HB2 := Lib.hid (HB.out.trans ((hb2.alloc hb2.size (.cells #[.int .i64 (rdT ss), .int .i64 (rdB ss)] 59)).mono HB.out.size)); clear hb2
          go_wp2
          go_ret
          exact ⟨ret_b HN.out.symm, HB2.out⟩
      · have HO4 := Lib.hid (show wr.ownsRow w.heap.size 27 3 (.slice (some ⟨g, 0, none⟩) l.length cp) l.length (flatC (plTo l (k + 1))) by rw [← HOTH.out h1]; exact HO.out)
        have HVR := Lib.hid (show vC l[k] = (l[k].1 == 2 || l[k].1 == 3 || l[k].1 == 5) by rw [vC, if_neg h1])
        clear HFW2 HOTH HVK
        generalize l[k].1 = kk at d0 HVR h1
        by_cases h2 : kk = 2
        · subst h2
          have HN := Lib.hid (show (l.take (k + 1)).all vC = true by rw [HT.out, HVC.out, HVR.out]; rfl)
          clear h1
          go_wp2
          go_roundw
          case rel => exact ⟨k + 1, by omega, by go_num, HN.out, HO4.out, HB.out⟩
          case measure => simp [intOf]; omega
        · by_cases h3 : kk = 3
          · subst h3
            have HN := Lib.hid (show (l.take (k + 1)).all vC = true by rw [HT.out, HVC.out, HVR.out]; rfl)
            clear h1 h2
            go_wp2
            go_roundw
            case rel => exact ⟨k + 1, by omega, by go_num, HN.out, HO4.out, HB.out⟩
            case measure => simp [intOf]; omega
          · by_cases h5 : kk = 5
            · subst h5
              have HN := Lib.hid (show (l.take (k + 1)).all vC = true by rw [HT.out, HVC.out, HVR.out]; rfl)
              clear h1 h2 h3
              go_wp2
              go_roundw
              case rel => exact ⟨k + 1, by omega, by go_num, HN.out, HO4.out, HB.out⟩
              case measure => simp [intOf]; omega
            · have HN := Lib.hid (HST.out (by rw [HVR.out]; simp [h2, h3, h5]))
              have n1 : (kk == 1) = false := beq_eq_false_iff_ne.mpr h1
              have n1' : (kk != 1) = true := bne_iff_ne.mpr h1
              have n2 : (kk != 2) = true := bne_iff_ne.mpr h2
              have n3 : (kk != 3) = true := bne_iff_ne.mpr h3
              have n5 : (kk != 5) = true := bne_iff_ne.mpr h5
              clear h1 h2 h3 h5
              go_wp2
              go_ret
              exact ⟨ret_b HN.out.symm, HB.out⟩
    · obtain rfl : k = l.length := by omega
      have HVA := Lib.hid (show l.all vC = true by have := HVC.out; rwa [List.take_of_length_le (Nat.le_refl _)] at this)
      have HO2 := Lib.hid (show wr.ownsRow w.heap.size 27 3 v1 l.length (flatC (l.map plC)) by have := HO.out; rwa [plTo_all] at this)
      have HOK := Lib.hid (show okV l = okE (l.map plC) by rw [okV, HVA.out]; rfl)
      go_wp2_with fail
      refine (exprValid_spec _ (l.map plC) _ (RowC.of_own HO2.out).1 HZP.out (by rw [List.length_map]; exact hl)).mono ?_
      rintro e w2 ⟨rfl, hb2⟩
      have HB2 := Lib.hid (HB.out.trans (hb2.mono HB.out.size)); clear hb2
      go_wp2
      go_ret
      exact ⟨ret_b HOK.out.symm, HB2.out⟩

end Go.Proofs.YtbnchmlapimmdaaGreatDoor
