/- Part of the proof of FnExactEvaluate. -/
import Derived.Test.YtpcaciogglllbaaGreatDoorQEv
import Derived.Test.YtpcaciogglllbaaGreatDoorQBin
import Derived.Test.YtpcaciogglllbaaGreatDoorQFr
namespace Go.Proofs.YtpcaciogglllbaaGreatDoor
open Go.RowKit
set_option linter.unusedVariables false

noncomputable def numK (k xt xb yt yb : Int) : Option (List Cl) :=
  if k = 3 then numO (mkOK (xt * yb + yt * xb) (xb * yb)) (mkT (xt * yb + yt * xb) (xb * yb)) (mkB (xt * yb + yt * xb) (xb * yb))
  else if k = 4 then numO (mkOK (xt * yb + -yt * xb) (xb * yb)) (mkT (xt * yb + -yt * xb) (xb * yb)) (mkB (xt * yb + -yt * xb) (xb * yb))
  else if k = 5 then numO (mkOK (xt * yt) (xb * yb)) (mkT (xt * yt) (xb * yb)) (mkB (xt * yt) (xb * yb))
  else if k = 6 then numO (decide (yt ≠ 0) && mkOK (divT xt yt yb) (divB xb yt)) (mkT (divT xt yt yb) (divB xb yt)) (mkB (divT xt yt yb) (divB xb yt))
  else if k = 7 then (if xb = 1 ∧ yb = 1 ∧ 0 < yt then some (numV (xt % yt) 1) else none)
  else some (truV (decide (k = 8 ∧ cmpI (xt * yb) (yt * xb) < 0 ∨ k = 9 ∧ cmpI (xt * yb) (yt * xb) ≤ 0 ∨ k = 10 ∧ 0 < cmpI (xt * yb) (yt * xb) ∨ k = 11 ∧ 0 ≤ cmpI (xt * yb) (yt * xb))))
theorem binK_numK {k : Int} {a b : List Cl} (hk : 3 ≤ k) (h1 : kdV a = 1) (h2 : kdV b = 1) : binK k a b = numK k (aT a) (aB a) (aT b) (aB b) := binK_num hk h1 h2
theorem mk_vB {t b : Int} (h : mkOK t b = true) : vB (mkT t b) (mkB t b) = true := by rw [mkT, mkB, if_pos h, if_pos h]; exact h
def CalD (o : Option (List Cl)) (w : World) (e : Ending) (w' : World) : Prop := ∃ T B ok, e = fr T B ok ∧ Below w.heap.size w w' ∧ o = numO ok T B ∧ (ok = true → vB T B = true)

set_option maxRecDepth 100000 in
set_option maxHeartbeats 4000000 in
theorem rest_no1 (xt xb yt yb : Int) (w : World) (v1 : vB xt xb = true) (v2 : vB yt yb = true) (hq : ¬ xb = 1) :
    Calls Tryz.prog 222 #[.agg #[.int .i64 xt, .int .i64 xb], .agg #[.int .i64 yt, .int .i64 yb]] w fun e w' => e = fr 0 0 false ∧ Below w.heap.size w w' := by
  obtain ⟨x1, x2, x3, x4⟩ := vB_bd v1
  obtain ⟨y1, y2, y3, y4⟩ := vB_bd v2
  clear v1 v2
  have q1 : (xb != 1) = true := bne_iff_ne.mpr hq
  go_enter Tryz.func222, Tryz.ntmps222
  go_wp2
  exact bodyPost_ret (v := .tuple #[.agg #[.int .i64 0, .int .i64 0], .bool false]) (by simp [results, Tryz.results222, go_sem]) rfl ⟨rfl, (((Below.refl _ w).alloc (Nat.le_refl _) _).alloc (by simp) _).alloc (by first | (simp; done) | (simp; omega)) _⟩

set_option maxRecDepth 100000 in
set_option maxHeartbeats 4000000 in
theorem rest_no2 (xt yt yb : Int) (w : World) (v1 : vB xt 1 = true) (v2 : vB yt yb = true) (hr : ¬ yb = 1) :
    Calls Tryz.prog 222 #[.agg #[.int .i64 xt, .int .i64 1], .agg #[.int .i64 yt, .int .i64 yb]] w fun e w' => e = fr 0 0 false ∧ Below w.heap.size w w' := by
  obtain ⟨x1, x2, x3, x4⟩ := vB_bd v1
  obtain ⟨y1, y2, y3, y4⟩ := vB_bd v2
  clear v1 v2
  have q2 : (yb != 1) = true := bne_iff_ne.mpr hr
  go_enter Tryz.func222, Tryz.ntmps222
  go_wp2
  exact bodyPost_ret (v := .tuple #[.agg #[.int .i64 0, .int .i64 0], .bool false]) (by simp [results, Tryz.results222, go_sem]) rfl ⟨rfl, (((Below.refl _ w).alloc (Nat.le_refl _) _).alloc (by simp) _).alloc (by first | (simp; done) | (simp; omega)) _⟩

set_option maxRecDepth 100000 in
set_option maxHeartbeats 4000000 in
theorem rest_no3 (xt yt : Int) (w : World) (v1 : vB xt 1 = true) (v2 : vB yt 1 = true) (hs : ¬ 0 < yt) :
    Calls Tryz.prog 222 #[.agg #[.int .i64 xt, .int .i64 1], .agg #[.int .i64 yt, .int .i64 1]] w fun e w' => e = fr 0 0 false ∧ Below w.heap.size w w' := by
  obtain ⟨x1, x2, x3, x4⟩ := vB_bd v1
  obtain ⟨y1, y2, y3, y4⟩ := vB_bd v2
  clear v1 v2
  have q3 : yt ≤ 0 := by omega
  go_enter Tryz.func222, Tryz.ntmps222
  go_wp2
  exact bodyPost_ret (v := .tuple #[.agg #[.int .i64 0, .int .i64 0], .bool false]) (by simp [results, Tryz.results222, go_sem]) rfl ⟨rfl, (((Below.refl _ w).alloc (Nat.le_refl _) _).alloc (by simp) _).alloc (by first | (simp; done) | (simp; omega)) _⟩

set_option maxRecDepth 100000 in
set_option maxHeartbeats 4000000 in
theorem rest_neg (xt yt : Int) (w : World) (v1 : vB xt 1 = true) (v2 : vB yt 1 = true) (hs : 0 < yt) (hn : xt.tmod yt < 0) :
    Calls Tryz.prog 222 #[.agg #[.int .i64 xt, .int .i64 1], .agg #[.int .i64 yt, .int .i64 1]] w fun e w' => e = fr (xt % yt) 1 true ∧ Below w.heap.size w w' := by
  obtain ⟨x1, x2, x3, x4⟩ := vB_bd v1
  obtain ⟨y1, y2, y3, y4⟩ := vB_bd v2
  clear v1 v2
  obtain ⟨m1, m2, m3, m4⟩ := tmod_mod (x := xt) hs
  have M := Lib.hid (m1 hn)
  have q3 : (yt == 0) = false := beq_eq_false_iff_ne.mpr (by omega)
  have q4 : ¬ yt ≤ 0 := by omega
  clear m1 m2
  rw [M.out]
  go_enter Tryz.func222, Tryz.ntmps222
  go_wp2
  exact bodyPost_ret (v := .tuple #[.agg #[.int .i64 (xt.tmod yt + yt), .int .i64 1], .bool true]) (by simp [results, Tryz.results222, go_sem]) rfl ⟨rfl, (((Below.refl _ w).alloc (Nat.le_refl _) _).alloc (by simp) _).alloc (by first | (simp; done) | (simp; omega)) _⟩

set_option maxRecDepth 100000 in
set_option maxHeartbeats 4000000 in
theorem rest_pos (xt yt : Int) (w : World) (v1 : vB xt 1 = true) (v2 : vB yt 1 = true) (hs : 0 < yt) (hn : ¬ xt.tmod yt < 0) :
    Calls Tryz.prog 222 #[.agg #[.int .i64 xt, .int .i64 1], .agg #[.int .i64 yt, .int .i64 1]] w fun e w' => e = fr (xt % yt) 1 true ∧ Below w.heap.size w w' := by
  obtain ⟨x1, x2, x3, x4⟩ := vB_bd v1
  obtain ⟨y1, y2, y3, y4⟩ := vB_bd v2
  clear v1 v2
  obtain ⟨m1, m2, m3, m4⟩ := tmod_mod (x := xt) hs
  have M := Lib.hid (m2 hn)
  have q3 : (yt == 0) = false := beq_eq_false_iff_ne.mpr (by omega)
  have q4 : ¬ yt ≤ 0 := by omega
  clear m1 m2
  rw [M.out]
  go_enter Tryz.func222, Tryz.ntmps222
  go_wp2
  exact bodyPost_ret (v := .tuple #[.agg #[.int .i64 (xt.tmod yt), .int .i64 1], .bool true]) (by simp [results, Tryz.results222, go_sem]) rfl ⟨rfl, (((Below.refl _ w).alloc (Nat.le_refl _) _).alloc (by simp) _).alloc (by first | (simp; done) | (simp; omega)) _⟩

theorem rest_any (xt xb yt yb : Int) (w : World) (v1 : vB xt xb = true) (v2 : vB yt yb = true) :
    Calls Tryz.prog 222 #[.agg #[.int .i64 xt, .int .i64 xb], .agg #[.int .i64 yt, .int .i64 yb]] w (CalD (numK 7 xt xb yt yb) w) := by
  have e7 : numK 7 xt xb yt yb = if xb = 1 ∧ yb = 1 ∧ 0 < yt then some (numV (xt % yt) 1) else none := rfl
  rw [e7]
  by_cases hq : xb = 1
  · subst hq
    by_cases hr : yb = 1
    · subst hr
      by_cases hs : 0 < yt
      · rw [if_pos ⟨rfl, rfl, hs⟩]
        obtain ⟨y1, y2, y3, y4⟩ := vB_bd v2
        have hv : vB (xt % yt) 1 = true := vB_one (by have := Int.emod_nonneg xt (show yt ≠ 0 by omega); omega) (by have := Int.emod_lt_of_pos xt hs; omega)
        by_cases hn : xt.tmod yt < 0
        · exact (rest_neg xt yt w v1 v2 hs hn).mono fun e w' h => ⟨_, _, _, h.1, h.2, rfl, fun _ => hv⟩
        · exact (rest_pos xt yt w v1 v2 hs hn).mono fun e w' h => ⟨_, _, _, h.1, h.2, rfl, fun _ => hv⟩
      · rw [if_neg (fun h => hs h.2.2)]
        exact (rest_no3 xt yt w v1 v2 hs).mono fun e w' h => ⟨_, _, _, h.1, h.2, rfl, fun h => (by cases h)⟩
    · rw [if_neg (fun h => hr h.2.1)]
      exact (rest_no2 xt yt yb w v1 v2 hr).mono fun e w' h => ⟨_, _, _, h.1, h.2, rfl, fun h => (by cases h)⟩
  · rw [if_neg (fun h => hq h.1)]
    exact (rest_no1 xt xb yt yb w v1 v2 hq).mono fun e w' h => ⟨_, _, _, h.1, h.2, rfl, fun h => (by cases h)⟩

theorem add_cal (xt xb yt yb : Int) (w : World) (v1 : vB xt xb = true) (v2 : vB yt yb = true) :
    Calls Tryz.prog 219 #[.agg #[.int .i64 xt, .int .i64 xb], .agg #[.int .i64 yt, .int .i64 yb]] w (CalD (numK 3 xt xb yt yb) w) := by
  refine (add_impl xt xb yt yb w).mono fun e w' h => ?_
  rw [v1, v2, show (true && true) = true from rfl, (op_true _ _).1, (op_true _ _).2.1, (op_true _ _).2.2] at h
  exact ⟨_, _, _, h.1, h.2, rfl, mk_vB⟩
theorem sub_cal (xt xb yt yb : Int) (w : World) (v1 : vB xt xb = true) (v2 : vB yt yb = true) :
    Calls Tryz.prog 219 #[.agg #[.int .i64 xt, .int .i64 xb], .agg #[.int .i64 (-yt), .int .i64 yb]] w (CalD (numK 4 xt xb yt yb) w) := by
  refine (add_impl xt xb (-yt) yb w).mono fun e w' h => ?_
  rw [v1, vBE_neg v2, show (true && true) = true from rfl, (op_true _ _).1, (op_true _ _).2.1, (op_true _ _).2.2] at h
  exact ⟨_, _, _, h.1, h.2, rfl, mk_vB⟩
theorem mul_cal (xt xb yt yb : Int) (w : World) (v1 : vB xt xb = true) (v2 : vB yt yb = true) :
    Calls Tryz.prog 220 #[.agg #[.int .i64 xt, .int .i64 xb], .agg #[.int .i64 yt, .int .i64 yb]] w (CalD (numK 5 xt xb yt yb) w) := by
  refine (mul_impl xt xb yt yb w).mono fun e w' h => ?_
  rw [v1, v2, show (true && true) = true from rfl, (op_true _ _).1, (op_true _ _).2.1, (op_true _ _).2.2] at h
  exact ⟨_, _, _, h.1, h.2, rfl, mk_vB⟩
theorem div_cal (xt xb yt yb : Int) (w : World) (v1 : vB xt xb = true) (v2 : vB yt yb = true) :
    Calls Tryz.prog 221 #[.agg #[.int .i64 xt, .int .i64 xb], .agg #[.int .i64 yt, .int .i64 yb]] w (CalD (numK 6 xt xb yt yb) w) := by
  refine (div_impl xt xb yt yb w).mono fun e w' h => ?_
  have e6 : numK 6 xt xb yt yb = numO (decide (yt ≠ 0) && mkOK (divT xt yt yb) (divB xb yt)) (mkT (divT xt yt yb) (divB xb yt)) (mkB (divT xt yt yb) (divB xb yt)) := rfl
  rw [e6]
  by_cases h0 : yt = 0
  · rw [v1, v2, show (yt != 0) = false by simp [h0], show (true && true && false) = false from rfl, (op_false _ _).1, (op_false _ _).2.1, (op_false _ _).2.2] at h
    exact ⟨_, _, _, h.1, h.2, by simp [numO, h0], fun h => by cases h⟩
  · rw [v1, v2, show (yt != 0) = true by simp [h0], show (true && true && true) = true from rfl, (op_true _ _).1, (op_true _ _).2.1, (op_true _ _).2.2] at h
    exact ⟨_, _, _, h.1, h.2, by rw [decide_eq_true h0, Bool.true_and], mk_vB⟩

set_option maxRecDepth 100000 in
set_option maxHeartbeats 4000000 in
theorem calculated_3 (s : ByteArray) (xt xb yt yb : Int) (w : World) (v1 : vB xt xb = true) (v2 : vB yt yb = true) (hs : s.toList = [43]) :
    Calls Tryz.prog 193 #[.string s, .agg #[.int .i64 xt, .int .i64 xb], .agg #[.int .i64 yt, .int .i64 yb]] w (CalD (numK 3 xt xb yt yb) w) := by
  have e4 : ¬ s.toList = [45] := by rw [hs]; decide
  have e5 : ¬ s.toList = [42] := by rw [hs]; decide
  have e6 : ¬ s.toList = [47] := by rw [hs]; decide
  have e7 : ¬ s.toList = [37] := by rw [hs]; decide
  have HC := Lib.hid (fun w' => add_cal xt xb yt yb w' v1 v2)
  obtain ⟨b1, b2, b3, b4⟩ := vB_bd v2
  have HB0 := Lib.hid ((((Below.refl _ w).alloc (Nat.le_refl _) (.cells #[.int .i64 xt, .int .i64 xb] 94)).alloc (by simp) (.cells #[.int .i64 yt, .int .i64 yb] 94)).alloc (by simp; omega) (.cells #[.int .i64 0, .int .i64 0] 94))
  clear v1 v2
  go_enter Tryz.func193, Tryz.ntmps193
  go_wp2_with fail
  refine (HC.out _).mono ?_
  rintro e w1 ⟨T, B, ok, rfl, hb1, ho, hv⟩
  obtain ⟨y0, y1, y2, y3, y4, y5, y6, y7, y8⟩ : Held3 w1 w.heap.size xt xb yt yb := Held3.keep (by refine ⟨?_, ?_, ?_, ?_, ?_, ?_, ?_, ?_, ?_⟩ <;> simp [go_sem]) hb1
  have HB1 := Lib.hid (HB0.out.trans (hb1.mono (by first | (simp; done) | (simp; omega)))); have HO := Lib.hid ho; have HV := Lib.hid hv
  clear hb1 ho hv
  go_wp2
  exact bodyPost_ret (v := .tuple #[.agg #[.int .i64 T, .int .i64 B], .bool ok]) (by simp [results, Tryz.results193, go_sem, y5, y6]) rfl ⟨T, B, ok, rfl, HB1.out.setCell (by first | (simp; done) | (simp; omega)) _ |>.setCell (by first | (simp; done) | (simp; omega)) _, HO.out, HV.out⟩

set_option maxRecDepth 100000 in
set_option maxHeartbeats 4000000 in
theorem calculated_4 (s : ByteArray) (xt xb yt yb : Int) (w : World) (v1 : vB xt xb = true) (v2 : vB yt yb = true) (hs : s.toList = [45]) :
    Calls Tryz.prog 193 #[.string s, .agg #[.int .i64 xt, .int .i64 xb], .agg #[.int .i64 yt, .int .i64 yb]] w (CalD (numK 4 xt xb yt yb) w) := by
  have e3 : ¬ s.toList = [43] := by rw [hs]; decide
  have e5 : ¬ s.toList = [42] := by rw [hs]; decide
  have e6 : ¬ s.toList = [47] := by rw [hs]; decide
  have e7 : ¬ s.toList = [37] := by rw [hs]; decide
  have HC := Lib.hid (fun w' => sub_cal xt xb yt yb w' v1 v2)
  obtain ⟨b1, b2, b3, b4⟩ := vB_bd v2
  have HB0 := Lib.hid ((((Below.refl _ w).alloc (Nat.le_refl _) (.cells #[.int .i64 xt, .int .i64 xb] 94)).alloc (by simp) (.cells #[.int .i64 yt, .int .i64 yb] 94)).alloc (by simp; omega) (.cells #[.int .i64 0, .int .i64 0] 94))
  clear v1 v2
  go_enter Tryz.func193, Tryz.ntmps193
  have ne1 : w.heap.size + 1 + 1 ≠ w.heap.size := by omega
  have ne2 : w.heap.size ≠ w.heap.size + 1 + 1 := by omega
  go_wp2_with fail
  obtain ⟨z20, z21, z22, z23, z24, z25, z26, z27, z28⟩ : Held3 (((w.alloc (.cells #[.int .i64 xt, .int .i64 xb] 94)).alloc (.cells #[.int .i64 yt, .int .i64 yb] 94)).alloc (.cells #[.int .i64 0, .int .i64 0] 94)) w.heap.size xt xb yt yb := (by refine ⟨?_, ?_, ?_, ?_, ?_, ?_, ?_, ?_, ?_⟩ <;> simp [go_sem])
  generalize ((w.alloc (.cells #[.int .i64 xt, .int .i64 xb] 94)).alloc (.cells #[.int .i64 yt, .int .i64 yb] 94)).alloc (.cells #[.int .i64 0, .int .i64 0] 94) = w2 at HB0 z20 z21 z22 z23 z24 z25 z26 z27 z28 ⊢
  go_region_held3 (fun w' => w'.cell? ⟨w.heap.size, 0, none⟩ = some (.int .i64 xt) ∧ w'.cell? ⟨w.heap.size, 1, none⟩ = some (.int .i64 xb) ∧ w'.cell? ⟨w.heap.size + 1, 0, none⟩ = some (.int .i64 yt) ∧ w'.cell? ⟨w.heap.size + 1, 1, none⟩ = some (.int .i64 yb))
    (first
      | go_keep
      | (go_split_ands; exact kept4 hb4 (by assumption) (by assumption) (by assumption) (by assumption))
      | (go_split_ands; exact kept4 hb3 (by assumption) (by assumption) (by assumption) (by assumption)))
    (first
      | (go_at_call 142; refine (opposite_any yt yb _ (by omega) (by omega)).mono ?_; rintro e w3 ⟨rfl, hb3⟩; obtain ⟨z35, z36, z37, z38⟩ := keptR hb3 (by exact z25) (by exact z26) (by exact z27) (by exact z28))
      | (go_at_call 219; refine (HC.out _).mono ?_; rintro e w4 ⟨T, B, ok, rfl, hb4, ho, hv⟩; obtain ⟨y5, y6, y7, y8⟩ := keptR hb4 (by exact z35) (by exact z36) (by exact z37) (by exact z38)))
  have HB1 := Lib.hid ((HB0.out.drew.trans (hb3.mono HB0.out.size)).trans (hb4.mono (Nat.le_trans HB0.out.size hb3.size))); have HO := Lib.hid ho; have HV := Lib.hid hv
  clear hb3 hb4 ho hv
  go_wp2
  exact bodyPost_ret (v := .tuple #[.agg #[.int .i64 T, .int .i64 B], .bool ok]) (by simp [results, Tryz.results193, go_sem, y5, y6]) rfl ⟨T, B, ok, rfl, HB1.out.setCell (by first | (simp; done) | (simp; omega)) _ |>.setCell (by first | (simp; done) | (simp; omega)) _, HO.out, HV.out⟩

set_option maxRecDepth 100000 in
set_option maxHeartbeats 4000000 in
theorem calculated_5 (s : ByteArray) (xt xb yt yb : Int) (w : World) (v1 : vB xt xb = true) (v2 : vB yt yb = true) (hs : s.toList = [42]) :
    Calls Tryz.prog 193 #[.string s, .agg #[.int .i64 xt, .int .i64 xb], .agg #[.int .i64 yt, .int .i64 yb]] w (CalD (numK 5 xt xb yt yb) w) := by
  have e3 : ¬ s.toList = [43] := by rw [hs]; decide
  have e4 : ¬ s.toList = [45] := by rw [hs]; decide
  have e6 : ¬ s.toList = [47] := by rw [hs]; decide
  have e7 : ¬ s.toList = [37] := by rw [hs]; decide
  have HC := Lib.hid (fun w' => mul_cal xt xb yt yb w' v1 v2)
  obtain ⟨b1, b2, b3, b4⟩ := vB_bd v2
  have HB0 := Lib.hid ((((Below.refl _ w).alloc (Nat.le_refl _) (.cells #[.int .i64 xt, .int .i64 xb] 94)).alloc (by simp) (.cells #[.int .i64 yt, .int .i64 yb] 94)).alloc (by simp; omega) (.cells #[.int .i64 0, .int .i64 0] 94))
  clear v1 v2
  go_enter Tryz.func193, Tryz.ntmps193
  go_wp2_with fail
  refine (HC.out _).mono ?_
  rintro e w1 ⟨T, B, ok, rfl, hb1, ho, hv⟩
  obtain ⟨y0, y1, y2, y3, y4, y5, y6, y7, y8⟩ : Held3 w1 w.heap.size xt xb yt yb := Held3.keep (by refine ⟨?_, ?_, ?_, ?_, ?_, ?_, ?_, ?_, ?_⟩ <;> simp [go_sem]) hb1
  have HB1 := Lib.hid (HB0.out.trans (hb1.mono (by first | (simp; done) | (simp; omega)))); have HO := Lib.hid ho; have HV := Lib.hid hv
  clear hb1 ho hv
  go_wp2
  exact bodyPost_ret (v := .tuple #[.agg #[.int .i64 T, .int .i64 B], .bool ok]) (by simp [results, Tryz.results193, go_sem, y5, y6]) rfl ⟨T, B, ok, rfl, HB1.out.setCell (by first | (simp; done) | (simp; omega)) _ |>.setCell (by first | (simp; done) | (simp; omega)) _, HO.out, HV.out⟩

set_option maxRecDepth 100000 in
set_option maxHeartbeats 4000000 in
theorem calculated_6 (s : ByteArray) (xt xb yt yb : Int) (w : World) (v1 : vB xt xb = true) (v2 : vB yt yb = true) (hs : s.toList = [47]) :
    Calls Tryz.prog 193 #[.string s, .agg #[.int .i64 xt, .int .i64 xb], .agg #[.int .i64 yt, .int .i64 yb]] w (CalD (numK 6 xt xb yt yb) w) := by
  have e3 : ¬ s.toList = [43] := by rw [hs]; decide
  have e4 : ¬ s.toList = [45] := by rw [hs]; decide
  have e5 : ¬ s.toList = [42] := by rw [hs]; decide
  have e7 : ¬ s.toList = [37] := by rw [hs]; decide
  have HC := Lib.hid (fun w' => div_cal xt xb yt yb w' v1 v2)
  obtain ⟨b1, b2, b3, b4⟩ := vB_bd v2
  have HB0 := Lib.hid ((((Below.refl _ w).alloc (Nat.le_refl _) (.cells #[.int .i64 xt, .int .i64 xb] 94)).alloc (by simp) (.cells #[.int .i64 yt, .int .i64 yb] 94)).alloc (by simp; omega) (.cells #[.int .i64 0, .int .i64 0] 94))
  clear v1 v2
  go_enter Tryz.func193, Tryz.ntmps193
  go_wp2_with fail
  refine (HC.out _).mono ?_
  rintro e w1 ⟨T, B, ok, rfl, hb1, ho, hv⟩
  obtain ⟨y0, y1, y2, y3, y4, y5, y6, y7, y8⟩ : Held3 w1 w.heap.size xt xb yt yb := Held3.keep (by refine ⟨?_, ?_, ?_, ?_, ?_, ?_, ?_, ?_, ?_⟩ <;> simp [go_sem]) hb1
  have HB1 := Lib.hid (HB0.out.trans (hb1.mono (by first | (simp; done) | (simp; omega)))); have HO := Lib.hid ho; have HV := Lib.hid hv
  clear hb1 ho hv
  go_wp2
  exact bodyPost_ret (v := .tuple #[.agg #[.int .i64 T, .int .i64 B], .bool ok]) (by simp [results, Tryz.results193, go_sem, y5, y6]) rfl ⟨T, B, ok, rfl, HB1.out.setCell (by first | (simp; done) | (simp; omega)) _ |>.setCell (by first | (simp; done) | (simp; omega)) _, HO.out, HV.out⟩

set_option maxRecDepth 100000 in
set_option maxHeartbeats 4000000 in
theorem calculated_7 (s : ByteArray) (xt xb yt yb : Int) (w : World) (v1 : vB xt xb = true) (v2 : vB yt yb = true) (hs : s.toList = [37]) :
    Calls Tryz.prog 193 #[.string s, .agg #[.int .i64 xt, .int .i64 xb], .agg #[.int .i64 yt, .int .i64 yb]] w (CalD (numK 7 xt xb yt yb) w) := by
  have e3 : ¬ s.toList = [43] := by rw [hs]; decide
  have e4 : ¬ s.toList = [45] := by rw [hs]; decide
  have e5 : ¬ s.toList = [42] := by rw [hs]; decide
  have e6 : ¬ s.toList = [47] := by rw [hs]; decide
  have HC := Lib.hid (fun w' => rest_any xt xb yt yb w' v1 v2)
  obtain ⟨b1, b2, b3, b4⟩ := vB_bd v2
  have HB0 := Lib.hid ((((Below.refl _ w).alloc (Nat.le_refl _) (.cells #[.int .i64 xt, .int .i64 xb] 94)).alloc (by simp) (.cells #[.int .i64 yt, .int .i64 yb] 94)).alloc (by simp; omega) (.cells #[.int .i64 0, .int .i64 0] 94))
  clear v1 v2
  go_enter Tryz.func193, Tryz.ntmps193
  go_wp2_with fail
  refine (HC.out _).mono ?_
  rintro e w1 ⟨T, B, ok, rfl, hb1, ho, hv⟩
  obtain ⟨y0, y1, y2, y3, y4, y5, y6, y7, y8⟩ : Held3 w1 w.heap.size xt xb yt yb := Held3.keep (by refine ⟨?_, ?_, ?_, ?_, ?_, ?_, ?_, ?_, ?_⟩ <;> simp [go_sem]) hb1
  have HB1 := Lib.hid (HB0.out.trans (hb1.mono (by first | (simp; done) | (simp; omega)))); have HO := Lib.hid ho; have HV := Lib.hid hv
  clear hb1 ho hv
  go_wp2
  exact bodyPost_ret (v := .tuple #[.agg #[.int .i64 T, .int .i64 B], .bool ok]) (by simp [results, Tryz.results193, go_sem, y5, y6]) rfl ⟨T, B, ok, rfl, HB1.out.setCell (by first | (simp; done) | (simp; omega)) _ |>.setCell (by first | (simp; done) | (simp; omega)) _, HO.out, HV.out⟩

set_option maxRecDepth 100000 in
set_option maxHeartbeats 4000000 in
theorem number_8 {S : Nat → Prop} (s : ByteArray) (xt xb yt yb : Int) (w : World) (v1 : vB xt xb = true) (v2 : vB yt yb = true) (hs : s.toList = [60]) (htab : Tab w) :
    Calls Tryz.prog 163 #[.string s, .agg #[.int .i64 xt, .int .i64 xb], .agg #[.int .i64 yt, .int .i64 yb]] w (Res S (numK 8 xt xb yt yb) w) := by
  have e9 : ¬ s.toList = [60, 61] := by rw [hs]; decide
  have e10 : ¬ s.toList = [62] := by rw [hs]; decide
  have e11 : ¬ s.toList = [62, 61] := by rw [hs]; decide
  have HC := Lib.hid (fun w' => cmp_impl xt xb yt yb w')
  rw [v1, v2, show (true && true) = true from rfl, show cmpF true (xt * yb) (yt * xb) = cmpI (xt * yb) (yt * xb) from rfl] at HC
  have h3 := cmpI_3 (xt * yb) (yt * xb)
  have HN := Lib.hid (show ∀ c, cmpI (xt * yb) (yt * xb) = c → numK 8 xt xb yt yb = some (truV (decide (c < 0))) from fun c hc => by subst hc; simp [numK])
  have HN := Lib.hid (HN.out _ rfl)
  have HBX := Lib.hid (((Below.refl w.heap.size w).alloc (Nat.le_refl _) (.cells #[.int .i64 xt, .int .i64 xb] 94)).alloc (by simp) (.cells #[.int .i64 yt, .int .i64 yb] 94))
  generalize cmpI (xt * yb) (yt * xb) = c at HC h3 HN
  have HT := Lib.hid htab
  have htru := conc_truth
  clear v1 v2 htab
  go_enter Tryz.func163, Tryz.ntmps163
  go_wp2_with fail
  refine (HC.out _).mono ?_
  rintro e w1 ⟨rfl, hb1⟩
  have HB1 := Lib.hid (HBX.out.trans (hb1.mono HBX.out.size)); clear hb1
  rcases h3 with rfl | rfl | rfl
  · go_wp2
    go_ret
    exact Res.tru HB1.out (HT.out.keep HB1.out) _ HN.out
  · go_wp2
    go_ret
    exact Res.tru HB1.out (HT.out.keep HB1.out) _ HN.out
  · go_wp2
    go_ret
    exact Res.tru HB1.out (HT.out.keep HB1.out) _ HN.out

set_option maxRecDepth 100000 in
set_option maxHeartbeats 4000000 in
theorem number_9 {S : Nat → Prop} (s : ByteArray) (xt xb yt yb : Int) (w : World) (v1 : vB xt xb = true) (v2 : vB yt yb = true) (hs : s.toList = [60, 61]) (htab : Tab w) :
    Calls Tryz.prog 163 #[.string s, .agg #[.int .i64 xt, .int .i64 xb], .agg #[.int .i64 yt, .int .i64 yb]] w (Res S (numK 9 xt xb yt yb) w) := by
  have e8 : ¬ s.toList = [60] := by rw [hs]; decide
  have e10 : ¬ s.toList = [62] := by rw [hs]; decide
  have e11 : ¬ s.toList = [62, 61] := by rw [hs]; decide
  have HC := Lib.hid (fun w' => cmp_impl xt xb yt yb w')
  rw [v1, v2, show (true && true) = true from rfl, show cmpF true (xt * yb) (yt * xb) = cmpI (xt * yb) (yt * xb) from rfl] at HC
  have h3 := cmpI_3 (xt * yb) (yt * xb)
  have HN := Lib.hid (show ∀ c, cmpI (xt * yb) (yt * xb) = c → numK 9 xt xb yt yb = some (truV (decide (c ≤ 0))) from fun c hc => by subst hc; simp [numK])
  have HN := Lib.hid (HN.out _ rfl)
  have HBX := Lib.hid (((Below.refl w.heap.size w).alloc (Nat.le_refl _) (.cells #[.int .i64 xt, .int .i64 xb] 94)).alloc (by simp) (.cells #[.int .i64 yt, .int .i64 yb] 94))
  generalize cmpI (xt * yb) (yt * xb) = c at HC h3 HN
  have HT := Lib.hid htab
  have htru := conc_truth
  clear v1 v2 htab
  go_enter Tryz.func163, Tryz.ntmps163
  go_wp2_with fail
  refine (HC.out _).mono ?_
  rintro e w1 ⟨rfl, hb1⟩
  have HB1 := Lib.hid (HBX.out.trans (hb1.mono HBX.out.size)); clear hb1
  rcases h3 with rfl | rfl | rfl
  · go_wp2
    go_ret
    exact Res.tru HB1.out (HT.out.keep HB1.out) _ HN.out
  · go_wp2
    go_ret
    exact Res.tru HB1.out (HT.out.keep HB1.out) _ HN.out
  · go_wp2
    go_ret
    exact Res.tru HB1.out (HT.out.keep HB1.out) _ HN.out

set_option maxRecDepth 100000 in
set_option maxHeartbeats 4000000 in
theorem number_10 {S : Nat → Prop} (s : ByteArray) (xt xb yt yb : Int) (w : World) (v1 : vB xt xb = true) (v2 : vB yt yb = true) (hs : s.toList = [62]) (htab : Tab w) :
    Calls Tryz.prog 163 #[.string s, .agg #[.int .i64 xt, .int .i64 xb], .agg #[.int .i64 yt, .int .i64 yb]] w (Res S (numK 10 xt xb yt yb) w) := by
  have e8 : ¬ s.toList = [60] := by rw [hs]; decide
  have e9 : ¬ s.toList = [60, 61] := by rw [hs]; decide
  have e11 : ¬ s.toList = [62, 61] := by rw [hs]; decide
  have HC := Lib.hid (fun w' => cmp_impl xt xb yt yb w')
  rw [v1, v2, show (true && true) = true from rfl, show cmpF true (xt * yb) (yt * xb) = cmpI (xt * yb) (yt * xb) from rfl] at HC
  have h3 := cmpI_3 (xt * yb) (yt * xb)
  have HN := Lib.hid (show ∀ c, cmpI (xt * yb) (yt * xb) = c → numK 10 xt xb yt yb = some (truV (decide (0 < c))) from fun c hc => by subst hc; simp [numK])
  have HN := Lib.hid (HN.out _ rfl)
  have HBX := Lib.hid (((Below.refl w.heap.size w).alloc (Nat.le_refl _) (.cells #[.int .i64 xt, .int .i64 xb] 94)).alloc (by simp) (.cells #[.int .i64 yt, .int .i64 yb] 94))
  generalize cmpI (xt * yb) (yt * xb) = c at HC h3 HN
  have HT := Lib.hid htab
  have htru := conc_truth
  clear v1 v2 htab
  go_enter Tryz.func163, Tryz.ntmps163
  go_wp2_with fail
  refine (HC.out _).mono ?_
  rintro e w1 ⟨rfl, hb1⟩
  have HB1 := Lib.hid (HBX.out.trans (hb1.mono HBX.out.size)); clear hb1
  rcases h3 with rfl | rfl | rfl
  · go_wp2
    go_ret
    exact Res.tru HB1.out (HT.out.keep HB1.out) _ HN.out
  · go_wp2
    go_ret
    exact Res.tru HB1.out (HT.out.keep HB1.out) _ HN.out
  · go_wp2
    go_ret
    exact Res.tru HB1.out (HT.out.keep HB1.out) _ HN.out

set_option maxRecDepth 100000 in
set_option maxHeartbeats 4000000 in
theorem number_11 {S : Nat → Prop} (s : ByteArray) (xt xb yt yb : Int) (w : World) (v1 : vB xt xb = true) (v2 : vB yt yb = true) (hs : s.toList = [62, 61]) (htab : Tab w) :
    Calls Tryz.prog 163 #[.string s, .agg #[.int .i64 xt, .int .i64 xb], .agg #[.int .i64 yt, .int .i64 yb]] w (Res S (numK 11 xt xb yt yb) w) := by
  have e8 : ¬ s.toList = [60] := by rw [hs]; decide
  have e9 : ¬ s.toList = [60, 61] := by rw [hs]; decide
  have e10 : ¬ s.toList = [62] := by rw [hs]; decide
  have HC := Lib.hid (fun w' => cmp_impl xt xb yt yb w')
  rw [v1, v2, show (true && true) = true from rfl, show cmpF true (xt * yb) (yt * xb) = cmpI (xt * yb) (yt * xb) from rfl] at HC
  have h3 := cmpI_3 (xt * yb) (yt * xb)
  have HN := Lib.hid (show ∀ c, cmpI (xt * yb) (yt * xb) = c → numK 11 xt xb yt yb = some (truV (decide (0 ≤ c))) from fun c hc => by subst hc; simp [numK])
  have HN := Lib.hid (HN.out _ rfl)
  have HBX := Lib.hid (((Below.refl w.heap.size w).alloc (Nat.le_refl _) (.cells #[.int .i64 xt, .int .i64 xb] 94)).alloc (by simp) (.cells #[.int .i64 yt, .int .i64 yb] 94))
  generalize cmpI (xt * yb) (yt * xb) = c at HC h3 HN
  have HT := Lib.hid htab
  have htru := conc_truth
  clear v1 v2 htab
  go_enter Tryz.func163, Tryz.ntmps163
  go_wp2_with fail
  refine (HC.out _).mono ?_
  rintro e w1 ⟨rfl, hb1⟩
  have HB1 := Lib.hid (HBX.out.trans (hb1.mono HBX.out.size)); clear hb1
  rcases h3 with rfl | rfl | rfl
  · go_wp2
    go_ret
    exact Res.tru HB1.out (HT.out.keep HB1.out) _ HN.out
  · go_wp2
    go_ret
    exact Res.tru HB1.out (HT.out.keep HB1.out) _ HN.out
  · go_wp2
    go_ret
    exact Res.tru HB1.out (HT.out.keep HB1.out) _ HN.out

set_option maxRecDepth 100000 in
set_option maxHeartbeats 4000000 in
theorem number_cal {S : Nat → Prop} (k : Int) (s : ByteArray) (xt xb yt yb : Int) (w : World) (v1 : vB xt xb = true) (v2 : vB yt yb = true) (e8 : ¬ s.toList = [60]) (e9 : ¬ s.toList = [60, 61]) (e10 : ¬ s.toList = [62]) (e11 : ¬ s.toList = [62, 61]) (htab : Tab w)
    (hc : ∀ w', Calls Tryz.prog 193 #[.string s, .agg #[.int .i64 xt, .int .i64 xb], .agg #[.int .i64 yt, .int .i64 yb]] w' (CalD (numK k xt xb yt yb) w')) :
    Calls Tryz.prog 163 #[.string s, .agg #[.int .i64 xt, .int .i64 xb], .agg #[.int .i64 yt, .int .i64 yb]] w (Res S (numK k xt xb yt yb) w) := by
  have HC := Lib.hid (fun w' => cmp_impl xt xb yt yb w')
  have HBX := Lib.hid (((Below.refl w.heap.size w).alloc (Nat.le_refl _) (.cells #[.int .i64 xt, .int .i64 xb] 94)).alloc (by simp) (.cells #[.int .i64 yt, .int .i64 yb] 94))
  generalize cmpF (vB xt xb && vB yt yb) (xt * yb) (yt * xb) = c at HC
  have HCC := Lib.hid hc
  have e8b : (s.toList == [60]) = false := beq_eq_false_iff_ne.mpr e8
  have e9b : (s.toList == [60, 61]) = false := beq_eq_false_iff_ne.mpr e9
  have e10b : (s.toList == [62]) = false := beq_eq_false_iff_ne.mpr e10
  have e11b : (s.toList == [62, 61]) = false := beq_eq_false_iff_ne.mpr e11
  have HT := Lib.hid htab
  have hnum := conc_num
  clear v1 v2 hc htab e8 e9 e10 e11
  go_enter Tryz.func163, Tryz.ntmps163
  go_wp2_with fail
  refine (HC.out _).mono ?_
  rintro e w1 ⟨rfl, hb1⟩
  have HB1 := Lib.hid (HBX.out.trans (hb1.mono HBX.out.size))
  obtain ⟨z0, z1, z2, z3⟩ : Held2 w1 w.heap.size xt xb yt yb := Held2.keep (by refine ⟨?_, ?_, ?_, ?_⟩ <;> simp [go_sem]) hb1
  clear hb1
  go_wp2_with fail
  refine (HCC.out _).mono ?_
  rintro e w2 ⟨T, B, ok, rfl, hb2, ho, hv⟩
  have HB2 := Lib.hid (HB1.out.trans (hb2.mono HB1.out.size))
  cases ok with
  | false =>
    have HN := Lib.hid (show numK k xt xb yt yb = none by rw [ho]; rfl)
    clear hb2 ho hv
    go_wp2
    go_ret
    exact Res.nil (by first | exact HB2.out | exact HB2.out.alloc HB2.out.size _) HN.out
  | true =>
    have HN := Lib.hid (show numK k xt xb yt yb = some (numV T B) by rw [ho]; rfl)
    have HV := Lib.hid (hv rfl)
    have HT2 := Lib.hid (HT.out.keep HB2.out)
    clear hb2 ho hv
    go_wp2
    go_ret
    first | exact Res.num HB2.out HT2.out HV.out HN.out | exact Res.num (HB2.out.alloc HB2.out.size _) (HT2.out.al _) HV.out HN.out

theorem number_any {S : Nat → Prop} (k : Int) (s : ByteArray) (xt xb yt yb : Int) (w : World) (v1 : vB xt xb = true) (v2 : vB yt yb = true) (hk : signW s.data.toList = k) (h3 : 3 ≤ k) (h11 : k ≤ 11) (htab : Tab w) :
    Calls Tryz.prog 163 #[.string s, .agg #[.int .i64 xt, .int .i64 xb], .agg #[.int .i64 yt, .int .i64 yb]] w (Res S (numK k xt xb yt yb) w) := by
  have hl : s.toList = s.data.toList := ByteArray.toList_eq ..
  obtain ⟨w1, w2, w3, w4, w5, w6, w7, w8, w9, w10, w11⟩ := signW_is hk
  by_cases k3 : k = 3
  · subst k3
    have hs := hl.trans (w3 rfl)
    exact number_cal 3 s xt xb yt yb w v1 v2 (by rw [hs]; decide) (by rw [hs]; decide) (by rw [hs]; decide) (by rw [hs]; decide) htab (fun w' => calculated_3 s xt xb yt yb w' v1 v2 hs)
  by_cases k4 : k = 4
  · subst k4
    have hs := hl.trans (w4 rfl)
    exact number_cal 4 s xt xb yt yb w v1 v2 (by rw [hs]; decide) (by rw [hs]; decide) (by rw [hs]; decide) (by rw [hs]; decide) htab (fun w' => calculated_4 s xt xb yt yb w' v1 v2 hs)
  by_cases k5 : k = 5
  · subst k5
    have hs := hl.trans (w5 rfl)
    exact number_cal 5 s xt xb yt yb w v1 v2 (by rw [hs]; decide) (by rw [hs]; decide) (by rw [hs]; decide) (by rw [hs]; decide) htab (fun w' => calculated_5 s xt xb yt yb w' v1 v2 hs)
  by_cases k6 : k = 6
  · subst k6
    have hs := hl.trans (w6 rfl)
    exact number_cal 6 s xt xb yt yb w v1 v2 (by rw [hs]; decide) (by rw [hs]; decide) (by rw [hs]; decide) (by rw [hs]; decide) htab (fun w' => calculated_6 s xt xb yt yb w' v1 v2 hs)
  by_cases k7 : k = 7
  · subst k7
    have hs := hl.trans (w7 rfl)
    exact number_cal 7 s xt xb yt yb w v1 v2 (by rw [hs]; decide) (by rw [hs]; decide) (by rw [hs]; decide) (by rw [hs]; decide) htab (fun w' => calculated_7 s xt xb yt yb w' v1 v2 hs)
  by_cases k8 : k = 8
  · subst k8
    exact number_8 s xt xb yt yb w v1 v2 (hl.trans (w8 rfl)) htab
  by_cases k9 : k = 9
  · subst k9
    exact number_9 s xt xb yt yb w v1 v2 (hl.trans (w9 rfl)) htab
  by_cases k10 : k = 10
  · subst k10
    exact number_10 s xt xb yt yb w v1 v2 (hl.trans (w10 rfl)) htab
  obtain rfl : k = 11 := by omega
  exact number_11 s xt xb yt yb w v1 v2 (hl.trans (w11 rfl)) htab

end Go.Proofs.YtpcaciogglllbaaGreatDoor
