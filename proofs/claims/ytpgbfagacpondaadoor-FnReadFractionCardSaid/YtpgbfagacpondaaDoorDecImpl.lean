/-
  impl.DecimalOf, by its contract.
-/
import Derived.Test.YtpgbfagacpondaaDoorFracRed
import Derived.Test.YtpgbfagacpondaaDoorDecPlain
import Derived.Test.YtpgbfagacpondaaDoorDigits
import Derived.Test.YtpgbfagacpondaaDoorCut
namespace Go.Proofs.YtpgbfagacpondaaDoor
open Go.RowKit
set_option linter.unusedVariables false

/-- Two blocks: N, an empty answer, and B, a fraction. -/
def TwoF (w' : World) (N B : Nat) (x y : Int) : Prop :=
  N < B ∧ B < w'.heap.size ∧ w'.cell? ⟨N, 0, none⟩ = some (.int .i64 0) ∧ w'.cell? ⟨N, 1, none⟩ = some (.int .i64 0) ∧ w'.frozen? ⟨N, 0, none⟩ = false ∧ w'.frozen? ⟨N, 1, none⟩ = false ∧
  w'.cell? ⟨B, 0, none⟩ = some (.int .i64 x) ∧ w'.cell? ⟨B, 1, none⟩ = some (.int .i64 y) ∧ w'.frozen? ⟨B, 0, none⟩ = false ∧ w'.frozen? ⟨B, 1, none⟩ = false
theorem far_cell {w : World} {b b' o o' : Nat} {u : Value} (h : b ≠ b') : (w.setCell ⟨b, o, none⟩ u).cell? ⟨b', o', none⟩ = w.cell? ⟨b', o', none⟩ ∧ (w.setCell ⟨b, o, none⟩ u).frozen? ⟨b', o', none⟩ = w.frozen? ⟨b', o', none⟩ :=
  ⟨World.cell?_of_block (w := w) (Below.heap_setCell _ _ _ _ (by show b' ≠ b; omega)), World.frozen?_of_block (w := w) (Below.heap_setCell _ _ _ _ (by show b' ≠ b; omega))⟩
theorem TwoF.set {w' : World} {N B : Nat} {x y : Int} (h : TwoF w' N B x y) (u v : Int) : TwoF ((w'.setCell ⟨B, 0, none⟩ (.int .i64 u)).setCell ⟨B, 1, none⟩ (.int .i64 v)) N B u v := by
  obtain ⟨h0, h1, h2, h3, h4, h5, h6, h7, h8, h9⟩ := h
  refine ⟨h0, by simpa [World.setCell] using h1, ?_, ?_, ?_, ?_, ?_, ?_, ?_, ?_⟩
  · rw [(far_cell (by omega)).1, (far_cell (by omega)).1]; exact h2
  · rw [(far_cell (by omega)).1, (far_cell (by omega)).1]; exact h3
  · rw [(far_cell (by omega)).2, (far_cell (by omega)).2]; exact h4
  · rw [(far_cell (by omega)).2, (far_cell (by omega)).2]; exact h5
  · simp [go_sem, h6]
  · simp [go_sem, h7]
  · simp [go_sem, h8]
  · simp [go_sem, h9]
theorem TwoF.keep {W w1 : World} {N B : Nat} {x y : Int} (h : TwoF W N B x y) (hb : Below W.heap.size W w1) : TwoF w1 N B x y := by
  obtain ⟨h0, h1, h2, h3, h4, h5, h6, h7, h8, h9⟩ := h
  obtain ⟨hc, hf⟩ := bcell hb
  have hs := hb.size
  exact ⟨h0, by omega, (hc _ _ (by omega)).trans h2, (hc _ _ (by omega)).trans h3, (hf _ _ (by omega)).trans h4, (hf _ _ (by omega)).trans h5, (hc _ _ (by omega)).trans h6, (hc _ _ (by omega)).trans h7, (hf _ _ (by omega)).trans h8, (hf _ _ (by omega)).trans h9⟩

/-- What stands behind the point, as a text. -/
def behindS (s : ByteArray) : ByteArray := if cutB s 46 = true then cutQ s 46 else ⟨#[48]⟩
theorem cutP_list (s : ByteArray) : (cutP s 46).data.toList = decP s.data.toList := by
  unfold cutP decP; split
  · rfl
  · simp [ByteArray.extract, ByteArray.copySlice]
theorem behind_list (s : ByteArray) : (behindS s).data.toList = decQ s.data.toList := by
  unfold behindS cutB cutQ decQ
  by_cases h : Lib.indexByte s.data.toList 46 < 0
  · simp [h]
  · simp only [h, decide_false, Bool.not_false, if_true, if_false]
    simp [ByteArray.extract, ByteArray.copySlice]
    exact List.take_of_length_le (by rw [List.length_drop, Array.length_toList]; exact Nat.le_refl _)
theorem cutP_size (s : ByteArray) : (cutP s 46).size ≤ s.size := by
  unfold cutP; split
  · exact Nat.le_refl _
  · simp [ByteArray.size_extract]; omega
theorem behind_size (s : ByteArray) : (behindS s).size ≤ s.size + 1 := by
  unfold behindS cutQ; split
  · split
    · show (0 : Nat) ≤ _; omega
    · simp [ByteArray.size_extract]; omega
  · show (1 : Nat) ≤ _; omega

theorem pow_bd {v k : Nat} {x : Int} (h : x = ((v * 10 ^ k : Nat) : Int)) (hv : v < 10000000000) (hk : k ≤ 6) : 0 ≤ x ∧ x ≤ 10000000000000000 := by
  have h1 : 10 ^ k ≤ 1000000 := by have := Nat.pow_le_pow_right (show 0 < 10 by omega) hk; omega
  have h2 : v * 10 ^ k ≤ 10000000000 * 1000000 := Nat.mul_le_mul (by omega) h1
  omega
theorem pow_bd1 {k : Nat} {y : Int} (h : y = ((10 ^ k : Nat) : Int)) (hk : k ≤ 6) : 0 ≤ y ∧ y ≤ 1000000 := by
  have h1 : 10 ^ k ≤ 1000000 := by have := Nat.pow_le_pow_right (show 0 < 10 by omega) hk; omega
  subst h; generalize 10 ^ k = z at *; omega
theorem pow_pos1 {k : Nat} {y : Int} (h : y = ((10 ^ k : Nat) : Int)) : 1 ≤ y := by
  have h1 : 0 < 10 ^ k := Nat.pow_pos (by omega)
  subst h; generalize 10 ^ k = z at *; omega
theorem TwoF.set0 {w' : World} {N B : Nat} {x y : Int} (h : TwoF w' N B x y) (u : Int) : TwoF (w'.setCell ⟨B, 0, none⟩ (.int .i64 u)) N B u y := by
  obtain ⟨h0, h1, h2, h3, h4, h5, h6, h7, h8, h9⟩ := h
  refine ⟨h0, by simpa [World.setCell] using h1, ?_, ?_, ?_, ?_, ?_, ?_, ?_, ?_⟩
  · rw [(far_cell (by omega)).1]; exact h2
  · rw [(far_cell (by omega)).1]; exact h3
  · rw [(far_cell (by omega)).2]; exact h4
  · rw [(far_cell (by omega)).2]; exact h5
  · simp [go_sem, h6]
  · simp [go_sem, h7]
  · simp [go_sem, h8]
  · simp [go_sem, h9]

set_option maxRecDepth 100000 in
set_option maxHeartbeats 4000000 in
theorem decimal_impl_good (s : ByteArray) (w : World) (hs : s.size ≤ 2097152) (hP : dOK (decP s.data.toList) 10 = true) (hQ : dOK (decQ s.data.toList) 6 = true) :
    Calls Tryd.prog 42 #[.string s] w fun e w' => e = fr (mkT (decX s.data.toList) (decY s.data.toList)) (mkB (decX s.data.toList) (decY s.data.toList)) (mkOK (decX s.data.toList) (decY s.data.toList)) ∧ Below w.heap.size w w' := by
  obtain ⟨p1, p2, p3⟩ := (dOK_iff _ _).mp hP
  obtain ⟨r1, r2, r3⟩ := (dOK_iff _ _).mp hQ
  have hvP := valD_bd _ p3 p2
  have hvQ := valD_bd _ r3 (by omega)
  have HOP := Lib.hid hP; have HOQ := Lib.hid hQ
  have HP := Lib.hid (cutP_list s)
  have hz1 := cutP_size s; have hz2 := behind_size s
  have hbl := behind_list s
  have hzb : (behindS s).size = (decQ s.data.toList).length := by rw [← hbl, Array.length_toList]; rfl
  clear hP hQ p3 r3
  by_cases hB : cutB s 46 = true
  · have hbe : behindS s = cutQ s 46 := by simp [behindS, hB]
    rw [hbe] at hz2 hbl hzb
    have HCB := Lib.hid hB; have HQ := Lib.hid hbl; have HZ := Lib.hid hzb
    clear hB hbe hbl hzb
    go_enter Tryd.func42, Tryd.ntmps42
    go_wp2_with fail
    refine (cut_one s 46 _ (by unfold maxLen; omega)).mono ?_
    rintro e w1 ⟨rfl, hb1⟩
    rw [HCB.out]
    have q0 : w1.cell? ⟨w.heap.size, 0, none⟩ = some (.int .i64 0) := by rw [hb1.cell (by simp)]; simp [go_sem]
    have q1 : w1.cell? ⟨w.heap.size, 1, none⟩ = some (.int .i64 0) := by rw [hb1.cell (by simp)]; simp [go_sem]
    have q2 : w1.frozen? ⟨w.heap.size, 0, none⟩ = false := by rw [hb1.frozen (by simp)]; simp [go_sem]
    have q3 : w1.frozen? ⟨w.heap.size, 1, none⟩ = false := by rw [hb1.frozen (by simp)]; simp [go_sem]
    have hN : w.heap.size < w1.heap.size := by have := hb1.size; simp at this; omega
    have HB1 := Lib.hid (((Below.refl _ w).alloc (Nat.le_refl _) _).trans (hb1.mono (by simp))); clear hb1
    go_wp2_with fail
    refine (digitsNumber_any (cutP s 46) 10 _ (by unfold maxLen; omega) (by omega)).mono ?_
    rintro e w' ⟨rfl, rfl⟩
    rw [HP.out]
    go_wp2_with fail
    refine (digitsNumber_any (cutQ s 46) 6 _ (by unfold maxLen; omega) (by omega)).mono ?_
    rintro e w' ⟨rfl, rfl⟩
    rw [HQ.out]
    rw [show dN (decP s.data.toList) 10 = valD (decP s.data.toList) by simp [dN, HOP.out], show dN (decQ s.data.toList) 6 = valD (decQ s.data.toList) by simp [dN, HOQ.out], HOP.out, HOQ.out]
    go_wp2_with fail
    go_loopw [41] (fun i wr => ∃ (k : Nat) (x y : Int), k ≤ (decQ s.data.toList).length ∧ i = .int .i64 (k : Int) ∧ x = ((valD (decP s.data.toList) * 10 ^ k : Nat) : Int) ∧ y = ((10 ^ k : Nat) : Int) ∧ TwoF wr w.heap.size w1.heap.size x y ∧ Below w.heap.size w wr) (fun i _ => (decQ s.data.toList).length - (intOf i).toNat)
    case atStart =>
      refine ⟨0, _, _, Nat.zero_le _, rfl, by rw [Nat.pow_zero, Nat.mul_one], rfl, ?_, HB1.out.alloc HB1.out.size _⟩
      refine ⟨hN, by simp, ?_, ?_, ?_, ?_, by simp [go_sem], by simp [go_sem], by simp [go_sem], by simp [go_sem]⟩
      · simpa [go_sem, hN, Nat.ne_of_lt hN] using q0
      · simpa [go_sem, hN, Nat.ne_of_lt hN] using q1
      · simpa [go_sem, hN, Nat.ne_of_lt hN] using q2
      · simpa [go_sem, hN, Nat.ne_of_lt hN] using q3
    case round =>
      obtain ⟨k, x, y, hk, rfl, hx, hy, hT, hbw⟩ := hrel
      have bx : 0 ≤ x ∧ x ≤ 10000000000000000 := pow_bd hx hvP (by omega)
      have by' : 0 ≤ y ∧ y ≤ 1000000 := pow_bd1 hy (by omega)
      obtain ⟨bx0, bx1⟩ := bx; obtain ⟨by0, by1⟩ := by'
      have HX := Lib.hid hx; have HY := Lib.hid hy; have HT := Lib.hid hT; have HW := Lib.hid hbw
      clear hx hy hT hbw
      obtain ⟨t0, t1, t2, t3, t4, t5, t6, t7, t8, t9⟩ := HT.out
      by_cases hlt : k < (decQ s.data.toList).length
      · have hlt2 : k < (cutQ s 46 : ByteArray).size := by rw [HZ.out]; exact hlt
        go_wp2
        go_roundw
        case rel => exact ⟨k + 1, _, _, by omega, by go_num, by rw [HX.out, Nat.pow_succ, ← Nat.mul_assoc]; go_num, by rw [HY.out, Nat.pow_succ]; go_num, HT.out.set _ _, (HW.out.setCell (by show _ ≤ w1.heap.size; omega) _).setCell (by show _ ≤ w1.heap.size; omega) _⟩
        case measure => simp [intOf]; omega
      · have hlt2 : ¬ k < (cutQ s 46 : ByteArray).size := by rw [HZ.out]; exact hlt
        obtain rfl : k = (decQ s.data.toList).length := by omega
        have HXX : Hid (x + ((valD (decQ s.data.toList) : Nat) : Int) = decX s.data.toList) := by show _ = _; rw [HX.out]; unfold decX; rw [Int.natCast_add]
        have HYY : Hid (y = decY s.data.toList) := HY.out
        have y1 := pow_pos1 HY.out
        go_wp2_with fail
        refine (reduced_any (x + ((valD (decQ s.data.toList) : Nat) : Int)) y _ (by omega) (by omega) (by omega)).mono ?_
        rintro e w2 ⟨rfl, hb2⟩
        have HT2 := Lib.hid ((HT.out.set0 _).keep hb2)
        have HB2 := Lib.hid ((HW.out.setCell (by show _ ≤ w1.heap.size; omega) _).trans (hb2.mono (by have := HW.out.size; simpa [World.setCell] using this)))
        clear hb2 t0 t1 t2 t3 t4 t5 t6 t7 t8 t9
        obtain ⟨u0, u1, u2, u3, u4, u5, u6, u7, u8, u9⟩ := HT2.out
        rw [HXX.out, HYY.out]
        go_wp2
        exact bodyPost_ret (v := .tuple #[.agg #[.int .i64 (mkT (decX s.data.toList) (decY s.data.toList)), .int .i64 (mkB (decX s.data.toList) (decY s.data.toList))], .bool (mkOK (decX s.data.toList) (decY s.data.toList))]) (by simp [results, Tryd.results42, go_sem, u2, u3]) rfl ⟨rfl, (HB2.out.setCell (Nat.le_refl _) _).setCell (Nat.le_refl _) _⟩
  · have hB' := Bool.eq_false_iff.mpr hB
    have hbe : behindS s = ⟨#[48]⟩ := by simp [behindS, hB']
    rw [hbe] at hz2 hbl hzb
    have HCB := Lib.hid hB'; have HQ := Lib.hid hbl; have HZ := Lib.hid hzb
    have hq1 : (decQ s.data.toList).length = 1 := hzb.symm
    clear hB hB' hbe hbl hzb
    have hq2 : (decQ s.data.toList).length ≤ 1 := by omega
    have hq3 : 1 ≤ (decQ s.data.toList).length := by omega
    clear hq1
    go_enter Tryd.func42, Tryd.ntmps42
    go_wp2_with fail
    refine (cut_one s 46 _ (by unfold maxLen; omega)).mono ?_
    rintro e w1 ⟨rfl, hb1⟩
    rw [HCB.out]
    have q0 : w1.cell? ⟨w.heap.size, 0, none⟩ = some (.int .i64 0) := by rw [hb1.cell (by simp)]; simp [go_sem]
    have q1 : w1.cell? ⟨w.heap.size, 1, none⟩ = some (.int .i64 0) := by rw [hb1.cell (by simp)]; simp [go_sem]
    have q2 : w1.frozen? ⟨w.heap.size, 0, none⟩ = false := by rw [hb1.frozen (by simp)]; simp [go_sem]
    have q3 : w1.frozen? ⟨w.heap.size, 1, none⟩ = false := by rw [hb1.frozen (by simp)]; simp [go_sem]
    have hN : w.heap.size < w1.heap.size := by have := hb1.size; simp at this; omega
    have HB1 := Lib.hid (((Below.refl _ w).alloc (Nat.le_refl _) _).trans (hb1.mono (by simp))); clear hb1
    go_wp2_with fail
    refine (digitsNumber_any (cutP s 46) 10 _ (by unfold maxLen; omega) (by omega)).mono ?_
    rintro e w' ⟨rfl, rfl⟩
    rw [HP.out]
    go_wp2_with fail
    refine (digitsNumber_any ⟨#[48]⟩ 6 _ (by unfold maxLen; omega) (by omega)).mono ?_
    rintro e w' ⟨rfl, rfl⟩
    rw [HQ.out]
    rw [show dN (decP s.data.toList) 10 = valD (decP s.data.toList) by simp [dN, HOP.out], show dN (decQ s.data.toList) 6 = valD (decQ s.data.toList) by simp [dN, HOQ.out], HOP.out, HOQ.out]
    go_wp2_with fail
    go_loopw [41] (fun i wr => ∃ (k : Nat) (x y : Int), k ≤ (decQ s.data.toList).length ∧ i = .int .i64 (k : Int) ∧ x = ((valD (decP s.data.toList) * 10 ^ k : Nat) : Int) ∧ y = ((10 ^ k : Nat) : Int) ∧ TwoF wr w.heap.size w1.heap.size x y ∧ Below w.heap.size w wr) (fun i _ => (decQ s.data.toList).length - (intOf i).toNat)
    case atStart =>
      refine ⟨0, _, _, Nat.zero_le _, rfl, by rw [Nat.pow_zero, Nat.mul_one], rfl, ?_, HB1.out.alloc HB1.out.size _⟩
      refine ⟨hN, by simp, ?_, ?_, ?_, ?_, by simp [go_sem], by simp [go_sem], by simp [go_sem], by simp [go_sem]⟩
      · simpa [go_sem, hN, Nat.ne_of_lt hN] using q0
      · simpa [go_sem, hN, Nat.ne_of_lt hN] using q1
      · simpa [go_sem, hN, Nat.ne_of_lt hN] using q2
      · simpa [go_sem, hN, Nat.ne_of_lt hN] using q3
    case round =>
      obtain ⟨k, x, y, hk, rfl, hx, hy, hT, hbw⟩ := hrel
      have bx : 0 ≤ x ∧ x ≤ 10000000000000000 := pow_bd hx hvP (by omega)
      have by' : 0 ≤ y ∧ y ≤ 1000000 := pow_bd1 hy (by omega)
      obtain ⟨bx0, bx1⟩ := bx; obtain ⟨by0, by1⟩ := by'
      have HX := Lib.hid hx; have HY := Lib.hid hy; have HT := Lib.hid hT; have HW := Lib.hid hbw
      clear hx hy hT hbw
      obtain ⟨t0, t1, t2, t3, t4, t5, t6, t7, t8, t9⟩ := HT.out
      by_cases hlt : k < (decQ s.data.toList).length
      · have hlt2 : k < 1 := by omega
        go_wp2
        go_roundw
        case rel => exact ⟨k + 1, _, _, by omega, by go_num, by rw [HX.out, Nat.pow_succ, ← Nat.mul_assoc]; go_num, by rw [HY.out, Nat.pow_succ]; go_num, HT.out.set _ _, (HW.out.setCell (by show _ ≤ w1.heap.size; omega) _).setCell (by show _ ≤ w1.heap.size; omega) _⟩
        case measure => simp [intOf]; omega
      · have hlt2 : ¬ k < 1 := by omega
        obtain rfl : k = (decQ s.data.toList).length := by omega
        have HXX : Hid (x + ((valD (decQ s.data.toList) : Nat) : Int) = decX s.data.toList) := by show _ = _; rw [HX.out]; unfold decX; rw [Int.natCast_add]
        have HYY : Hid (y = decY s.data.toList) := HY.out
        have y1 := pow_pos1 HY.out
        go_wp2_with fail
        refine (reduced_any (x + ((valD (decQ s.data.toList) : Nat) : Int)) y _ (by omega) (by omega) (by omega)).mono ?_
        rintro e w2 ⟨rfl, hb2⟩
        have HT2 := Lib.hid ((HT.out.set0 _).keep hb2)
        have HB2 := Lib.hid ((HW.out.setCell (by show _ ≤ w1.heap.size; omega) _).trans (hb2.mono (by have := HW.out.size; simpa [World.setCell] using this)))
        clear hb2 t0 t1 t2 t3 t4 t5 t6 t7 t8 t9
        obtain ⟨u0, u1, u2, u3, u4, u5, u6, u7, u8, u9⟩ := HT2.out
        rw [HXX.out, HYY.out]
        go_wp2
        exact bodyPost_ret (v := .tuple #[.agg #[.int .i64 (mkT (decX s.data.toList) (decY s.data.toList)), .int .i64 (mkB (decX s.data.toList) (decY s.data.toList))], .bool (mkOK (decX s.data.toList) (decY s.data.toList))]) (by simp [results, Tryd.results42, go_sem, u2, u3]) rfl ⟨rfl, (HB2.out.setCell (Nat.le_refl _) _).setCell (Nat.le_refl _) _⟩

set_option maxRecDepth 100000 in
set_option maxHeartbeats 4000000 in
theorem decimal_impl_bad (s : ByteArray) (w : World) (hs : s.size ≤ 2097152) (h : dOK (decP s.data.toList) 10 = false ∨ (dOK (decP s.data.toList) 10 = true ∧ dOK (decQ s.data.toList) 6 = false)) :
    Calls Tryd.prog 42 #[.string s] w fun e w' => e = fr 0 0 false ∧ Below w.heap.size w w' := by
  have HP := Lib.hid (cutP_list s)
  have hz1 := cutP_size s; have hz2 := behind_size s
  have hbl := behind_list s
  by_cases hB : cutB s 46 = true
  · have hbe : behindS s = cutQ s 46 := by simp [behindS, hB]
    rw [hbe] at hz2 hbl
    have HCB := Lib.hid hB; have HQ := Lib.hid hbl
    clear hB hbe hbl
    rcases h with h | ⟨h, h'⟩
    · have HOP := Lib.hid h; clear h
      go_enter Tryd.func42, Tryd.ntmps42
      go_wp2_with fail
      refine (cut_one s 46 _ (by unfold maxLen; omega)).mono ?_
      rintro e w1 ⟨rfl, hb1⟩
      rw [HCB.out]
      have q0 : w1.cell? ⟨w.heap.size, 0, none⟩ = some (.int .i64 0) := by rw [hb1.cell (by simp)]; simp [go_sem]
      have q1 : w1.cell? ⟨w.heap.size, 1, none⟩ = some (.int .i64 0) := by rw [hb1.cell (by simp)]; simp [go_sem]
      have q2 : w1.frozen? ⟨w.heap.size, 0, none⟩ = false := by rw [hb1.frozen (by simp)]; simp [go_sem]
      have q3 : w1.frozen? ⟨w.heap.size, 1, none⟩ = false := by rw [hb1.frozen (by simp)]; simp [go_sem]
      have hN : w.heap.size < w1.heap.size := by have := hb1.size; simp at this; omega
      have HB1 := Lib.hid (((Below.refl _ w).alloc (Nat.le_refl _) _).trans (hb1.mono (by simp))); clear hb1
      go_wp2_with fail
      refine (digitsNumber_any (cutP s 46) 10 _ (by unfold maxLen; omega) (by omega)).mono ?_
      rintro e w' ⟨rfl, rfl⟩
      rw [HP.out]
      go_wp2_with fail
      refine (digitsNumber_any (cutQ s 46) 6 _ (by unfold maxLen; omega) (by omega)).mono ?_
      rintro e w' ⟨rfl, rfl⟩
      rw [HQ.out]
      rw [HOP.out]
      generalize dN (decP s.data.toList) 10 = n1
      generalize dN (decQ s.data.toList) 6 = n2
      generalize dOK (decQ s.data.toList) 6 = o2
      go_wp2
      exact bodyPost_ret (v := .tuple #[.agg #[.int .i64 0, .int .i64 0], .bool false]) (by simp [results, Tryd.results42, go_sem, q0, q1]) rfl ⟨rfl, (HB1.out.setCell (Nat.le_refl _) _).setCell (Nat.le_refl _) _⟩
    · have HOP := Lib.hid h; have HOQ := Lib.hid h'; clear h h'
      go_enter Tryd.func42, Tryd.ntmps42
      go_wp2_with fail
      refine (cut_one s 46 _ (by unfold maxLen; omega)).mono ?_
      rintro e w1 ⟨rfl, hb1⟩
      rw [HCB.out]
      have q0 : w1.cell? ⟨w.heap.size, 0, none⟩ = some (.int .i64 0) := by rw [hb1.cell (by simp)]; simp [go_sem]
      have q1 : w1.cell? ⟨w.heap.size, 1, none⟩ = some (.int .i64 0) := by rw [hb1.cell (by simp)]; simp [go_sem]
      have q2 : w1.frozen? ⟨w.heap.size, 0, none⟩ = false := by rw [hb1.frozen (by simp)]; simp [go_sem]
      have q3 : w1.frozen? ⟨w.heap.size, 1, none⟩ = false := by rw [hb1.frozen (by simp)]; simp [go_sem]
      have hN : w.heap.size < w1.heap.size := by have := hb1.size; simp at this; omega
      have HB1 := Lib.hid (((Below.refl _ w).alloc (Nat.le_refl _) _).trans (hb1.mono (by simp))); clear hb1
      go_wp2_with fail
      refine (digitsNumber_any (cutP s 46) 10 _ (by unfold maxLen; omega) (by omega)).mono ?_
      rintro e w' ⟨rfl, rfl⟩
      rw [HP.out]
      go_wp2_with fail
      refine (digitsNumber_any (cutQ s 46) 6 _ (by unfold maxLen; omega) (by omega)).mono ?_
      rintro e w' ⟨rfl, rfl⟩
      rw [HQ.out]
      rw [HOP.out, HOQ.out]
      generalize dN (decP s.data.toList) 10 = n1
      generalize dN (decQ s.data.toList) 6 = n2
      go_wp2
      exact bodyPost_ret (v := .tuple #[.agg #[.int .i64 0, .int .i64 0], .bool false]) (by simp [results, Tryd.results42, go_sem, q0, q1]) rfl ⟨rfl, (HB1.out.setCell (Nat.le_refl _) _).setCell (Nat.le_refl _) _⟩
  · have hB' := Bool.eq_false_iff.mpr hB
    have hbe : behindS s = ⟨#[48]⟩ := by simp [behindS, hB']
    rw [hbe] at hz2 hbl
    have HCB := Lib.hid hB'; have HQ := Lib.hid hbl
    clear hB hB' hbe hbl
    rcases h with h | ⟨h, h'⟩
    · have HOP := Lib.hid h; clear h
      go_enter Tryd.func42, Tryd.ntmps42
      go_wp2_with fail
      refine (cut_one s 46 _ (by unfold maxLen; omega)).mono ?_
      rintro e w1 ⟨rfl, hb1⟩
      rw [HCB.out]
      have q0 : w1.cell? ⟨w.heap.size, 0, none⟩ = some (.int .i64 0) := by rw [hb1.cell (by simp)]; simp [go_sem]
      have q1 : w1.cell? ⟨w.heap.size, 1, none⟩ = some (.int .i64 0) := by rw [hb1.cell (by simp)]; simp [go_sem]
      have q2 : w1.frozen? ⟨w.heap.size, 0, none⟩ = false := by rw [hb1.frozen (by simp)]; simp [go_sem]
      have q3 : w1.frozen? ⟨w.heap.size, 1, none⟩ = false := by rw [hb1.frozen (by simp)]; simp [go_sem]
      have hN : w.heap.size < w1.heap.size := by have := hb1.size; simp at this; omega
      have HB1 := Lib.hid (((Below.refl _ w).alloc (Nat.le_refl _) _).trans (hb1.mono (by simp))); clear hb1
      go_wp2_with fail
      refine (digitsNumber_any (cutP s 46) 10 _ (by unfold maxLen; omega) (by omega)).mono ?_
      rintro e w' ⟨rfl, rfl⟩
      rw [HP.out]
      go_wp2_with fail
      refine (digitsNumber_any ⟨#[48]⟩ 6 _ (by unfold maxLen; omega) (by omega)).mono ?_
      rintro e w' ⟨rfl, rfl⟩
      rw [HQ.out]
      rw [HOP.out]
      generalize dN (decP s.data.toList) 10 = n1
      generalize dN (decQ s.data.toList) 6 = n2
      generalize dOK (decQ s.data.toList) 6 = o2
      go_wp2
      exact bodyPost_ret (v := .tuple #[.agg #[.int .i64 0, .int .i64 0], .bool false]) (by simp [results, Tryd.results42, go_sem, q0, q1]) rfl ⟨rfl, (HB1.out.setCell (Nat.le_refl _) _).setCell (Nat.le_refl _) _⟩
    · have HOP := Lib.hid h; have HOQ := Lib.hid h'; clear h h'
      go_enter Tryd.func42, Tryd.ntmps42
      go_wp2_with fail
      refine (cut_one s 46 _ (by unfold maxLen; omega)).mono ?_
      rintro e w1 ⟨rfl, hb1⟩
      rw [HCB.out]
      have q0 : w1.cell? ⟨w.heap.size, 0, none⟩ = some (.int .i64 0) := by rw [hb1.cell (by simp)]; simp [go_sem]
      have q1 : w1.cell? ⟨w.heap.size, 1, none⟩ = some (.int .i64 0) := by rw [hb1.cell (by simp)]; simp [go_sem]
      have q2 : w1.frozen? ⟨w.heap.size, 0, none⟩ = false := by rw [hb1.frozen (by simp)]; simp [go_sem]
      have q3 : w1.frozen? ⟨w.heap.size, 1, none⟩ = false := by rw [hb1.frozen (by simp)]; simp [go_sem]
      have hN : w.heap.size < w1.heap.size := by have := hb1.size; simp at this; omega
      have HB1 := Lib.hid (((Below.refl _ w).alloc (Nat.le_refl _) _).trans (hb1.mono (by simp))); clear hb1
      go_wp2_with fail
      refine (digitsNumber_any (cutP s 46) 10 _ (by unfold maxLen; omega) (by omega)).mono ?_
      rintro e w' ⟨rfl, rfl⟩
      rw [HP.out]
      go_wp2_with fail
      refine (digitsNumber_any ⟨#[48]⟩ 6 _ (by unfold maxLen; omega) (by omega)).mono ?_
      rintro e w' ⟨rfl, rfl⟩
      rw [HQ.out]
      rw [HOP.out, HOQ.out]
      generalize dN (decP s.data.toList) 10 = n1
      generalize dN (decQ s.data.toList) 6 = n2
      go_wp2
      exact bodyPost_ret (v := .tuple #[.agg #[.int .i64 0, .int .i64 0], .bool false]) (by simp [results, Tryd.results42, go_sem, q0, q1]) rfl ⟨rfl, (HB1.out.setCell (Nat.le_refl _) _).setCell (Nat.le_refl _) _⟩

theorem decimal_impl (s : ByteArray) (w : World) (hs : s.size ≤ 2097152) :
    Calls Tryd.prog 42 #[.string s] w fun e w' => e = fr (opT (decV s.data.toList) (decX s.data.toList) (decY s.data.toList)) (opB (decV s.data.toList) (decX s.data.toList) (decY s.data.toList)) (opOK (decV s.data.toList) (decX s.data.toList) (decY s.data.toList)) ∧ Below w.heap.size w w' := by
  unfold decV
  by_cases hP : dOK (decP s.data.toList) 10 = true
  · by_cases hQ : dOK (decQ s.data.toList) 6 = true
    · rw [hP, hQ, show (true && true) = true from rfl, (op_true _ _).1, (op_true _ _).2.1, (op_true _ _).2.2]
      exact decimal_impl_good s w hs hP hQ
    · have hQ' := Bool.eq_false_iff.mpr hQ
      rw [hP, hQ', show (true && false) = false from rfl, (op_false _ _).1, (op_false _ _).2.1, (op_false _ _).2.2]
      exact decimal_impl_bad s w hs (.inr ⟨hP, hQ'⟩)
  · have hP' := Bool.eq_false_iff.mpr hP
    rw [hP', show (false && dOK (decQ s.data.toList) 6) = false from rfl, (op_false _ _).1, (op_false _ _).2.1, (op_false _ _).2.2]
    exact decimal_impl_bad s w hs (.inl hP')

end Go.Proofs.YtpgbfagacpondaaDoor
