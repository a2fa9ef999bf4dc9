/-
  spec.DecimalOf, by its contract.
-/
import Derived.Test.YtpgbfagacpondaaDoorFracMake
import Derived.Test.YtpgbfagacpondaaDoorDecImpl
namespace Go.Proofs.YtpgbfagacpondaaDoor
open Go.RowKit
set_option linter.unusedVariables false

theorem digits_first (s : ByteArray) (k : Nat) (w : World) (hs : s.size ≤ 2097152) (hk : runD s.data.toList 10 = k) :
    Calls Tryd.prog 28 #[.string s, .int .i64 0, .int .i64 10] w fun e w' => e = .returned (.tuple #[.int .i64 ((valD (s.data.toList.take k) : Nat) : Int), .int .i64 (k : Int)]) ∧ w = w' := by
  have h := l2Digits_any s 0 10 w hs (by omega) (by omega)
  have e : runAt s 0 10 = k := by unfold runAt; rw [List.drop_zero]; exact hk
  rw [e] at h
  refine h.mono ?_
  rintro e w' ⟨rfl, rfl⟩
  refine ⟨?_, rfl⟩
  rw [show valAt s 0 k = valD (s.data.toList.take k) by unfold valAt; rw [List.drop_zero], Nat.zero_add]
theorem digits_next (s : ByteArray) (k j : Nat) (w : World) (hs : s.size ≤ 2097152) (hk : k < s.size) (hj : runD (s.data.toList.drop (k + 1)) 7 = j) :
    Calls Tryd.prog 28 #[.string s, .int .i64 ((k : Int) + 1), .int .i64 7] w fun e w' => e = .returned (.tuple #[.int .i64 ((valD ((s.data.toList.drop (k + 1)).take j) : Nat) : Int), .int .i64 ((k : Int) + 1 + (j : Int))]) ∧ w = w' := by
  have h := l2Digits_any s (k + 1) 7 w hs (by omega) (by omega)
  have e : runAt s (k + 1) 7 = j := hj
  rw [e] at h
  refine h.mono ?_
  rintro e w' ⟨rfl, rfl⟩
  refine ⟨?_, rfl⟩
  rw [show ((k + 1 + j : Nat) : Int) = (k : Int) + 1 + (j : Int) by omega]; rfl

theorem list_at (s : ByteArray) (k : Nat) (h : k < s.size) : s.data.toList[k]? = some s[k] := by
  have hl : s.data.toList.length = s.size := by rw [Array.length_toList]; rfl
  rw [List.getElem?_eq_getElem (by omega)]; rfl

set_option maxRecDepth 100000 in
set_option maxHeartbeats 1000000 in
theorem decimal_spec (s : ByteArray) (w : World) (hs : s.size ≤ 2097152) :
    Calls Tryd.prog 27 #[.string s] w fun e w' => e = fr (opT (decV s.data.toList) (decX s.data.toList) (decY s.data.toList)) (opB (decV s.data.toList) (decX s.data.toList) (decY s.data.toList)) (opOK (decV s.data.toList) (decX s.data.toList) (decY s.data.toList)) ∧ Below w.heap.size w w' := by
  have hl : s.data.toList.length = s.size := by rw [Array.length_toList]; rfl
  obtain ⟨k, hk⟩ : ∃ k, k = runD s.data.toList 10 := ⟨_, rfl⟩
  have hkb := runD_le s.data.toList 10
  rw [← hk, hl] at hkb
  obtain ⟨hk1, hk2⟩ := hkb
  have hv1 : valD (s.data.toList.take k) < 10000000000 := valD_bd _ (by rw [hk]; exact runD_take _ _) (by rw [List.length_take]; omega)
  by_cases h0 : k = 0
  · rw [dec_s1 (by omega : runD s.data.toList 10 = 0), (op_false _ _).1, (op_false _ _).2.1, (op_false _ _).2.2]
    have HX : Hid True := trivial
    have HK := Lib.hid hk; clear hk hl
    have h0b : ((k : Int) == 0) = true := beq_iff_eq.mpr (by omega)
    clear h0
    go_enter Tryd.func27, Tryd.ntmps27
    go_wp2_with fail
    refine (digits_first s k _ hs HK.out.symm).mono ?_
    rintro e w' ⟨rfl, rfl⟩
    generalize valD (s.data.toList.take k) = v1 at hv1 HX ⊢
    go_wp2
    exact bodyPost_ret (v := .tuple #[.agg #[.int .i64 0, .int .i64 0], .bool false]) (by simp [results, Tryd.results27, go_sem]) rfl ⟨rfl, ((Below.refl _ w).alloc (Nat.le_refl _) _)⟩
  · by_cases hp : s.data.toList[k]? = some 46
    · have hkl : k < s.size := by
        by_cases q : k < s.size
        · exact q
        · rw [List.getElem?_eq_none (by omega)] at hp; cases hp
      have hbyte : ((s[k].toNat : Int) == 46) = true := by rw [list_at s k hkl] at hp; simp only [Option.some.injEq] at hp; rw [hp]; rfl
      obtain ⟨j, hj⟩ : ∃ j, j = runD (s.data.toList.drop (k + 1)) 7 := ⟨_, rfl⟩
      have hjb := runD_le (s.data.toList.drop (k + 1)) 7
      rw [← hj, List.length_drop, hl] at hjb
      obtain ⟨hj1, hj2⟩ := hjb
      have hv2 : valD ((s.data.toList.drop (k + 1)).take j) < 10000000000 := valD_bd _ (by rw [hj]; exact runD_take _ _) (by rw [List.length_take]; omega)
      by_cases hin : 1 ≤ j ∧ j ≤ 6
      · obtain ⟨i1, i2⟩ := hin
        have hIn : inF ((k : Int) + 1 + (j : Int) - (k : Int) - 1) 1 6 = true := by simp only [inF, Bool.and_eq_true, decide_eq_true_eq]; omega
        by_cases he : k + 1 + j = s.size
        · obtain ⟨d1, d2, d3⟩ := dec_s2_good hk.symm (by omega) hp hj.symm i1 i2 (by omega)
          rw [d1, (op_true _ _).1, (op_true _ _).2.1, (op_true _ _).2.2]
          have HX := Lib.hid d2; have HY := Lib.hid d3; have HI := Lib.hid hIn; have HK := Lib.hid hk; have HJ := Lib.hid hj; have HE := Lib.hid he
          have he1 : (k : Int) + 1 + (j : Int) ≤ s.size := by omega
          have h0b : ((k : Int) == 0) = false := by rw [beq_eq_false_iff_ne]; omega
          clear d1 d2 d3 hp hIn hk hj hl he h0
          go_enter Tryd.func27, Tryd.ntmps27
          go_wp2_with fail
          refine (digits_first s k _ hs HK.out.symm).mono ?_
          rintro e w' ⟨rfl, rfl⟩
          generalize valD (s.data.toList.take k) = v1 at hv1 HX ⊢
          go_wp2_with fail
          refine (digits_next s k j _ hs hkl HJ.out.symm).mono ?_
          rintro e w' ⟨rfl, rfl⟩
          generalize valD ((s.data.toList.drop (k + 1)).take j) = v2 at hv2 HX ⊢
          go_wp2_with fail
          refine (l1In_f _ _ _ _).mono ?_
          rintro e w' ⟨rfl, rfl⟩
          rw [HI.out]
          go_wp2_with fail
          go_loop [7, 10] (fun sc i => ∃ (m : Nat) (x : Int), m ≤ j ∧ i = .int .i64 ((k : Int) + 1 + (m : Int)) ∧ x = ((10 ^ m : Nat) : Int) ∧ sc = .int .i64 x) (fun _ i => s.size + 9 - (intOf i).toNat)
          case atStart => exact ⟨0, 1, by omega, by first | rfl | (simp; done), rfl, rfl⟩
          case round =>
            obtain ⟨m, x, hm, rfl, hx, rfl⟩ := hrel
            obtain ⟨bx0, bx1⟩ := pow_bd1 hx (by omega)
            have HXM := Lib.hid hx; clear hx
            by_cases hlt : m < j
            · go_wp2
              go_round
              case rel => exact ⟨m + 1, 10 * x, by omega, by go_num, by rw [HXM.out, Nat.pow_succ]; go_num, rfl⟩
              case measure => simp [intOf]; omega
            · obtain rfl : m = j := by omega
              have heb : (((k : Int) + 1 + (m : Int)) != (s.size : Int)) = false := by rw [bne_eq_false_iff_eq]; have := HE.out; omega
              have pm : (v1 : Int) * x = ((v1 * 10 ^ m : Nat) : Int) := by rw [HXM.out, Int.natCast_mul]
              obtain ⟨pm0, pm1⟩ := pow_bd pm hv1 (by omega)
              have x1 := pow_pos1 HXM.out
              have HXX : Hid ((v1 : Int) * x + (v2 : Int) = decX s.data.toList) := by show _ = _; rw [HX.out, pm, Int.natCast_add]
              have HYY : Hid (x = decY s.data.toList) := by show _ = _; rw [HY.out, HXM.out]
              clear pm
              go_wp2_with fail
              refine (make_spec ((v1 : Int) * x + (v2 : Int)) x _ (by omega) (by omega) (by omega)).mono ?_
              rintro e w2 ⟨rfl, hb2⟩
              have q0 : w2.cell? ⟨w.heap.size, 0, none⟩ = some (.int .i64 0) := by rw [hb2.cell (by simp)]; simp [go_sem]
              have q1 : w2.cell? ⟨w.heap.size, 1, none⟩ = some (.int .i64 0) := by rw [hb2.cell (by simp)]; simp [go_sem]
              have q2 : w2.frozen? ⟨w.heap.size, 0, none⟩ = false := by rw [hb2.frozen (by simp)]; simp [go_sem]
              have q3 : w2.frozen? ⟨w.heap.size, 1, none⟩ = false := by rw [hb2.frozen (by simp)]; simp [go_sem]
              have HB2 := Lib.hid (((Below.refl _ w).alloc (Nat.le_refl _) _).trans (hb2.mono (by simp))); clear hb2
              rw [HXX.out, HYY.out]
              go_wp2
              exact bodyPost_ret (v := .tuple #[.agg #[.int .i64 (mkT (decX s.data.toList) (decY s.data.toList)), .int .i64 (mkB (decX s.data.toList) (decY s.data.toList))], .bool (mkOK (decX s.data.toList) (decY s.data.toList))]) (by simp [results, Tryd.results27, go_sem, q0, q1]) rfl ⟨rfl, (HB2.out.setCell (Nat.le_refl _) _).setCell (Nat.le_refl _) _⟩
        · rw [dec_s2_bad hk.symm (by omega) hp hj.symm (.inr (by omega)), (op_false _ _).1, (op_false _ _).2.1, (op_false _ _).2.2]
          have HX : Hid True := trivial; have HK := Lib.hid hk; have HJ := Lib.hid hj; have HI := Lib.hid hIn
          have h0b : ((k : Int) == 0) = false := by rw [beq_eq_false_iff_ne]; omega
          have heb : (((k : Int) + 1 + (j : Int)) != (s.size : Int)) = true := by rw [bne_iff_ne]; omega
          have he1 : (k : Int) + 1 + (j : Int) ≤ s.size := by omega
          clear hp hIn hk hj hl he h0
          go_enter Tryd.func27, Tryd.ntmps27
          go_wp2_with fail
          refine (digits_first s k _ hs HK.out.symm).mono ?_
          rintro e w' ⟨rfl, rfl⟩
          generalize valD (s.data.toList.take k) = v1 at hv1 HX ⊢
          go_wp2_with fail
          refine (digits_next s k j _ hs hkl HJ.out.symm).mono ?_
          rintro e w' ⟨rfl, rfl⟩
          generalize valD ((s.data.toList.drop (k + 1)).take j) = v2 at hv2 HX ⊢
          go_wp2_with fail
          refine (l1In_f _ _ _ _).mono ?_
          rintro e w' ⟨rfl, rfl⟩
          rw [HI.out]
          go_wp2_with fail
          go_loop [7, 10] (fun sc i => ∃ (m : Nat) (x : Int), m ≤ j ∧ i = .int .i64 ((k : Int) + 1 + (m : Int)) ∧ x = ((10 ^ m : Nat) : Int) ∧ sc = .int .i64 x) (fun _ i => s.size + 9 - (intOf i).toNat)
          case atStart => exact ⟨0, 1, by omega, by first | rfl | (simp; done), rfl, rfl⟩
          case round =>
            obtain ⟨m, x, hm, rfl, hx, rfl⟩ := hrel
            obtain ⟨bx0, bx1⟩ := pow_bd1 hx (by omega)
            have HXM := Lib.hid hx; clear hx
            by_cases hlt : m < j
            · go_wp2
              go_round
              case rel => exact ⟨m + 1, 10 * x, by omega, by go_num, by rw [HXM.out, Nat.pow_succ]; go_num, rfl⟩
              case measure => simp [intOf]; omega
            · obtain rfl : m = j := by omega
              go_wp2
              exact bodyPost_ret (v := .tuple #[.agg #[.int .i64 0, .int .i64 0], .bool false]) (by simp [results, Tryd.results27, go_sem]) rfl ⟨rfl, ((Below.refl _ w).alloc (Nat.le_refl _) _)⟩
      · rw [dec_s2_bad hk.symm (by omega) hp hj.symm (.inl hin), (op_false _ _).1, (op_false _ _).2.1, (op_false _ _).2.2]
        have hIn : inF ((k : Int) + 1 + (j : Int) - (k : Int) - 1) 1 6 = false := by rw [Bool.eq_false_iff]; simp only [inF, ne_eq, Bool.and_eq_true, decide_eq_true_eq]; omega
        have HX : Hid True := trivial; have HK := Lib.hid hk; have HJ := Lib.hid hj; have HI := Lib.hid hIn
        have h0b : ((k : Int) == 0) = false := by rw [beq_eq_false_iff_ne]; omega
        have he1 : (k : Int) + 1 + (j : Int) ≤ s.size := by omega
        clear hp hIn hk hj hl h0 hin
        go_enter Tryd.func27, Tryd.ntmps27
        go_wp2_with fail
        refine (digits_first s k _ hs HK.out.symm).mono ?_
        rintro e w' ⟨rfl, rfl⟩
        generalize valD (s.data.toList.take k) = v1 at hv1 HX ⊢
        go_wp2_with fail
        refine (digits_next s k j _ hs hkl HJ.out.symm).mono ?_
        rintro e w' ⟨rfl, rfl⟩
        generalize valD ((s.data.toList.drop (k + 1)).take j) = v2 at hv2 HX ⊢
        go_wp2_with fail
        refine (l1In_f _ _ _ _).mono ?_
        rintro e w' ⟨rfl, rfl⟩
        rw [HI.out]
        go_wp2
        exact bodyPost_ret (v := .tuple #[.agg #[.int .i64 0, .int .i64 0], .bool false]) (by simp [results, Tryd.results27, go_sem]) rfl ⟨rfl, ((Below.refl _ w).alloc (Nat.le_refl _) _)⟩
    · by_cases he : k = s.size
      · obtain ⟨d1, d2, d3⟩ := dec_s3_good hk.symm (by omega) (by omega)
        obtain ⟨m1, m2, m3⟩ := mk_scale ((valD (s.data.toList.take k) : Nat) : Int) 1 10 (by omega) (by omega)
        rw [d1, (op_true _ _).1, (op_true _ _).2.1, (op_true _ _).2.2, d2, d3, m1, m2, m3]
        have heb : ((k : Int) != (s.size : Int)) = false := by rw [bne_eq_false_iff_eq]; omega
        have hlb : decide (k < s.size) = false := by simp; omega
        have HX : Hid True := trivial; have HK := Lib.hid hk
        have h0b : ((k : Int) == 0) = false := by rw [beq_eq_false_iff_ne]; omega
        clear hp hk hl h0 he d1 d2 d3 m1 m2 m3
        go_enter Tryd.func27, Tryd.ntmps27
        go_wp2_with fail
        refine (digits_first s k _ hs HK.out.symm).mono ?_
        rintro e w' ⟨rfl, rfl⟩
        go_wp2_with fail
        refine (make_spec ((valD (s.data.toList.take k) : Nat) : Int) 1 _ (by omega) (by omega) (by omega)).mono ?_
        rintro e w2 ⟨rfl, hb2⟩
        have q0 : w2.cell? ⟨w.heap.size, 0, none⟩ = some (.int .i64 0) := by rw [hb2.cell (by simp)]; simp [go_sem]
        have q1 : w2.cell? ⟨w.heap.size, 1, none⟩ = some (.int .i64 0) := by rw [hb2.cell (by simp)]; simp [go_sem]
        have q2 : w2.frozen? ⟨w.heap.size, 0, none⟩ = false := by rw [hb2.frozen (by simp)]; simp [go_sem]
        have q3 : w2.frozen? ⟨w.heap.size, 1, none⟩ = false := by rw [hb2.frozen (by simp)]; simp [go_sem]
        have HB2 := Lib.hid (((Below.refl _ w).alloc (Nat.le_refl _) _).trans (hb2.mono (by simp))); clear hb2
        go_wp2
        exact bodyPost_ret (v := .tuple #[.agg #[.int .i64 (mkT ((valD (s.data.toList.take k) : Nat) : Int) 1), .int .i64 (mkB ((valD (s.data.toList.take k) : Nat) : Int) 1)], .bool (mkOK ((valD (s.data.toList.take k) : Nat) : Int) 1)]) (by simp [results, Tryd.results27, go_sem, q0, q1]) rfl ⟨rfl, (HB2.out.setCell (Nat.le_refl _) _).setCell (Nat.le_refl _) _⟩
      · rw [dec_s3_bad hk.symm hp (by omega), (op_false _ _).1, (op_false _ _).2.1, (op_false _ _).2.2]
        have hkl : k < s.size := by omega
        have hbyte : ((s[k].toNat : Int) == 46) = false := by
          rw [beq_eq_false_iff_ne]; intro hq
          apply hp; rw [list_at s k hkl]
          have : s[k].toNat = (46 : UInt8).toNat := by simp; omega
          rw [UInt8.toNat_inj.mp this]
        have heb : ((k : Int) != (s.size : Int)) = true := by rw [bne_iff_ne]; omega
        have HX : Hid True := trivial; have HK := Lib.hid hk
        have h0b : ((k : Int) == 0) = false := by rw [beq_eq_false_iff_ne]; omega
        clear hp hk hl h0 he
        go_enter Tryd.func27, Tryd.ntmps27
        go_wp2_with fail
        refine (digits_first s k _ hs HK.out.symm).mono ?_
        rintro e w' ⟨rfl, rfl⟩
        generalize valD (s.data.toList.take k) = v1 at hv1 HX ⊢
        go_wp2
        exact bodyPost_ret (v := .tuple #[.agg #[.int .i64 0, .int .i64 0], .bool false]) (by simp [results, Tryd.results27, go_sem]) rfl ⟨rfl, ((Below.refl _ w).alloc (Nat.le_refl _) _)⟩

end Go.Proofs.YtpgbfagacpondaaDoor
