/-
  The walk of laws.FnMulFractions.
-/
import Derived.Test.YtnapknogfdkgbaaFracAt
import Derived.Test.YtnapknogfdkgbaaFracSpec
import Derived.Test.YtnapknogfdkgbaaFracDivI
import Derived.Test.YtnapknogfdkgbaaFracLaws
import Derived.Test.YtnapknogfdkgbaaFracDrawMul
import Derived.Test.YtnapknogfdkgbaaAlive
namespace Go.Proofs.Ytnapknogfdkgbaa
open Go.RowKit
set_option linter.unusedVariables false

set_option maxRecDepth 100000 in
set_option maxHeartbeats 4000000 in
theorem fnMulFractions_core (a0 : Option Addr) (len0 cap0 : Nat) (w : World) (hrow : CodeRow w a0 len0 cap0) :
    Calls Try.prog 13 #[.slice a0 len0 cap0] w fun e w' => e = .returned (.bool true) ∧ Below w.heap.size w w' := by
  have hcap := hrow.1; have hmx := hrow.2.1
  unfold maxLen at hmx
  by_cases hl : len0 ≤ 1048576
  · go_enter Try.func13, Try.ntmps13
    go_wp2_with fail
    refine (drawMul_any a0 len0 cap0 _ hrow).mono ?_
    rintro e w1 ⟨aT, aB, bT, bB, rfl, hb1⟩
    have HB1 := Lib.hid hb1; clear hb1 hrow
    by_cases hok : opOK (vB aT aB && vB bT bB) (aT * bT) (aB * bB) = true
    · obtain ⟨hv, hk, hT, hB⟩ := op_yes hok
      obtain ⟨ha, hb⟩ := and2 hv
      obtain ⟨p, q, hp, hq, hpq, hval⟩ := mul_ok ha hb hk
      rw [hp] at hT; rw [hq] at hB
      have HT := Lib.hid hT; have HQ := Lib.hid hB; have HO := Lib.hid hok
      have HT2 := Lib.hid ((mul_turn aT aB bT bB).1.trans hT); have HQ2 := Lib.hid ((mul_turn aT aB bT bB).2.1.trans hB); have HO2 := Lib.hid ((mul_turn aT aB bT bB).2.2.trans hok)
      have HZ := Lib.hid (op_of (by rw [ha, vB_11]; rfl : (vB aT aB && vB 1 1) = true) (mul_one' ha))
      have HV := Lib.hid hpq
      obtain ⟨b1, b2, b3, b4⟩ := vB_bd hb
      by_cases h0 : bT = 0
      · have h0b : (bT != 0) = false := by simpa using h0
        have HD := Lib.hid (show (vB p q && vB bT bB && (bT != 0)) = false by rw [h0b, Bool.and_false])
        clear hok hv hk hT hB ha hb hp hq hpq hval h0
        go_wp2_with fail
        refine (mul_impl aT aB bT bB _).mono ?_
        rintro e w2 ⟨rfl, hb2⟩
        have FA2 : Hid (FrAt w2 (w1.heap.size) aT aB) := FrAt.keep (by first | exact ((FrAt.new _ _ _ _).al _) | (refine ⟨?_, ?_⟩ <;> simp [go_sem])) hb2
        have FB2 : Hid (FrAt w2 (w1.heap.size + 1) bT bB) := FrAt.keep (by first | exact FrAt.new _ _ _ _ | (refine ⟨?_, ?_⟩ <;> simp [go_sem])) hb2
        have HB2 := Lib.hid (((HB1.out.alloc (by have := HB1.out.size; first | omega | (simp; omega)) _).alloc (by have := HB1.out.size; first | omega | (simp; omega)) _).trans (hb2.mono (by have := HB1.out.size; first | omega | (simp; omega)))); clear hb2 HB1
        rw [HT.out, HQ.out, HO.out]
        obtain ⟨dA2, eA2⟩ := (FA2.out.al (.cells #[.int .i64 (p), .int .i64 (q)] 25))
        obtain ⟨dB2, eB2⟩ := (FB2.out.al (.cells #[.int .i64 (p), .int .i64 (q)] 25))
        go_wp2_with fail
        refine (mul_spec aT aB bT bB _).mono ?_
        rintro e w3 ⟨rfl, hb3⟩
        have FA3 : Hid (FrAt w3 (w1.heap.size) aT aB) := FrAt.keep (FA2.out.al _) hb3
        have FB3 : Hid (FrAt w3 (w1.heap.size + 1) bT bB) := FrAt.keep (FB2.out.al _) hb3
        have FX3 : Hid (FrAt w3 (w2.heap.size) p q) := FrAt.keep (by first | exact FrAt.new _ _ _ _ | (refine ⟨?_, ?_⟩ <;> simp [go_sem])) hb3
        have HB3 := Lib.hid ((HB2.out.alloc (by have := HB2.out.size; first | omega | (simp; omega)) _).trans (hb3.mono (by have := HB2.out.size; first | omega | (simp; omega)))); clear hb3 HB2 FA2 FB2
        clear dA2 eA2 dB2 eB2
        rw [HT.out, HQ.out, HO.out]
        obtain ⟨dA3, eA3⟩ := (FA3.out.al (.cells #[.int .i64 (p), .int .i64 (q)] 25))
        obtain ⟨dB3, eB3⟩ := (FB3.out.al (.cells #[.int .i64 (p), .int .i64 (q)] 25))
        go_wp2_with fail
        refine (mul_impl bT bB aT aB _).mono ?_
        rintro e w4 ⟨rfl, hb4⟩
        have FA4 : Hid (FrAt w4 (w1.heap.size) aT aB) := FrAt.keep (FA3.out.al _) hb4
        have FB4 : Hid (FrAt w4 (w1.heap.size + 1) bT bB) := FrAt.keep (FB3.out.al _) hb4
        have FX4 : Hid (FrAt w4 (w2.heap.size) p q) := FrAt.keep (FX3.out.al _) hb4
        have FY4 : Hid (FrAt w4 (w3.heap.size) p q) := FrAt.keep (by first | exact FrAt.new _ _ _ _ | (refine ⟨?_, ?_⟩ <;> simp [go_sem])) hb4
        have HB4 := Lib.hid ((HB3.out.alloc (by have := HB3.out.size; first | omega | (simp; omega)) _).trans (hb4.mono (by have := HB3.out.size; first | omega | (simp; omega)))); clear hb4 HB3 FA3 FB3 FX3
        clear dA3 eA3 dB3 eB3
        rw [HT2.out, HQ2.out, HO2.out]
        obtain ⟨dA4, eA4⟩ := (FA4.out.al (.cells #[.int .i64 (p), .int .i64 (q)] 25))
        obtain ⟨dX4, eX4⟩ := (FX4.out.al (.cells #[.int .i64 (p), .int .i64 (q)] 25))
        obtain ⟨dY4, eY4⟩ := (FY4.out.al (.cells #[.int .i64 (p), .int .i64 (q)] 25))
        go_wp2_with fail
        refine (mul_impl aT aB 1 1 _).mono ?_
        rintro e w5 ⟨rfl, hb5⟩
        have FA5 : Hid (FrAt w5 (w1.heap.size) aT aB) := FrAt.keep (FA4.out.al _) hb5
        have FB5 : Hid (FrAt w5 (w1.heap.size + 1) bT bB) := FrAt.keep (FB4.out.al _) hb5
        have FX5 : Hid (FrAt w5 (w2.heap.size) p q) := FrAt.keep (FX4.out.al _) hb5
        have FY5 : Hid (FrAt w5 (w3.heap.size) p q) := FrAt.keep (FY4.out.al _) hb5
        have FZ5 : Hid (FrAt w5 (w4.heap.size) p q) := FrAt.keep (by first | exact FrAt.new _ _ _ _ | (refine ⟨?_, ?_⟩ <;> simp [go_sem])) hb5
        have HB5 := Lib.hid ((HB4.out.alloc (by have := HB4.out.size; first | omega | (simp; omega)) _).trans (hb5.mono (by have := HB4.out.size; first | omega | (simp; omega)))); clear hb5 HB4 FA4 FB4 FX4 FY4
        clear dA4 eA4 dX4 eX4 dY4 eY4
        rw [HZ.out.1, HZ.out.2.1, HZ.out.2.2]
        obtain ⟨dX5, eX5⟩ := (FX5.out.al (.cells #[.int .i64 (aT), .int .i64 (aB)] 25))
        obtain ⟨dB5, eB5⟩ := (FB5.out.al (.cells #[.int .i64 (aT), .int .i64 (aB)] 25))
        go_wp2_with fail
        refine (div_impl p q bT bB _).mono ?_
        rintro e w6 ⟨rfl, hb6⟩
        have FA6 : Hid (FrAt w6 (w1.heap.size) aT aB) := FrAt.keep (FA5.out.al _) hb6
        have FB6 : Hid (FrAt w6 (w1.heap.size + 1) bT bB) := FrAt.keep (FB5.out.al _) hb6
        have FX6 : Hid (FrAt w6 (w2.heap.size) p q) := FrAt.keep (FX5.out.al _) hb6
        have FY6 : Hid (FrAt w6 (w3.heap.size) p q) := FrAt.keep (FY5.out.al _) hb6
        have FZ6 : Hid (FrAt w6 (w4.heap.size) p q) := FrAt.keep (FZ5.out.al _) hb6
        have FS6 : Hid (FrAt w6 (w5.heap.size) aT aB) := FrAt.keep (by first | exact FrAt.new _ _ _ _ | (refine ⟨?_, ?_⟩ <;> simp [go_sem])) hb6
        have HB6 := Lib.hid ((HB5.out.alloc (by have := HB5.out.size; first | omega | (simp; omega)) _).trans (hb6.mono (by have := HB5.out.size; first | omega | (simp; omega)))); clear hb6 HB5 FA5 FB5 FX5 FY5 FZ5
        clear dX5 eX5 dB5 eB5
        rw [HD.out, (op_false _ _).1, (op_false _ _).2.1, (op_false _ _).2.2]
        obtain ⟨dX6, eX6⟩ := (FX6.out.al (.cells #[.int .i64 (0), .int .i64 (0)] 25))
        go_wp2_with fail
        refine (valid_impl p q _).mono ?_
        rintro e w7 ⟨rfl, hb7⟩
        have FA7 : Hid (FrAt w7 (w1.heap.size) aT aB) := FrAt.keep (FA6.out.al _) hb7
        have FB7 : Hid (FrAt w7 (w1.heap.size + 1) bT bB) := FrAt.keep (FB6.out.al _) hb7
        have FX7 : Hid (FrAt w7 (w2.heap.size) p q) := FrAt.keep (FX6.out.al _) hb7
        have FY7 : Hid (FrAt w7 (w3.heap.size) p q) := FrAt.keep (FY6.out.al _) hb7
        have FZ7 : Hid (FrAt w7 (w4.heap.size) p q) := FrAt.keep (FZ6.out.al _) hb7
        have FS7 : Hid (FrAt w7 (w5.heap.size) aT aB) := FrAt.keep (FS6.out.al _) hb7
        have FK7 : Hid (FrAt w7 (w6.heap.size) 0 0) := FrAt.keep (by first | exact FrAt.new _ _ _ _ | (refine ⟨?_, ?_⟩ <;> simp [go_sem])) hb7
        have HB7 := Lib.hid ((HB6.out.alloc (by have := HB6.out.size; first | omega | (simp; omega)) _).trans (hb7.mono (by have := HB6.out.size; first | omega | (simp; omega)))); clear hb7 HB6 FA6 FB6 FX6 FY6 FZ6 FS6
        clear dX6 eX6
        rw [HV.out]
        obtain ⟨dA7, eA7⟩ := FA7.out
        obtain ⟨dB7, eB7⟩ := FB7.out
        obtain ⟨dS7, eS7⟩ := FS7.out
        obtain ⟨dK7, eK7⟩ := FK7.out
        go_wp2
        go_ret
        exact ⟨ret_b (by first | rfl | (simp; done) | (simp; omega) | (simp_all; done)), HB7.out⟩
      · have h0b : (bT != 0) = true := by simpa using h0
        have HD := Lib.hid (op_of (by rw [hpq, hb, h0b]; rfl : (vB p q && vB bT bB && (bT != 0)) = true) (mul_back ha hb hpq h0 hval))
        clear hok hv hk hT hB ha hb hp hq hpq hval h0
        go_wp2_with fail
        refine (mul_impl aT aB bT bB _).mono ?_
        rintro e w2 ⟨rfl, hb2⟩
        have FA2 : Hid (FrAt w2 (w1.heap.size) aT aB) := FrAt.keep (by first | exact ((FrAt.new _ _ _ _).al _) | (refine ⟨?_, ?_⟩ <;> simp [go_sem])) hb2
        have FB2 : Hid (FrAt w2 (w1.heap.size + 1) bT bB) := FrAt.keep (by first | exact FrAt.new _ _ _ _ | (refine ⟨?_, ?_⟩ <;> simp [go_sem])) hb2
        have HB2 := Lib.hid (((HB1.out.alloc (by have := HB1.out.size; first | omega | (simp; omega)) _).alloc (by have := HB1.out.size; first | omega | (simp; omega)) _).trans (hb2.mono (by have := HB1.out.size; first | omega | (simp; omega)))); clear hb2 HB1
        rw [HT.out, HQ.out, HO.out]
        obtain ⟨dA2, eA2⟩ := (FA2.out.al (.cells #[.int .i64 (p), .int .i64 (q)] 25))
        obtain ⟨dB2, eB2⟩ := (FB2.out.al (.cells #[.int .i64 (p), .int .i64 (q)] 25))
        go_wp2_with fail
        refine (mul_spec aT aB bT bB _).mono ?_
        rintro e w3 ⟨rfl, hb3⟩
        have FA3 : Hid (FrAt w3 (w1.heap.size) aT aB) := FrAt.keep (FA2.out.al _) hb3
        have FB3 : Hid (FrAt w3 (w1.heap.size + 1) bT bB) := FrAt.keep (FB2.out.al _) hb3
        have FX3 : Hid (FrAt w3 (w2.heap.size) p q) := FrAt.keep (by first | exact FrAt.new _ _ _ _ | (refine ⟨?_, ?_⟩ <;> simp [go_sem])) hb3
        have HB3 := Lib.hid ((HB2.out.alloc (by have := HB2.out.size; first | omega | (simp; omega)) _).trans (hb3.mono (by have := HB2.out.size; first | omega | (simp; omega)))); clear hb3 HB2 FA2 FB2
        clear dA2 eA2 dB2 eB2
        rw [HT.out, HQ.out, HO.out]
        obtain ⟨dA3, eA3⟩ := (FA3.out.al (.cells #[.int .i64 (p), .int .i64 (q)] 25))
        obtain ⟨dB3, eB3⟩ := (FB3.out.al (.cells #[.int .i64 (p), .int .i64 (q)] 25))
        go_wp2_with fail
        refine (mul_impl bT bB aT aB _).mono ?_
        rintro e w4 ⟨rfl, hb4⟩
        have FA4 : Hid (FrAt w4 (w1.heap.size) aT aB) := FrAt.keep (FA3.out.al _) hb4
        have FB4 : Hid (FrAt w4 (w1.heap.size + 1) bT bB) := FrAt.keep (FB3.out.al _) hb4
        have FX4 : Hid (FrAt w4 (w2.heap.size) p q) := FrAt.keep (FX3.out.al _) hb4
        have FY4 : Hid (FrAt w4 (w3.heap.size) p q) := FrAt.keep (by first | exact FrAt.new _ _ _ _ | (refine ⟨?_, ?_⟩ <;> simp [go_sem])) hb4
        have HB4 := Lib.hid ((HB3.out.alloc (by have := HB3.out.size; first | omega | (simp; omega)) _).trans (hb4.mono (by have := HB3.out.size; first | omega | (simp; omega)))); clear hb4 HB3 FA3 FB3 FX3
        clear dA3 eA3 dB3 eB3
        rw [HT2.out, HQ2.out, HO2.out]
        obtain ⟨dA4, eA4⟩ := (FA4.out.al (.cells #[.int .i64 (p), .int .i64 (q)] 25))
        obtain ⟨dX4, eX4⟩ := (FX4.out.al (.cells #[.int .i64 (p), .int .i64 (q)] 25))
        obtain ⟨dY4, eY4⟩ := (FY4.out.al (.cells #[.int .i64 (p), .int .i64 (q)] 25))
        go_wp2_with fail
        refine (mul_impl aT aB 1 1 _).mono ?_
        rintro e w5 ⟨rfl, hb5⟩
        have FA5 : Hid (FrAt w5 (w1.heap.size) aT aB) := FrAt.keep (FA4.out.al _) hb5
        have FB5 : Hid (FrAt w5 (w1.heap.size + 1) bT bB) := FrAt.keep (FB4.out.al _) hb5
        have FX5 : Hid (FrAt w5 (w2.heap.size) p q) := FrAt.keep (FX4.out.al _) hb5
        have FY5 : Hid (FrAt w5 (w3.heap.size) p q) := FrAt.keep (FY4.out.al _) hb5
        have FZ5 : Hid (FrAt w5 (w4.heap.size) p q) := FrAt.keep (by first | exact FrAt.new _ _ _ _ | (refine ⟨?_, ?_⟩ <;> simp [go_sem])) hb5
        have HB5 := Lib.hid ((HB4.out.alloc (by have := HB4.out.size; first | omega | (simp; omega)) _).trans (hb5.mono (by have := HB4.out.size; first | omega | (simp; omega)))); clear hb5 HB4 FA4 FB4 FX4 FY4
        clear dA4 eA4 dX4 eX4 dY4 eY4
        rw [HZ.out.1, HZ.out.2.1, HZ.out.2.2]
        obtain ⟨dX5, eX5⟩ := (FX5.out.al (.cells #[.int .i64 (aT), .int .i64 (aB)] 25))
        obtain ⟨dB5, eB5⟩ := (FB5.out.al (.cells #[.int .i64 (aT), .int .i64 (aB)] 25))
        go_wp2_with fail
        refine (div_impl p q bT bB _).mono ?_
        rintro e w6 ⟨rfl, hb6⟩
        have FA6 : Hid (FrAt w6 (w1.heap.size) aT aB) := FrAt.keep (FA5.out.al _) hb6
        have FB6 : Hid (FrAt w6 (w1.heap.size + 1) bT bB) := FrAt.keep (FB5.out.al _) hb6
        have FX6 : Hid (FrAt w6 (w2.heap.size) p q) := FrAt.keep (FX5.out.al _) hb6
        have FY6 : Hid (FrAt w6 (w3.heap.size) p q) := FrAt.keep (FY5.out.al _) hb6
        have FZ6 : Hid (FrAt w6 (w4.heap.size) p q) := FrAt.keep (FZ5.out.al _) hb6
        have FS6 : Hid (FrAt w6 (w5.heap.size) aT aB) := FrAt.keep (by first | exact FrAt.new _ _ _ _ | (refine ⟨?_, ?_⟩ <;> simp [go_sem])) hb6
        have HB6 := Lib.hid ((HB5.out.alloc (by have := HB5.out.size; first | omega | (simp; omega)) _).trans (hb6.mono (by have := HB5.out.size; first | omega | (simp; omega)))); clear hb6 HB5 FA5 FB5 FX5 FY5 FZ5
        clear dX5 eX5 dB5 eB5
        rw [HD.out.1, HD.out.2.1, HD.out.2.2]
        obtain ⟨dX6, eX6⟩ := (FX6.out.al (.cells #[.int .i64 (aT), .int .i64 (aB)] 25))
        go_wp2_with fail
        refine (valid_impl p q _).mono ?_
        rintro e w7 ⟨rfl, hb7⟩
        have FA7 : Hid (FrAt w7 (w1.heap.size) aT aB) := FrAt.keep (FA6.out.al _) hb7
        have FB7 : Hid (FrAt w7 (w1.heap.size + 1) bT bB) := FrAt.keep (FB6.out.al _) hb7
        have FX7 : Hid (FrAt w7 (w2.heap.size) p q) := FrAt.keep (FX6.out.al _) hb7
        have FY7 : Hid (FrAt w7 (w3.heap.size) p q) := FrAt.keep (FY6.out.al _) hb7
        have FZ7 : Hid (FrAt w7 (w4.heap.size) p q) := FrAt.keep (FZ6.out.al _) hb7
        have FS7 : Hid (FrAt w7 (w5.heap.size) aT aB) := FrAt.keep (FS6.out.al _) hb7
        have FK7 : Hid (FrAt w7 (w6.heap.size) aT aB) := FrAt.keep (by first | exact FrAt.new _ _ _ _ | (refine ⟨?_, ?_⟩ <;> simp [go_sem])) hb7
        have HB7 := Lib.hid ((HB6.out.alloc (by have := HB6.out.size; first | omega | (simp; omega)) _).trans (hb7.mono (by have := HB6.out.size; first | omega | (simp; omega)))); clear hb7 HB6 FA6 FB6 FX6 FY6 FZ6 FS6
        clear dX6 eX6
        rw [HV.out]
        obtain ⟨dA7, eA7⟩ := FA7.out
        obtain ⟨dB7, eB7⟩ := FB7.out
        obtain ⟨dS7, eS7⟩ := FS7.out
        obtain ⟨dK7, eK7⟩ := FK7.out
        go_wp2
        go_ret
        exact ⟨ret_b (by first | rfl | (simp; done) | (simp; omega) | (simp_all; done)), HB7.out⟩
    · have hok' := Bool.eq_false_iff.mpr hok
      obtain ⟨hT, hB⟩ := op_no hok'
      have HT := Lib.hid hT; have HQ := Lib.hid hB; have HO := Lib.hid hok'
      have HT2 := Lib.hid ((mul_turn aT aB bT bB).1.trans hT); have HQ2 := Lib.hid ((mul_turn aT aB bT bB).2.1.trans hB); have HO2 := Lib.hid ((mul_turn aT aB bT bB).2.2.trans hok')
      clear hok hok' hT hB
      go_wp2_with fail
      refine (mul_impl aT aB bT bB _).mono ?_
      rintro e w2 ⟨rfl, hb2⟩
      have FA2 : Hid (FrAt w2 (w1.heap.size) aT aB) := FrAt.keep (by first | exact ((FrAt.new _ _ _ _).al _) | (refine ⟨?_, ?_⟩ <;> simp [go_sem])) hb2
      have FB2 : Hid (FrAt w2 (w1.heap.size + 1) bT bB) := FrAt.keep (by first | exact FrAt.new _ _ _ _ | (refine ⟨?_, ?_⟩ <;> simp [go_sem])) hb2
      have HB2 := Lib.hid (((HB1.out.alloc (by have := HB1.out.size; first | omega | (simp; omega)) _).alloc (by have := HB1.out.size; first | omega | (simp; omega)) _).trans (hb2.mono (by have := HB1.out.size; first | omega | (simp; omega)))); clear hb2 HB1
      rw [HT.out, HQ.out, HO.out]
      obtain ⟨dA2, eA2⟩ := (FA2.out.al (.cells #[.int .i64 (0), .int .i64 (0)] 25))
      obtain ⟨dB2, eB2⟩ := (FB2.out.al (.cells #[.int .i64 (0), .int .i64 (0)] 25))
      go_wp2_with fail
      refine (mul_spec aT aB bT bB _).mono ?_
      rintro e w3 ⟨rfl, hb3⟩
      have FA3 : Hid (FrAt w3 (w1.heap.size) aT aB) := FrAt.keep (FA2.out.al _) hb3
      have FB3 : Hid (FrAt w3 (w1.heap.size + 1) bT bB) := FrAt.keep (FB2.out.al _) hb3
      have FX3 : Hid (FrAt w3 (w2.heap.size) 0 0) := FrAt.keep (by first | exact FrAt.new _ _ _ _ | (refine ⟨?_, ?_⟩ <;> simp [go_sem])) hb3
      have HB3 := Lib.hid ((HB2.out.alloc (by have := HB2.out.size; first | omega | (simp; omega)) _).trans (hb3.mono (by have := HB2.out.size; first | omega | (simp; omega)))); clear hb3 HB2 FA2 FB2
      clear dA2 eA2 dB2 eB2
      rw [HT.out, HQ.out, HO.out]
      obtain ⟨dA3, eA3⟩ := (FA3.out.al (.cells #[.int .i64 (0), .int .i64 (0)] 25))
      obtain ⟨dB3, eB3⟩ := (FB3.out.al (.cells #[.int .i64 (0), .int .i64 (0)] 25))
      go_wp2_with fail
      refine (mul_impl bT bB aT aB _).mono ?_
      rintro e w4 ⟨rfl, hb4⟩
      have FA4 : Hid (FrAt w4 (w1.heap.size) aT aB) := FrAt.keep (FA3.out.al _) hb4
      have FB4 : Hid (FrAt w4 (w1.heap.size + 1) bT bB) := FrAt.keep (FB3.out.al _) hb4
      have FX4 : Hid (FrAt w4 (w2.heap.size) 0 0) := FrAt.keep (FX3.out.al _) hb4
      have FY4 : Hid (FrAt w4 (w3.heap.size) 0 0) := FrAt.keep (by first | exact FrAt.new _ _ _ _ | (refine ⟨?_, ?_⟩ <;> simp [go_sem])) hb4
      have HB4 := Lib.hid ((HB3.out.alloc (by have := HB3.out.size; first | omega | (simp; omega)) _).trans (hb4.mono (by have := HB3.out.size; first | omega | (simp; omega)))); clear hb4 HB3 FA3 FB3 FX3
      clear dA3 eA3 dB3 eB3
      rw [HT2.out, HQ2.out, HO2.out]
      obtain ⟨dX4, eX4⟩ := (FX4.out.al (.cells #[.int .i64 (0), .int .i64 (0)] 25))
      obtain ⟨dY4, eY4⟩ := (FY4.out.al (.cells #[.int .i64 (0), .int .i64 (0)] 25))
      go_wp2_with fail
      refine (alive_any _).mono ?_
      rintro e w' ⟨rfl, rfl⟩
      go_wp2
      go_ret
      exact ⟨ret_b (by first | rfl | (simp; done) | (simp; omega) | (simp_all; done)), (HB4.out.alloc (by have := HB4.out.size; first | omega | (simp; omega)) _)⟩
  · go_enter Try.func13, Try.ntmps13
    go_wp2
    go_ret
    exact ⟨rfl, Below.refl _ _⟩

end Go.Proofs.Ytnapknogfdkgbaa
