/-
  The walk of laws.FnDivFractions.
-/
import Derived.Test.YtnapknogfdkgbaaFracAt
import Derived.Test.YtnapknogfdkgbaaFracDivS
import Derived.Test.YtnapknogfdkgbaaFracDivI
import Derived.Test.YtnapknogfdkgbaaFracLaws
import Derived.Test.YtnapknogfdkgbaaFracDrawDiv
import Derived.Test.YtnapknogfdkgbaaAlive
namespace Go.Proofs.Ytnapknogfdkgbaa
open Go.RowKit
set_option linter.unusedVariables false

set_option maxRecDepth 100000 in
set_option maxHeartbeats 4000000 in
theorem fnDivFractions_core (a0 : Option Addr) (len0 cap0 : Nat) (w : World) (hrow : CodeRow w a0 len0 cap0) :
    Calls Try.prog 14 #[.slice a0 len0 cap0] w fun e w' => e = .returned (.bool true) ∧ Below w.heap.size w w' := by
  have hcap := hrow.1; have hmx := hrow.2.1
  unfold maxLen at hmx
  by_cases hl : len0 ≤ 1048576
  · go_enter Try.func14, Try.ntmps14
    go_wp2_with fail
    refine (drawDiv_any a0 len0 cap0 _ hrow).mono ?_
    rintro e w1 ⟨aT, aB, bT, bB, rfl, hb1⟩
    have HB1 := Lib.hid hb1; clear hb1 hrow
    by_cases hok : opOK (vB aT aB && vB bT bB && (bT != 0)) (divT aT bT bB) (divB aB bT) = true
    · obtain ⟨hv, hk, hT, hB⟩ := op_yes hok
      obtain ⟨ha, hb, h0b⟩ := and3 hv
      have h0 : bT ≠ 0 := by simpa using h0b
      obtain ⟨p, q, hp, hq, hpq, hval⟩ := div_ok ha hb h0 hk
      rw [hp] at hT; rw [hq] at hB
      have HT := Lib.hid hT; have HQ := Lib.hid hB; have HO := Lib.hid hok
      have HK := Lib.hid (op_of (by rw [hpq, hb]; rfl : (vB p q && vB bT bB) = true) (div_back ha hb hpq h0 hval))
      have HZ := Lib.hid (show (vB aT aB && vB 0 1 && ((0 : Int) != 0)) = false by simp)
      have HV := Lib.hid hpq
      clear hok hv hk hT hB ha hb hp hq hpq hval h0 h0b
      go_wp2_with fail
      refine (div_impl aT aB bT bB _).mono ?_
      rintro e w2 ⟨rfl, hb2⟩
      have FA2 : Hid (FrAt w2 (w1.heap.size) aT aB) := FrAt.keep (by first | exact ((FrAt.new _ _ _ _).al _) | (refine ⟨?_, ?_⟩ <;> simp [go_sem])) hb2
      have FB2 : Hid (FrAt w2 (w1.heap.size + 1) bT bB) := FrAt.keep (by first | exact FrAt.new _ _ _ _ | (refine ⟨?_, ?_⟩ <;> simp [go_sem])) hb2
      have HB2 := Lib.hid (((HB1.out.alloc (by have := HB1.out.size; first | omega | (simp; omega)) _).alloc (by have := HB1.out.size; first | omega | (simp; omega)) _).trans (hb2.mono (by have := HB1.out.size; first | omega | (simp; omega)))); clear hb2 HB1
      rw [HT.out, HQ.out, HO.out]
      obtain ⟨dA2, eA2⟩ := (FA2.out.al (.cells #[.int .i64 (p), .int .i64 (q)] 25))
      obtain ⟨dB2, eB2⟩ := (FB2.out.al (.cells #[.int .i64 (p), .int .i64 (q)] 25))
      go_wp2_with fail
      refine (div_spec aT aB bT bB _).mono ?_
      rintro e w3 ⟨rfl, hb3⟩
      have FA3 : Hid (FrAt w3 (w1.heap.size) aT aB) := FrAt.keep (FA2.out.al _) hb3
      have FB3 : Hid (FrAt w3 (w1.heap.size + 1) bT bB) := FrAt.keep (FB2.out.al _) hb3
      have FX3 : Hid (FrAt w3 (w2.heap.size) p q) := FrAt.keep (by first | exact FrAt.new _ _ _ _ | (refine ⟨?_, ?_⟩ <;> simp [go_sem])) hb3
      have HB3 := Lib.hid ((HB2.out.alloc (by have := HB2.out.size; first | omega | (simp; omega)) _).trans (hb3.mono (by have := HB2.out.size; first | omega | (simp; omega)))); clear hb3 HB2 FA2 FB2
      clear dA2 eA2 dB2 eB2
      rw [HT.out, HQ.out, HO.out]
      obtain ⟨dX3, eX3⟩ := (FX3.out.al (.cells #[.int .i64 (p), .int .i64 (q)] 25))
      obtain ⟨dB3, eB3⟩ := (FB3.out.al (.cells #[.int .i64 (p), .int .i64 (q)] 25))
      go_wp2_with fail
      refine (mul_impl p q bT bB _).mono ?_
      rintro e w4 ⟨rfl, hb4⟩
      have FA4 : Hid (FrAt w4 (w1.heap.size) aT aB) := FrAt.keep (FA3.out.al _) hb4
      have FB4 : Hid (FrAt w4 (w1.heap.size + 1) bT bB) := FrAt.keep (FB3.out.al _) hb4
      have FX4 : Hid (FrAt w4 (w2.heap.size) p q) := FrAt.keep (FX3.out.al _) hb4
      have FY4 : Hid (FrAt w4 (w3.heap.size) p q) := FrAt.keep (by first | exact FrAt.new _ _ _ _ | (refine ⟨?_, ?_⟩ <;> simp [go_sem])) hb4
      have HB4 := Lib.hid ((HB3.out.alloc (by have := HB3.out.size; first | omega | (simp; omega)) _).trans (hb4.mono (by have := HB3.out.size; first | omega | (simp; omega)))); clear hb4 HB3 FA3 FB3 FX3
      clear dX3 eX3 dB3 eB3
      rw [HK.out.1, HK.out.2.1, HK.out.2.2]
      obtain ⟨dA4, eA4⟩ := (FA4.out.al (.cells #[.int .i64 (aT), .int .i64 (aB)] 25))
      go_wp2_with fail
      refine (div_impl aT aB 0 1 _).mono ?_
      rintro e w5 ⟨rfl, hb5⟩
      have FA5 : Hid (FrAt w5 (w1.heap.size) aT aB) := FrAt.keep (FA4.out.al _) hb5
      have FB5 : Hid (FrAt w5 (w1.heap.size + 1) bT bB) := FrAt.keep (FB4.out.al _) hb5
      have FX5 : Hid (FrAt w5 (w2.heap.size) p q) := FrAt.keep (FX4.out.al _) hb5
      have FY5 : Hid (FrAt w5 (w3.heap.size) p q) := FrAt.keep (FY4.out.al _) hb5
      have FK5 : Hid (FrAt w5 (w4.heap.size) aT aB) := FrAt.keep (by first | exact FrAt.new _ _ _ _ | (refine ⟨?_, ?_⟩ <;> simp [go_sem])) hb5
      have HB5 := Lib.hid ((HB4.out.alloc (by have := HB4.out.size; first | omega | (simp; omega)) _).trans (hb5.mono (by have := HB4.out.size; first | omega | (simp; omega)))); clear hb5 HB4 FA4 FB4 FX4 FY4
      clear dA4 eA4
      rw [HZ.out, (op_false _ _).1, (op_false _ _).2.1, (op_false _ _).2.2]
      obtain ⟨dX5, eX5⟩ := (FX5.out.al (.cells #[.int .i64 (0), .int .i64 (0)] 25))
      go_wp2_with fail
      refine (valid_impl p q _).mono ?_
      rintro e w6 ⟨rfl, hb6⟩
      have FA6 : Hid (FrAt w6 (w1.heap.size) aT aB) := FrAt.keep (FA5.out.al _) hb6
      have FB6 : Hid (FrAt w6 (w1.heap.size + 1) bT bB) := FrAt.keep (FB5.out.al _) hb6
      have FX6 : Hid (FrAt w6 (w2.heap.size) p q) := FrAt.keep (FX5.out.al _) hb6
      have FY6 : Hid (FrAt w6 (w3.heap.size) p q) := FrAt.keep (FY5.out.al _) hb6
      have FK6 : Hid (FrAt w6 (w4.heap.size) aT aB) := FrAt.keep (FK5.out.al _) hb6
      have FO6 : Hid (FrAt w6 (w5.heap.size) 0 0) := FrAt.keep (by first | exact FrAt.new _ _ _ _ | (refine ⟨?_, ?_⟩ <;> simp [go_sem])) hb6
      have HB6 := Lib.hid ((HB5.out.alloc (by have := HB5.out.size; first | omega | (simp; omega)) _).trans (hb6.mono (by have := HB5.out.size; first | omega | (simp; omega)))); clear hb6 HB5 FA5 FB5 FX5 FY5 FK5
      clear dX5 eX5
      rw [HV.out]
      obtain ⟨dA6, eA6⟩ := FA6.out
      obtain ⟨dK6, eK6⟩ := FK6.out
      go_wp2
      go_ret
      exact ⟨ret_b (by first | rfl | (simp; done) | (simp; omega) | (simp_all; done)), HB6.out⟩
    · have hok' := Bool.eq_false_iff.mpr hok
      obtain ⟨hT, hB⟩ := op_no hok'
      have HT := Lib.hid hT; have HQ := Lib.hid hB; have HO := Lib.hid hok'
      clear hok hok' hT hB
      go_wp2_with fail
      refine (div_impl aT aB bT bB _).mono ?_
      rintro e w2 ⟨rfl, hb2⟩
      have FA2 : Hid (FrAt w2 (w1.heap.size) aT aB) := FrAt.keep (by first | exact ((FrAt.new _ _ _ _).al _) | (refine ⟨?_, ?_⟩ <;> simp [go_sem])) hb2
      have FB2 : Hid (FrAt w2 (w1.heap.size + 1) bT bB) := FrAt.keep (by first | exact FrAt.new _ _ _ _ | (refine ⟨?_, ?_⟩ <;> simp [go_sem])) hb2
      have HB2 := Lib.hid (((HB1.out.alloc (by have := HB1.out.size; first | omega | (simp; omega)) _).alloc (by have := HB1.out.size; first | omega | (simp; omega)) _).trans (hb2.mono (by have := HB1.out.size; first | omega | (simp; omega)))); clear hb2 HB1
      rw [HT.out, HQ.out, HO.out]
      obtain ⟨dA2, eA2⟩ := (FA2.out.al (.cells #[.int .i64 (0), .int .i64 (0)] 25))
      obtain ⟨dB2, eB2⟩ := (FB2.out.al (.cells #[.int .i64 (0), .int .i64 (0)] 25))
      go_wp2_with fail
      refine (div_spec aT aB bT bB _).mono ?_
      rintro e w3 ⟨rfl, hb3⟩
      have FA3 : Hid (FrAt w3 (w1.heap.size) aT aB) := FrAt.keep (FA2.out.al _) hb3
      have FB3 : Hid (FrAt w3 (w1.heap.size + 1) bT bB) := FrAt.keep (FB2.out.al _) hb3
      have FX3 : Hid (FrAt w3 (w2.heap.size) 0 0) := FrAt.keep (by first | exact FrAt.new _ _ _ _ | (refine ⟨?_, ?_⟩ <;> simp [go_sem])) hb3
      have HB3 := Lib.hid ((HB2.out.alloc (by have := HB2.out.size; first | omega | (simp; omega)) _).trans (hb3.mono (by have := HB2.out.size; first | omega | (simp; omega)))); clear hb3 HB2 FA2 FB2
      clear dA2 eA2 dB2 eB2
      rw [HT.out, HQ.out, HO.out]
      obtain ⟨dX3, eX3⟩ := (FX3.out.al (.cells #[.int .i64 (0), .int .i64 (0)] 25))
      go_wp2_with fail
      refine (alive_any _).mono ?_
      rintro e w' ⟨rfl, rfl⟩
      go_wp2
      go_ret
      exact ⟨ret_b (by first | rfl | (simp; done) | (simp; omega) | (simp_all; done)), (HB3.out.alloc (by have := HB3.out.size; first | omega | (simp; omega)) _)⟩
  · go_enter Try.func14, Try.ntmps14
    go_wp2
    go_ret
    exact ⟨rfl, Below.refl _ _⟩

end Go.Proofs.Ytnapknogfdkgbaa
