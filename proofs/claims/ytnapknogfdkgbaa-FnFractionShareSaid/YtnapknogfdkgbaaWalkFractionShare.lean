/-
  The walk of laws.FnFractionShare.
-/
import Derived.Test.YtnapknogfdkgbaaFracAt
import Derived.Test.YtnapknogfdkgbaaFracSpec
import Derived.Test.YtnapknogfdkgbaaFracImpl
import Derived.Test.YtnapknogfdkgbaaFracLaws
import Derived.Test.YtnapknogfdkgbaaFracDrawMul
import Derived.Test.YtnapknogfdkgbaaAlive
namespace Go.Proofs.Ytnapknogfdkgbaa
open Go.RowKit
set_option linter.unusedVariables false

set_option maxRecDepth 100000 in
set_option maxHeartbeats 4000000 in
theorem fnFractionShare_core (a0 : Option Addr) (len0 cap0 : Nat) (a1 : Option Addr) (len1 cap1 : Nat) (w : World) (hrow : CodeRow w a0 len0 cap0) (hrow1 : CodeRow w a1 len1 cap1) :
    Calls Try.prog 10 #[.slice a0 len0 cap0, .slice a1 len1 cap1] w fun e w' => e = .returned (.bool true) ∧ Below w.heap.size w w' := by
  have hcap := hrow.1; have hmx := hrow.2.1; have hcap1 := hrow1.1; have hmx1 := hrow1.2.1
  unfold maxLen at hmx hmx1
  by_cases hl : len0 ≤ 1048576
  · by_cases hl1 : len1 ≤ 1048576
    · have HR1 := Lib.hid hrow1
      clear hrow1
      go_enter Try.func10, Try.ntmps10
      go_wp2_with fail
      refine (drawAdd_any a0 len0 cap0 _ hrow).mono ?_
      rintro e w1 ⟨aT, aB, bT, bB, rfl, hb1⟩
      have HB1 := Lib.hid hb1; clear hb1 hrow
      obtain ⟨sT, hs⟩ : ∃ x, opT (vB aT aB && vB bT bB) (aT * bB + bT * aB) (aB * bB) = x := ⟨_, rfl⟩
      obtain ⟨sB, hs2⟩ : ∃ x, opB (vB aT aB && vB bT bB) (aT * bB + bT * aB) (aB * bB) = x := ⟨_, rfl⟩
      obtain ⟨ok, hs3⟩ : ∃ x, opOK (vB aT aB && vB bT bB) (aT * bB + bT * aB) (aB * bB) = x := ⟨_, rfl⟩
      have HS := Lib.hid hs; have HS2 := Lib.hid hs2; have HS3 := Lib.hid hs3; clear hs hs2 hs3
      go_wp2_with fail
      refine (add_impl aT aB bT bB _).mono ?_
      rintro e w2 ⟨rfl, hb2⟩
      have FA2 : Hid (FrAt w2 (w1.heap.size) aT aB) := FrAt.keep (by first | exact ((FrAt.new _ _ _ _).al _) | (refine ⟨?_, ?_⟩ <;> simp [go_sem])) hb2
      have FB2 : Hid (FrAt w2 (w1.heap.size + 1) bT bB) := FrAt.keep (by first | exact FrAt.new _ _ _ _ | (refine ⟨?_, ?_⟩ <;> simp [go_sem])) hb2
      have HB2 := Lib.hid (((HB1.out.alloc (by have := HB1.out.size; first | omega | (simp; omega)) _).alloc (by have := HB1.out.size; first | omega | (simp; omega)) _).trans (hb2.mono (by have := HB1.out.size; first | omega | (simp; omega)))); clear hb2 HB1
      rw [HS.out, HS2.out, HS3.out]
      obtain ⟨dA2, eA2⟩ := (FA2.out.al (.cells #[.int .i64 (sT), .int .i64 (sB)] 25))
      obtain ⟨dB2, eB2⟩ := (FB2.out.al (.cells #[.int .i64 (sT), .int .i64 (sB)] 25))
      go_wp2_with fail
      refine (add_spec aT aB bT bB _).mono ?_
      rintro e w3 ⟨rfl, hb3⟩
      have FA3 : Hid (FrAt w3 (w1.heap.size) aT aB) := FrAt.keep (FA2.out.al _) hb3
      have FB3 : Hid (FrAt w3 (w1.heap.size + 1) bT bB) := FrAt.keep (FB2.out.al _) hb3
      have FS3 : Hid (FrAt w3 (w2.heap.size) sT sB) := FrAt.keep (by first | exact FrAt.new _ _ _ _ | (refine ⟨?_, ?_⟩ <;> simp [go_sem])) hb3
      have HB3 := Lib.hid ((HB2.out.alloc (by have := HB2.out.size; first | omega | (simp; omega)) _).trans (hb3.mono (by have := HB2.out.size; first | omega | (simp; omega)))); clear hb3 HB2 FA2 FB2
      clear dA2 eA2 dB2 eB2
      rw [HS.out, HS2.out, HS3.out]
      obtain ⟨dS3, eS3⟩ := (FS3.out.al (.cells #[.int .i64 (sT), .int .i64 (sB)] 25))
      go_wp2_with fail
      refine (drawMul_any a1 len1 cap1 _ (HR1.out.mono (HB3.out.alloc (by have := HB3.out.size; first | omega | (simp; omega)) _))).mono ?_
      rintro e w4 ⟨cT, cB, dT, dB, rfl, hb4⟩
      have FA4 : Hid (FrAt w4 (w1.heap.size) aT aB) := FrAt.keep (FA3.out.al _) hb4
      have FB4 : Hid (FrAt w4 (w1.heap.size + 1) bT bB) := FrAt.keep (FB3.out.al _) hb4
      have FS4 : Hid (FrAt w4 (w2.heap.size) sT sB) := FrAt.keep (FS3.out.al _) hb4
      have FW4 : Hid (FrAt w4 (w3.heap.size) sT sB) := FrAt.keep (by first | exact FrAt.new _ _ _ _ | (refine ⟨?_, ?_⟩ <;> simp [go_sem])) hb4
      have HB4 := Lib.hid ((HB3.out.alloc (by have := HB3.out.size; first | omega | (simp; omega)) _).trans (hb4.mono (by have := HB3.out.size; first | omega | (simp; omega)))); clear hb4 HB3 FA3 FB3 FS3
      clear dS3 eS3
      obtain ⟨pT, h1⟩ : ∃ x, opT (vB sT sB && vB cT cB) (sT * cT) (sB * cB) = x := ⟨_, rfl⟩
      obtain ⟨pB, h2⟩ : ∃ x, opB (vB sT sB && vB cT cB) (sT * cT) (sB * cB) = x := ⟨_, rfl⟩
      obtain ⟨pO, h3⟩ : ∃ x, opOK (vB sT sB && vB cT cB) (sT * cT) (sB * cB) = x := ⟨_, rfl⟩
      have HP := Lib.hid h1; have HP2 := Lib.hid h2; have HP3 := Lib.hid h3; clear h1 h2 h3
      obtain ⟨xT, h1⟩ : ∃ x, opT (vB aT aB && vB cT cB) (aT * cT) (aB * cB) = x := ⟨_, rfl⟩
      obtain ⟨xB, h2⟩ : ∃ x, opB (vB aT aB && vB cT cB) (aT * cT) (aB * cB) = x := ⟨_, rfl⟩
      obtain ⟨xO, h3⟩ : ∃ x, opOK (vB aT aB && vB cT cB) (aT * cT) (aB * cB) = x := ⟨_, rfl⟩
      have HX := Lib.hid h1; have HX2 := Lib.hid h2; have HX3 := Lib.hid h3; clear h1 h2 h3
      obtain ⟨yT, h1⟩ : ∃ x, opT (vB bT bB && vB cT cB) (bT * cT) (bB * cB) = x := ⟨_, rfl⟩
      obtain ⟨yB, h2⟩ : ∃ x, opB (vB bT bB && vB cT cB) (bT * cT) (bB * cB) = x := ⟨_, rfl⟩
      obtain ⟨yO, h3⟩ : ∃ x, opOK (vB bT bB && vB cT cB) (bT * cT) (bB * cB) = x := ⟨_, rfl⟩
      have HY := Lib.hid h1; have HY2 := Lib.hid h2; have HY3 := Lib.hid h3; clear h1 h2 h3
      obtain ⟨zT, h1⟩ : ∃ x, opT (vB xT xB && vB yT yB) (xT * yB + yT * xB) (xB * yB) = x := ⟨_, rfl⟩
      obtain ⟨zB, h2⟩ : ∃ x, opB (vB xT xB && vB yT yB) (xT * yB + yT * xB) (xB * yB) = x := ⟨_, rfl⟩
      obtain ⟨zO, h3⟩ : ∃ x, opOK (vB xT xB && vB yT yB) (xT * yB + yT * xB) (xB * yB) = x := ⟨_, rfl⟩
      have HZ := Lib.hid h1; have HZ2 := Lib.hid h2; have HZ3 := Lib.hid h3; clear h1 h2 h3
      obtain ⟨dS4, eS4⟩ := ((FS4.out.al (.cells #[.int .i64 (cT), .int .i64 (cB)] 25)).al (.cells #[.int .i64 (dT), .int .i64 (dB)] 25))
      go_wp2_with fail
      refine (mul_impl sT sB cT cB _).mono ?_
      rintro e w5 ⟨rfl, hb5⟩
      have FA5 : Hid (FrAt w5 (w1.heap.size) aT aB) := FrAt.keep ((FA4.out.al _).al _) hb5
      have FB5 : Hid (FrAt w5 (w1.heap.size + 1) bT bB) := FrAt.keep ((FB4.out.al _).al _) hb5
      have FS5 : Hid (FrAt w5 (w2.heap.size) sT sB) := FrAt.keep ((FS4.out.al _).al _) hb5
      have FW5 : Hid (FrAt w5 (w3.heap.size) sT sB) := FrAt.keep ((FW4.out.al _).al _) hb5
      have FC5 : Hid (FrAt w5 (w4.heap.size) cT cB) := FrAt.keep (by first | exact ((FrAt.new _ _ _ _).al _) | (refine ⟨?_, ?_⟩ <;> simp [go_sem])) hb5
      have FD5 : Hid (FrAt w5 (w4.heap.size + 1) dT dB) := FrAt.keep (by first | exact FrAt.new _ _ _ _ | (refine ⟨?_, ?_⟩ <;> simp [go_sem])) hb5
      have HB5 := Lib.hid (((HB4.out.alloc (by have := HB4.out.size; first | omega | (simp; omega)) _).alloc (by have := HB4.out.size; first | omega | (simp; omega)) _).trans (hb5.mono (by have := HB4.out.size; first | omega | (simp; omega)))); clear hb5 HB4 FA4 FB4 FS4 FW4
      clear dS4 eS4
      rw [HP.out, HP2.out, HP3.out]
      obtain ⟨dA5, eA5⟩ := (FA5.out.al (.cells #[.int .i64 (pT), .int .i64 (pB)] 25))
      obtain ⟨dC5, eC5⟩ := (FC5.out.al (.cells #[.int .i64 (pT), .int .i64 (pB)] 25))
      go_wp2_with fail
      refine (mul_impl aT aB cT cB _).mono ?_
      rintro e w6 ⟨rfl, hb6⟩
      have FA6 : Hid (FrAt w6 (w1.heap.size) aT aB) := FrAt.keep (FA5.out.al _) hb6
      have FB6 : Hid (FrAt w6 (w1.heap.size + 1) bT bB) := FrAt.keep (FB5.out.al _) hb6
      have FS6 : Hid (FrAt w6 (w2.heap.size) sT sB) := FrAt.keep (FS5.out.al _) hb6
      have FW6 : Hid (FrAt w6 (w3.heap.size) sT sB) := FrAt.keep (FW5.out.al _) hb6
      have FC6 : Hid (FrAt w6 (w4.heap.size) cT cB) := FrAt.keep (FC5.out.al _) hb6
      have FD6 : Hid (FrAt w6 (w4.heap.size + 1) dT dB) := FrAt.keep (FD5.out.al _) hb6
      have FP6 : Hid (FrAt w6 (w5.heap.size) pT pB) := FrAt.keep (by first | exact FrAt.new _ _ _ _ | (refine ⟨?_, ?_⟩ <;> simp [go_sem])) hb6
      have HB6 := Lib.hid ((HB5.out.alloc (by have := HB5.out.size; first | omega | (simp; omega)) _).trans (hb6.mono (by have := HB5.out.size; first | omega | (simp; omega)))); clear hb6 HB5 FA5 FB5 FS5 FW5 FC5 FD5
      clear dA5 eA5 dC5 eC5
      rw [HX.out, HX2.out, HX3.out]
      obtain ⟨dB6, eB6⟩ := (FB6.out.al (.cells #[.int .i64 (xT), .int .i64 (xB)] 25))
      obtain ⟨dC6, eC6⟩ := (FC6.out.al (.cells #[.int .i64 (xT), .int .i64 (xB)] 25))
      go_wp2_with fail
      refine (mul_impl bT bB cT cB _).mono ?_
      rintro e w7 ⟨rfl, hb7⟩
      have FA7 : Hid (FrAt w7 (w1.heap.size) aT aB) := FrAt.keep (FA6.out.al _) hb7
      have FB7 : Hid (FrAt w7 (w1.heap.size + 1) bT bB) := FrAt.keep (FB6.out.al _) hb7
      have FS7 : Hid (FrAt w7 (w2.heap.size) sT sB) := FrAt.keep (FS6.out.al _) hb7
      have FW7 : Hid (FrAt w7 (w3.heap.size) sT sB) := FrAt.keep (FW6.out.al _) hb7
      have FC7 : Hid (FrAt w7 (w4.heap.size) cT cB) := FrAt.keep (FC6.out.al _) hb7
      have FD7 : Hid (FrAt w7 (w4.heap.size + 1) dT dB) := FrAt.keep (FD6.out.al _) hb7
      have FP7 : Hid (FrAt w7 (w5.heap.size) pT pB) := FrAt.keep (FP6.out.al _) hb7
      have FX7 : Hid (FrAt w7 (w6.heap.size) xT xB) := FrAt.keep (by first | exact FrAt.new _ _ _ _ | (refine ⟨?_, ?_⟩ <;> simp [go_sem])) hb7
      have HB7 := Lib.hid ((HB6.out.alloc (by have := HB6.out.size; first | omega | (simp; omega)) _).trans (hb7.mono (by have := HB6.out.size; first | omega | (simp; omega)))); clear hb7 HB6 FA6 FB6 FS6 FW6 FC6 FD6 FP6
      clear dB6 eB6 dC6 eC6
      rw [HY.out, HY2.out, HY3.out]
      obtain ⟨dX7, eX7⟩ := (FX7.out.al (.cells #[.int .i64 (yT), .int .i64 (yB)] 25))
      go_wp2_with fail
      refine (add_impl xT xB yT yB _).mono ?_
      rintro e w8 ⟨rfl, hb8⟩
      have FA8 : Hid (FrAt w8 (w1.heap.size) aT aB) := FrAt.keep (FA7.out.al _) hb8
      have FB8 : Hid (FrAt w8 (w1.heap.size + 1) bT bB) := FrAt.keep (FB7.out.al _) hb8
      have FS8 : Hid (FrAt w8 (w2.heap.size) sT sB) := FrAt.keep (FS7.out.al _) hb8
      have FW8 : Hid (FrAt w8 (w3.heap.size) sT sB) := FrAt.keep (FW7.out.al _) hb8
      have FC8 : Hid (FrAt w8 (w4.heap.size) cT cB) := FrAt.keep (FC7.out.al _) hb8
      have FD8 : Hid (FrAt w8 (w4.heap.size + 1) dT dB) := FrAt.keep (FD7.out.al _) hb8
      have FP8 : Hid (FrAt w8 (w5.heap.size) pT pB) := FrAt.keep (FP7.out.al _) hb8
      have FX8 : Hid (FrAt w8 (w6.heap.size) xT xB) := FrAt.keep (FX7.out.al _) hb8
      have FY8 : Hid (FrAt w8 (w7.heap.size) yT yB) := FrAt.keep (by first | exact FrAt.new _ _ _ _ | (refine ⟨?_, ?_⟩ <;> simp [go_sem])) hb8
      have HB8 := Lib.hid ((HB7.out.alloc (by have := HB7.out.size; first | omega | (simp; omega)) _).trans (hb8.mono (by have := HB7.out.size; first | omega | (simp; omega)))); clear hb8 HB7 FA7 FB7 FS7 FW7 FC7 FD7 FP7 FX7
      clear dX7 eX7
      rw [HZ.out, HZ2.out, HZ3.out]
      obtain ⟨dP8, eP8⟩ := (FP8.out.al (.cells #[.int .i64 (zT), .int .i64 (zB)] 25))
      cases ok with
      | false =>
        go_wp2
        go_ret
        exact ⟨ret_b (by first | rfl | (simp; done) | (simp; omega) | (simp_all; done)), (HB8.out.alloc (by have := HB8.out.size; first | omega | (simp; omega)) _)⟩
      | true =>
        cases pO with
        | false =>
          go_wp2
          go_ret
          exact ⟨ret_b (by first | rfl | (simp; done) | (simp; omega) | (simp_all; done)), (HB8.out.alloc (by have := HB8.out.size; first | omega | (simp; omega)) _)⟩
        | true =>
          cases xO with
          | false =>
            go_wp2
            go_ret
            exact ⟨ret_b (by first | rfl | (simp; done) | (simp; omega) | (simp_all; done)), (HB8.out.alloc (by have := HB8.out.size; first | omega | (simp; omega)) _)⟩
          | true =>
            cases yO with
            | false =>
              go_wp2
              go_ret
              exact ⟨ret_b (by first | rfl | (simp; done) | (simp; omega) | (simp_all; done)), (HB8.out.alloc (by have := HB8.out.size; first | omega | (simp; omega)) _)⟩
            | true =>
              cases zO with
              | false =>
                go_wp2
                go_ret
                exact ⟨ret_b (by first | rfl | (simp; done) | (simp; omega) | (simp_all; done)), (HB8.out.alloc (by have := HB8.out.size; first | omega | (simp; omega)) _)⟩
              | true =>
                obtain ⟨e1, e2⟩ := share_final HS.out HS2.out HS3.out HP.out HP2.out HP3.out HX.out HX2.out HX3.out HY.out HY2.out HY3.out HZ.out HZ2.out HZ3.out
                have n1b : (pT == zT) = true := by simpa using e1
                have n2b : (pB == zB) = true := by simpa using e2
                clear e1 e2
                go_wp2
                go_ret
                exact ⟨ret_b (by first | rfl | (simp; done) | (simp; omega) | (simp_all; done)), (HB8.out.alloc (by have := HB8.out.size; first | omega | (simp; omega)) _)⟩
    · go_enter Try.func10, Try.ntmps10
      go_wp2
      go_ret
      exact ⟨rfl, Below.refl _ _⟩
  · go_enter Try.func10, Try.ntmps10
    go_wp2
    go_ret
    exact ⟨rfl, Below.refl _ _⟩

end Go.Proofs.Ytnapknogfdkgbaa
