/-
  The walk of laws.FnFractionOrder.
-/
import Derived.Test.YtnapknogfdkgbaaFracAt
import Derived.Test.YtnapknogfdkgbaaFracCmp
import Derived.Test.YtnapknogfdkgbaaFracImpl
import Derived.Test.YtnapknogfdkgbaaFracLaws
import Derived.Test.YtnapknogfdkgbaaFracDrawC
import Derived.Test.YtnapknogfdkgbaaAlive
namespace Go.Proofs.Ytnapknogfdkgbaa
open Go.RowKit
set_option linter.unusedVariables false

set_option maxRecDepth 100000 in
set_option maxHeartbeats 4000000 in
theorem fnFractionOrder_core (a0 : Option Addr) (len0 cap0 : Nat) (a1 : Option Addr) (len1 cap1 : Nat) (w : World) (hrow : CodeRow w a0 len0 cap0) (hrow1 : CodeRow w a1 len1 cap1) :
    Calls Try.prog 9 #[.slice a0 len0 cap0, .slice a1 len1 cap1] w fun e w' => e = .returned (.bool true) ∧ Below w.heap.size w w' := by
  have hcap := hrow.1; have hmx := hrow.2.1; have hcap1 := hrow1.1; have hmx1 := hrow1.2.1
  unfold maxLen at hmx hmx1
  by_cases hl : len0 ≤ 1048576
  · by_cases hl1 : len1 ≤ 1048576
    · have HR1 := Lib.hid hrow1
      clear hrow1
      go_enter Try.func9, Try.ntmps9
      go_wp2_with fail
      refine (drawCmp_any a0 len0 cap0 _ hrow).mono ?_
      rintro e w1 ⟨aT, aB, bT, bB, rfl, hb1⟩
      have HB1 := Lib.hid hb1; clear hb1 hrow
      go_wp2_with fail
      refine (cmp_impl aT aB bT bB _).mono ?_
      rintro e w2 ⟨rfl, hb2⟩
      have FA2 : Hid (FrAt w2 (w1.heap.size) aT aB) := FrAt.keep (by first | exact ((FrAt.new _ _ _ _).al _) | (refine ⟨?_, ?_⟩ <;> simp [go_sem])) hb2
      have FB2 : Hid (FrAt w2 (w1.heap.size + 1) bT bB) := FrAt.keep (by first | exact FrAt.new _ _ _ _ | (refine ⟨?_, ?_⟩ <;> simp [go_sem])) hb2
      have HB2 := Lib.hid (((HB1.out.alloc (by have := HB1.out.size; first | omega | (simp; omega)) _).alloc (by have := HB1.out.size; first | omega | (simp; omega)) _).trans (hb2.mono (by have := HB1.out.size; first | omega | (simp; omega)))); clear hb2 HB1
      obtain ⟨dA2, eA2⟩ := FA2.out
      obtain ⟨dB2, eB2⟩ := FB2.out
      go_wp2_with fail
      refine (cmp_spec aT aB bT bB _).mono ?_
      rintro e w3 ⟨rfl, hb3⟩
      have FA3 : Hid (FrAt w3 (w1.heap.size) aT aB) := FrAt.keep FA2.out hb3
      have FB3 : Hid (FrAt w3 (w1.heap.size + 1) bT bB) := FrAt.keep FB2.out hb3
      have HB3 := Lib.hid (HB2.out.trans (hb3.mono (by have := HB2.out.size; first | omega | (simp; omega)))); clear hb3 HB2 FA2 FB2
      clear dA2 eA2 dB2 eB2
      obtain ⟨dA3, eA3⟩ := FA3.out
      obtain ⟨dB3, eB3⟩ := FB3.out
      generalize hn : cmpF (vB aT aB && vB bT bB) (aT * bB) (bT * aB) = n
      have HN := Lib.hid hn; clear hn
      go_wp2_with fail
      refine (drawAdd_any a1 len1 cap1 _ (HR1.out.mono HB3.out)).mono ?_
      rintro e w4 ⟨cT, cB, dT, dB, rfl, hb4⟩
      have FA4 : Hid (FrAt w4 (w1.heap.size) aT aB) := FrAt.keep FA3.out hb4
      have FB4 : Hid (FrAt w4 (w1.heap.size + 1) bT bB) := FrAt.keep FB3.out hb4
      have HB4 := Lib.hid (HB3.out.trans (hb4.mono (by have := HB3.out.size; first | omega | (simp; omega)))); clear hb4 HB3 FA3 FB3
      clear dA3 eA3 dB3 eB3
      obtain ⟨xT, hx⟩ : ∃ x, opT (vB aT aB && vB cT cB) (aT * cB + cT * aB) (aB * cB) = x := ⟨_, rfl⟩
      obtain ⟨xB, hx2⟩ : ∃ x, opB (vB aT aB && vB cT cB) (aT * cB + cT * aB) (aB * cB) = x := ⟨_, rfl⟩
      obtain ⟨one, hx3⟩ : ∃ x, opOK (vB aT aB && vB cT cB) (aT * cB + cT * aB) (aB * cB) = x := ⟨_, rfl⟩
      obtain ⟨yT, hy⟩ : ∃ x, opT (vB bT bB && vB cT cB) (bT * cB + cT * bB) (bB * cB) = x := ⟨_, rfl⟩
      obtain ⟨yB, hy2⟩ : ∃ x, opB (vB bT bB && vB cT cB) (bT * cB + cT * bB) (bB * cB) = x := ⟨_, rfl⟩
      obtain ⟨two, hy3⟩ : ∃ x, opOK (vB bT bB && vB cT cB) (bT * cB + cT * bB) (bB * cB) = x := ⟨_, rfl⟩
      have HX := Lib.hid hx; have HX2 := Lib.hid hx2; have HX3 := Lib.hid hx3; have HY := Lib.hid hy; have HY2 := Lib.hid hy2; have HY3 := Lib.hid hy3; clear hx hx2 hx3 hy hy2 hy3
      obtain ⟨dA4, eA4⟩ := ((FA4.out.al (.cells #[.int .i64 (cT), .int .i64 (cB)] 25)).al (.cells #[.int .i64 (dT), .int .i64 (dB)] 25))
      go_wp2_with fail
      refine (add_impl aT aB cT cB _).mono ?_
      rintro e w5 ⟨rfl, hb5⟩
      have FA5 : Hid (FrAt w5 (w1.heap.size) aT aB) := FrAt.keep ((FA4.out.al _).al _) hb5
      have FB5 : Hid (FrAt w5 (w1.heap.size + 1) bT bB) := FrAt.keep ((FB4.out.al _).al _) hb5
      have FC5 : Hid (FrAt w5 (w4.heap.size) cT cB) := FrAt.keep (by first | exact ((FrAt.new _ _ _ _).al _) | (refine ⟨?_, ?_⟩ <;> simp [go_sem])) hb5
      have FD5 : Hid (FrAt w5 (w4.heap.size + 1) dT dB) := FrAt.keep (by first | exact FrAt.new _ _ _ _ | (refine ⟨?_, ?_⟩ <;> simp [go_sem])) hb5
      have HB5 := Lib.hid (((HB4.out.alloc (by have := HB4.out.size; first | omega | (simp; omega)) _).alloc (by have := HB4.out.size; first | omega | (simp; omega)) _).trans (hb5.mono (by have := HB4.out.size; first | omega | (simp; omega)))); clear hb5 HB4 FA4 FB4
      clear dA4 eA4
      rw [HX.out, HX2.out, HX3.out]
      obtain ⟨dB5, eB5⟩ := (FB5.out.al (.cells #[.int .i64 (xT), .int .i64 (xB)] 25))
      obtain ⟨dC5, eC5⟩ := (FC5.out.al (.cells #[.int .i64 (xT), .int .i64 (xB)] 25))
      go_wp2_with fail
      refine (add_impl bT bB cT cB _).mono ?_
      rintro e w6 ⟨rfl, hb6⟩
      have FA6 : Hid (FrAt w6 (w1.heap.size) aT aB) := FrAt.keep (FA5.out.al _) hb6
      have FB6 : Hid (FrAt w6 (w1.heap.size + 1) bT bB) := FrAt.keep (FB5.out.al _) hb6
      have FC6 : Hid (FrAt w6 (w4.heap.size) cT cB) := FrAt.keep (FC5.out.al _) hb6
      have FD6 : Hid (FrAt w6 (w4.heap.size + 1) dT dB) := FrAt.keep (FD5.out.al _) hb6
      have FX6 : Hid (FrAt w6 (w5.heap.size) xT xB) := FrAt.keep (by first | exact FrAt.new _ _ _ _ | (refine ⟨?_, ?_⟩ <;> simp [go_sem])) hb6
      have HB6 := Lib.hid ((HB5.out.alloc (by have := HB5.out.size; first | omega | (simp; omega)) _).trans (hb6.mono (by have := HB5.out.size; first | omega | (simp; omega)))); clear hb6 HB5 FA5 FB5 FC5 FD5
      clear dB5 eB5 dC5 eC5
      rw [HY.out, HY2.out, HY3.out]
      by_cases h2 : n = 2
      · subst h2
        go_wp2
        go_ret
        exact ⟨ret_b (by first | rfl | (simp; done) | (simp; omega) | (simp_all; done)), (HB6.out.alloc (by have := HB6.out.size; first | omega | (simp; omega)) _)⟩
      · have h2b : (n == 2) = false := by simpa using h2
        cases one with
        | false =>
          go_wp2
          go_ret
          exact ⟨ret_b (by first | rfl | (simp; done) | (simp; omega) | (simp_all; done)), (HB6.out.alloc (by have := HB6.out.size; first | omega | (simp; omega)) _)⟩
        | true =>
          cases two with
          | false =>
            go_wp2
            go_ret
            exact ⟨ret_b (by first | rfl | (simp; done) | (simp; omega) | (simp_all; done)), (HB6.out.alloc (by have := HB6.out.size; first | omega | (simp; omega)) _)⟩
          | true =>
            have HC := Lib.hid (order_final HN.out h2 HX.out HX2.out HX3.out HY.out HY2.out HY3.out)
            clear h2
            obtain ⟨dX6, eX6⟩ := (FX6.out.al (.cells #[.int .i64 (yT), .int .i64 (yB)] 25))
            go_wp2_with fail
            refine (cmp_impl xT xB yT yB _).mono ?_
            rintro e w7 ⟨rfl, hb7⟩
            have FA7 : Hid (FrAt w7 (w1.heap.size) aT aB) := FrAt.keep (FA6.out.al _) hb7
            have FB7 : Hid (FrAt w7 (w1.heap.size + 1) bT bB) := FrAt.keep (FB6.out.al _) hb7
            have FC7 : Hid (FrAt w7 (w4.heap.size) cT cB) := FrAt.keep (FC6.out.al _) hb7
            have FD7 : Hid (FrAt w7 (w4.heap.size + 1) dT dB) := FrAt.keep (FD6.out.al _) hb7
            have FX7 : Hid (FrAt w7 (w5.heap.size) xT xB) := FrAt.keep (FX6.out.al _) hb7
            have FY7 : Hid (FrAt w7 (w6.heap.size) yT yB) := FrAt.keep (by first | exact FrAt.new _ _ _ _ | (refine ⟨?_, ?_⟩ <;> simp [go_sem])) hb7
            have HB7 := Lib.hid ((HB6.out.alloc (by have := HB6.out.size; first | omega | (simp; omega)) _).trans (hb7.mono (by have := HB6.out.size; first | omega | (simp; omega)))); clear hb7 HB6 FA6 FB6 FC6 FD6 FX6
            clear dX6 eX6
            rw [HC.out]
            go_wp2
            go_ret
            exact ⟨ret_b (by first | rfl | (simp; done) | (simp; omega) | (simp_all; done)), HB7.out⟩
    · go_enter Try.func9, Try.ntmps9
      go_wp2
      go_ret
      exact ⟨rfl, Below.refl _ _⟩
  · go_enter Try.func9, Try.ntmps9
    go_wp2
    go_ret
    exact ⟨rfl, Below.refl _ _⟩

end Go.Proofs.Ytnapknogfdkgbaa
