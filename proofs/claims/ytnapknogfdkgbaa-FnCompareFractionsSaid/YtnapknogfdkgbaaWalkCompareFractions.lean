/-
  The walk of laws.FnCompareFractions.
-/
import Derived.Test.YtnapknogfdkgbaaFracAt
import Derived.Test.YtnapknogfdkgbaaFracCmp
import Derived.Test.YtnapknogfdkgbaaFracLaws
import Derived.Test.YtnapknogfdkgbaaFracDrawC
import Derived.Test.YtnapknogfdkgbaaAlive
namespace Go.Proofs.Ytnapknogfdkgbaa
open Go.RowKit
set_option linter.unusedVariables false

set_option maxRecDepth 100000 in
set_option maxHeartbeats 4000000 in
theorem fnCompareFractions_core (a0 : Option Addr) (len0 cap0 : Nat) (w : World) (hrow : CodeRow w a0 len0 cap0) :
    Calls Try.prog 8 #[.slice a0 len0 cap0] w fun e w' => e = .returned (.bool true) ∧ Below w.heap.size w w' := by
  have hcap := hrow.1; have hmx := hrow.2.1
  unfold maxLen at hmx
  by_cases hl : len0 ≤ 1048576
  · go_enter Try.func8, Try.ntmps8
    go_wp2_with fail
    refine (drawCmp_any a0 len0 cap0 _ hrow).mono ?_
    rintro e w1 ⟨aT, aB, bT, bB, rfl, hb1⟩
    have HB1 := Lib.hid hb1; clear hb1 hrow
    go_wp2_with fail
    refine (cmp_impl aT aB bT bB _).mono ?_
    rintro e w2 ⟨rfl, hb2⟩
    have FA2 : Hid (FrAt w2 (w1.heap.size) aT aB) := FrAt.keep (by first | exact ((FrAt.new _ _ _ _).al _) | (refine ⟨?_, ?_⟩ <;> simp [go_sem])) hb2
    have FB2 : Hid (FrAt w2 (w1.heap.size + 1) bT bB) := FrAt.keep (by first | exact FrAt.new _ _ _ _ | (refine ⟨?_, ?_⟩ <;> simp [go_sem])) hb2
    have HB2 := Lib.hid (((HB1.out.alloc (by have := HB1.out.size; first | omega | (simp; omega)) _).alloc (by have := HB1.out.size; first | omega | (simp; omega)) _).trans (hb2.mono (by have := HB1.out.size; first | omega | (simp; omega)))); clear hb2 HB1
    obtain ⟨dA2, eA2⟩ := FA2.out
    obtain ⟨dB2, eB2⟩ := FB2.out
    go_wp2_with fail
    refine (cmp_spec aT aB bT bB _).mono ?_
    rintro e w3 ⟨rfl, hb3⟩
    have FA3 : Hid (FrAt w3 (w1.heap.size) aT aB) := FrAt.keep FA2.out hb3
    have FB3 : Hid (FrAt w3 (w1.heap.size + 1) bT bB) := FrAt.keep FB2.out hb3
    have HB3 := Lib.hid (HB2.out.trans (hb3.mono (by have := HB2.out.size; first | omega | (simp; omega)))); clear hb3 HB2 FA2 FB2
    obtain ⟨dA3, eA3⟩ := FA3.out
    obtain ⟨dB3, eB3⟩ := FB3.out
    by_cases ha : vB aT aB = true
    · by_cases hb : vB bT bB = true
      · rw [ha, hb, show cmpF (true && true) (aT * bB) (bT * aB) = cmpI (aT * bB) (bT * aB) from rfl]
        by_cases l1 : aT * bB < bT * aB
        · rw [cmpI_lt l1]
          have ne : ¬ (aT = bT ∧ aB = bB) := by rintro ⟨rfl, rfl⟩; omega
          have HC := Lib.hid (show cmpF (vB bT bB && vB aT aB) (bT * aB) (aT * bB) = 1 by rw [ha, hb]; exact cmpI_gt l1)
          clear ha hb l1
          by_cases n1 : aT = bT
          · have n1b : (aT == bT) = true := by simpa using n1
            have n2b : (aB == bB) = false := by simp; omega
            clear n1 ne
            go_wp2_with fail
            refine (cmp_impl bT bB aT aB _).mono ?_
            rintro e w4 ⟨rfl, hb4⟩
            have FA4 : Hid (FrAt w4 (w1.heap.size) aT aB) := FrAt.keep FA3.out hb4
            have FB4 : Hid (FrAt w4 (w1.heap.size + 1) bT bB) := FrAt.keep FB3.out hb4
            have HB4 := Lib.hid (HB3.out.trans (hb4.mono (by have := HB3.out.size; first | omega | (simp; omega)))); clear hb4 HB3 FA3 FB3
            obtain ⟨dA4, eA4⟩ := FA4.out
            obtain ⟨dB4, eB4⟩ := FB4.out
            rw [HC.out]
            go_wp2
            go_ret
            exact ⟨ret_b (by first | rfl | (simp; done) | (simp; omega) | (simp_all; done)), HB4.out⟩
          · have n1b : (aT == bT) = false := by simpa using n1
            clear n1 ne
            go_wp2_with fail
            refine (cmp_impl bT bB aT aB _).mono ?_
            rintro e w4 ⟨rfl, hb4⟩
            have FA4 : Hid (FrAt w4 (w1.heap.size) aT aB) := FrAt.keep FA3.out hb4
            have FB4 : Hid (FrAt w4 (w1.heap.size + 1) bT bB) := FrAt.keep FB3.out hb4
            have HB4 := Lib.hid (HB3.out.trans (hb4.mono (by have := HB3.out.size; first | omega | (simp; omega)))); clear hb4 HB3 FA3 FB3
            obtain ⟨dA4, eA4⟩ := FA4.out
            obtain ⟨dB4, eB4⟩ := FB4.out
            rw [HC.out]
            go_wp2
            go_ret
            exact ⟨ret_b (by first | rfl | (simp; done) | (simp; omega) | (simp_all; done)), HB4.out⟩
        · by_cases l2 : bT * aB < aT * bB
          · rw [cmpI_gt l2]
            have ne : ¬ (aT = bT ∧ aB = bB) := by rintro ⟨rfl, rfl⟩; omega
            have HC := Lib.hid (show cmpF (vB bT bB && vB aT aB) (bT * aB) (aT * bB) = -1 by rw [ha, hb]; exact cmpI_lt l2)
            clear ha hb l1 l2
            by_cases n1 : aT = bT
            · have n1b : (aT == bT) = true := by simpa using n1
              have n2b : (aB == bB) = false := by simp; omega
              clear n1 ne
              go_wp2_with fail
              refine (cmp_impl bT bB aT aB _).mono ?_
              rintro e w4 ⟨rfl, hb4⟩
              have FA4 : Hid (FrAt w4 (w1.heap.size) aT aB) := FrAt.keep FA3.out hb4
              have FB4 : Hid (FrAt w4 (w1.heap.size + 1) bT bB) := FrAt.keep FB3.out hb4
              have HB4 := Lib.hid (HB3.out.trans (hb4.mono (by have := HB3.out.size; first | omega | (simp; omega)))); clear hb4 HB3 FA3 FB3
              obtain ⟨dA4, eA4⟩ := FA4.out
              obtain ⟨dB4, eB4⟩ := FB4.out
              rw [HC.out]
              go_wp2
              go_ret
              exact ⟨ret_b (by first | rfl | (simp; done) | (simp; omega) | (simp_all; done)), HB4.out⟩
            · have n1b : (aT == bT) = false := by simpa using n1
              clear n1 ne
              go_wp2_with fail
              refine (cmp_impl bT bB aT aB _).mono ?_
              rintro e w4 ⟨rfl, hb4⟩
              have FA4 : Hid (FrAt w4 (w1.heap.size) aT aB) := FrAt.keep FA3.out hb4
              have FB4 : Hid (FrAt w4 (w1.heap.size + 1) bT bB) := FrAt.keep FB3.out hb4
              have HB4 := Lib.hid (HB3.out.trans (hb4.mono (by have := HB3.out.size; first | omega | (simp; omega)))); clear hb4 HB3 FA3 FB3
              obtain ⟨dA4, eA4⟩ := FA4.out
              obtain ⟨dB4, eB4⟩ := FB4.out
              rw [HC.out]
              go_wp2
              go_ret
              exact ⟨ret_b (by first | rfl | (simp; done) | (simp; omega) | (simp_all; done)), HB4.out⟩
          · have l3 : aT * bB = bT * aB := by omega
            rw [cmpI_eq l3]
            have HC := Lib.hid (show cmpF (vB bT bB && vB aT aB) (bT * aB) (aT * bB) = 0 by rw [ha, hb]; exact cmpI_eq l3.symm)
            obtain ⟨e1, e2⟩ := same_of ha hb l3
            have n1b : (aT == bT) = true := by simpa using e1
            have n2b : (aB == bB) = true := by simpa using e2
            clear ha hb l1 l2 l3 e1 e2
            go_wp2_with fail
            refine (cmp_impl bT bB aT aB _).mono ?_
            rintro e w4 ⟨rfl, hb4⟩
            have FA4 : Hid (FrAt w4 (w1.heap.size) aT aB) := FrAt.keep FA3.out hb4
            have FB4 : Hid (FrAt w4 (w1.heap.size + 1) bT bB) := FrAt.keep FB3.out hb4
            have HB4 := Lib.hid (HB3.out.trans (hb4.mono (by have := HB3.out.size; first | omega | (simp; omega)))); clear hb4 HB3 FA3 FB3
            obtain ⟨dA4, eA4⟩ := FA4.out
            obtain ⟨dB4, eB4⟩ := FB4.out
            rw [HC.out]
            go_wp2
            go_ret
            exact ⟨ret_b (by first | rfl | (simp; done) | (simp; omega) | (simp_all; done)), HB4.out⟩
      · have hb' := Bool.eq_false_iff.mpr hb
        rw [ha, hb', show cmpF (true && false) (aT * bB) (bT * aB) = 2 from rfl]
        have HC := Lib.hid (show cmpF (vB bT bB && vB aT aB) (bT * aB) (aT * bB) = 2 by rw [ha, hb']; rfl)
        clear ha hb hb'
        go_wp2_with fail
        refine (cmp_impl bT bB aT aB _).mono ?_
        rintro e w4 ⟨rfl, hb4⟩
        have FA4 : Hid (FrAt w4 (w1.heap.size) aT aB) := FrAt.keep FA3.out hb4
        have FB4 : Hid (FrAt w4 (w1.heap.size + 1) bT bB) := FrAt.keep FB3.out hb4
        have HB4 := Lib.hid (HB3.out.trans (hb4.mono (by have := HB3.out.size; first | omega | (simp; omega)))); clear hb4 HB3 FA3 FB3
        rw [HC.out]
        go_wp2_with fail
        refine (alive_any _).mono ?_
        rintro e w' ⟨rfl, rfl⟩
        go_wp2
        go_ret
        exact ⟨ret_b (by first | rfl | (simp; done) | (simp; omega) | (simp_all; done)), HB4.out⟩
    · have ha' := Bool.eq_false_iff.mpr ha
      rw [ha', show cmpF (false && vB bT bB) (aT * bB) (bT * aB) = 2 from rfl]
      have HC := Lib.hid (show cmpF (vB bT bB && vB aT aB) (bT * aB) (aT * bB) = 2 by rw [ha', Bool.and_false]; rfl)
      clear ha ha'
      go_wp2_with fail
      refine (cmp_impl bT bB aT aB _).mono ?_
      rintro e w4 ⟨rfl, hb4⟩
      have FA4 : Hid (FrAt w4 (w1.heap.size) aT aB) := FrAt.keep FA3.out hb4
      have FB4 : Hid (FrAt w4 (w1.heap.size + 1) bT bB) := FrAt.keep FB3.out hb4
      have HB4 := Lib.hid (HB3.out.trans (hb4.mono (by have := HB3.out.size; first | omega | (simp; omega)))); clear hb4 HB3 FA3 FB3
      rw [HC.out]
      go_wp2_with fail
      refine (alive_any _).mono ?_
      rintro e w' ⟨rfl, rfl⟩
      go_wp2
      go_ret
      exact ⟨ret_b (by first | rfl | (simp; done) | (simp; omega) | (simp_all; done)), HB4.out⟩
  · go_enter Try.func8, Try.ntmps8
    go_wp2
    go_ret
    exact ⟨rfl, Below.refl _ _⟩

end Go.Proofs.Ytnapknogfdkgbaa
