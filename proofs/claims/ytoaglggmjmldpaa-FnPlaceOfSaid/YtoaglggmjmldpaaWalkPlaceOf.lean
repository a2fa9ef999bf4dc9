/-
  The walk of laws.FnPlaceOf.
-/
import Derived.Test.YtoaglggmjmldpaaPlace
import Derived.Test.YtoaglggmjmldpaaAlive
import Derived.Test.YtoaglggmjmldpaaDrawPlaceOf
namespace Go.Proofs.Ytoaglggmjmldpaa
open Go.RowKit
set_option linter.unusedVariables false

set_option maxRecDepth 100000 in
set_option maxHeartbeats 2000000 in
theorem fnPlaceOf_core (a0 : Option Addr) (len0 cap0 : Nat) (w : World) (hrow : CodeRow w a0 len0 cap0) :
    Calls Try.prog 6 #[.slice a0 len0 cap0] w fun e w' => e = .returned (.bool true) ∧ Below w.heap.size w w' := by
  have hcap := hrow.1; have hmx := hrow.2.1
  unfold maxLen at hmx
  by_cases hl : len0 ≤ 1048576
  · go_enter Try.func6, Try.ntmps6
    go_wp2_with fail
    refine (drawPlaceOf_any a0 len0 cap0 _ hrow).mono ?_
    rintro e w1 ⟨s, p, rfl, hs, hp0, hp1, hb⟩
    have HB := Lib.hid hb
    clear hb hrow
    go_wp2_with fail
    refine (placeOf_impl s p _ (by unfold maxLen; omega)).mono ?_
    rintro e w2 ⟨rfl, hb2⟩
    have HB2 := Lib.hid (HB.out.trans (hb2.mono HB.out.size)); clear hb2 HB
    go_wp2_with fail
    refine (placeOf_spec s p _ (by unfold maxLen; omega)).mono ?_
    rintro e w' ⟨rfl, rfl⟩
    by_cases hok : placeOK s p = true
    · have ho := hok
      simp only [placeOK, Bool.and_eq_true, decide_eq_true_eq] at ho
      obtain ⟨⟨h0, h1⟩, ht⟩ := ho
      obtain ⟨k, rfl⟩ := Int.eq_ofNat_of_zero_le h0
      rw [(place_good hok).1, (place_good hok).2]
      have hll := lineN_le s.data.toList k
      have hfl := fromN_le s.data.toList k
      by_cases hk : k = s.size
      · have hb1 : ((k : Int) == (s.size : Int)) = true := by simp; omega
        clear hok ht
        have HK := Lib.hid hk; clear hk
        generalize lineN s.data.toList k = x at hll ⊢
        generalize fromN s.data.toList k = y at hfl ⊢
        go_wp2
        go_ret
        exact ⟨ret_bool (by first | rfl | (simp; done) | (simp; omega)), HB2.out⟩
      · have hlt : k < s.size := by omega
        have hb1 : ((k : Int) == (s.size : Int)) = false := by simp; omega
        have hok1 : placeOK s ((k : Int) + 1) = true := by
          simp only [placeOK, ht, Bool.and_true, Bool.and_eq_true, decide_eq_true_eq]; omega
        have hg : placeL s ((k : Int) + 1) = (lineN s.data.toList (k + 1) : Nat) ∧ placeC s ((k : Int) + 1) = (k : Int) + 1 - (fromN s.data.toList (k + 1) : Nat) := place_good (p := k + 1) hok1
        have HP := Lib.hid hg
        clear hok ht hk hok1 hg
        by_cases hten : ((s[k].toNat : Int) == 10) = true
        · have HL := Lib.hid (show lineN s.data.toList (k + 1) = lineN s.data.toList k + 1 by simp only [lineN]; rw [if_pos (byte_ten s k hlt hten)])
          have HF := Lib.hid (show fromN s.data.toList (k + 1) = k + 1 by simp only [fromN]; rw [if_pos (byte_ten s k hlt hten)])
          generalize lineN s.data.toList k = x at hll HL ⊢
          generalize fromN s.data.toList k = y at hfl ⊢
          go_wp2_with fail
          refine (placeOf_impl s _ _ (by unfold maxLen; omega)).mono ?_
          rintro e w3 ⟨rfl, hb3⟩
          have HB3 := Lib.hid (HB2.out.trans (hb3.mono HB2.out.size)); clear hb3 HB2
          rw [HP.out.1, HP.out.2, HL.out, HF.out]
          rw [show ((x + 1 : Nat) : Int) = (x : Int) + 1 from by omega, show ((k : Int) + 1 - ((k + 1 : Nat) : Int)) = 0 from by omega]
          go_wp2
          go_ret
          exact ⟨ret_bool (by simp), HB3.out⟩
        · have hten' : ((s[k].toNat : Int) == 10) = false := by simpa using hten
          have HL := Lib.hid (show lineN s.data.toList (k + 1) = lineN s.data.toList k by simp only [lineN]; rw [if_neg (byte_other s k hlt hten')])
          have HF := Lib.hid (show fromN s.data.toList (k + 1) = fromN s.data.toList k by simp only [fromN]; rw [if_neg (byte_other s k hlt hten')])
          clear hten
          generalize lineN s.data.toList k = x at hll HL ⊢
          generalize fromN s.data.toList k = y at hfl HF ⊢
          go_wp2_with fail
          refine (placeOf_impl s _ _ (by unfold maxLen; omega)).mono ?_
          rintro e w3 ⟨rfl, hb3⟩
          have HB3 := Lib.hid (HB2.out.trans (hb3.mono HB2.out.size)); clear hb3 HB2
          rw [HP.out.1, HP.out.2, HL.out, HF.out]
          rw [show ((k : Int) + 1 - (y : Int)) = (k : Int) - (y : Int) + 1 from by omega]
          go_wp2
          go_ret
          exact ⟨ret_bool (by simp), HB3.out⟩
    · have hb := Bool.eq_false_iff.mpr hok
      rw [(place_bad hb).1, (place_bad hb).2]
      clear hb hok
      go_wp2_with fail
      refine (alive_any _).mono ?_
      rintro e w' ⟨rfl, rfl⟩
      go_wp2
      go_ret
      exact ⟨rfl, HB2.out⟩
  · go_enter Try.func6, Try.ntmps6
    go_wp2
    go_ret
    exact ⟨rfl, Below.refl _ _⟩

end Go.Proofs.Ytoaglggmjmldpaa
