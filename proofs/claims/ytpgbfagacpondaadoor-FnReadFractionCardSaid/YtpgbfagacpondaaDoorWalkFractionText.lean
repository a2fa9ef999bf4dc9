/-
  The walk of laws.FnFractionText.
-/
import Derived.Test.YtpgbfagacpondaaDoorTextS
import Derived.Test.YtpgbfagacpondaaDoorReadBack
import Derived.Test.YtpgbfagacpondaaDoorAlive
import Derived.Test.YtpgbfagacpondaaDoorDrawFractionText
namespace Go.Proofs.YtpgbfagacpondaaDoor
open Go.RowKit
set_option linter.unusedVariables false

theorem posText_len (t b : Nat) (ht : t ≤ 1000000000) (hb : b ≤ 1000000) : (posText t b).length ≤ 100 := by
  unfold posText decText
  have l1 := dec_len (t / b) (by have := Nat.div_le_self t b; omega)
  have l2 := dec_len t (by omega)
  have l3 := dec_len b (by omega)
  have l4 := frs_len 6 (t % b) b
  split
  · split
    · simp; omega
    · simp; omega
  · simp; omega
theorem textF_len (t b : Int) : (textF t b).length ≤ 101 := by
  unfold textF
  split
  · rename_i hv
    obtain ⟨v1, v2, v3, v4⟩ := vB_bd hv
    unfold fracT
    split
    · have := posText_len (-t).toNat b.toNat (by omega) (by omega)
      simp only [List.length_cons]; omega
    · have := posText_len t.toNat b.toNat (by omega) (by omega)
      omega
  · simp

set_option maxRecDepth 100000 in
set_option maxHeartbeats 4000000 in
theorem fnFractionText_core (a0 : Option Addr) (len0 cap0 : Nat) (w : World) (hrow : CodeRow w a0 len0 cap0) (htab : Tab w) :
    Calls Tryd.prog 4 #[.slice a0 len0 cap0] w fun e w' => e = .returned (.bool true) ∧ Below w.heap.size w w' := by
  have hcap := hrow.1; have hmx := hrow.2.1
  unfold maxLen at hmx
  by_cases hl : len0 ≤ 1048576
  · go_enter Tryd.func4, Tryd.ntmps4
    go_wp2_with fail
    refine (drawFractionText_any a0 len0 cap0 _ hrow).mono ?_
    rintro e w1 ⟨t, b, rfl, hb1⟩
    have T1 := Lib.hid (htab.keep hb1)
    have HB1 := Lib.hid hb1; clear hb1 hrow htab
    have hlen := textF_len t b
    have hzs : (⟨(textF t b).toArray⟩ : ByteArray).size ≤ 101 := by show (textF t b).toArray.size ≤ 101; simpa using hlen
    have hzl : (⟨(textF t b).toArray⟩ : ByteArray).data.toList = textF t b := by simp
    have CI := Lib.hid (fun w' (h : Tab w') => fractionText_impl t b w' h)
    have CS := Lib.hid (fun w' => fractionText_spec t b w')
    cases hv : vB t b with
    | false =>
      have HV := Lib.hid hv
      rw [show textF t b = [] by rw [textF, hv]; rfl] at CI CS
      clear hv hlen hzs hzl
      go_wp2_with fail
      refine (CI.out _ (T1.out.al _)).mono ?_
      rintro e w2 ⟨rfl, hb2⟩
      have F2 : Hid (FrAt w2 w1.heap.size t b) := FrAt.keep (FrAt.new _ _ _ _) hb2
      obtain ⟨d0, d1⟩ := F2.out
      have HB2 := Lib.hid ((HB1.out.alloc HB1.out.size _).trans (hb2.mono (by have := HB1.out.size; simp; omega))); clear hb2
      go_wp2_with fail
      refine (CS.out _).mono ?_
      rintro e w3 ⟨rfl, hb3⟩
      have F3 : Hid (FrAt w3 w1.heap.size t b) := F2.out.keep hb3
      have HB3 := Lib.hid (HB2.out.trans (hb3.mono HB2.out.size)); clear hb3 d0 d1
      obtain ⟨d0, d1⟩ := F3.out
      go_wp2_with fail
      refine (valid_spec t b _).mono ?_
      rintro e w4 ⟨rfl, hb4⟩
      rw [HV.out]
      have HB4 := Lib.hid (HB3.out.trans (hb4.mono HB3.out.size)); clear hb4
      go_wp2_with fail
      refine (alive_any _).mono ?_
      rintro e w' ⟨rfl, rfl⟩
      go_wp2
      go_ret
      exact ⟨rfl, HB4.out⟩
    | true =>
      have HV := Lib.hid hv
      have hft : textF t b = fracT t b := by rw [textF, if_pos hv]
      obtain ⟨r1, r2, r3⟩ := read_back ⟨(textF t b).toArray⟩ t b hv (by rw [hzl, hft])
      have hne : (⟨(textF t b).toArray⟩ : ByteArray).toList ≠ [] := by rw [ByteArray.toList_eq, hzl, hft]; exact frac_ne t b
      clear hv hft hlen hzl
      generalize (⟨(textF t b).toArray⟩ : ByteArray) = Z at *
      have CR := fun w' (h : Tab w') => readFraction_impl Z w' (by omega) h
      rw [r1, r2, r3] at CR
      have HCR := Lib.hid CR
      have hne1 : Z.toList.isEmpty = false := by cases hz : Z.toList with
        | nil => exact absurd hz hne
        | cons _ _ => rfl
      clear r1 r2 r3 CR hne
      go_wp2_with fail
      refine (CI.out _ (T1.out.al _)).mono ?_
      rintro e w2 ⟨rfl, hb2⟩
      have F2 : Hid (FrAt w2 w1.heap.size t b) := FrAt.keep (FrAt.new _ _ _ _) hb2
      have T2 := Lib.hid ((T1.out.al _).keep hb2)
      obtain ⟨d0, d1⟩ := F2.out
      have HB2 := Lib.hid ((HB1.out.alloc HB1.out.size _).trans (hb2.mono (by have := HB1.out.size; simp; omega))); clear hb2
      go_wp2_with fail
      refine (CS.out _).mono ?_
      rintro e w3 ⟨rfl, hb3⟩
      have F3 : Hid (FrAt w3 w1.heap.size t b) := F2.out.keep hb3
      have T3 := Lib.hid (T2.out.keep hb3)
      have HB3 := Lib.hid (HB2.out.trans (hb3.mono HB2.out.size)); clear hb3 d0 d1
      obtain ⟨d0, d1⟩ := F3.out
      go_wp2_with fail
      refine (valid_spec t b _).mono ?_
      rintro e w4 ⟨rfl, hb4⟩
      rw [HV.out]
      have F4 : Hid (FrAt w4 w1.heap.size t b) := F3.out.keep hb4
      have T4 := Lib.hid (T3.out.keep hb4)
      have HB4 := Lib.hid (HB3.out.trans (hb4.mono HB3.out.size)); clear hb4 d0 d1
      go_wp2_with fail
      refine (HCR.out _ T4.out).mono ?_
      rintro e w5 ⟨rfl, hb5⟩
      have F5 : Hid (FrAt w5 w1.heap.size t b) := F4.out.keep hb5
      have HB5 := Lib.hid (HB4.out.trans (hb5.mono HB4.out.size)); clear hb5
      obtain ⟨d0, d1⟩ := F5.out.al (.cells #[.int .i64 t, .int .i64 b] 25)
      have HB6 := Lib.hid (HB5.out.alloc HB5.out.size (.cells #[.int .i64 t, .int .i64 b] 25))
      go_wp2
      go_ret
      exact ⟨rfl, HB6.out⟩
  · go_enter Tryd.func4, Tryd.ntmps4
    go_wp2
    go_ret
    exact ⟨rfl, Below.refl _ _⟩

end Go.Proofs.YtpgbfagacpondaaDoor
