/-
  impl's decimal, decimalText, text, FractionText, by their contracts.
-/
import Derived.Test.YtpgbfagacpondaaDoorDoorTab
import Derived.Test.YtpgbfagacpondaaDoorFracAt
import Derived.Test.YtpgbfagacpondaaDoorFracOps
import Derived.Deep.RegionHeld3
namespace Go.Proofs.YtpgbfagacpondaaDoor
open Go.RowKit
set_option linter.unusedVariables false

theorem td (t b : Nat) : (t : Int).tdiv (b : Int) = ((t / b : Nat) : Int) := by rw [Int.tdiv_eq_ediv_of_nonneg (by omega), Int.natCast_ediv]
theorem tm (t b : Nat) : (t : Int).tmod (b : Int) = ((t % b : Nat) : Int) := by rw [Int.tmod_eq_emod_of_nonneg (by omega), Int.natCast_emod]

set_option maxHeartbeats 1000000 in
theorem decimal_m (t : Int) (b : Nat) (w : World) (hb : 1 ≤ b) :
    Calls Tryd.prog 35 #[.agg #[.int .i64 t, .int .i64 (b : Int)]] w fun e w' => e = .returned (.bool (decide (1000000 % b = 0))) ∧ Below w.heap.size w w' := by
  have e1 : (1000000 : Int).tmod (b : Int) = ((1000000 % b : Nat) : Int) := tm 1000000 b
  have e0 : ((b : Int) == 0) = false := beq_eq_false_iff_ne.mpr (by omega)
  by_cases h : 1000000 % b = 0
  · rw [decide_eq_true h]
    have e2 : (((1000000 % b : Nat) : Int) == 0) = true := beq_iff_eq.mpr (by omega)
    generalize 1000000 % b = q at e1 e2
    clear h
    go_enter Tryd.func35, Tryd.ntmps35
    go_wp2
    go_ret
    exact ⟨rfl, (Below.refl _ _).alloc (Nat.le_refl _) _⟩
  · rw [decide_eq_false h]
    have e2 : (((1000000 % b : Nat) : Int) == 0) = false := beq_eq_false_iff_ne.mpr (by omega)
    generalize 1000000 % b = q at e1 e2
    clear h
    go_enter Tryd.func35, Tryd.ntmps35
    go_wp2
    go_ret
    exact ⟨rfl, (Below.refl _ _).alloc (Nat.le_refl _) _⟩

theorem strL {s : ByteArray} {l : List UInt8} (h : s.data.toList = l) : s = ⟨l.toArray⟩ := by
  apply ByteArray.ext; rw [← h]

set_option maxRecDepth 100000 in
set_option maxHeartbeats 4000000 in
theorem decimalText_m (t b : Nat) (w : World) (ht : t ≤ 1000000000) (hb : 1 ≤ b) (hb1 : b ≤ 1000000) (hd : 1000000 % b = 0) (htab : Tab w) :
    Calls Tryd.prog 36 #[.agg #[.int .i64 (t : Int), .int .i64 (b : Int)]] w fun e w' => e = .returned (.string ⟨(decText t b).toArray⟩) ∧ Below w.heap.size w w' := by
  have e0 : ((b : Int) == 0) = false := beq_eq_false_iff_ne.mpr (by omega)
  have e1 := td t b
  have e2 := tm t b
  have e3 : (1000000 : Int).tdiv (b : Int) = ((1000000 / b : Nat) : Int) := td 1000000 b
  have HFI := Lib.hid (frs_impl t b hb hd)
  have HDT := Lib.hid (show decText t b = Lib.decDigits (t / b) ++ (if t % b = 0 then [] else 46 :: frs 6 (t % b) b) from rfl)
  have q1 : t / b ≤ 1000000000 := Nat.le_trans (Nat.div_le_self _ _) ht
  have hrb : t % b < b := Nat.mod_lt _ (by omega)
  have q2 : t % b < 1000000 := by omega
  have q3 : 1000000 / b ≤ 1000000 := Nat.div_le_self _ _
  have q4 : t % b * (1000000 / b) < 1000000 := by
    have hbm : b * (1000000 / b) = 1000000 := by have := Nat.div_add_mod 1000000 b; omega
    have h1 : (t % b + 1) * (1000000 / b) ≤ b * (1000000 / b) := Nat.mul_le_mul_right _ (by omega)
    rw [Nat.add_mul, Nat.one_mul] at h1
    have hm : 0 < 1000000 / b := by rcases Nat.eq_zero_or_pos (1000000 / b) with h | h; (rw [h] at hbm; omega); exact h
    omega
  clear hd hrb
  generalize t / b = Q at *
  generalize t % b = r at *
  generalize 1000000 / b = m at *
  have z1 := numS_size Q (by omega)
  by_cases hr : r = 0
  · subst hr
    rw [if_pos rfl, List.append_nil] at HDT
    go_enter Tryd.func36, Tryd.ntmps36
    go_wp2_with fail
    refine (itoa_any Q (by omega) _ (htab.al _)).mono ?_
    rintro e w1 ⟨rfl, hb1'⟩
    have F1 : Hid (FrAt w1 w.heap.size (t : Int) (b : Int)) := FrAt.keep (FrAt.new _ _ _ _) hb1'
    obtain ⟨d0, d1⟩ := F1.out
    have HB1 := Lib.hid (((Below.refl _ w).alloc (Nat.le_refl _) _).trans (hb1'.mono (by simp))); clear hb1'
    go_wp2
    go_ret
    exact ⟨by rw [HDT.out]; rfl, HB1.out⟩
  · have er : ((r : Int) == 0) = false := beq_eq_false_iff_ne.mpr (by omega)
    rw [if_neg hr] at HDT
    clear hr
    have hmul : (r : Int) * (m : Int) = ((r * m : Nat) : Int) := by rw [Int.natCast_mul]
    generalize hx : r * m = x at *
    have HX := Lib.hid hx; clear hx
    have z2 := numS_size (1000000 + x) (by omega)
    have hne : 1 ≤ (numS (1000000 + x)).size := by
      show 1 ≤ (Lib.decDigits (1000000 + x)).toArray.size
      have := List.length_pos_iff.mpr (dec_ne (1000000 + x))
      simp; omega
    go_enter Tryd.func36, Tryd.ntmps36
    go_wp2_with fail
    refine (itoa_any Q (by omega) _ (htab.al _)).mono ?_
    rintro e w1 ⟨rfl, hb1'⟩
    have F1 : Hid (FrAt w1 w.heap.size (t : Int) (b : Int)) := FrAt.keep (FrAt.new _ _ _ _) hb1'
    have T1 := Lib.hid ((htab.al _).keep hb1')
    obtain ⟨d0, d1⟩ := F1.out
    have HB1 := Lib.hid (((Below.refl _ w).alloc (Nat.le_refl _) _).trans (hb1'.mono (by simp))); clear hb1'
    go_wp2_with fail
    rw [show (1000000 : Int) + (x : Int) = ((1000000 + x : Nat) : Int) by omega]
    refine (itoa_any (1000000 + x) (by omega) _ T1.out).mono ?_
    rintro e w2 ⟨rfl, hb2⟩
    have HB2 := Lib.hid (HB1.out.trans (hb2.mono HB1.out.size)); clear hb2
    go_wp2_with fail
    refine (Tryd.strings_TrimRight_one _ 48 (by decide) _ (by rw [ByteArray.size_extract]; omega)).mono ?_
    rintro e w' ⟨rfl, rfl⟩
    have hz3 : (⟨(Lib.trimRightB ((numS (1000000 + x)).extract 1 (numS (1000000 + x)).size).data.toList 48).toArray⟩ : ByteArray) = ⟨(frs 6 r b).toArray⟩ := by
      have e : ((numS (1000000 + x)).extract 1 (numS (1000000 + x)).size).data.toList = (Lib.decDigits (1000000 + x)).drop 1 := by
        have e1 : ((numS (1000000 + x)).extract 1 (numS (1000000 + x)).size).data.toList = ((numS (1000000 + x)).data.toList.drop 1).take ((numS (1000000 + x)).size - 1) := by simp [ByteArray.data_extract]
        rw [e1, List.take_of_length_le (by rw [List.length_drop, Array.length_toList]; exact Nat.le_refl _), numS_list]
      rw [e, HFI.out]
    rw [hz3]
    have z4 : (⟨(frs 6 r b).toArray⟩ : ByteArray).size ≤ 6 := by
      have := frs_len 6 r b
      show (frs 6 r b).toArray.size ≤ 6
      simpa using this
    have HR := Lib.hid (show (numS Q ++ ⟨#[46]⟩ ++ ⟨(frs 6 r b).toArray⟩ : ByteArray) = ⟨(decText t b).toArray⟩ by
      rw [HDT.out]; apply strL; simp [numS])
    generalize (⟨(frs 6 r b).toArray⟩ : ByteArray) = Z at *
    clear hz3
    go_wp2
    go_ret
    exact ⟨by rw [← HR.out]; rfl, HB2.out⟩

set_option maxRecDepth 100000 in
set_option maxHeartbeats 4000000 in
theorem text_pos (t b : Nat) (w : World) (ht : t ≤ 1000000000) (hb : 1 ≤ b) (hb1 : b ≤ 1000000) (htab : Tab w) :
    Calls Tryd.prog 19 #[.agg #[.int .i64 (t : Int), .int .i64 (b : Int)]] w fun e w' => e = .returned (.string ⟨(posText t b).toArray⟩) ∧ Below w.heap.size w w' := by
  have f0 : decide ((t : Int) < 0) = false := decide_eq_false (by omega)
  by_cases hd : 1000000 % b = 0
  · have HD := Lib.hid hd
    have HP := Lib.hid (show posText t b = decText t b by rw [posText, if_pos hd])
    clear hd
    go_enter Tryd.func19, Tryd.ntmps19
    go_wp2_with fail
    refine (decimal_m (t : Int) b _ hb).mono ?_
    rintro e w1 ⟨rfl, hb1'⟩
    rw [decide_eq_true HD.out]
    have F1 : Hid (FrAt w1 w.heap.size (t : Int) (b : Int)) := FrAt.keep (FrAt.new _ _ _ _) hb1'
    have T1 := Lib.hid ((htab.al _).keep hb1')
    obtain ⟨d0, d1⟩ := F1.out
    have HB1 := Lib.hid (((Below.refl _ w).alloc (Nat.le_refl _) _).trans (hb1'.mono (by simp))); clear hb1'
    go_wp2_with fail
    refine (decimalText_m t b _ ht hb hb1 HD.out T1.out).mono ?_
    rintro e w2 ⟨rfl, hb2⟩
    have HB2 := Lib.hid (HB1.out.trans (hb2.mono HB1.out.size)); clear hb2
    go_wp2
    go_ret
    exact ⟨by rw [HP.out]; rfl, HB2.out⟩
  · have HD := Lib.hid hd
    have HP := Lib.hid (show (numS t ++ ⟨#[47]⟩ ++ numS b : ByteArray) = ⟨(posText t b).toArray⟩ by
      rw [posText, if_neg hd]; apply strL; simp [numS])
    clear hd
    have z1 := numS_size t (by omega)
    have z2 := numS_size b (by omega)
    have r1 : ¬ 9223372036854775807 < (numS t).size + 1 := by omega
    have r2 : ¬ 9223372036854775807 < (numS t).size + 1 + (numS b).size := by omega
    go_enter Tryd.func19, Tryd.ntmps19
    go_wp2_with fail
    refine (decimal_m (t : Int) b _ hb).mono ?_
    rintro e w1 ⟨rfl, hb1'⟩
    rw [decide_eq_false HD.out]
    have F1 : Hid (FrAt w1 w.heap.size (t : Int) (b : Int)) := FrAt.keep (FrAt.new _ _ _ _) hb1'
    have T1 := Lib.hid ((htab.al _).keep hb1')
    obtain ⟨d0, d1⟩ := F1.out
    have hw1 : w.heap.size < w1.heap.size := F1.out.lt
    have HB1 := Lib.hid (((Below.refl _ w).alloc (Nat.le_refl _) _).trans (hb1'.mono (by simp))); clear hb1'
    go_wp2_with fail
    go_region_held3 (fun w' => w'.cell? ⟨w.heap.size, 0, none⟩ = some (.int .i64 (t : Int)) ∧ w'.cell? ⟨w.heap.size, 1, none⟩ = some (.int .i64 (b : Int)))
      (first
        | go_keep
        | (go_split_ands
           refine ⟨?_, ?_⟩
           · (first | (rw [hb3.cell (by show w.heap.size < _; have := hb2.size; simp at this; omega)]; assumption) | (rw [hb2.cell (by exact hw1)]; assumption))
           · (first | (rw [hb3.cell (by show w.heap.size < _; have := hb2.size; simp at this; omega)]; assumption) | (rw [hb2.cell (by exact hw1)]; assumption))))
      (first
        | ((go_at_call 37; (with_reducible refine (itoa_any t (by omega) _ ?_).mono ?_); (focus (first | exact T1.out | exact T1.out.drew | exact T1.out.drew.keep hb2 | exact T1.out.keep hb2)); (first | (rintro e w2 ⟨rfl, hb2⟩; done) | rintro e w2 ⟨rfl, hb2⟩)))
        | ((go_at_call 37; (with_reducible refine (itoa_any b (by omega) _ ?_).mono ?_); (focus (first | exact T1.out | exact T1.out.drew | exact T1.out.drew.keep hb2 | exact T1.out.keep hb2)); rintro e w3 ⟨rfl, hb3⟩)))
    have HB3 := Lib.hid (HB1.out.drew.trans ((hb2.mono HB1.out.size).trans (hb3.mono (by have := HB1.out.size; have := hb2.size; simp at this; omega))))
    clear hb2 hb3
    go_wp2
    go_ret
    exact ⟨by rw [← HP.out]; rfl, HB3.out⟩

set_option maxHeartbeats 1000000 in
theorem opposite_any (t b : Int) (w : World) (ht : -1000000000 ≤ t ∧ t ≤ 1000000000) (hb : 1 ≤ b ∧ b ≤ 1000000) :
    Calls Tryd.prog 34 #[.agg #[.int .i64 t, .int .i64 b]] w fun e w' => e = .returned (.agg #[.int .i64 (-t), .int .i64 b]) ∧ Below w.heap.size w w' := by
  obtain ⟨h11, h12⟩ := ht; obtain ⟨h21, h22⟩ := hb
  go_enter Tryd.func34, Tryd.ntmps34
  go_wp2
  exact bodyPost_ret (v := .agg #[.int .i64 (-t), .int .i64 b]) (by simp [results, Tryd.results34, go_sem]) rfl ⟨rfl, (((Below.refl _ w).alloc (Nat.le_refl _) _).alloc (by simp) _)⟩

set_option maxRecDepth 100000 in
set_option maxHeartbeats 4000000 in
theorem text_any (t b : Int) (w : World) (hv : vB t b = true) (htab : Tab w) :
    Calls Tryd.prog 19 #[.agg #[.int .i64 t, .int .i64 b]] w fun e w' => e = .returned (.string ⟨(fracT t b).toArray⟩) ∧ Below w.heap.size w w' := by
  obtain ⟨v1, v2, v3, v4⟩ := vB_bd hv
  obtain ⟨b', rfl⟩ := Int.eq_ofNat_of_zero_le (show 0 ≤ b by omega)
  by_cases hn : t < 0
  · obtain ⟨t', ht'⟩ := Int.eq_ofNat_of_zero_le (show 0 ≤ -t by omega)
    have hlen : (posText t' b').length ≤ 100 := by
      unfold posText decText
      have l1 := dec_len (t' / b') (by have := Nat.div_le_self t' b'; omega)
      have l2 := dec_len t' (by omega)
      have l3 := dec_len b' (by omega)
      have l4 := frs_len 6 (t' % b') b'
      split
      · split
        · simp; omega
        · simp; omega
      · simp; omega
    have hsz : (⟨(posText t' b').toArray⟩ : ByteArray).size ≤ 100 := by show (posText t' b').toArray.size ≤ 100; simpa using hlen
    have HR := Lib.hid (show (⟨#[45]⟩ ++ ⟨(posText t' b').toArray⟩ : ByteArray) = ⟨(fracT t b').toArray⟩ by
      rw [fracT, if_pos hn, ht']; apply strL; simp)
    have hc := fun w' (h : Tab w') => text_pos t' b' w' (by omega) (by omega) (by omega) h
    generalize (⟨(posText t' b').toArray⟩ : ByteArray) = Z at *
    have HC := Lib.hid hc; clear hc hlen
    have HT' := Lib.hid ht'
    go_enter Tryd.func19, Tryd.ntmps19
    clear ht'
    go_wp2_with fail
    refine (opposite_any t (b' : Int) _ (by omega) (by omega)).mono ?_
    rintro e w0 ⟨rfl, hb0⟩
    have T0 := Lib.hid ((htab.al _).keep hb0)
    have HB0 := Lib.hid (((Below.refl _ w).alloc (Nat.le_refl _) _).trans (hb0.mono (by simp))); clear hb0
    rw [HT'.out]
    go_wp2_with fail
    refine (HC.out _ T0.out).mono ?_
    rintro e w1 ⟨rfl, hb1⟩
    have HB1 := Lib.hid (HB0.out.trans (hb1.mono HB0.out.size)); clear hb1
    go_wp2
    go_ret
    exact ⟨by rw [← HR.out]; rfl, HB1.out⟩
  · obtain ⟨t', rfl⟩ := Int.eq_ofNat_of_zero_le (show 0 ≤ t by omega)
    have := text_pos t' b' w (by omega) (by omega) (by omega) htab
    rw [fracT, if_neg hn]
    exact this

set_option maxHeartbeats 2000000 in
theorem fractionText_impl (t b : Int) (w : World) (htab : Tab w) :
    Calls Tryd.prog 9 #[.agg #[.int .i64 t, .int .i64 b]] w fun e w' => e = .returned (.string ⟨(textF t b).toArray⟩) ∧ Below w.heap.size w w' := by
  cases hv : vB t b with
  | true =>
    have HV := Lib.hid hv
    have HT := Lib.hid (show textF t b = fracT t b by rw [textF, if_pos hv])
    clear hv
    go_enter Tryd.func9, Tryd.ntmps9
    go_wp2_with fail
    refine (valid_method t b _).mono ?_
    rintro e w1 ⟨rfl, hb1⟩
    rw [HV.out]
    have F1 : Hid (FrAt w1 w.heap.size t b) := FrAt.keep (FrAt.new _ _ _ _) hb1
    have T1 := Lib.hid ((htab.al _).keep hb1)
    obtain ⟨d0, d1⟩ := F1.out
    have HB1 := Lib.hid (((Below.refl _ w).alloc (Nat.le_refl _) _).trans (hb1.mono (by simp))); clear hb1
    go_wp2_with fail
    refine (text_any t b _ HV.out T1.out).mono ?_
    rintro e w2 ⟨rfl, hb2⟩
    have HB2 := Lib.hid (HB1.out.trans (hb2.mono HB1.out.size)); clear hb2
    go_wp2
    go_ret
    exact ⟨by rw [HT.out]; rfl, HB2.out⟩
  | false =>
    have HV := Lib.hid hv
    have HT := Lib.hid (show textF t b = [] by rw [textF, hv]; rfl)
    clear hv
    go_enter Tryd.func9, Tryd.ntmps9
    go_wp2_with fail
    refine (valid_method t b _).mono ?_
    rintro e w1 ⟨rfl, hb1⟩
    rw [HV.out]
    have HB1 := Lib.hid (((Below.refl _ w).alloc (Nat.le_refl _) _).trans (hb1.mono (by simp))); clear hb1
    go_wp2
    go_ret
    exact ⟨by rw [HT.out]; rfl, HB1.out⟩

end Go.Proofs.YtpgbfagacpondaaDoor
