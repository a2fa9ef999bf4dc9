/-
  spec.FractionText, by its contract.
-/
import Derived.Test.YtpgbfagacpondaaDoorNumS
import Derived.Test.YtpgbfagacpondaaDoorTextI
namespace Go.Proofs.YtpgbfagacpondaaDoor
open Go.RowKit
set_option linter.unusedVariables false

def strZ : Value → Nat
  | .string s => s.size
  | _ => 0
/-- The sign of a text. -/
def sgn (t : Int) : List UInt8 := if t < 0 then [45] else []
def absN (t : Int) : Nat := t.natAbs
theorem fracT_abs (t : Int) (b : Nat) : fracT t (b : Int) = sgn t ++ posText (absN t) b := by
  unfold fracT sgn absN
  by_cases h : t < 0
  · rw [if_pos h, if_pos h, show (-t).toNat = t.natAbs by omega]; rfl
  · rw [if_neg h, if_neg h, show t.toNat = t.natAbs by omega]; rfl
theorem sgn_len (t : Int) : (sgn t).length ≤ 1 := by unfold sgn; split <;> simp
/-- Whether r, times a million over b, ends with zeros. -/
theorem rest_zero {b m r f y : Nat} (hm : 0 < m) (hy : y < 10 ^ f) (h : r * m = y * 10 ^ (6 - f)) (hf : f = 0) : r = 0 := by
  subst hf
  have : y = 0 := by simpa using hy
  subst this
  rw [Nat.zero_mul] at h
  rcases Nat.mul_eq_zero.mp h with h | h
  · exact h
  · omega
theorem rest_next {b m r f y : Nat} (hbm : b * m = 1000000) (hf : f + 1 ≤ 6) (hy : y < 10 ^ (f + 1)) (h : r * m = y * 10 ^ (6 - (f + 1))) : (10 * r % b) * m = (y % 10 ^ f) * 10 ^ (6 - f) := by
  have hE : 10 ^ (6 - f) = 10 * 10 ^ (6 - (f + 1)) := by rw [show 6 - f = (6 - (f + 1)) + 1 by omega, Nat.pow_succ, Nat.mul_comm]
  have hE2 : 10 ^ f * 10 ^ (6 - f) = 1000000 := by rw [← Nat.pow_add, show f + (6 - f) = 6 by omega]
  have h10 : 10 * r * m = y * 10 ^ (6 - f) := by rw [hE, Nat.mul_assoc, h, ← Nat.mul_assoc, ← Nat.mul_assoc, Nat.mul_comm 10 y]
  rw [← Nat.mul_mod_mul_right, h10, hbm, ← hE2, Nat.mul_mod_mul_right]
theorem num_digit {q : Nat} (h : q < 10) : numS q = ⟨#[dgt q]⟩ := by unfold numS; rw [dec_small h]
theorem S_app (acc l : List UInt8) : (⟨acc.toArray⟩ ++ ⟨l.toArray⟩ : ByteArray) = ⟨(acc ++ l).toArray⟩ := by apply strL; simp
theorem S_size (acc : List UInt8) : (⟨acc.toArray⟩ : ByteArray).size = acc.length := by show acc.toArray.size = _; simp

theorem ret_strT {a b : ByteArray} (h : a = b) : Ending.returned (.string a) = .returned (.string b) := by rw [h]
theorem frs_zero (f b : Nat) : frs f 0 b = [] := by cases f <;> simp [frs]
theorem frs_step {f r b : Nat} (h : r ≠ 0) : frs (f + 1) r b = dgt (10 * r / b) :: frs f (10 * r % b) b := by rw [frs, if_neg h]

set_option maxRecDepth 100000 in
set_option maxHeartbeats 8000000 in
theorem fractionText_nat (t b : Nat) (w : World) (hv : vB (t : Int) (b : Int) = true) :
    Calls Tryd.prog 7 #[.agg #[.int .i64 (t : Int), .int .i64 (b : Int)]] w fun e w' => e = .returned (.string ⟨([] ++ posText t b).toArray⟩) ∧ Below w.heap.size w w' := by
  obtain ⟨v1, v2, v3, v4⟩ := vB_bd hv
  have HV := Lib.hid hv; clear hv
  have f0 : decide ((t : Int) < 0) = false := decide_eq_false (by omega)
  have e0 : ((b : Int) == 0) = false := beq_eq_false_iff_ne.mpr (by omega)
  have e6 : (1000000 : Int).tmod (b : Int) = ((1000000 % b : Nat) : Int) := tm 1000000 b
  have z1 := numS_size t (by omega)
  have z2 := numS_size b (by omega)
  by_cases hd : 1000000 % b = 0
  · have e7 : (((1000000 % b : Nat) : Int) != 0) = false := by rw [hd]; rfl
    have HDT := Lib.hid (show [] ++ posText t b = [] ++ (Lib.decDigits (t / b) ++ (if t % b = 0 then [] else 46 :: frs 6 (t % b) b)) by rw [posText, if_pos hd, decText])
    have hbm : b * (1000000 / b) = 1000000 := by have := Nat.div_add_mod 1000000 b; omega
    have hmp : 0 < 1000000 / b := by rcases Nat.eq_zero_or_pos (1000000 / b) with h | h; (rw [h] at hbm; omega); exact h
    have HBM := Lib.hid hbm
    have e1 := td t b
    have e2 := tm t b
    have q1 : t / b ≤ 1000000000 := Nat.le_trans (Nat.div_le_self _ _) (by omega)
    have hrb : t % b < b := Nat.mod_lt _ (by omega)
    have hx6 : t % b * (1000000 / b) < 10 ^ 6 := by
      have h1 : (t % b + 1) * (1000000 / b) ≤ b * (1000000 / b) := Nat.mul_le_mul_right _ (by omega)
      rw [Nat.add_mul, Nat.one_mul] at h1
      omega
    have HX6 := Lib.hid hx6
    clear hx6 hbm
    generalize 1000000 % b = u at *
    generalize t / b = Q at *
    generalize t % b = r at *
    generalize 1000000 / b = m at *
    clear hd
    have z3 := numS_size Q (by omega)
    have l3 := dec_len Q (by omega)
    have start : ∀ (acc : List UInt8) (wr : World) (o : ByteArray), acc ++ frs 6 r b = [] ++ posText t b → acc.length ≤ 30 → o.data.toList = acc → FrAt wr w.heap.size (t : Int) (b : Int) → Below w.heap.size w wr →
        ∃ (f r' y : Nat) (ac : List UInt8), f ≤ 6 ∧ Value.string o = .string ⟨ac.toArray⟩ ∧ Value.int .i64 (r : Int) = .int .i64 (r' : Int) ∧ r' < b ∧ ac ++ frs f r' b = [] ++ posText t b ∧ ac.length + f ≤ 40 ∧ y < 10 ^ f ∧ r' * m = y * 10 ^ (6 - f) ∧ FrAt wr w.heap.size (t : Int) (b : Int) ∧ Below w.heap.size w wr := by
      intro acc wr o h1 h2 h3 h4 h5
      exact ⟨6, r, r * m, acc, Nat.le_refl _, congrArg Value.string (strL h3), rfl, hrb, h1, by omega, HX6.out, by simp, h4, h5⟩
    have ST := Lib.hid start; clear start
    by_cases hr : r = 0
    · have g0 : decide (0 < r) = false := decide_eq_false (by omega)
      have g1 : decide ((0 : Int) < (r : Int)) = false := decide_eq_false (by omega)
      rw [if_pos hr, List.append_nil] at HDT
      have HST := Lib.hid (show ([] ++ Lib.decDigits Q) ++ frs 6 r b = [] ++ posText t b by rw [HDT.out, hr, frs_zero, List.append_nil])
      clear hr
      go_enter Tryd.func7, Tryd.ntmps7
      go_wp2_with fail
      refine (valid_spec (t : Int) (b : Int) _).mono ?_
      rintro e w1 ⟨rfl, hb1'⟩
      rw [HV.out]
      have F1 : Hid (FrAt w1 w.heap.size (t : Int) (b : Int)) := FrAt.keep (FrAt.new _ _ _ _) hb1'
      obtain ⟨d0, d1⟩ := F1.out
      have hw1 : w.heap.size < w1.heap.size := F1.out.lt
      have HB1 := Lib.hid (((Below.refl _ w).alloc (Nat.le_refl _) _).trans (hb1'.mono (by simp))); clear hb1'
      go_wp2_with fail
      refine (l2Number_any Q _ (by omega)).mono ?_
      rintro e w2 ⟨rfl, hb2⟩
      have F2 : Hid (FrAt w2 w.heap.size (t : Int) (b : Int)) := F1.out.keep hb2
      obtain ⟨k0, k1⟩ := F2.out
      have HB2 := Lib.hid (HB1.out.trans (hb2.mono HB1.out.size)); clear hb2 d0 d1
      go_wp2_with fail
      go_loopw [3, 5] (fun o i wr => ∃ (f r' y : Nat) (ac : List UInt8), f ≤ 6 ∧ o = .string ⟨ac.toArray⟩ ∧ i = .int .i64 (r' : Int) ∧ r' < b ∧ ac ++ frs f r' b = [] ++ posText t b ∧ ac.length + f ≤ 40 ∧ y < 10 ^ f ∧ r' * m = y * 10 ^ (6 - f) ∧ FrAt wr w.heap.size (t : Int) (b : Int) ∧ Below w.heap.size w wr) (fun o _ _ => 200 - strZ o)
      case atStart => exact ST.out _ _ _ HST.out (by simp; omega) (by simp [numS]) F2.out HB2.out
      case round =>
        obtain ⟨f, r', y, ac, hf, rfl, rfl, hrb', hac, hlen, hy, hry, hfr, hbel⟩ := hrel
        have HAC := Lib.hid hac; have HY := Lib.hid hry; have HFR := Lib.hid hfr; have HBL := Lib.hid hbel; have HYY := Lib.hid hy
        clear hac hry hbel hy
        obtain ⟨c0, c1⟩ := hfr
        have hsz : (⟨ac.toArray⟩ : ByteArray).size ≤ 40 := by rw [S_size]; omega
        have HSZ := Lib.hid (S_size ac)
        by_cases hr0 : r' = 0
        · subst hr0
          have HE := Lib.hid (show ac = [] ++ posText t b by rw [← HAC.out, frs_zero, List.append_nil])
          go_wp2
          go_ret
          exact ⟨ret_strT (by rw [HE.out]; rfl), HBL.out⟩
        · have hf0 : f ≠ 0 := fun h => hr0 (rest_zero (b := b) hmp HYY.out HY.out h)
          obtain ⟨f', rfl⟩ : ∃ f', f = f' + 1 := ⟨f - 1, by omega⟩
          have HN := Lib.hid (rest_next HBM.out (by omega) HYY.out HY.out)
          have HS := Lib.hid (frs_step (f := f') (b := b) hr0)
          have hq10 : 10 * r' / b < 10 := by rw [Nat.div_lt_iff_lt_mul (by omega)]; omega
          have hm10 : 10 * r' % b < b := Nat.mod_lt _ (by omega)
          have e4 : ((10 : Int) * (r' : Int)).tdiv (b : Int) = ((10 * r' / b : Nat) : Int) := by rw [show (10 : Int) * (r' : Int) = ((10 * r' : Nat) : Int) by omega]; exact td _ _
          have e5 : ((10 : Int) * (r' : Int)).tmod (b : Int) = ((10 * r' % b : Nat) : Int) := by rw [show (10 : Int) * (r' : Int) = ((10 * r' : Nat) : Int) by omega]; exact tm _ _
          generalize hqq : 10 * r' / b = q at *
          generalize hmm : 10 * r' % b = r2 at *
          clear hqq hmm
          have HQ := Lib.hid (num_digit hq10)
          have hqs : (numS q).size ≤ 21 := numS_size q (by omega)
          go_wp2_with fail
          refine (l2Number_any q _ (by omega)).mono ?_
          rintro e w3 ⟨rfl, hb3⟩
          have F3 : Hid (FrAt w3 w.heap.size (t : Int) (b : Int)) := HFR.out.keep hb3
          obtain ⟨k2, k3⟩ := F3.out
          have HB3 := Lib.hid (HBL.out.trans (hb3.mono HBL.out.size)); clear hb3 c0 c1
          go_wp2
          go_roundw
          case rel =>
            refine ⟨f', r2, y % 10 ^ f', ac ++ [dgt q], by omega, congrArg Value.string ?_, rfl, hm10, ?_, by simp; omega, Nat.mod_lt _ (Nat.pow_pos (by omega)), HN.out, F3.out, HB3.out⟩
            · rw [HQ.out]; apply strL; simp
            · rw [← HAC.out, HS.out]; simp
          case measure =>
            show 200 - (⟨ac.toArray⟩ ++ numS q : ByteArray).size < 200 - (⟨ac.toArray⟩ : ByteArray).size
            rw [HQ.out, ByteArray.size_append, HSZ.out]
            show 200 - (ac.length + 1) < 200 - ac.length
            omega
    · have g0 : decide (0 < r) = true := decide_eq_true (by omega)
      have g1 : decide ((0 : Int) < (r : Int)) = true := decide_eq_true (by omega)
      rw [if_neg hr] at HDT
      have HST := Lib.hid (show ([] ++ Lib.decDigits Q ++ [46]) ++ frs 6 r b = [] ++ posText t b by rw [HDT.out]; simp)
      clear hr
      go_enter Tryd.func7, Tryd.ntmps7
      go_wp2_with fail
      refine (valid_spec (t : Int) (b : Int) _).mono ?_
      rintro e w1 ⟨rfl, hb1'⟩
      rw [HV.out]
      have F1 : Hid (FrAt w1 w.heap.size (t : Int) (b : Int)) := FrAt.keep (FrAt.new _ _ _ _) hb1'
      obtain ⟨d0, d1⟩ := F1.out
      have hw1 : w.heap.size < w1.heap.size := F1.out.lt
      have HB1 := Lib.hid (((Below.refl _ w).alloc (Nat.le_refl _) _).trans (hb1'.mono (by simp))); clear hb1'
      go_wp2_with fail
      refine (l2Number_any Q _ (by omega)).mono ?_
      rintro e w2 ⟨rfl, hb2⟩
      have F2 : Hid (FrAt w2 w.heap.size (t : Int) (b : Int)) := F1.out.keep hb2
      obtain ⟨k0, k1⟩ := F2.out
      have HB2 := Lib.hid (HB1.out.trans (hb2.mono HB1.out.size)); clear hb2 d0 d1
      go_wp2_with fail
      go_loopw [3, 5] (fun o i wr => ∃ (f r' y : Nat) (ac : List UInt8), f ≤ 6 ∧ o = .string ⟨ac.toArray⟩ ∧ i = .int .i64 (r' : Int) ∧ r' < b ∧ ac ++ frs f r' b = [] ++ posText t b ∧ ac.length + f ≤ 40 ∧ y < 10 ^ f ∧ r' * m = y * 10 ^ (6 - f) ∧ FrAt wr w.heap.size (t : Int) (b : Int) ∧ Below w.heap.size w wr) (fun o _ _ => 200 - strZ o)
      case atStart => exact ST.out _ _ _ HST.out (by simp; omega) (by simp [numS]) F2.out HB2.out
      case round =>
        obtain ⟨f, r', y, ac, hf, rfl, rfl, hrb', hac, hlen, hy, hry, hfr, hbel⟩ := hrel
        have HAC := Lib.hid hac; have HY := Lib.hid hry; have HFR := Lib.hid hfr; have HBL := Lib.hid hbel; have HYY := Lib.hid hy
        clear hac hry hbel hy
        obtain ⟨c0, c1⟩ := hfr
        have hsz : (⟨ac.toArray⟩ : ByteArray).size ≤ 40 := by rw [S_size]; omega
        have HSZ := Lib.hid (S_size ac)
        by_cases hr0 : r' = 0
        · subst hr0
          have HE := Lib.hid (show ac = [] ++ posText t b by rw [← HAC.out, frs_zero, List.append_nil])
          go_wp2
          go_ret
          exact ⟨ret_strT (by rw [HE.out]; rfl), HBL.out⟩
        · have hf0 : f ≠ 0 := fun h => hr0 (rest_zero (b := b) hmp HYY.out HY.out h)
          obtain ⟨f', rfl⟩ : ∃ f', f = f' + 1 := ⟨f - 1, by omega⟩
          have HN := Lib.hid (rest_next HBM.out (by omega) HYY.out HY.out)
          have HS := Lib.hid (frs_step (f := f') (b := b) hr0)
          have hq10 : 10 * r' / b < 10 := by rw [Nat.div_lt_iff_lt_mul (by omega)]; omega
          have hm10 : 10 * r' % b < b := Nat.mod_lt _ (by omega)
          have e4 : ((10 : Int) * (r' : Int)).tdiv (b : Int) = ((10 * r' / b : Nat) : Int) := by rw [show (10 : Int) * (r' : Int) = ((10 * r' : Nat) : Int) by omega]; exact td _ _
          have e5 : ((10 : Int) * (r' : Int)).tmod (b : Int) = ((10 * r' % b : Nat) : Int) := by rw [show (10 : Int) * (r' : Int) = ((10 * r' : Nat) : Int) by omega]; exact tm _ _
          generalize hqq : 10 * r' / b = q at *
          generalize hmm : 10 * r' % b = r2 at *
          clear hqq hmm
          have HQ := Lib.hid (num_digit hq10)
          have hqs : (numS q).size ≤ 21 := numS_size q (by omega)
          go_wp2_with fail
          refine (l2Number_any q _ (by omega)).mono ?_
          rintro e w3 ⟨rfl, hb3⟩
          have F3 : Hid (FrAt w3 w.heap.size (t : Int) (b : Int)) := HFR.out.keep hb3
          obtain ⟨k2, k3⟩ := F3.out
          have HB3 := Lib.hid (HBL.out.trans (hb3.mono HBL.out.size)); clear hb3 c0 c1
          go_wp2
          go_roundw
          case rel =>
            refine ⟨f', r2, y % 10 ^ f', ac ++ [dgt q], by omega, congrArg Value.string ?_, rfl, hm10, ?_, by simp; omega, Nat.mod_lt _ (Nat.pow_pos (by omega)), HN.out, F3.out, HB3.out⟩
            · rw [HQ.out]; apply strL; simp
            · rw [← HAC.out, HS.out]; simp
          case measure =>
            show 200 - (⟨ac.toArray⟩ ++ numS q : ByteArray).size < 200 - (⟨ac.toArray⟩ : ByteArray).size
            rw [HQ.out, ByteArray.size_append, HSZ.out]
            show 200 - (ac.length + 1) < 200 - ac.length
            omega
  · have e7 : (((1000000 % b : Nat) : Int) != 0) = true := bne_iff_ne.mpr (by omega)
    have HP := Lib.hid (show (⟨#[]⟩ ++ numS t ++ ⟨#[47]⟩ ++ numS b : ByteArray) = ⟨([] ++ posText t b).toArray⟩ by
      rw [posText, if_neg hd]; apply strL; simp [numS])
    generalize 1000000 % b = u at *
    clear hd
    have r1 : ¬ 9223372036854775807 < (numS t).size := by omega
    have r2 : ¬ 9223372036854775807 < (numS t).size + 1 := by omega
    have r3 : ¬ 9223372036854775807 < (numS t).size + 1 + (numS b).size := by omega
    go_enter Tryd.func7, Tryd.ntmps7
    go_wp2_with fail
    refine (valid_spec (t : Int) (b : Int) _).mono ?_
    rintro e w1 ⟨rfl, hb1'⟩
    rw [HV.out]
    have F1 : Hid (FrAt w1 w.heap.size (t : Int) (b : Int)) := FrAt.keep (FrAt.new _ _ _ _) hb1'
    obtain ⟨d0, d1⟩ := F1.out
    have hw1 : w.heap.size < w1.heap.size := F1.out.lt
    have HB1 := Lib.hid (((Below.refl _ w).alloc (Nat.le_refl _) _).trans (hb1'.mono (by simp))); clear hb1'
    go_wp2_with fail
    go_region_held3 (fun w' => w'.cell? ⟨w.heap.size, 1, none⟩ = some (.int .i64 (b : Int)))
      (first
        | go_keep
        | (first | (rw [hb3.cell (by show w.heap.size < _; have := hb2.size; simp at this; omega)]; assumption) | (rw [hb2.cell (by exact hw1)]; assumption)))
      (first
        | ((go_at_call 17; (with_reducible refine (l2Number_any t _ (by omega)).mono ?_); rintro e w2 ⟨rfl, hb2⟩))
        | ((go_at_call 17; (with_reducible refine (l2Number_any b _ (by omega)).mono ?_); rintro e w3 ⟨rfl, hb3⟩)))
    have HB3 := Lib.hid (HB1.out.drew.trans ((hb2.mono HB1.out.size).trans (hb3.mono (by have := HB1.out.size; have := hb2.size; simp at this; omega))))
    clear hb2 hb3
    go_wp2
    go_ret
    exact ⟨ret_strT (HP.out.trans rfl), HB3.out⟩

set_option maxRecDepth 100000 in
set_option maxHeartbeats 8000000 in
theorem fractionText_neg (t b : Nat) (w : World) (hn : 1 ≤ t) (hv : vB (-(t : Int)) (b : Int) = true) :
    Calls Tryd.prog 7 #[.agg #[.int .i64 (-(t : Int)), .int .i64 (b : Int)]] w fun e w' => e = .returned (.string ⟨([45] ++ posText t b).toArray⟩) ∧ Below w.heap.size w w' := by
  obtain ⟨v1, v2, v3, v4⟩ := vB_bd hv
  have HV := Lib.hid hv; clear hv
  have f0 : decide (-(t : Int) < 0) = true := decide_eq_true (by omega)
  have f1 : -(t : Int) < 0 := by omega
  have f2 : - -(t : Int) = (t : Int) := by omega
  have e0 : ((b : Int) == 0) = false := beq_eq_false_iff_ne.mpr (by omega)
  have e6 : (1000000 : Int).tmod (b : Int) = ((1000000 % b : Nat) : Int) := tm 1000000 b
  have z1 := numS_size t (by omega)
  have z2 := numS_size b (by omega)
  by_cases hd : 1000000 % b = 0
  · have e7 : (((1000000 % b : Nat) : Int) != 0) = false := by rw [hd]; rfl
    have HDT := Lib.hid (show [45] ++ posText t b = [45] ++ (Lib.decDigits (t / b) ++ (if t % b = 0 then [] else 46 :: frs 6 (t % b) b)) by rw [posText, if_pos hd, decText])
    have hbm : b * (1000000 / b) = 1000000 := by have := Nat.div_add_mod 1000000 b; omega
    have hmp : 0 < 1000000 / b := by rcases Nat.eq_zero_or_pos (1000000 / b) with h | h; (rw [h] at hbm; omega); exact h
    have HBM := Lib.hid hbm
    have e1 := td t b
    have e2 := tm t b
    have q1 : t / b ≤ 1000000000 := Nat.le_trans (Nat.div_le_self _ _) (by omega)
    have hrb : t % b < b := Nat.mod_lt _ (by omega)
    have hx6 : t % b * (1000000 / b) < 10 ^ 6 := by
      have h1 : (t % b + 1) * (1000000 / b) ≤ b * (1000000 / b) := Nat.mul_le_mul_right _ (by omega)
      rw [Nat.add_mul, Nat.one_mul] at h1
      omega
    have HX6 := Lib.hid hx6
    clear hx6 hbm
    generalize 1000000 % b = u at *
    generalize t / b = Q at *
    generalize t % b = r at *
    generalize 1000000 / b = m at *
    clear hd
    have z3 := numS_size Q (by omega)
    have l3 := dec_len Q (by omega)
    have start : ∀ (acc : List UInt8) (wr : World) (o : ByteArray), acc ++ frs 6 r b = [45] ++ posText t b → acc.length ≤ 30 → o.data.toList = acc → FrAt wr w.heap.size (-(t : Int)) (b : Int) → Below w.heap.size w wr →
        ∃ (f r' y : Nat) (ac : List UInt8), f ≤ 6 ∧ Value.string o = .string ⟨ac.toArray⟩ ∧ Value.int .i64 (r : Int) = .int .i64 (r' : Int) ∧ r' < b ∧ ac ++ frs f r' b = [45] ++ posText t b ∧ ac.length + f ≤ 40 ∧ y < 10 ^ f ∧ r' * m = y * 10 ^ (6 - f) ∧ FrAt wr w.heap.size (-(t : Int)) (b : Int) ∧ Below w.heap.size w wr := by
      intro acc wr o h1 h2 h3 h4 h5
      exact ⟨6, r, r * m, acc, Nat.le_refl _, congrArg Value.string (strL h3), rfl, hrb, h1, by omega, HX6.out, by simp, h4, h5⟩
    have ST := Lib.hid start; clear start
    by_cases hr : r = 0
    · have g0 : decide (0 < r) = false := decide_eq_false (by omega)
      have g1 : decide ((0 : Int) < (r : Int)) = false := decide_eq_false (by omega)
      rw [if_pos hr, List.append_nil] at HDT
      have HST := Lib.hid (show ([45] ++ Lib.decDigits Q) ++ frs 6 r b = [45] ++ posText t b by rw [HDT.out, hr, frs_zero, List.append_nil])
      clear hr
      go_enter Tryd.func7, Tryd.ntmps7
      go_wp2_with fail
      refine (valid_spec (-(t : Int)) (b : Int) _).mono ?_
      rintro e w1 ⟨rfl, hb1'⟩
      rw [HV.out]
      have F1 : Hid (FrAt w1 w.heap.size (-(t : Int)) (b : Int)) := FrAt.keep (FrAt.new _ _ _ _) hb1'
      obtain ⟨d0, d1⟩ := F1.out
      have hw1 : w.heap.size < w1.heap.size := F1.out.lt
      have HB1 := Lib.hid (((Below.refl _ w).alloc (Nat.le_refl _) _).trans (hb1'.mono (by simp))); clear hb1'
      go_wp2_with fail
      refine (l2Number_any Q _ (by omega)).mono ?_
      rintro e w2 ⟨rfl, hb2⟩
      have F2 : Hid (FrAt w2 w.heap.size (-(t : Int)) (b : Int)) := F1.out.keep hb2
      obtain ⟨k0, k1⟩ := F2.out
      have HB2 := Lib.hid (HB1.out.trans (hb2.mono HB1.out.size)); clear hb2 d0 d1
      go_wp2_with fail
      go_loopw [3, 5] (fun o i wr => ∃ (f r' y : Nat) (ac : List UInt8), f ≤ 6 ∧ o = .string ⟨ac.toArray⟩ ∧ i = .int .i64 (r' : Int) ∧ r' < b ∧ ac ++ frs f r' b = [45] ++ posText t b ∧ ac.length + f ≤ 40 ∧ y < 10 ^ f ∧ r' * m = y * 10 ^ (6 - f) ∧ FrAt wr w.heap.size (-(t : Int)) (b : Int) ∧ Below w.heap.size w wr) (fun o _ _ => 200 - strZ o)
      case atStart => exact ST.out _ _ _ HST.out (by simp; omega) (by simp [numS]) F2.out HB2.out
      case round =>
        obtain ⟨f, r', y, ac, hf, rfl, rfl, hrb', hac, hlen, hy, hry, hfr, hbel⟩ := hrel
        have HAC := Lib.hid hac; have HY := Lib.hid hry; have HFR := Lib.hid hfr; have HBL := Lib.hid hbel; have HYY := Lib.hid hy
        clear hac hry hbel hy
        obtain ⟨c0, c1⟩ := hfr
        have hsz : (⟨ac.toArray⟩ : ByteArray).size ≤ 40 := by rw [S_size]; omega
        have HSZ := Lib.hid (S_size ac)
        by_cases hr0 : r' = 0
        · subst hr0
          have HE := Lib.hid (show ac = [45] ++ posText t b by rw [← HAC.out, frs_zero, List.append_nil])
          go_wp2
          go_ret
          exact ⟨ret_strT (by rw [HE.out]; rfl), HBL.out⟩
        · have hf0 : f ≠ 0 := fun h => hr0 (rest_zero (b := b) hmp HYY.out HY.out h)
          obtain ⟨f', rfl⟩ : ∃ f', f = f' + 1 := ⟨f - 1, by omega⟩
          have HN := Lib.hid (rest_next HBM.out (by omega) HYY.out HY.out)
          have HS := Lib.hid (frs_step (f := f') (b := b) hr0)
          have hq10 : 10 * r' / b < 10 := by rw [Nat.div_lt_iff_lt_mul (by omega)]; omega
          have hm10 : 10 * r' % b < b := Nat.mod_lt _ (by omega)
          have e4 : ((10 : Int) * (r' : Int)).tdiv (b : Int) = ((10 * r' / b : Nat) : Int) := by rw [show (10 : Int) * (r' : Int) = ((10 * r' : Nat) : Int) by omega]; exact td _ _
          have e5 : ((10 : Int) * (r' : Int)).tmod (b : Int) = ((10 * r' % b : Nat) : Int) := by rw [show (10 : Int) * (r' : Int) = ((10 * r' : Nat) : Int) by omega]; exact tm _ _
          generalize hqq : 10 * r' / b = q at *
          generalize hmm : 10 * r' % b = r2 at *
          clear hqq hmm
          have HQ := Lib.hid (num_digit hq10)
          have hqs : (numS q).size ≤ 21 := numS_size q (by omega)
          go_wp2_with fail
          refine (l2Number_any q _ (by omega)).mono ?_
          rintro e w3 ⟨rfl, hb3⟩
          have F3 : Hid (FrAt w3 w.heap.size (-(t : Int)) (b : Int)) := HFR.out.keep hb3
          obtain ⟨k2, k3⟩ := F3.out
          have HB3 := Lib.hid (HBL.out.trans (hb3.mono HBL.out.size)); clear hb3 c0 c1
          go_wp2
          go_roundw
          case rel =>
            refine ⟨f', r2, y % 10 ^ f', ac ++ [dgt q], by omega, congrArg Value.string ?_, rfl, hm10, ?_, by simp; omega, Nat.mod_lt _ (Nat.pow_pos (by omega)), HN.out, F3.out, HB3.out⟩
            · rw [HQ.out]; apply strL; simp
            · rw [← HAC.out, HS.out]; simp
          case measure =>
            show 200 - (⟨ac.toArray⟩ ++ numS q : ByteArray).size < 200 - (⟨ac.toArray⟩ : ByteArray).size
            rw [HQ.out, ByteArray.size_append, HSZ.out]
            show 200 - (ac.length + 1) < 200 - ac.length
            omega
    · have g0 : decide (0 < r) = true := decide_eq_true (by omega)
      have g1 : decide ((0 : Int) < (r : Int)) = true := decide_eq_true (by omega)
      rw [if_neg hr] at HDT
      have HST := Lib.hid (show ([45] ++ Lib.decDigits Q ++ [46]) ++ frs 6 r b = [45] ++ posText t b by rw [HDT.out]; simp)
      clear hr
      go_enter Tryd.func7, Tryd.ntmps7
      go_wp2_with fail
      refine (valid_spec (-(t : Int)) (b : Int) _).mono ?_
      rintro e w1 ⟨rfl, hb1'⟩
      rw [HV.out]
      have F1 : Hid (FrAt w1 w.heap.size (-(t : Int)) (b : Int)) := FrAt.keep (FrAt.new _ _ _ _) hb1'
      obtain ⟨d0, d1⟩ := F1.out
      have hw1 : w.heap.size < w1.heap.size := F1.out.lt
      have HB1 := Lib.hid (((Below.refl _ w).alloc (Nat.le_refl _) _).trans (hb1'.mono (by simp))); clear hb1'
      go_wp2_with fail
      refine (l2Number_any Q _ (by omega)).mono ?_
      rintro e w2 ⟨rfl, hb2⟩
      have F2 : Hid (FrAt w2 w.heap.size (-(t : Int)) (b : Int)) := F1.out.keep hb2
      obtain ⟨k0, k1⟩ := F2.out
      have HB2 := Lib.hid (HB1.out.trans (hb2.mono HB1.out.size)); clear hb2 d0 d1
      go_wp2_with fail
      go_loopw [3, 5] (fun o i wr => ∃ (f r' y : Nat) (ac : List UInt8), f ≤ 6 ∧ o = .string ⟨ac.toArray⟩ ∧ i = .int .i64 (r' : Int) ∧ r' < b ∧ ac ++ frs f r' b = [45] ++ posText t b ∧ ac.length + f ≤ 40 ∧ y < 10 ^ f ∧ r' * m = y * 10 ^ (6 - f) ∧ FrAt wr w.heap.size (-(t : Int)) (b : Int) ∧ Below w.heap.size w wr) (fun o _ _ => 200 - strZ o)
      case atStart => exact ST.out _ _ _ HST.out (by simp; omega) (by simp [numS]) F2.out HB2.out
      case round =>
        obtain ⟨f, r', y, ac, hf, rfl, rfl, hrb', hac, hlen, hy, hry, hfr, hbel⟩ := hrel
        have HAC := Lib.hid hac; have HY := Lib.hid hry; have HFR := Lib.hid hfr; have HBL := Lib.hid hbel; have HYY := Lib.hid hy
        clear hac hry hbel hy
        obtain ⟨c0, c1⟩ := hfr
        have hsz : (⟨ac.toArray⟩ : ByteArray).size ≤ 40 := by rw [S_size]; omega
        have HSZ := Lib.hid (S_size ac)
        by_cases hr0 : r' = 0
        · subst hr0
          have HE := Lib.hid (show ac = [45] ++ posText t b by rw [← HAC.out, frs_zero, List.append_nil])
          go_wp2
          go_ret
          exact ⟨ret_strT (by rw [HE.out]; rfl), HBL.out⟩
        · have hf0 : f ≠ 0 := fun h => hr0 (rest_zero (b := b) hmp HYY.out HY.out h)
          obtain ⟨f', rfl⟩ : ∃ f', f = f' + 1 := ⟨f - 1, by omega⟩
          have HN := Lib.hid (rest_next HBM.out (by omega) HYY.out HY.out)
          have HS := Lib.hid (frs_step (f := f') (b := b) hr0)
          have hq10 : 10 * r' / b < 10 := by rw [Nat.div_lt_iff_lt_mul (by omega)]; omega
          have hm10 : 10 * r' % b < b := Nat.mod_lt _ (by omega)
          have e4 : ((10 : Int) * (r' : Int)).tdiv (b : Int) = ((10 * r' / b : Nat) : Int) := by rw [show (10 : Int) * (r' : Int) = ((10 * r' : Nat) : Int) by omega]; exact td _ _
          have e5 : ((10 : Int) * (r' : Int)).tmod (b : Int) = ((10 * r' % b : Nat) : Int) := by rw [show (10 : Int) * (r' : Int) = ((10 * r' : Nat) : Int) by omega]; exact tm _ _
          generalize hqq : 10 * r' / b = q at *
          generalize hmm : 10 * r' % b = r2 at *
          clear hqq hmm
          have HQ := Lib.hid (num_digit hq10)
          have hqs : (numS q).size ≤ 21 := numS_size q (by omega)
          go_wp2_with fail
          refine (l2Number_any q _ (by omega)).mono ?_
          rintro e w3 ⟨rfl, hb3⟩
          have F3 : Hid (FrAt w3 w.heap.size (-(t : Int)) (b : Int)) := HFR.out.keep hb3
          obtain ⟨k2, k3⟩ := F3.out
          have HB3 := Lib.hid (HBL.out.trans (hb3.mono HBL.out.size)); clear hb3 c0 c1
          go_wp2
          go_roundw
          case rel =>
            refine ⟨f', r2, y % 10 ^ f', ac ++ [dgt q], by omega, congrArg Value.string ?_, rfl, hm10, ?_, by simp; omega, Nat.mod_lt _ (Nat.pow_pos (by omega)), HN.out, F3.out, HB3.out⟩
            · rw [HQ.out]; apply strL; simp
            · rw [← HAC.out, HS.out]; simp
          case measure =>
            show 200 - (⟨ac.toArray⟩ ++ numS q : ByteArray).size < 200 - (⟨ac.toArray⟩ : ByteArray).size
            rw [HQ.out, ByteArray.size_append, HSZ.out]
            show 200 - (ac.length + 1) < 200 - ac.length
            omega
  · have e7 : (((1000000 % b : Nat) : Int) != 0) = true := bne_iff_ne.mpr (by omega)
    have HP := Lib.hid (show (⟨#[45]⟩ ++ numS t ++ ⟨#[47]⟩ ++ numS b : ByteArray) = ⟨([45] ++ posText t b).toArray⟩ by
      rw [posText, if_neg hd]; apply strL; simp [numS])
    generalize 1000000 % b = u at *
    clear hd
    have r1 : ¬ 9223372036854775807 < 1 + (numS t).size := by omega
    have r2 : ¬ 9223372036854775807 < 1 + (numS t).size + 1 := by omega
    have r3 : ¬ 9223372036854775807 < 1 + (numS t).size + 1 + (numS b).size := by omega
    go_enter Tryd.func7, Tryd.ntmps7
    go_wp2_with fail
    refine (valid_spec (-(t : Int)) (b : Int) _).mono ?_
    rintro e w1 ⟨rfl, hb1'⟩
    rw [HV.out]
    have F1 : Hid (FrAt w1 w.heap.size (-(t : Int)) (b : Int)) := FrAt.keep (FrAt.new _ _ _ _) hb1'
    obtain ⟨d0, d1⟩ := F1.out
    have hw1 : w.heap.size < w1.heap.size := F1.out.lt
    have HB1 := Lib.hid (((Below.refl _ w).alloc (Nat.le_refl _) _).trans (hb1'.mono (by simp))); clear hb1'
    go_wp2_with fail
    go_region_held3 (fun w' => w'.cell? ⟨w.heap.size, 1, none⟩ = some (.int .i64 (b : Int)))
      (first
        | go_keep
        | (first | (rw [hb3.cell (by show w.heap.size < _; have := hb2.size; simp at this; omega)]; assumption) | (rw [hb2.cell (by exact hw1)]; assumption)))
      (first
        | ((go_at_call 17; (with_reducible refine (l2Number_any t _ (by omega)).mono ?_); rintro e w2 ⟨rfl, hb2⟩))
        | ((go_at_call 17; (with_reducible refine (l2Number_any b _ (by omega)).mono ?_); rintro e w3 ⟨rfl, hb3⟩)))
    have HB3 := Lib.hid (HB1.out.drew.trans ((hb2.mono HB1.out.size).trans (hb3.mono (by have := HB1.out.size; have := hb2.size; simp at this; omega))))
    clear hb2 hb3
    go_wp2
    go_ret
    exact ⟨ret_strT (HP.out.trans rfl), HB3.out⟩

theorem fractionText_spec (t b : Int) (w : World) :
    Calls Tryd.prog 7 #[.agg #[.int .i64 t, .int .i64 b]] w fun e w' => e = .returned (.string ⟨(textF t b).toArray⟩) ∧ Below w.heap.size w w' := by
  cases hv : vB t b with
  | true =>
    obtain ⟨v1, v2, v3, v4⟩ := vB_bd hv
    obtain ⟨b', rfl⟩ := Int.eq_ofNat_of_zero_le (show 0 ≤ b by omega)
    rw [textF, if_pos hv, fracT]
    by_cases hn : t < 0
    · obtain ⟨t', ht'⟩ := Int.eq_ofNat_of_zero_le (show 0 ≤ -t by omega)
      obtain rfl : t = -(t' : Int) := by omega
      rw [if_pos hn, show (- -(t' : Int)).toNat = t' by omega]
      exact fractionText_neg t' b' w (by omega) hv
    · obtain ⟨t', rfl⟩ := Int.eq_ofNat_of_zero_le (show 0 ≤ t by omega)
      rw [if_neg hn]
      exact fractionText_nat t' b' w hv
  | false =>
    have HV := Lib.hid hv
    have HT := Lib.hid (show textF t b = [] by rw [textF, hv]; rfl)
    clear hv
    go_enter Tryd.func7, Tryd.ntmps7
    go_wp2_with fail
    refine (valid_spec t b _).mono ?_
    rintro e w1 ⟨rfl, hb1⟩
    rw [HV.out]
    have HB1 := Lib.hid (((Below.refl _ w).alloc (Nat.le_refl _) _).trans (hb1.mono (by simp))); clear hb1
    go_wp2
    go_ret
    exact ⟨by rw [HT.out]; rfl, HB1.out⟩

end Go.Proofs.YtpgbfagacpondaaDoor
