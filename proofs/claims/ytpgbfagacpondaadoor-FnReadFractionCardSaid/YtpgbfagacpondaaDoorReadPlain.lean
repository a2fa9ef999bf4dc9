/-
  Texts of fractions are read as the fractions, plainly.
-/
import Derived.Test.YtpgbfagacpondaaDoorReadI
import Derived.Test.YtpgbfagacpondaaDoorCutPlain
namespace Go.Proofs.YtpgbfagacpondaaDoor
set_option linter.unusedVariables false

theorem dgt_isD {n : Nat} (h : n < 10) : isD (dgt n) = true ∧ (dgt n).toNat - 48 = n := by
  have e : (dgt n).toNat = 48 + n := by unfold dgt; rw [UInt8.toNat_ofNat_of_lt' (by simp [UInt8.size]; omega)]
  refine ⟨?_, by omega⟩
  simp [isD, e]; omega
theorem dec_digits (n : Nat) : allD (Lib.decDigits n) = true ∧ valD (Lib.decDigits n) = n := by
  induction n using Nat.strongRecOn with
  | ind n ih =>
    by_cases h : n < 10
    · rw [dec_small h]
      refine ⟨by simp [allD, (dgt_isD h).1], ?_⟩
      have := valD_snoc [] (dgt n)
      rw [List.nil_append] at this
      rw [this, valD_nil, (dgt_isD h).2]; omega
    · have hm : n % 10 < 10 := Nat.mod_lt _ (by omega)
      obtain ⟨i1, i2⟩ := ih (n / 10) (by omega)
      rw [dec_big h, allD_snoc, valD_snoc, i1, i2, (dgt_isD hm).1, (dgt_isD hm).2]
      exact ⟨rfl, by omega⟩
theorem dec_short (k : Nat) : ∀ n, n < 10 ^ (k + 1) → (Lib.decDigits n).length ≤ k + 1 := by
  induction k with
  | zero => intro n h; rw [dec_small (by simpa using h)]; simp
  | succ k ih =>
    intro n h
    by_cases h9 : n < 10
    · rw [dec_small h9]; simp
    · rw [dec_big h9, List.length_append]
      have := ih (n / 10) (by rw [Nat.pow_succ] at h; omega)
      simp; omega
theorem dec_dOK {n m k : Nat} (h : n < 10 ^ (k + 1)) (hk : k + 1 ≤ m) : dOK (Lib.decDigits n) m = true := by
  rw [dOK_iff]
  exact ⟨List.length_pos_iff.mpr (dec_ne n), Nat.le_trans (dec_short k n h) hk, (dec_digits n).1⟩
theorem frs_digits (f : Nat) : ∀ r b, r < b → allD (frs f r b) = true := by
  induction f with
  | zero => intro r b _; rfl
  | succ f ih =>
    intro r b h
    rw [frs]
    split
    · rfl
    · have hq : 10 * r / b < 10 := by rw [Nat.div_lt_iff_lt_mul (by omega)]; omega
      have := ih (10 * r % b) b (Nat.mod_lt _ (by omega))
      simp only [allD, List.all_cons, (dgt_isD hq).1, Bool.true_and] at this ⊢
      exact this
theorem valD_cons (a : UInt8) (l : List UInt8) : valD (a :: l) = (a.toNat - 48) * 10 ^ l.length + valD l := by
  refine snoc_ind (P := fun l => valD (a :: l) = (a.toNat - 48) * 10 ^ l.length + valD l) ?_ ?_ l
  · simp [valD]
  · intro l b ih
    rw [← List.cons_append, valD_snoc, ih, valD_snoc, List.length_append, List.length_singleton, Nat.pow_succ]
    rw [Nat.add_mul, Nat.mul_assoc, Nat.add_assoc]
theorem frs_val (b m : Nat) (hbm : b * m = 1000000) (f : Nat) : ∀ r y, f ≤ 6 → r < b → y < 10 ^ f → r * m = y * 10 ^ (6 - f) → valD (frs f r b) * b = r * 10 ^ (frs f r b).length := by
  have hm : 0 < m := by rcases Nat.eq_zero_or_pos m with h | h; (subst h; omega); exact h
  induction f with
  | zero =>
    intro r y _ hr hy h
    have hy0 : y = 0 := by simpa using hy
    subst hy0
    rw [Nat.zero_mul] at h
    have : r = 0 := by
      rcases Nat.mul_eq_zero.mp h with h | h
      · exact h
      · omega
    subst this; simp [frs, valD]
  | succ f ih =>
    intro r y hf hr hy h
    by_cases hr0 : r = 0
    · subst hr0; simp [frs, valD]
    · have hE : 10 ^ (6 - f) = 10 * 10 ^ (6 - (f + 1)) := by rw [show 6 - f = (6 - (f + 1)) + 1 by omega, Nat.pow_succ, Nat.mul_comm]
      have hE2 : 10 ^ f * 10 ^ (6 - f) = 1000000 := by rw [← Nat.pow_add, show f + (6 - f) = 6 by omega]
      have h10 : 10 * r * m = y * 10 ^ (6 - f) := by rw [hE, Nat.mul_assoc, h, ← Nat.mul_assoc, ← Nat.mul_assoc, Nat.mul_comm 10 y]
      have hmod : (10 * r % b) * m = (y % 10 ^ f) * 10 ^ (6 - f) := by rw [← Nat.mul_mod_mul_right, h10, hbm, ← hE2, Nat.mul_mod_mul_right]
      have i := ih (10 * r % b) (y % 10 ^ f) (by omega) (Nat.mod_lt _ (by omega)) (Nat.mod_lt _ (Nat.pow_pos (by omega))) hmod
      have hq : 10 * r / b < 10 := by rw [Nat.div_lt_iff_lt_mul (by omega)]; omega
      have hdm := Nat.div_add_mod (10 * r) b
      rw [frs, if_neg hr0, valD_cons, (dgt_isD hq).2, List.length_cons, Nat.pow_succ, Nat.add_mul, i]
      generalize 10 ^ (frs f (10 * r % b) b).length = P
      generalize 10 * r / b = q at *
      generalize 10 * r % b = r2 at *
      have : q * P * b + r2 * P = (b * q + r2) * P := by rw [Nat.add_mul, Nat.mul_right_comm, Nat.mul_comm q b]
      rw [this, hdm, Nat.mul_comm 10 r, Nat.mul_assoc, Nat.mul_comm 10 P]
theorem not_mem_digits {l : List UInt8} (h : allD l = true) (c : UInt8) (hc : isD c = false) : c ∉ l := by
  intro hm
  simp only [allD, List.all_eq_true] at h
  have := h c hm
  rw [hc] at this; cases this
/-- What DecimalOf makes of the text of a decimal fraction. -/
theorem dec_read (t b : Nat) (hv : vB (t : Int) (b : Int) = true) (hd : 1000000 % b = 0) : decV (decText t b) = true ∧ mkOK (decX (decText t b)) (decY (decText t b)) = true ∧ mkT (decX (decText t b)) (decY (decText t b)) = (t : Int) ∧ mkB (decX (decText t b)) (decY (decText t b)) = (b : Int) := by
  obtain ⟨v1, v2, v3, v4⟩ := vB_bd hv
  have hbm : b * (1000000 / b) = 1000000 := by have := Nat.div_add_mod 1000000 b; omega
  have hq9 : t / b < 10 ^ (9 + 1) := Nat.lt_of_le_of_lt (Nat.div_le_self _ _) (by omega)
  have hr : t % b < b := Nat.mod_lt _ (by omega)
  have hdm := Nat.div_add_mod t b
  obtain ⟨w1, w2⟩ := dec_digits (t / b)
  have hok := dec_dOK (m := 10) hq9 (by omega)
  have hno := not_mem_digits w1 46 (by decide)
  by_cases h0 : t % b = 0
  · have e : decText t b = Lib.decDigits (t / b) := by rw [decText, if_pos h0, List.append_nil]
    have ei := ix_none _ 46 hno
    have eP : decP (decText t b) = Lib.decDigits (t / b) := by unfold decP; rw [e, ei, if_pos (by omega)]
    have eQ : decQ (decText t b) = [48] := by unfold decQ; rw [e, ei, if_pos (by omega)]
    have eX : decX (decText t b) = (((t / b) * 10 : Nat) : Int) := by unfold decX; rw [eP, eQ, w2]; simp [valD]
    have eY : decY (decText t b) = 10 := by unfold decY; rw [eQ]; rfl
    refine ⟨by unfold decV; rw [eP, eQ, hok]; decide, ?_⟩
    rw [eX, eY]
    refine mk_of (by omega) hv ?_
    have : b * (t / b) = t := by omega
    have h2 : (t : Int) = (b : Int) * ((t / b : Nat) : Int) := by rw [← Int.natCast_mul, this]
    rw [h2, Int.natCast_mul]
    generalize ((t / b : Nat) : Int) = q
    grind
  · have hx6 : t % b * (1000000 / b) < 10 ^ 6 := by
      have h1 : (t % b + 1) * (1000000 / b) ≤ b * (1000000 / b) := Nat.mul_le_mul_right _ (by omega)
      rw [Nat.add_mul, Nat.one_mul] at h1
      have hm : 0 < 1000000 / b := by rcases Nat.eq_zero_or_pos (1000000 / b) with h | h; (rw [h] at hbm; omega); exact h
      omega
    have hval := frs_val b (1000000 / b) hbm 6 (t % b) _ (Nat.le_refl _) hr hx6 (by simp)
    have hfd := frs_digits 6 (t % b) b hr
    have hfl := frs_len 6 (t % b) b
    have hfn : 1 ≤ (frs 6 (t % b) b).length := by rw [frs, if_neg h0]; simp
    have e : decText t b = Lib.decDigits (t / b) ++ 46 :: frs 6 (t % b) b := by rw [decText, if_neg h0]
    generalize frs 6 (t % b) b = G at *
    have ei : Lib.indexByte (decText t b) 46 = ((Lib.decDigits (t / b)).length : Nat) := by
      refine ix_at _ 46 _ ?_ ?_
      · rw [e, List.getElem?_append_right (Nat.le_refl _)]; simp
      · rw [e, List.take_left]; exact hno
    have eP : decP (decText t b) = Lib.decDigits (t / b) := by
      unfold decP; rw [ei, if_neg (by omega), Int.toNat_natCast, e, List.take_left]
    have eQ : decQ (decText t b) = G := by
      unfold decQ; rw [ei, if_neg (by omega), Int.toNat_natCast, e, ← List.drop_drop, List.drop_left]; rfl
    have hokG : dOK G 6 = true := by rw [dOK_iff]; exact ⟨hfn, hfl, hfd⟩
    refine ⟨by unfold decV; rw [eP, eQ, hok, hokG]; rfl, ?_⟩
    have hy : 1 ≤ decY (decText t b) := by unfold decY; have : 0 < 10 ^ (decQ (decText t b)).length := Nat.pow_pos (by omega); omega
    refine mk_of hy hv ?_
    unfold decX decY
    rw [eP, eQ, w2]
    have key : t * 10 ^ G.length = (t / b * 10 ^ G.length + valD G) * b := by
      rw [Nat.add_mul, hval]
      generalize 10 ^ G.length = P
      have : t / b * P * b = b * (t / b) * P := by rw [Nat.mul_right_comm, Nat.mul_comm (t / b) b]
      rw [this, ← Nat.add_mul, hdm]
    rw [← Int.natCast_mul, key, Int.natCast_mul]

end Go.Proofs.YtpgbfagacpondaaDoor
