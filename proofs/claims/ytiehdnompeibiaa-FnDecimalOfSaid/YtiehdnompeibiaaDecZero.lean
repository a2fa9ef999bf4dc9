/-
  Decimal numbers: what their fractions are, and a zero before them; plainly.
-/
import Derived.Test.YtiehdnompeibiaaDecPlain
namespace Go.Proofs.Ytiehdnompeibiaa
set_option linter.unusedVariables false

theorem ix_zero (l : List UInt8) : Lib.indexByte (48 :: l) 46 = if Lib.indexByte l 46 < 0 then -1 else Lib.indexByte l 46 + 1 := by
  have hb := ix_bd l 46
  simp only [Lib.indexByte]
  rw [if_neg (by decide)]
  by_cases h : Lib.indexByte l 46 < 0
  · rw [if_pos h, if_pos (by rw [beq_iff_eq]; omega)]
  · rw [if_neg h, if_neg (by rw [beq_iff_eq]; omega)]
theorem decP_zero (l : List UInt8) : decP (48 :: l) = 48 :: decP l := by
  unfold decP
  rw [ix_zero]
  by_cases h : Lib.indexByte l 46 < 0
  · rw [if_pos h, if_pos h, if_pos (by omega)]
  · rw [if_neg h, if_neg h, if_neg (by omega), show (Lib.indexByte l 46 + 1).toNat = (Lib.indexByte l 46).toNat + 1 by omega]; rfl
theorem decQ_zero (l : List UInt8) : decQ (48 :: l) = decQ l := by
  unfold decQ
  rw [ix_zero]
  by_cases h : Lib.indexByte l 46 < 0
  · rw [if_pos h, if_pos h, if_pos (by omega)]
  · rw [if_neg h, if_neg h, if_neg (by omega), show (Lib.indexByte l 46 + 1).toNat = (Lib.indexByte l 46).toNat + 1 by omega]; rfl
theorem valD_zero (l : List UInt8) : valD (48 :: l) = valD l := by
  unfold valD; rw [List.foldl_cons]; rfl
theorem decXY_zero (l : List UInt8) : decX (48 :: l) = decX l ∧ decY (48 :: l) = decY l := by
  unfold decX decY; rw [decP_zero, decQ_zero, valD_zero]; exact ⟨rfl, rfl⟩
/-- The fraction of a decimal number. -/
theorem dec_frac {l : List UInt8} (hv : decV l = true) (hk : mkOK (decX l) (decY l) = true) :
    vB (mkT (decX l) (decY l)) (mkB (decX l) (decY l)) = true ∧ 0 ≤ mkT (decX l) (decY l) ∧ (1000000 : Int).tmod (mkB (decX l) (decY l)) = 0 ∧ 1 ≤ mkB (decX l) (decY l) := by
  simp only [decV, Bool.and_eq_true, dOK_iff] at hv
  have hy : 1 ≤ decY l := by
    unfold decY
    have : 0 < 10 ^ (decQ l).length := Nat.pow_pos (by omega)
    omega
  have hx : 0 ≤ decX l := by unfold decX; omega
  obtain ⟨v, e⟩ := mk_value hy hk
  generalize mkT (decX l) (decY l) = T at *
  generalize mkB (decX l) (decY l) = B at *
  obtain ⟨v1, v2, v3, v4, v5⟩ := (vB_iff T B).mp v
  refine ⟨v, ?_, ?_, v3⟩
  · by_cases h : 0 ≤ T
    · exact h
    · have h1 : T * decY l < 0 := Int.mul_neg_of_neg_of_pos (by omega) (by omega)
      have h2 : 0 ≤ decX l * B := Int.mul_nonneg hx (by omega)
      omega
  · have hd : B ∣ T * decY l := ⟨decX l, by rw [e, Int.mul_comm]⟩
    have hd2 := dvd_cancel hd v5
    have hd3 : decY l ∣ (1000000 : Int) := by
      unfold decY
      have hn : 10 ^ (decQ l).length ∣ 10 ^ 6 := Nat.pow_dvd_pow 10 hv.2.2.1
      have : ((10 ^ (decQ l).length : Nat) : Int) ∣ ((10 ^ 6 : Nat) : Int) := Int.natCast_dvd_natCast.mpr hn
      exact this
    exact Int.tmod_eq_zero_of_dvd (Int.dvd_trans hd2 hd3)

end Go.Proofs.Ytiehdnompeibiaa
