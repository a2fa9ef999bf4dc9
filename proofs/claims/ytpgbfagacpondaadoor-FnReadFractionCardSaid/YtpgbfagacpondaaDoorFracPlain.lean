/-
  Plain facts on fractions: no Go, no program.
-/
namespace Go.Proofs.YtpgbfagacpondaaDoor

/-- A valid fraction. -/
def vB (t b : Int) : Bool := decide (-1000000000 ≤ t) && decide (t ≤ 1000000000) && decide (1 ≤ b) && decide (b ≤ 1000000) && ((Int.gcd t b : Nat) == 1)
/-- Whether t / b can be reduced to a valid fraction. -/
def mkOK (t b : Int) : Bool := vB (t.tdiv (Int.gcd t b : Nat)) (b.tdiv (Int.gcd t b : Nat))
def mkT (t b : Int) : Int := if mkOK t b = true then t.tdiv (Int.gcd t b : Nat) else 0
def mkB (t b : Int) : Int := if mkOK t b = true then b.tdiv (Int.gcd t b : Nat) else 0

theorem vB_iff (t b : Int) : vB t b = true ↔ -1000000000 ≤ t ∧ t ≤ 1000000000 ∧ 1 ≤ b ∧ b ≤ 1000000 ∧ Int.gcd t b = 1 := by
  simp [vB, and_assoc]

theorem gcd_pos' (t b : Int) (hb : 1 ≤ b) : 1 ≤ Int.gcd t b := by
  have : 0 < Int.gcd t b := Int.gcd_pos_of_ne_zero_right t (by omega)
  omega

theorem dvd_cancel {q q' p : Int} (h : q ∣ p * q') (hg : Int.gcd p q = 1) : q ∣ q' := by
  rw [← Int.natAbs_dvd_natAbs] at h ⊢
  rw [Int.natAbs_mul] at h
  exact Nat.Coprime.dvd_of_dvd_mul_left (Nat.Coprime.symm hg) h

/-- Two reduced fractions of one value are one. -/
theorem reduced_unique {p q p' q' : Int} (h : p * q' = p' * q) (hg : Int.gcd p q = 1) (hg' : Int.gcd p' q' = 1) (hq : 1 ≤ q) (hq' : 1 ≤ q') : p = p' ∧ q = q' := by
  have d1 : q ∣ q' := by
    have : q ∣ p * q' := ⟨p', by rw [h, Int.mul_comm]⟩
    exact dvd_cancel this hg
  have d2 : q' ∣ q := by
    have : q' ∣ p' * q := ⟨p, by rw [← h, Int.mul_comm]⟩
    exact dvd_cancel this hg'
  have e : q = q' := by
    have l1 := Int.le_of_dvd (by omega) d1
    have l2 := Int.le_of_dvd (by omega) d2
    omega
  subst e
  exact ⟨Int.eq_of_mul_eq_mul_right (by omega) h, rfl⟩

/-- What mk gives: a reduced fraction of the same value. -/
theorem mk_parts (t b : Int) (hb : 1 ≤ b) : t = t.tdiv (Int.gcd t b : Nat) * (Int.gcd t b : Nat) ∧ b = b.tdiv (Int.gcd t b : Nat) * (Int.gcd t b : Nat) ∧ Int.gcd (t.tdiv (Int.gcd t b : Nat)) (b.tdiv (Int.gcd t b : Nat)) = 1 ∧ 1 ≤ b.tdiv (Int.gcd t b : Nat) := by
  have hg := gcd_pos' t b hb
  have h1 : ((Int.gcd t b : Nat) : Int) ∣ t := Int.gcd_dvd_left _ _
  have h2 : ((Int.gcd t b : Nat) : Int) ∣ b := Int.gcd_dvd_right _ _
  have e1 := (Int.tdiv_mul_cancel h1).symm
  have e2 := (Int.tdiv_mul_cancel h2).symm
  refine ⟨e1, e2, ?_, ?_⟩
  · rw [Int.tdiv_eq_ediv_of_dvd h1, Int.tdiv_eq_ediv_of_dvd h2]
    exact Int.gcd_ediv_gcd_ediv_gcd (by omega)
  · by_cases hx : 1 ≤ b.tdiv (Int.gcd t b : Nat)
    · exact hx
    · have : b.tdiv (Int.gcd t b : Nat) * (Int.gcd t b : Nat) ≤ 0 := Int.mul_nonpos_of_nonpos_of_nonneg (by omega) (by omega)
      omega

theorem mk_value {t b : Int} (hb : 1 ≤ b) (h : mkOK t b = true) : vB (mkT t b) (mkB t b) = true ∧ mkT t b * b = t * mkB t b := by
  obtain ⟨e1, e2, e3, e4⟩ := mk_parts t b hb
  simp only [mkT, mkB, h, if_true]
  refine ⟨h, ?_⟩
  generalize t.tdiv (Int.gcd t b : Nat) = p at *
  generalize b.tdiv (Int.gcd t b : Nat) = q at *
  generalize ((Int.gcd t b : Nat) : Int) = g at *
  rw [e1, e2]; grind

theorem mk_of {t b p q : Int} (hb : 1 ≤ b) (hv : vB p q = true) (h : p * b = t * q) : mkOK t b = true ∧ mkT t b = p ∧ mkB t b = q := by
  obtain ⟨e1, e2, e3, e4⟩ := mk_parts t b hb
  obtain ⟨v1, v2, v3, v4, v5⟩ := (vB_iff p q).mp hv
  have hg := gcd_pos' t b hb
  have key : p * b.tdiv (Int.gcd t b : Nat) = t.tdiv (Int.gcd t b : Nat) * q := by
    generalize t.tdiv (Int.gcd t b : Nat) = x at *
    generalize b.tdiv (Int.gcd t b : Nat) = y at *
    have hg' : ((Int.gcd t b : Nat) : Int) ≠ 0 := by omega
    generalize ((Int.gcd t b : Nat) : Int) = g at *
    refine Int.eq_of_mul_eq_mul_right hg' ?_
    rw [e1, e2] at h
    grind
  obtain ⟨a1, a2⟩ := reduced_unique key v5 e3 v3 e4
  have ok : mkOK t b = true := by unfold mkOK; rw [← a1, ← a2]; exact hv
  exact ⟨ok, by simp [mkT, ok, a1], by simp [mkB, ok, a2]⟩

theorem mk_no {t b : Int} (h : mkOK t b = false) : mkT t b = 0 ∧ mkB t b = 0 := by simp [mkT, mkB, h]

end Go.Proofs.YtpgbfagacpondaaDoor
