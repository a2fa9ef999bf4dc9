/-
  Texts of fractions, plainly: no Go, no program.
-/
import Derived.Lib.ItoaNum
import Derived.Lib.ItoaLen
import Derived.Lib.ItoaMem
import Derived.Lib.TrimByte
import Derived.Test.YtpgbfagacpondaaDoorFracPlain
namespace Go.Proofs.YtpgbfagacpondaaDoor
set_option linter.unusedVariables false

def dgt (n : Nat) : UInt8 := UInt8.ofNat (48 + n)
theorem dec_small {n : Nat} (h : n < 10) : Lib.decDigits n = [dgt n] := by rw [Lib.decDigits, dif_pos h]; rfl
theorem dec_big {n : Nat} (h : ¬ n < 10) : Lib.decDigits n = Lib.decDigits (n / 10) ++ [dgt (n % 10)] := by
  conv => lhs; rw [Lib.decDigits, dif_neg h]
  rfl
theorem dec_ne (n : Nat) : Lib.decDigits n ≠ [] := by
  by_cases h : n < 10
  · rw [dec_small h]; simp
  · rw [dec_big h]; simp
theorem dec_len (n : Nat) (h : n ≤ 9223372036854775807) : (Lib.decDigits n).length ≤ 21 := by
  have := Lib.itoa_length_le (n : Int) (by omega) (by omega)
  rw [Lib.itoa_nonneg] at this; exact this

/-- k digits. -/
def padS : Nat → Nat → List UInt8
  | 0, _ => []
  | k + 1, y => padS k (y / 10) ++ [dgt (y % 10)]
theorem dec_pad (k : Nat) : ∀ x, x < 10 ^ k → Lib.decDigits (10 ^ k + x) = 49 :: padS k x := by
  induction k with
  | zero =>
    intro x h
    have hx : x = 0 := by simpa using h
    subst hx
    rw [dec_small (by decide)]; rfl
  | succ k ih =>
    intro x h
    have hp : 0 < 10 ^ k := Nat.pow_pos (by omega)
    rw [Nat.pow_succ] at h ⊢
    rw [dec_big (by omega), show (10 ^ k * 10 + x) / 10 = 10 ^ k + x / 10 by omega, ih (x / 10) (by omega), show (10 ^ k * 10 + x) % 10 = x % 10 by omega]
    rfl
theorem pad_head (k : Nat) : ∀ y, y < 10 ^ (k + 1) → padS (k + 1) y = dgt (y / 10 ^ k) :: padS k (y % 10 ^ k) := by
  induction k with
  | zero => intro y h; simp only [padS, Nat.pow_zero, Nat.div_one, List.nil_append]; rw [Nat.mod_eq_of_lt (by simpa using h)]
  | succ k ih =>
    intro y h
    have e : padS (k + 1 + 1) y = padS (k + 1) (y / 10) ++ [dgt (y % 10)] := rfl
    have e2 : padS (k + 1) (y % 10 ^ (k + 1)) = padS k (y % 10 ^ (k + 1) / 10) ++ [dgt (y % 10 ^ (k + 1) % 10)] := rfl
    rw [e, ih (y / 10) (by rw [Nat.pow_succ] at h; omega), e2]
    have h10 : 10 ^ (k + 1) = 10 * 10 ^ k := by rw [Nat.pow_succ, Nat.mul_comm]
    rw [h10, Nat.mod_mul_right_div_self, Nat.mod_mul_right_mod, Nat.div_div_eq_div_mul]
    rfl
theorem trim_nil (c : UInt8) : Lib.trimRightB [] c = [] := rfl
theorem trim_cons (a : UInt8) (l : List UInt8) (c : UInt8) : Lib.trimRightB (a :: l) c = if Lib.trimRightB l c = [] then (if a = c then [] else [a]) else a :: Lib.trimRightB l c := by
  unfold Lib.trimRightB
  rw [List.reverse_cons, List.dropWhile_append]
  by_cases h : (l.reverse.dropWhile (· == c)) = []
  · simp only [h, List.isEmpty_nil, if_true, List.reverse_nil]
    by_cases ha : a = c
    · simp [ha]
    · simp [ha]
  · have h' : (l.reverse.dropWhile (· == c)).isEmpty = false := by cases hx : l.reverse.dropWhile (· == c) with
      | nil => exact absurd hx h
      | cons _ _ => rfl
    rw [h']
    simp [h]
/-- The digits behind the point, as spec writes them. -/
def frs : Nat → Nat → Nat → List UInt8
  | 0, _, _ => []
  | f + 1, r, b => if r = 0 then [] else dgt (10 * r / b) :: frs f (10 * r % b) b
theorem dgt_zero {q : Nat} (h : q < 10) (hz : q ≠ 0) : dgt q ≠ 48 := by
  intro e
  have := congrArg UInt8.toNat e
  unfold dgt at this
  rw [UInt8.toNat_ofNat_of_lt' (by simp [UInt8.size]; omega)] at this
  simp at this
  omega
theorem trim_frs (b m : Nat) (hbm : b * m = 1000000) (k : Nat) : ∀ y r, k ≤ 6 → y < 10 ^ k → r < b → r * m = y * 10 ^ (6 - k) → Lib.trimRightB (padS k y) 48 = frs k r b := by
  have hm : 0 < m := by rcases Nat.eq_zero_or_pos m with h | h; (subst h; omega); exact h
  have hb : 0 < b := by rcases Nat.eq_zero_or_pos b with h | h; (subst h; omega); exact h
  induction k with
  | zero => intro y r _ _ _ _; rfl
  | succ k ih =>
    intro y r hk hy hr h
    have hE : 10 ^ (6 - k) = 10 * 10 ^ (6 - (k + 1)) := by rw [show 6 - k = (6 - (k + 1)) + 1 by omega, Nat.pow_succ, Nat.mul_comm]
    have hEp : 0 < 10 ^ (6 - k) := Nat.pow_pos (by omega)
    have hE2 : 10 ^ k * 10 ^ (6 - k) = 1000000 := by rw [← Nat.pow_add, show k + (6 - k) = 6 by omega]
    have h10 : 10 * r * m = y * 10 ^ (6 - k) := by rw [hE, Nat.mul_assoc, h, ← Nat.mul_assoc, ← Nat.mul_assoc, Nat.mul_comm 10 y]
    have hdiv : 10 * r / b = y / 10 ^ k := by
      rw [← Nat.mul_div_mul_right (10 * r) b hm, h10, hbm, ← hE2, Nat.mul_div_mul_right _ _ hEp]
    have hmod : (10 * r % b) * m = (y % 10 ^ k) * 10 ^ (6 - k) := by
      rw [← Nat.mul_mod_mul_right, h10, hbm, ← hE2, Nat.mul_mod_mul_right]
    have hkp : 0 < 10 ^ k := Nat.pow_pos (by omega)
    rw [pad_head k y hy, trim_cons, ih (y % 10 ^ k) (10 * r % b) (by omega) (Nat.mod_lt _ hkp) (Nat.mod_lt _ hb) hmod]
    have hq : y / 10 ^ k < 10 := by
      rw [Nat.div_lt_iff_lt_mul hkp, Nat.mul_comm, ← Nat.pow_succ]; exact hy
    by_cases hr0 : r = 0
    · subst hr0
      have hy0 : y = 0 := by
        have : y * 10 ^ (6 - (k + 1)) = 0 := by rw [← h]; simp
        rcases Nat.mul_eq_zero.mp this with h | h
        · exact h
        · have : 0 < 10 ^ (6 - (k + 1)) := Nat.pow_pos (by omega)
          omega
      subst hy0
      have e : frs k (10 * 0 % b) b = [] := by
        rw [Nat.mul_zero, Nat.zero_mod]; cases k <;> simp [frs]
      rw [e, Nat.zero_div]; rfl
    · have e : frs (k + 1) r b = dgt (10 * r / b) :: frs k (10 * r % b) b := by rw [frs, if_neg hr0]
      rw [e, hdiv]
      by_cases hn : frs k (10 * r % b) b = []
      · rw [if_pos hn, hn]
        have hr1 : 10 * r % b = 0 ∨ k = 0 := by
          cases k with
          | zero => exact .inr rfl
          | succ k =>
            left
            rw [frs] at hn
            by_cases hz : 10 * r % b = 0
            · exact hz
            · rw [if_neg hz] at hn; cases hn
        have hy0 : y % 10 ^ k = 0 := by
          rcases hr1 with h | h
          · rw [h, Nat.zero_mul] at hmod
            rcases Nat.mul_eq_zero.mp hmod.symm with h | h
            · exact h
            · omega
          · subst h; simp [Nat.mod_one]
        have hyz : y / 10 ^ k ≠ 0 := by
          intro hz
          have h1 := Nat.div_add_mod y (10 ^ k)
          rw [hz, hy0, Nat.mul_zero] at h1
          have : r * m = 0 := by rw [h, ← h1, Nat.zero_mul]
          rcases Nat.mul_eq_zero.mp this with h | h
          · exact hr0 h
          · omega
        rw [if_neg (dgt_zero hq hyz)]
      · rw [if_neg hn]

/-- The text of a fraction that is not negative and whose Bottom divides a million. -/
def decText (t b : Nat) : List UInt8 := Lib.decDigits (t / b) ++ (if t % b = 0 then [] else 46 :: frs 6 (t % b) b)
def posText (t b : Nat) : List UInt8 := if 1000000 % b = 0 then decText t b else Lib.decDigits t ++ 47 :: Lib.decDigits b
def fracT (t b : Int) : List UInt8 := if t < 0 then 45 :: posText (-t).toNat b.toNat else posText t.toNat b.toNat
def textF (t b : Int) : List UInt8 := if vB t b = true then fracT t b else []
/-- As impl writes the digits behind the point. -/
theorem frs_impl (t b : Nat) (hb : 1 ≤ b) (hd : 1000000 % b = 0) : Lib.trimRightB ((Lib.decDigits (1000000 + t % b * (1000000 / b))).drop 1) 48 = frs 6 (t % b) b := by
  have hbm : b * (1000000 / b) = 1000000 := by have := Nat.div_add_mod 1000000 b; omega
  have hr : t % b < b := Nat.mod_lt _ (by omega)
  have hx : t % b * (1000000 / b) < 10 ^ 6 := by
    have h1 : (t % b + 1) * (1000000 / b) ≤ b * (1000000 / b) := Nat.mul_le_mul_right _ (by omega)
    rw [Nat.add_mul, Nat.one_mul] at h1
    have hm : 0 < 1000000 / b := by rcases Nat.eq_zero_or_pos (1000000 / b) with h | h; (rw [h] at hbm; omega); exact h
    omega
  have := dec_pad 6 _ hx
  rw [show (10 : Nat) ^ 6 = 1000000 by decide] at this
  rw [this]
  exact trim_frs b (1000000 / b) hbm 6 _ (t % b) (Nat.le_refl _) hx hr (by simp)
theorem frs_len (f : Nat) : ∀ r b, (frs f r b).length ≤ f := by
  induction f with
  | zero => intro r b; simp [frs]
  | succ f ih => intro r b; rw [frs]; split
                 · simp
                 · simp only [List.length_cons]; have := ih (10 * r % b) b; omega

end Go.Proofs.YtpgbfagacpondaaDoor
