/-
  Sums, products, quotients, comparisons of fractions: no Go, no program.
-/
import Derived.Test.YtpgbfagacpondaaDoorFracPlain
namespace Go.Proofs.YtpgbfagacpondaaDoor

/-- A reduced fraction, if the arguments are valid. -/
def opOK (v : Bool) (x y : Int) : Bool := v && mkOK x y
def opT (v : Bool) (x y : Int) : Int := if v = true then mkT x y else 0
def opB (v : Bool) (x y : Int) : Int := if v = true then mkB x y else 0
theorem op_true (x y : Int) : opT true x y = mkT x y ∧ opB true x y = mkB x y ∧ opOK true x y = mkOK x y := by simp [opT, opB, opOK]
theorem op_false (x y : Int) : opT false x y = 0 ∧ opB false x y = 0 ∧ opOK false x y = false := by simp [opT, opB, opOK]
/-- The order of two numbers, and of two fractions. -/
def cmpI (x y : Int) : Int := if x < y then -1 else if y < x then 1 else 0
def cmpF (v : Bool) (x y : Int) : Int := if v = true then cmpI x y else 2
/-- The parts of a quotient: the second one is above 0. -/
def divT (a bT bB : Int) : Int := if bT < 0 then -(a * bB) else a * bB
def divB (aB bT : Int) : Int := if bT < 0 then -(aB * bT) else aB * bT

theorem mul_bd (x y : Int) (A B C : Nat) (hC : A * B = C) (hx : x.natAbs ≤ A) (hy : y.natAbs ≤ B) : -(C : Int) ≤ x * y ∧ x * y ≤ (C : Int) := by
  have h : (x * y).natAbs ≤ C := by rw [Int.natAbs_mul, ← hC]; exact Nat.mul_le_mul hx hy
  omega
theorem mul_15 {x y : Int} (hx0 : -1000000000 ≤ x) (hx1 : x ≤ 1000000000) (hy0 : 1 ≤ y) (hy1 : y ≤ 1000000) : -1000000000000000 ≤ x * y ∧ x * y ≤ 1000000000000000 := by
  have := mul_bd x y 1000000000 1000000 1000000000000000 rfl (by omega) (by omega); omega
theorem mul_18 {x y : Int} (hx0 : -1000000000 ≤ x) (hx1 : x ≤ 1000000000) (hy0 : -1000000000 ≤ y) (hy1 : y ≤ 1000000000) : -1000000000000000000 ≤ x * y ∧ x * y ≤ 1000000000000000000 := by
  have := mul_bd x y 1000000000 1000000000 1000000000000000000 rfl (by omega) (by omega); omega
theorem mul_12 {x y : Int} (hx0 : 1 ≤ x) (hx1 : x ≤ 1000000) (hy0 : 1 ≤ y) (hy1 : y ≤ 1000000) : 1 ≤ x * y ∧ x * y ≤ 1000000000000 := by
  have := mul_bd x y 1000000 1000000 1000000000000 rfl (by omega) (by omega)
  have := Int.mul_pos (show 0 < x by omega) (show 0 < y by omega); omega

theorem vB_bd {t b : Int} (h : vB t b = true) : -1000000000 ≤ t ∧ t ≤ 1000000000 ∧ 1 ≤ b ∧ b ≤ 1000000 := by
  rw [vB_iff] at h; omega

end Go.Proofs.YtpgbfagacpondaaDoor
