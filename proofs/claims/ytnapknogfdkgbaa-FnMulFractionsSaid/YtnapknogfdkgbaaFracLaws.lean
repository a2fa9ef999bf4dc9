/-
  The laws of fractions, plainly: no Go, no program.
-/
import Derived.Test.YtnapknogfdkgbaaFracOps
namespace Go.Proofs.Ytnapknogfdkgbaa
set_option linter.unusedVariables false

theorem cmpI_turn (x y : Int) : cmpI y x = -cmpI x y := by
  unfold cmpI; split <;> split <;> simp_all <;> omega
theorem cmpI_lt {x y : Int} (h : x < y) : cmpI x y = -1 := by simp [cmpI, h]
theorem cmpI_gt {x y : Int} (h : y < x) : cmpI x y = 1 := by simp [cmpI, h]; omega
theorem cmpI_eq {x y : Int} (h : x = y) : cmpI x y = 0 := by simp [cmpI, h]
theorem same_of {aT aB bT bB : Int} (ha : vB aT aB = true) (hb : vB bT bB = true) (h : aT * bB = bT * aB) : aT = bT ∧ aB = bB := by
  rw [vB_iff] at ha hb
  exact reduced_unique h ha.2.2.2.2 hb.2.2.2.2 ha.2.2.1 hb.2.2.1
theorem vB_neg {t b : Int} (h : vB t b = true) : vB (-t) b = true := by
  rw [vB_iff] at h ⊢
  refine ⟨by omega, by omega, by omega, by omega, ?_⟩
  have e : Int.gcd (-t) b = Int.gcd t b := by unfold Int.gcd; rw [Int.natAbs_neg]
  rw [e]; exact h.2.2.2.2

/-- A sum, a product that is valid. -/
theorem add_ok {aT aB bT bB : Int} (ha : vB aT aB = true) (hb : vB bT bB = true) (h : mkOK (aT * bB + bT * aB) (aB * bB) = true) :
    ∃ p q : Int, mkT (aT * bB + bT * aB) (aB * bB) = p ∧ mkB (aT * bB + bT * aB) (aB * bB) = q ∧ vB p q = true ∧ p * (aB * bB) = (aT * bB + bT * aB) * q := by
  obtain ⟨a1, a2, a3, a4⟩ := vB_bd ha; obtain ⟨b1, b2, b3, b4⟩ := vB_bd hb
  have m := mul_12 a3 a4 b3 b4
  have := mk_value (t := aT * bB + bT * aB) m.1 h
  exact ⟨_, _, rfl, rfl, this.1, this.2⟩
theorem mul_ok {aT aB bT bB : Int} (ha : vB aT aB = true) (hb : vB bT bB = true) (h : mkOK (aT * bT) (aB * bB) = true) :
    ∃ p q : Int, mkT (aT * bT) (aB * bB) = p ∧ mkB (aT * bT) (aB * bB) = q ∧ vB p q = true ∧ p * (aB * bB) = (aT * bT) * q := by
  obtain ⟨a1, a2, a3, a4⟩ := vB_bd ha; obtain ⟨b1, b2, b3, b4⟩ := vB_bd hb
  have m := mul_12 a3 a4 b3 b4
  have := mk_value (t := aT * bT) m.1 h
  exact ⟨_, _, rfl, rfl, this.1, this.2⟩
theorem div_pos {aB bT : Int} (ha : 1 ≤ aB) (hb : bT ≠ 0) : 1 ≤ divB aB bT := by
  unfold divB; split
  · have := Int.mul_neg_of_pos_of_neg (show 0 < aB by omega) (show bT < 0 by assumption); omega
  · have := Int.mul_pos (show 0 < aB by omega) (show 0 < bT by omega); omega
theorem div_ok {aT aB bT bB : Int} (ha : vB aT aB = true) (hb : vB bT bB = true) (h0 : bT ≠ 0) (h : mkOK (divT aT bT bB) (divB aB bT) = true) :
    ∃ p q : Int, mkT (divT aT bT bB) (divB aB bT) = p ∧ mkB (divT aT bT bB) (divB aB bT) = q ∧ vB p q = true ∧ p * (aB * bT) = (aT * bB) * q := by
  obtain ⟨a1, a2, a3, a4⟩ := vB_bd ha
  have := mk_value (t := divT aT bT bB) (div_pos a3 h0) h
  refine ⟨_, _, rfl, rfl, this.1, ?_⟩
  have e := this.2
  generalize mkT (divT aT bT bB) (divB aB bT) = p at *
  generalize mkB (divT aT bT bB) (divB aB bT) = q at *
  unfold divT divB at e
  split at e <;> grind

/-- With 0 added a fraction stays. -/
theorem add_zero' {aT aB : Int} (ha : vB aT aB = true) : mkOK (aT * 1 + 0 * aB) (aB * 1) = true ∧ mkT (aT * 1 + 0 * aB) (aB * 1) = aT ∧ mkB (aT * 1 + 0 * aB) (aB * 1) = aB := by
  obtain ⟨a1, a2, a3, a4⟩ := vB_bd ha
  exact mk_of (by omega) ha (by grind)
theorem mul_one' {aT aB : Int} (ha : vB aT aB = true) : mkOK (aT * 1) (aB * 1) = true ∧ mkT (aT * 1) (aB * 1) = aT ∧ mkB (aT * 1) (aB * 1) = aB := by
  obtain ⟨a1, a2, a3, a4⟩ := vB_bd ha
  exact mk_of (by omega) ha (by grind)
/-- Subtracting leads back. -/
theorem add_back {aT aB bT bB p q : Int} (ha : vB aT aB = true) (hb : vB bT bB = true) (hp : vB p q = true) (h : p * (aB * bB) = (aT * bB + bT * aB) * q) :
    mkOK (p * bB + (-bT) * q) (q * bB) = true ∧ mkT (p * bB + (-bT) * q) (q * bB) = aT ∧ mkB (p * bB + (-bT) * q) (q * bB) = aB := by
  obtain ⟨b1, b2, b3, b4⟩ := vB_bd hb; obtain ⟨p1, p2, p3, p4⟩ := vB_bd hp
  exact mk_of (mul_12 p3 p4 b3 b4).1 ha (by grind)
/-- Dividing leads back. -/
theorem mul_back {aT aB bT bB p q : Int} (ha : vB aT aB = true) (hb : vB bT bB = true) (hp : vB p q = true) (h0 : bT ≠ 0) (h : p * (aB * bB) = (aT * bT) * q) :
    mkOK (divT p bT bB) (divB q bT) = true ∧ mkT (divT p bT bB) (divB q bT) = aT ∧ mkB (divT p bT bB) (divB q bT) = aB := by
  obtain ⟨p1, p2, p3, p4⟩ := vB_bd hp
  refine mk_of (div_pos p3 h0) ha ?_
  unfold divT divB
  split <;> grind
theorem div_back {aT aB bT bB p q : Int} (ha : vB aT aB = true) (hb : vB bT bB = true) (hp : vB p q = true) (h0 : bT ≠ 0) (h : p * (aB * bT) = (aT * bB) * q) :
    mkOK (p * bT) (q * bB) = true ∧ mkT (p * bT) (q * bB) = aT ∧ mkB (p * bT) (q * bB) = aB := by
  obtain ⟨b1, b2, b3, b4⟩ := vB_bd hb; obtain ⟨p1, p2, p3, p4⟩ := vB_bd hp
  exact mk_of (mul_12 p3 p4 b3 b4).1 ha (by grind)

/-- Sums keep orders. -/
theorem lt_scaled {x y k : Int} (hk : 0 < k) : x * k < y * k ↔ x < y := ⟨fun h => Int.lt_of_mul_lt_mul_right h (by omega), fun h => Int.mul_lt_mul_of_pos_right h hk⟩
theorem order_keep {aT aB bT bB cT cB p q p' q' : Int} (ha : 1 ≤ aB) (hb : 1 ≤ bB) (hc : 1 ≤ cB) (hq : 1 ≤ q) (hq' : 1 ≤ q')
    (h : p * (aB * cB) = (aT * cB + cT * aB) * q) (h' : p' * (bB * cB) = (bT * cB + cT * bB) * q') : cmpI (p * q') (p' * q) = cmpI (aT * bB) (bT * aB) := by
  have e1 : (p * q') * ((aB * cB) * (bB * cB)) = (aT * bB) * ((q * q') * (cB * cB)) + (cT * aB * bB) * (q * q') * cB := by grind
  have e2 : (p' * q) * ((aB * cB) * (bB * cB)) = (bT * aB) * ((q * q') * (cB * cB)) + (cT * aB * bB) * (q * q') * cB := by grind
  have k1 : 0 < (aB * cB) * (bB * cB) := Int.mul_pos (Int.mul_pos (by omega) (by omega)) (Int.mul_pos (by omega) (by omega))
  have k2 : 0 < (q * q') * (cB * cB) := Int.mul_pos (Int.mul_pos (by omega) (by omega)) (Int.mul_pos (by omega) (by omega))
  have i1 : p * q' < p' * q ↔ aT * bB < bT * aB := by rw [← lt_scaled k1, e1, e2, ← lt_scaled (x := aT * bB) k2]; omega
  have i2 : p' * q < p * q' ↔ bT * aB < aT * bB := by rw [← lt_scaled k1, e1, e2, ← lt_scaled (y := aT * bB) k2]; omega
  simp only [cmpI, i1, i2]

/-- Products share sums. -/
theorem share_same {aT aB bT bB cT cB s t p q x u y v z r : Int} (ha : 1 ≤ aB) (hb : 1 ≤ bB) (hc : 1 ≤ cB) (ht : 1 ≤ t) (hu : 1 ≤ u) (hv : 1 ≤ v)
    (hs : s * (aB * bB) = (aT * bB + bT * aB) * t) (hp : p * (t * cB) = (s * cT) * q) (hx : x * (aB * cB) = (aT * cT) * u) (hy : y * (bB * cB) = (bT * cT) * v)
    (hz : z * (u * v) = (x * v + y * u) * r) (vp : vB p q = true) (vz : vB z r = true) : p = z ∧ q = r := by
  rw [vB_iff] at vp vz
  refine reduced_unique ?_ vp.2.2.2.2 vz.2.2.2.2 vp.2.2.1 vz.2.2.1
  have k : (t * cB) * (u * v) * ((aB * bB) * cB) ≠ 0 := by
    have h1 := Int.mul_pos (Int.mul_pos (Int.mul_pos (show 0 < t by omega) (show 0 < cB by omega)) (Int.mul_pos (show 0 < u by omega) (show 0 < v by omega))) (Int.mul_pos (Int.mul_pos (show 0 < aB by omega) (show 0 < bB by omega)) (show 0 < cB by omega))
    omega
  refine Int.eq_of_mul_eq_mul_right k ?_
  -- (a + b) * c over all bottoms, on both sides
  have f1 : (p * r) * ((t * cB) * (u * v) * ((aB * bB) * cB)) = (s * (aB * bB)) * cT * q * r * (u * v) * cB := by grind
  have f2 : (z * q) * ((t * cB) * (u * v) * ((aB * bB) * cB)) = ((x * (aB * cB)) * v * bB + (y * (bB * cB)) * u * aB) * r * q * (t * cB) := by grind
  rw [f1, f2, hs, hx, hy]
  grind

theorem op_no {v : Bool} {x y : Int} (h : opOK v x y = false) : opT v x y = 0 ∧ opB v x y = 0 := by
  cases v with
  | false => exact ⟨(op_false x y).1, (op_false x y).2.1⟩
  | true => rw [(op_true x y).1, (op_true x y).2.1]; exact mk_no (by rw [← (op_true x y).2.2]; exact h)
theorem op_yes {v : Bool} {x y : Int} (h : opOK v x y = true) : v = true ∧ mkOK x y = true ∧ opT v x y = mkT x y ∧ opB v x y = mkB x y := by
  cases v with
  | false => rw [(op_false x y).2.2] at h; cases h
  | true => exact ⟨rfl, by rw [← (op_true x y).2.2]; exact h, (op_true x y).1, (op_true x y).2.1⟩
theorem add_turn (aT aB bT bB : Int) : opT (vB bT bB && vB aT aB) (bT * aB + aT * bB) (bB * aB) = opT (vB aT aB && vB bT bB) (aT * bB + bT * aB) (aB * bB) ∧
    opB (vB bT bB && vB aT aB) (bT * aB + aT * bB) (bB * aB) = opB (vB aT aB && vB bT bB) (aT * bB + bT * aB) (aB * bB) ∧
    opOK (vB bT bB && vB aT aB) (bT * aB + aT * bB) (bB * aB) = opOK (vB aT aB && vB bT bB) (aT * bB + bT * aB) (aB * bB) := by
  rw [Bool.and_comm (vB bT bB), Int.add_comm (bT * aB), Int.mul_comm bB aB]; exact ⟨rfl, rfl, rfl⟩
theorem mul_turn (aT aB bT bB : Int) : opT (vB bT bB && vB aT aB) (bT * aT) (bB * aB) = opT (vB aT aB && vB bT bB) (aT * bT) (aB * bB) ∧
    opB (vB bT bB && vB aT aB) (bT * aT) (bB * aB) = opB (vB aT aB && vB bT bB) (aT * bT) (aB * bB) ∧
    opOK (vB bT bB && vB aT aB) (bT * aT) (bB * aB) = opOK (vB aT aB && vB bT bB) (aT * bT) (aB * bB) := by
  rw [Bool.and_comm (vB bT bB), Int.mul_comm bT aT, Int.mul_comm bB aB]; exact ⟨rfl, rfl, rfl⟩
theorem op_of {v : Bool} {x y p q : Int} (hv : v = true) (h : mkOK x y = true ∧ mkT x y = p ∧ mkB x y = q) : opT v x y = p ∧ opB v x y = q ∧ opOK v x y = true := by
  subst hv; rw [(op_true x y).1, (op_true x y).2.1, (op_true x y).2.2]; exact ⟨h.2.1, h.2.2, h.1⟩
theorem and2 {a b : Bool} (h : (a && b) = true) : a = true ∧ b = true := by simpa using h
theorem and3 {a b c : Bool} (h : (a && b && c) = true) : a = true ∧ b = true ∧ c = true := by simpa [and_assoc] using h
theorem order_final {aT aB bT bB cT cB xT xB yT yB n : Int} (hn : cmpF (vB aT aB && vB bT bB) (aT * bB) (bT * aB) = n) (h2 : n ≠ 2)
    (hx : opT (vB aT aB && vB cT cB) (aT * cB + cT * aB) (aB * cB) = xT) (hx2 : opB (vB aT aB && vB cT cB) (aT * cB + cT * aB) (aB * cB) = xB) (hx3 : opOK (vB aT aB && vB cT cB) (aT * cB + cT * aB) (aB * cB) = true)
    (hy : opT (vB bT bB && vB cT cB) (bT * cB + cT * bB) (bB * cB) = yT) (hy2 : opB (vB bT bB && vB cT cB) (bT * cB + cT * bB) (bB * cB) = yB) (hy3 : opOK (vB bT bB && vB cT cB) (bT * cB + cT * bB) (bB * cB) = true) :
    cmpF (vB xT xB && vB yT yB) (xT * yB) (yT * xB) = n := by
  obtain ⟨v1, k1, t1, u1⟩ := op_yes hx3; obtain ⟨v2, k2, t2, u2⟩ := op_yes hy3
  obtain ⟨ha, hc⟩ := and2 v1; obtain ⟨hb, -⟩ := and2 v2
  obtain ⟨p, q, hp, hq, hpq, e⟩ := add_ok ha hc k1
  obtain ⟨p', q', hp', hq', hpq', e'⟩ := add_ok hb hc k2
  rw [t1, hp] at hx; rw [u1, hq] at hx2; rw [t2, hp'] at hy; rw [u2, hq'] at hy2
  subst hx hx2 hy hy2
  obtain ⟨-, -, a3, -⟩ := vB_bd ha; obtain ⟨-, -, b3, -⟩ := vB_bd hb; obtain ⟨-, -, c3, -⟩ := vB_bd hc
  obtain ⟨-, -, p3, -⟩ := vB_bd hpq; obtain ⟨-, -, p3', -⟩ := vB_bd hpq'
  rw [hpq, hpq']; rw [ha, hb] at hn
  rw [← hn]
  exact order_keep a3 b3 c3 p3 p3' e e'
theorem share_final {aT aB bT bB cT cB sT sB pT pB xT xB yT yB zT zB : Int}
    (hs : opT (vB aT aB && vB bT bB) (aT * bB + bT * aB) (aB * bB) = sT) (hs2 : opB (vB aT aB && vB bT bB) (aT * bB + bT * aB) (aB * bB) = sB) (hs3 : opOK (vB aT aB && vB bT bB) (aT * bB + bT * aB) (aB * bB) = true)
    (hp : opT (vB sT sB && vB cT cB) (sT * cT) (sB * cB) = pT) (hp2 : opB (vB sT sB && vB cT cB) (sT * cT) (sB * cB) = pB) (hp3 : opOK (vB sT sB && vB cT cB) (sT * cT) (sB * cB) = true)
    (hx : opT (vB aT aB && vB cT cB) (aT * cT) (aB * cB) = xT) (hx2 : opB (vB aT aB && vB cT cB) (aT * cT) (aB * cB) = xB) (hx3 : opOK (vB aT aB && vB cT cB) (aT * cT) (aB * cB) = true)
    (hy : opT (vB bT bB && vB cT cB) (bT * cT) (bB * cB) = yT) (hy2 : opB (vB bT bB && vB cT cB) (bT * cT) (bB * cB) = yB) (hy3 : opOK (vB bT bB && vB cT cB) (bT * cT) (bB * cB) = true)
    (hz : opT (vB xT xB && vB yT yB) (xT * yB + yT * xB) (xB * yB) = zT) (hz2 : opB (vB xT xB && vB yT yB) (xT * yB + yT * xB) (xB * yB) = zB) (hz3 : opOK (vB xT xB && vB yT yB) (xT * yB + yT * xB) (xB * yB) = true) :
    pT = zT ∧ pB = zB := by
  obtain ⟨v1, k1, t1, u1⟩ := op_yes hs3; obtain ⟨v2, k2, t2, u2⟩ := op_yes hp3; obtain ⟨v3, k3, t3, u3⟩ := op_yes hx3; obtain ⟨v4, k4, t4, u4⟩ := op_yes hy3; obtain ⟨v5, k5, t5, u5⟩ := op_yes hz3
  obtain ⟨ha, hb⟩ := and2 v1; obtain ⟨hsv, hc⟩ := and2 v2; obtain ⟨hxv, hyv⟩ := and2 v5
  obtain ⟨s, t, e1, e2, vs, es⟩ := add_ok ha hb k1
  rw [t1, e1] at hs; rw [u1, e2] at hs2; subst hs hs2
  obtain ⟨p, q, e3, e4, vp, ep⟩ := mul_ok hsv hc k2
  rw [t2, e3] at hp; rw [u2, e4] at hp2; subst hp hp2
  obtain ⟨x, u, e5, e6, vx, ex⟩ := mul_ok ha hc k3
  rw [t3, e5] at hx; rw [u3, e6] at hx2; subst hx hx2
  obtain ⟨y, v, e7, e8, vy, ey⟩ := mul_ok hb hc k4
  rw [t4, e7] at hy; rw [u4, e8] at hy2; subst hy hy2
  obtain ⟨z, r, e9, e10, vz, ez⟩ := add_ok hxv hyv k5
  rw [t5, e9] at hz; rw [u5, e10] at hz2; subst hz hz2
  obtain ⟨-, -, a3, -⟩ := vB_bd ha; obtain ⟨-, -, b3, -⟩ := vB_bd hb; obtain ⟨-, -, c3, -⟩ := vB_bd hc
  obtain ⟨-, -, s3, -⟩ := vB_bd vs; obtain ⟨-, -, x3, -⟩ := vB_bd vx; obtain ⟨-, -, y3, -⟩ := vB_bd vy
  exact share_same a3 b3 c3 s3 x3 y3 es ep ex ey ez vp vz
theorem vB_01 : vB 0 1 = true := by decide
theorem vB_11 : vB 1 1 = true := by decide

end Go.Proofs.Ytnapknogfdkgbaa
