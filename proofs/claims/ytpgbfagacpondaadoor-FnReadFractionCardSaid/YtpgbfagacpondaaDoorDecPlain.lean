/-
  Decimal numbers as both sides read them, plainly: no Go, no program.
-/
import Derived.Test.YtpgbfagacpondaaDoorDigitsPlain
import Derived.Test.YtpgbfagacpondaaDoorFracOps
import Derived.Lib.Bytealg
namespace Go.Proofs.YtpgbfagacpondaaDoor
set_option linter.unusedVariables false

theorem ix_bd (l : List UInt8) (c : UInt8) : -1 ≤ Lib.indexByte l c ∧ Lib.indexByte l c < l.length := by
  induction l with
  | nil => simp [Lib.indexByte]
  | cons b t ih =>
    simp only [Lib.indexByte]
    split
    · simp only [List.length_cons]; omega
    · split
      · simp only [List.length_cons]; omega
      · rename_i h1 h2
        have : Lib.indexByte t c ≠ -1 := by simpa using h2
        simp only [List.length_cons]; omega
theorem ix_none (l : List UInt8) (c : UInt8) (h : c ∉ l) : Lib.indexByte l c = -1 := by
  induction l with
  | nil => rfl
  | cons b t ih =>
    simp only [List.mem_cons, not_or] at h
    simp only [Lib.indexByte]
    rw [if_neg (by simpa using Ne.symm h.1), if_pos (by simpa using ih h.2)]
theorem ix_at (l : List UInt8) (c : UInt8) : ∀ k : Nat, l[k]? = some c → c ∉ l.take k → Lib.indexByte l c = k := by
  induction l with
  | nil => intro k h; simp at h
  | cons b t ih =>
    intro k h hn
    cases k with
    | zero =>
      simp only [List.getElem?_cons_zero, Option.some.injEq] at h
      simp [Lib.indexByte, h]
    | succ k =>
      simp only [List.getElem?_cons_succ] at h
      simp only [List.take_succ_cons, List.mem_cons, not_or] at hn
      have e := ih k h hn.2
      simp only [Lib.indexByte]
      rw [if_neg (by simpa using Ne.symm hn.1), e, if_neg (by rw [beq_iff_eq]; omega)]; omega
theorem ix_yes (l : List UInt8) (c : UInt8) : ∀ k : Nat, Lib.indexByte l c = k → l[k]? = some c ∧ c ∉ l.take k := by
  induction l with
  | nil => intro k h; simp only [Lib.indexByte] at h; omega
  | cons b t ih =>
    intro k h
    simp only [Lib.indexByte] at h
    split at h
    · rename_i hb
      obtain rfl : k = 0 := by omega
      simp at hb
      simp [hb]
    · rename_i hb
      split at h
      · omega
      · rename_i hb2
        have hb1 := ix_bd t c
        have hb3 : Lib.indexByte t c ≠ -1 := by simpa using hb2
        cases k with
        | zero => omega
        | succ k =>
          obtain ⟨h1, h2⟩ := ih k (by omega)
          simp only [List.getElem?_cons_succ, h1, true_and, List.take_succ_cons, List.mem_cons, not_or]
          exact ⟨by rintro rfl; simp at hb, h2⟩

theorem dot_digit {l : List UInt8} (h : allD l = true) : (46 : UInt8) ∉ l := by
  intro hm
  simp only [allD, List.all_eq_true] at h
  have := h 46 hm
  simp [isD] at this

/-- Before and behind the first point; without one, a zero behind it. -/
def decP (l : List UInt8) : List UInt8 := if Lib.indexByte l 46 < 0 then l else l.take (Lib.indexByte l 46).toNat
def decQ (l : List UInt8) : List UInt8 := if Lib.indexByte l 46 < 0 then [48] else l.drop ((Lib.indexByte l 46).toNat + 1)
def decV (l : List UInt8) : Bool := dOK (decP l) 10 && dOK (decQ l) 6
def decX (l : List UInt8) : Int := ((valD (decP l) * 10 ^ (decQ l).length + valD (decQ l) : Nat) : Int)
def decY (l : List UInt8) : Int := ((10 ^ (decQ l).length : Nat) : Int)

theorem mk_scale (t b k : Int) (hb : 1 ≤ b) (hk : 1 ≤ k) : mkOK (t * k) (b * k) = mkOK t b ∧ mkT (t * k) (b * k) = mkT t b ∧ mkB (t * k) (b * k) = mkB t b := by
  have hbk : 1 ≤ b * k := by have := Int.mul_pos (show 0 < b by omega) (show 0 < k by omega); omega
  by_cases h : mkOK t b = true
  · obtain ⟨v, e⟩ := mk_value hb h
    obtain ⟨o, p, q⟩ := mk_of (t := t * k) hbk v (by rw [← Int.mul_assoc, e]; grind)
    exact ⟨o.trans h.symm, p, q⟩
  · have h' := Bool.eq_false_iff.mpr h
    have g : mkOK (t * k) (b * k) = false := by
      rw [Bool.eq_false_iff]; intro g
      obtain ⟨v, e⟩ := mk_value hbk g
      refine h (mk_of hb v (Int.eq_of_mul_eq_mul_right (show k ≠ 0 by omega) ?_)).1
      generalize mkT (t * k) (b * k) = p at *
      generalize mkB (t * k) (b * k) = q at *
      grind
    rw [(mk_no h').1, (mk_no h').2, (mk_no g).1, (mk_no g).2, g, h']; exact ⟨rfl, rfl, rfl⟩

theorem dOK_iff (l : List UInt8) (m : Nat) : dOK l m = true ↔ 1 ≤ l.length ∧ l.length ≤ m ∧ allD l = true := by
  simp [dOK, and_assoc]
theorem run_full {l : List UInt8} {m : Nat} (h : allD l = true) (hm : l.length ≤ m) : runD l m = l.length :=
  runD_unique (Nat.le_refl _) hm (by rw [List.take_length]; exact h) (.inl rfl)

/-- No digit at the beginning. -/
theorem dec_s1 {l : List UInt8} (h : runD l 10 = 0) : decV l = false := by
  rw [Bool.eq_false_iff]; intro hv
  simp only [decV, Bool.and_eq_true, dOK_iff] at hv
  obtain ⟨⟨h1, h2, h3⟩, -⟩ := hv
  unfold decP at h1 h2 h3
  split at h1
  · rename_i hi
    simp only [hi, if_true] at h2 h3
    have := run_full h3 h2; omega
  · rename_i hi
    simp only [hi, if_false] at h2 h3
    have hb := ix_bd l 46
    obtain ⟨k, hk⟩ := Int.eq_ofNat_of_zero_le (show 0 ≤ Lib.indexByte l 46 by omega)
    rw [hk, Int.toNat_natCast] at h1 h2 h3
    have hy := ix_yes l 46 k hk
    rw [List.length_take] at h1 h2
    have : runD l 10 = k := runD_unique (by omega) (by omega) h3 (.inr (.inr ⟨46, hy.1, by decide⟩))
    omega
/-- A point behind the digits. -/
theorem dec_s2 {l : List UInt8} {k : Nat} (h : runD l 10 = k) (hk : 1 ≤ k) (hp : l[k]? = some 46) : decP l = l.take k ∧ decQ l = l.drop (k + 1) ∧ dOK (decP l) 10 = true := by
  have ht := runD_take l 10
  have hl := runD_le l 10
  rw [h] at ht hl
  have e := ix_at l 46 k hp (dot_digit ht)
  have e1 : decP l = l.take k := by unfold decP; rw [if_neg (by omega), e]; rfl
  have e2 : decQ l = l.drop (k + 1) := by unfold decQ; rw [if_neg (by omega), e]; rfl
  refine ⟨e1, e2, ?_⟩
  rw [e1, dOK_iff, List.length_take]
  exact ⟨by omega, by omega, ht⟩
theorem dec_s2_bad {l : List UInt8} {k j : Nat} (h : runD l 10 = k) (hk : 1 ≤ k) (hp : l[k]? = some 46) (hj : runD (l.drop (k + 1)) 7 = j) (hb : ¬ (1 ≤ j ∧ j ≤ 6) ∨ k + 1 + j ≠ l.length) : decV l = false := by
  obtain ⟨e1, e2, e3⟩ := dec_s2 h hk hp
  rw [Bool.eq_false_iff]; intro hv
  simp only [decV, Bool.and_eq_true, dOK_iff, e2] at hv
  obtain ⟨-, g1, g2, g3⟩ := hv
  have := run_full g3 (show (l.drop (k + 1)).length ≤ 7 by omega)
  rw [List.length_drop] at *
  have hkl : k < l.length := by
    by_cases q : k < l.length
    · exact q
    · rw [List.getElem?_eq_none (by omega)] at hp; cases hp
  omega
theorem dec_s2_good {l : List UInt8} {k j : Nat} (h : runD l 10 = k) (hk : 1 ≤ k) (hp : l[k]? = some 46) (hj : runD (l.drop (k + 1)) 7 = j) (h1 : 1 ≤ j) (h6 : j ≤ 6) (he : k + 1 + j = l.length) :
    decV l = true ∧ decX l = ((valD (l.take k) * 10 ^ j + valD ((l.drop (k + 1)).take j) : Nat) : Int) ∧ decY l = ((10 ^ j : Nat) : Int) := by
  obtain ⟨e1, e2, e3⟩ := dec_s2 h hk hp
  have hlen : (l.drop (k + 1)).length = j := by rw [List.length_drop]; omega
  have ht := runD_take (l.drop (k + 1)) 7
  rw [hj, List.take_of_length_le (by omega)] at ht
  refine ⟨?_, ?_, ?_⟩
  · simp only [decV, e3, Bool.true_and, dOK_iff, e2, hlen]; exact ⟨h1, h6, ht⟩
  · unfold decX; rw [e1, e2, hlen, List.take_of_length_le (show (l.drop (k + 1)).length ≤ j by omega)]
  · unfold decY; rw [e2, hlen]
/-- No point behind the digits. -/
theorem dec_s3_bad {l : List UInt8} {k : Nat} (h : runD l 10 = k) (hp : l[k]? ≠ some 46) (he : k ≠ l.length) : decV l = false := by
  rw [Bool.eq_false_iff]; intro hv
  simp only [decV, Bool.and_eq_true, dOK_iff] at hv
  obtain ⟨⟨h1, h2, h3⟩, -⟩ := hv
  unfold decP at h1 h2 h3
  split at h1
  · rename_i hi
    simp only [hi, if_true] at h2 h3
    have := run_full h3 h2; omega
  · rename_i hi
    simp only [hi, if_false] at h2 h3
    have hb := ix_bd l 46
    obtain ⟨i, hk⟩ := Int.eq_ofNat_of_zero_le (show 0 ≤ Lib.indexByte l 46 by omega)
    rw [hk, Int.toNat_natCast] at h1 h2 h3
    have hy := ix_yes l 46 i hk
    rw [List.length_take] at h1 h2
    have : runD l 10 = i := runD_unique (by omega) (by omega) h3 (.inr (.inr ⟨46, hy.1, by decide⟩))
    rw [h] at this; subst this; exact hp hy.1
theorem dec_s3_good {l : List UInt8} {k : Nat} (h : runD l 10 = k) (hk : 1 ≤ k) (he : k = l.length) :
    decV l = true ∧ decX l = ((valD (l.take k) : Nat) : Int) * 10 ∧ decY l = 1 * 10 := by
  have ht := runD_take l 10
  have hl := runD_le l 10
  rw [h] at ht hl
  rw [List.take_of_length_le (by omega)] at ht ⊢
  have e := ix_none l 46 (dot_digit ht)
  have e1 : decP l = l := by unfold decP; rw [if_pos (by omega)]
  have e2 : decQ l = [48] := by unfold decQ; rw [if_pos (by omega)]
  refine ⟨?_, ?_, ?_⟩
  · simp only [decV, e1, e2, Bool.and_eq_true, dOK_iff]; exact ⟨⟨by omega, by omega, ht⟩, by decide⟩
  · unfold decX; rw [e1, e2]; simp [valD]
  · unfold decY; rw [e2]; rfl

end Go.Proofs.YtpgbfagacpondaaDoor
