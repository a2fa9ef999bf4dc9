/-
  Plain facts on lines: no Go, no program.
-/
import Derived.Test.YtoaglggmjmldpaaPlain
import Derived.Test.YtoaglggmjmldpaaLinesPlain
namespace Go.Proofs.Ytoaglggmjmldpaa

/-- The lines that end within the first k bytes. -/
def linesTo (s : ByteArray) : Nat → List ByteArray
  | 0 => []
  | k + 1 => if s.data.toList[k]? = some 10 then linesTo s k ++ [s.extract (fromN s.data.toList k) k] else linesTo s k
/-- All lines of bytes. -/
def linesAll (s : ByteArray) : List ByteArray :=
  if fromN s.data.toList s.size < s.size then linesTo s s.size ++ [s.extract (fromN s.data.toList s.size) s.size] else linesTo s s.size
/-- The lines of a text; none of another. -/
def linesB (s : ByteArray) : List ByteArray := if textB s = true then linesAll s else []

theorem linesTo_length (s : ByteArray) (k : Nat) : (linesTo s k).length = lineN s.data.toList k := by
  induction k with
  | zero => rfl
  | succ k ih => simp only [linesTo, lineN]; split <;> simp [ih]
theorem linesTo_at (s : ByteArray) (n k a b : Nat) (ha : (starts s.data.toList n)[k]? = some a) (hb : (starts s.data.toList n)[k + 1]? = some b) :
    1 ≤ b ∧ a ≤ b - 1 ∧ b ≤ n ∧ (linesTo s n)[k]? = some (s.extract a (b - 1)) := by
  induction n generalizing k a b with
  | zero => simp [starts] at hb
  | succ n ih =>
    simp only [starts, linesTo] at ha hb ⊢
    split at ha
    · rename_i h10
      rw [if_pos h10] at hb ⊢
      have hlen := starts_length s.data.toList n
      have hlt : k + 1 < (starts s.data.toList n ++ [n + 1]).length := by
        by_cases hk : k + 1 < (starts s.data.toList n ++ [n + 1]).length
        · exact hk
        · rw [List.getElem?_eq_none (by omega)] at hb; cases hb
      simp only [List.length_append, List.length_cons, List.length_nil] at hlt
      rw [List.getElem?_append_left (by omega)] at ha
      by_cases hk : k + 1 < (starts s.data.toList n).length
      · rw [List.getElem?_append_left (by omega)] at hb
        obtain ⟨h1, h2, h3, h4⟩ := ih k a b ha hb
        refine ⟨h1, h2, by omega, ?_⟩
        rw [List.getElem?_append_left (by rw [linesTo_length]; omega)]
        exact h4
      · have hkk : k = lineN s.data.toList n := by omega
        rw [List.getElem?_append_right (by omega)] at hb
        rw [show k + 1 - (starts s.data.toList n).length = 0 from by omega] at hb
        simp only [List.getElem?_cons_zero, Option.some.injEq] at hb
        subst hb
        rw [hkk, starts_last] at ha
        simp only [Option.some.injEq] at ha
        subst ha
        have hfl := fromN_le s.data.toList n
        refine ⟨by omega, by omega, by omega, ?_⟩
        rw [List.getElem?_append_right (by rw [linesTo_length]; omega), linesTo_length, hkk]
        simp
    · rename_i h10
      rw [if_neg h10] at hb ⊢
      obtain ⟨h1, h2, h3, h4⟩ := ih k a b ha hb
      exact ⟨h1, h2, by omega, h4⟩

theorem linesAll_length (s : ByteArray) : (linesAll s).length ≤ s.size + 1 := by
  have h := lineN_le s.data.toList s.size
  unfold linesAll
  split <;> simp [linesTo_length] <;> omega
theorem linesB_length (s : ByteArray) : (linesB s).length ≤ 20001 := by
  unfold linesB
  split
  · rename_i h
    have h1 : s.size ≤ 20000 := by simp only [textB, Bool.and_eq_true, decide_eq_true_eq] at h; exact h.1
    have := linesAll_length s; omega
  · simp

end Go.Proofs.Ytoaglggmjmldpaa
