/-
  Plain facts on where lines begin: no Go, no program.
-/
namespace Go.Proofs.Ytoaglggmjmldpaa

/-- How many line ends are among the first k bytes. -/
def lineN (l : List UInt8) : Nat → Nat
  | 0 => 0
  | k + 1 => if l[k]? = some 10 then lineN l k + 1 else lineN l k
/-- The place behind the last line end among the first k bytes, or 0. -/
def fromN (l : List UInt8) : Nat → Nat
  | 0 => 0
  | k + 1 => if l[k]? = some 10 then k + 1 else fromN l k
/-- Where lines begin, as far as the first k bytes tell. -/
def starts (l : List UInt8) : Nat → List Nat
  | 0 => [0]
  | k + 1 => if l[k]? = some 10 then starts l k ++ [k + 1] else starts l k

theorem starts_length (l : List UInt8) (k : Nat) : (starts l k).length = lineN l k + 1 := by
  induction k with
  | zero => rfl
  | succ k ih => simp only [starts, lineN]; split <;> simp [ih]
theorem lineN_le (l : List UInt8) (k : Nat) : lineN l k ≤ k := by
  induction k with
  | zero => exact Nat.le_refl _
  | succ k ih => simp only [lineN]; split <;> omega
theorem fromN_le (l : List UInt8) (k : Nat) : fromN l k ≤ k := by
  induction k with
  | zero => exact Nat.le_refl _
  | succ k ih => simp only [fromN]; split <;> omega
theorem starts_last (l : List UInt8) (k : Nat) : (starts l k)[lineN l k]? = some (fromN l k) := by
  induction k with
  | zero => rfl
  | succ k ih =>
    simp only [starts, lineN, fromN]
    split
    · rw [List.getElem?_append_right (by rw [starts_length]; exact Nat.le_refl _), starts_length]; simp
    · exact ih
theorem starts_pre (l : List UInt8) (k n : Nat) (h : k ≤ n) : ∃ t, starts l n = starts l k ++ t ∧ ∀ x ∈ t, k < x := by
  induction n with
  | zero => obtain rfl : k = 0 := by omega
            exact ⟨[], by simp, by simp⟩
  | succ n ih =>
    by_cases hk : k = n + 1
    · subst hk; exact ⟨[], by simp, by simp⟩
    · obtain ⟨t, ht, hx⟩ := ih (by omega)
      simp only [starts]
      split
      · refine ⟨t ++ [n + 1], by rw [ht, List.append_assoc], ?_⟩
        intro x hm
        rcases List.mem_append.1 hm with hm | hm
        · exact hx x hm
        · simp only [List.mem_singleton] at hm; omega
      · exact ⟨t, ht, hx⟩
theorem lineN_mono (l : List UInt8) (k n : Nat) (h : k ≤ n) : lineN l k ≤ lineN l n := by
  induction n with
  | zero => obtain rfl : k = 0 := by omega
            exact Nat.le_refl _
  | succ n ih =>
    by_cases hk : k = n + 1
    · subst hk; exact Nat.le_refl _
    · have := ih (by omega); simp only [lineN]; split <;> omega
/-- The line of a place begins where fromN says. -/
theorem starts_at (l : List UInt8) (k n : Nat) (h : k ≤ n) : (starts l n)[lineN l k]? = some (fromN l k) := by
  obtain ⟨t, ht, _⟩ := starts_pre l k n h
  rw [ht, List.getElem?_append_left (by rw [starts_length]; omega)]
  exact starts_last l k
/-- Later lines begin later. -/
theorem starts_later (l : List UInt8) (k n i : Nat) (h : k ≤ n) (hi : lineN l k < i) (hn : i ≤ lineN l n) : ∃ x, (starts l n)[i]? = some x ∧ k < x := by
  obtain ⟨t, ht, hx⟩ := starts_pre l k n h
  have hlen : i < (starts l n).length := by rw [starts_length]; omega
  refine ⟨(starts l n)[i], List.getElem?_eq_getElem hlen, ?_⟩
  apply hx
  have hr : (starts l n)[i] = (starts l k ++ t)[i]'(by rw [← ht]; exact hlen) := by simp only [ht]
  rw [hr, List.getElem_append_right (by rw [starts_length]; omega)]
  exact List.getElem_mem _
theorem starts_le (l : List UInt8) (n : Nat) : ∀ x ∈ starts l n, x ≤ n := by
  induction n with
  | zero => simp [starts]
  | succ n ih =>
    intro x hx
    simp only [starts] at hx
    split at hx
    · rcases List.mem_append.1 hx with hx | hx
      · have := ih x hx; omega
      · simp only [List.mem_singleton] at hx; omega
    · have := ih x hx; omega

end Go.Proofs.Ytoaglggmjmldpaa
