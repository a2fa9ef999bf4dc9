/-
  Digits and decimal numbers, plainly: no Go, no program.
-/
import Derived.Test.YtpgbfagacpondaaDoorFracPlain
namespace Go.Proofs.YtpgbfagacpondaaDoor
set_option linter.unusedVariables false

theorem snoc_ind {P : List UInt8 → Prop} (h0 : P []) (h1 : ∀ l b, P l → P (l ++ [b])) (l : List UInt8) : P l := by
  have : ∀ r : List UInt8, P r.reverse := by
    intro r
    induction r with
    | nil => exact h0
    | cons a t ih => rw [List.reverse_cons]; exact h1 _ _ ih
  have h := this l.reverse
  rwa [List.reverse_reverse] at h

def isD (b : UInt8) : Bool := decide (48 ≤ b.toNat) && decide (b.toNat ≤ 57)
def allD (l : List UInt8) : Bool := l.all isD
/-- The number that digits stand for. -/
def valD (l : List UInt8) : Nat := l.foldl (fun n b => n * 10 + (b.toNat - 48)) 0
theorem valD_nil : valD [] = 0 := rfl
theorem valD_snoc (l : List UInt8) (b : UInt8) : valD (l ++ [b]) = valD l * 10 + (b.toNat - 48) := by simp [valD]
theorem allD_snoc (l : List UInt8) (b : UInt8) : allD (l ++ [b]) = (allD l && isD b) := by simp [allD]
theorem valD_lt (l : List UInt8) : allD l = true → valD l < 10 ^ l.length := by
  refine snoc_ind (P := fun l => allD l = true → valD l < 10 ^ l.length) (by simp [valD]) ?_ l
  intro l b ih h
  rw [allD_snoc] at h
  simp only [Bool.and_eq_true, isD, decide_eq_true_eq] at h
  have := ih h.1
  rw [valD_snoc, List.length_append, List.length_singleton, Nat.pow_succ]
  omega
theorem pow_le_10 {n : Nat} (h : n ≤ 10) : 10 ^ n ≤ 10000000000 := by
  have := Nat.pow_le_pow_right (show 0 < 10 by omega) h; omega
theorem valD_bd (l : List UInt8) (h : allD l = true) (hl : l.length ≤ 10) : valD l < 10000000000 := Nat.lt_of_lt_of_le (valD_lt l h) (pow_le_10 hl)
theorem allD_take (l : List UInt8) (k : Nat) (h : allD l = true) : allD (l.take k) = true := by
  simp only [allD, List.all_eq_true] at h ⊢; exact fun x hx => h x (List.mem_of_mem_take hx)
theorem allD_take_false (l : List UInt8) (k : Nat) (h : allD (l.take k) = false) : allD l = false := by
  rw [Bool.eq_false_iff] at h ⊢; exact fun g => h (allD_take l k g)

/-- What digitsNumber returns. -/
def dOK (l : List UInt8) (most : Nat) : Bool := decide (1 ≤ l.length) && decide (l.length ≤ most) && allD l
def dN (l : List UInt8) (most : Nat) : Nat := if dOK l most = true then valD l else 0

/-- How many digits l2Digits reads. -/
def runD : List UInt8 → Nat → Nat
  | [], _ => 0
  | _ :: _, 0 => 0
  | b :: l, m + 1 => if isD b = true then runD l m + 1 else 0

theorem runD_le (l : List UInt8) : ∀ m, runD l m ≤ l.length ∧ runD l m ≤ m := by
  induction l with
  | nil => intro m; simp [runD]
  | cons b t ih =>
    intro m
    cases m with
    | zero => simp [runD]
    | succ m => simp only [runD]; split <;> simp [ih m]
theorem runD_take (l : List UInt8) : ∀ m, allD (l.take (runD l m)) = true := by
  induction l with
  | nil => intro m; simp [runD, allD]
  | cons b t ih =>
    intro m
    cases m with
    | zero => simp [runD, allD]
    | succ m =>
      simp only [runD]; split
      · rename_i h; have := ih m; simp only [allD, List.take_succ_cons, List.all_cons, h, Bool.true_and]; exact this
      · simp [allD]
/-- Why it stops. -/
theorem runD_stop (l : List UInt8) : ∀ m, runD l m = l.length ∨ runD l m = m ∨ ∃ b, l[runD l m]? = some b ∧ isD b = false := by
  induction l with
  | nil => intro m; simp [runD]
  | cons b t ih =>
    intro m
    cases m with
    | zero => simp [runD]
    | succ m =>
      simp only [runD]; split
      · rcases ih m with h | h | ⟨x, h1, h2⟩
        · left; simp [h]
        · right; left; omega
        · right; right; exact ⟨x, by simpa using h1, h2⟩
      · rename_i h; right; right; exact ⟨b, by simp, by simpa using h⟩
/-- It is the one number of which this is so. -/
theorem runD_unique {l : List UInt8} {m k : Nat} (h1 : k ≤ l.length) (h2 : k ≤ m) (h3 : allD (l.take k) = true) (h4 : k = l.length ∨ k = m ∨ ∃ b, l[k]? = some b ∧ isD b = false) : runD l m = k := by
  have at_of : ∀ {l : List UInt8} {i j : Nat}, allD (l.take j) = true → i < j → j ≤ l.length → ∃ b, l[i]? = some b ∧ isD b = true := by
    intro l i j h hi hj
    simp only [allD, List.all_eq_true] at h
    refine ⟨l[i], List.getElem?_eq_getElem (by omega), h _ ?_⟩
    rw [List.mem_take_iff_getElem]
    exact ⟨i, by omega, rfl⟩
  obtain ⟨g1, g2⟩ := runD_le l m
  have g3 := runD_take l m
  have g4 := runD_stop l m
  rcases Nat.lt_trichotomy (runD l m) k with h | h | h
  · obtain ⟨b, hb, hd⟩ := at_of h3 h h1
    rcases g4 with g | g | ⟨x, hx, hx2⟩
    · omega
    · omega
    · rw [hb] at hx; cases hx; rw [hd] at hx2; cases hx2
  · exact h
  · obtain ⟨b, hb, hd⟩ := at_of g3 h g1
    rcases h4 with g | g | ⟨x, hx, hx2⟩
    · omega
    · omega
    · rw [hb] at hx; cases hx; rw [hd] at hx2; cases hx2

end Go.Proofs.YtpgbfagacpondaaDoor
