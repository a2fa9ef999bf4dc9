/-
  Quoted texts, plainly: no Go, no program.
-/
import Derived.Test.YtncehcklppakcaaGreatDoorBaseC
namespace Go.Proofs.YtncehcklppakcaaGreatDoor
set_option linter.unusedVariables false

/-- What stands for a byte between quotation marks. -/
def quoteC (b : UInt8) : List UInt8 := if b = 10 then [92, 110] else if b = 34 ∨ b = 92 then [92, b] else [b]
/-- .. for bytes. -/
def quoteI (l : List UInt8) : List UInt8 := l.flatMap quoteC
def quoteL (l : List UInt8) : List UInt8 := 34 :: (quoteI l ++ [34])
/-- The text between quotation marks, if it is valid. -/
def quoteT (s : ByteArray) : ByteArray := if textB s = true then ⟨(quoteL s.data.toList).toArray⟩ else ⟨#[]⟩

/-- What is read between the first byte and the last one, whatever it is. -/
def looseL : List UInt8 → List UInt8
  | [] => []
  | [_] => []
  | b :: c :: r => if b = 92 then (if c = 110 then 10 else c) :: looseL r else b :: looseL (c :: r)
def unqL (s : ByteArray) : List UInt8 := looseL (s.data.toList.drop 1)
/-- Whether there is a text, and the text. -/
def unqOK (s : ByteArray) : Bool := textB ⟨(unqL s).toArray⟩ && decide (quoteL (unqL s) = s.data.toList)
def unqT (s : ByteArray) : ByteArray := if unqOK s = true then ⟨(unqL s).toArray⟩ else ⟨#[]⟩

theorem quoteI_nil : quoteI [] = [] := rfl
theorem quoteI_cons (b : UInt8) (l : List UInt8) : quoteI (b :: l) = quoteC b ++ quoteI l := by simp [quoteI]
theorem quoteI_app (l r : List UInt8) : quoteI (l ++ r) = quoteI l ++ quoteI r := by simp [quoteI]
theorem quoteI_snoc (l : List UInt8) (b : UInt8) : quoteI (l ++ [b]) = quoteI l ++ quoteC b := by rw [quoteI_app]; simp [quoteI]
theorem quoteC_len (b : UInt8) : 1 ≤ (quoteC b).length ∧ (quoteC b).length ≤ 2 := by
  unfold quoteC; split
  · simp
  · split <;> simp
theorem quoteI_len (l : List UInt8) : l.length ≤ (quoteI l).length ∧ (quoteI l).length ≤ 2 * l.length := by
  induction l with
  | nil => simp [quoteI]
  | cons b t ih =>
    have := quoteC_len b
    rw [quoteI_cons]; simp only [List.length_append, List.length_cons]; omega

theorem loose_one (b : UInt8) (r : List UInt8) (hr : r ≠ []) : looseL (quoteC b ++ r) = b :: looseL r := by
  unfold quoteC
  split
  · rename_i h; subst h; rfl
  · split
    · rename_i h1 h2
      show looseL (92 :: b :: r) = _
      have hb : b ≠ 110 := by rcases h2 with h | h <;> subst h <;> decide
      simp only [looseL, if_true, hb, if_false]
    · rename_i h1 h2
      have hb : b ≠ 92 := fun e => h2 (.inr e)
      cases r with
      | nil => exact absurd rfl hr
      | cons c r => simp [looseL, hb]
theorem loose_quote (l : List UInt8) (r : List UInt8) (hr : r ≠ []) : looseL (quoteI l ++ r) = l ++ looseL r := by
  induction l with
  | nil => rfl
  | cons b t ih =>
    rw [quoteI_cons, List.append_assoc, loose_one _ _ (by simp [hr]), ih]; rfl
theorem loose_all (l : List UInt8) : looseL ((quoteL l).drop 1) = l := by
  show looseL (quoteI l ++ [34]) = l
  rw [loose_quote _ _ (by simp)]; simp [looseL]
theorem quoteL_inj {l r : List UInt8} (h : quoteL l = quoteL r) : l = r := by rw [← loose_all l, h, loose_all]
theorem quoteI_inj {l r : List UInt8} (h : quoteI l = quoteI r) : l = r := quoteL_inj (by unfold quoteL; rw [h])

theorem ba_list (l : List UInt8) : (⟨l.toArray⟩ : ByteArray).data.toList = l := by simp
theorem ba_eq {s t : ByteArray} (h : s.data.toList = t.data.toList) : s = t := by
  cases s with | mk a => cases t with | mk b => congr 1; exact Array.toList_inj.mp h
theorem ba_self (s : ByteArray) : (⟨s.data.toList.toArray⟩ : ByteArray) = s := ba_eq (by simp)

/-- What was read, if it is quoted so. -/
theorem unq_of {s t : ByteArray} (ht : textB t = true) (h : quoteL t.data.toList = s.data.toList) : unqOK s = true ∧ unqT s = t := by
  have e : unqL s = t.data.toList := by unfold unqL; rw [← h, loose_all]
  have ho : unqOK s = true := by unfold unqOK; rw [e, ba_self, ht, h]; simp
  exact ⟨ho, by unfold unqT; rw [if_pos ho, e, ba_self]⟩
theorem unq_quote {s : ByteArray} (h : unqOK s = true) : textB (unqT s) = true ∧ quoteT (unqT s) = s := by
  unfold unqT; rw [if_pos h]
  simp only [unqOK, Bool.and_eq_true, decide_eq_true_eq] at h
  refine ⟨h.1, ?_⟩
  unfold quoteT; rw [if_pos h.1]
  exact ba_eq (by rw [ba_list]; rw [ba_list, h.2])
theorem unq_no {s : ByteArray} (h : unqOK s = false) : unqT s = ⟨#[]⟩ := by unfold unqT; rw [h]; rfl
/-- No text is quoted so. -/
theorem unq_none {s : ByteArray} (h : ∀ t : List UInt8, t.length ≤ 20000 → okL t = true → quoteL t ≠ s.data.toList) : unqOK s = false := by
  cases ho : unqOK s with
  | false => rfl
  | true =>
    simp only [unqOK, Bool.and_eq_true, decide_eq_true_eq, textB] at ho
    refine absurd ho.2 (h _ ?_ ?_)
    · have := ho.1.1; simpa [ByteArray.size] using this
    · have := ho.1.2; simpa using this
theorem quote_unq {s : ByteArray} (h : textB s = true) : unqOK (quoteT s) = true ∧ unqT (quoteT s) = s :=
  unq_of h (by unfold quoteT; rw [if_pos h])

/-- The byte that stands first, and how many bytes stand for it. -/
def meantI (n : Int) : Int := if n = 34 ∨ n = 92 then n else if n = 110 then 10 else 0
def meansI (n : Int) : Bool := decide (n = 34 ∨ n = 92 ∨ n = 110)
def specI (n : Int) : Bool := decide (n = 34 ∨ n = 92 ∨ n = 10)

end Go.Proofs.YtncehcklppakcaaGreatDoor
