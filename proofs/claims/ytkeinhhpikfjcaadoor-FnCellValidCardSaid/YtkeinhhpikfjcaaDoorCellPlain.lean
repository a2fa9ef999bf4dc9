/-
  Cells, plainly: which words and which numbers of parts fit a kind.
-/
import Derived.Test.YtkeinhhpikfjcaaDoorReadSPlain
import Derived.Test.YtkeinhhpikfjcaaDoorNamePlain
import Derived.Test.YtkeinhhpikfjcaaDoorTexts
import Derived.Test.YtkeinhhpikfjcaaDoorJoin
import Derived.Test.YtkeinhhpikfjcaaDoorExprPlain
namespace Go.Proofs.YtkeinhhpikfjcaaDoor
open Go.RowKit
set_option linter.unusedVariables false

/-- The word of a number. -/
def numB (s : ByteArray) : Bool := rdOK s && (decide (0 ≤ rdT s) && ((1000000 : Int).tmod (rdB s) == 0))
/-- The strength of a binary sign, or 0. -/
def rankL (l : List UInt8) : Int :=
  if l = [124, 124] then 2 else if l = [38, 38] then 3
  else if l = [61, 61] then 4 else if l = [33, 61] then 4 else if l = [60] then 4 else if l = [60, 61] then 4 else if l = [62] then 4 else if l = [62, 61] then 4
  else if l = [43] then 5 else if l = [45] then 5
  else if l = [42] then 6 else if l = [47] then 6 else if l = [37] then 6 else 0
def wordB (k : Int) (s : ByteArray) : Bool :=
  if k = 1 then numB s else if k = 2 then textB s && decide (s.size ≤ 60)
  else if k = 3 then s.data.toList == trueL || s.data.toList == falseL
  else if k = 4 then nameL s.data.toList && decide (s.size ≤ 60)
  else if k = 5 then s.data.toList == []
  else if k = 6 then nameL s.data.toList && !hasL s.data.toList 46
  else if k = 7 then s.data.toList == [33] || s.data.toList == [45]
  else if k = 8 then decide (0 < rankL s.data.toList)
  else if k = 9 then s.data.toList == [] else false
def manyB (k m : Int) : Bool :=
  if k = 1 ∨ k = 2 ∨ k = 3 ∨ k = 4 then m == 0 else if k = 5 ∨ k = 6 then decide (0 ≤ m) && decide (m ≤ 8)
  else if k = 7 then m == 1 else if k = 8 then m == 2 else if k = 9 then m == 3 else false
/-- A valid cell. -/
def cellB (k : Int) (s : ByteArray) (m : Int) : Bool := wordB k s && manyB k m

theorem rank_pos (l : List UInt8) (h : 0 < rankL l) : l.length ≤ 2 := by
  by_cases hl : l.length ≤ 2
  · exact hl
  · exfalso
    have ne : ∀ q : List UInt8, q.length ≤ 2 → l ≠ q := by rintro q hq rfl; exact hl hq
    have e : rankL l = 0 := by
      unfold rankL
      iterate 13 rw [if_neg (ne _ (by decide))]
    omega
theorem posText_len60 (t b : Nat) (ht : t ≤ 1000000000) (hb : b ≤ 1000000) : (posText t b).length ≤ 50 := by
  unfold posText decText
  have l1 := dec_len (t / b) (by have := Nat.div_le_self t b; omega)
  have l2 := dec_len t (by omega)
  have l3 := dec_len b (by omega)
  have l4 := frs_len 6 (t % b) b
  split
  · split
    · simp; omega
    · simp; omega
  · simp; omega
theorem textF_len60 (t b : Int) : (textF t b).length ≤ 60 := by
  unfold textF
  split
  · rename_i hv
    obtain ⟨v1, v2, v3, v4⟩ := vB_bd hv
    unfold fracT
    split
    · have := posText_len60 (-t).toNat b.toNat (by omega) (by omega)
      simp only [List.length_cons]; omega
    · have := posText_len60 t.toNat b.toNat (by omega) (by omega)
      omega
  · simp
theorem rd_text (s : ByteArray) (h : rdOK s = true) : textF (rdT s) (rdB s) = s.data.toList := by
  unfold rdT rdB
  rw [if_pos h, if_pos h]
  simp only [rdOK, Bool.and_eq_true, beq_iff_eq] at h
  exact h.2
theorem size_list (s : ByteArray) : s.data.toList.length = s.size := by rw [Array.length_toList]; rfl
/-- The bottom of what is read: above 0, or nothing is read. -/
theorem rd_bottom (s : ByteArray) (h : rdOK s = true) : 1 ≤ rdB s ∧ rdB s ≤ 1000000 := by
  have e := rd_text s h
  cases hv : vB (rdT s) (rdB s) with
  | true => obtain ⟨v1, v2, v3, v4⟩ := vB_bd hv; exact ⟨v3, v4⟩
  | false =>
    exfalso
    rw [textF, hv] at e
    have e : s.data.toList = [] := by simpa using e.symm
    obtain rfl : s = ⟨#[]⟩ := by rw [strL e]
    exact absurd h (by decide)
theorem word_len (k : Int) (s : ByteArray) (h : wordB k s = true) : s.size ≤ 60 := by
  rw [← size_list]
  unfold wordB at h
  repeat' split at h
  · simp only [numB, Bool.and_eq_true] at h
    rw [← rd_text s h.1]; exact textF_len60 _ _
  · rw [size_list]; simp only [Bool.and_eq_true, decide_eq_true_eq] at h; exact h.2
  · simp only [Bool.or_eq_true, beq_iff_eq] at h
    rcases h with h | h <;> (rw [h]; decide)
  · rw [size_list]; simp only [Bool.and_eq_true, decide_eq_true_eq] at h; exact h.2
  · simp only [beq_iff_eq] at h; rw [h]; simp
  · simp only [Bool.and_eq_true, Bool.not_eq_true', nameL] at h
    have hd : (46 : UInt8) ∉ s.data.toList := by
      intro hm
      have : hasL s.data.toList 46 = true := by
        rw [hasL, List.any_eq_true]; exact ⟨46, hm, by decide⟩
      rw [this] at h; simp at h
    have hp := h.1.1
    rw [nameR_part _ hd, partB_iff] at hp
    simp only [Bool.and_eq_true, decide_eq_true_eq] at hp
    omega
  · simp only [Bool.or_eq_true, beq_iff_eq] at h
    rcases h with h | h <;> (rw [h]; simp)
  · have := rank_pos _ (by simpa using h); omega
  · simp only [beq_iff_eq] at h; rw [h]; simp
  · cases h
theorem many_bd (k m : Int) (h : manyB k m = true) : 0 ≤ m ∧ m ≤ 8 := by
  unfold manyB at h
  repeat' split at h
  all_goals first
    | (simp only [beq_iff_eq] at h; omega)
    | (simp only [Bool.and_eq_true, decide_eq_true_eq] at h; exact h)
    | cases h
/-- A list of cells. -/
abbrev Cl := Int × ByteArray × Int
def okC (c : Cl) : Bool := cellB c.1 c.2.1 c.2.2
def amL (l : List Cl) : List Nat := l.map fun c => c.2.2.toNat
theorem okC_many {c : Cl} (h : okC c = true) : 0 ≤ c.2.2 ∧ c.2.2 ≤ 8 := by
  simp only [okC, cellB, Bool.and_eq_true] at h; exact many_bd _ _ h.2
theorem amL_at (l : List Cl) (f : Nat) (h : f < l.length) : (amL l)[f]? = some l[f].2.2.toNat := by
  simp [amL, h]
theorem amL_length (l : List Cl) : (amL l).length = l.length := by simp [amL]
open Classical in
/-- A valid expression. -/
noncomputable def okE (l : List Cl) : Bool := decide (l.length ≤ 60) && (l.all okC && decide (∃ d, d ≤ 12 ∧ Exs (amL l) 1 0 l.length d))
theorem okE_iff (l : List Cl) : okE l = true ↔ l.length ≤ 60 ∧ l.all okC = true ∧ ∃ d, d ≤ 12 ∧ Exs (amL l) 1 0 l.length d := by
  simp only [okE, Bool.and_eq_true, decide_eq_true_eq]
open Classical in
/-- The depth of an expression. -/
noncomputable def depE (am : List Nat) (f : Nat) : Nat := if h : ∃ d t, Exs am 1 f t d then h.choose else 0
theorem Exs.depE {am : List Nat} {f t d : Nat} (h : Exs am 1 f t d) : depE am f = d := by
  have hx : ∃ d t, Exs am 1 f t d := ⟨d, t, h⟩
  unfold Proofs.YtkeinhhpikfjcaaDoor.depE
  rw [dif_pos hx]
  obtain ⟨t', h'⟩ := hx.choose_spec
  exact (h'.uniq h).2
theorem okC_all {l : List Cl} (h : l.all okC = true) (f : Nat) (hf : f < l.length) : okC l[f] = true := by
  rw [List.all_eq_true] at h; exact h _ (List.getElem_mem hf)

end Go.Proofs.YtkeinhhpikfjcaaDoor
