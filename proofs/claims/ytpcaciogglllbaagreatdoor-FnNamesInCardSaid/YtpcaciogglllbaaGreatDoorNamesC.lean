/-
  Sorted names without those that stand twice, plainly: what slices.Sort and slices.Compact make of names are the names in ascending order.
-/
import Derived.Test.YtpcaciogglllbaaGreatDoorNamesPlain
import Derived.Lib.OwnBridge
import Derived.Lib.SlicesCompact
import Derived.Lib.RowBridge
namespace Go.Proofs.YtpcaciogglllbaaGreatDoor
open Go.Lib
set_option linter.unusedVariables false

theorem ltL_iff : ∀ (a b : List UInt8), a < b ↔ ltL a b = true := by
  intro a
  induction a with
  | nil => intro b; cases b with
    | nil => exact ⟨fun h => absurd h (List.not_lt_nil _), fun h => by cases h⟩
    | cons b y => exact ⟨fun _ => rfl, fun _ => List.nil_lt_cons _ _⟩
  | cons a x ih =>
    intro b
    cases b with
    | nil => exact ⟨fun h => absurd h (List.not_lt_nil _), fun h => by cases h⟩
    | cons b y => rw [ltL_cons, List.cons_lt_cons_iff, Bool.or_eq_true, decide_eq_true_eq, Bool.and_eq_true, beq_iff_eq, ih]
theorem leL_is (a b : List UInt8) : decide (a ≤ b) = !ltL b a := by
  have h : a ≤ b ↔ ¬ b < a := Iff.rfl
  rw [Bool.eq_iff_iff, decide_eq_true_eq, h, ltL_iff]
  cases ltL b a <;> simp
theorem leL_or {a b : List UInt8} (h : ltL b a = false) : a = b ∨ ltL a b = true := by
  rcases ltL_tri a b with h1 | h1 | h1
  · exact .inr h1
  · exact .inl h1
  · rw [h] at h1; cases h1
theorem leL_trans {a b c : List UInt8} (h1 : ltL b a = false) (h2 : ltL c b = false) : ltL c a = false := by
  rw [Bool.eq_false_iff]; intro h
  rcases leL_or h1 with rfl | h3
  · rw [h2] at h; cases h
  · rcases leL_or h2 with rfl | h4
    · rw [h1] at h; cases h
    · have := ltL_trans h (ltL_trans h3 h4)
      rw [ltL_irr] at this; cases this
/-- The sorted list. -/
def sortL (zs : List (List UInt8)) : List (List UInt8) := zs.mergeSort fun x y => decide (x ≤ y)
theorem sortL_pair (zs : List (List UInt8)) : (sortL zs).Pairwise fun a b => ltL b a = false := by
  have h := List.pairwise_mergeSort (le := fun x y : List UInt8 => decide (x ≤ y)) (fun a b c h1 h2 => by
    rw [leL_is, Bool.not_eq_true'] at h1 h2 ⊢
    exact leL_trans h1 h2) (fun a b => by
    rw [leL_is, leL_is, Bool.or_eq_true, Bool.not_eq_true', Bool.not_eq_true']
    rcases ltL_tri a b with h | h | h
    · refine .inl ?_
      rw [Bool.eq_false_iff]; intro k
      have := ltL_trans h k; rw [ltL_irr] at this; cases this
    · subst h; exact .inl (ltL_irr a)
    · refine .inr ?_
      rw [Bool.eq_false_iff]; intro k
      have := ltL_trans h k; rw [ltL_irr] at this; cases this) zs
  refine h.imp ?_
  intro a b k
  rw [leL_is, Bool.not_eq_true'] at k
  exact k
theorem sortL_mem (zs : List (List UInt8)) (s : List UInt8) : s ∈ sortL zs ↔ s ∈ zs := (List.mergeSort_perm zs _).mem_iff
theorem sortL_len (zs : List (List UInt8)) : (sortL zs).length = zs.length := (List.mergeSort_perm zs _).length_eq
theorem compact_inv (d : Array (List UInt8)) (hd : d.toList.Pairwise fun a b => ltL b a = false) : ∀ m, m ≤ d.size → (∀ s, s ∈ compactUpTo d m ↔ ∃ j, j < m ∧ d[j]! = s) ∧ (compactUpTo d m).Pairwise fun a b => ltL a b = true := by
  have hle : ∀ i j, i < j → j < d.size → ltL d[j]! d[i]! = false := fun i j hij hj => by
    have h := List.pairwise_iff_getElem.mp hd i j (by simp; omega) (by simp; exact hj) hij
    rw [getElem!_pos d i (by omega), getElem!_pos d j hj]
    simpa using h
  intro m
  induction m with
  | zero => intro _; exact ⟨fun s => ⟨fun h => by simp [compactUpTo] at h, fun ⟨j, hj, _⟩ => by omega⟩, by simp [compactUpTo]⟩
  | succ m ih =>
    intro hm
    obtain ⟨h1, h2⟩ := ih (by omega)
    rw [compactUpTo_succ]
    cases hk : keeps d m with
    | true =>
      rw [if_pos rfl]
      refine ⟨fun s => ?_, ?_⟩
      · rw [List.mem_append, List.mem_singleton, h1]
        constructor
        · rintro (⟨j, hj, e⟩ | rfl)
          · exact ⟨j, by omega, e⟩
          · exact ⟨m, by omega, rfl⟩
        · rintro ⟨j, hj, e⟩
          by_cases hjm : j = m
          · subst hjm; exact .inr e.symm
          · exact .inl ⟨j, by omega, e⟩
      · rw [List.pairwise_append]
        refine ⟨h2, List.pairwise_singleton _ _, fun a ha b hb => ?_⟩
        rw [List.mem_singleton] at hb
        subst hb
        obtain ⟨j, hj, rfl⟩ := (h1 a).mp ha
        rw [keeps, decide_eq_true_eq] at hk
        have hne : d[m]! ≠ d[m - 1]! := hk.resolve_left (by omega)
        have h3 : ltL d[m - 1]! d[m]! = true := by
          rcases leL_or (hle (m - 1) m (by omega) (by omega)) with h | h
          · exact absurd h.symm hne
          · exact h
        by_cases hjm : j = m - 1
        · subst hjm; exact h3
        · rcases leL_or (hle j (m - 1) (by omega) (by omega)) with h | h
          · rw [h]; exact h3
          · exact ltL_trans h h3
    | false =>
      rw [if_neg (by decide), List.append_nil]
      refine ⟨fun s => ?_, h2⟩
      rw [h1]
      constructor
      · rintro ⟨j, hj, e⟩; exact ⟨j, by omega, e⟩
      · rintro ⟨j, hj, e⟩
        by_cases hjm : j = m
        · subst hjm
          rw [keeps, decide_eq_false_iff_not] at hk
          have h0 : ¬ j = 0 := fun h => hk (.inl h)
          have h3 : d[j]! = d[j - 1]! := Classical.byContradiction fun h => hk (.inr h)
          exact ⟨j - 1, by omega, by rw [← h3]; exact e⟩
        · exact ⟨j, by omega, e⟩
/-- The names, sorted, each once. -/
noncomputable def compL (zs : List (List UInt8)) : List (List UInt8) := compact (sortL zs)
theorem compL_mem (zs : List (List UInt8)) (s : List UInt8) : s ∈ compL zs ↔ s ∈ zs := by
  have h := (compact_inv (sortL zs).toArray (by simpa using sortL_pair zs) (sortL zs).length (by simp)).1 s
  rw [compL, compact, h, ← sortL_mem]
  constructor
  · rintro ⟨j, hj, e⟩
    rw [getElem!_pos _ j (by simpa using hj)] at e
    rw [← e]; simp
  · intro hm
    obtain ⟨j, hj, e⟩ := List.mem_iff_getElem.mp hm
    exact ⟨j, hj, by rw [getElem!_pos _ j (by simpa using hj)]; simpa using e⟩
theorem compL_pair (zs : List (List UInt8)) : (compL zs).Pairwise fun a b => ltL a b = true := (compact_inv (sortL zs).toArray (by simpa using sortL_pair zs) (sortL zs).length (by simp)).2
theorem compL_len (zs : List (List UInt8)) : (compL zs).length ≤ zs.length := by
  have := compact_length_le (sortL zs)
  rw [sortL_len] at this; exact this
/-- The words of names, in their order. -/
def wordsN (l : List Cl) : List ByteArray := (l.filter fun c => c.1 == 4).map fun c => c.2.1
theorem wordsN_snoc (l : List Cl) (c : Cl) : wordsN (l ++ [c]) = if c.1 = 4 then wordsN l ++ [c.2.1] else wordsN l := by
  unfold wordsN
  rw [List.filter_append, List.map_append]
  by_cases h : c.1 = 4
  · rw [if_pos h, List.filter_cons_of_pos (by simpa using h)]; rfl
  · rw [if_neg h, List.filter_cons_of_neg (by simpa using h)]; simp
theorem wordsN_mem (l : List Cl) (s : ByteArray) : s ∈ wordsN l ↔ ∃ c ∈ l, c.1 = 4 ∧ c.2.1 = s := by
  unfold wordsN
  simp only [List.mem_map, List.mem_filter, beq_iff_eq]
  exact ⟨fun ⟨c, ⟨h1, h2⟩, h3⟩ => ⟨c, h1, h2, h3⟩, fun ⟨c, h1, h2, h3⟩ => ⟨c, ⟨h1, h2⟩, h3⟩⟩
theorem wordsN_len (l : List Cl) : (wordsN l).length ≤ l.length := by
  unfold wordsN; rw [List.length_map]; exact List.length_filter_le _ _
theorem names_comp (l : List Cl) : (compL ((wordsN l).map (·.data.toList))).map (fun x => (⟨x.toArray⟩ : ByteArray)) = namesL l := by
  refine namesL_is ?_ fun s => ?_
  · show List.Pairwise _ _
    rw [List.pairwise_map]
    exact (compL_pair _).imp fun {a b} h => by simpa [ltN] using h
  · rw [← wordsN_mem]
    simp only [List.mem_map, compL_mem]
    constructor
    · rintro ⟨x, ⟨t, ht, rfl⟩, rfl⟩; exact ht
    · intro hs; exact ⟨_, ⟨s, hs, rfl⟩, rfl⟩

end Go.Proofs.YtpcaciogglllbaaGreatDoor
