/-
  Names in ascending order, plainly: the order of texts, lists that ascend, a name put in, and the names in an expression (namesV).
-/
import Derived.Test.YtpcaciogglllbaaGreatDoorBaseE
namespace Go.Proofs.YtpcaciogglllbaaGreatDoor
set_option linter.unusedVariables false

def ltL (a b : List UInt8) : Bool := Op.bytesLess a b
def ltN (a b : ByteArray) : Bool := ltL a.data.toList b.data.toList
theorem ltL_cons (a b : UInt8) (x y : List UInt8) : ltL (a :: x) (b :: y) = (decide (a < b) || (a == b && ltL x y)) := rfl
theorem ltL_irr : ∀ a, ltL a a = false := by
  intro a
  induction a with
  | nil => rfl
  | cons a x ih => rw [ltL_cons, ih]; simp
theorem ltL_trans : ∀ {a b c : List UInt8}, ltL a b = true → ltL b c = true → ltL a c = true := by
  intro a
  induction a with
  | nil =>
    intro b c h1 h2
    cases c with
    | nil => cases b <;> cases h2
    | cons _ _ => rfl
  | cons a x ih =>
    intro b c h1 h2
    cases b with
    | nil => cases h1
    | cons b y =>
      cases c with
      | nil => cases h2
      | cons c z =>
        rw [ltL_cons, Bool.or_eq_true, decide_eq_true_eq, Bool.and_eq_true, beq_iff_eq] at h1 h2 ⊢
        rcases h1 with h1 | ⟨rfl, h1⟩
        · rcases h2 with h2 | ⟨rfl, h2⟩
          · exact .inl (UInt8.lt_trans h1 h2)
          · exact .inl h1
        · rcases h2 with h2 | ⟨rfl, h2⟩
          · exact .inl h2
          · exact .inr ⟨rfl, ih h1 h2⟩
theorem ltL_tri : ∀ (a b : List UInt8), ltL a b = true ∨ a = b ∨ ltL b a = true := by
  intro a
  induction a with
  | nil => intro b; cases b with
    | nil => exact .inr (.inl rfl)
    | cons _ _ => exact .inl rfl
  | cons a x ih =>
    intro b
    cases b with
    | nil => exact .inr (.inr rfl)
    | cons b y =>
      simp only [ltL_cons, Bool.or_eq_true, decide_eq_true_eq, Bool.and_eq_true, beq_iff_eq, List.cons.injEq]
      by_cases h1 : a < b
      · exact .inl (.inl h1)
      by_cases h2 : b < a
      · exact .inr (.inr (.inl h2))
      have : a = b := by
        have h3 := UInt8.not_lt.mp h1; have h4 := UInt8.not_lt.mp h2
        exact UInt8.le_antisymm h4 h3
      subst this
      rcases ih y with h | h | h
      · exact .inl (.inr ⟨rfl, h⟩)
      · exact .inr (.inl ⟨rfl, h⟩)
      · exact .inr (.inr (.inr ⟨rfl, h⟩))
theorem ltN_irr (a : ByteArray) : ltN a a = false := ltL_irr _
theorem ltN_trans {a b c : ByteArray} (h1 : ltN a b = true) (h2 : ltN b c = true) : ltN a c = true := ltL_trans h1 h2
theorem data_eq {a b : ByteArray} (h : a.data.toList = b.data.toList) : a = b := ByteArray.ext (Array.toList_inj.mp h)
theorem ltN_tri (a b : ByteArray) : ltN a b = true ∨ a = b ∨ ltN b a = true := by
  rcases ltL_tri a.data.toList b.data.toList with h | h | h
  · exact .inl h
  · exact .inr (.inl (data_eq h))
  · exact .inr (.inr h)
/-- Texts that ascend. -/
def Asc (xs : List ByteArray) : Prop := xs.Pairwise fun a b => ltN a b = true
theorem asc_uniq : ∀ {xs ys : List ByteArray}, Asc xs → Asc ys → (∀ s, s ∈ xs ↔ s ∈ ys) → xs = ys := by
  intro xs
  induction xs with
  | nil =>
    intro ys _ _ h
    cases ys with
    | nil => rfl
    | cons y ys => exact absurd ((h y).mpr (List.mem_cons_self ..)) (by simp)
  | cons x xs ih =>
    intro ys hx hy h
    cases ys with
    | nil => exact absurd ((h x).mp (List.mem_cons_self ..)) (by simp)
    | cons y ys =>
      unfold Asc at hx hy
      rw [List.pairwise_cons] at hx hy
      have hxy : x = y := by
        rcases List.mem_cons.mp ((h x).mp (List.mem_cons_self ..)) with e | e
        · exact e
        · rcases List.mem_cons.mp ((h y).mpr (List.mem_cons_self ..)) with k | k
          · exact k.symm
          · have := ltN_trans (hx.1 y k) (hy.1 x e)
            rw [ltN_irr] at this; cases this
      subst hxy
      congr 1
      refine ih hx.2 hy.2 fun s => ?_
      have hs := h s
      simp only [List.mem_cons] at hs
      constructor
      · intro k
        rcases hs.mp (.inr k) with e | e
        · subst e; have := hx.1 _ k; rw [ltN_irr] at this; cases this
        · exact e
      · intro k
        rcases hs.mpr (.inr k) with e | e
        · subst e; have := hy.1 _ k; rw [ltN_irr] at this; cases this
        · exact e
/-- How many texts at the beginning are less. -/
def placeN : List ByteArray → ByteArray → Nat
  | [], _ => 0
  | x :: xs, s => if ltN x s = true then placeN xs s + 1 else 0
theorem placeN_le : ∀ (xs : List ByteArray) (s : ByteArray), placeN xs s ≤ xs.length := by
  intro xs
  induction xs with
  | nil => intro s; exact Nat.le_refl _
  | cons x xs ih => intro s; rw [placeN]; split; (have := ih s; simp only [List.length_cons]; omega); simp
theorem placeN_lt : ∀ (xs : List ByteArray) (s : ByteArray) (k : Nat) (hk : k < placeN xs s), ltN (xs[k]'(Nat.lt_of_lt_of_le hk (placeN_le xs s))) s = true := by
  intro xs
  induction xs with
  | nil => intro s k hk; exact absurd hk (by simp [placeN])
  | cons x xs ih =>
    intro s k hk
    rw [placeN] at hk
    split at hk
    · rename_i h
      cases k with
      | zero => exact h
      | succ k => exact ih s k (by omega)
    · omega
theorem placeN_stop : ∀ (xs : List ByteArray) (s : ByteArray) (hk : placeN xs s < xs.length), ltN xs[placeN xs s] s = false := by
  intro xs
  induction xs with
  | nil => intro s hk; simp at hk
  | cons x xs ih =>
    intro s hk
    by_cases h : ltN x s = true
    · have e : placeN (x :: xs) s = placeN xs s + 1 := by rw [placeN, if_pos h]
      simp only [e, List.getElem_cons_succ]
      exact ih s (by rw [e, List.length_cons] at hk; omega)
    · have e : placeN (x :: xs) s = 0 := by rw [placeN, if_neg h]
      simp only [e, List.getElem_cons_zero]
      simpa using h
theorem placeN_is {xs : List ByteArray} {s : ByteArray} {k : Nat} (hk : k ≤ xs.length) (h1 : ∀ i, (h : i < k) → ltN (xs[i]'(by omega)) s = true) (h2 : (h : k < xs.length) → ltN xs[k] s = false) : placeN xs s = k := by
  by_cases h : placeN xs s < k
  · have a := placeN_stop xs s (by omega)
    rw [h1 _ h] at a; cases a
  · by_cases h' : k < placeN xs s
    · have := placeN_le xs s
      have a := placeN_lt xs s k h'
      rw [h2 (by omega)] at a; cases a
    · omega
open Classical in
/-- A text put in at its place, once. -/
noncomputable def insN (xs : List ByteArray) (s : ByteArray) : List ByteArray := if s ∈ xs then xs else xs.take (placeN xs s) ++ (s :: xs.drop (placeN xs s))
/-- At the place stands the text, or it is nowhere. -/
theorem place_mem {xs : List ByteArray} (ha : Asc xs) (s : ByteArray) : s ∈ xs ↔ xs[placeN xs s]? = some s := by
  constructor
  · intro h
    obtain ⟨i, hi, rfl⟩ := List.getElem_of_mem h
    have : placeN xs xs[i] = i := placeN_is (by omega) (fun j hj => List.pairwise_iff_getElem.mp ha j i (by omega) hi hj) (fun _ => ltN_irr _)
    rw [this, List.getElem?_eq_getElem hi]
  · intro h; exact List.mem_of_getElem? h
theorem insN_mem (xs : List ByteArray) (s t : ByteArray) : t ∈ insN xs s ↔ t = s ∨ t ∈ xs := by
  unfold insN
  split
  · rename_i h
    exact ⟨.inr, fun k => by rcases k with rfl | k; exact h; exact k⟩
  · have e : xs = xs.take (placeN xs s) ++ xs.drop (placeN xs s) := (List.take_append_drop _ _).symm
    rw [List.mem_append, List.mem_cons]
    have : t ∈ xs ↔ t ∈ xs.take (placeN xs s) ∨ t ∈ xs.drop (placeN xs s) := by
      conv => lhs; rw [e]
      rw [List.mem_append]
    rw [this]
    constructor
    · rintro (h | h | h)
      · exact .inr (.inl h)
      · exact .inl h
      · exact .inr (.inr h)
    · rintro (h | h | h)
      · exact .inr (.inl h)
      · exact .inl h
      · exact .inr (.inr h)
theorem insN_asc {xs : List ByteArray} (ha : Asc xs) (s : ByteArray) : Asc (insN xs s) := by
  unfold insN
  split
  · exact ha
  rename_i hn
  have hp := placeN_le xs s
  have hall := List.pairwise_iff_getElem.mp ha
  have hlt : ∀ x ∈ xs.take (placeN xs s), ltN x s = true := by
    intro x hx
    obtain ⟨i, hi, rfl⟩ := List.getElem_of_mem hx
    rw [List.getElem_take]
    rw [List.length_take] at hi
    exact placeN_lt xs s i (by omega)
  have hgt : ∀ x ∈ xs.drop (placeN xs s), ltN s x = true := by
    intro x hx
    obtain ⟨i, hi, rfl⟩ := List.getElem_of_mem hx
    rw [List.length_drop] at hi
    rw [List.getElem_drop]
    have h0 : ltN s (xs[placeN xs s]'(by omega)) = true := by
      have h1 := placeN_stop xs s (by omega)
      rcases ltN_tri s (xs[placeN xs s]'(by omega)) with h | h | h
      · exact h
      · exact absurd (h ▸ List.getElem_mem _) hn
      · rw [h1] at h; cases h
    by_cases h0i : i = 0
    · subst h0i; simpa using h0
    · exact ltN_trans h0 (hall _ _ (by omega) (by omega) (by omega))
  show List.Pairwise _ _
  rw [List.pairwise_append, List.pairwise_cons]
  refine ⟨ha.sublist (List.take_sublist _ _), ⟨hgt, ha.sublist (List.drop_sublist _ _)⟩, ?_⟩
  intro a h1 b h2
  rcases List.mem_cons.mp h2 with rfl | h2
  · exact hlt a h1
  · exact ltN_trans (hlt a h1) (hgt b h2)
/-- The names in a list of cells, in order, each once. -/
noncomputable def namesL (l : List Cl) : List ByteArray := l.foldl (fun xs c => if c.1 = 4 then insN xs c.2.1 else xs) []
theorem namesL_snoc (l : List Cl) (c : Cl) : namesL (l ++ [c]) = if c.1 = 4 then insN (namesL l) c.2.1 else namesL l := by
  unfold namesL
  rw [List.foldl_append]
  rfl
theorem names_both : ∀ (l : List Cl) (xs : List ByteArray), Asc xs → Asc (l.foldl (fun xs c => if c.1 = 4 then insN xs c.2.1 else xs) xs) ∧
    ∀ s, s ∈ l.foldl (fun xs c => if c.1 = 4 then insN xs c.2.1 else xs) xs ↔ s ∈ xs ∨ ∃ c ∈ l, c.1 = 4 ∧ c.2.1 = s := by
  intro l
  induction l with
  | nil => intro xs h; exact ⟨h, fun s => by simp⟩
  | cons c l ih =>
    intro xs h
    rw [List.foldl_cons]
    by_cases h4 : c.1 = 4
    · rw [if_pos h4]
      obtain ⟨i1, i2⟩ := ih _ (insN_asc h c.2.1)
      refine ⟨i1, fun s => ?_⟩
      rw [i2, insN_mem]
      constructor
      · rintro ((rfl | k) | ⟨c', hc', k⟩)
        · exact .inr ⟨c, List.mem_cons_self .., h4, rfl⟩
        · exact .inl k
        · exact .inr ⟨c', List.mem_cons_of_mem _ hc', k⟩
      · rintro (k | ⟨c', hc', k4, rfl⟩)
        · exact .inl (.inr k)
        · rcases List.mem_cons.mp hc' with rfl | hc'
          · exact .inl (.inl rfl)
          · exact .inr ⟨c', hc', k4, rfl⟩
    · rw [if_neg h4]
      obtain ⟨i1, i2⟩ := ih _ h
      refine ⟨i1, fun s => ?_⟩
      rw [i2]
      constructor
      · rintro (k | ⟨c', hc', k⟩)
        · exact .inl k
        · exact .inr ⟨c', List.mem_cons_of_mem _ hc', k⟩
      · rintro (k | ⟨c', hc', k4, rfl⟩)
        · exact .inl k
        · rcases List.mem_cons.mp hc' with rfl | hc'
          · exact absurd k4 h4
          · exact .inr ⟨c', hc', k4, rfl⟩
theorem namesL_asc (l : List Cl) : Asc (namesL l) := (names_both l [] List.Pairwise.nil).1
theorem namesL_mem (l : List Cl) (s : ByteArray) : s ∈ namesL l ↔ ∃ c ∈ l, c.1 = 4 ∧ c.2.1 = s := by
  have := (names_both l [] List.Pairwise.nil).2 s
  rw [show namesL l = l.foldl (fun xs c => if c.1 = 4 then insN xs c.2.1 else xs) [] from rfl, this]
  simp
/-- Whatever ascends and has the names is the names. -/
theorem namesL_is {l : List Cl} {xs : List ByteArray} (ha : Asc xs) (hm : ∀ s, s ∈ xs ↔ ∃ c ∈ l, c.1 = 4 ∧ c.2.1 = s) : xs = namesL l :=
  asc_uniq ha (namesL_asc l) fun s => (hm s).trans (namesL_mem l s).symm
noncomputable def namesV (l : List Cl) : List ByteArray := if okE l = true then namesL l else []
theorem insN_len (xs : List ByteArray) (s : ByteArray) : (insN xs s).length ≤ xs.length + 1 := by
  unfold insN
  split
  · omega
  · rw [List.length_append, List.length_cons, List.length_take, List.length_drop]; omega
theorem names_len : ∀ (l : List Cl) (xs : List ByteArray), (l.foldl (fun xs c => if c.1 = 4 then insN xs c.2.1 else xs) xs).length ≤ xs.length + l.length := by
  intro l
  induction l with
  | nil => intro xs; exact Nat.le_refl _
  | cons c l ih =>
    intro xs
    rw [List.foldl_cons, List.length_cons]
    have := ih (if c.1 = 4 then insN xs c.2.1 else xs)
    have h2 : (if c.1 = 4 then insN xs c.2.1 else xs).length ≤ xs.length + 1 := by
      split
      · exact insN_len _ _
      · omega
    omega
theorem namesL_len (l : List Cl) : (namesL l).length ≤ l.length := by
  have := names_len l []
  rw [List.length_nil, Nat.zero_add] at this
  exact this

end Go.Proofs.YtpcaciogglllbaaGreatDoor
