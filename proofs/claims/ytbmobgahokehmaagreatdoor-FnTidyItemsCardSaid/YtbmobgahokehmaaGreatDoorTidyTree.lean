/-
  Tidying by parts, plainly (Tdd), beside tidying from the front (tidyL).
-/
import Derived.Test.YtbmobgahokehmaaGreatDoorTidyPlain
import Derived.Test.YtbmobgahokehmaaGreatDoorTreeD
namespace Go.Proofs.YtbmobgahokehmaaGreatDoor
set_option linter.unusedVariables false

def blankI : It := (1, ByteArray.empty, [], ByteArray.empty)
/-- A blank item that waits. -/
def waitL (b : Bool) : List It := if b = true then [blankI] else []
/-- What of the items a is tidy: R, and whether a blank item waits behind it. -/
structure Tdd (a R : List It) (b : Bool) : Prop where
  short : R.length + (waitL b).length ≤ a.length
  none : R = [] → b = false
  last : R ≠ [] → lastK R ≠ 1 ∧ lastK R ≠ 4
  fold : ∀ out : List It, (out = [] ∨ lastK out = 4) → a.foldl tidyS out = out ++ (R ++ waitL b)
theorem lastK_app (a : List It) {b : List It} (h : b ≠ []) : lastK (a ++ b) = lastK b := by
  obtain ⟨x, hx⟩ : ∃ x, b.getLast? = some x := ⟨_, List.getLast?_eq_some_getLast h⟩
  unfold lastK
  rw [List.getLast?_append, hx]; rfl
theorem Tdd.nil : Tdd [] [] false := ⟨by simp [waitL], fun _ => rfl, fun h => absurd rfl h, fun out _ => by simp [waitL]⟩
theorem Tdd.nil_inv {R : List It} {b : Bool} (h : Tdd [] R b) : R = [] := by
  have := h.short
  rw [List.length_nil] at this
  exact List.length_eq_zero_iff.mp (by omega)
theorem blank_of {i : It} (h : itemB i = true) (h1 : i.1 = 1) : i = blankI := by
  obtain ⟨k, n, l, t⟩ := i
  simp only at h1
  subst h1
  unfold itemB at h
  simp only [true_or, if_true, Bool.and_eq_true] at h
  obtain ⟨h1, h2, h3⟩ := h
  have hz : ∀ s : ByteArray, emB s = true → s = ByteArray.empty := by
    intro s hs
    have hd : s.data = #[] := Array.eq_empty_of_size_eq_zero (beq_iff_eq.mp hs)
    cases s; cases hd; rfl
  rw [hz n h1, hz t h3, List.isEmpty_iff.mp h2, blankI]
theorem tidyS_blank {out : List It} (h : ¬ (out = [] ∨ lastK out = 1 ∨ lastK out = 4)) : tidyS out blankI = out ++ [blankI] := by
  unfold tidyS
  rw [if_neg (fun k => h k.2), if_neg (fun k => absurd k.1 (by decide))]
theorem tidyS_skip {out : List It} (h : out = [] ∨ lastK out = 1 ∨ lastK out = 4) : tidyS out blankI = out := by
  unfold tidyS; rw [if_pos ⟨rfl, h⟩]
theorem tidyS_item {out : List It} {i : It} (h1 : i.1 ≠ 1) (h5 : i.1 ≠ 5) : tidyS out i = out ++ [i] := by
  unfold tidyS; rw [if_neg (fun k => h1 k.1), if_neg (fun k => h5 k.1)]
theorem Tdd.blank {a R : List It} {b : Bool} (h : Tdd a R b) : Tdd (a ++ [blankI]) R (!R.isEmpty) := by
  cases R with
  | nil =>
    refine ⟨by have h9 := h.short; show 0 + 0 ≤ _; omega, fun _ => rfl, fun h => absurd rfl h, fun out ho => ?_⟩
    have hb := h.none rfl
    subst hb
    rw [List.foldl_append, h.fold out ho]
    show tidyS _ blankI = _
    have e : out ++ ([] ++ waitL false) = out := by simp [waitL]
    rw [e, tidyS_skip (by rcases ho with ho | ho; exact .inl ho; exact .inr (.inr ho))]
    simp [waitL]
  | cons x R =>
    have hne : x :: R ≠ [] := by simp
    refine ⟨by have := h.short; simp [waitL]; simp at this; omega, fun h => (by cases h), fun _ => h.last hne, fun out ho => ?_⟩
    rw [List.foldl_append, h.fold out ho]
    show tidyS _ blankI = _
    cases b with
    | true =>
      rw [tidyS_skip (.inr (.inl (by rw [lastK_app _ (by simp [waitL]), lastK_app _ (by simp [waitL])]; rfl)))]
      rfl
    | false =>
      have := h.last hne
      simp only [waitL, Bool.false_eq_true, if_false, List.append_nil]
      rw [tidyS_blank (by
        rw [lastK_app _ hne]
        rintro (k | k | k)
        · simp at k
        · exact this.1 k
        · exact this.2 k)]
      simp
theorem Tdd.item {a R : List It} {b : Bool} {i : It} (h : Tdd a R b) (h1 : i.1 ≠ 1) (h4 : i.1 ≠ 4) (h5 : i.1 ≠ 5) : Tdd (a ++ [i]) ((R ++ waitL b) ++ [i]) false := by
  refine ⟨by have := h.short; simp [waitL] at this ⊢; omega, fun _ => rfl, fun _ => ?_, fun out ho => ?_⟩
  · rw [lastK_snoc]; exact ⟨h1, h4⟩
  · rw [List.foldl_append, h.fold out ho]
    show tidyS _ i = _
    rw [tidyS_item h1 h5]
    simp [waitL]
theorem Tdd.blk {a R inn R2 : List It} {b b2 : Bool} {o c : It} (h : Tdd a R b) (h2 : Tdd inn R2 b2) (h4 : o.1 = 4) (h5 : c.1 = 5) : Tdd (a ++ (o :: (inn ++ [c]))) ((R ++ waitL b) ++ (o :: (R2 ++ [c]))) false := by
  refine ⟨by have h8 := h.short; have h9 := h2.short; simp [waitL] at h8 h9 ⊢; omega, fun _ => rfl, fun _ => ?_, fun out ho => ?_⟩
  · rw [show (R ++ waitL b) ++ (o :: (R2 ++ [c])) = ((R ++ waitL b) ++ (o :: R2)) ++ [c] by simp, lastK_snoc]; omega
  · rw [List.foldl_append, h.fold out ho, List.foldl_cons, tidyS_item (by omega) (by omega), List.foldl_append, h2.fold _ (.inr (by rw [lastK_snoc]; exact h4))]
    show tidyS _ c = _
    unfold tidyS
    rw [if_neg (fun k => by omega)]
    cases b2 with
    | true =>
      rw [if_pos ⟨h5, by rw [lastK_app _ (by simp [waitL]), lastK_app _ (by simp [waitL])]; rfl⟩]
      simp only [waitL, if_true]
      rw [← List.append_assoc _ R2 [blankI], List.dropLast_concat]
      simp
    | false =>
      have hl : ¬ lastK ((out ++ (R ++ waitL b) ++ [o]) ++ (R2 ++ waitL false)) = 1 := by
        simp only [waitL, Bool.false_eq_true, if_false, List.append_nil]
        cases R2 with
        | nil => rw [List.append_nil, lastK_snoc]; omega
        | cons x R2 => rw [lastK_app _ (by simp)]; exact (h2.last (by simp)).1
      rw [if_neg (fun k => hl k.2)]
      simp [waitL]
/-- All of a document. -/
theorem Tdd.whole {l R : List It} {b : Bool} (h : Tdd l R b) : tidyL l = R := by
  unfold tidyL
  rw [h.fold [] (.inl rfl), List.nil_append]
  unfold tidyE
  cases b with
  | true =>
    rw [if_pos (by rw [lastK_app _ (by simp [waitL])]; rfl)]
    simp [waitL]
  | false =>
    simp only [waitL, Bool.false_eq_true, if_false, List.append_nil]
    cases R with
    | nil => rfl
    | cons x R => rw [if_neg (h.last (by simp)).1]

end Go.Proofs.YtbmobgahokehmaaGreatDoor
