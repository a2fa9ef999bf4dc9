/-
  Expressions, plainly: the parts of a cell list by their numbers of parts (Exs), where they end (scA), and where the parts begin (kidsL).
-/
namespace Go.Proofs.YtkeinhhpikfjcaaDoor
set_option linter.unusedVariables false

/-- n expressions stand side by side from f up to t; d is the greatest of their depths. -/
inductive Exs (am : List Nat) : Nat → Nat → Nat → Nat → Prop
  | nil (f : Nat) : Exs am 0 f f 0
  | cons {f m g d n t e : Nat} : am[f]? = some m → Exs am m (f + 1) g d → Exs am n g t e → Exs am (n + 1) f t (max (d + 1) e)

theorem Exs.le {am : List Nat} {n f t d : Nat} (h : Exs am n f t d) : f + n ≤ t ∧ (n ≠ 0 → t ≤ am.length) := by
  induction h with
  | nil f => exact ⟨by omega, fun h => absurd rfl h⟩
  | @cons f m g d n t e hm h1 h2 i1 i2 =>
    have hf : f < am.length := by
      by_cases hk : f < am.length
      · exact hk
      · rw [List.getElem?_eq_none (by omega)] at hm; cases hm
    refine ⟨by omega, fun _ => ?_⟩
    by_cases hn : n = 0
    · subst hn
      cases h2
      by_cases hm0 : m = 0
      · subst hm0; cases h1; omega
      · exact i1.2 hm0
    · exact i2.2 hn
theorem Exs.uniq {am : List Nat} {n f t d : Nat} (h : Exs am n f t d) : ∀ {t' d' : Nat}, Exs am n f t' d' → t = t' ∧ d = d' := by
  induction h with
  | nil f => intro t' d' h'; cases h'; exact ⟨rfl, rfl⟩
  | @cons f m g d n t e hm h1 h2 i1 i2 =>
    intro t' d' h'
    cases h' with
    | @cons _ m' g' d1 _ _ e1 hm' k1 k2 =>
      rw [hm] at hm'; injection hm' with hm'; subst hm'
      obtain ⟨rfl, rfl⟩ := i1 k1
      obtain ⟨rfl, rfl⟩ := i2 k2
      exact ⟨rfl, rfl⟩
theorem Exs.app {am : List Nat} {a f g d : Nat} (h : Exs am a f g d) : ∀ {b t e : Nat}, Exs am b g t e → Exs am (a + b) f t (max d e) := by
  induction h with
  | nil f => intro b t e k; rw [Nat.zero_add, Nat.zero_max]; exact k
  | @cons f m g d n t e hm h1 h2 i1 i2 =>
    intro b t' e' k
    rw [show n + 1 + b = (n + b) + 1 by omega, Nat.max_assoc]
    exact .cons hm h1 (i2 k)
theorem Exs.split {am : List Nat} {a : Nat} : ∀ {b f t d : Nat}, Exs am (a + b) f t d → ∃ g d1 d2, Exs am a f g d1 ∧ Exs am b g t d2 ∧ d = max d1 d2 := by
  induction a with
  | zero => intro b f t d h; rw [Nat.zero_add] at h; exact ⟨f, 0, d, .nil f, h, by simp⟩
  | succ a ih =>
    intro b f t d h
    rw [show a + 1 + b = (a + b) + 1 by omega] at h
    cases h with
    | @cons _ m g d1 _ _ e hm h1 h2 =>
      obtain ⟨g', d', d2, k1, k2, rfl⟩ := ih h2
      exact ⟨g', _, d2, .cons hm h1 k1, k2, by rw [Nat.max_assoc]⟩
theorem Exs.snoc {am : List Nat} {n f g d t e : Nat} (h : Exs am n f g d) (k : Exs am 1 g t e) : Exs am (n + 1) f t (max d e) := h.app k
/-- One expression: its cell and its parts. -/
theorem Exs.one {am : List Nat} {f m t d : Nat} (hm : am[f]? = some m) (h : Exs am m (f + 1) t d) : Exs am 1 f t (d + 1) := by
  have := Exs.cons hm h (.nil t)
  rwa [Nat.max_eq_left (by omega)] at this
theorem Exs.inv {am : List Nat} {f t d : Nat} (h : Exs am 1 f t d) : ∃ m e, am[f]? = some m ∧ Exs am m (f + 1) t e ∧ d = e + 1 := by
  cases h with
  | @cons _ m g d1 _ _ e hm h1 h2 =>
    cases h2
    exact ⟨m, d1, hm, h1, by omega⟩

/-- Where n expressions end that stand from the place k on, if they do. -/
def scA : List Nat → Nat → Nat → Option Nat
  | _, k, 0 => some k
  | [], _, _ + 1 => none
  | m :: l, k, n + 1 => scA l (k + 1) (n + m)
theorem scA_zero (l : List Nat) (k : Nat) : scA l k 0 = some k := by cases l <;> rfl
theorem am_drop (am : List Nat) (f m : Nat) (h : am[f]? = some m) : am.drop f = m :: am.drop (f + 1) := by
  have hf : f < am.length := by
    by_cases hk : f < am.length
    · exact hk
    · rw [List.getElem?_eq_none (by omega)] at h; cases h
  rw [List.drop_eq_getElem_cons hf]
  rw [List.getElem?_eq_getElem hf] at h; injection h with h; rw [h]
theorem Exs.sc {am : List Nat} {n f t d : Nat} (h : Exs am n f t d) : ∀ b, scA (am.drop f) f (n + b) = scA (am.drop t) t b := by
  induction h with
  | nil f => intro b; rw [Nat.zero_add]
  | @cons f m g d n t e hm h1 h2 i1 i2 =>
    intro b
    rw [am_drop am f m hm, show n + 1 + b = (n + b) + 1 by omega, scA, show n + b + m = m + (n + b) by omega, i1 (n + b), i2 b]
theorem Exs.sc0 {am : List Nat} {n f t d : Nat} (h : Exs am n f t d) : scA (am.drop f) f n = some t := by
  have := h.sc 0; rw [scA_zero] at this; exact this
theorem exs_of_sc (am : List Nat) : ∀ (j n f t : Nat), am.length - f ≤ j → scA (am.drop f) f n = some t → ∃ d, Exs am n f t d := by
  intro j
  induction j with
  | zero =>
    intro n f t hj h
    rw [List.drop_of_length_le (by omega)] at h
    cases n with
    | zero => rw [scA_zero] at h; injection h with h; subst h; exact ⟨0, .nil f⟩
    | succ n => cases h
  | succ j ih =>
    intro n f t hj h
    cases n with
    | zero => rw [scA_zero] at h; injection h with h; subst h; exact ⟨0, .nil f⟩
    | succ n =>
      cases hm : am[f]? with
      | none =>
        have : am.length ≤ f := by simpa using hm
        rw [List.drop_of_length_le (by omega)] at h; cases h
      | some m =>
        rw [am_drop am f m hm, scA, Nat.add_comm n m] at h
        obtain ⟨d, hd⟩ := ih (m + n) (f + 1) t (by omega) h
        obtain ⟨g, d1, d2, h1, h2, rfl⟩ := hd.split
        exact ⟨_, .cons hm h1 h2⟩
theorem sc_le (l : List Nat) : ∀ k n t, scA l k n = some t → k ≤ t ∧ t ≤ k + l.length := by
  induction l with
  | nil => intro k n t h; cases n with
    | zero => rw [scA_zero] at h; injection h with h; subst h; simp
    | succ n => cases h
  | cons m l ih => intro k n t h; cases n with
    | zero => rw [scA_zero] at h; injection h with h; subst h; simp
    | succ n => rw [scA] at h; have := ih _ _ _ h; rw [List.length_cons]; omega

/-- Where the expression at a place ends. -/
def endP (am : List Nat) (f : Nat) : Nat := (scA (am.drop f) f 1).getD 0
theorem Exs.endP {am : List Nat} {f t d : Nat} (h : Exs am 1 f t d) : endP am f = t := by unfold Proofs.YtkeinhhpikfjcaaDoor.endP; rw [h.sc0]; rfl
/-- Where n expressions side by side begin. -/
def kidsL (am : List Nat) : Nat → Nat → List Nat
  | _, 0 => []
  | f, n + 1 => f :: kidsL am (endP am f) n
theorem kidsL_length (am : List Nat) : ∀ n f, (kidsL am f n).length = n := by
  intro n; induction n with
  | zero => intro f; rfl
  | succ n ih => intro f; rw [kidsL, List.length_cons, ih]
theorem kidsL_snoc {am : List Nat} {n f t d : Nat} (h : Exs am n f t d) : kidsL am f (n + 1) = kidsL am f n ++ [t] := by
  induction n generalizing f t d with
  | zero => cases h; rfl
  | succ n ih =>
    rw [Nat.add_comm n 1] at h
    obtain ⟨g, d1, d2, h1, h2, rfl⟩ := h.split
    rw [kidsL, h1.endP, ih h2, kidsL, h1.endP]; rfl
/-- The part with the number i: it begins at kidsL[i], and the next one (or the end) is where it ends. -/
theorem kid_at {am : List Nat} {n f t d : Nat} (h : Exs am n f t d) (i : Nat) (hi : i < n) :
    ∃ k g d0 d1 d2, (kidsL am f n)[i]? = some k ∧ Exs am i f k d0 ∧ Exs am 1 k g d1 ∧ Exs am (i + 1) f g (max d0 d1) ∧ Exs am (n - (i + 1)) g t d2 ∧ d = max (max d0 d1) d2 := by
  induction i generalizing n f t d with
  | zero =>
    obtain ⟨n, rfl⟩ : ∃ k, n = 1 + k := ⟨n - 1, by omega⟩
    obtain ⟨g, d1, d2, h1, h2, rfl⟩ := h.split
    refine ⟨f, g, 0, d1, d2, ?_, .nil f, h1, by rw [Nat.zero_max]; exact h1, by rw [show 1 + n - (0 + 1) = n by omega]; exact h2, by simp⟩
    rw [Nat.add_comm, kidsL]; rfl
  | succ i ih =>
    obtain ⟨n, rfl⟩ : ∃ k, n = 1 + k := ⟨n - 1, by omega⟩
    obtain ⟨g, d1, d2, h1, h2, rfl⟩ := h.split
    obtain ⟨k, g', e0, e1, e2, j1, j2, j3, j4, j5, rfl⟩ := ih h2 (by omega)
    refine ⟨k, g', max d1 e0, e1, e2, ?_, ?_, j3, ?_, ?_, by omega⟩
    · rw [Nat.add_comm, kidsL, List.getElem?_cons_succ, h1.endP]; exact j1
    · rw [Nat.add_comm i 1]; exact h1.app j2
    · rw [show i + 1 + 1 = 1 + (i + 1) by omega, show max (max d1 e0) e1 = max d1 (max e0 e1) by omega]; exact h1.app j4
    · rw [show 1 + n - (i + 1 + 1) = n - (i + 1) by omega]; exact j5
theorem exs_none_of {am : List Nat} {m f : Nat} (hm : am[f]? = some m) (h : ¬ ∃ t d, Exs am m (f + 1) t d) : ¬ ∃ t d, Exs am 1 f t d := by
  rintro ⟨t, d, k⟩
  obtain ⟨m', e, hm', k', -⟩ := k.inv
  rw [hm] at hm'; injection hm' with hm'; subst hm'
  exact h ⟨t, e, k'⟩
theorem exs_stop {am : List Nat} {i n f g d : Nat} (h : Exs am i f g d) (hi : i < n) (hno : ¬ ∃ t e, Exs am 1 g t e) : ¬ ∃ t d, Exs am n f t d := by
  rintro ⟨t, d', k⟩
  rw [show n = i + (1 + (n - i - 1)) by omega] at k
  obtain ⟨g', d1, d2, k1, k2, -⟩ := k.split
  obtain ⟨rfl, -⟩ := h.uniq k1
  obtain ⟨g2, e1, e2, l1, l2, -⟩ := k2.split
  exact hno ⟨g2, e1, l1⟩
/-- Every place inside begins an expression. -/
theorem Exs.inside {am : List Nat} {n f t d : Nat} (h : Exs am n f t d) : ∀ k, f ≤ k → k < t → ∃ g e, Exs am 1 k g e ∧ g ≤ t ∧ e ≤ d := by
  induction h with
  | nil f => intro k h1 h2; omega
  | @cons f m g d n t e hm h1 h2 i1 i2 =>
    intro k hk1 hk2
    have l1 := h1.le; have l2 := h2.le
    by_cases hf : k = f
    · subst hf; exact ⟨g, d + 1, .one hm h1, by omega, by omega⟩
    · by_cases hg : k < g
      · obtain ⟨g', e', j1, j2, j3⟩ := i1 k (by omega) hg
        exact ⟨g', e', j1, by omega, by omega⟩
      · obtain ⟨g', e', j1, j2, j3⟩ := i2 k (by omega) hk2
        exact ⟨g', e', j1, j2, by omega⟩
/-- A part of the cells alone. -/
theorem Exs.shift {am bm : List Nat} {n f t d : Nat} (h : Exs am n f t d) : ∀ (a : Nat), a ≤ f → (∀ i, f ≤ i → i < t → bm[i - a]? = am[i]?) → Exs bm n (f - a) (t - a) d := by
  induction h with
  | nil f => intro a ha hb; exact .nil _
  | @cons f m g d n t e hm h1 h2 i1 i2 =>
    intro a ha hb
    have l1 := h1.le; have l2 := h2.le
    refine .cons (m := m) (g := g - a) (by rw [hb f (by omega) (by omega)]; exact hm) ?_ ?_
    · have := i1 a (by omega) (fun i x1 x2 => hb i (by omega) (by omega))
      rwa [show f + 1 - a = f - a + 1 by omega] at this
    · exact i2 a (by omega) (fun i x1 x2 => hb i (by omega) x2)
theorem Exs.up {am bm : List Nat} {n f t d : Nat} (h : Exs am n f t d) : ∀ (a : Nat), (∀ i, f ≤ i → i < t → bm[i + a]? = am[i]?) → Exs bm n (f + a) (t + a) d := by
  induction h with
  | nil f => intro a hb; exact .nil _
  | @cons f m g d n t e hm h1 h2 i1 i2 =>
    intro a hb
    have l1 := h1.le; have l2 := h2.le
    refine .cons (m := m) (g := g + a) (by rw [hb f (by omega) (by omega)]; exact hm) ?_ ?_
    · have := i1 a (fun i x1 x2 => hb i (by omega) (by omega))
      rwa [show f + 1 + a = f + a + 1 by omega] at this
    · exact i2 a (fun i x1 x2 => hb i (by omega) x2)

end Go.Proofs.YtkeinhhpikfjcaaDoor
