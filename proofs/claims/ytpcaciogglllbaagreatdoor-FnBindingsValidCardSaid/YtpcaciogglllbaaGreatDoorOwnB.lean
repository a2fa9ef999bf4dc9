/-
  Bindings of one's own: a row of names and slices, each value in a block of its own.
-/
import Derived.Test.YtpcaciogglllbaaGreatDoorBindRow
import Derived.Test.YtpcaciogglllbaaGreatDoorBaseE
namespace Go.Proofs.YtpcaciogglllbaaGreatDoor
open Go.RowKit
set_option linter.unusedVariables false

/-- The cells of bindings. -/
def bindF : List Bd → List Value → List Value
  | b :: env, u :: us => .string b.1 :: u :: bindF env us
  | _, _ => []
theorem bindF_length : ∀ (env : List Bd) (us : List Value), env.length = us.length → (bindF env us).length = env.length * 2 := by
  intro env
  induction env with
  | nil => intro us h; rfl
  | cons b env ih =>
    intro us h
    cases us with
    | nil => simp at h
    | cons u us => simp only [bindF, List.length_cons]; rw [ih us (by simpa using h)]; omega
theorem bindF_at : ∀ (env : List Bd) (us : List Value), env.length = us.length → ∀ (k : Nat) (h : k < env.length) (h' : k < us.length), (bindF env us)[k * 2]? = some (.string env[k].1) ∧ (bindF env us)[k * 2 + 1]? = some us[k] := by
  intro env
  induction env with
  | nil => intro us _ k h; simp at h
  | cons b env ih =>
    intro us hl k h h'
    cases us with
    | nil => simp at h'
    | cons u us =>
      cases k with
      | zero => exact ⟨rfl, rfl⟩
      | succ k =>
        simp only [bindF, show (k + 1) * 2 = k * 2 + 1 + 1 by omega, List.getElem?_cons_succ, List.getElem_cons_succ]
        exact ih us (by simpa using hl) k (by simpa using h) (by simpa using h')
theorem bindF_append : ∀ (env : List Bd) (us : List Value) (env' : List Bd) (us' : List Value), env.length = us.length → bindF (env ++ env') (us ++ us') = bindF env us ++ bindF env' us' := by
  intro env
  induction env with
  | nil => intro us env' us' h; cases us with
    | nil => rfl
    | cons u us => simp at h
  | cons b env ih =>
    intro us env' us' h
    cases us with
    | nil => simp at h
    | cons u us => simp only [List.cons_append, bindF]; rw [ih us env' us' (by simpa using h)]
/-- Bindings of one's own. -/
structure OwnB (w : World) (base : Nat) (v : Value) (us : List Value) (env : List Bd) : Prop where
  row : w.ownsRow base 46 2 v env.length (bindF env us)
  len : us.length = env.length
  each : ∀ (k : Nat) (h : k < us.length) (h' : k < env.length), w.ownsRow base 44 3 us[k] env[k].2.length (flatC env[k].2)
  far : ∀ (k : Nat) (h : k < us.length) (b : Nat), us[k].ownBlock = some b → v.ownBlock ≠ some b
  apart : ∀ (i j : Nat) (hi : i < us.length) (hj : j < us.length) (b : Nat), us[i].ownBlock = some b → us[j].ownBlock = some b → i = j
theorem OwnB.below {w w' : World} {base : Nat} {v : Value} {us : List Value} {env : List Bd} (h : OwnB w base v us env) (hb : Below w.heap.size w w') : OwnB w' base v us env :=
  ⟨own_belowS h.row hb, h.len, fun k h1 h2 => own_belowS (h.each k h1 h2) hb, h.far, h.apart⟩
theorem OwnB.keep {w w' : World} {base : Nat} {v : Value} {us : List Value} {env : List Bd} (h : OwnB w base v us env) (hw : ∀ b, base ≤ b → b < w.heap.size → w'.heap[b]? = w.heap[b]?) : OwnB w' base v us env :=
  ⟨own_keep h.row (fun g hg => hw g (h.row.lt g hg).1 (h.row.lt g hg).2), h.len, fun k h1 h2 => own_keep (h.each k h1 h2) (fun g hg => hw g ((h.each k h1 h2).lt g hg).1 ((h.each k h1 h2).lt g hg).2), h.far, h.apart⟩
theorem OwnB.reads {w : World} {base : Nat} {v : Value} {us : List Value} {env : List Bd} (h : OwnB w base v us env) : RowB w v env := by
  obtain ⟨ao, cap, rfl⟩ := own_shape h.row
  have hl := h.len
  rcases h.row.2 with ⟨h1, h2⟩ | ⟨g, cp, cur, h1, hg, hh, hc1, hc2, _⟩
  · injection h1 with e1 e2 e3
    subst e1; subst e3
    exact ⟨none, 0, rfl, by omega, by unfold maxLen; omega, .inl (List.length_eq_zero_iff.mp h2)⟩
  · injection h1 with e1 e2 e3
    subst e1; subst e3
    refine ⟨_, cap, rfl, hc1, hc2, .inr ⟨g, 0, rfl, (h.row.lt g rfl).2, fun k hk => ?_⟩⟩
    obtain ⟨f0, f1⟩ := bindF_at env us hl.symm k hk (by omega)
    refine ⟨us[k]'(by omega), ?_, ?_, (RowC.of_own (h.each k (by omega) hk)).1⟩
    · rw [Nat.zero_add, h.row.cellAt _ (by omega)]; exact f0
    · rw [Nat.zero_add, h.row.cellAt _ (by omega)]; exact f1
theorem OwnB.lower {w : World} {base base' : Nat} {v : Value} {us : List Value} {env : List Bd} (h : OwnB w base v us env) (hb : base' ≤ base) : OwnB w base' v us env :=
  ⟨own_base h.row (fun g hg => Nat.le_trans hb (h.row.lt g hg).1), h.len, fun k h1 h2 => own_base (h.each k h1 h2) (fun g hg => Nat.le_trans hb ((h.each k h1 h2).lt g hg).1), h.far, h.apart⟩
theorem bindF_name (env : List Bd) : ∀ (us : List Value) (k : Nat) (h : k < env.length) (hl : env.length = us.length) (s : ByteArray), (bindF env us).set (k * 2) (.string s) = bindF (env.set k (s, env[k].2)) us := by
  induction env with
  | nil => intro us k h; simp at h
  | cons b env ih =>
    intro us k h hl s
    cases us with
    | nil => simp at hl
    | cons u us =>
      cases k with
      | zero => rfl
      | succ k =>
        simp only [bindF, show (k + 1) * 2 = k * 2 + 1 + 1 by omega, List.set_cons_succ, List.getElem_cons_succ]
        rw [ih us k (by simpa using h) (by simpa using hl) s]
/-- A name written. -/
theorem OwnB.name {w : World} {base g c : Nat} {us : List Value} {env : List Bd} (h : OwnB w base (.slice (some ⟨g, 0, none⟩) env.length c) us env) (k : Nat) (hk : k < env.length) (s : ByteArray) :
    OwnB (w.setCell ⟨g, k * 2, none⟩ (.string s)) base (.slice (some ⟨g, 0, none⟩) env.length c) us (env.set k (s, env[k].2)) := by
  have hl := h.len
  have hset : ∀ b, b ≠ g → (w.setCell ⟨g, k * 2, none⟩ (.string s)).heap[b]? = w.heap[b]? := fun b hbn => Below.heap_setCell _ _ _ _ hbn
  refine ⟨?_, by rw [List.length_set]; exact hl, ?_, h.far, h.apart⟩
  · rw [List.length_set, ← bindF_name env us k hk hl.symm s]
    exact (h.row.stored (k * 2) (.string s)).1
  · intro j hj hj'
    rw [List.length_set] at hj'
    have he : (env.set k (s, env[k].2))[j]'(by rw [List.length_set]; exact hj') = if k = j then (s, env[k].2) else env[j] := by rw [List.getElem_set]
    have h2 : ((env.set k (s, env[k].2))[j]'(by rw [List.length_set]; exact hj')).2 = env[j].2 := by
      rw [he]; split
      · rename_i e; subst e; rfl
      · rfl
    rw [h2]
    exact own_keep (h.each j hj hj') (fun b hb => hset b (fun e => h.far j hj b hb (by rw [e]; rfl)))
/-- A value marked. -/
theorem OwnB.mark {w w' : World} {base : Nat} {v : Value} {us : List Value} {env : List Bd} (h : OwnB w base v us env) (k : Nat) (hk : k < us.length) (hk' : k < env.length) (l : List Cl) (hl : l.length = env[k].2.length)
    (hg : w.grownBy w' us[k].ownBlock) (ho : w'.ownsRow base 44 3 us[k] l.length (flatC l)) : OwnB w' base v us (env.set k (env[k].1, l)) := by
  have hb2 : bindF (env.set k (env[k].1, l)) us = bindF env us := by
    have : ∀ (env : List Bd) (us : List Value) (k : Nat) (h : k < env.length), bindF (env.set k (env[k].1, l)) us = bindF env us := by
      intro env
      induction env with
      | nil => intro us k h; simp at h
      | cons b env ih =>
        intro us k h
        cases us with
        | nil => cases k <;> rfl
        | cons u us =>
          cases k with
          | zero => rfl
          | succ k => simp only [List.set_cons_succ, List.getElem_cons_succ, bindF]; rw [ih us k (by simpa using h)]
    exact this env us k hk'
  refine ⟨?_, by rw [List.length_set]; exact h.len, ?_, h.far, h.apart⟩
  · rw [List.length_set, hb2]
    exact own_keep h.row (fun g hgv => hg.block g (h.row.lt g hgv).2 (fun he => h.far k hk g he.symm hgv))
  · intro j hj hj'
    rw [List.length_set] at hj'
    by_cases hjk : k = j
    · subst hjk
      rw [List.getElem_set_self]; exact ho
    · rw [List.getElem_set_ne hjk]
      exact own_keep (h.each j hj hj') (fun g hgj => hg.block g ((h.each j hj hj').lt g hgj).2 (fun he => hjk (h.apart k j hk hj g he.symm hgj)))
/-- New bindings. -/
def NewB (env : List Bd) (w : World) (e : Ending) (w' : World) : Prop :=
  ∃ v us, e = .returned v ∧ OwnB w' w.heap.size v us env ∧ Below w.heap.size w w'

end Go.Proofs.YtpcaciogglllbaaGreatDoor
