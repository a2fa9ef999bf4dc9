/-
  Where the parts of a list lie.
-/
import Derived.Test.YtbnchmlapimmdaaGreatDoorValPlain
namespace Go.Proofs.YtbnchmlapimmdaaGreatDoor
set_option linter.unusedVariables false

theorem cutL_at {l : List Cl} {n f t d : Nat} (h : Exs (amL l) n f t d) : ∀ k, k < n → ∃ g g' e, (kidsL (amL l) f n)[k]? = some g ∧ Exs (amL l) 1 g g' e ∧ g' ≤ t ∧ f ≤ g ∧ (cutL l f n)[k]? = some ((l.drop g).take (g' - g)) := by
  generalize ha : amL l = am at h
  induction h with
  | nil f => intro k hk; omega
  | @cons f m g d n t e hm h1 h2 i1 i2 =>
    intro k hk
    have hone := Exs.one hm h1
    have hend := hone.endP
    have hle1 := hone.le
    have hle2 := h2.le
    cases k with
    | zero =>
      refine ⟨f, g, _, ?_, hone, by omega, Nat.le_refl _, ?_⟩
      · simp [kidsL]
      · subst ha; simp [cutL, hend]
    | succ k =>
      obtain ⟨p, q, e', a1, a2, a3, a4, a5⟩ := i2 k (by omega)
      refine ⟨p, q, e', ?_, a2, a3, by omega, ?_⟩
      · simp only [kidsL, hend, List.getElem?_cons_succ]; exact a1
      · subst ha; simp only [cutL, hend, List.getElem?_cons_succ]; exact a5
theorem cutL_length (l : List Cl) : ∀ n f, (cutL l f n).length = n := by
  intro n
  induction n with
  | zero => intro f; rfl
  | succ n ih => intro f; simp [cutL, ih]

end Go.Proofs.YtbnchmlapimmdaaGreatDoor
