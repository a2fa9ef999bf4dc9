/-
  A slice of bindings that is read (RowB).
-/
import Derived.Test.YtpcaciogglllbaaGreatDoorEvalPlain
import Derived.Test.YtpcaciogglllbaaGreatDoorBaseE
namespace Go.Proofs.YtpcaciogglllbaaGreatDoor
open Go.RowKit
set_option linter.unusedVariables false

/-- A slice that reads as bindings: names, and slices that read as cells. -/
def RowB (w : World) (v : Value) (env : List Bd) : Prop :=
  ∃ ao cap, v = .slice ao env.length cap ∧ env.length ≤ cap ∧ cap ≤ maxLen ∧ (env = [] ∨ ∃ b o, ao = some ⟨b, o, none⟩ ∧ b < w.heap.size ∧ ∀ (k : Nat) (h : k < env.length), ∃ u, w.cell? ⟨b, o + k * 2, none⟩ = some (.string env[k].1) ∧ w.cell? ⟨b, o + k * 2 + 1, none⟩ = some u ∧ RowC w u env[k].2)
theorem RowB.mono {w w' : World} {v : Value} {env : List Bd} (h : RowB w v env) (hb : Below w.heap.size w w') : RowB w' v env := by
  obtain ⟨ao, cap, hv, h1, h2, h3⟩ := h
  refine ⟨ao, cap, hv, h1, h2, ?_⟩
  rcases h3 with h3 | ⟨b, o, ha, hlt, hj⟩
  · exact .inl h3
  · refine .inr ⟨b, o, ha, Nat.lt_of_lt_of_le hlt hb.size, fun k hk => ?_⟩
    obtain ⟨u, c0, c1, hr⟩ := hj k hk
    exact ⟨u, (hb.cell (p := ⟨b, _, none⟩) hlt).trans c0, (hb.cell (p := ⟨b, _, none⟩) hlt).trans c1, hr.mono hb⟩
theorem RowB.drewN {w : World} {v : Value} {env : List Bd} (h : RowB w v env) (n : Nat) : RowB (w.drewN n) v env := h.mono ⟨rfl, rfl, rfl, Nat.le_refl _, fun _ _ => rfl⟩
/-- Names and values that are not too long. -/
def ShortB (env : List Bd) : Prop := ∀ b ∈ env, b.1.size ≤ 1048576 ∧ ShortC b.2 ∧ b.2.length ≤ 1048576
theorem diffB_take {env : List Bd} (h : diffB env) (k : Nat) : diffB (env.take k) := by
  induction env generalizing k with
  | nil => simpa using h
  | cons b bs ih =>
    cases k with
    | zero => trivial
    | succ k => exact ⟨fun x hx => h.1 x (List.mem_of_mem_take hx), ih h.2 k⟩
theorem diffB_not {env : List Bd} {j k : Nat} (hk : k < env.length) (hj : j < k) (he : (env[j]'(by omega)).1 = env[k].1) : ¬ diffB env := by
  intro h
  have h1 := diffB_take h (k + 1)
  rw [List.take_succ_eq_append_getElem hk, diffB_app] at h1
  refine h1.2 (env[j]'(by omega)) ?_ he
  rw [List.mem_take_iff_getElem]
  exact ⟨j, by omega, rfl⟩
theorem bindOK_bad {env : List Bd} {b : Bd} (hb : b ∈ env) (h : nmL b.1 = false ∨ okV b.2 = false) : bindOK env = false := by
  rw [Bool.eq_false_iff]; intro hh
  rw [bindOK_iff] at hh
  obtain ⟨h1, h2⟩ := hh.2.1 b hb
  rcases h with h | h
  · rw [h] at h1; cases h1
  · rw [h] at h2; cases h2
theorem bindOK_same {env : List Bd} {j k : Nat} (hk : k < env.length) (hj : j < k) (he : (env[j]'(by omega)).1 = env[k].1) : bindOK env = false := by
  rw [Bool.eq_false_iff]; intro hh
  rw [bindOK_iff] at hh
  exact diffB_not hk hj he hh.2.2
theorem bindOK_size {env : List Bd} (h1 : ∀ b ∈ env, nmL b.1 = true ∧ okV b.2 = true) (h2 : diffB env) : bindOK env = decide (env.length ≤ 30) := by
  by_cases h : env.length ≤ 30
  · rw [decide_eq_true h, bindOK_iff]; exact ⟨h, h1, h2⟩
  · rw [decide_eq_false h, Bool.eq_false_iff]; intro hh; exact h ((bindOK_iff _).mp hh).1

end Go.Proofs.YtpcaciogglllbaaGreatDoor
