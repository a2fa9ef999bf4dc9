/-
  Slices of slices of cells: what they hold.
-/
import Derived.Test.YtbnchmlapimmdaaGreatDoorCellRow
import Derived.Test.YtbnchmlapimmdaaGreatDoorFlat
namespace Go.Proofs.YtbnchmlapimmdaaGreatDoor
open Go.RowKit
set_option linter.unusedVariables false

/-- A slice that reads as lists of cells. -/
def RowLs (w : World) (v : Value) (ls : List (List Cl)) : Prop :=
  ∃ ao cap, v = .slice ao ls.length cap ∧ ls.length ≤ cap ∧ cap ≤ maxLen ∧ (ls = [] ∨ ∃ b o, ao = some ⟨b, o, none⟩ ∧ b < w.heap.size ∧ ∀ (k : Nat) (h : k < ls.length), ∃ u, w.cell? ⟨b, o + k, none⟩ = some u ∧ RowC w u ls[k])
theorem RowLs.mono {w w' : World} {v : Value} {ls : List (List Cl)} (h : RowLs w v ls) (hb : Below w.heap.size w w') : RowLs w' v ls := by
  obtain ⟨ao, cap, hv, h1, h2, h3⟩ := h
  refine ⟨ao, cap, hv, h1, h2, ?_⟩
  rcases h3 with h3 | ⟨b, o, ha, hlt, hj⟩
  · exact .inl h3
  · refine .inr ⟨b, o, ha, Nat.lt_of_lt_of_le hlt hb.size, fun k hk => ?_⟩
    obtain ⟨u, hu, hr⟩ := hj k hk
    exact ⟨u, (hb.cell (p := ⟨b, o + k, none⟩) hlt).trans hu, hr.mono hb⟩
/-- Values that read as lists of cells, one by one. -/
def RowsC (w : World) : List Value → List (List Cl) → Prop
  | [], [] => True
  | u :: us, l :: ls => RowC w u l ∧ RowsC w us ls
  | _, _ => False
theorem RowsC.mono {w w' : World} (hb : Below w.heap.size w w') : ∀ {us : List Value} {ls : List (List Cl)}, RowsC w us ls → RowsC w' us ls := by
  intro us
  induction us with
  | nil => intro ls h; cases ls with
    | nil => trivial
    | cons l ls => exact h
  | cons u us ih => intro ls h; cases ls with
    | nil => exact h
    | cons l ls => exact ⟨h.1.mono hb, ih h.2⟩
theorem RowsC.len {w : World} : ∀ {us : List Value} {ls : List (List Cl)}, RowsC w us ls → us.length = ls.length := by
  intro us
  induction us with
  | nil => intro ls h; cases ls with
    | nil => rfl
    | cons l ls => exact absurd h id
  | cons u us ih => intro ls h; cases ls with
    | nil => exact absurd h id
    | cons l ls => rw [List.length_cons, List.length_cons, ih h.2]
theorem RowsC.at {w : World} : ∀ {us : List Value} {ls : List (List Cl)}, RowsC w us ls → ∀ (k : Nat) (h : k < us.length) (h' : k < ls.length), RowC w us[k] ls[k] := by
  intro us
  induction us with
  | nil => intro ls h k hk; simp at hk
  | cons u us ih => intro ls h k hk hk'; cases ls with
    | nil => exact absurd h id
    | cons l ls => cases k with
      | zero => exact h.1
      | succ k => exact ih h.2 k (by simpa using hk) (by simpa using hk')
theorem RowsC.snoc {w : World} {u : Value} {l : List Cl} (hr : RowC w u l) : ∀ {us : List Value} {ls : List (List Cl)}, RowsC w us ls → RowsC w (us ++ [u]) (ls ++ [l]) := by
  intro us
  induction us with
  | nil => intro ls h; cases ls with
    | nil => exact ⟨hr, trivial⟩
    | cons l ls => exact absurd h id
  | cons u' us ih => intro ls h; cases ls with
    | nil => exact absurd h id
    | cons l' ls => exact ⟨h.1, ih h.2⟩
theorem RowLs.of_own {w : World} {base n : Nat} {T : TypeId} {v : Value} {us : List Value} {ls : List (List Cl)} (ho : w.ownsRow base T 1 v n us) (hr : RowsC w us ls) : RowLs w v ls ∧ n = ls.length := by
  have hl := hr.len
  have hn : n = us.length := by have := ho.1; omega
  subst hn
  refine ⟨?_, hl⟩
  rcases ho.2 with ⟨rfl, h0⟩ | ⟨g, cap, cur, rfl, hg, hh, h1, h2, _⟩
  · have : ls = [] := List.length_eq_zero_iff.mp (by omega)
    subst this
    exact ⟨none, 0, rfl, by simp, by unfold maxLen; omega, .inl rfl⟩
  · refine ⟨_, cap, by rw [hl], by omega, h2, .inr ⟨g, 0, rfl, (ho.lt g rfl).2, fun k hk => ⟨us[k]'(by omega), ?_, hr.at k (by omega) hk⟩⟩⟩
    rw [Nat.zero_add, ho.cellAt k (by omega), List.getElem?_eq_getElem (by omega)]

end Go.Proofs.YtbnchmlapimmdaaGreatDoor
