/-
  Numbers as cells: slices that read as numbers, new rows of numbers.
-/
import Derived.Test.YtbddokfcohnndabDoorRows
import Derived.WalkKit
import Derived.WalkSpells
import Derived.Lib.Hide
import Derived.Below
import Derived.Laws.OwnMore
import Derived.OwnWalk
import Derived.IntWalk
import Derived.Deep.AppendLies
import Derived.Laws.AppendOwn
namespace Go.Proofs.YtbddokfcohnndabDoor
open Go.RowKit
set_option linter.unusedVariables false

/-- Numbers, as cells. -/
def ints (L : List Nat) : List Value := L.map fun (n : Nat) => Value.int .i64 (n : Int)
theorem ints_length (L : List Nat) : (ints L).length = L.length := by simp [ints]
theorem ints_snoc (L : List Nat) (n : Nat) : ints (L ++ [n]) = ints L ++ [.int .i64 (n : Int)] := by simp [ints]
theorem ints_at (L : List Nat) (k : Nat) (h : k < L.length) : (ints L)[k]? = some (.int .i64 (L[k] : Int)) := by simp [ints, h]
/-- A slice that reads as numbers. -/
def RowI (w : World) (v : Value) (L : List Nat) : Prop :=
  ∃ ao cap, v = .slice ao L.length cap ∧ L.length ≤ cap ∧ cap ≤ maxLen ∧ (L = [] ∨ ∃ b, ao = some ⟨b, 0, none⟩ ∧ b < w.heap.size ∧ ∀ k (h : k < L.length), w.cell? ⟨b, k, none⟩ = some (.int .i64 (L[k] : Int)))
theorem RowI.mono {w w' : World} {v : Value} {L : List Nat} (h : RowI w v L) (hb : Below w.heap.size w w') : RowI w' v L := by
  obtain ⟨ao, cap, hv, h1, h2, h3⟩ := h
  refine ⟨ao, cap, hv, h1, h2, ?_⟩
  rcases h3 with h3 | ⟨b, ha, hlt, hj⟩
  · exact .inl h3
  · exact .inr ⟨b, ha, Nat.lt_of_lt_of_le hlt hb.size, fun k hk => by rw [hb.cell (by exact hlt)]; exact hj k hk⟩
theorem RowI.of_own {w : World} {base m : Nat} {v : Value} {L : List Nat} (ho : w.ownsRow base 3 1 v m (ints L)) : RowI w v L ∧ m = L.length := by
  have hl : L.length = m := by have := ho.1; rw [ints_length] at this; omega
  subst hl
  refine ⟨?_, rfl⟩
  rcases ho.2 with ⟨rfl, h0⟩ | ⟨g, cap, cur, rfl, hg, hh, h1, h2, _⟩
  · exact ⟨none, 0, by rw [h0], by omega, by unfold maxLen; omega, .inl (List.length_eq_zero_iff.mp h0)⟩
  · refine ⟨_, cap, rfl, h1, h2, .inr ⟨g, rfl, (ho.lt g rfl).2, fun k hk => ?_⟩⟩
    rw [ho.cellAt k (by omega)]
    exact ints_at L k hk
/-- New numbers: a row of the call's own. -/
def NewInts (L : List Nat) (w : World) (e : Ending) (w' : World) : Prop :=
  ∃ v, e = .returned v ∧ w'.ownsRow w.heap.size 3 1 v L.length (ints L) ∧ Below w.heap.size w w'
theorem infoI : (Tryd.prog.info? 3).map (fun i => (i.zero, i.size, i.bytes)) = some (some (.int .i64 0), 1, 8) := by kernel_rfl

end Go.Proofs.YtbddokfcohnndabDoor
