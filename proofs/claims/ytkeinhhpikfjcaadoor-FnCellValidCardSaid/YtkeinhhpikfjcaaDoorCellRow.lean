/-
  A slice of cells that is read (RowC), and how an argument of cells is opened.
-/
import Derived.Test.YtkeinhhpikfjcaaDoorCellPlain
import Derived.Deep.Slices
import Derived.Deep.Strs
import Derived.Deep.Fields
import Derived.ChangeSame
import Derived.Below
import Derived.Deep.AppendLies
import Derived.OwnWalk
namespace Go.Proofs.YtkeinhhpikfjcaaDoor
open Go.RowKit Go.ChangeShapes Go.WideShapes Go.Deep
set_option linter.unusedVariables false

/-- The three cells of the element k. -/
def CellAt (w : World) (b o k : Nat) (c : Cl) : Prop :=
  w.cell? ⟨b, o + k * 3, none⟩ = some (.int .i64 c.1) ∧ w.cell? ⟨b, o + k * 3 + 1, none⟩ = some (.string c.2.1) ∧ w.cell? ⟨b, o + k * 3 + 2, none⟩ = some (.int .i64 c.2.2)
/-- A slice that reads as cells. -/
def RowC (w : World) (v : Value) (l : List Cl) : Prop :=
  ∃ ao cap, v = .slice ao l.length cap ∧ l.length ≤ cap ∧ cap ≤ maxLen ∧ (l = [] ∨ ∃ b o, ao = some ⟨b, o, none⟩ ∧ b < w.heap.size ∧ ∀ (k : Nat) (h : k < l.length), CellAt w b o k l[k])
theorem RowC.mono {w w' : World} {v : Value} {l : List Cl} (h : RowC w v l) (hb : Below w.heap.size w w') : RowC w' v l := by
  obtain ⟨ao, cap, hv, h1, h2, h3⟩ := h
  refine ⟨ao, cap, hv, h1, h2, ?_⟩
  rcases h3 with h3 | ⟨b, o, ha, hlt, hj⟩
  · exact .inl h3
  · refine .inr ⟨b, o, ha, Nat.lt_of_lt_of_le hlt hb.size, fun k hk => ?_⟩
    obtain ⟨c1, c2, c3⟩ := hj k hk
    exact ⟨by rw [hb.cell (by exact hlt)]; exact c1, by rw [hb.cell (by exact hlt)]; exact c2, by rw [hb.cell (by exact hlt)]; exact c3⟩
theorem RowC.drewN {w : World} {v : Value} {l : List Cl} (h : RowC w v l) (n : Nat) : RowC (w.drewN n) v l := h.mono ⟨rfl, rfl, rfl, Nat.le_refl _, fun _ _ => rfl⟩
theorem RowC.al {w : World} {v : Value} {l : List Cl} (h : RowC w v l) (o : Obj) : RowC (w.alloc o) v l := h.mono ((Below.refl _ _).alloc (Nat.le_refl _) _)
/-- Words that are not too long. -/
def ShortC (l : List Cl) : Prop := ∀ c ∈ l, c.2.1.size ≤ 1048576
def SizedC (l : List Cl) : Prop := ∀ c ∈ l, c.2.1.size ≤ maxLen
/-- A slice of cells that came in. -/
def ArgRow (w : World) (a : Option Addr) (len cap : Nat) (l : List Cl) : Prop := l.length = len ∧ RowC w (.slice a len cap) l ∧ SizedC l
theorem ArgRow.of_nil (w : World) : ArgRow w none 0 0 [] := ⟨rfl, ⟨none, 0, rfl, Nat.le_refl _, by unfold maxLen; omega, .inl rfl⟩, fun _ h => by cases h⟩
theorem addr_add (b off j : Nat) : (⟨b, off, none⟩ : Addr).add j = ⟨b, off + j, none⟩ := by
  unfold Addr.add; split <;> simp_all
theorem cell_low {w : World} {x : Addr} {v : Value} (h : w.cell? x = some v) : x.spot = none ∧ x.block < w.heap.size := by
  unfold World.cell? at h
  split at h
  · rename_i c e fr hh
    refine ⟨?_, ?_⟩
    · cases hs : x.spot with
      | none => rfl
      | some s => rw [hs] at h; simp at h
    · by_cases hk : x.block < w.heap.size
      · exact hk
      · rw [Array.getElem?_eq_none (by omega)] at hh; cases hh
  · cases h
theorem ArgRow.of {w : World} {x : Addr} {len cap : Nat} (f : Nat → Cl) (hl : len ≤ cap) (hm : cap ≤ maxLen)
    (hc : ∀ i, i < len → w.cell? (x.add (i * 3)) = some (.int .i64 (f i).1) ∧ w.cell? (x.add (i * 3 + 1)) = some (.string (f i).2.1) ∧ w.cell? (x.add (i * 3 + 2)) = some (.int .i64 (f i).2.2) ∧ (f i).2.1.size ≤ maxLen) :
    ArgRow w (some x) len cap ((List.range len).map f) := by
  have hlen : ((List.range len).map f).length = len := by simp
  refine ⟨hlen, ⟨some x, cap, by rw [hlen], by rw [hlen]; exact hl, hm, ?_⟩, ?_⟩
  · by_cases h0 : len = 0
    · left; subst h0; rfl
    · right
      obtain ⟨b, off, spot⟩ := x
      have hc0 := cell_low (hc 0 (by omega)).1
      have hsp : spot = none := by
        have := hc0.1
        unfold Addr.add at this; split at this <;> simp_all
      subst hsp
      refine ⟨b, off, rfl, by have := hc0.2; rw [addr_add] at this; exact this, fun k hk => ?_⟩
      rw [hlen] at hk
      obtain ⟨c1, c2, c3, -⟩ := hc k hk
      rw [addr_add] at c1 c2 c3
      simp only [List.getElem_map, List.getElem_range]
      exact ⟨c1, by rw [Nat.add_assoc]; exact c2, by rw [Nat.add_assoc]; exact c3⟩
  · intro c hcm
    simp only [List.mem_map, List.mem_range] at hcm
    obtain ⟨i, hi, rfl⟩ := hcm
    exact (hc i hi).2.2.2

end Go.Proofs.YtkeinhhpikfjcaaDoor
