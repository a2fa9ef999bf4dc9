/-
  How an argument that is a slice of slices of cells is opened.
-/
import Derived.Test.YtipmkbahlfkfoaaGreatDoorBaseL
import Derived.Test.YtipmkbahlfkfoaaGreatDoorBaseE
namespace Go.Proofs.YtipmkbahlfkfoaaGreatDoor
open Go.RowKit Go.ChangeShapes Go.WideShapes Go.Deep
set_option linter.unusedVariables false

/-- A slice of slices of cells that came in. -/
def ArgLs (w : World) (a : Option Addr) (len cap : Nat) (ls : List (List Cl)) : Prop := ls.length = len ∧ RowLs w (.slice a len cap) ls ∧ ∀ l ∈ ls, SizedC l
theorem ArgLs.of_nil (w : World) : ArgLs w none 0 0 [] := ⟨rfl, ⟨none, 0, rfl, Nat.le_refl _, by unfold maxLen; omega, .inl rfl⟩, fun _ h => by cases h⟩
theorem ArgLs.of {w : World} {x : Addr} {len cap : Nat} (f : Nat → List Cl) (hl : len ≤ cap) (hm : cap ≤ maxLen)
    (hc : ∀ i, i < len → ∃ u, w.cell? (x.add i) = some u ∧ RowC w u (f i) ∧ SizedC (f i)) :
    ArgLs w (some x) len cap ((List.range len).map f) := by
  have hlen : ((List.range len).map f).length = len := by simp
  refine ⟨hlen, ⟨some x, cap, by rw [hlen], by rw [hlen]; exact hl, hm, ?_⟩, ?_⟩
  · by_cases h0 : len = 0
    · left; subst h0; rfl
    · right
      obtain ⟨b, off, spot⟩ := x
      obtain ⟨u0, g0, -, -⟩ := hc 0 (by omega)
      have hc0 := cell_low g0
      have hsp : spot = none := by
        have := hc0.1
        unfold Addr.add at this; split at this <;> simp_all
      subst hsp
      refine ⟨b, off, rfl, by have := hc0.2; rw [addr_add] at this; exact this, fun k hk => ?_⟩
      rw [hlen] at hk
      obtain ⟨u, c1, c2, -⟩ := hc k hk
      rw [addr_add] at c1
      simp only [List.getElem_map, List.getElem_range]
      exact ⟨u, c1, c2⟩
  · intro c hcm
    simp only [List.mem_map, List.mem_range] at hcm
    obtain ⟨i, hi, rfl⟩ := hcm
    obtain ⟨u, -, -, h⟩ := hc i hi
    exact h

set_option maxRecDepth 100000 in
theorem open_cellss {H : Type} {enc : TypeId × Value → H} {w : World} {base : Nat} {spare : Nat → Bool} {held : Bool} {fuel : Nat} {cs : List Value} {x : DataW H × List MemPlace}
    (h : DataW.trod enc Tryz.prog w base spare held fuel 22 cs = some x) :
    cs = [.slice none 0 0] ∨ ∃ (a : Addr) (len cap : Nat) (f : Nat → List Cl), cs = [.slice (some a) len cap] ∧ len ≤ cap ∧ cap ≤ maxLen ∧
      ∀ i, i < len → ∃ u, w.cell? (a.add i) = some u ∧ RowC w u (f i) ∧ SizedC (f i) := by
  have hC : Tryz.prog.cellsOf 56 = 1 := by kernel_rfl
  rcases open_slice Tryz.underlying22 h with ⟨h0, -⟩ | ⟨a, len, cap, m, n, D, Pl, hcs, hb, hl, hm, hmm, hx, hi⟩
  · exact .inl h0
  · refine .inr ⟨a, len, cap, ?_⟩
    have key : ∀ i, ∃ l : List Cl, i < len → ∃ u, w.cell? (a.add i) = some u ∧ RowC w u l ∧ SizedC l := by
      intro i
      by_cases hil : i < len
      · have him : i < m := by rw [hmm]; split <;> omega
        obtain ⟨cs', hc, ht'⟩ := hi i him
        rw [hC, Nat.mul_one] at hc
        obtain ⟨_, hlen, hat⟩ := World.cells?_some hc
        have h0 := hat 0 (by omega)
        rcases open_cells ht' with rfl | ⟨a', len', cap', f, rfl, hl', hm', hc'⟩
        · refine ⟨[], fun _ => ⟨.slice none 0 0, ?_, (ArgRow.of_nil w).2.1, (ArgRow.of_nil w).2.2⟩⟩
          simpa [Go.Deep.add_add] using h0
        · have hA := ArgRow.of f hl' hm' hc'
          refine ⟨_, fun _ => ⟨.slice (some a') len' cap', ?_, hA.2.1, hA.2.2⟩⟩
          simpa [Go.Deep.add_add] using h0
      · exact ⟨[], fun h => absurd h hil⟩
    refine ⟨fun i => (key i).choose, hcs, hl, hm, fun i hil => (key i).choose_spec hil⟩

end Go.Proofs.YtipmkbahlfkfoaaGreatDoor
