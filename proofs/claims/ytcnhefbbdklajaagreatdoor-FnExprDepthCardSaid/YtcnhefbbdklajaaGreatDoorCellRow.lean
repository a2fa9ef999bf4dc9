/-
  A slice of cells that is read (RowC), and how an argument of cells is opened.
-/
import Derived.Test.YtcnhefbbdklajaaGreatDoorCellPlain
import Derived.Deep.Slices
import Derived.Deep.Strs
import Derived.Deep.Fields
import Derived.ChangeSame
import Derived.Below
import Derived.Deep.AppendLies
import Derived.OwnWalk
namespace Go.Proofs.YtcnhefbbdklajaaGreatDoor
open Go.RowKit Go.ChangeShapes Go.WideShapes Go.Deep
set_option linter.unusedVariables false

/-- The three cells of the element k. -/
def CellAt (w : World) (b o k : Nat) (c : Cl) : Prop :=
  w.cell? ⟨b, o + k * 3, none⟩ = some (.int .i64 c.1) ∧ w.cell? ⟨b, o + k * 3 + 1, none⟩ = some (.string c.2.1) ∧ w.cell? ⟨b, o + k * 3 + 2, none⟩ = some (.int .i64 c.2.2)
/-- A slice that reads as cells. -/
def RowC (w : World) (v : Value) (l : List Cl) : Prop :=
  ∃ ao cap, v = .slice ao l.length cap ∧ l.length ≤ cap ∧ cap ≤ maxLen ∧ (l = [] ∨ ∃ b o, ao = some ⟨b, o, none⟩ ∧ b < w.heap.size ∧ ∀ (k : Nat) (h : k < l.length), CellAt w b o k l[k])
theorem RowC.mono {w w' : World} {v : Value} {l : List Cl} (h : RowC w v l) (hb : Below w.heap.size w w') : RowC w' v l := by
  obtain ⟨ao, cap, hv, h1, h2, h3⟩ := h
  refine ⟨ao, cap, hv, h1, h2, ?_⟩
  rcases h3 with h3 | ⟨b, o, ha, hlt, hj⟩
  · exact .inl h3
  · refine .inr ⟨b, o, ha, Nat.lt_of_lt_of_le hlt hb.size, fun k hk => ?_⟩
    obtain ⟨c1, c2, c3⟩ := hj k hk
    exact ⟨by rw [hb.cell (by exact hlt)]; exact c1, by rw [hb.cell (by exact hlt)]; exact c2, by rw [hb.cell (by exact hlt)]; exact c3⟩
theorem RowC.drewN {w : World} {v : Value} {l : List Cl} (h : RowC w v l) (n : Nat) : RowC (w.drewN n) v l := h.mono ⟨rfl, rfl, rfl, Nat.le_refl _, fun _ _ => rfl⟩
theorem RowC.al {w : World} {v : Value} {l : List Cl} (h : RowC w v l) (o : Obj) : RowC (w.alloc o) v l := h.mono ((Below.refl _ _).alloc (Nat.le_refl _) _)
/-- Words that are not too long. -/
def ShortC (l : List Cl) : Prop := ∀ c ∈ l, c.2.1.size ≤ 1048576
def SizedC (l : List Cl) : Prop := ∀ c ∈ l, c.2.1.size ≤ maxLen
/-- A slice of cells that came in. -/
def ArgRow (w : World) (a : Option Addr) (len cap : Nat) (l : List Cl) : Prop := l.length = len ∧ RowC w (.slice a len cap) l ∧ SizedC l
theorem ArgRow.of_nil (w : World) : ArgRow w none 0 0 [] := ⟨rfl, ⟨none, 0, rfl, Nat.le_refl _, by unfold maxLen; omega, .inl rfl⟩, fun _ h => by cases h⟩
theorem addr_add (b off j : Nat) : (⟨b, off, none⟩ : Addr).add j = ⟨b, off + j, none⟩ := by
  unfold Addr.add; split <;> simp_all
theorem cell_low {w : World} {x : Addr} {v : Value} (h : w.cell? x = some v) : x.spot = none ∧ x.block < w.heap.size := by
  unfold World.cell? at h
  split at h
  · rename_i c e fr hh
    refine ⟨?_, ?_⟩
    · cases hs : x.spot with
      | none => rfl
      | some s => rw [hs] at h; simp at h
    · by_cases hk : x.block < w.heap.size
      · exact hk
      · rw [Array.getElem?_eq_none (by omega)] at hh; cases hh
  · cases h
theorem ArgRow.of {w : World} {x : Addr} {len cap : Nat} (f : Nat → Cl) (hl : len ≤ cap) (hm : cap ≤ maxLen)
    (hc : ∀ i, i < len → w.cell? (x.add (i * 3)) = some (.int .i64 (f i).1) ∧ w.cell? (x.add (i * 3 + 1)) = some (.string (f i).2.1) ∧ w.cell? (x.add (i * 3 + 2)) = some (.int .i64 (f i).2.2) ∧ (f i).2.1.size ≤ maxLen) :
    ArgRow w (some x) len cap ((List.range len).map f) := by
  have hlen : ((List.range len).map f).length = len := by simp
  refine ⟨hlen, ⟨some x, cap, by rw [hlen], by rw [hlen]; exact hl, hm, ?_⟩, ?_⟩
  · by_cases h0 : len = 0
    · left; subst h0; rfl
    · right
      obtain ⟨b, off, spot⟩ := x
      have hc0 := cell_low (hc 0 (by omega)).1
      have hsp : spot = none := by
        have := hc0.1
        unfold Addr.add at this; split at this <;> simp_all
      subst hsp
      refine ⟨b, off, rfl, by have := hc0.2; rw [addr_add] at this; exact this, fun k hk => ?_⟩
      rw [hlen] at hk
      obtain ⟨c1, c2, c3, -⟩ := hc k hk
      rw [addr_add] at c1 c2 c3
      simp only [List.getElem_map, List.getElem_range]
      exact ⟨c1, by rw [Nat.add_assoc]; exact c2, by rw [Nat.add_assoc]; exact c3⟩
  · intro c hcm
    simp only [List.mem_map, List.mem_range] at hcm
    obtain ⟨i, hi, rfl⟩ := hcm
    exact (hc i hi).2.2.2

set_option maxRecDepth 100000 in
theorem open_cells {H : Type} {enc : TypeId × Value → H} {w : World} {base : Nat} {spare : Nat → Bool} {held : Bool} {fuel : Nat} {cs : List Value} {x : DataW H × List MemPlace}
    (h : DataW.trod enc Tryz.prog w base spare held fuel 22 cs = some x) :
    cs = [.slice none 0 0] ∨ ∃ (a : Addr) (len cap : Nat) (f : Nat → Cl), cs = [.slice (some a) len cap] ∧ len ≤ cap ∧ cap ≤ maxLen ∧
      ∀ i, i < len → w.cell? (a.add (i * 3)) = some (.int .i64 (f i).1) ∧ w.cell? (a.add (i * 3 + 1)) = some (.string (f i).2.1) ∧ w.cell? (a.add (i * 3 + 2)) = some (.int .i64 (f i).2.2) ∧ (f i).2.1.size ≤ maxLen := by
  have hC : Tryz.prog.cellsOf 44 = 3 := by kernel_rfl
  rcases open_slice Tryz.underlying22 h with ⟨h0, -⟩ | ⟨a, len, cap, m, n, D, Pl, hcs, hb, hl, hm, hmm, hx, hi⟩
  · exact .inl h0
  · refine .inr ⟨a, len, cap, ?_⟩
    have key : ∀ i, ∃ c : Cl, i < len → w.cell? (a.add (i * 3)) = some (.int .i64 c.1) ∧ w.cell? (a.add (i * 3 + 1)) = some (.string c.2.1) ∧ w.cell? (a.add (i * 3 + 2)) = some (.int .i64 c.2.2) ∧ c.2.1.size ≤ maxLen := by
      intro i
      by_cases hil : i < len
      · have him : i < m := by rw [hmm]; split <;> omega
        obtain ⟨cs', hc, ht'⟩ := hi i him
        rw [hC] at hc
        obtain ⟨y0, y1, y2, n', -, hlen, g0, g1, g2⟩ := trod_struct3 Tryz.underlying44 ht'
        rw [hC] at hlen
        obtain ⟨_, -, hat⟩ := World.cells?_some hc
        match cs', hlen with
        | [z0, z1, z2], _ =>
          obtain ⟨k, e0, -, -⟩ := DataW.trod_int Tryz.underlying3 g0
          obtain ⟨s, e1, -, hz⟩ := DataW.trod_string Tryz.underlying9 g1
          obtain ⟨q, e2, -, -⟩ := DataW.trod_int Tryz.underlying3 g2
          have r0 : z0 = .int .i64 k := by
            have : ([z0, z1, z2].drop 0).take (Tryz.prog.cellsOf 3) = [z0] := by rw [show Tryz.prog.cellsOf 3 = 1 by kernel_rfl]; rfl
            rw [this] at e0; simpa using e0
          have r1 : z1 = .string s := by
            have : ([z0, z1, z2].drop 1).take (Tryz.prog.cellsOf 9) = [z1] := by rw [show Tryz.prog.cellsOf 9 = 1 by kernel_rfl]; rfl
            rw [this] at e1; simpa using e1
          have r2 : z2 = .int .i64 q := by
            have : ([z0, z1, z2].drop 2).take (Tryz.prog.cellsOf 3) = [z2] := by rw [show Tryz.prog.cellsOf 3 = 1 by kernel_rfl]; rfl
            rw [this] at e2; simpa using e2
          refine ⟨(k, s, q), fun _ => ?_⟩
          have h0 := hat 0 (by omega); have h1 := hat 1 (by omega); have h2 := hat 2 (by omega)
          simp only [List.getElem?_cons_zero, List.getElem?_cons_succ, r0, r1, r2] at h0 h1 h2
          rw [Go.Deep.add_add] at h0 h1 h2
          exact ⟨h0, h1, h2, hz⟩
      · exact ⟨(0, ByteArray.empty, 0), fun h => absurd h hil⟩
    refine ⟨fun i => (key i).choose, hcs, hl, hm, fun i hil => (key i).choose_spec hil⟩

end Go.Proofs.YtcnhefbbdklajaaGreatDoor
