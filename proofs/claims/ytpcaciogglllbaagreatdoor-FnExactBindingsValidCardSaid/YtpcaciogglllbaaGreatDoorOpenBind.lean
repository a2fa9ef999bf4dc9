/-
  How an argument that is a slice of bindings is opened.
-/
import Derived.Test.YtpcaciogglllbaaGreatDoorBaseL
import Derived.Test.YtpcaciogglllbaaGreatDoorBindRow
namespace Go.Proofs.YtpcaciogglllbaaGreatDoor
open Go.RowKit Go.ChangeShapes Go.WideShapes Go.Deep
set_option linter.unusedVariables false

/-- A slice of bindings that came in. -/
def ArgBs (w : World) (a : Option Addr) (len cap : Nat) (env : List Bd) : Prop := env.length = len ∧ RowB w (.slice a len cap) env ∧ ∀ b ∈ env, b.1.size ≤ maxLen ∧ SizedC b.2
theorem ArgBs.of_nil (w : World) : ArgBs w none 0 0 [] := ⟨rfl, ⟨none, 0, rfl, Nat.le_refl _, by unfold maxLen; omega, .inl rfl⟩, fun _ h => by cases h⟩
theorem ArgBs.of {w : World} {x : Addr} {len cap : Nat} (f : Nat → Bd) (hl : len ≤ cap) (hm : cap ≤ maxLen)
    (hc : ∀ i, i < len → ∃ u, w.cell? (x.add (i * 2)) = some (.string (f i).1) ∧ w.cell? (x.add (i * 2 + 1)) = some u ∧ RowC w u (f i).2 ∧ (f i).1.size ≤ maxLen ∧ SizedC (f i).2) :
    ArgBs w (some x) len cap ((List.range len).map f) := by
  have hlen : ((List.range len).map f).length = len := by simp
  refine ⟨hlen, ⟨some x, cap, by rw [hlen], by rw [hlen]; exact hl, hm, ?_⟩, ?_⟩
  · by_cases h0 : len = 0
    · left; subst h0; rfl
    · right
      obtain ⟨b, off, spot⟩ := x
      obtain ⟨u0, g0, -⟩ := hc 0 (by omega)
      have hc0 := cell_low g0
      have hsp : spot = none := by
        have := hc0.1
        unfold Addr.add at this; split at this <;> simp_all
      subst hsp
      refine ⟨b, off, rfl, by have := hc0.2; rw [addr_add] at this; exact this, fun k hk => ?_⟩
      rw [hlen] at hk
      obtain ⟨u, c0, c1, c2, -⟩ := hc k hk
      rw [addr_add] at c0 c1
      simp only [List.getElem_map, List.getElem_range]
      exact ⟨u, c0, by rw [Nat.add_assoc]; exact c1, c2⟩
  · intro c hcm
    simp only [List.mem_map, List.mem_range] at hcm
    obtain ⟨i, hi, rfl⟩ := hcm
    obtain ⟨u, -, -, -, h⟩ := hc i hi
    exact h

set_option maxRecDepth 100000 in
theorem open_binds {H : Type} {enc : TypeId × Value → H} {w : World} {base : Nat} {spare : Nat → Bool} {held : Bool} {fuel : Nat} {cs : List Value} {x : DataW H × List MemPlace}
    (h : DataW.trod enc Tryz.prog w base spare held fuel 23 cs = some x) :
    cs = [.slice none 0 0] ∨ ∃ (a : Addr) (len cap : Nat) (f : Nat → Bd), cs = [.slice (some a) len cap] ∧ len ≤ cap ∧ cap ≤ maxLen ∧
      ∀ i, i < len → ∃ u, w.cell? (a.add (i * 2)) = some (.string (f i).1) ∧ w.cell? (a.add (i * 2 + 1)) = some u ∧ RowC w u (f i).2 ∧ (f i).1.size ≤ maxLen ∧ SizedC (f i).2 := by
  have hC : Tryz.prog.cellsOf 60 = 2 := by kernel_rfl
  rcases open_slice Tryz.underlying23 h with ⟨h0, -⟩ | ⟨a, len, cap, m, n, D, Pl, hcs, hb, hl, hm, hmm, hx, hi⟩
  · exact .inl h0
  · refine .inr ⟨a, len, cap, ?_⟩
    have key : ∀ i, ∃ b : Bd, i < len → ∃ u, w.cell? (a.add (i * 2)) = some (.string b.1) ∧ w.cell? (a.add (i * 2 + 1)) = some u ∧ RowC w u b.2 ∧ b.1.size ≤ maxLen ∧ SizedC b.2 := by
      intro i
      by_cases hil : i < len
      · have him : i < m := by rw [hmm]; split <;> omega
        obtain ⟨cs', hc, ht'⟩ := hi i him
        rw [hC] at hc
        obtain ⟨y0, y1, n', -, hlen, g0, g1⟩ := trod_struct2 Tryz.underlying60 ht'
        rw [hC] at hlen
        obtain ⟨_, -, hat⟩ := World.cells?_some hc
        match cs', hlen with
        | [z0, z1], _ =>
          obtain ⟨s, e0, -, hz⟩ := DataW.trod_string Tryz.underlying9 g0
          have r0 : z0 = .string s := by
            have : ([z0, z1].drop 0).take (Tryz.prog.cellsOf 9) = [z0] := by rw [show Tryz.prog.cellsOf 9 = 1 by kernel_rfl]; rfl
            rw [this] at e0; simpa using e0
          have r1 : ([z0, z1].drop 1).take (Tryz.prog.cellsOf 22) = [z1] := by rw [show Tryz.prog.cellsOf 22 = 1 by kernel_rfl]; rfl
          have g1' := g1
          rw [r1] at g1'
          have h0 := hat 0 (by omega); have h1 := hat 1 (by omega)
          simp only [List.getElem?_cons_zero, List.getElem?_cons_succ, r0] at h0 h1
          rw [Go.Deep.add_add] at h0 h1
          rcases open_cells g1' with hn | ⟨a', len', cap', f, hs, hl', hm', hc'⟩
          · obtain rfl : z1 = .slice none 0 0 := by simpa using hn
            exact ⟨(s, []), fun _ => ⟨_, h0, h1, (ArgRow.of_nil w).2.1, hz, (ArgRow.of_nil w).2.2⟩⟩
          · obtain rfl : z1 = .slice (some a') len' cap' := by simpa using hs
            have hA := ArgRow.of f hl' hm' hc'
            exact ⟨(s, (List.range len').map f), fun _ => ⟨_, h0, h1, hA.2.1, hz, hA.2.2⟩⟩
      · exact ⟨(ByteArray.empty, []), fun h => absurd h hil⟩
    refine ⟨fun i => (key i).choose, hcs, hl, hm, fun i hil => (key i).choose_spec hil⟩

end Go.Proofs.YtpcaciogglllbaaGreatDoor
