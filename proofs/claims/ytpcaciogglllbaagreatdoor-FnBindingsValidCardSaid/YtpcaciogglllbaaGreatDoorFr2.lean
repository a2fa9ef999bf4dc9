/-
  A fraction in a block that may be written.
-/
import Derived.Test.YtpcaciogglllbaaGreatDoorBaseA
import Derived.WalkKit
import Derived.Below
namespace Go.Proofs.YtpcaciogglllbaaGreatDoor
open Go.RowKit
set_option linter.unusedVariables false

/-- A fraction in a block of the call's own. -/
def Fr2 (w : World) (B : Nat) (x y : Int) : Prop := w.cell? ⟨B, 0, none⟩ = some (.int .i64 x) ∧ w.cell? ⟨B, 1, none⟩ = some (.int .i64 y) ∧ w.frozen? ⟨B, 0, none⟩ = false ∧ w.frozen? ⟨B, 1, none⟩ = false ∧ B < w.heap.size
theorem Fr2.keep {W w1 : World} {B : Nat} {x y : Int} (h : Fr2 W B x y) (hb : Below W.heap.size W w1) : Fr2 w1 B x y := by
  obtain ⟨h1, h2, h3, h4, h5⟩ := h
  obtain ⟨hc, hf⟩ := bcell hb
  have hs := hb.size
  exact ⟨(hc _ _ (by omega)).trans h1, (hc _ _ (by omega)).trans h2, (hf _ _ (by omega)).trans h3, (hf _ _ (by omega)).trans h4, by omega⟩
theorem Fr2.set {W : World} {B : Nat} {x y : Int} (h : Fr2 W B x y) (x' y' : Int) : Fr2 ((W.setCell ⟨B, 0, none⟩ (.int .i64 x')).setCell ⟨B, 1, none⟩ (.int .i64 y')) B x' y' := by
  obtain ⟨h1, h2, h3, h4, h5⟩ := h
  refine ⟨?_, ?_, ?_, ?_, ?_⟩ <;> simp [go_sem, h1, h2, h3, h4, h5]
theorem Fr2.far {W : World} {B C : Nat} {x y : Int} (h : Fr2 W B x y) (hne : B ≠ C) (x' y' : Int) : Fr2 ((W.setCell ⟨C, 0, none⟩ (.int .i64 x')).setCell ⟨C, 1, none⟩ (.int .i64 y')) B x y := by
  obtain ⟨h1, h2, h3, h4, h5⟩ := h
  exact ⟨by simp [go_sem, h1], by simp [go_sem, h2], by simp [go_sem, h3], by simp [go_sem, h4], by simp [go_sem, h5]⟩
theorem Fr2.setc {W : World} {B g : Nat} {x y : Int} (h : Fr2 W B x y) (hne : B ≠ g) (j : Nat) (u : Value) : Fr2 (W.setCell ⟨g, j, none⟩ u) B x y := by
  obtain ⟨h1, h2, h3, h4, h5⟩ := h
  have hb := Below.heap_setCell W ⟨g, j, none⟩ u B hne
  have hc : ∀ o, (W.setCell ⟨g, j, none⟩ u).cell? ⟨B, o, none⟩ = W.cell? ⟨B, o, none⟩ := fun o => by simp only [World.cell?, hb]
  have hf : ∀ o, (W.setCell ⟨g, j, none⟩ u).frozen? ⟨B, o, none⟩ = W.frozen? ⟨B, o, none⟩ := fun o => by simp only [World.frozen?, hb]
  exact ⟨(hc 0).trans h1, (hc 1).trans h2, (hf 0).trans h3, (hf 1).trans h4, by simpa [World.setCell] using h5⟩
theorem Fr2.al {W : World} {B : Nat} {x y : Int} (h : Fr2 W B x y) (o : Obj) : Fr2 (W.alloc o) B x y := h.keep ((Below.refl _ W).alloc (Nat.le_refl _) _)
theorem Fr2.new (W : World) (x y : Int) (t : TypeId) : Fr2 (W.alloc (.cells #[.int .i64 x, .int .i64 y] t)) W.heap.size x y := by
  refine ⟨?_, ?_, ?_, ?_, ?_⟩ <;> simp [go_sem]

end Go.Proofs.YtpcaciogglllbaaGreatDoor
