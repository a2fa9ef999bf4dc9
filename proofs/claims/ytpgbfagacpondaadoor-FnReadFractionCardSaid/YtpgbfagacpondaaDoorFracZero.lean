/-
  Drawn fractions, as the laws are told of them.
-/
import Derived.Test.YtpgbfagacpondaaDoorFracDraw
namespace Go.Proofs.YtpgbfagacpondaaDoor
open Go.RowKit
set_option linter.unusedVariables false

/-- Two drawn fractions. -/
def Drawn2 (w : World) (e : Ending) (w' : World) : Prop :=
  ∃ aT aB bT bB : Int, e = .returned (.tuple #[.agg #[.int .i64 aT, .int .i64 aB], .agg #[.int .i64 bT, .int .i64 bB]]) ∧ Below w.heap.size w w'
/-- One drawn fraction. -/
def Drawn1 (w : World) (e : Ending) (w' : World) : Prop :=
  ∃ aT aB : Int, e = .returned (.agg #[.int .i64 aT, .int .i64 aB]) ∧ Below w.heap.size w w'

/-- An empty fraction in block N. -/
def Zero1 (w' : World) (N : Nat) : Prop :=
  N < w'.heap.size ∧ w'.cell? ⟨N, 0, none⟩ = some (.int .i64 0) ∧ w'.cell? ⟨N, 1, none⟩ = some (.int .i64 0) ∧ w'.frozen? ⟨N, 0, none⟩ = false ∧ w'.frozen? ⟨N, 1, none⟩ = false
theorem Zero1.below {W w' : World} {N B : Nat} (h : Zero1 W N) (hb : Below B W w') (hN : N < B) : Zero1 w' N := by
  obtain ⟨h0, h1, h2, h3, h4⟩ := h
  have hs := hb.size
  exact ⟨by omega, by rw [hb.cell (by exact hN)]; exact h1, by rw [hb.cell (by exact hN)]; exact h2, by rw [hb.frozen (by exact hN)]; exact h3, by rw [hb.frozen (by exact hN)]; exact h4⟩
theorem Zero1.grown {W w' : World} {N R : Nat} (h : Zero1 W N) (hg : W.grownBy w' (some R)) (hR : R ≠ N) : Zero1 w' N := by
  obtain ⟨h0, h1, h2, h3, h4⟩ := h
  have hs := hg.size
  exact ⟨by omega, by rw [(grown_far h0 hR hg).1]; exact h1, by rw [(grown_far h0 hR hg).1]; exact h2, by rw [(grown_far h0 hR hg).2]; exact h3, by rw [(grown_far h0 hR hg).2]; exact h4⟩

theorem below2 (w : World) (a b : Obj) : Below w.heap.size w ((w.alloc a).alloc b) := ((Below.refl _ w).alloc (Nat.le_refl _) _).alloc (by simp) _

end Go.Proofs.YtpgbfagacpondaaDoor
