/-
  Three blocks of two numbers each, kept while memory grows.
-/
import Derived.Test.YtpgbfagacpondaaDoorFracRed
namespace Go.Proofs.YtpgbfagacpondaaDoor
open Go.RowKit

/-- Two fractions and an empty result, one block each. -/
def Held3 (w' : World) (N : Nat) (aT aB bT bB : Int) : Prop :=
  N + 1 + 1 < w'.heap.size ∧ w'.cell? ⟨N, 0, none⟩ = some (.int .i64 aT) ∧ w'.cell? ⟨N, 1, none⟩ = some (.int .i64 aB) ∧ w'.cell? ⟨N + 1, 0, none⟩ = some (.int .i64 bT) ∧ w'.cell? ⟨N + 1, 1, none⟩ = some (.int .i64 bB) ∧
  w'.cell? ⟨N + 1 + 1, 0, none⟩ = some (.int .i64 0) ∧ w'.cell? ⟨N + 1 + 1, 1, none⟩ = some (.int .i64 0) ∧ w'.frozen? ⟨N + 1 + 1, 0, none⟩ = false ∧ w'.frozen? ⟨N + 1 + 1, 1, none⟩ = false
theorem Held3.keep {W w1 : World} {N : Nat} {aT aB bT bB : Int} (h : Held3 W N aT aB bT bB) (hb : Below W.heap.size W w1) : Held3 w1 N aT aB bT bB := by
  obtain ⟨h0, h1, h2, h3, h4, h5, h6, h7, h8⟩ := h
  obtain ⟨hc, hf⟩ := bcell hb
  have hs := hb.size
  exact ⟨by omega, (hc _ _ (by omega)).trans h1, (hc _ _ (by omega)).trans h2, (hc _ _ (by omega)).trans h3, (hc _ _ (by omega)).trans h4, (hc _ _ (by omega)).trans h5, (hc _ _ (by omega)).trans h6, (hf _ _ (by omega)).trans h7, (hf _ _ (by omega)).trans h8⟩

end Go.Proofs.YtpgbfagacpondaaDoor
