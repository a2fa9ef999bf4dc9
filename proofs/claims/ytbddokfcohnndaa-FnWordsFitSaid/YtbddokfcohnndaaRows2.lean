/-
  Slices of texts that are read.
-/
import Derived.Test.YtbddokfcohnndaaRows
import Derived.WalkKit
import Derived.WalkSpells
import Derived.Lib.Hide
import Derived.IntWalk
import Derived.BigQuiet
import Derived.Deep.QuietTactic
namespace Go.Proofs.Ytbddokfcohnndaa
open Go.RowKit
set_option linter.unusedVariables false

theorem text_eq {a b : ByteArray} (h : (a.toList == b.toList) = true) : a = b := by
  simp only [ByteArray.toList_eq, beq_iff_eq] at h
  exact Go.WideShapes.bytes_inj h
theorem text_ne {a b : ByteArray} (h : (a.toList == b.toList) = false) : a ≠ b := by
  rintro rfl; simp at h
theorem take_next {A B : List ByteArray} {k : Nat} (h : A.take k = B.take k) (hA : k < A.length) (hB : k < B.length) (e : A[k] = B[k]) : A.take (k + 1) = B.take (k + 1) := by
  rw [List.take_succ_eq_append_getElem hA, List.take_succ_eq_append_getElem hB, h, e]
theorem ne_at {A B : List ByteArray} {k : Nat} (hA : k < A.length) (hB : k < B.length) (e : A[k] ≠ B[k]) : decide (A = B) = false := by
  simp only [decide_eq_false_iff_not]; rintro rfl; exact e rfl
theorem eq_whole {A B : List ByteArray} {k : Nat} (h : A.take k = B.take k) (hA : A.length ≤ k) (hB : B.length ≤ k) : decide (A = B) = true := by
  rw [List.take_of_length_le hA, List.take_of_length_le hB] at h; simp [h]

/-- A slice that reads as cells. -/
def RowOf (w : World) (v : Value) (L : List Value) : Prop :=
  ∃ ao cap, v = .slice ao L.length cap ∧ L.length ≤ cap ∧ cap ≤ maxLen ∧ (L = [] ∨ ∃ b off, ao = some ⟨b, off, none⟩ ∧ b < w.heap.size ∧ ∀ (j : Nat) t, L[j]? = some t → w.cell? ⟨b, off + j, none⟩ = some t)

theorem RowOf.mono {w w' : World} {v : Value} {L : List Value} (h : RowOf w v L) (hb : Below w.heap.size w w') : RowOf w' v L := by
  obtain ⟨ao, cap, hv, h1, h2, h3⟩ := h
  refine ⟨ao, cap, hv, h1, h2, ?_⟩
  rcases h3 with h3 | ⟨b, off, ha, hlt, hj⟩
  · exact .inl h3
  · exact .inr ⟨b, off, ha, Nat.lt_of_lt_of_le hlt hb.size, fun j t ht => by rw [hb.cell (by exact hlt)]; exact hj j t ht⟩

theorem RowOf.drewN {w : World} {v : Value} {L : List Value} (h : RowOf w v L) (n : Nat) : RowOf (w.drewN n) v L :=
  h.mono ⟨rfl, rfl, rfl, Nat.le_refl _, fun _ _ => rfl⟩

theorem RowOf.of_own {w : World} {base : Nat} {e : TypeId} {v : Value} {n : Nat} {L : List Value} (h : w.ownsRow base e 1 v n L) : RowOf w v L := by
  have h0 := h
  obtain ⟨hl, h2⟩ := h
  rcases h2 with ⟨rfl, rfl⟩ | ⟨g, cap, cur, rfl, hg, hh, h1, h2, _⟩
  · obtain rfl : L = [] := List.eq_nil_of_length_eq_zero (by omega)
    exact ⟨none, 0, rfl, Nat.le_refl _, by unfold maxLen; omega, .inl rfl⟩
  · obtain rfl : n = L.length := by omega
    refine ⟨_, cap, rfl, h1, h2, .inr ⟨g, 0, rfl, ?_, ?_⟩⟩
    · by_cases hk : g < w.heap.size
      · exact hk
      · rw [Array.getElem?_eq_none (by omega)] at hh; cases hh
    · intro j t ht
      have hlt : j < L.length := by
        by_cases hk : j < L.length
        · exact hk
        · rw [List.getElem?_eq_none (by omega)] at ht; cases ht
      rw [Nat.zero_add, h0.cellAt j (by omega)]
      exact ht

end Go.Proofs.Ytbddokfcohnndaa
