/-
  A part of a slice of cells reads as the part of the cells.
-/
import Derived.Test.YtncehcklppakcaaGreatDoorCellRow
namespace Go.Proofs.YtncehcklppakcaaGreatDoor
open Go.RowKit
set_option linter.unusedVariables false

theorem RowC.sub {w : World} {b o cap : Nat} {l : List Cl} (h : RowC w (.slice (some ⟨b, o, none⟩) l.length cap) l) (i j : Nat) (hij : i ≤ j) (hj : j ≤ l.length) :
    RowC w (.slice (some ⟨b, o + i * 3, none⟩) (j - i) (cap - i)) ((l.take j).drop i) := by
  obtain ⟨ao, cap', hv, h1, h2, h3⟩ := h
  simp only [Value.slice.injEq] at hv
  obtain ⟨rfl, -, rfl⟩ := hv
  have hlen : ((l.take j).drop i).length = j - i := by rw [List.length_drop, List.length_take]; omega
  refine ⟨_, _, by rw [hlen], by rw [hlen]; omega, by unfold maxLen at h2 ⊢; omega, ?_⟩
  rcases h3 with rfl | ⟨b', o', hA, hlt, hc⟩
  · left; simp
  · simp only [Option.some.injEq, Addr.mk.injEq, and_true] at hA
    obtain ⟨rfl, rfl⟩ := hA
    refine .inr ⟨_, _, rfl, hlt, fun k hk => ?_⟩
    rw [hlen] at hk
    obtain ⟨c0, c1, c2⟩ := hc (i + k) (by omega)
    have e : ((l.take j).drop i)[k] = l[i + k]'(by omega) := by rw [List.getElem_drop, List.getElem_take]
    rw [e]
    have q : o + i * 3 + k * 3 = o + (i + k) * 3 := by omega
    exact ⟨by rw [q]; exact c0, by rw [q]; exact c1, by rw [q]; exact c2⟩

end Go.Proofs.YtncehcklppakcaaGreatDoor
