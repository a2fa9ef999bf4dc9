/-
  What drawn words allow, plainly.
-/
import Derived.Test.YtbddokfcohnndaaWrapB
import Derived.Test.YtbddokfcohnndaaSized
namespace Go.Proofs.Ytbddokfcohnndaa
open Go.RowKit
set_option linter.unusedVariables false

theorem few_sized {L : List ByteArray} (h : ∀ t ∈ L, t.size ≤ 21) : Sized L := fun t ht => by have := h t ht; unfold maxLen; omega
theorem fitB_more {L : List ByteArray} {x : Int} (h : fitB L x = true) (hx : x ≠ 40) : fitB L (x + 1) = true := by
  obtain ⟨h1, h2, h3, h4⟩ := (fitB_iff _ _).mp h
  refine (fitB_iff _ _).mpr ⟨h1, by omega, by omega, fun s hs => ?_⟩
  have := (okW_iff _ _).mp (h4 s hs)
  exact (okW_iff _ _).mpr ⟨this.1, by omega, this.2.2⟩
theorem fitB_empty (L : List ByteArray) (x : Int) : fitB (L ++ [ByteArray.empty]) x = false := by
  rw [Bool.eq_false_iff]; intro h
  have := ((fitB_iff _ _).mp h).2.2.2 ByteArray.empty (by simp)
  have := ((okW_iff _ _).mp this).1
  simp at this

end Go.Proofs.Ytbddokfcohnndaa
