/-
  Words that fit a width, plainly.
-/
import Derived.Test.YtbddokfcohnndaaTexts
import Derived.Test.YtbddokfcohnndaaWrapP
import Derived.Test.YtbddokfcohnndaaStrs
namespace Go.Proofs.Ytbddokfcohnndaa
open Go.RowKit
set_option linter.unusedVariables false

/-- A byte of a word. -/
def wbI (n : Int) : Bool := decide (33 ≤ n) && decide (n ≤ 126)
def wbL (l : List UInt8) : Bool := l.all fun b => wbI (b.toNat : Int)
/-- A word that may stand in a line. -/
def okW (w : Int) (s : ByteArray) : Bool := decide (1 ≤ s.size) && decide ((s.size : Int) ≤ w) && wbL s.data.toList
/-- Words that fit a width. -/
def fitB (L : List ByteArray) (w : Int) : Bool := decide (L.length ≤ 20) && inI w 1 40 && L.all (okW w)
/-- Their lengths. -/
def szW (L : List ByteArray) : List Nat := L.map ByteArray.size
theorem szW_len (L : List ByteArray) : (szW L).length = L.length := by simp [szW]
theorem wbL_snoc (l : List UInt8) (b : UInt8) : wbL (l ++ [b]) = (wbL l && wbI (b.toNat : Int)) := by simp [wbL]
theorem wbL_bad (s : ByteArray) (k : Nat) (h : k < s.size) (hb : wbI (s[k].toNat : Int) = false) : wbL s.data.toList = false := by
  have h1 : wbL (s.data.toList.take (k + 1)) = false := by rw [take_snoc s k h, wbL_snoc, hb, Bool.and_false]
  simp only [wbL, List.all_eq_false] at h1 ⊢
  obtain ⟨x, hx, hn⟩ := h1
  exact ⟨x, List.mem_of_mem_take hx, hn⟩
theorem wbL_next (s : ByteArray) (k : Nat) (h : k < s.size) (h1 : wbL (s.data.toList.take k) = true) (hb : wbI (s[k].toNat : Int) = true) : wbL (s.data.toList.take (k + 1)) = true := by
  rw [take_snoc s k h, wbL_snoc, h1, hb]; rfl
theorem wbL_all (s : ByteArray) (k : Nat) (h : ¬ k < s.size) (h1 : wbL (s.data.toList.take k) = true) : wbL s.data.toList = true := by
  rwa [List.take_of_length_le (by simp; omega)] at h1
theorem fitB_iff (L : List ByteArray) (w : Int) : fitB L w = true ↔ L.length ≤ 20 ∧ 1 ≤ w ∧ w ≤ 40 ∧ ∀ s ∈ L, okW w s = true := by
  simp [fitB, inI, and_assoc]
theorem okW_iff (w : Int) (s : ByteArray) : okW w s = true ↔ 1 ≤ s.size ∧ (s.size : Int) ≤ w ∧ wbL s.data.toList = true := by
  simp [okW, and_assoc]
theorem fit_bad {L : List ByteArray} {w : Int} {k : Nat} (hk : k < L.length) (h : okW w L[k] = false) : fitB L w = false := by
  rw [Bool.eq_false_iff]; intro h'
  have := ((fitB_iff _ _).mp h').2.2.2 L[k] (List.getElem_mem hk)
  rw [h] at this; cases this
theorem fit_S {L : List ByteArray} {w : Int} (h : fitB L w = true) : ∃ n : Nat, w = (n : Int) ∧ 1 ≤ n ∧ n ≤ 40 ∧ FitS n (szW L) := by
  obtain ⟨-, h1, h2, h3⟩ := (fitB_iff _ _).mp h
  refine ⟨w.toNat, by omega, by omega, by omega, fun x hx => ?_⟩
  obtain ⟨s, hs, rfl⟩ := List.mem_map.mp hx
  have := (okW_iff _ _).mp (h3 s hs)
  omega
theorem fit_sz {L : List ByteArray} {w : Int} (h : fitB L w = true) {k : Nat} (hk : k < L.length) : 1 ≤ L[k].size ∧ L[k].size ≤ 40 := by
  obtain ⟨-, h1, h2, h3⟩ := (fitB_iff _ _).mp h
  have := (okW_iff _ _).mp (h3 L[k] (List.getElem_mem hk))
  omega
theorem fit_len {L : List ByteArray} {w : Int} (h : fitB L w = true) : L.length ≤ 20 := ((fitB_iff _ _).mp h).1

end Go.Proofs.Ytbddokfcohnndaa
