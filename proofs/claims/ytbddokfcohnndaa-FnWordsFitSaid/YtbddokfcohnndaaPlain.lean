/-
  Plain facts on bytes and texts: no Go, no program.
-/
namespace Go.Proofs.Ytbddokfcohnndaa

/-- A byte, as a number, that may stand in a line. -/
def plainI (n : Int) : Bool := decide (32 ≤ n) && decide (n ≤ 126)
/-- A byte, as a number, that may stand in a text. -/
def okI (n : Int) : Bool := (n == 10) || plainI n
/-- All bytes are of a text. -/
def okL (l : List UInt8) : Bool := l.all fun b => okI (b.toNat : Int)
/-- A valid text. -/
def textB (s : ByteArray) : Bool := decide (s.size ≤ 20000) && okL s.data.toList

theorem take_snoc (s : ByteArray) (k : Nat) (h : k < s.size) : s.data.toList.take (k + 1) = s.data.toList.take k ++ [s[k]] := by
  rw [List.take_succ_eq_append_getElem (by simpa using h)]; rfl

theorem okL_snoc (l : List UInt8) (b : UInt8) : okL (l ++ [b]) = (okL l && okI (b.toNat : Int)) := by
  simp [okL]

theorem okL_take_false (l : List UInt8) (k : Nat) (h : okL (l.take k) = false) : okL l = false := by
  simp only [okL, List.all_eq_false] at h ⊢
  obtain ⟨x, hx, hn⟩ := h
  exact ⟨x, List.mem_of_mem_take hx, hn⟩

theorem okL_at (s : ByteArray) (k : Nat) (h : k < s.size) (hb : okI (s[k].toNat : Int) = false) : okL s.data.toList = false := by
  apply okL_take_false _ (k + 1)
  rw [take_snoc s k h, okL_snoc, hb, Bool.and_false]

end Go.Proofs.Ytbddokfcohnndaa
