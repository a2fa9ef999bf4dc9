/-
  Plain facts on joined lines: no Go, no program.
-/
import Derived.Test.YtbddokfcohnndaaPlain
namespace Go.Proofs.Ytbddokfcohnndaa

/-- All bytes may stand in a line. -/
def plainL (l : List UInt8) : Bool := l.all fun b => plainI (b.toNat : Int)
/-- A byte is among some. -/
def hasL (l : List UInt8) (n : Int) : Bool := l.any fun b => (b.toNat : Int) == n
def lineAt (L : List ByteArray) (k : Nat) : ByteArray := (L[k]?).getD ByteArray.empty
/-- The first k lines, with a line end behind each. -/
def accTo (L : List ByteArray) : Nat → ByteArray
  | 0 => ByteArray.empty
  | k + 1 => accTo L k ++ lineAt L k ++ ⟨#[10]⟩
/-- The line k can be taken. -/
def okAt (L : List ByteArray) (k : Nat) : Bool := plainL (lineAt L k).data.toList && decide ((accTo L k).size + (lineAt L k).size + 1 ≤ 20000)
def joinOk (L : List ByteArray) : Bool := (List.range L.length).all (okAt L)
/-- The text of lines, if there is one. -/
def joinB (L : List ByteArray) : ByteArray := if joinOk L = true then accTo L L.length else ByteArray.empty

theorem plainL_snoc (l : List UInt8) (b : UInt8) : plainL (l ++ [b]) = (plainL l && plainI (b.toNat : Int)) := by simp [plainL]
theorem hasL_snoc (l : List UInt8) (b : UInt8) (n : Int) : hasL (l ++ [b]) n = (hasL l n || (b.toNat : Int) == n) := by simp [hasL]
theorem plainL_bad (s : ByteArray) (k : Nat) (h : k < s.size) (hb : plainI (s[k].toNat : Int) = false) : plainL s.data.toList = false := by
  have h1 : plainL (s.data.toList.take (k + 1)) = false := by rw [take_snoc s k h, plainL_snoc, hb, Bool.and_false]
  simp only [plainL, List.all_eq_false] at h1 ⊢
  obtain ⟨x, hx, hn⟩ := h1
  exact ⟨x, List.mem_of_mem_take hx, hn⟩
theorem plainL_next (s : ByteArray) (k : Nat) (hk : k < s.size) (h : plainL (s.data.toList.take k) = true) (hb : plainI (s[k].toNat : Int) = true) : plainL (s.data.toList.take (k + 1)) = true := by
  rw [take_snoc s k hk, plainL_snoc, h, hb]; rfl
theorem hasL_good (s : ByteArray) (k : Nat) (n : Int) (h : k < s.size) (hb : ((s[k].toNat : Int) == n) = true) : hasL s.data.toList n = true := by
  have h1 : hasL (s.data.toList.take (k + 1)) n = true := by rw [take_snoc s k h, hasL_snoc, hb, Bool.or_true]
  simp only [hasL, List.any_eq_true] at h1 ⊢
  obtain ⟨x, hx, hn⟩ := h1
  exact ⟨x, List.mem_of_mem_take hx, hn⟩
theorem hasL_next (s : ByteArray) (k : Nat) (n : Int) (hk : k < s.size) (h : hasL (s.data.toList.take k) n = false) (hb : ((s[k].toNat : Int) == n) = false) : hasL (s.data.toList.take (k + 1)) n = false := by
  rw [take_snoc s k hk, hasL_snoc, h, hb]; rfl
/-- A valid text without a line end has plain bytes alone. -/
theorem plain_iff (l : List UInt8) : plainL l = (okL l && !hasL l 10) := by
  induction l with
  | nil => rfl
  | cons b l ih =>
    have e1 : plainL (b :: l) = (plainI (b.toNat : Int) && plainL l) := rfl
    have e2 : okL (b :: l) = (okI (b.toNat : Int) && okL l) := rfl
    have e3 : hasL (b :: l) 10 = (((b.toNat : Int) == 10) || hasL l 10) := rfl
    rw [e1, e2, e3, ih]
    by_cases h10 : (b.toNat : Int) = 10
    · have : plainI 10 = false := rfl
      simp [this, h10]
    · have hb : ((b.toNat : Int) == 10) = false := by simpa using h10
      simp only [okI, hb, Bool.false_or]
      cases plainI (b.toNat : Int) <;> simp
theorem accTo_size_next (L : List ByteArray) (k : Nat) : (accTo L (k + 1)).size = (accTo L k).size + (lineAt L k).size + 1 := by
  show (accTo L k ++ lineAt L k ++ ⟨#[10]⟩).size = _
  rw [ByteArray.size_append, ByteArray.size_append]; rfl
theorem joinOk_bad (L : List ByteArray) (k : Nat) (hk : k < L.length) (h : okAt L k = false) : joinOk L = false := by
  simp only [joinOk, List.all_eq_false]; exact ⟨k, List.mem_range.2 hk, by simp [h]⟩
theorem joinOk_good (L : List ByteArray) (h : ∀ j, j < L.length → okAt L j = true) : joinOk L = true := by
  simp only [joinOk, List.all_eq_true]; intro j hj; exact h j (List.mem_range.1 hj)
theorem acc_le (L : List ByteArray) (k : Nat) (h : ∀ j, j < k → okAt L j = true) : (accTo L k).size ≤ 20000 := by
  cases k with
  | zero => show (0 : Nat) ≤ 20000; omega
  | succ k =>
    rw [accTo_size_next]
    have := h k (by omega)
    simp only [okAt, Bool.and_eq_true, decide_eq_true_eq] at this
    exact this.2

end Go.Proofs.Ytbddokfcohnndaa
