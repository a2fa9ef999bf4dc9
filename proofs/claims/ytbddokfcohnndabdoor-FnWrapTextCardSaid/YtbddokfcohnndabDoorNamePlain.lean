/-
  Bytes of names, and names, plainly: no Go, no program.
-/
import Derived.Lib.Bytealg
namespace Go.Proofs.YtbddokfcohnndabDoor
set_option linter.unusedVariables false

theorem byte_eq (b c : UInt8) : ((b.toNat : Int) == (c.toNat : Int)) = (b == c) := by
  rw [Bool.eq_iff_iff, beq_iff_eq, beq_iff_eq]
  constructor
  · intro h; exact UInt8.toNat_inj.mp (by omega)
  · rintro rfl; rfl
def ltrI (n : Int) : Bool := decide (97 ≤ n) && decide (n ≤ 122)
def digI (n : Int) : Bool := decide (48 ≤ n) && decide (n ≤ 57)
def parI (n : Int) : Bool := ltrI n || digI n || (n == 95)
/-- A part of a name. -/
def partB (l : List UInt8) : Bool := match l with
  | [] => false
  | b :: t => ltrI (b.toNat : Int) && (t.all (fun b => parI (b.toNat : Int)) && decide (t.length < 12))
/-- A byte that cannot stand where n bytes of a part stand before it. -/
def badN (n : Nat) (b : Int) : Bool := !ltrI b && ((n == 0) || (!digI b && (b != 95)))
/-- The rest of a name, of whose part n bytes have been read. -/
def nameR : Nat → List UInt8 → Bool
  | n, [] => decide (0 < n)
  | n, b :: t => if (((b.toNat : Int) == 46) && decide (0 < n)) = true then nameR 0 t else if badN n (b.toNat : Int) = true then false else if 12 < n + 1 then false else nameR (n + 1) t
def trueL : List UInt8 := [116, 114, 117, 101]
def falseL : List UInt8 := [102, 97, 108, 115, 101]
def nameL (l : List UInt8) : Bool := nameR 0 l && (l != trueL && l != falseL)

theorem nameR_app (l q : List UInt8) : ∀ n, nameR n (l ++ 46 :: q) = (nameR n l && nameR 0 q) := by
  induction l with
  | nil =>
    intro n
    by_cases h : 0 < n
    · simp [nameR, h]
    · obtain rfl : n = 0 := by omega
      simp [nameR, badN, ltrI]
  | cons b t ih =>
    intro n
    simp only [List.cons_append, nameR]
    split
    · exact ih 0
    · split
      · rfl
      · split
        · rfl
        · exact ih (n + 1)
theorem badN_zero (b : Int) : badN 0 b = !ltrI b := by simp [badN]
theorem badN_more (n : Nat) (b : Int) (h : n ≠ 0) : badN n b = !parI b := by
  have hz : (n == 0) = false := by simpa using h
  simp only [badN, hz, parI, bne, Bool.false_or, Bool.not_or, Bool.and_assoc]
theorem nameR_nodot (p : List UInt8) : ∀ n, (46 : UInt8) ∉ p → n ≤ 12 → nameR n p = if n = 0 then partB p else (p.all (fun b => parI (b.toNat : Int)) && decide (n + p.length ≤ 12)) := by
  induction p with
  | nil =>
    intro n _ hn
    by_cases h : n = 0
    · subst h; rfl
    · rw [if_neg h]; simp [nameR]; omega
  | cons b t ih =>
    intro n hd hn
    simp only [List.mem_cons, not_or] at hd
    have hb : ((b.toNat : Int) == 46) = false := by rw [show (46 : Int) = ((46 : UInt8).toNat : Int) from rfl, byte_eq, beq_eq_false_iff_ne]; exact Ne.symm hd.1
    simp only [nameR, hb, Bool.false_and, Bool.false_eq_true, if_false]
    by_cases h : n = 0
    · subst h
      rw [badN_zero, if_pos rfl]
      simp only [partB]
      cases hl : ltrI (b.toNat : Int)
      · rfl
      · simp only [Bool.not_true, Bool.false_eq_true, if_false, Bool.true_and]
        rw [if_neg (by omega), ih 1 hd.2 (by omega), if_neg (by omega)]
        congr 1
        rw [decide_eq_decide]; omega
    · rw [if_neg h, badN_more n _ h]
      simp only [List.all_cons, List.length_cons]
      cases parI (b.toNat : Int)
      · simp
      · simp only [Bool.not_true, Bool.false_eq_true, if_false, Bool.true_and]
        by_cases h12 : 12 < n + 1
        · rw [if_pos h12, show decide (n + (t.length + 1) ≤ 12) = false by simp; omega, Bool.and_false]
        · rw [if_neg h12, ih (n + 1) hd.2 (by omega), if_neg (by omega)]
          congr 1
          rw [decide_eq_decide]; omega
theorem nameR_part (p : List UInt8) (h : (46 : UInt8) ∉ p) : nameR 0 p = partB p := by rw [nameR_nodot p 0 h (by omega), if_pos rfl]

theorem partB_iff (l : List UInt8) : partB l = (decide (1 ≤ l.length) && decide (l.length ≤ 12) && (match l with | [] => false | b :: _ => ltrI (b.toNat : Int)) && l.all (fun b => parI (b.toNat : Int))) := by
  cases l with
  | nil => rfl
  | cons b t =>
    cases hl : ltrI (b.toNat : Int)
    · simp [partB, hl]
    · have hp : parI (b.toNat : Int) = true := by simp [parI, hl]
      simp only [partB, hl, hp, List.all_cons, List.length_cons, Bool.true_and, Bool.and_true]
      cases t.all (fun b => parI (b.toNat : Int))
      · simp
      · simp; omega

/-- With a part more. -/
theorem name_more (l q : List UInt8) (h : nameL l = true) (hq : nameR 0 q = true) : nameL (l ++ 46 :: q) = true := by
  simp only [nameL, Bool.and_eq_true] at h ⊢
  refine ⟨by rw [nameR_app, h.1, hq]; rfl, ?_, ?_⟩
  · simp only [bne_iff_ne, ne_eq]
    intro e
    have : (46 : UInt8) ∈ trueL := by rw [← e]; simp
    simp [trueL] at this
  · simp only [bne_iff_ne, ne_eq]
    intro e
    have : (46 : UInt8) ∈ falseL := by rw [← e]; simp
    simp [falseL] at this
theorem name_dot (l : List UInt8) : nameL (l ++ [46]) = false := by
  unfold nameL; rw [nameR_app]; simp [nameR]

end Go.Proofs.YtbddokfcohnndabDoor
