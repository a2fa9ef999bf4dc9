/-
  Wrapped texts, plainly: the words of a note, and lines of them.
-/
import Derived.Test.YtbddokfcohnndabDoorNotePlain
import Derived.Test.YtbddokfcohnndabDoorWrapWL
import Derived.Test.YtbddokfcohnndabDoorWrapLenW
import Derived.Lib.Fields
import Derived.Lib.Join
namespace Go.Proofs.YtbddokfcohnndabDoor
open Go.RowKit
set_option linter.unusedVariables false

def mkB (l : List UInt8) : ByteArray := ⟨l.toArray⟩
/-- The words of a text, divided by its spaces. -/
def fldB (s : ByteArray) : List ByteArray := (Lib.fields s.data.toList).map mkB
/-- Words with single spaces between them. -/
def jnW : List ByteArray → ByteArray
  | [] => ⟨#[]⟩
  | x :: xs => xs.foldl (fun a y => a ++ ⟨#[32]⟩ ++ y) x
/-- Words in lines. -/
def linesT : List Nat → List ByteArray → List ByteArray
  | [], _ => []
  | n :: ls, W => jnW (W.take n) :: linesT ls (W.drop n)
def wrapTB (s : ByteArray) (x : Int) : List ByteArray := if noteB s then linesT (wlB (fldB s) x) (fldB s) else []
theorem linesT_len : ∀ (ls : List Nat) (W : List ByteArray), (linesT ls W).length = ls.length := by
  intro ls
  induction ls with
  | nil => intro W; rfl
  | cons n ls ih => intro W; rw [linesT, List.length_cons, List.length_cons, ih]
theorem linesT_at : ∀ (ls : List Nat) (W : List ByteArray) (k : Nat) (hk : k < ls.length), (linesT ls W).take (k + 1) = (linesT ls W).take k ++ [jnW ((W.drop (ls.take k).sum).take ls[k])] := by
  intro ls
  induction ls with
  | nil => intro W k hk; simp at hk
  | cons n ls ih =>
    intro W k hk
    cases k with
    | zero => simp [linesT]
    | succ k =>
      have := ih (W.drop n) k (by simpa using hk)
      rw [linesT, List.take_succ_cons, this, List.take_succ_cons, List.take_succ_cons, List.sum_cons, List.drop_drop, List.getElem_cons_succ]
      rfl
theorem foldl_jn : ∀ (xs : List ByteArray) (a : ByteArray), (xs.foldl (fun a y => a ++ ⟨#[32]⟩ ++ y) a).data.toList = a.data.toList ++ Lib.joinTail [32] (xs.map (·.data.toList)) := by
  intro xs
  induction xs with
  | nil => intro a; simp [Lib.joinTail]
  | cons x xs ih => intro a; rw [List.foldl_cons, ih]; simp [Lib.joinTail]
theorem jnW_is (xs : List ByteArray) : (⟨(Lib.join (xs.map (·.data.toList)) [32]).toArray⟩ : ByteArray) = jnW xs := by
  cases xs with
  | nil => rfl
  | cons x xs =>
    rw [List.map_cons, Lib.join_cons, jnW]
    apply ByteArray.ext
    apply Array.ext'
    rw [foldl_jn]
theorem foldl_jsize : ∀ (xs : List ByteArray) (a : ByteArray), (∀ x ∈ xs, x.size ≤ 60) → (xs.foldl (fun a y => a ++ ⟨#[32]⟩ ++ y) a).size ≤ a.size + 61 * xs.length := by
  intro xs
  induction xs with
  | nil => intro a _; simp
  | cons x xs ih =>
    intro a h
    rw [List.foldl_cons]
    have h1 := ih (a ++ ⟨#[32]⟩ ++ x) (fun y hy => h y (List.mem_cons_of_mem _ hy))
    have h2 := h x (List.mem_cons_self ..)
    have h3 : (a ++ ⟨#[32]⟩ ++ x).size = a.size + 1 + x.size := by
      rw [ByteArray.size_append, ByteArray.size_append]; rfl
    rw [List.length_cons]; omega
theorem jnW_size (xs : List ByteArray) (h : ∀ x ∈ xs, x.size ≤ 60) : (jnW xs).size ≤ 61 * (xs.length + 1) := by
  cases xs with
  | nil => rw [jnW]; decide
  | cons x xs =>
    rw [jnW]
    have h1 := foldl_jsize xs x (fun y hy => h y (List.mem_cons_of_mem _ hy))
    have h2 := h x (List.mem_cons_self ..)
    rw [List.length_cons]; omega
theorem jnW_snoc (xs : List ByteArray) (y : ByteArray) (h : xs ≠ []) : jnW (xs ++ [y]) = jnW xs ++ ⟨#[32]⟩ ++ y := by
  cases xs with
  | nil => exact absurd rfl h
  | cons x xs => rw [List.cons_append, jnW, jnW, List.foldl_append]; rfl
/-- Bytes of a note are no white space but the space. -/
theorem note_sp {b : UInt8} (h : 32 ≤ b.toNat) : Lib.isSp b = (b == 32) := by
  rw [Bool.eq_iff_iff]
  simp only [Lib.isSp, Bool.or_eq_true, beq_iff_eq]
  constructor
  · intro h'
    rcases h' with ((((h' | h') | h') | h') | h') | h' <;> first | exact h' | (subst h'; simp at h)
  · intro h'; subst h'; simp
theorem note_bytes {s : ByteArray} (h : noteB s = true) : s.size ≤ 60 ∧ ∀ (k : Nat) (hk : k < s.size), 32 ≤ s[k].toNat ∧ s[k].toNat ≤ 126 := by
  simp only [noteB, textB, Bool.and_eq_true, decide_eq_true_eq, Bool.not_eq_true'] at h
  obtain ⟨⟨h1, h2⟩, h3, h4, -⟩ := h
  refine ⟨h3, fun k hk => ?_⟩
  have hm : s[k] ∈ s.data.toList := by
    have : s.data.toList[k]'(by rw [Array.length_toList]; exact hk) ∈ s.data.toList := List.getElem_mem _
    exact this
  have h5 := List.all_eq_true.mp h2 _ hm
  have h6 : ¬ ((s[k].toNat : Int) == 10) = true := by
    intro h'
    have := List.any_eq_false.mp h4 _ hm
    exact this h'
  simp only [okI, plainI, Bool.or_eq_true, Bool.and_eq_true, decide_eq_true_eq] at h5
  rcases h5 with h5 | h5
  · exact absurd h5 h6
  · omega
theorem fieldsGo_size : ∀ (l cur : List UInt8), (∀ f ∈ Lib.fieldsGo cur l, f.length ≤ cur.length + l.length) ∧ (Lib.fieldsGo cur l).length ≤ 1 + l.length := by
  intro l
  induction l with
  | nil => intro cur; rw [Lib.fieldsGo]; split <;> simp
  | cons b l ih =>
    intro cur
    rw [Lib.fieldsGo]
    split
    · split
      · have := ih []
        exact ⟨fun f hf => by have := this.1 f hf; simp only [List.length_cons, List.length_nil] at *; omega, by have := this.2; simp only [List.length_cons]; omega⟩
      · have := ih []
        refine ⟨fun f hf => ?_, by have := this.2; simp only [List.length_cons]; omega⟩
        rcases List.mem_cons.mp hf with rfl | hf
        · simp only [List.length_cons]; omega
        · have := this.1 f hf; simp only [List.length_cons, List.length_nil] at *; omega
    · have := ih (cur ++ [b])
      exact ⟨fun f hf => by have := this.1 f hf; simp only [List.length_cons, List.length_append, List.length_nil] at *; omega, by have := this.2; simp only [List.length_cons]; omega⟩
theorem fldB_few {s : ByteArray} (h : s.size ≤ 60) : (∀ t ∈ fldB s, t.size ≤ 60) ∧ (fldB s).length ≤ 61 := by
  have hl : s.data.toList.length = s.size := by rw [Array.length_toList]; rfl
  obtain ⟨h1, h2⟩ := fieldsGo_size s.data.toList []
  refine ⟨fun t ht => ?_, by unfold fldB Lib.fields; rw [List.length_map]; omega⟩
  obtain ⟨f, hf, rfl⟩ := List.mem_map.mp ht
  have := h1 f hf
  show f.toArray.size ≤ 60
  simp at this ⊢
  omega
/-- The lines fit the words. -/
theorem wlB_ok (L : List ByteArray) (x : Int) : (∀ n ∈ wlB L x, 1 ≤ n) ∧ (wlB L x).sum ≤ L.length := by
  unfold wlB
  by_cases hf : fitB L x = true
  · rw [if_pos hf]
    obtain ⟨n, rfl, h1, h2, h3⟩ := fit_S hf
    obtain ⟨-, h5, h6⟩ := costR_sum _ _ _ _ (best_ok h3).1
    rw [szW_len] at h5
    rw [Int.toNat_natCast]
    exact ⟨h6, h5⟩
  · rw [if_neg hf]; simp
theorem lines_in {ls : List Nat} {k n : Nat} (h : ls.sum ≤ n) (hk : k < ls.length) : (ls.take k).sum + ls[k] ≤ n := by
  have h1 : ls.sum = (ls.take (k + 1)).sum + (ls.drop (k + 1)).sum := by rw [← List.sum_append, List.take_append_drop]
  rw [List.take_succ_eq_append_getElem hk, List.sum_append] at h1
  simp at h1
  omega

end Go.Proofs.YtbddokfcohnndabDoor
