/-
  Several texts of the proof in one file: NestP, RdPlain, RdUniq, RdNo, RdAgree, NestB.
-/
import Derived.Test.YtncehcklppakcaaGreatDoorCellPlain
import Derived.Test.YtncehcklppakcaaGreatDoorBaseR
import Derived.Test.YtncehcklppakcaaGreatDoorPrintPlain
import Derived.Test.YtncehcklppakcaaGreatDoorBaseZ
import Derived.Test.YtncehcklppakcaaGreatDoorRgTok
/-
  Bytes that nest what follows, and cells with parts, counted: plainly.
-/
namespace Go.Proofs.YtncehcklppakcaaGreatDoor
set_option linter.unusedVariables false

/-- How many bytes of a text nest what follows: ( [ ? ! -. -/
def nestB (b : UInt8) : Bool := b == 40 || b == 91 || b == 63 || b == 33 || b == 45
def nbL (l : List UInt8) : Nat := l.countP nestB
/-- How many cells have parts. -/
def nlC (l : List Cl) : Nat := l.countP fun c => decide (5 ≤ c.1)
/-- A drawn cell: its word is short, and that of a text nests nothing. -/
def WdC (c : Cl) : Prop := c.2.1.size ≤ 60 ∧ (c.1 = 2 → nbL c.2.1.data.toList = 0)
theorem nlC_append (a b : List Cl) : nlC (a ++ b) = nlC a + nlC b := List.countP_append
theorem nlC_one (c : Cl) : nlC [c] ≤ 1 := by unfold nlC; rw [List.countP_cons, List.countP_nil]; split <;> omega
theorem nlC_leaf (c : Cl) (h : c.1 ≤ 4) : nlC [c] = 0 := by unfold nlC; rw [List.countP_cons, List.countP_nil, if_neg (by simp; omega)]
theorem nl_end {k cd N : Nat} (hk : k ≤ 3) (hc : 1 ≤ cd) (h : 3 * N + k ≤ 3 + k * cd) : 3 * N ≤ 3 * cd := by
  have : k = 0 ∨ k = 1 ∨ k = 2 ∨ k = 3 := by omega
  rcases this with rfl | rfl | rfl | rfl <;> omega

end Go.Proofs.YtncehcklppakcaaGreatDoor

/-
  Reading expressions, plainly: what the words of a text stand for (Rs: only what is read; no derivation where nothing is).
-/
namespace Go.Proofs.YtncehcklppakcaaGreatDoor
set_option linter.unusedVariables false

/-- What is being read. -/
inductive Job
  | choice
  | level (r : Nat)
  | loop (r many : Nat) (a : List Cl)
  | unary
  | atom
  | parts (close : List UInt8) (many : Nat) (out : List Cl)

/-- A job at a place, so deep in brackets, reads these cells up to a place; m: how many parts (parts alone). -/
inductive Rs (tk : List Tk) : Job → Nat → Nat → List Cl → Nat → Nat → Prop
  | one {p d a q m} : d + 1 ≤ 41 → Rs tk (.level 2) p (d + 1) a q m → isT tk q [63] = false → Rs tk .choice p d a q 0
  | three {p d a q m b q2 m2 c q3 m3} : d + 1 ≤ 41 → Rs tk (.level 2) p (d + 1) a q m → isT tk q [63] = true → Rs tk .choice (q + 1) (d + 1) b q2 m2 → isT tk q2 [58] = true → Rs tk .choice (q2 + 1) (d + 1) c q3 m3 →
      Rs tk .choice p d ((9, ⟨#[]⟩, 3) :: (a ++ (b ++ c))) q3 0
  | seven {p d a q m} : Rs tk .unary p d a q m → Rs tk (.level 7) p d a q 0
  | level {r p d a q m c q2 m2} : r < 7 → Rs tk (.level (r + 1)) p d a q m → Rs tk (.loop r 0 a) q d c q2 m2 → Rs tk (.level r) p d c q2 0
  | stop {r n : Nat} {a : List Cl} {p d : Nat} : (rkT tk p ≠ (r : Int) ∨ (r = 4 ∧ n ≠ 0)) → Rs tk (.loop r n a) p d a p 0
  | more {r n : Nat} {a : List Cl} {p d : Nat} {s : ByteArray} {b : List Cl} {q m : Nat} {c : List Cl} {q2 m2 : Nat} : rkT tk p = (r : Int) → (r ≠ 4 ∨ n = 0) → tk[p]? = some (4, s) → Rs tk (.level (r + 1)) (p + 1) d b q m → Rs tk (.loop r (n + 1) ((8, s, 2) :: (a ++ b))) q d c q2 m2 → Rs tk (.loop r n a) p d c q2 0
  | sign {p d s a q m} : unaryT tk p = true → tk[p]? = some (4, s) → d + 1 ≤ 41 → Rs tk .unary (p + 1) (d + 1) a q m → Rs tk .unary p d ((7, s, 1) :: a) q 0
  | plain {p d a q m} : unaryT tk p = false → Rs tk .atom p d a q m → Rs tk .unary p d a q 0
  | num {p d s} : tk[p]? = some (2, s) → numOK s = true → Rs tk .atom p d [(1, numWd s, 0)] (p + 1) 0
  | text {p d s} : tk[p]? = some (3, s) → unqOK s = true → Rs tk .atom p d [(2, unqT s, 0)] (p + 1) 0
  | truth {p d s} : tk[p]? = some (1, s) → (s.data.toList = trueL ∨ s.data.toList = falseL) → Rs tk .atom p d [(3, s, 0)] (p + 1) 0
  | name {p d s} : tk[p]? = some (1, s) → s.data.toList ≠ trueL → s.data.toList ≠ falseL → isT tk (p + 1) [40] = false → Rs tk .atom p d [(4, s, 0)] (p + 1) 0
  | call {p d s l q m} : tk[p]? = some (1, s) → s.data.toList ≠ trueL → s.data.toList ≠ falseL → isT tk (p + 1) [40] = true → Rs tk (.parts [41] 0 []) (p + 2) d l q m → Rs tk .atom p d ((6, s, (m : Int)) :: l) q 0
  | paren {p d a q m} : isT tk p [40] = true → Rs tk .choice (p + 1) d a q m → isT tk q [41] = true → Rs tk .atom p d a (q + 1) 0
  | list {p d l q m} : isT tk p [91] = true → Rs tk (.parts [93] 0 []) (p + 1) d l q m → Rs tk .atom p d ((5, ⟨#[]⟩, (m : Int)) :: l) q 0
  | close {w n out p d} : isT tk p w = true → Rs tk (.parts w n out) p d out (p + 1) n
  | part {w n out p p0 d a q m c q2 m2} : isT tk p w = false → (n = 0 → p0 = p) → (n ≠ 0 → isT tk p [44] = true ∧ p0 = p + 1) → Rs tk .choice p0 d a q m → Rs tk (.parts w (n + 1) (out ++ a)) q d c q2 m2 → Rs tk (.parts w n out) p d c q2 m2

/-- The cells that a job has in hand. -/
def Job.held : Job → List Cl
  | .loop _ _ a => a
  | .parts _ _ out => out
  | _ => []
/-- Every word is read once: there are at most as many new cells as words. -/
theorem Rs.le {tk : List Tk} {j : Job} {p d : Nat} {c : List Cl} {q m : Nat} (h : Rs tk j p d c q m) : c.length + p ≤ q + j.held.length ∧ (p ≤ tk.length → q ≤ tk.length) ∧ j.held.length ≤ c.length ∧ p ≤ q := by
  induction h with
  | one h1 h2 h3 i => simp only [Job.held, List.length_nil] at i ⊢; omega
  | three h1 h2 h3 h4 h5 h6 i1 i2 i3 =>
    have l1 := isT_lt h3; have l2 := isT_lt h5
    simp only [Job.held, List.length_nil, List.length_cons, List.length_append] at i1 i2 i3 ⊢
    omega
  | seven h i => simp only [Job.held, List.length_nil] at i ⊢; omega
  | level h1 h2 h3 i1 i2 => simp only [Job.held, List.length_nil] at i1 i2 ⊢; omega
  | stop h => simp only [Job.held]; omega
  | more h1 h2 h3 h4 h5 i1 i2 =>
    have l1 := at_lt h3
    simp only [Job.held, List.length_nil, List.length_cons, List.length_append] at i1 i2 ⊢
    omega
  | sign h1 h2 h3 h4 i =>
    have l1 := at_lt h2
    simp only [Job.held, List.length_nil, List.length_cons] at i ⊢
    omega
  | plain h1 h2 i => simp only [Job.held, List.length_nil] at i ⊢; omega
  | num h1 h2 => have l1 := at_lt h1; simp only [Job.held, List.length_nil, List.length_cons]; omega
  | text h1 h2 => have l1 := at_lt h1; simp only [Job.held, List.length_nil, List.length_cons]; omega
  | truth h1 h2 => have l1 := at_lt h1; simp only [Job.held, List.length_nil, List.length_cons]; omega
  | name h1 h2 h3 h4 => have l1 := at_lt h1; simp only [Job.held, List.length_nil, List.length_cons]; omega
  | call h1 h2 h3 h4 h5 i =>
    have l1 := at_lt h1; have l2 := isT_lt h4
    simp only [Job.held, List.length_nil, List.length_cons] at i ⊢
    omega
  | paren h1 h2 h3 i =>
    have l1 := isT_lt h1; have l2 := isT_lt h3
    simp only [Job.held, List.length_nil] at i ⊢
    omega
  | list h1 h2 i =>
    have l1 := isT_lt h1
    simp only [Job.held, List.length_nil, List.length_cons] at i ⊢
    omega
  | close h => have l1 := isT_lt h; simp only [Job.held]; omega
  | @part w n out p p0 d a q m c q2 m2 h1 h2 h3 h4 h5 i1 i2 =>
    simp only [Job.held, List.length_nil, List.length_append] at i1 i2 ⊢
    by_cases hn : n = 0
    · have := h2 hn; omega
    · have hc := h3 hn
      have := isT_lt hc.1
      omega

end Go.Proofs.YtncehcklppakcaaGreatDoor

/-
  What is read is one: Rs leaves no choice.
-/
namespace Go.Proofs.YtncehcklppakcaaGreatDoor
set_option linter.unusedVariables false

theorem tk_one {tk : List Tk} {p : Nat} {x y : Tk} (h : tk[p]? = some x) (k : tk[p]? = some y) : x = y := by
  rw [h] at k; injection k
theorem tf {P : Prop} {b : Bool} (h : b = true) (k : b = false) : P := by rw [h] at k; cases k
theorem sign_no {tk : List Tk} {p : Nat} {w : List UInt8} {k : Int} {s : ByteArray} (h : isT tk p w = true) (hk : tk[p]? = some (k, s)) (hn : k ≠ 4) {P : Prop} : P := by
  obtain ⟨s', h', -⟩ := isT_kind h
  have := tk_one h' hk
  simp only [Prod.mk.injEq] at this
  exact absurd this.1.symm hn
theorem two_signs {tk : List Tk} {p : Nat} {w v : List UInt8} (h : isT tk p w = true) (k : isT tk p v = true) (hn : w ≠ v) {P : Prop} : P := by
  obtain ⟨s, h1, h2⟩ := isT_kind h
  obtain ⟨s', k1, k2⟩ := isT_kind k
  have := tk_one h1 k1
  simp only [Prod.mk.injEq, true_and] at this
  subst this
  exact absurd (h2.symm.trans k2) hn

theorem Rs.uniq {tk : List Tk} {j : Job} {p d : Nat} {c : List Cl} {q m : Nat} (h : Rs tk j p d c q m) : ∀ {c' : List Cl} {q' m' : Nat}, Rs tk j p d c' q' m' → c = c' ∧ q = q' ∧ m = m' := by
  induction h with
  | one h1 h2 h3 i =>
    intro c' q' m' h'
    cases h' with
    | one k1 k2 k3 => obtain ⟨rfl, rfl, -⟩ := i k2; exact ⟨rfl, rfl, rfl⟩
    | three k1 k2 k3 k4 k5 k6 => obtain ⟨rfl, rfl, -⟩ := i k2; exact tf k3 h3
  | three h1 h2 h3 h4 h5 h6 i1 i2 i3 =>
    intro c' q' m' h'
    cases h' with
    | one k1 k2 k3 => obtain ⟨rfl, rfl, -⟩ := i1 k2; exact tf h3 k3
    | three k1 k2 k3 k4 k5 k6 =>
      obtain ⟨rfl, rfl, -⟩ := i1 k2
      obtain ⟨rfl, rfl, -⟩ := i2 k4
      obtain ⟨rfl, rfl, -⟩ := i3 k6
      exact ⟨rfl, rfl, rfl⟩
  | seven h i =>
    intro c' q' m' h'
    cases h' with
    | seven k => obtain ⟨rfl, rfl, -⟩ := i k; exact ⟨rfl, rfl, rfl⟩
    | level k1 k2 k3 => omega
  | level h1 h2 h3 i1 i2 =>
    intro c' q' m' h'
    cases h' with
    | seven k => omega
    | level k1 k2 k3 =>
      obtain ⟨rfl, rfl, -⟩ := i1 k2
      obtain ⟨rfl, rfl, -⟩ := i2 k3
      exact ⟨rfl, rfl, rfl⟩
  | stop h =>
    intro c' q' m' h'
    cases h' with
    | stop k => exact ⟨rfl, rfl, rfl⟩
    | more k1 k2 k3 k4 k5 =>
      rcases h with h | ⟨h, hn⟩
      · exact absurd k1 h
      · rcases k2 with k2 | k2
        · exact absurd h k2
        · exact absurd k2 hn
  | more h1 h2 h3 h4 h5 i1 i2 =>
    intro c' q' m' h'
    cases h' with
    | stop k =>
      rcases k with k | ⟨k, hn⟩
      · exact absurd h1 k
      · rcases h2 with h2 | h2
        · exact absurd k h2
        · exact absurd h2 hn
    | more k1 k2 k3 k4 k5 =>
      have e := tk_one h3 k3
      simp only [Prod.mk.injEq, true_and] at e
      subst e
      obtain ⟨rfl, rfl, -⟩ := i1 k4
      obtain ⟨rfl, rfl, -⟩ := i2 k5
      exact ⟨rfl, rfl, rfl⟩
  | sign h1 h2 h3 h4 i =>
    intro c' q' m' h'
    cases h' with
    | sign k1 k2 k3 k4 =>
      have e := tk_one h2 k2
      simp only [Prod.mk.injEq, true_and] at e
      subst e
      obtain ⟨rfl, rfl, -⟩ := i k4
      exact ⟨rfl, rfl, rfl⟩
    | plain k1 k2 => exact tf h1 k1
  | plain h1 h2 i =>
    intro c' q' m' h'
    cases h' with
    | sign k1 k2 k3 k4 => exact tf k1 h1
    | plain k1 k2 => obtain ⟨rfl, rfl, -⟩ := i k2; exact ⟨rfl, rfl, rfl⟩
  | num h1 h2 =>
    intro c' q' m' h'
    cases h' with
    | num k1 k2 => have e := tk_one h1 k1; simp only [Prod.mk.injEq, true_and] at e; subst e; exact ⟨rfl, rfl, rfl⟩
    | text k1 k2 => have e := tk_one h1 k1; simp at e
    | truth k1 k2 => have e := tk_one h1 k1; simp at e
    | name k1 k2 k3 k4 => have e := tk_one h1 k1; simp at e
    | call k1 k2 k3 k4 k5 => have e := tk_one h1 k1; simp at e
    | paren k1 k2 k3 => exact sign_no k1 h1 (by decide)
    | list k1 k2 => exact sign_no k1 h1 (by decide)
  | text h1 h2 =>
    intro c' q' m' h'
    cases h' with
    | num k1 k2 => have e := tk_one h1 k1; simp at e
    | text k1 k2 => have e := tk_one h1 k1; simp only [Prod.mk.injEq, true_and] at e; subst e; exact ⟨rfl, rfl, rfl⟩
    | truth k1 k2 => have e := tk_one h1 k1; simp at e
    | name k1 k2 k3 k4 => have e := tk_one h1 k1; simp at e
    | call k1 k2 k3 k4 k5 => have e := tk_one h1 k1; simp at e
    | paren k1 k2 k3 => exact sign_no k1 h1 (by decide)
    | list k1 k2 => exact sign_no k1 h1 (by decide)
  | truth h1 h2 =>
    intro c' q' m' h'
    cases h' with
    | num k1 k2 => have e := tk_one h1 k1; simp at e
    | text k1 k2 => have e := tk_one h1 k1; simp at e
    | truth k1 k2 => have e := tk_one h1 k1; simp only [Prod.mk.injEq, true_and] at e; subst e; exact ⟨rfl, rfl, rfl⟩
    | name k1 k2 k3 k4 =>
      have e := tk_one h1 k1; simp only [Prod.mk.injEq, true_and] at e; subst e
      rcases h2 with h2 | h2
      · exact absurd h2 k2
      · exact absurd h2 k3
    | call k1 k2 k3 k4 k5 =>
      have e := tk_one h1 k1; simp only [Prod.mk.injEq, true_and] at e; subst e
      rcases h2 with h2 | h2
      · exact absurd h2 k2
      · exact absurd h2 k3
    | paren k1 k2 k3 => exact sign_no k1 h1 (by decide)
    | list k1 k2 => exact sign_no k1 h1 (by decide)
  | name h1 h2 h3 h4 =>
    intro c' q' m' h'
    cases h' with
    | num k1 k2 => have e := tk_one h1 k1; simp at e
    | text k1 k2 => have e := tk_one h1 k1; simp at e
    | truth k1 k2 =>
      have e := tk_one h1 k1; simp only [Prod.mk.injEq, true_and] at e; subst e
      rcases k2 with k2 | k2
      · exact absurd k2 h2
      · exact absurd k2 h3
    | name k1 k2 k3 k4 => have e := tk_one h1 k1; simp only [Prod.mk.injEq, true_and] at e; subst e; exact ⟨rfl, rfl, rfl⟩
    | call k1 k2 k3 k4 k5 => exact tf k4 h4
    | paren k1 k2 k3 => exact sign_no k1 h1 (by decide)
    | list k1 k2 => exact sign_no k1 h1 (by decide)
  | call h1 h2 h3 h4 h5 i =>
    intro c' q' m' h'
    cases h' with
    | num k1 k2 => have e := tk_one h1 k1; simp at e
    | text k1 k2 => have e := tk_one h1 k1; simp at e
    | truth k1 k2 =>
      have e := tk_one h1 k1; simp only [Prod.mk.injEq, true_and] at e; subst e
      rcases k2 with k2 | k2
      · exact absurd k2 h2
      · exact absurd k2 h3
    | name k1 k2 k3 k4 => exact tf h4 k4
    | call k1 k2 k3 k4 k5 =>
      have e := tk_one h1 k1; simp only [Prod.mk.injEq, true_and] at e; subst e
      obtain ⟨rfl, rfl, rfl⟩ := i k5
      exact ⟨rfl, rfl, rfl⟩
    | paren k1 k2 k3 => exact sign_no k1 h1 (by decide)
    | list k1 k2 => exact sign_no k1 h1 (by decide)
  | paren h1 h2 h3 i =>
    intro c' q' m' h'
    cases h' with
    | num k1 k2 => exact sign_no h1 k1 (by decide)
    | text k1 k2 => exact sign_no h1 k1 (by decide)
    | truth k1 k2 => exact sign_no h1 k1 (by decide)
    | name k1 k2 k3 k4 => exact sign_no h1 k1 (by decide)
    | call k1 k2 k3 k4 k5 => exact sign_no h1 k1 (by decide)
    | paren k1 k2 k3 => obtain ⟨rfl, rfl, -⟩ := i k2; exact ⟨rfl, rfl, rfl⟩
    | list k1 k2 => exact two_signs h1 k1 (by decide)
  | list h1 h2 i =>
    intro c' q' m' h'
    cases h' with
    | num k1 k2 => exact sign_no h1 k1 (by decide)
    | text k1 k2 => exact sign_no h1 k1 (by decide)
    | truth k1 k2 => exact sign_no h1 k1 (by decide)
    | name k1 k2 k3 k4 => exact sign_no h1 k1 (by decide)
    | call k1 k2 k3 k4 k5 => exact sign_no h1 k1 (by decide)
    | paren k1 k2 k3 => exact two_signs h1 k1 (by decide)
    | list k1 k2 => obtain ⟨rfl, rfl, rfl⟩ := i k2; exact ⟨rfl, rfl, rfl⟩
  | close h =>
    intro c' q' m' h'
    cases h' with
    | close k => exact ⟨rfl, rfl, rfl⟩
    | part k1 k2 k3 k4 k5 => exact tf h k1
  | @part w n out p p0 d a q m c q2 m2 h1 h2 h3 h4 h5 i1 i2 =>
    intro c' q' m' h'
    cases h' with
    | close k => exact tf k h1
    | @part _ _ _ _ p0' _ _ _ _ _ _ _ k1 k2 k3 k4 k5 =>
      have e : p0 = p0' := by
        by_cases hn : n = 0
        · rw [h2 hn, k2 hn]
        · rw [(h3 hn).2, (k3 hn).2]
      subst e
      obtain ⟨rfl, rfl, -⟩ := i1 k4
      exact i2 k5

end Go.Proofs.YtncehcklppakcaaGreatDoor

/-
  Where nothing is read that could be a valid expression (NoRd).
-/
namespace Go.Proofs.YtncehcklppakcaaGreatDoor
set_option linter.unusedVariables false

/-- Cells of which a valid expression may consist. -/
def fineC (c : List Cl) : Prop := c.length ≤ 60 ∧ ∀ x ∈ c, okC x = true
theorem fineC.sub {a c : List Cl} (h : fineC c) (hl : a.length ≤ c.length) (hm : ∀ x ∈ a, x ∈ c) : fineC a := ⟨Nat.le_trans hl h.1, fun x hx => h.2 x (hm x hx)⟩
def NoRd (tk : List Tk) (j : Job) (p d : Nat) : Prop := ¬ ∃ c q m, Rs tk j p d c q m ∧ fineC c ∧ m ≤ 8
theorem Rs.mem {tk : List Tk} {j : Job} {p d : Nat} {c : List Cl} {q m : Nat} (h : Rs tk j p d c q m) : ∀ x ∈ j.held, x ∈ c := by
  induction h with
  | stop h => intro x hx; exact hx
  | more h1 h2 h3 h4 h5 i1 i2 => intro x hx; exact i2 x (by simp only [Job.held] at hx ⊢; simp [hx])
  | close h => intro x hx; exact hx
  | part h1 h2 h3 h4 h5 i1 i2 => intro x hx; exact i2 x (by simp only [Job.held] at hx ⊢; simp [hx])
  | _ => intro x hx; simp [Job.held] at hx
def Job.many : Job → Nat
  | .parts _ n _ => n
  | _ => 0
theorem Rs.many {tk : List Tk} {j : Job} {p d : Nat} {c : List Cl} {q m : Nat} (h : Rs tk j p d c q m) : j.many ≤ m := by
  induction h with
  | close h => exact Nat.le_refl _
  | part h1 h2 h3 h4 h5 i1 i2 => simp only [Job.many] at i2 ⊢; omega
  | _ => exact Nat.zero_le _
theorem Rs.zero {tk : List Tk} {j : Job} {p d : Nat} {c : List Cl} {q m : Nat} (h : Rs tk j p d c q m) (hj : ∀ w n o, j ≠ .parts w n o) : m = 0 := by
  cases h with
  | close h => exact absurd rfl (hj _ _ _)
  | part h1 h2 h3 h4 h5 => exact absurd rfl (hj _ _ _)
  | _ => rfl
theorem NoRd.use {tk : List Tk} {j : Job} {p d : Nat} {c : List Cl} {q m : Nat} (h : NoRd tk j p d) (k : Rs tk j p d c q m) (hf : fineC c) (hm : m ≤ 8) : False := h ⟨c, q, m, k, hf, hm⟩

-- a choice
theorem choice_deep {tk : List Tk} {p d : Nat} (h : ¬ d + 1 ≤ 41) : NoRd tk .choice p d := by
  rintro ⟨c, q, m, k, -, -⟩
  cases k with
  | one k1 k2 k3 => exact h k1
  | three k1 k2 k3 k4 k5 k6 => exact h k1
theorem choice_level {tk : List Tk} {p d : Nat} (h : NoRd tk (.level 2) p (d + 1)) : NoRd tk .choice p d := by
  rintro ⟨c, q, m, k, hf, -⟩
  cases k with
  | one k1 k2 k3 => exact h.use k2 hf (by rw [k2.zero (by intros; simp)]; omega)
  | three k1 k2 k3 k4 k5 k6 => exact h.use k2 (hf.sub (by simp; omega) (fun x hx => by simp [hx])) (by rw [k2.zero (by intros; simp)]; omega)
theorem choice_second {tk : List Tk} {p d : Nat} {a : List Cl} {q m : Nat} (h : Rs tk (.level 2) p (d + 1) a q m) (hq : isT tk q [63] = true) (hn : NoRd tk .choice (q + 1) (d + 1)) : NoRd tk .choice p d := by
  rintro ⟨c, q', m', k, hf, -⟩
  cases k with
  | one k1 k2 k3 => obtain ⟨rfl, rfl, -⟩ := h.uniq k2; exact tf hq k3
  | three k1 k2 k3 k4 k5 k6 =>
    obtain ⟨rfl, rfl, -⟩ := h.uniq k2
    exact hn.use k4 (hf.sub (by simp; omega) (fun x hx => by simp [hx])) (by rw [k4.zero (by intros; simp)]; omega)
theorem choice_colon {tk : List Tk} {p d : Nat} {a b : List Cl} {q m q2 m2 : Nat} (h : Rs tk (.level 2) p (d + 1) a q m) (hq : isT tk q [63] = true) (h2 : Rs tk .choice (q + 1) (d + 1) b q2 m2) (hc : isT tk q2 [58] = false) : NoRd tk .choice p d := by
  rintro ⟨c, q', m', k, hf, -⟩
  cases k with
  | one k1 k2 k3 => obtain ⟨rfl, rfl, -⟩ := h.uniq k2; exact tf hq k3
  | three k1 k2 k3 k4 k5 k6 =>
    obtain ⟨rfl, rfl, -⟩ := h.uniq k2
    obtain ⟨rfl, rfl, -⟩ := h2.uniq k4
    exact tf k5 hc
theorem choice_third {tk : List Tk} {p d : Nat} {a b : List Cl} {q m q2 m2 : Nat} (h : Rs tk (.level 2) p (d + 1) a q m) (hq : isT tk q [63] = true) (h2 : Rs tk .choice (q + 1) (d + 1) b q2 m2) (hn : NoRd tk .choice (q2 + 1) (d + 1)) : NoRd tk .choice p d := by
  rintro ⟨c, q', m', k, hf, -⟩
  cases k with
  | one k1 k2 k3 => obtain ⟨rfl, rfl, -⟩ := h.uniq k2; exact tf hq k3
  | three k1 k2 k3 k4 k5 k6 =>
    obtain ⟨rfl, rfl, -⟩ := h.uniq k2
    obtain ⟨rfl, rfl, -⟩ := h2.uniq k4
    exact hn.use k6 (hf.sub (by simp; omega) (fun x hx => by simp [hx])) (by rw [k6.zero (by intros; simp)]; omega)
-- levels
theorem level_no {tk : List Tk} {r p d : Nat} (hr : r < 7) (h : NoRd tk (.level (r + 1)) p d) : NoRd tk (.level r) p d := by
  rintro ⟨c, q, m, k, hf, -⟩
  cases k with
  | seven k => omega
  | level k1 k2 k3 =>
    have l1 := k3.le.2.2.1
    have l2 := k3.mem
    exact h.use k2 (hf.sub l1 l2) (by rw [k2.zero (by intros; simp)]; omega)
theorem level_seven {tk : List Tk} {p d : Nat} (h : NoRd tk .unary p d) : NoRd tk (.level 7) p d := by
  rintro ⟨c, q, m, k, hf, -⟩
  cases k with
  | seven k => exact h.use k hf (by rw [k.zero (by intros; simp)]; omega)
  | level k1 k2 k3 => omega
/-- Where the rest of a level stands. -/
def Through (tk : List Tk) (r p d n : Nat) (a : List Cl) (q : Nat) : Prop :=
  (∀ c q2 m2, Rs tk (.loop r n a) q d c q2 m2 → Rs tk (.level r) p d c q2 0) ∧ (∀ c q2 m2, Rs tk (.level r) p d c q2 m2 → Rs tk (.loop r n a) q d c q2 0)
theorem Through.start {tk : List Tk} {r p d : Nat} {a : List Cl} {q m : Nat} (hr : r < 7) (h : Rs tk (.level (r + 1)) p d a q m) : Through tk r p d 0 a q := by
  refine ⟨fun c q2 m2 k => .level hr h k, fun c q2 m2 k => ?_⟩
  cases k with
  | seven k => omega
  | level k1 k2 k3 =>
    obtain ⟨rfl, rfl, -⟩ := h.uniq k2
    have := k3.zero (by intros; simp)
    subst this
    exact k3
theorem Through.next {tk : List Tk} {r p d n : Nat} {a b : List Cl} {q q1 m : Nat} {s : ByteArray} (h : Through tk r p d n a q) (h1 : rkT tk q = (r : Int)) (h2 : r ≠ 4 ∨ n = 0) (h3 : tk[q]? = some (4, s)) (h4 : Rs tk (.level (r + 1)) (q + 1) d b q1 m) :
    Through tk r p d (n + 1) ((8, s, 2) :: (a ++ b)) q1 := by
  refine ⟨fun c q2 m2 k => h.1 c q2 0 (.more h1 h2 h3 h4 k), fun c q2 m2 k => ?_⟩
  have k' := h.2 c q2 m2 k
  clear k
  cases k' with
  | stop z =>
    rcases z with z | ⟨z, zn⟩
    · exact absurd h1 z
    · rcases h2 with h2 | h2
      · exact absurd z h2
      · exact absurd h2 zn
  | more k1 k2 k3 k4 k5 =>
    have e := tk_one h3 k3
    simp only [Prod.mk.injEq, true_and] at e
    subst e
    obtain ⟨rfl, rfl, -⟩ := h4.uniq k4
    have := k5.zero (by intros; simp)
    subst this
    exact k5
theorem Through.done {tk : List Tk} {r p d n : Nat} {a : List Cl} {q : Nat} (h : Through tk r p d n a q) (hs : rkT tk q ≠ (r : Int) ∨ (r = 4 ∧ n ≠ 0)) : Rs tk (.level r) p d a q 0 := h.1 a q 0 (.stop hs)
theorem Through.fail {tk : List Tk} {r p d n : Nat} {a : List Cl} {q : Nat} (h : Through tk r p d n a q) (h1 : rkT tk q = (r : Int)) (h2 : r ≠ 4 ∨ n = 0) (hn : NoRd tk (.level (r + 1)) (q + 1) d) : NoRd tk (.level r) p d := by
  rintro ⟨c, q2, m2, k, hf, -⟩
  have k' := h.2 c q2 m2 k
  clear k
  cases k' with
  | stop z =>
    rcases z with z | ⟨z, zn⟩
    · exact absurd h1 z
    · rcases h2 with h2 | h2
      · exact absurd z h2
      · exact absurd h2 zn
  | more k1 k2 k3 k4 k5 =>
    have l1 := k5.le.2.2.1
    have l2 := k5.mem
    simp only [Job.held, List.length_cons, List.length_append] at l1 l2
    exact hn.use k4 (hf.sub (by omega) (fun x hx => l2 x (by simp [hx]))) (by rw [k4.zero (by intros; simp)]; omega)
theorem Through.long {tk : List Tk} {r p d n : Nat} {a : List Cl} {q : Nat} (h : Through tk r p d n a q) (hl : 60 < a.length) : NoRd tk (.level r) p d := by
  rintro ⟨c, q2, m2, k, hf, -⟩
  have l1 := (h.2 c q2 m2 k).le.2.2.1
  simp only [Job.held] at l1
  have := hf.1
  omega
-- signs before
theorem unary_deep {tk : List Tk} {p d : Nat} (hu : unaryT tk p = true) (h : ¬ d + 1 ≤ 41) : NoRd tk .unary p d := by
  rintro ⟨c, q, m, k, -, -⟩
  cases k with
  | sign k1 k2 k3 k4 => exact h k3
  | plain k1 k2 => exact tf hu k1
theorem unary_no {tk : List Tk} {p d : Nat} (hu : unaryT tk p = true) (h : NoRd tk .unary (p + 1) (d + 1)) : NoRd tk .unary p d := by
  rintro ⟨c, q, m, k, hf, -⟩
  cases k with
  | sign k1 k2 k3 k4 => exact h.use k4 (hf.sub (by simp) (fun x hx => by simp [hx])) (by rw [k4.zero (by intros; simp)]; omega)
  | plain k1 k2 => exact tf hu k1
theorem unary_plain {tk : List Tk} {p d : Nat} (hu : unaryT tk p = false) (h : NoRd tk .atom p d) : NoRd tk .unary p d := by
  rintro ⟨c, q, m, k, hf, -⟩
  cases k with
  | sign k1 k2 k3 k4 => exact tf k1 hu
  | plain k1 k2 => exact h.use k2 hf (by rw [k2.zero (by intros; simp)]; omega)
-- parts
/-- Where the rest of parts stands. -/
def Among (tk : List Tk) (w : List UInt8) (p d n : Nat) (out : List Cl) (q : Nat) : Prop :=
  (∀ c q2 m2, Rs tk (.parts w n out) q d c q2 m2 → Rs tk (.parts w 0 []) p d c q2 m2) ∧ (∀ c q2 m2, Rs tk (.parts w 0 []) p d c q2 m2 → Rs tk (.parts w n out) q d c q2 m2)
theorem Among.start (tk : List Tk) (w : List UInt8) (p d : Nat) : Among tk w p d 0 [] p := ⟨fun _ _ _ k => k, fun _ _ _ k => k⟩
theorem Among.done {tk : List Tk} {w : List UInt8} {p d n : Nat} {out : List Cl} {q : Nat} (h : Among tk w p d n out q) (hs : isT tk q w = true) : Rs tk (.parts w 0 []) p d out (q + 1) n := h.1 out (q + 1) n (.close hs)
theorem Among.next {tk : List Tk} {w : List UInt8} {p d n : Nat} {out a : List Cl} {q q0 q1 m : Nat} (h : Among tk w p d n out q) (hs : isT tk q w = false) (h1 : n = 0 → q0 = q) (h2 : n ≠ 0 → isT tk q [44] = true ∧ q0 = q + 1) (hr : Rs tk .choice q0 d a q1 m) : Among tk w p d (n + 1) (out ++ a) q1 := by
  refine ⟨fun c q2 m2 k => h.1 c q2 m2 (.part hs h1 h2 hr k), fun c q2 m2 k => ?_⟩
  have k' := h.2 c q2 m2 k
  clear k
  cases k' with
  | close z => exact tf z hs
  | @part _ _ _ _ q0' _ _ _ _ _ _ _ k1 k2 k3 k4 k5 =>
    have e : q0 = q0' := by
      by_cases hn : n = 0
      · rw [h1 hn, k2 hn]
      · rw [(h2 hn).2, (k3 hn).2]
    subst e
    obtain ⟨rfl, rfl, -⟩ := hr.uniq k4
    exact k5
theorem Among.comma {tk : List Tk} {w : List UInt8} {p d n : Nat} {out : List Cl} {q : Nat} (h : Among tk w p d n out q) (hs : isT tk q w = false) (hn : n ≠ 0) (hc : isT tk q [44] = false) : NoRd tk (.parts w 0 []) p d := by
  rintro ⟨c, q2, m2, k, hf, -⟩
  have k' := h.2 c q2 m2 k
  clear k
  cases k' with
  | close z => exact tf z hs
  | part k1 k2 k3 k4 k5 => exact tf (k3 hn).1 hc
theorem Among.fail {tk : List Tk} {w : List UInt8} {p d n : Nat} {out : List Cl} {q q0 : Nat} (h : Among tk w p d n out q) (hs : isT tk q w = false) (h1 : n = 0 → q0 = q) (h2 : n ≠ 0 → isT tk q [44] = true ∧ q0 = q + 1) (hr : NoRd tk .choice q0 d) : NoRd tk (.parts w 0 []) p d := by
  rintro ⟨c, q2, m2, k, hf, -⟩
  have k' := h.2 c q2 m2 k
  clear k
  cases k' with
  | close z => exact tf z hs
  | @part _ _ _ _ q0' _ _ _ _ _ _ _ k1 k2 k3 k4 k5 =>
    have e : q0 = q0' := by
      by_cases hn : n = 0
      · rw [h1 hn, k2 hn]
      · rw [(h2 hn).2, (k3 hn).2]
    subst e
    have l1 := k5.le.2.2.1
    have l2 := k5.mem
    simp only [Job.held, List.length_append] at l1 l2
    exact hr.use k4 (hf.sub (by omega) (fun x hx => l2 x (by simp [hx]))) (by rw [k4.zero (by intros; simp)]; omega)
theorem Among.many {tk : List Tk} {w : List UInt8} {p d n : Nat} {out : List Cl} {q : Nat} (h : Among tk w p d n out q) (hs : isT tk q w = false) (hn : 8 ≤ n) : NoRd tk (.parts w 0 []) p d := by
  rintro ⟨c, q2, m2, k, hf, hm⟩
  have k' := h.2 c q2 m2 k
  clear k
  cases k' with
  | close z => exact tf z hs
  | part k1 k2 k3 k4 k5 =>
    have := k5.many
    simp only [Job.many] at this
    omega

end Go.Proofs.YtncehcklppakcaaGreatDoor

/-
  Both ways of reading agree, plainly: where few signs nest anything, Rg (by strength, as the program reads) and Rs (level by level) read the same cells.
-/
namespace Go.Proofs.YtncehcklppakcaaGreatDoor
set_option linter.unusedVariables false

/-- A sign that nests what follows. -/
def nestW (w : List UInt8) : Bool := w == [40] || w == [91] || w == [63] || w == [33] || w == [45]
def nestK (x : Tk) : Bool := x.1 == 4 && nestW x.2.data.toList
/-- How many of them stand before a place. -/
def preN (tk : List Tk) (p : Nat) : Nat := (tk.take p).countP nestK
theorem preN_mono (tk : List Tk) {p q : Nat} (h : p ≤ q) : preN tk p ≤ preN tk q := by
  unfold preN
  have : tk.take q = tk.take p ++ (tk.drop p).take (q - p) := by
    rw [← List.take_add]; congr 1; omega
  rw [this, List.countP_append]; omega
theorem preN_all (tk : List Tk) (p : Nat) : preN tk p ≤ tk.countP nestK := by
  unfold preN
  have := List.take_append_drop p tk
  calc (tk.take p).countP nestK ≤ (tk.take p).countP nestK + (tk.drop p).countP nestK := Nat.le_add_right _ _
    _ = (tk.take p ++ tk.drop p).countP nestK := (List.countP_append).symm
    _ = tk.countP nestK := by rw [this]
theorem preN_step {tk : List Tk} {p : Nat} {w : List UInt8} (h : isT tk p w = true) (hw : w = [40] ∨ w = [91] ∨ w = [63] ∨ w = [33] ∨ w = [45]) : preN tk (p + 1) = preN tk p + 1 := by
  obtain ⟨s, hs, rfl⟩ := isT_kind h
  obtain ⟨hl, he⟩ := List.getElem?_eq_some_iff.mp hs
  unfold preN
  rw [← List.take_append_getElem hl, List.countP_append, he]
  have hn : nestK (4, s) = true := by
    unfold nestK nestW
    rcases hw with hw | hw | hw | hw | hw <;> simp [hw]
  rw [List.countP_cons, if_pos hn, List.countP_nil]
theorem unaryT_w {tk : List Tk} {p : Nat} (h : unaryT tk p = true) : preN tk (p + 1) = preN tk p + 1 := by
  unfold unaryT at h
  rw [Bool.or_eq_true] at h
  rcases h with h | h
  · exact preN_step h (by simp)
  · exact preN_step h (by simp)

theorem rkT_sign {tk : List Tk} {p : Nat} {w : List UInt8} (h : isT tk p w = true) (hw : rankL w = 0) : rkT tk p = 0 := by
  obtain ⟨s, hs, rfl⟩ := isT_kind h
  unfold rkT
  rw [hs]
  simp only [if_true]
  exact hw
theorem rkT_end {tk : List Tk} {p : Nat} (h : tk.length ≤ p) : rkT tk p = 0 := by
  unfold rkT; rw [List.getElem?_eq_none h]
theorem rkT_top (tk : List Tk) (p : Nat) : rkT tk p ≤ 6 ∧ 0 ≤ rkT tk p := by
  unfold rkT
  split
  · rename_i k s hs
    split
    · unfold rankL; repeat' split
      all_goals omega
    · omega
  · omega

/-- How deep what is read is nested: at most as deep as there are signs in it that nest. -/
def GJob.hn : GJob → Nat
  | .loop _ _ na => na
  | .series _ _ _ no => no
  | _ => 0
theorem Rg.few {tk : List Tk} {j : GJob} {p : Nat} {c : List Cl} {q m n : Nat} (h : Rg tk j p c q m n) : n ≤ j.hn ∨ n + preN tk p ≤ preN tk q := by
  induction h with
  | one h1 h2 i => exact i
  | @three p a q m n b q2 m2 n2 c q3 m3 n3 h1 h2 h3 h4 h5 i1 i2 i3 =>
    have e := preN_step h2 (by simp)
    have l1 := preN_mono tk h1.le.2.2.2; have l2 := preN_mono tk h3.le.2.2.2; have l3 := preN_mono tk h5.le.2.2.2
    have l4 := preN_mono tk (Nat.le_succ q2)
    simp only [GJob.hn] at i1 i2 i3 ⊢
    right; simp only [Nat.succ_eq_add_one] at l4; omega
  | bin h1 h2 i1 i2 =>
    have l1 := preN_mono tk h1.le.2.2.2; have l2 := preN_mono tk h2.le.2.2.2
    simp only [GJob.hn] at i1 i2 ⊢
    omega
  | stop h => left; exact Nat.le_refl _
  | @more r k a na p s b q m n c q2 m2 n2 h1 h2 h3 h4 h5 h6 h7 i1 i2 =>
    have l1 := preN_mono tk h5.le.2.2.2; have l2 := preN_mono tk h7.le.2.2.2; have l4 := preN_mono tk (Nat.le_succ p)
    simp only [GJob.hn, Nat.succ_eq_add_one] at i1 i2 l4 ⊢
    omega
  | @sign p s a q m n h1 h2 h3 i =>
    have e := unaryT_w h1
    simp only [GJob.hn] at i ⊢
    have l1 := preN_mono tk h3.le.2.2.2
    omega
  | plain h1 h2 i => exact i
  | num h1 h2 => left; exact Nat.zero_le _
  | text h1 h2 => left; exact Nat.zero_le _
  | truth h1 h2 => left; exact Nat.zero_le _
  | name h1 h2 h3 h4 => left; exact Nat.zero_le _
  | @call p s l q m n h1 h2 h3 h4 h5 i =>
    have e : preN tk (p + 2) = preN tk (p + 1) + 1 := preN_step h4 (by simp)
    have l1 := preN_mono tk h5.le.2.2.2; have l4 := preN_mono tk (Nat.le_succ p)
    simp only [GJob.hn, Nat.succ_eq_add_one] at i l4 ⊢
    omega
  | @paren p a q m n h1 h2 h3 i =>
    have e := preN_step h1 (by simp)
    have l1 := preN_mono tk h2.le.2.2.2; have l4 := preN_mono tk (Nat.le_succ q)
    simp only [GJob.hn, Nat.succ_eq_add_one] at i l4 ⊢
    omega
  | @list p l q m n h1 h2 i =>
    have e := preN_step h1 (by simp)
    have l1 := preN_mono tk h2.le.2.2.2
    simp only [GJob.hn] at i ⊢
    omega
  | close h => left; exact Nat.le_refl _
  | @part w k out no p p0 a q m n c q2 m2 n2 h1 h2 h3 h4 h5 i1 i2 =>
    have hp0 : p ≤ p0 := by
      by_cases hk : k = 0
      · rw [h2 hk]; exact Nat.le_refl _
      · rw [(h3 hk).2]; omega
    have l0 := preN_mono tk hp0
    have l1 := preN_mono tk h4.le.2.2.2; have l2 := preN_mono tk h5.le.2.2.2
    simp only [GJob.hn] at i1 i2 ⊢
    omega

-- from the program's way to the levels
/-- The loops of all levels down to one, behind what binds tightest. -/
inductive Fd (tk : List Tk) (d : Nat) : Nat → List Cl → Nat → List Cl → Nat → Prop
  | top {a p} : Fd tk d 7 a p a p
  | step {r a p a' p' c q} : r < 7 → Fd tk d (r + 1) a p a' p' → Rs tk (.loop r 0 a') p' d c q 0 → Fd tk d r a p c q
theorem Fd.le7 {tk : List Tk} {d r : Nat} {a c : List Cl} {p q : Nat} (h : Fd tk d r a p c q) : r ≤ 7 := by
  cases h with
  | top => omega
  | step h1 h2 h3 => omega
theorem Fd.level {tk : List Tk} {d r p0 m : Nat} {a c : List Cl} {p q : Nat} (h : Fd tk d r a p c q) (hu : Rs tk .unary p0 d a p m) : Rs tk (.level r) p0 d c q 0 := by
  induction h with
  | top => exact .seven hu
  | step h1 h2 h3 i => exact .level h1 (i hu) h3
theorem Fd.same {tk : List Tk} (d : Nat) (a : List Cl) (p : Nat) : ∀ (k r : Nat), r + k = 7 → rkT tk p < (r : Int) → Fd tk d r a p a p := by
  intro k
  induction k with
  | zero => intro r hr hk; obtain rfl : r = 7 := by omega
            exact .top
  | succ k ih => intro r hr hk; exact .step (by omega) (ih (r + 1) (by omega) (by omega)) (.stop (.inl (by omega)))
theorem Fd.still {tk : List Tk} {d r : Nat} {a c : List Cl} {p q : Nat} (h : Fd tk d r a p c q) (hr : rkT tk p < (r : Int)) : c = a ∧ q = p := by
  induction h with
  | top => exact ⟨rfl, rfl⟩
  | step h1 h2 h3 i =>
    obtain ⟨rfl, rfl⟩ := i (by omega)
    cases h3 with
    | stop k => exact ⟨rfl, rfl⟩
    | more k1 k2 k3 k4 k5 => omega
theorem loop_many {tk : List Tk} {r n : Nat} {a : List Cl} {p d : Nat} {c : List Cl} {q m : Nat} (hr : r ≠ 4) (h : Rs tk (.loop r n a) p d c q m) : ∀ n', Rs tk (.loop r n' a) p d c q 0 := by
  generalize hj : Job.loop r n a = j at h
  induction h generalizing n a with
  | stop h =>
    cases hj
    intro n'
    exact .stop (.inl (h.resolve_right (fun h => hr h.1)))
  | more h1 h2 h3 h4 h5 i1 i2 =>
    cases hj
    intro n'
    exact .more h1 (.inl hr) h3 h4 (i2 rfl (n' + 1))
  | _ => cases hj
theorem Fd.more {tk : List Tk} {d r k : Nat} {A a b c : List Cl} {p q q2 : Nat} {s : ByteArray} (hk : k ≤ 6) (h1 : rkT tk p = (k : Int)) (h2 : tk[p]? = some (4, s)) (h3 : Rs tk (.level (k + 1)) (p + 1) d b q 0)
    (h4 : rkT tk q < ((k + 1 : Nat) : Int)) (h5 : ¬ (k = 4 ∧ rkT tk q = 4)) (hA : A = (8, s, 2) :: (a ++ b)) (h : Fd tk d r A q c q2) (hr : r ≤ k) : Fd tk d r a p c q2 := by
  induction h with
  | top => omega
  | @step r A q a' p' c q2 g1 g2 g3 i =>
    subst hA
    by_cases hrk : r = k
    · subst hrk
      obtain ⟨rfl, rfl⟩ := g2.still h4
      refine .step g1 (Fd.same d a p (6 - r) (r + 1) (by omega) (by omega)) (.more (m2 := 0) h1 (.inr rfl) h2 h3 ?_)
      by_cases h44 : r = 4
      · subst h44
        cases g3 with
        | stop k => exact .stop (.inl (fun e => h5 ⟨rfl, e⟩))
        | more k1 k2 k3 k4 k5 => exact absurd ⟨rfl, k1⟩ h5
      · exact loop_many h44 g3 1
    · exact .step g1 (i h3 h4 h5 rfl (by omega)) g3
theorem Rg.ends {tk : List Tk} {j : GJob} {p : Nat} {c : List Cl} {q m n : Nat} (h : Rg tk j p c q m n) : ∀ r, (j = .bin r ∨ ∃ a na, j = .loop r a na) → rkT tk q < (r : Int) := by
  induction h with
  | bin h1 h2 i1 i2 => intro r hr; rcases hr with hr | ⟨a, na, hr⟩
                       · cases hr; exact i2 _ (.inr ⟨_, _, rfl⟩)
                       · cases hr
  | stop h => intro r hr; rcases hr with hr | ⟨a, na, hr⟩
              · cases hr
              · cases hr; exact h
  | more h1 h2 h3 h4 h5 h6 h7 i1 i2 => intro r hr; rcases hr with hr | ⟨a, na, hr⟩
                                       · cases hr
                                       · cases hr; exact i2 _ (.inr ⟨_, _, rfl⟩)
  | _ => intro r hr; rcases hr with hr | ⟨a, na, hr⟩ <;> cases hr
/-- What a job of the program's way means for the levels. -/
def AgL (tk : List Tk) : GJob → Nat → List Cl → Nat → Nat → Nat → Prop
  | .choice, p, c, q, m, n => ∀ d, n + d ≤ 40 → Rs tk .choice p d c q 0
  | .bin r, p, c, q, m, n => r ≤ 7 → ∀ d, n + d ≤ 41 → Rs tk (.level r) p d c q 0
  | .loop r a na, p, c, q, m, n => r ≤ 7 → ∀ d, n + d ≤ 41 → Fd tk d r a p c q
  | .unary, p, c, q, m, n => ∀ d, n + d ≤ 41 → Rs tk .unary p d c q 0
  | .single, p, c, q, m, n => ∀ d, n + d ≤ 41 → Rs tk .atom p d c q 0
  | .series w k out no, p, c, q, m, n => ∀ d, n + d ≤ 40 → Rs tk (.parts w k out) p d c q m
theorem Rg.least {tk : List Tk} {j : GJob} {p : Nat} {c : List Cl} {q m n : Nat} (h : Rg tk j p c q m n) : j.hn ≤ n := by
  induction h with
  | stop h => exact Nat.le_refl _
  | close h => exact Nat.le_refl _
  | more h1 h2 h3 h4 h5 h6 h7 i1 i2 => simp only [GJob.hn] at i2 ⊢; omega
  | part h1 h2 h3 h4 h5 i1 i2 => simp only [GJob.hn] at i2 ⊢; omega
  | _ => exact Nat.zero_le _
theorem Rg.levels {tk : List Tk} {j : GJob} {p : Nat} {c : List Cl} {q m n : Nat} (h : Rg tk j p c q m n) : AgL tk j p c q m n := by
  induction h with
  | one h1 h2 i => intro d hd; exact .one (by omega) (i (by omega) (d + 1) (by omega)) h2
  | three h1 h2 h3 h4 h5 i1 i2 i3 => intro d hd; exact .three (by omega) (i1 (by omega) (d + 1) (by omega)) h2 (i2 (d + 1) (by omega)) h4 (i3 (d + 1) (by omega))
  | bin h1 h2 i1 i2 =>
    intro hr d hd
    have := h2.least
    simp only [GJob.hn] at this
    exact (i2 hr d hd).level (i1 d (by omega))
  | @stop r a na p h => intro hr d hd; exact Fd.same d a p (7 - r) r (by omega) h
  | @more r k a na p s b q m n c q2 m2 n2 h1 h2 h3 h4 h5 h6 h7 i1 i2 =>
    intro hr d hd
    have hk := (rkT_top tk p).1
    rw [h1] at hk
    have := h7.least
    simp only [GJob.hn] at this
    exact Fd.more (by omega) h1 h4 (i1 (by omega) d (by omega)) (h5.ends _ (.inl rfl)) h6 rfl (i2 hr d hd) h2
  | sign h1 h2 h3 i => intro d hd; exact .sign h1 h2 (by omega) (i (d + 1) (by omega))
  | plain h1 h2 i => intro d hd; exact .plain h1 (i d hd)
  | num h1 h2 => intro d hd; exact .num h1 h2
  | text h1 h2 => intro d hd; exact .text h1 h2
  | truth h1 h2 => intro d hd; exact .truth h1 h2
  | name h1 h2 h3 h4 => intro d hd; exact .name h1 h2 h3 h4
  | call h1 h2 h3 h4 h5 i => intro d hd; exact .call h1 h2 h3 h4 (i d (by omega))
  | paren h1 h2 h3 i => intro d hd; exact .paren h1 (i d (by omega)) h3
  | list h1 h2 i => intro d hd; exact .list h1 (i d (by omega))
  | close h => intro d hd; exact .close h
  | part h1 h2 h3 h4 h5 i1 i2 =>
    intro d hd
    have := h5.least
    simp only [GJob.hn] at this
    exact .part h1 h2 h3 (i1 d (by omega)) (i2 d hd)

-- from the levels to the program's way
theorem Rg.further {tk : List Tk} {r : Nat} {a : List Cl} {na p : Nat} {a' : List Cl} {q m n : Nat} (h : Rg tk (.loop (r + 1) a na) p a' q m n) : ∀ {c q2 m2 n2}, Rg tk (.loop r a' n) q c q2 m2 n2 → Rg tk (.loop r a na) p c q2 0 n2 := by
  generalize hj : GJob.loop (r + 1) a na = j at h
  induction h generalizing a na with
  | stop h =>
    cases hj
    intro c q2 m2 n2 k
    cases k with
    | stop k => exact .stop k
    | more k1 k2 k3 k4 k5 k6 k7 => exact .more k1 k2 k3 k4 k5 k6 k7
  | more h1 h2 h3 h4 h5 h6 h7 i1 i2 =>
    cases hj
    intro c q2 m2 n2 k
    exact .more h1 (by omega) h3 h4 h5 h6 (i2 rfl k)
  | _ => cases hj
/-- How a level ends: what follows is weaker, or a comparison behind a comparison. -/
def Le (tk : List Tk) (r q : Nat) : Prop := rkT tk q < (r : Int) ∨ (rkT tk q = 4 ∧ r ≤ 4)
/-- What a job of the levels means for the program's way. -/
def AgG (tk : List Tk) : Job → Nat → List Cl → Nat → Nat → Prop
  | .choice, p, c, q, m => rkT tk q ≠ 4 → ∃ n, Rg tk .choice p c q 0 n
  | .level r, p, c, q, m => 1 ≤ r → Le tk r q ∧ ((rkT tk q ≠ 4 ∨ 4 < r) → ∃ n, Rg tk (.bin r) p c q 0 n)
  | .loop r _ a, p, c, q, m => 1 ≤ r → r < 7 → Le tk (r + 1) p → Le tk r q ∧ ((rkT tk q ≠ 4 ∨ 4 < r) → ∀ na, ∃ n, Rg tk (.loop r a na) p c q 0 n)
  | .unary, p, c, q, m => ∃ n, Rg tk .unary p c q 0 n
  | .atom, p, c, q, m => ∃ n, Rg tk .single p c q 0 n
  | .parts w k out, p, c, q, m => rankL w = 0 → ∀ no, ∃ n, Rg tk (.series w k out no) p c q m n
theorem loop_four {tk : List Tk} {r n : Nat} {a : List Cl} {p d : Nat} {c : List Cl} {q m : Nat} (h : Rs tk (.loop r n a) p d c q m) (hp : rkT tk p = 4) (hr : r ≠ 4 ∨ n ≠ 0) : q = p := by
  cases h with
  | stop h => rfl
  | more h1 h2 h3 h4 h5 =>
    rcases hr with hr | hr
    · omega
    · rcases h2 with h2 | h2
      · omega
      · exact absurd h2 hr
theorem Rs.strength {tk : List Tk} {j : Job} {p d : Nat} {c : List Cl} {q m : Nat} (h : Rs tk j p d c q m) : AgG tk j p c q m := by
  induction h with
  | one h1 h2 h3 i =>
    intro hq
    obtain ⟨n, hn⟩ := (i (by omega)).2 (.inl hq)
    exact ⟨n, .one hn h3⟩
  | three h1 h2 h3 h4 h5 h6 i1 i2 i3 =>
    intro hq
    obtain ⟨n, hn⟩ := (i1 (by omega)).2 (.inl (by rw [rkT_sign h3 (by decide)]; decide))
    obtain ⟨n2, hn2⟩ := i2 (by rw [rkT_sign h5 (by decide)]; decide)
    obtain ⟨n3, hn3⟩ := i3 hq
    exact ⟨_, .three hn h3 hn2 h5 hn3⟩
  | @seven p d a q m h i =>
    intro _
    have := rkT_top tk q
    obtain ⟨n, hn⟩ := i
    exact ⟨.inl (by omega), fun _ => ⟨n, .bin hn (.stop (by omega))⟩⟩
  | @level r p d a q m c q2 m2 h1 h2 h3 i1 i2 =>
    intro hr
    obtain ⟨e1, g1⟩ := i1 (by omega)
    obtain ⟨e2, g2⟩ := i2 hr h1 e1
    refine ⟨e2, fun hq => ?_⟩
    obtain ⟨n1, k1⟩ := g1 (by
      by_cases h4 : rkT tk q = 4
      · by_cases hr4 : 4 < r + 1
        · exact .inr hr4
        · have := loop_four h3 h4 (.inl (by omega))
          subst this
          omega
      · exact .inl h4)
    cases k1 with
    | bin k1 k2 =>
      obtain ⟨n2, k3⟩ := g2 hq n1
      exact ⟨n2, .bin k1 (k2.further k3)⟩
  | @stop r n a p d h =>
    intro h1 h2 he
    have he' : Le tk r p := by
      unfold Le at he ⊢
      omega
    refine ⟨he', fun hq na => ⟨na, .stop (by unfold Le at he'; omega)⟩⟩
  | @more r n a p d s b q m c q2 m2 h1 h2 h3 h4 h5 i1 i2 =>
    intro hr1 hr7 he
    obtain ⟨e1, g1⟩ := i1 (by omega)
    obtain ⟨e2, g2⟩ := i2 hr1 hr7 e1
    refine ⟨e2, fun hq na => ?_⟩
    obtain ⟨n1, k1⟩ := g1 (by
      by_cases h4' : rkT tk q = 4
      · by_cases hr4 : 4 < r + 1
        · exact .inr hr4
        · have := loop_four h5 h4' (.inl (by omega))
          subst this
          omega
      · exact .inl h4')
    obtain ⟨n2, k2⟩ := g2 hq (max na n1)
    refine ⟨n2, .more h1 (Nat.le_refl _) (by omega) h3 k1 (fun h => ?_) k2⟩
    have := loop_four h5 h.2 (.inr (by omega))
    subst this
    omega
  | sign h1 h2 h3 h4 i => obtain ⟨n, hn⟩ := i; exact ⟨_, .sign h1 h2 hn⟩
  | plain h1 h2 i => obtain ⟨n, hn⟩ := i; exact ⟨_, .plain h1 hn⟩
  | num h1 h2 => exact ⟨_, .num h1 h2⟩
  | text h1 h2 => exact ⟨_, .text h1 h2⟩
  | truth h1 h2 => exact ⟨_, .truth h1 h2⟩
  | name h1 h2 h3 h4 => exact ⟨_, .name h1 h2 h3 h4⟩
  | call h1 h2 h3 h4 h5 i => obtain ⟨n, hn⟩ := i (by decide) 0; exact ⟨_, .call h1 h2 h3 h4 hn⟩
  | paren h1 h2 h3 i => obtain ⟨n, hn⟩ := i (by rw [rkT_sign h3 (by decide)]; decide); exact ⟨_, .paren h1 hn h3⟩
  | list h1 h2 i => obtain ⟨n, hn⟩ := i (by decide) 0; exact ⟨_, .list h1 hn⟩
  | close h => intro _ no; exact ⟨_, .close h⟩
  | @part w n out p p0 d a q m c q2 m2 h1 h2 h3 h4 h5 i1 i2 =>
    intro hw no
    have hq : rkT tk q = 0 := by
      cases h5 with
      | close k => exact rkT_sign k hw
      | part k1 k2 k3 k4 k5 => exact rkT_sign (k3 (by omega)).1 (by decide)
    obtain ⟨n1, k1⟩ := i1 (by rw [hq]; decide)
    obtain ⟨n2, k2⟩ := i2 hw (max no n1)
    exact ⟨n2, .part h1 h2 h3 k1 k2⟩

/-- What the program accepts, the levels accept. -/
theorem read_levels {tk : List Tk} {c : List Cl} {n : Nat} (h : Rg tk .choice 0 c tk.length 0 n) (hn : n ≤ 40) : Rs tk .choice 0 0 c tk.length 0 := h.levels 0 (by omega)
/-- What the levels accept, the program accepts where at most 40 signs nest. -/
theorem levels_read {tk : List Tk} (hT : tk.countP nestK ≤ 40) {c : List Cl} (h : Rs tk .choice 0 0 c tk.length 0) : ∃ n, Rg tk .choice 0 c tk.length 0 n ∧ n ≤ 40 := by
  obtain ⟨n, hn⟩ := h.strength (by rw [rkT_end (Nat.le_refl _)]; decide)
  refine ⟨n, hn, ?_⟩
  have := hn.few
  simp only [GJob.hn] at this
  have := preN_all tk tk.length
  omega

end Go.Proofs.YtncehcklppakcaaGreatDoor

/-
  How many signs of a text nest what follows: no more than bytes; in a printed expression no more than two a cell with parts.
-/
namespace Go.Proofs.YtncehcklppakcaaGreatDoor
set_option linter.unusedVariables false

theorem nbL_app (a b : List UInt8) : nbL (a ++ b) = nbL a + nbL b := List.countP_append
theorem nbL_cons (c : UInt8) (b : List UInt8) : nbL (c :: b) = (if nestB c = true then 1 else 0) + nbL b := by
  unfold nbL; rw [List.countP_cons, Nat.add_comm]
theorem nb_none {l : List UInt8} (h : ∀ c ∈ l, nmI (c.toNat : Int) = true ∨ nrI (c.toNat : Int) = true) : nbL l = 0 := by
  unfold nbL
  rw [List.countP_eq_zero]
  intro c hc
  have := h c hc
  intro hb
  simp only [nestB, Bool.or_eq_true, beq_iff_eq] at hb
  rcases hb with (((rfl | rfl) | rfl) | rfl) | rfl <;> revert this <;> decide
theorem nb_quoteC (b : UInt8) : nbL (quoteC b) ≤ nbL [b] := by
  unfold quoteC
  repeat' split
  all_goals first
    | (rename_i h; subst h; decide)
    | exact Nat.le_refl _
    | (subst_vars; decide)
theorem nb_quoteI (l : List UInt8) : nbL (quoteI l) ≤ nbL l := by
  induction l with
  | nil => exact Nat.le_refl _
  | cons b t ih =>
    have := nb_quoteC b
    rw [quoteI_cons, nbL_app, nbL_cons]
    rw [nbL_cons] at this
    have e : nbL [] = 0 := rfl
    omega
theorem nb_quote {l : List UInt8} (h : nbL l = 0) : nbL (quoteL l) = 0 := by
  have := nb_quoteI l
  rw [quoteL, nbL_cons, nbL_app]
  have e1 : nbL [34] = 0 := by decide
  have e2 : (if nestB 34 = true then 1 else 0) = 0 := by decide
  omega
theorem nb_sign {w : List UInt8} (h : 0 < rankL w) : nbL w ≤ 1 := by
  have key : ∀ (q : List UInt8) (r x : Int), nbL q ≤ 1 → (0 < x → nbL w ≤ 1) → 0 < (if w = q then r else x) → nbL w ≤ 1 := by
    intro q r x hq hx hp
    by_cases e : w = q
    · rw [e]; exact hq
    · rw [if_neg e] at hp; exact hx hp
  revert h
  unfold rankL
  iterate 13 (refine key _ _ _ (by decide) ?_)
  intro h; exact absurd h (by decide)
/-- What a piece weighs: its bytes that nest, and a parenthesis. -/
def wtP (x : Pt) : Nat := nbL x.2 + (if x.1 < 8 then 1 else 0)
def sumW : List Pt → Nat
  | [] => 0
  | x :: xs => wtP x + sumW xs
theorem nb_par {r : Int} (hr : r ≤ 8) (x : Pt) : nbL (parT r x) ≤ wtP x := by
  unfold parT wtP
  split
  · rename_i h
    have e1 : (if nestB 40 = true then 1 else 0) = 1 := by decide
    have : nbL [41] = 0 := by decide
    rw [nbL_cons, nbL_app, e1, if_pos (show x.1 < 8 by omega)]
    omega
  · omega
theorem nb_tail (xs : List Pt) : nbL (tailT xs) ≤ sumW xs := by
  induction xs with
  | nil => exact Nat.le_refl _
  | cons x xs ih =>
    unfold tailT at ih ⊢
    rw [List.flatMap_cons, nbL_app, nbL_app]
    have : nbL [44, 32] = 0 := by decide
    simp only [sumW, wtP]; omega
theorem nb_join (xs : List Pt) : nbL (joinT xs) ≤ sumW xs := by
  cases xs with
  | nil => exact Nat.le_refl _
  | cons x xs =>
    have := nb_tail xs
    rw [joinT, nbL_app]
    simp only [sumW, wtP]; omega
theorem wt_nil : wtP (ptAt [] 0) ≤ 1 ∧ nbL (ptAt [] 0).2 = 0 := ⟨by decide, rfl⟩
theorem ptAt_wt (ks : List Pt) : (1 ≤ ks.length → wtP (ptAt ks 0) ≤ sumW ks) ∧ (2 ≤ ks.length → wtP (ptAt ks 0) + wtP (ptAt ks 1) ≤ sumW ks) ∧ (3 ≤ ks.length → wtP (ptAt ks 0) + nbL (ptAt ks 1).2 + nbL (ptAt ks 2).2 ≤ sumW ks) := by
  rcases ks with _ | ⟨a, _ | ⟨b, _ | ⟨c, r⟩⟩⟩
  · refine ⟨(fun h => ?_), (fun h => ?_), (fun h => ?_)⟩ <;> simp at h
  · refine ⟨(fun _ => by simp [ptAt, sumW]), (fun h => ?_), (fun h => ?_)⟩ <;> simp at h
  · refine ⟨(fun _ => by simp [ptAt, sumW]), (fun _ => by simp [ptAt, sumW]), (fun h => ?_)⟩; simp at h
  · refine ⟨(fun _ => by simp [ptAt, sumW]), (fun _ => by simp only [ptAt, sumW, List.getD_cons_zero, List.getD_cons_succ]; omega), (fun _ => by simp only [ptAt, sumW, wtP, List.getD_cons_zero, List.getD_cons_succ]; omega)⟩
theorem nb_bare {c : Cl} (h : okC c = true) (hw : WdC c) (ks : List Pt) (hl : ks.length = c.2.2.toNat) : nbL (bareT c ks) + (if rkC c < 8 then 1 else 0) ≤ 2 * (if 5 ≤ c.1 then 1 else 0) + sumW ks := by
  obtain ⟨k, s, m⟩ := c
  have hcell := h
  simp only [okC, cellB, Bool.and_eq_true] at h
  obtain ⟨h1, h2⟩ := h
  have e1 : nbL [93] = 0 := by decide
  have e2 : nbL [41] = 0 := by decide
  have e3 : nbL [32] = 0 := by decide
  have e4 : nbL [32, 63, 32] = 1 := by decide
  have e5 : nbL [32, 58, 32] = 0 := by decide
  have hj := nb_join ks
  obtain ⟨p1, p2, p3⟩ := ptAt_wt ks
  simp only at hl
  unfold wordB at h1
  unfold manyB at h2
  by_cases k1 : k = 1
  · subst k1
    simp only [if_true] at h1
    obtain ⟨-, -, T, B, hB, ht⟩ := num_word h1
    obtain ⟨c, r, -, -, hd⟩ := dec_nr T B hB
    have : nbL s.data.toList = 0 := nb_none (fun x hx => .inr (hd x (by rwa [ht] at hx)))
    simp [bareT, rkC, this]
  by_cases k2 : k = 2
  · subst k2
    have := nb_quote (hw.2 rfl)
    simp only at this
    simp [bareT, rkC, this]
  by_cases k3 : k = 3
  · subst k3
    simp only [Int.reduceEq, if_false, if_true, Bool.or_eq_true, beq_iff_eq] at h1
    have : nbL s.data.toList = 0 := by rcases h1 with h1 | h1 <;> rw [h1] <;> decide
    simp [bareT, rkC, this]
  by_cases k4 : k = 4
  · subst k4
    simp only [Int.reduceEq, if_false, if_true, Bool.and_eq_true] at h1
    have : nbL s.data.toList = 0 := by
      have hn := h1.1
      simp only [nameL, Bool.and_eq_true] at hn
      exact nb_none (fun x hx => .inl (name_in _ 0 hn.1 x hx))
    simp [bareT, rkC, this]
  by_cases k5 : k = 5
  · subst k5
    simp only [bareT, rkC, Int.reduceEq, Int.reduceLT, Int.reduceLE, if_false, if_true, nbL_cons, nbL_app, e1]
    have : (if nestB 91 = true then 1 else 0) = 1 := by decide
    omega
  by_cases k6 : k = 6
  · subst k6
    simp only [Int.reduceEq, if_false, if_true, Bool.and_eq_true] at h1
    have hz : nbL s.data.toList = 0 := by
      have hn := h1.1
      simp only [nameL, Bool.and_eq_true] at hn
      exact nb_none (fun x hx => .inl (name_in _ 0 hn.1 x hx))
    simp only [bareT, rkC, Int.reduceEq, Int.reduceLT, Int.reduceLE, if_false, if_true, nbL_cons, nbL_app, e2, hz]
    have : (if nestB 40 = true then 1 else 0) = 1 := by decide
    omega
  by_cases k7 : k = 7
  · subst k7
    simp only [Int.reduceEq, if_false, if_true, Bool.or_eq_true, beq_iff_eq] at h1
    have hz : nbL s.data.toList = 1 := by rcases h1 with h1 | h1 <;> rw [h1] <;> decide
    have hm : m = 1 := by simpa using h2
    subst hm
    have q1 := nb_par (r := 7) (by decide) (ptAt ks 0)
    have := p1 (by rw [hl]; decide)
    simp only [bareT, rkC, Int.reduceEq, Int.reduceLT, Int.reduceLE, if_false, if_true, nbL_app, hz]
    omega
  by_cases k8 : k = 8
  · subst k8
    simp only [Int.reduceEq, if_false, if_true, decide_eq_true_eq] at h1
    have hz := nb_sign h1
    obtain ⟨r1, r2⟩ := rankL_in _ h1
    have hm : m = 2 := by simpa using h2
    subst hm
    have q1 := nb_par (r := leftR (rankL s.data.toList)) (by unfold leftR; split <;> omega) (ptAt ks 0)
    have q2 := nb_par (r := rankL s.data.toList + 1) (by omega) (ptAt ks 1)
    have := p2 (by rw [hl]; decide)
    simp only [bareT, rkC, Int.reduceEq, Int.reduceLE, if_false, if_true, nbL_app, e3]
    have : (if rankL s.data.toList < 8 then 1 else 0) ≤ 1 := by split <;> omega
    omega
  by_cases k9 : k = 9
  · subst k9
    have hm : m = 3 := by simpa using h2
    subst hm
    have q1 := nb_par (r := 2) (by decide) (ptAt ks 0)
    have := p3 (by rw [hl]; decide)
    simp only [bareT, rkC, Int.reduceEq, Int.reduceLT, Int.reduceLE, if_false, if_true, nbL_app, e4, e5]
    omega
  · simp [k1, k2, k3, k4, k5, k6, k7, k8, k9] at h1
theorem Tx.nests {l : List Cl} (hok : l.all okC = true) (hw : ∀ c ∈ l, WdC c) {n f t : Nat} {xs : List Pt} (h : Tx l n f t xs) : sumW xs ≤ 2 * nlC ((l.drop f).take (t - f)) ∧ f ≤ t := by
  induction h with
  | nil f => simp [sumW]
  | @cons f g n t c ks xs hc h1 h2 i1 i2 =>
    obtain ⟨hl, he⟩ := List.getElem?_eq_some_iff.mp hc
    obtain ⟨e1, l1⟩ := i1
    obtain ⟨e2, l2⟩ := i2
    refine ⟨?_, by omega⟩
    have ho : okC c = true := by rw [← he]; exact okC_all hok f hl
    have hb := nb_bare ho (hw c (by rw [← he]; exact List.getElem_mem hl)) ks h1.len
    have e0 : l.drop f = c :: l.drop (f + 1) := by rw [List.drop_eq_getElem_cons hl, he]
    have e3 : (l.drop f).take (t - f) = [c] ++ ((l.drop (f + 1)).take (g - (f + 1)) ++ (l.drop g).take (t - g)) := by
      rw [e0, show t - f = (t - (f + 1)) + 1 by omega, List.take_succ_cons]
      refine congrArg (c :: ·) ?_
      have : l.drop g = (l.drop (f + 1)).drop (g - (f + 1)) := by rw [List.drop_drop]; congr 1; omega
      rw [this, show t - (f + 1) = (g - (f + 1)) + (t - g) by omega, List.take_add]
      rfl
    rw [e3, nlC_append, nlC_append]
    have hone : nlC [c] = if 5 ≤ c.1 then 1 else 0 := by
      unfold nlC; rw [List.countP_cons, List.countP_nil]; simp
    rw [hone]
    simp only [sumW, wtP]
    omega
/-- A printed expression. -/
theorem nb_text {l : List Cl} (hw : ∀ c ∈ l, WdC c) : nbL (textE l) ≤ 2 * nlC l := by
  cases hok : okE l with
  | false => rw [textE_no hok]; exact Nat.zero_le _
  | true =>
    obtain ⟨x, h⟩ := okE_tx hok
    obtain ⟨-, hal, -⟩ := (okE_iff l).mp hok
    have := (h.nests hal hw).1
    rw [textE_of hok h]
    simp only [sumW, wtP, Nat.sub_zero, List.drop_zero, List.take_length] at this
    omega

-- tokens
theorem nest_has {w : List UInt8} (h : nestW w = true) : 1 ≤ nbL w := by
  simp only [nestW, Bool.or_eq_true, beq_iff_eq] at h
  rcases h with (((rfl | rfl) | rfl) | rfl) | rfl <;> decide
theorem cover_nest (ts : List (Int × Nat × Nat)) : ∀ (a : Nat) (l : List UInt8), Cover a l ts → ts.countP (fun x => x.1 == 4 && nestW ((l.drop (x.2.1 - a)).take (x.2.2 - x.2.1))) ≤ nbL l := by
  induction ts with
  | nil => intro a l _; exact Nat.zero_le _
  | cons y ts ih =>
    intro a l h
    obtain ⟨k, f, t⟩ := y
    obtain ⟨j, n, rfl, rfl, h3, h4, h5, h6⟩ := h
    have hin := cover_in ts _ _ h6
    have hi := ih _ _ h6
    have hl : l = l.take j ++ ((l.drop j).take n ++ l.drop (j + n)) := by
      rw [← List.drop_drop, List.take_append_drop, List.take_append_drop]
    have hn : nbL l = nbL (l.take j) + (nbL ((l.drop j).take n) + nbL (l.drop (j + n))) := by
      conv => lhs; rw [hl]
      rw [nbL_app, nbL_app]
    have hc : ts.countP (fun x => x.1 == 4 && nestW ((l.drop (x.2.1 - a)).take (x.2.2 - x.2.1))) = ts.countP (fun x => x.1 == 4 && nestW (((l.drop (j + n)).drop (x.2.1 - (a + j + n))).take (x.2.2 - x.2.1))) := by
      apply List.countP_congr
      intro x hx
      have := (hin x hx).1
      rw [List.drop_drop, show j + n + (x.2.1 - (a + j + n)) = x.2.1 - a by omega]
    rw [List.countP_cons, hc]
    simp only [Nat.add_sub_cancel_left]
    split
    · rename_i hh
      simp only [Bool.and_eq_true] at hh
      have := nest_has hh.2
      omega
    · omega
theorem rdTk_nest (s : ByteArray) : (rdTk s).countP nestK ≤ nbL s.data.toList := by
  unfold rdTk
  rw [List.countP_map]
  rcases toks_cover (s := s) with hc | hc
  · have := cover_nest _ _ _ hc
    refine Nat.le_trans (Nat.le_of_eq ?_) this
    apply List.countP_congr
    intro x hx
    simp only [Function.comp, nestK]
    rw [ByteArray.data_extract, Array.toList_extract, List.extract_eq_take_drop]
    simp
  · rw [hc]; exact Nat.zero_le _

end Go.Proofs.YtncehcklppakcaaGreatDoor
