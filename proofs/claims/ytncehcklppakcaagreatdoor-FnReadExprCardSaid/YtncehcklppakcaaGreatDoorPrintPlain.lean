/-
  Printing expressions, plainly: the text of each expression that stands side by side in a list of cells (Tx), with its strength.
-/
import Derived.Test.YtncehcklppakcaaGreatDoorCellPlain
import Derived.Test.YtncehcklppakcaaGreatDoorQuotePlain
namespace Go.Proofs.YtncehcklppakcaaGreatDoor
set_option linter.unusedVariables false

/-- How strong an expression is that begins with a cell. -/
def rkC (c : Cl) : Int := if c.1 = 9 then 1 else if c.1 = 8 then rankL c.2.1.data.toList else if c.1 = 7 then 7 else 8
/-- A strength and a text. -/
abbrev Pt := Int × List UInt8
def parT (r : Int) (x : Pt) : List UInt8 := if x.1 < r then 40 :: (x.2 ++ [41]) else x.2
def tailT (xs : List Pt) : List UInt8 := xs.flatMap fun x => [44, 32] ++ x.2
def joinT : List Pt → List UInt8
  | [] => []
  | x :: xs => x.2 ++ tailT xs
def leftR (r : Int) : Int := if r = 4 then 5 else r
def ptAt (ks : List Pt) (i : Nat) : Pt := ks.getD i (0, [])
/-- The text of a cell with the texts of its parts. -/
def bareT (c : Cl) (ks : List Pt) : List UInt8 :=
  if c.1 = 2 then quoteL c.2.1.data.toList
  else if c.1 = 5 then 91 :: (joinT ks ++ [93])
  else if c.1 = 6 then c.2.1.data.toList ++ (40 :: (joinT ks ++ [41]))
  else if c.1 = 7 then c.2.1.data.toList ++ parT 7 (ptAt ks 0)
  else if c.1 = 8 then parT (leftR (rankL c.2.1.data.toList)) (ptAt ks 0) ++ ([32] ++ c.2.1.data.toList ++ [32]) ++ parT (rankL c.2.1.data.toList + 1) (ptAt ks 1)
  else if c.1 = 9 then parT 2 (ptAt ks 0) ++ [32, 63, 32] ++ (ptAt ks 1).2 ++ [32, 58, 32] ++ (ptAt ks 2).2
  else c.2.1.data.toList

/-- n expressions side by side from f up to t, and their strengths and texts. -/
inductive Tx (l : List Cl) : Nat → Nat → Nat → List Pt → Prop
  | nil (f : Nat) : Tx l 0 f f []
  | cons {f g n t : Nat} {c : Cl} {ks xs : List Pt} : l[f]? = some c → Tx l c.2.2.toNat (f + 1) g ks → Tx l n g t xs → Tx l (n + 1) f t ((rkC c, bareT c ks) :: xs)

theorem Tx.len {l : List Cl} {n f t : Nat} {xs : List Pt} (h : Tx l n f t xs) : xs.length = n := by
  induction h with
  | nil f => rfl
  | cons hc h1 h2 i1 i2 => rw [List.length_cons, i2]
theorem amL_some {l : List Cl} {f : Nat} {c : Cl} (h : l[f]? = some c) : (amL l)[f]? = some c.2.2.toNat := by
  simp [amL, h]
theorem amL_get {l : List Cl} {f m : Nat} (h : (amL l)[f]? = some m) : ∃ c, l[f]? = some c ∧ c.2.2.toNat = m := by
  simp only [amL, List.getElem?_map, Option.map_eq_some_iff] at h; exact h
theorem Tx.exs {l : List Cl} {n f t : Nat} {xs : List Pt} (h : Tx l n f t xs) : ∃ d, Exs (amL l) n f t d := by
  induction h with
  | nil f => exact ⟨0, .nil f⟩
  | cons hc h1 h2 i1 i2 =>
    obtain ⟨d1, i1⟩ := i1; obtain ⟨d2, i2⟩ := i2
    exact ⟨_, .cons (amL_some hc) i1 i2⟩
theorem Tx.of_exs {l : List Cl} {n f t d : Nat} (h : Exs (amL l) n f t d) : ∃ xs, Tx l n f t xs := by
  generalize ha : amL l = am at h
  induction h with
  | nil f => exact ⟨[], .nil f⟩
  | @cons f m g d n t e hm h1 h2 i1 i2 =>
    obtain ⟨ks, k1⟩ := i1; obtain ⟨xs, k2⟩ := i2
    subst ha
    obtain ⟨c, hc, rfl⟩ := amL_get hm
    exact ⟨_, .cons hc k1 k2⟩
theorem Tx.uniq {l : List Cl} {n f t : Nat} {xs : List Pt} (h : Tx l n f t xs) : ∀ {t' : Nat} {ys : List Pt}, Tx l n f t' ys → t = t' ∧ xs = ys := by
  induction h with
  | nil f => intro t' ys h'; cases h'; exact ⟨rfl, rfl⟩
  | cons hc h1 h2 i1 i2 =>
    intro t' ys h'
    cases h' with
    | cons hc' k1 k2 =>
      rw [hc] at hc'; injection hc' with hc'; subst hc'
      obtain ⟨rfl, rfl⟩ := i1 k1
      obtain ⟨rfl, rfl⟩ := i2 k2
      exact ⟨rfl, rfl⟩
/-- One expression: its cell and its parts. -/
theorem Tx.inv {l : List Cl} {f t : Nat} {x : Pt} (h : Tx l 1 f t [x]) : ∃ c ks, l[f]? = some c ∧ Tx l c.2.2.toNat (f + 1) t ks ∧ x = (rkC c, bareT c ks) := by
  cases h with
  | cons hc h1 h2 => cases h2; exact ⟨_, _, hc, h1, rfl⟩
/-- The expression with the number k. -/
theorem Tx.at {l : List Cl} {n f t : Nat} {xs : List Pt} (h : Tx l n f t xs) : ∀ k, k < n → ∃ g g' x, xs[k]? = some x ∧ Tx l k f g (xs.take k) ∧ Tx l 1 g g' [x] ∧ Tx l (n - (k + 1)) g' t (xs.drop (k + 1)) ∧ (kidsL (amL l) f n)[k]? = some g := by
  induction h with
  | nil f => intro k hk; omega
  | @cons f g n t c ks xs hc h1 h2 i1 i2 =>
    intro k hk
    have hone : Tx l 1 f g [(rkC c, bareT c ks)] := .cons hc h1 (.nil g)
    obtain ⟨d, hx⟩ := hone.exs
    cases k with
    | zero => exact ⟨f, g, _, rfl, .nil f, hone, by simpa using h2, by rw [kidsL]; rfl⟩
    | succ k =>
      obtain ⟨g1, g2, x, j1, j2, j3, j4, j5⟩ := i2 k (by omega)
      refine ⟨g1, g2, x, by simpa using j1, ?_, j3, ?_, ?_⟩
      · rw [List.take_succ_cons]; exact .cons hc h1 j2
      · rw [show n + 1 - (k + 1 + 1) = n - (k + 1) by omega]; simpa using j4
      · rw [kidsL, List.getElem?_cons_succ, hx.endP]; exact j5
theorem joinT_next (ks : List Pt) (k : Nat) (x : Pt) (h : ks[k]? = some x) : joinT (ks.take (k + 1)) = joinT (ks.take k) ++ ((if k = 0 then [] else [44, 32]) ++ x.2) := by
  have e : ks.take (k + 1) = ks.take k ++ [x] := by rw [List.take_add_one, h]; rfl
  rw [e]
  cases k with
  | zero => simp [joinT, tailT]
  | succ k =>
    cases ks with
    | nil => simp at h
    | cons y ys => simp [joinT, tailT]
/-- Texts are not long. -/
def sumT : List Pt → Nat
  | [] => 0
  | x :: xs => x.2.length + 8 + sumT xs
theorem tailT_len (xs : List Pt) : (tailT xs).length + 6 * xs.length ≤ sumT xs := by
  induction xs with
  | nil => simp [tailT, sumT]
  | cons x xs ih => simp only [tailT, List.flatMap_cons, List.length_append, List.length_cons, sumT, List.length_nil] at ih ⊢; omega
theorem joinT_len (xs : List Pt) : (joinT xs).length ≤ sumT xs := by
  cases xs with
  | nil => simp [joinT]
  | cons x xs => have := tailT_len xs; simp only [joinT, List.length_append, sumT]; omega
theorem ptAt_len (xs : List Pt) : ∀ i, (ptAt xs i).2.length ≤ sumT xs ∧ ((i < xs.length) → (ptAt xs i).2.length + 8 ≤ sumT xs) := by
  induction xs with
  | nil => intro i; simp [ptAt]
  | cons x xs ih =>
    intro i
    cases i with
    | zero => simp only [ptAt, List.getD_cons_zero, sumT]; omega
    | succ i => have := ih i; simp only [ptAt, List.getD_cons_succ, sumT, List.length_cons] at this ⊢; omega
theorem parT_len (r : Int) (x : Pt) : (parT r x).length ≤ x.2.length + 2 := by
  unfold parT; split
  · simp
  · omega
theorem ptAt_cons0 (x : Pt) (xs : List Pt) : ptAt (x :: xs) 0 = x := rfl
theorem ptAt_cons (x : Pt) (xs : List Pt) (i : Nat) : ptAt (x :: xs) (i + 1) = ptAt xs i := rfl
theorem two_len (ks : List Pt) : (ptAt ks 0).2.length + (ptAt ks 1).2.length + (ptAt ks 2).2.length ≤ sumT ks := by
  rcases ks with _ | ⟨a, _ | ⟨b, _ | ⟨c, r⟩⟩⟩ <;> simp [ptAt, sumT] <;> omega
theorem bareT_len {c : Cl} (h : okC c = true) (ks : List Pt) : (bareT c ks).length ≤ 180 + sumT ks := by
  have hw : c.2.1.data.toList.length ≤ 60 := by
    simp only [okC, cellB, Bool.and_eq_true] at h
    have := word_len _ _ h.1
    rw [size_list]; exact this
  have h2 := two_len ks
  have hj := joinT_len ks
  have hq : (quoteL c.2.1.data.toList).length ≤ 122 := by
    have := (quoteI_len c.2.1.data.toList).2
    simp only [quoteL, List.length_cons, List.length_append, List.length_nil]; omega
  have p0 := parT_len 7 (ptAt ks 0)
  have p1 := parT_len (leftR (rankL c.2.1.data.toList)) (ptAt ks 0)
  have p2 := parT_len (rankL c.2.1.data.toList + 1) (ptAt ks 1)
  have p3 := parT_len 2 (ptAt ks 0)
  unfold bareT
  repeat' split
  all_goals first
    | omega
    | (simp only [List.length_append, List.length_cons, List.length_nil]; omega)
theorem Tx.short {l : List Cl} (hok : l.all okC = true) {n f t : Nat} {xs : List Pt} (h : Tx l n f t xs) : sumT xs ≤ 200 * (t - f) ∧ f ≤ t := by
  induction h with
  | nil f => exact ⟨Nat.zero_le _, Nat.le_refl _⟩
  | @cons f g n t c ks xs hc h1 h2 i1 i2 =>
    obtain ⟨hl, he⟩ := List.getElem?_eq_some_iff.mp hc
    have ho : okC c = true := by rw [← he]; exact okC_all hok f hl
    have hb := bareT_len ho ks
    simp only [sumT]; omega
theorem Tx.app {l : List Cl} {a f g : Nat} {xs : List Pt} (h : Tx l a f g xs) : ∀ {b t : Nat} {ys : List Pt}, Tx l b g t ys → Tx l (a + b) f t (xs ++ ys) := by
  induction h with
  | nil f => intro b t ys k; rw [Nat.zero_add]; exact k
  | @cons f g n t c ks xs hc h1 h2 i1 i2 =>
    intro b t' ys k
    rw [show n + 1 + b = (n + b) + 1 by omega]
    exact .cons hc h1 (i2 k)
theorem Tx.snoc {l : List Cl} {k f g t : Nat} {xs : List Pt} {x : Pt} (h : Tx l k f g (xs.take k)) (hx : xs[k]? = some x) (h1 : Tx l 1 g t [x]) : Tx l (k + 1) f t (xs.take (k + 1)) := by
  have e : xs.take (k + 1) = xs.take k ++ [x] := by rw [List.take_add_one, hx]; rfl
  rw [e]; exact h.app h1
theorem rankL_in (l : List UInt8) (h : 0 < rankL l) : 2 ≤ rankL l ∧ rankL l ≤ 6 := by
  have key : ∀ {p : Prop} [Decidable p] {a b : Int}, (a = 0 ∨ (2 ≤ a ∧ a ≤ 6)) → (b = 0 ∨ (2 ≤ b ∧ b ≤ 6)) → ((if p then a else b) = 0 ∨ (2 ≤ (if p then a else b) ∧ (if p then a else b) ≤ 6)) := by
    intro p _ a b ha hb
    by_cases h : p
    · rw [if_pos h]; exact ha
    · rw [if_neg h]; exact hb
  have : rankL l = 0 ∨ (2 ≤ rankL l ∧ rankL l ≤ 6) := by
    unfold rankL
    iterate 13 (refine key (by decide) ?_)
    decide
  omega
theorem rkC_bd {c : Cl} (h : okC c = true) : 1 ≤ rkC c ∧ rkC c ≤ 8 := by
  unfold rkC
  split
  · omega
  · split
    · rename_i h8
      have : 0 < rankL c.2.1.data.toList := by
        simp only [okC, cellB, wordB, h8, Bool.and_eq_true] at h; simpa using h.1
      have := rankL_in _ this; omega
    · split <;> omega
theorem Tx.rk {l : List Cl} (hok : l.all okC = true) {n f t : Nat} {xs : List Pt} (h : Tx l n f t xs) : ∀ x ∈ xs, 1 ≤ x.1 ∧ x.1 ≤ 8 := by
  induction h with
  | nil f => intro x hx; cases hx
  | @cons f g n t c ks xs hc h1 h2 i1 i2 =>
    intro x hx
    rcases List.mem_cons.mp hx with rfl | hx
    · obtain ⟨hl, he⟩ := List.getElem?_eq_some_iff.mp hc
      exact rkC_bd (by rw [← he]; exact okC_all hok f hl)
    · exact i2 x hx
theorem parT_bare {x : Pt} {r : Int} (h : r ≤ x.1) : parT r x = x.2 := by unfold parT; rw [if_neg (by omega)]
open Classical in
/-- The text of a valid expression. -/
noncomputable def textE (l : List Cl) : List UInt8 := if h : okE l = true ∧ ∃ x, Tx l 1 0 l.length [x] then h.2.choose.2 else []
theorem textE_of {l : List Cl} {x : Pt} (hok : okE l = true) (h : Tx l 1 0 l.length [x]) : textE l = x.2 := by
  have hh : okE l = true ∧ ∃ x, Tx l 1 0 l.length [x] := ⟨hok, x, h⟩
  unfold textE
  rw [dif_pos hh]
  have := (hh.2.choose_spec.uniq h).2
  simp only [List.cons.injEq, and_true] at this
  rw [this]
theorem textE_no {l : List Cl} (hok : okE l = false) : textE l = [] := by
  unfold textE
  rw [dif_neg]
  intro h; rw [hok] at h; cases h.1
theorem okE_tx {l : List Cl} (hok : okE l = true) : ∃ x, Tx l 1 0 l.length [x] := by
  obtain ⟨-, -, d, -, hx⟩ := (okE_iff l).mp hok
  obtain ⟨xs, h⟩ := Tx.of_exs hx
  have hl := h.len
  match xs, hl with
  | [x], _ => exact ⟨x, h⟩
theorem textE_len (l : List Cl) : (textE l).length ≤ 12000 := by
  cases hok : okE l with
  | false => rw [textE_no hok]; simp
  | true =>
    obtain ⟨x, h⟩ := okE_tx hok
    obtain ⟨h60, hal, -⟩ := (okE_iff l).mp hok
    have := (h.short hal).1
    rw [textE_of hok h]
    simp only [sumT] at this; omega

end Go.Proofs.YtncehcklppakcaaGreatDoor
