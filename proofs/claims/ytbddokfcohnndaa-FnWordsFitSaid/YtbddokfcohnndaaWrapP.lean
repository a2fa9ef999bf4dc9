/-
  Wrapping, plainly: lines of words are numbers that tell how many stand in each; what they cost; those of least cost, found from the front (tab) and from the back (Bst), are the same.
-/
namespace Go.Proofs.Ytbddokfcohnndaa
set_option linter.unusedVariables false

/-- The bytes of the first k words with single spaces between them. -/
def slen (S : List Nat) (k : Nat) : Int := ((S.take k).sum : Int) + k - 1
/-- How many words fit into a line. -/
def fuA : Int → List Nat → Nat
  | _, [] => 0
  | left, x :: r => if (x : Int) ≤ left then 1 + fuA (left - x - 1) r else 0
theorem fu_iff : ∀ (S : List Nat) (left : Int) (k : Nat), k ≤ fuA left S ↔ k ≤ S.length ∧ (k = 0 ∨ slen S k ≤ left) := by
  intro S
  induction S with
  | nil => intro left k; simp [fuA]; omega
  | cons x r ih =>
    intro left k
    cases k with
    | zero => simp
    | succ k =>
      have h := ih (left - x - 1) k
      unfold slen at h ⊢
      rw [fuA]
      split
      · rename_i hx
        simp only [List.take_succ_cons, List.sum_cons, List.length_cons]
        constructor
        · intro hk
          have := h.mp (by omega)
          refine ⟨by omega, .inr ?_⟩
          rcases this.2 with rfl | h2
          · simp; omega
          · push_cast; omega
        · rintro ⟨h1, h2⟩
          have h2 := h2.resolve_left (by omega)
          have := h.mpr ⟨by omega, by
            by_cases hk : k = 0
            · exact .inl hk
            · refine .inr ?_; push_cast at h2; omega⟩
          omega
      · rename_i hx
        simp only [List.take_succ_cons, List.sum_cons, List.length_cons]
        constructor
        · intro hk; omega
        · rintro ⟨h1, h2⟩
          have h2 := h2.resolve_left (by omega)
          push_cast at h2; omega
theorem fu_le (w : Int) (S : List Nat) : fuA w S ≤ S.length := ((fu_iff S w _).mp (Nat.le_refl _)).1
theorem fu_len {w : Int} {S : List Nat} {k : Nat} (h : k ≤ fuA w S) (h0 : k ≠ 0) : slen S k ≤ w := (((fu_iff S w k).mp h).2).resolve_left h0
theorem fu_next {w : Int} {S : List Nat} {k : Nat} (hk : k < S.length) : (k < fuA w S) ↔ slen S (k + 1) ≤ w := by
  rw [show (k < fuA w S) ↔ (k + 1 ≤ fuA w S) from Iff.rfl, fu_iff]
  constructor
  · rintro ⟨_, h⟩; exact h.resolve_left (by omega)
  · intro h; exact ⟨hk, .inr h⟩
theorem fu_step {w : Int} {S : List Nat} {k : Nat} (hk : k ≤ fuA w S) (hn : ¬ (k < S.length ∧ slen S (k + 1) ≤ w)) : fuA w S = k := by
  have h1 := fu_le w S
  by_cases h : k < fuA w S
  · exact absurd ⟨by omega, (fu_next (by omega)).mp h⟩ hn
  · omega

/-- Words that fit a width. -/
def FitS (w : Nat) (S : List Nat) : Prop := ∀ x ∈ S, 1 ≤ x ∧ x ≤ w
theorem FitS.drop {w : Nat} {S : List Nat} (h : FitS w S) (k : Nat) : FitS w (S.drop k) := fun x hx => h x (List.mem_of_mem_drop hx)
theorem FitS.pos {w : Nat} {S : List Nat} (h : FitS w S) (h0 : S ≠ []) : 1 ≤ fuA w S := by
  cases S with
  | nil => exact absurd rfl h0
  | cons x r =>
    have := h x (by simp)
    rw [fuA, if_pos (by omega)]; omega

/-- What a line costs. -/
def lineC (w : Int) (S : List Nat) (m : Nat) : Nat := if m = S.length then 0 else (w - slen S m).toNat * (w - slen S m).toNat
theorem slen_pos {S : List Nat} {m : Nat} (hm : 1 ≤ m) : 0 ≤ slen S m := by unfold slen; omega
theorem lineC_le {w : Int} {S : List Nat} {m : Nat} (hm : 1 ≤ m) (h40 : w ≤ 40) : lineC w S m ≤ 1600 := by
  unfold lineC
  split
  · omega
  · have := slen_pos (S := S) hm
    have h : (w - slen S m).toNat ≤ 40 := by omega
    exact Nat.mul_le_mul h h

/-- The cost of lines, and the words that they leave. -/
def costR (w : Int) : List Nat → List Nat → Option (Nat × List Nat)
  | S, [] => some (0, S)
  | S, n :: ls => if 1 ≤ n ∧ n ≤ fuA w S then (costR w (S.drop n) ls).map (fun p => (p.1 + lineC w S n, p.2)) else none
theorem costR_cons {w : Int} {S ls R : List Nat} {n c : Nat} (h : costR w S (n :: ls) = some (c, R)) : 1 ≤ n ∧ n ≤ fuA w S ∧ ∃ c', costR w (S.drop n) ls = some (c', R) ∧ c = c' + lineC w S n := by
  rw [costR] at h
  split at h
  · rename_i hn
    refine ⟨hn.1, hn.2, ?_⟩
    cases hc : costR w (S.drop n) ls with
    | none => rw [hc] at h; cases h
    | some p =>
      rw [hc] at h
      simp only [Option.map_some, Option.some.injEq, Prod.mk.injEq] at h
      exact ⟨p.1, by rw [← h.2], h.1.symm⟩
  · cases h
theorem costR_mk {w : Int} {S ls R : List Nat} {n c : Nat} (h1 : 1 ≤ n) (h2 : n ≤ fuA w S) (h : costR w (S.drop n) ls = some (c, R)) : costR w S (n :: ls) = some (c + lineC w S n, R) := by
  rw [costR, if_pos ⟨h1, h2⟩, h]; rfl
/-- What is left are the words behind as many as the lines have. -/
theorem costR_sum {w : Int} : ∀ (ls S R : List Nat) (c : Nat), costR w S ls = some (c, R) → R = S.drop ls.sum ∧ ls.sum ≤ S.length ∧ (∀ n ∈ ls, 1 ≤ n) := by
  intro ls
  induction ls with
  | nil => intro S R c h; simp [costR] at h; simp [h.2]
  | cons n ls ih =>
    intro S R c h
    obtain ⟨h1, h2, c', h3, -⟩ := costR_cons h
    obtain ⟨e, hl, hp⟩ := ih _ _ _ h3
    have := fu_le w S
    rw [List.length_drop] at hl
    refine ⟨by rw [e, List.drop_drop, List.sum_cons], by rw [List.sum_cons]; omega, fun m hm => ?_⟩
    rcases List.mem_cons.mp hm with rfl | hm
    · exact h1
    · exact hp m hm
theorem costR_le {w : Int} (h40 : w ≤ 40) : ∀ (ls S R : List Nat) (c : Nat), costR w S ls = some (c, R) → c ≤ 1600 * ls.length := by
  intro ls
  induction ls with
  | nil => intro S R c h; simp [costR] at h; omega
  | cons n ls ih =>
    intro S R c h
    obtain ⟨h1, h2, c', h3, rfl⟩ := costR_cons h
    have := ih _ _ _ h3
    have := lineC_le (S := S) h1 h40
    rw [List.length_cons]; omega
theorem costR_app {w : Int} : ∀ (a b S : List Nat), costR w S (a ++ b) = (costR w S a).bind fun p => (costR w p.2 b).map fun q => (p.1 + q.1, q.2) := by
  intro a
  induction a with
  | nil => intro b S; simp only [List.nil_append, costR, Option.bind_some]; cases costR w S b <;> simp
  | cons n a ih =>
    intro b S
    rw [List.cons_append, costR, costR]
    split
    · rw [ih]
      cases costR w (S.drop n) a with
      | none => rfl
      | some p =>
        simp only [Option.bind_some, Option.map_some]
        cases costR w p.2 b with
        | none => rfl
        | some q => simp only [Option.map_some, Option.some.injEq, Prod.mk.injEq, and_true]; omega
    · rfl
theorem len_sum : ∀ (ls : List Nat), (∀ n ∈ ls, 1 ≤ n) → ls.length ≤ ls.sum := by
  intro ls
  induction ls with
  | nil => intro _; simp
  | cons n ls ih =>
    intro h
    have h1 := h n (by simp); have := ih fun m hm => h m (by simp [hm])
    rw [List.length_cons, List.sum_cons]; omega

theorem mem_sum : ∀ {ls : List Nat} {n : Nat}, n ∈ ls → n ≤ ls.sum := by
  intro ls
  induction ls with
  | nil => intro n h; cases h
  | cons m ls ih =>
    intro n h
    rw [List.sum_cons]
    rcases List.mem_cons.mp h with rfl | h
    · omega
    · have := ih h; omega

/-- Comparing lists of numbers: by the first place where they differ, then by their lengths. -/
def cmpL : List Nat → List Nat → Int
  | [], [] => 0
  | [], _ :: _ => -1
  | _ :: _, [] => 1
  | x :: a, y :: b => if x < y then -1 else if y < x then 1 else cmpL a b
theorem cmpL_refl : ∀ (a : List Nat), cmpL a a = 0 := by
  intro a
  induction a with
  | nil => rfl
  | cons x a ih => rw [cmpL, if_neg (by omega), if_neg (by omega)]; exact ih
theorem cmpL_val : ∀ (a b : List Nat), cmpL a b = -1 ∨ cmpL a b = 0 ∨ cmpL a b = 1 := by
  intro a
  induction a with
  | nil => intro b; cases b <;> simp [cmpL]
  | cons x a ih =>
    intro b
    cases b with
    | nil => simp [cmpL]
    | cons y b => rw [cmpL]; split; · simp
                  split; · simp
                  exact ih b
theorem cmpL_anti : ∀ (a b : List Nat), cmpL b a = - cmpL a b := by
  intro a
  induction a with
  | nil => intro b; cases b <;> simp [cmpL]
  | cons x a ih =>
    intro b
    cases b with
    | nil => simp [cmpL]
    | cons y b =>
      rw [cmpL, cmpL]
      by_cases h : x < y
      · rw [if_pos h, if_neg (by omega), if_pos h]; rfl
      · by_cases h2 : y < x
        · rw [if_pos h2, if_neg h, if_pos h2]
        · rw [if_neg h2, if_neg h, if_neg h, if_neg h2]; exact ih b
theorem cmpL_eq : ∀ (a b : List Nat), cmpL a b = 0 → a = b := by
  intro a
  induction a with
  | nil => intro b h; cases b with | nil => rfl | cons y b => simp [cmpL] at h
  | cons x a ih =>
    intro b h
    cases b with
    | nil => simp [cmpL] at h
    | cons y b =>
      rw [cmpL] at h
      by_cases h1 : x < y
      · rw [if_pos h1] at h; omega
      · rw [if_neg h1] at h
        by_cases h2 : y < x
        · rw [if_pos h2] at h; omega
        · rw [if_neg h2] at h
          rw [ih b h, show x = y by omega]
theorem cmpL_trans : ∀ (a b c : List Nat), 0 < cmpL a b → 0 < cmpL b c → 0 < cmpL a c := by
  intro a
  induction a with
  | nil => intro b c h; cases b <;> simp [cmpL] at h
  | cons x a ih =>
    intro b c h1 h2
    cases b with
    | nil => cases c <;> simp [cmpL] at h2
    | cons y b =>
      cases c with
      | nil => simp [cmpL]
      | cons z c =>
        rw [cmpL] at h1 h2 ⊢
        by_cases a1 : x < y
        · rw [if_pos a1] at h1; omega
        rw [if_neg a1] at h1
        by_cases b1 : y < z
        · rw [if_pos b1] at h2; omega
        rw [if_neg b1] at h2
        rw [if_neg (by omega)]
        by_cases a2 : y < x
        · rw [if_pos (by omega)]; omega
        rw [if_neg a2] at h1
        by_cases b2 : z < y
        · rw [if_pos (by omega)]; omega
        rw [if_neg b2] at h2
        rw [if_neg (by omega)]
        exact ih b c h1 h2
/-- What is greater stays so when more follows, if neither begins with the other. -/
theorem cmpL_app : ∀ (a b c d : List Nat), a.sum = b.sum → (∀ n ∈ a, 1 ≤ n) → (∀ n ∈ b, 1 ≤ n) → 0 < cmpL a b → 0 < cmpL (a ++ c) (b ++ d) := by
  intro a
  induction a with
  | nil => intro b c d _ _ _ h; cases b <;> simp [cmpL] at h
  | cons x a ih =>
    intro b c d hs ha hb h
    cases b with
    | nil => have := ha x (by simp); simp at hs; omega
    | cons y b =>
      rw [cmpL] at h
      rw [List.cons_append, List.cons_append, cmpL]
      by_cases a1 : x < y
      · rw [if_pos a1] at h; omega
      rw [if_neg a1] at h ⊢
      by_cases a2 : y < x
      · rw [if_pos a2]; omega
      rw [if_neg a2] at h ⊢
      simp only [List.sum_cons] at hs
      exact ih b c d (by omega) (fun n hn => ha n (by simp [hn])) (fun n hn => hb n (by simp [hn])) h

/-- One way to wrap is as good as another, or better. -/
def Ge (x y : List Nat × Nat) : Prop := x.2 < y.2 ∨ x.2 = y.2 ∧ (x.1 = y.1 ∨ 0 < cmpL x.1 y.1)
theorem Ge.trans {x y z : List Nat × Nat} (h1 : Ge x y) (h2 : Ge y z) : Ge x z := by
  unfold Ge at *
  rcases h1 with h1 | ⟨h1, h1'⟩ <;> rcases h2 with h2 | ⟨h2, h2'⟩
  · exact .inl (by omega)
  · exact .inl (by omega)
  · exact .inl (by omega)
  · refine .inr ⟨by omega, ?_⟩
    rcases h1' with h1' | h1' <;> rcases h2' with h2' | h2'
    · exact .inl (h1'.trans h2')
    · rw [h1']; exact .inr h2'
    · rw [← h2']; exact .inr h1'
    · exact .inr (cmpL_trans _ _ _ h1' h2')
theorem Ge.refl (x : List Nat × Nat) : Ge x x := .inr ⟨rfl, .inl rfl⟩
theorem Ge.anti {x y : List Nat × Nat} (h1 : Ge x y) (h2 : Ge y x) : x = y := by
  unfold Ge at *
  rcases h1 with h1 | ⟨h1, h1'⟩ <;> rcases h2 with h2 | ⟨h2, h2'⟩ <;> try omega
  have e : x.1 = y.1 := by
    rcases h1' with h | h
    · exact h
    · rcases h2' with h' | h'
      · exact h'.symm
      · rw [cmpL_anti] at h'; omega
  exact Prod.ext e h1
/-- Which one is taken. -/
def bett (x y : List Nat × Nat) : Bool := y.1.isEmpty || (if x.2 = y.2 then decide (0 < cmpL x.1 y.1) else decide (x.2 < y.2))
theorem bett_ge {x y : List Nat × Nat} (h : bett x y = true) (h0 : y.1 ≠ []) : Ge x y := by
  unfold bett at h
  have : y.1.isEmpty = false := by cases hy : y.1 with | nil => exact absurd hy h0 | cons _ _ => rfl
  rw [this, Bool.false_or] at h
  split at h
  · rename_i e; exact .inr ⟨e, .inr (by simpa using h)⟩
  · exact .inl (by simpa using h)
theorem bett_no {x y : List Nat × Nat} (h : bett x y = false) : y.1 ≠ [] ∧ Ge y x := by
  unfold bett at h
  rw [Bool.or_eq_false_iff] at h
  obtain ⟨h0, h⟩ := h
  refine ⟨fun e => by rw [e] at h0; simp at h0, ?_⟩
  split at h
  · rename_i e
    have h := of_decide_eq_false h
    refine .inr ⟨e.symm, ?_⟩
    rw [cmpL_anti]
    rcases cmpL_val x.1 y.1 with h' | h' | h'
    · exact .inr (by omega)
    · exact .inl (cmpL_eq _ _ h').symm
    · omega
  · have h := of_decide_eq_false h
    exact .inl (by omega)

/-- The best lines of the first j words. -/
def FBst (w : Int) (S : List Nat) (j : Nat) (p : List Nat × Nat) : Prop :=
  j ≤ S.length ∧ costR w S p.1 = some (p.2, S.drop j) ∧ ∀ q : List Nat × Nat, costR w S q.1 = some (q.2, S.drop j) → Ge p q
theorem drop_inj {S : List Nat} {i j : Nat} (hi : i ≤ S.length) (hj : j ≤ S.length) (h : S.drop i = S.drop j) : i = j := by
  have := congrArg List.length h
  rw [List.length_drop, List.length_drop] at this
  omega
theorem FBst.uniq {w : Int} {S : List Nat} {j : Nat} {p q : List Nat × Nat} (h1 : FBst w S j p) (h2 : FBst w S j q) : p = q := (h1.2.2 q h2.2.1).anti (h2.2.2 p h1.2.1)
theorem fb_zero (w : Int) (S : List Nat) : FBst w S 0 ([], 0) := by
  refine ⟨Nat.zero_le _, by simp [costR], fun q hq => ?_⟩
  obtain ⟨ls, c⟩ := q
  obtain ⟨e, hl, hp⟩ := costR_sum _ _ _ _ hq
  have : 0 = ls.sum := drop_inj (Nat.zero_le _) hl e
  have := len_sum ls hp
  obtain rfl : ls = [] := List.eq_nil_of_length_eq_zero (by omega)
  simp [costR] at hq
  exact .inr ⟨by simpa using hq, .inl rfl⟩

/-- Wrapping from the front: tab k j is what is known of the first j words when the lines from the first k places were looked at. -/
def cand (w : Int) (S : List Nat) (x : List Nat × Nat) (i m : Nat) : List Nat × Nat := (x.1 ++ [m], x.2 + lineC w (S.drop i) m)
def tab (w : Int) (S : List Nat) : Nat → Nat → List Nat × Nat
  | 0, _ => ([], 0)
  | k + 1, j => if k < j ∧ j - k ≤ fuA w (S.drop k) then (if bett (cand w S (tab w S k k) k (j - k)) (tab w S k j) then cand w S (tab w S k k) k (j - k) else tab w S k j) else tab w S k j
theorem tab_old {w : Int} {S : List Nat} {j : Nat} : ∀ k, j ≤ k → tab w S k j = tab w S j j := by
  intro k
  induction k with
  | zero => intro h; obtain rfl : j = 0 := by omega
            rfl
  | succ k ih =>
    intro h
    by_cases e : j = k + 1
    · subst e; rfl
    · rw [tab, if_neg (by omega)]; exact ih (by omega)
/-- From i one line leads to j. -/
def Rch (w : Int) (S : List Nat) (i j : Nat) : Prop := i < j ∧ j - i ≤ fuA w (S.drop i)
theorem snoc_of {ls : List Nat} (h : ls ≠ []) : ∃ a m, ls = a ++ [m] := ⟨ls.dropLast, ls.getLast h, (List.dropLast_concat_getLast h).symm⟩
theorem tab_best {w : Nat} {S : List Nat} (hf : FitS w S) : ∀ j, j ≤ S.length → FBst w S j (tab w S j j) := by
  intro j
  induction j using Nat.strongRecOn with
  | ind j ih =>
    intro hj
    by_cases h0 : j = 0
    · subst h0; exact fb_zero _ _
    have hq : ∀ k, k ≤ j → (tab w S k j = ([], 0) ∧ ∀ i, i < k → ¬ Rch w S i j) ∨ (∃ i, i < k ∧ Rch w S i j ∧ tab w S k j = cand w S (tab w S i i) i (j - i)) ∧ ∀ i, i < k → Rch w S i j → Ge (tab w S k j) (cand w S (tab w S i i) i (j - i)) := by
      intro k
      induction k with
      | zero => intro _; exact .inl ⟨rfl, fun i hi => by omega⟩
      | succ k ihk =>
        intro hk
        by_cases hr : Rch w S k j
        · have hr' := hr
          unfold Rch at hr'
          rw [tab, if_pos hr']
          rcases ihk (by omega) with ⟨e, hno⟩ | ⟨⟨i, hi, hri, e⟩, hall⟩
          · rw [e, if_pos (by simp [bett])]
            exact .inr ⟨⟨k, by omega, hr, rfl⟩, fun i hi hri => by
              by_cases hik : i = k
              · subst hik; exact Ge.refl _
              · exact absurd hri (hno i (by omega))⟩
          · have hne : (tab w S k j).1 ≠ [] := by rw [e]; simp [cand]
            by_cases hb : bett (cand w S (tab w S k k) k (j - k)) (tab w S k j) = true
            · rw [if_pos hb]
              refine .inr ⟨⟨k, by omega, hr, rfl⟩, fun i' hi' hri' => ?_⟩
              by_cases hik : i' = k
              · subst hik; exact Ge.refl _
              · exact (bett_ge hb hne).trans (hall i' (by omega) hri')
            · rw [if_neg hb]
              have hb := bett_no (by simpa using hb)
              refine .inr ⟨⟨i, by omega, hri, e⟩, fun i' hi' hri' => ?_⟩
              by_cases hik : i' = k
              · subst hik; exact hb.2
              · exact hall i' (by omega) hri'
        · have hr' := hr
          unfold Rch at hr'
          have e : tab w S (k + 1) j = tab w S k j := by rw [tab, if_neg hr']
          rw [e]
          rcases ihk (by omega) with ⟨e, hno⟩ | ⟨⟨i, hi, hri, e⟩, hall⟩
          · exact .inl ⟨e, fun i hi hri => by
              by_cases hik : i = k
              · subst hik; exact hr hri
              · exact hno i (by omega) hri⟩
          · exact .inr ⟨⟨i, by omega, hri, e⟩, fun i' hi' hri' => by
              by_cases hik : i' = k
              · subst hik; exact absurd hri' hr
              · exact hall i' (by omega) hri'⟩
    have hlast : Rch w S (j - 1) j := by
      refine ⟨by omega, ?_⟩
      have := (hf.drop (j - 1)).pos (by intro h; have := congrArg List.length h; simp at this; omega)
      omega
    rcases hq j (Nat.le_refl _) with ⟨-, hno⟩ | ⟨⟨i, hi, hri, e⟩, hall⟩
    · exact absurd hlast (hno _ (by omega))
    refine ⟨hj, ?_, fun q hq => ?_⟩
    · rw [e]
      have hb := ih i hi (by omega)
      unfold cand
      rw [costR_app, hb.2.1]
      simp only [Option.bind_some]
      rw [costR_mk (by have := hri.1; omega) hri.2 (c := 0) (R := S.drop j) (by rw [List.drop_drop, show i + (j - i) = j by have := hri.1; omega]; rfl)]
      simp
    · obtain ⟨ls, c⟩ := q
      simp only at hq
      have hsum := costR_sum _ _ _ _ hq
      have hls : ls ≠ [] := by rintro rfl; simp [costR] at hq; have := congrArg List.length hq.2; simp at this; omega
      obtain ⟨a, m, rfl⟩ := snoc_of hls
      rw [costR_app] at hq
      cases ha : costR w S a with
      | none => rw [ha] at hq; cases hq
      | some p =>
        rw [ha] at hq
        simp only [Option.bind_some] at hq
        obtain ⟨ca, R⟩ := p
        obtain ⟨hR, hal, hap⟩ := costR_sum _ _ _ _ ha
        cases hm : costR w R [m] with
        | none => simp only [hm] at hq; cases hq
        | some p2 =>
          simp only [hm, Option.map_some, Option.some.injEq, Prod.mk.injEq] at hq
          obtain ⟨cm, R2⟩ := p2
          obtain ⟨h1, h2, c', h3, h4⟩ := costR_cons hm
          simp [costR] at h3
          have hj' : j = a.sum + m := by
            refine drop_inj hj ?_ ?_
            · have := fu_le w R; rw [hR, List.length_drop] at this; rw [hR] at h2; omega
            · rw [← hq.2]; simp only; rw [← h3.2, hR, List.drop_drop]
          have hra : Rch w S a.sum j := ⟨by omega, by rw [hj', ← hR]; omega⟩
          have hia := hall a.sum (by omega) hra
          refine hia.trans ?_
          have hba := ih a.sum (by omega) hal
          have hge := hba.2.2 (a, ca) (by rw [ha, hR])
          have hba1 := hba.2.1
          obtain ⟨ta, hta⟩ : ∃ ta, ta = tab w S a.sum a.sum := ⟨_, rfl⟩
          rw [← hta] at hge hba1 ⊢
          unfold cand
          rw [show j - a.sum = m by omega]
          simp only [← hR]
          rcases hge with hg | ⟨hg1, hg2⟩
          · exact .inl (by simp only at hg ⊢; omega)
          · refine .inr ⟨by simp only at hg1 ⊢; omega, ?_⟩
            rcases hg2 with hg2 | hg2
            · exact .inl (by simp only at hg2 ⊢; rw [hg2])
            · refine .inr ?_
              simp only at hg2 ⊢
              obtain ⟨e5, e6, e7⟩ := costR_sum _ _ _ _ hba1
              exact cmpL_app _ _ _ _ (drop_inj e6 hal e5.symm) e7 hap hg2

/-- The best lines of all words. -/
def bestL (w : Nat) (S : List Nat) : List Nat := (tab w S S.length S.length).1
def bestC (w : Nat) (S : List Nat) : Nat := (tab w S S.length S.length).2
def Bst (w : Int) (S : List Nat) (p : List Nat × Nat) : Prop := costR w S p.1 = some (p.2, []) ∧ ∀ q : List Nat × Nat, costR w S q.1 = some (q.2, []) → Ge p q
theorem Bst.uniq {w : Int} {S : List Nat} {p q : List Nat × Nat} (h1 : Bst w S p) (h2 : Bst w S q) : p = q := (h1.2 q h2.1).anti (h2.2 p h1.1)
theorem best_ok {w : Nat} {S : List Nat} (hf : FitS w S) : Bst w S (bestL w S, bestC w S) := by
  have h := tab_best hf S.length (Nat.le_refl _)
  unfold FBst at h
  rw [List.drop_length] at h
  exact ⟨h.2.1, h.2.2⟩
/-- From the back: the first line is followed by the best ones of what is left. -/
theorem bst_step {w : Nat} {S : List Nat} (hf : FitS w S) {t : Nat} (h1 : 1 ≤ t) (h2 : t ≤ fuA w S)
    (hall : ∀ t', 1 ≤ t' → t' ≤ fuA w S → lineC w S t + bestC w (S.drop t) < lineC w S t' + bestC w (S.drop t') ∨ (lineC w S t + bestC w (S.drop t) = lineC w S t' + bestC w (S.drop t') ∧ t' ≤ t)) :
    bestL w S = t :: bestL w (S.drop t) ∧ bestC w S = lineC w S t + bestC w (S.drop t) := by
  have hb : Bst w S (t :: bestL w (S.drop t), lineC w S t + bestC w (S.drop t)) := by
    refine ⟨?_, fun q hq => ?_⟩
    · rw [costR_mk h1 h2 (best_ok (hf.drop t)).1, Nat.add_comm]
    · obtain ⟨ls, c⟩ := q
      cases ls with
      | nil =>
        simp [costR] at hq
        have := fu_le w S
        rw [hq.2] at this; simp at this; rw [hq.2] at h2; omega
      | cons n ls =>
        obtain ⟨h3, h4, c', h5, h6⟩ := costR_cons hq
        simp only at h6
        subst h6
        have hn := (best_ok (hf.drop n)).2 (ls, c') h5
        have hn1 := hall n h3 h4
        unfold Ge at hn ⊢
        simp only at hn ⊢
        rcases hn1 with hn1 | ⟨hn1, hle⟩
        · exact .inl (by omega)
        · rcases hn with hn | ⟨hn, hn'⟩
          · exact .inl (by omega)
          · refine .inr ⟨by omega, ?_⟩
            by_cases e : n = t
            · subst e
              rcases hn' with hn' | hn'
              · exact .inl (by rw [hn'])
              · refine .inr ?_
                rw [cmpL, if_neg (by omega), if_neg (by omega)]; exact hn'
            · refine .inr ?_
              rw [cmpL, if_neg (by omega), if_pos (by omega)]; omega
  have := hb.uniq (best_ok hf)
  simp only [Prod.mk.injEq] at this
  exact ⟨this.1.symm, this.2.symm⟩
theorem best_nil (w : Nat) : bestL w [] = [] ∧ bestC w [] = 0 := ⟨rfl, rfl⟩
theorem best_len {w : Nat} {S : List Nat} (hf : FitS w S) : (bestL w S).length ≤ S.length ∧ (∀ n ∈ bestL w S, n ≤ S.length) ∧ (bestL w S).sum = S.length := by
  obtain ⟨h1, h2, h3⟩ := costR_sum _ _ _ _ (best_ok hf).1
  have := len_sum _ h3
  refine ⟨by simp only at this h2 ⊢; omega, fun n hn => ?_, ?_⟩
  · have h4 : n ≤ (bestL w S).sum := mem_sum hn
    simp only at h2; omega
  · have := congrArg List.length h1
    rw [List.length_drop] at this
    simp only [List.length_nil] at this h2
    omega

/-- Lines that are as full as they can be. -/
def gl (w : Int) (S : List Nat) : List Nat := if h : S = [] ∨ fuA w S = 0 then [] else fuA w S :: gl w (S.drop (fuA w S))
  termination_by S.length
  decreasing_by have := fu_le w S; have : S ≠ [] := fun e => h (.inl e); have := List.length_pos_iff.mpr this; rw [List.length_drop]; omega
theorem gl_nil (w : Int) : gl w [] = [] := by rw [gl, dif_pos (.inl rfl)]
theorem gl_cons {w : Nat} {S : List Nat} (hf : FitS w S) (h : S ≠ []) : gl w S = fuA w S :: gl w (S.drop (fuA w S)) := by
  rw [gl, dif_neg]
  have := hf.pos h
  rintro (h' | h')
  · exact h h'
  · omega
theorem gl_ok {w : Nat} : ∀ (n : Nat) (S : List Nat), S.length = n → FitS w S → ∃ c, costR w S (gl w S) = some (c, []) := by
  intro n
  induction n using Nat.strongRecOn with
  | ind n ih =>
    intro S hn hf
    by_cases h : S = []
    · subst h; rw [gl_nil]; exact ⟨0, rfl⟩
    · have hp := hf.pos h
      have hl := List.length_pos_iff.mpr h
      obtain ⟨c, hc⟩ := ih (S.drop (fuA w S)).length (by rw [List.length_drop]; omega) _ rfl (hf.drop _)
      rw [gl_cons hf h]
      exact ⟨_, costR_mk hp (Nat.le_refl _) hc⟩
/-- No lines are fewer, also those of a narrower width, and of more words before. -/
theorem gl_few {w v : Nat} (hvw : v ≤ w) : ∀ (ls S : List Nat) (c : Nat), FitS w S → costR v S ls = some (c, []) → ∀ k, (gl w (S.drop k)).length ≤ ls.length := by
  intro ls
  induction ls with
  | nil =>
    intro S c hf h k
    simp [costR] at h
    rw [h.2, List.drop_nil, gl_nil]; simp
  | cons n ls ih =>
    intro S c hf h k
    obtain ⟨h1, h2, c', h3, -⟩ := costR_cons h
    have IH := ih (S.drop n) c' (hf.drop n) h3
    rw [List.length_cons]
    by_cases hk : n ≤ k
    · have := IH (k - n)
      rw [List.drop_drop, show n + (k - n) = k by omega] at this
      omega
    · by_cases he : S.drop k = []
      · rw [he, gl_nil]; simp
      · rw [gl_cons (hf.drop k) he, List.length_cons, List.drop_drop]
        have hfu : n - k ≤ fuA w (S.drop k) := by
          have hl := fu_le v S
          refine (fu_iff _ _ _).mpr ⟨by rw [List.length_drop]; omega, .inr ?_⟩
          have h4 := fu_len h2 (by omega)
          unfold slen at h4 ⊢
          have e1 : S.take n = S.take k ++ (S.drop k).take (n - k) := by
            rw [← List.take_add, show k + (n - k) = n by omega]
          rw [e1, List.sum_append] at h4
          push_cast at h4
          omega
        have := IH (k + fuA w (S.drop k) - n)
        rw [List.drop_drop, show n + (k + fuA w (S.drop k) - n) = k + fuA w (S.drop k) by omega] at this
        omega
end Go.Proofs.Ytbddokfcohnndaa
