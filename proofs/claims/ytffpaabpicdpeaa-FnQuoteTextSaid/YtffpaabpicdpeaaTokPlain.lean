/-
  Tokens, plainly: no Go, no program. The machine (stepM, endM), what spec reads at a place (endS), and that both give the same tokens.
-/
import Derived.Test.YtffpaabpicdpeaaNamePlain
namespace Go.Proofs.Ytffpaabpicdpeaa
set_option linter.unusedVariables false

def signI (n : Int) : Bool := n == 45 || n == 42 || n == 47 || n == 37 || n == 43 || n == 63 || n == 58 || n == 40 || n == 41 || n == 91 || n == 93 || n == 44
def cmpB (n : Int) : Bool := n == 60 || n == 62 || n == 33
def firstI (n : Int) : Int := if ltrI n = true then 1 else if digI n = true then 2 else if (n == 32) = true then 0 else if (n == 34) = true then 3 else if cmpB n = true then 6 else if (n == 61) = true then 7 else if (n == 38) = true then 8 else if (n == 124) = true then 9 else if signI n = true then 10 else 11
def inTextI (n : Int) : Int := if (n == 34) = true then 5 else if (n == 92) = true then 4 else 3
def nS (st n : Int) : Int := if st = 1 then 1 else if st = 2 then 2 else if st = 3 then inTextI n else if st = 4 then 3 else if st = 6 ∨ st = 7 ∨ st = 8 ∨ st = 9 then 10 else if st = 11 then 11 else 0
def nB (st n : Int) : Bool := if st = 1 then (parI n || n == 46) else if st = 2 then (digI n || n == 46) else if st = 3 ∨ st = 4 then true else if st = 6 ∨ st = 7 then n == 61 else if st = 8 then n == 38 else if st = 9 then n == 124 else decide (st = 11)
def kI (st : Int) : Int := if st = 1 then 1 else if st = 2 then 2 else if st = 5 then 3 else if st = 6 ∨ st = 10 then 4 else 0

/-- The machine: its state, where its token begins, its tokens (kind, from, to). -/
def stepM (m : Int × Nat × List (Int × Nat × Nat)) (a : Nat) (n : Int) : Int × Nat × List (Int × Nat × Nat) :=
  if nB m.1 n = true then (nS m.1 n, m.2.1, m.2.2)
  else if m.1 = 0 then (firstI n, a, m.2.2)
  else if kI m.1 = 0 then (11, m.2.1, m.2.2)
  else (firstI n, a, m.2.2 ++ [(kI m.1, m.2.1, a)])
def runM : (Int × Nat × List (Int × Nat × Nat)) → Nat → List UInt8 → Int × Nat × List (Int × Nat × Nat)
  | m, _, [] => m
  | m, a, b :: t => runM (stepM m a (b.toNat : Int)) (a + 1) t
def endM (m : Int × Nat × List (Int × Nat × Nat)) (a : Nat) (l : List UInt8) : Int × Nat × List (Int × Nat × Nat) := stepM (runM m a l) (a + l.length) 32
/-- Whether all is read, and the tokens. -/
def resB (m : Int × Nat × List (Int × Nat × Nat)) (a : Nat) (l : List UInt8) : Bool := decide ((endM m a l).1 = 0)
def resL (m : Int × Nat × List (Int × Nat × Nat)) (a : Nat) (l : List UInt8) : List (Int × Nat × Nat) := if resB m a l = true then (endM m a l).2.2 else []

theorem runM_app (l r : List UInt8) : ∀ m a, runM m a (l ++ r) = runM (runM m a l) (a + l.length) r := by
  induction l with
  | nil => intro m a; rfl
  | cons b t ih => intro m a; simp only [List.cons_append, runM, List.length_cons]; rw [ih]; congr 1; omega
theorem runM_snoc (l : List UInt8) (b : UInt8) (m : Int × Nat × List (Int × Nat × Nat)) : runM m 0 (l ++ [b]) = stepM (runM m 0 l) l.length (b.toNat : Int) := by
  rw [runM_app]; simp [runM]

theorem nB_zero (n : Int) : nB 0 n = false := by simp [nB]
theorem step_zero (f a : Nat) (acc : List (Int × Nat × Nat)) (n : Int) : stepM (0, f, acc) a n = (firstI n, a, acc) := by
  simp [stepM, nB_zero]
theorem first_space : firstI 32 = 0 := by decide
theorem res_nil (f a : Nat) (acc : List (Int × Nat × Nat)) : resB (0, f, acc) a [] = true ∧ resL (0, f, acc) a [] = acc := by
  have h : endM (0, f, acc) a [] = (0, a, acc) := by unfold endM; rw [runM, step_zero, first_space]; rfl
  simp [resB, resL, h]
theorem end_from (f f' a : Nat) (acc : List (Int × Nat × Nat)) (l : List UInt8) : endM (0, f, acc) a l = endM (0, f', acc) a l := by
  cases l with
  | nil => unfold endM; rw [runM, runM, step_zero, step_zero]
  | cons b t => unfold endM; rw [runM, runM, step_zero, step_zero]
theorem end_space (f a : Nat) (acc : List (Int × Nat × Nat)) (b : UInt8) (t : List UInt8) (h : (b.toNat : Int) = 32) : endM (0, f, acc) a (b :: t) = endM (0, a, acc) (a + 1) t := by
  unfold endM; rw [runM, step_zero, h, first_space, List.length_cons]; congr 1; omega
theorem step_stuck (f a : Nat) (acc : List (Int × Nat × Nat)) (n : Int) : stepM (11, f, acc) a n = (11, f, acc) := by
  simp [stepM, nB, nS]
theorem run_stuck (f : Nat) (acc : List (Int × Nat × Nat)) (l : List UInt8) : ∀ a, runM (11, f, acc) a l = (11, f, acc) := by
  induction l with
  | nil => intro a; rfl
  | cons b t ih => intro a; rw [runM, step_stuck, ih]
theorem end_stuck (f a : Nat) (acc : List (Int × Nat × Nat)) (l : List UInt8) : endM (11, f, acc) a l = (11, f, acc) := by
  unfold endM; rw [run_stuck, step_stuck]

/-- All bytes belong to what the state stands for; the state behind them. -/
def stays : Int → List UInt8 → Bool
  | _, [] => true
  | st, b :: t => nB st (b.toNat : Int) && stays (nS st (b.toNat : Int)) t
def fin : Int → List UInt8 → Int
  | st, [] => st
  | st, b :: t => fin (nS st (b.toNat : Int)) t
theorem run_stays (f : Nat) (acc : List (Int × Nat × Nat)) (l : List UInt8) : ∀ st a, stays st l = true → runM (st, f, acc) a l = (fin st l, f, acc) := by
  induction l with
  | nil => intro st a _; rfl
  | cons b t ih =>
    intro st a h
    simp only [stays, Bool.and_eq_true] at h
    rw [runM, fin, stepM, if_pos h.1]
    exact ih _ _ h.2
theorem kI_cases {st : Int} (h : kI st ≠ 0) : st ≠ 0 ∧ nB st 32 = false := by
  unfold kI at h
  split at h
  · rename_i e; subst e; decide
  · split at h
    · rename_i e; subst e; decide
    · split at h
      · rename_i e; subst e; decide
      · split at h
        · rename_i e; rcases e with rfl | rfl <;> decide
        · exact absurd rfl h
theorem step_ends (st : Int) (f a : Nat) (acc : List (Int × Nat × Nat)) (n : Int) (hk : kI st ≠ 0) (hb : nB st n = false) : stepM (st, f, acc) a n = (firstI n, a, acc ++ [(kI st, f, a)]) := by
  have := (kI_cases hk).1
  simp [stepM, hb, this, hk]
/-- A token, read. -/
theorem end_token (f a : Nat) (acc : List (Int × Nat × Nat)) (b : UInt8) (t r : List UInt8) (h : stays (firstI (b.toNat : Int)) t = true) (hk : kI (fin (firstI (b.toNat : Int)) t) ≠ 0)
    (hr : ∀ c r', r = c :: r' → nB (fin (firstI (b.toNat : Int)) t) (c.toNat : Int) = false) :
    endM (0, f, acc) a (b :: (t ++ r)) = endM (0, 0, acc ++ [(kI (fin (firstI (b.toNat : Int)) t), a, a + (t.length + 1))]) (a + (t.length + 1)) r := by
  unfold endM
  rw [runM, step_zero, runM_app, run_stays _ _ _ _ _ h]
  cases r with
  | nil =>
    rw [runM, runM, step_ends _ _ _ _ _ hk (kI_cases hk).2, step_zero]
    simp only [List.append_nil, List.length_cons, List.length_nil, Nat.add_zero]
  | cons c r' =>
    rw [runM, runM, step_ends _ _ _ _ _ hk (hr c r' rfl), step_zero]
    simp only [List.length_cons, List.length_append]
    rw [show a + 1 + t.length = a + (t.length + 1) by omega, show a + (t.length + (r'.length + 1) + 1) = a + (t.length + 1) + (r'.length + 1) by omega]

/-- How many bytes at the beginning are such ones. -/
def lead (p : Int → Bool) : List UInt8 → Nat
  | [] => 0
  | b :: t => if p (b.toNat : Int) = true then lead p t + 1 else 0
def nmI (n : Int) : Bool := parI n || n == 46
def nrI (n : Int) : Bool := digI n || n == 46
/-- Where a text between quotation marks ends (fl: behind a backslash). -/
def clo : Bool → List UInt8 → Nat
  | false, [] => 0
  | true, [] => 1
  | true, b :: t => clo false t + 1
  | false, b :: t => if ((b.toNat : Int) == 34) = true then 0 else if ((b.toNat : Int) == 92) = true then clo true t + 1 else clo false t + 1
def two (b c : Int) : Bool := ((b == 60) && (c == 61)) || ((b == 62) && (c == 61)) || ((b == 61) && (c == 61)) || ((b == 33) && (c == 61)) || ((b == 38) && (c == 38)) || ((b == 124) && (c == 124))
def one (b : Int) : Bool := b == 33 || b == 45 || b == 42 || b == 47 || b == 37 || b == 43 || b == 60 || b == 62 || b == 63 || b == 58 || b == 40 || b == 41 || b == 91 || b == 93 || b == 44
def signL : List UInt8 → Nat
  | [] => 0
  | [b] => if one (b.toNat : Int) = true then 1 else 0
  | b :: c :: _ => if two (b.toNat : Int) (c.toNat : Int) = true then 2 else if one (b.toNat : Int) = true then 1 else 0
/-- How long the token at the beginning is, and its kind. -/
def endN : List UInt8 → Nat
  | [] => 0
  | b :: t => if ltrI (b.toNat : Int) = true then lead nmI (b :: t) else if digI (b.toNat : Int) = true then lead nrI (b :: t) else if ((b.toNat : Int) == 34) = true then (if clo false t < t.length then clo false t + 2 else 0) else signL (b :: t)
def endK : List UInt8 → Int
  | [] => 0
  | b :: t => if ltrI (b.toNat : Int) = true then 1 else if digI (b.toNat : Int) = true then 2 else if ((b.toNat : Int) == 34) = true then (if clo false t < t.length then 3 else 0) else if signL (b :: t) = 0 then 0 else 4

theorem lead_le (p : Int → Bool) (l : List UInt8) : lead p l ≤ l.length := by
  induction l with
  | nil => exact Nat.le_refl _
  | cons b t ih => simp only [lead]; split <;> simp [ih]
theorem lead_stay (p : Int → Bool) (st : Int) (h1 : ∀ n, nB st n = p n) (h2 : ∀ n, nS st n = st) (l : List UInt8) : stays st (l.take (lead p l)) = true ∧ fin st (l.take (lead p l)) = st ∧ ∀ c r', l.drop (lead p l) = c :: r' → nB st (c.toNat : Int) = false := by
  induction l with
  | nil => simp [lead, stays, fin]
  | cons b t ih =>
    simp only [lead]
    split
    · rename_i h
      simp only [List.take_succ_cons, stays, fin, h1, h, h2, Bool.true_and, List.drop_succ_cons]
      simp only [h1] at ih
      exact ih
    · rename_i h
      refine ⟨rfl, rfl, fun c r' e => ?_⟩
      simp only [List.drop_zero, List.cons.injEq] at e
      rw [← e.1, h1]; exact Bool.eq_false_iff.mpr h
theorem clo_stay (l : List UInt8) : ∀ fl, (clo fl l < l.length → stays (if fl = true then 4 else 3) (l.take (clo fl l + 1)) = true ∧ fin (if fl = true then 4 else 3) (l.take (clo fl l + 1)) = 5) ∧
    (¬ clo fl l < l.length → stays (if fl = true then 4 else 3) l = true ∧ (fin (if fl = true then 4 else 3) l = 3 ∨ fin (if fl = true then 4 else 3) l = 4)) := by
  induction l with
  | nil => intro fl; cases fl <;> simp [clo, stays, fin]
  | cons b t ih =>
    intro fl
    cases fl with
    | true =>
      have h := ih false
      simp only [if_true, Bool.false_eq_true, if_false] at h ⊢
      simp only [clo, List.length_cons, List.take_succ_cons, stays, fin, show nB 4 (b.toNat : Int) = true by simp [nB], show nS 4 (b.toNat : Int) = 3 by simp [nS], Bool.true_and]
      exact ⟨fun g => h.1 (by omega), fun g => h.2 (by omega)⟩
    | false =>
      simp only [Bool.false_eq_true, if_false]
      have e1 : nB 3 (b.toNat : Int) = true := by simp [nB]
      have e2 : nS 3 (b.toNat : Int) = inTextI (b.toNat : Int) := by simp [nS]
      by_cases h34 : ((b.toNat : Int) == 34) = true
      · simp only [clo, h34, if_true, List.length_cons, List.take_succ_cons, List.take_zero, stays, fin, e1, e2, inTextI]
        exact ⟨fun _ => ⟨rfl, trivial⟩, fun g => absurd (by omega) g⟩
      · by_cases h92 : ((b.toNat : Int) == 92) = true
        · have h := ih true
          simp only [if_true] at h
          simp only [clo, h34, h92, if_true, Bool.false_eq_true, if_false, List.length_cons, List.take_succ_cons, stays, fin, e1, e2, inTextI, Bool.true_and]
          exact ⟨fun g => h.1 (by omega), fun g => h.2 (by omega)⟩
        · have h := ih false
          simp only [Bool.false_eq_true, if_false] at h
          simp only [clo, h34, h92, Bool.false_eq_true, if_false, List.length_cons, List.take_succ_cons, stays, fin, e1, e2, inTextI, Bool.true_and]
          exact ⟨fun g => h.1 (by omega), fun g => h.2 (by omega)⟩

/-- A token at the beginning. -/
def TokAt (l : List UInt8) (n : Nat) (k : Int) : Prop :=
  ∃ b t, l.take n = b :: t ∧ stays (firstI (b.toNat : Int)) t = true ∧ kI (fin (firstI (b.toNat : Int)) t) = k ∧ k ≠ 0 ∧ n ≤ l.length ∧ ∀ c r', l.drop n = c :: r' → nB (fin (firstI (b.toNat : Int)) t) (c.toNat : Int) = false

theorem TokAt.read {l : List UInt8} {n : Nat} {k : Int} (h : TokAt l n k) (f a : Nat) (acc : List (Int × Nat × Nat)) : 1 ≤ n ∧ endM (0, f, acc) a l = endM (0, 0, acc ++ [(k, a, a + n)]) (a + n) (l.drop n) := by
  obtain ⟨b, t, ht, hs, hk, hk0, hn, hr⟩ := h
  have hlen : (l.take n).length = n := by rw [List.length_take]; omega
  rw [ht, List.length_cons] at hlen
  refine ⟨by omega, ?_⟩
  have hl : l = b :: (t ++ l.drop n) := by rw [← List.cons_append, ← ht, List.take_append_drop]
  have e := end_token f a acc b t (l.drop n) hs (by rw [hk]; exact hk0) hr
  rw [← hl, hk, hlen] at e
  exact e
/-- It is one token alone. -/
theorem TokAt.alone {l : List UInt8} {n : Nat} {k : Int} (h : TokAt l n k) : endM (0, 0, []) 0 (l.take n) = (0, n, [(k, 0, n)]) := by
  obtain ⟨b, t, ht, hs, hk, hk0, hn, hr⟩ := h
  have hlen : (l.take n).length = n := by rw [List.length_take]; omega
  rw [ht, List.length_cons] at hlen
  have e := end_token 0 0 [] b t [] hs (by rw [hk]; exact hk0) (by intro c r' e; cases e)
  rw [List.append_nil, hk, hlen] at e
  rw [ht, e]
  unfold endM
  rw [runM, step_zero, first_space]
  simp

theorem ltrI_one {n : Int} (h : ltrI n = true) : firstI n = 1 := by simp [firstI, h]
theorem digI_not {n : Int} (h : ltrI n = false) (hd : digI n = true) : firstI n = 2 := by simp [firstI, h, hd]

theorem end_ok (b : UInt8) (t : List UInt8) (h : (b.toNat : Int) ≠ 32) (hk : endK (b :: t) ≠ 0) : TokAt (b :: t) (endN (b :: t)) (endK (b :: t)) := by
  simp only [endK] at hk
  simp only [endN, endK]
  cases hl : ltrI (b.toNat : Int) with
  | true =>
    simp only [if_true]
    have hm : nmI (b.toNat : Int) = true := by simp [nmI, parI, hl]
    have g := lead_stay nmI 1 (fun n => by simp [nB, nmI]) (fun n => by simp [nS]) t
    simp only [lead, hm, if_true]
    refine ⟨b, t.take (lead nmI t), rfl, ?_, ?_, by omega, by simp [lead_le], ?_⟩
    · rw [ltrI_one hl]; exact g.1
    · rw [ltrI_one hl, g.2.1]; decide
    · rw [ltrI_one hl, g.2.1, List.drop_succ_cons]; exact g.2.2
  | false =>
    simp only [hl, Bool.false_eq_true, if_false] at hk ⊢
    cases hd : digI (b.toNat : Int) with
    | true =>
      simp only [if_true]
      have hm : nrI (b.toNat : Int) = true := by simp [nrI, hd]
      have g := lead_stay nrI 2 (fun n => by simp [nB, nrI]) (fun n => by simp [nS]) t
      simp only [lead, hm, if_true]
      refine ⟨b, t.take (lead nrI t), rfl, ?_, ?_, by omega, by simp [lead_le], ?_⟩
      · rw [digI_not hl hd]; exact g.1
      · rw [digI_not hl hd, g.2.1]; decide
      · rw [digI_not hl hd, g.2.1, List.drop_succ_cons]; exact g.2.2
    | false =>
      simp only [hd, Bool.false_eq_true, if_false] at hk ⊢
      by_cases h34 : ((b.toNat : Int) == 34) = true
      · simp only [h34, if_true] at hk ⊢
        have hf : firstI (b.toNat : Int) = 3 := by rw [beq_iff_eq] at h34; rw [h34]; decide
        split at hk
        · rename_i hc
          simp only [hc, if_true]
          have g := (clo_stay t false).1 hc
          simp only [Bool.false_eq_true, if_false] at g
          refine ⟨b, t.take (clo false t + 1), rfl, ?_, ?_, by omega, by simp; omega, ?_⟩
          · rw [hf]; exact g.1
          · rw [hf, g.2]; decide
          · rw [hf, g.2]; intro c r' _; simp [nB]
        · exact absurd rfl hk
      · have h34' := Bool.eq_false_iff.mpr h34
        simp only [h34', Bool.false_eq_true, if_false] at hk ⊢
        have hs : signL (b :: t) ≠ 0 := by intro e; rw [if_pos e] at hk; exact hk rfl
        rw [if_neg hs]
        generalize hx : (b.toNat : Int) = x at *
        have sgl : one x = true → (∀ c r', t = c :: r' → two x (c.toNat : Int) = false) → TokAt (b :: t) 1 4 := by
          intro h1 h2
          have key : kI (firstI x) = 4 ∧ ∀ c : UInt8, two x (c.toNat : Int) = false → nB (firstI x) (c.toNat : Int) = false := by
            simp only [one, Bool.or_eq_true, beq_iff_eq] at h1
            rcases h1 with (((((((((((((( e | e) | e) | e) | e) | e) | e) | e) | e) | e) | e) | e) | e) | e) | e) <;> subst e <;> refine ⟨by decide, fun c hc => ?_⟩ <;> simp_all [two, nB, firstI, ltrI, digI, cmpB, signI]
          refine ⟨b, [], rfl, rfl, by rw [hx]; exact key.1, by omega, by simp, fun c r' e => ?_⟩
          rw [hx]; exact key.2 c (h2 c r' (by simpa using e))
        cases t with
        | nil =>
          simp only [signL, hx] at hs ⊢
          split at hs
          · rename_i h1; rw [if_pos h1]; exact sgl h1 (by intro c r' e; cases e)
          · exact absurd rfl hs
        | cons c r =>
          simp only [signL, hx] at hs ⊢
          by_cases h2 : two x (c.toNat : Int) = true
          · rw [if_pos h2]
            have key : nB (firstI x) (c.toNat : Int) = true ∧ nS (firstI x) (c.toNat : Int) = 10 := by
              simp only [two, Bool.or_eq_true, Bool.and_eq_true, beq_iff_eq] at h2
              rcases h2 with ((((( ⟨e, g⟩ | ⟨e, g⟩) | ⟨e, g⟩) | ⟨e, g⟩) | ⟨e, g⟩) | ⟨e, g⟩) <;> rw [e, g] <;> decide
            refine ⟨b, [c], rfl, ?_, ?_, by omega, by simp, fun d r' _ => ?_⟩
            · rw [hx]; simp [stays, key.1]
            · rw [hx]; simp only [fin, key.2]; decide
            · rw [hx]; simp only [fin, key.2]; simp [nB]
          · rw [if_neg h2] at hs ⊢
            split at hs
            · rename_i h1; rw [if_pos h1]
              refine sgl h1 ?_
              intro c' r' e; cases e; exact Bool.eq_false_iff.mpr h2
            · exact absurd rfl hs

/-- Nothing that could be read stands at the beginning. -/
theorem end_bad (f a : Nat) (acc : List (Int × Nat × Nat)) (b : UInt8) (t : List UInt8) (h : (b.toNat : Int) ≠ 32) (hk : endK (b :: t) = 0) : (endM (0, f, acc) a (b :: t)).1 ≠ 0 := by
  simp only [endK] at hk
  cases hl : ltrI (b.toNat : Int) with
  | true => simp [hl] at hk
  | false =>
    simp only [hl, Bool.false_eq_true, if_false] at hk
    cases hd : digI (b.toNat : Int) with
    | true => simp [hd] at hk
    | false =>
      simp only [hd, Bool.false_eq_true, if_false] at hk
      by_cases h34 : ((b.toNat : Int) == 34) = true
      · have hf : firstI (b.toNat : Int) = 3 := by rw [beq_iff_eq] at h34; rw [h34]; decide
        simp only [h34, if_true] at hk
        split at hk
        · omega
        · rename_i hc
          have g := (clo_stay t false).2 hc
          simp only [Bool.false_eq_true, if_false] at g
          unfold endM
          rw [runM, step_zero, hf, run_stays _ _ _ _ _ g.1]
          rcases g.2 with e | e <;> rw [e] <;> simp [stepM, nB, nS, inTextI]
      · have h34' := Bool.eq_false_iff.mpr h34
        simp only [h34', Bool.false_eq_true, if_false] at hk
        have hs : signL (b :: t) = 0 := by
          by_cases e : signL (b :: t) = 0
          · exact e
          · rw [if_neg e] at hk; omega
        have hone : one (b.toNat : Int) = false := by
          cases t with
          | nil => simp only [signL] at hs; by_cases e : one (b.toNat : Int) = true
                   · rw [if_pos e] at hs; omega
                   · exact Bool.eq_false_iff.mpr e
          | cons c r => simp only [signL] at hs; split at hs
                        · omega
                        · by_cases e : one (b.toNat : Int) = true
                          · rw [if_pos e] at hs; omega
                          · exact Bool.eq_false_iff.mpr e
        have stop : ∀ (st : Int) (g : Nat), st ≠ 0 → kI st = 0 → nB st 32 = false → (∀ c r', t = c :: r' → nB st (c.toNat : Int) = false) → firstI (b.toNat : Int) = st → (endM (0, f, acc) a (b :: t)).1 ≠ 0 := by
          intro st g h1 h2 h3 h4 h5
          unfold endM
          rw [runM, step_zero, h5]
          cases t with
          | nil => rw [runM]; simp [stepM, h1, h2, h3]
          | cons c r =>
            rw [runM, show stepM (st, a, acc) (a + 1) (c.toNat : Int) = (11, a, acc) by simp [stepM, h1, h2, h4 c r rfl], run_stuck, step_stuck]
            simp
        have h2 : ∀ c r', t = c :: r' → two (b.toNat : Int) (c.toNat : Int) = false := by
          intro c r' e; subst e
          simp only [signL] at hs
          by_cases e : two (b.toNat : Int) (c.toNat : Int) = true
          · rw [if_pos e] at hs; omega
          · exact Bool.eq_false_iff.mpr e
        have h32 : ((b.toNat : Int) == 32) = false := by simpa using h
        by_cases e61 : ((b.toNat : Int) == 61) = true
        · refine stop 7 0 (by omega) (by decide) (by decide) (fun c r' e => ?_) (by rw [beq_iff_eq] at e61; rw [e61]; decide)
          have := h2 c r' e
          rw [beq_iff_eq] at e61
          rw [e61] at this
          simp [two] at this
          simp [nB]; omega
        by_cases e38 : ((b.toNat : Int) == 38) = true
        · refine stop 8 0 (by omega) (by decide) (by decide) (fun c r' e => ?_) (by rw [beq_iff_eq] at e38; rw [e38]; decide)
          have := h2 c r' e
          rw [beq_iff_eq] at e38
          rw [e38] at this
          simp [two] at this
          simp [nB]; omega
        by_cases e124 : ((b.toNat : Int) == 124) = true
        · refine stop 9 0 (by omega) (by decide) (by decide) (fun c r' e => ?_) (by rw [beq_iff_eq] at e124; rw [e124]; decide)
          have := h2 c r' e
          rw [beq_iff_eq] at e124
          rw [e124] at this
          simp [two] at this
          simp [nB]; omega
        · have hf : firstI (b.toNat : Int) = 11 := by
            have g1 : cmpB (b.toNat : Int) = false := by simp_all [one, cmpB]
            have g2 : signI (b.toNat : Int) = false := by simp_all [one, signI]
            simp only [firstI, hl, hd, h32, h34', g1, g2, Bool.eq_false_iff.mpr e61, Bool.eq_false_iff.mpr e38, Bool.eq_false_iff.mpr e124, Bool.false_eq_true, if_false]
          unfold endM
          rw [runM, step_zero, hf, run_stuck, step_stuck]
          simp

end Go.Proofs.Ytffpaabpicdpeaa
