/-
  Tokens cover texts; words; texts with a space between them: plainly.
-/
import Derived.Test.YtiehdnompeibiaaTokPlain
namespace Go.Proofs.Ytiehdnompeibiaa
set_option linter.unusedVariables false

def spaces (l : List UInt8) : Bool := l.all fun b => (b.toNat : Int) == 32
/-- Tokens from a place on, with spaces alone between them. -/
def Cover : Nat → List UInt8 → List (Int × Nat × Nat) → Prop
  | a, l, [] => spaces l = true
  | a, l, (k, f, t) :: ts => ∃ j n, f = a + j ∧ t = a + j + n ∧ j ≤ l.length ∧ spaces (l.take j) = true ∧ TokAt (l.drop j) n k ∧ Cover (a + j + n) (l.drop (j + n)) ts

theorem cover_space (a : Nat) (b : UInt8) (l : List UInt8) (ts : List (Int × Nat × Nat)) (hb : (b.toNat : Int) = 32) (h : Cover (a + 1) l ts) : Cover a (b :: l) ts := by
  cases ts with
  | nil => simp only [Cover, spaces, List.all_cons, hb] at h ⊢; simpa using h
  | cons x ts =>
    obtain ⟨k, f, t⟩ := x
    obtain ⟨j, n, h1, h2, h3, h4, h5, h6⟩ := h
    refine ⟨j + 1, n, by omega, by omega, by simpa using h3, ?_, by simpa using h5, ?_⟩
    · simp only [spaces, List.take_succ_cons, List.all_cons, hb] at h4 ⊢; simpa using h4
    · rw [show a + (j + 1) + n = a + 1 + j + n by omega, show j + 1 + n = (j + n) + 1 by omega, List.drop_succ_cons]; exact h6

theorem cover_of (m : Nat) : ∀ (l : List UInt8) (a f : Nat) (acc : List (Int × Nat × Nat)), l.length ≤ m → (endM (0, f, acc) a l).1 = 0 → ∃ ts, (endM (0, f, acc) a l).2.2 = acc ++ ts ∧ Cover a l ts := by
  induction m with
  | zero =>
    intro l a f acc hl h
    obtain rfl : l = [] := List.eq_nil_of_length_eq_zero (by omega)
    refine ⟨[], ?_, rfl⟩
    unfold endM; rw [runM, step_zero]; simp
  | succ m ih =>
    intro l a f acc hl h
    cases l with
    | nil =>
      refine ⟨[], ?_, rfl⟩
      unfold endM; rw [runM, step_zero]; simp
    | cons b t =>
      by_cases hb : (b.toNat : Int) = 32
      · rw [end_space _ _ _ _ _ hb] at h ⊢
        obtain ⟨ts, h1, h2⟩ := ih t (a + 1) a acc (by simpa using hl) h
        exact ⟨ts, h1, cover_space a b t ts hb h2⟩
      · by_cases hk : endK (b :: t) = 0
        · exact absurd h (end_bad f a acc b t hb hk)
        · have ht := end_ok b t hb hk
          have hr := ht.read f a acc
          rw [hr.2] at h ⊢
          obtain ⟨ts, h1, h2⟩ := ih _ _ _ _ (by rw [List.length_drop]; omega) h
          refine ⟨(endK (b :: t), a, a + endN (b :: t)) :: ts, by rw [h1]; simp, 0, endN (b :: t), rfl, rfl, by omega, rfl, ht, ?_⟩
          simpa using h2
theorem res_cover {l : List UInt8} (h : resB (0, 0, []) 0 l = true) : Cover 0 l (resL (0, 0, []) 0 l) := by
  have h0 : (endM (0, 0, []) 0 l).1 = 0 := by simpa [resB] using h
  obtain ⟨ts, h1, h2⟩ := cover_of l.length l 0 0 [] (Nat.le_refl _) h0
  rw [List.nil_append] at h1
  rw [resL, if_pos h, h1]; exact h2
theorem TokAt.le {l : List UInt8} {n : Nat} {k : Int} (h : TokAt l n k) : 1 ≤ n ∧ n ≤ l.length := by
  have h1 := (h.read 0 0 []).1
  obtain ⟨b, t, -, -, -, -, hle, -⟩ := h
  exact ⟨h1, hle⟩
/-- Every token lies in the text. -/
theorem cover_in (ts : List (Int × Nat × Nat)) : ∀ (a : Nat) (l : List UInt8), Cover a l ts → ∀ x ∈ ts, a ≤ x.2.1 ∧ x.2.1 < x.2.2 ∧ x.2.2 ≤ a + l.length := by
  induction ts with
  | nil => intro a l _ x hx; cases hx
  | cons y ts ih =>
    intro a l h x hx
    obtain ⟨k, f, t⟩ := y
    obtain ⟨j, n, h1, h2, h3, h4, h5, h6⟩ := h
    have hle := h5.le
    rw [List.length_drop] at hle
    rcases List.mem_cons.mp hx with rfl | hx
    · simp only; omega
    · have := ih _ _ h6 x hx
      rw [List.length_drop] at this
      omega

/-- Places further on. -/
def shT (d : Nat) (x : Int × Nat × Nat) : Int × Nat × Nat := (x.1, x.2.1 + d, x.2.2 + d)
def shM (d : Nat) (acc : List (Int × Nat × Nat)) (m : Int × Nat × List (Int × Nat × Nat)) : Int × Nat × List (Int × Nat × Nat) := (m.1, m.2.1 + d, acc ++ m.2.2.map (shT d))
theorem step_sh (d : Nat) (acc : List (Int × Nat × Nat)) (m : Int × Nat × List (Int × Nat × Nat)) (a : Nat) (n : Int) : stepM (shM d acc m) (a + d) n = shM d acc (stepM m a n) := by
  obtain ⟨st, f, X⟩ := m
  by_cases h1 : nB st n = true
  · simp [stepM, shM, h1]
  · by_cases h2 : st = 0
    · subst h2; simp [stepM, shM, nB_zero]
    · by_cases h3 : kI st = 0
      · simp [stepM, shM, h1, h2, h3]
      · simp [stepM, shM, shT, h1, h2, h3]
theorem run_sh (d : Nat) (acc : List (Int × Nat × Nat)) (l : List UInt8) : ∀ m a, runM (shM d acc m) (a + d) l = shM d acc (runM m a l) := by
  induction l with
  | nil => intro m a; rfl
  | cons b t ih => intro m a; rw [runM, runM, step_sh, show a + d + 1 = a + 1 + d by omega, ih]
theorem end_sh (d : Nat) (acc : List (Int × Nat × Nat)) (l : List UInt8) (m : Int × Nat × List (Int × Nat × Nat)) (a : Nat) : endM (shM d acc m) (a + d) l = shM d acc (endM m a l) := by
  unfold endM; rw [run_sh, show a + d + l.length = a + l.length + d by omega, step_sh]

/-- Two texts with a space between them. -/
theorem end_both (l1 l2 : List UInt8) (b : UInt8) (hb : (b.toNat : Int) = 32) (h1 : (endM (0, 0, []) 0 l1).1 = 0) :
    endM (0, 0, []) 0 (l1 ++ b :: l2) = shM (l1.length + 1) (endM (0, 0, []) 0 l1).2.2 (endM (0, 0, []) 0 l2) := by
  generalize hm : endM (0, 0, []) 0 l1 = m at h1
  obtain ⟨st, f, T1⟩ := m
  simp only at h1
  subst h1
  have e : endM (0, 0, []) 0 (l1 ++ b :: l2) = endM (0, f, T1) (l1.length + 1) l2 := by
    conv => lhs; unfold endM
    rw [runM_app, runM, hb]
    have : stepM (runM (0, 0, []) 0 l1) (0 + l1.length) 32 = (0, f, T1) := hm
    rw [this]
    unfold endM
    simp only [List.length_append, List.length_cons, Nat.zero_add]
    congr 1; omega
  rw [e, end_from f (0 + (l1.length + 1))]
  have := end_sh (l1.length + 1) T1 l2 (0, 0, []) 0
  simp only [shM, List.map_nil, List.append_nil, Nat.zero_add] at this ⊢
  exact this
/-- The bytes of the words. -/
def W (l : List UInt8) : List (List UInt8) := (resL (0, 0, []) 0 l).map fun t => (l.drop t.2.1).take (t.2.2 - t.2.1)
theorem W_both (l1 l2 : List UInt8) (b : UInt8) (hb : (b.toNat : Int) = 32) (h1 : resB (0, 0, []) 0 l1 = true) (h2 : resB (0, 0, []) 0 l2 = true) :
    resB (0, 0, []) 0 (l1 ++ b :: l2) = true ∧ W (l1 ++ b :: l2) = W l1 ++ W l2 := by
  have e1 : (endM (0, 0, []) 0 l1).1 = 0 := by simpa [resB] using h1
  have e2 : (endM (0, 0, []) 0 l2).1 = 0 := by simpa [resB] using h2
  have e := end_both l1 l2 b hb e1
  have hr : resB (0, 0, []) 0 (l1 ++ b :: l2) = true := by simp [resB, e, shM, e2]
  refine ⟨hr, ?_⟩
  have c1 := cover_in _ _ _ (res_cover h1)
  unfold W
  have eL : resL (0, 0, []) 0 (l1 ++ b :: l2) = resL (0, 0, []) 0 l1 ++ (resL (0, 0, []) 0 l2).map (shT (l1.length + 1)) := by
    rw [resL, if_pos hr, resL, if_pos h1, resL, if_pos h2, e]; rfl
  rw [eL, List.map_append, List.map_map]
  congr 1
  · apply List.map_congr_left
    intro x hx
    have := c1 x hx
    rw [List.drop_append_of_le_length (by omega), List.take_append_of_le_length (by rw [List.length_drop]; omega)]
  · apply List.map_congr_left
    intro x hx
    simp only [Function.comp, shT]
    rw [show x.2.1 + (l1.length + 1) = (l1.length + 1) + x.2.1 by omega, ← List.drop_drop]
    rw [show (l1 ++ b :: l2).drop (l1.length + 1) = l2 by
      rw [← List.drop_drop, List.drop_left]; rfl]
    congr 1; omega
theorem W_nil : resB (0, 0, []) 0 [] = true ∧ W [] = [] := by
  have := res_nil 0 0 []
  exact ⟨this.1, by unfold W; rw [this.2]; rfl⟩
theorem W_space (b : UInt8) (l : List UInt8) (hb : (b.toNat : Int) = 32) (h : resB (0, 0, []) 0 l = true) : resB (0, 0, []) 0 (b :: l) = true ∧ W (b :: l) = W l := by
  have := W_both [] l b hb W_nil.1 h
  rw [W_nil.2] at this
  simpa using this
/-- Each word of a text is one token. -/
theorem cover_alone (ts : List (Int × Nat × Nat)) : ∀ (a : Nat) (l : List UInt8), Cover a l ts → ∀ x ∈ ts, endM (0, 0, []) 0 ((l.drop (x.2.1 - a)).take (x.2.2 - x.2.1)) = (0, x.2.2 - x.2.1, [(x.1, 0, x.2.2 - x.2.1)]) := by
  induction ts with
  | nil => intro a l _ x hx; cases hx
  | cons y ts ih =>
    intro a l h x hx
    have hin := cover_in _ _ _ h
    obtain ⟨k, f, t⟩ := y
    obtain ⟨j, n, h1, h2, h3, h4, h5, h6⟩ := h
    rcases List.mem_cons.mp hx with rfl | hx
    · simp only
      rw [show f - a = j by omega, show t - f = n by omega]
      exact h5.alone
    · have h7 := ih _ _ h6 x hx
      have h8 := cover_in _ _ _ h6 x hx
      rw [List.drop_drop, show j + n + (x.2.1 - (a + j + n)) = x.2.1 - a by omega] at h7
      exact h7
theorem W_alone {l : List UInt8} (h : resB (0, 0, []) 0 l = true) : ∀ u ∈ W l, resB (0, 0, []) 0 u = true ∧ W u = [u] := by
  intro u hu
  unfold W at hu
  rw [List.mem_map] at hu
  obtain ⟨x, hx, rfl⟩ := hu
  have hc := res_cover h
  have ha := cover_alone _ _ _ hc x hx
  have hi := cover_in _ _ _ hc x hx
  rw [Nat.sub_zero] at ha
  have hr : resB (0, 0, []) 0 ((l.drop x.2.1).take (x.2.2 - x.2.1)) = true := by simp [resB, ha]
  refine ⟨hr, ?_⟩
  have hlen : ((l.drop x.2.1).take (x.2.2 - x.2.1)).length = x.2.2 - x.2.1 := by rw [List.length_take, List.length_drop]; omega
  conv => lhs; unfold W
  rw [resL, if_pos hr, ha]
  simp only [List.map_cons, List.map_nil, List.drop_zero, Nat.sub_zero]
  rw [List.take_of_length_le (by rw [hlen]; exact Nat.le_refl _)]
/-- Words with two spaces behind each. -/
def joinW : List (List UInt8) → List UInt8
  | [] => []
  | u :: us => u ++ 32 :: 32 :: joinW us
theorem W_join (us : List (List UInt8)) (h : ∀ u ∈ us, resB (0, 0, []) 0 u = true ∧ W u = [u]) : resB (0, 0, []) 0 (joinW us) = true ∧ W (joinW us) = us := by
  induction us with
  | nil => exact W_nil
  | cons u us ih =>
    have h1 := h u List.mem_cons_self
    have h2 := ih (fun v hv => h v (List.mem_cons_of_mem _ hv))
    have h3 := W_space 32 (joinW us) rfl h2.1
    have h4 := W_both u (32 :: joinW us) 32 rfl h1.1 h3.1
    refine ⟨h4.1, ?_⟩
    show W (u ++ 32 :: 32 :: joinW us) = _
    rw [h4.2, h1.2, h3.2, h2.2]; rfl

end Go.Proofs.Ytiehdnompeibiaa
