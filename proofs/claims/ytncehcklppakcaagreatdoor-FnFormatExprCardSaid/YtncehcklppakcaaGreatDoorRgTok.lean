/-
  The tokens of a text as the program reads them, plainly.
-/
import Derived.Test.YtncehcklppakcaaGreatDoorBaseR
import Derived.Test.YtncehcklppakcaaGreatDoorBaseT
namespace Go.Proofs.YtncehcklppakcaaGreatDoor
set_option linter.unusedVariables false

/-- The kinds and the words of a text's tokens. -/
def rdTk (s : ByteArray) : List Tk := (toksT s).map fun x => (x.1, s.extract x.2.1 x.2.2)
theorem sg_first {b : UInt8} (h : sgB b = true) : 6 ≤ firstI (b.toNat : Int) ∧ firstI (b.toNat : Int) ≤ 10 := by
  simp only [sgB, Bool.or_eq_true, beq_iff_eq] at h
  rcases h with ((((((((((((((((h | h) | h) | h) | h) | h) | h) | h) | h) | h) | h) | h) | h) | h) | h) | h) | h) | h
  all_goals (subst h; decide)
theorem sg_fin {st : Int} {t : List UInt8} (h1 : 6 ≤ st) (h2 : st ≤ 10) (h : stays st t = true) : fin st t = st ∨ fin st t = 10 := by
  have e10 : ∀ n, nB 10 n = false := fun n => by simp [nB]
  cases t with
  | nil => exact .inl rfl
  | cons c r =>
    right
    simp only [stays, Bool.and_eq_true] at h
    by_cases hst : st = 10
    · subst hst; rw [e10] at h; cases h.1
    · have hn : nS st (c.toNat : Int) = 10 := by
        have : st = 6 ∨ st = 7 ∨ st = 8 ∨ st = 9 := by omega
        rcases this with rfl | rfl | rfl | rfl <;> rfl
      rw [fin, hn]
      rw [hn] at h
      cases r with
      | nil => rfl
      | cons d r => simp only [stays, Bool.and_eq_true, e10] at h; cases h.2.1
theorem kI_bd {st : Int} (h : kI st ≠ 0) : 1 ≤ kI st ∧ kI st ≤ 4 := by
  unfold kI at h ⊢
  repeat' split at h
  all_goals first | (exact absurd rfl h) | (repeat' split) <;> omega
theorem kI_sg {st : Int} (h1 : 6 ≤ st) (h2 : st ≤ 10) (h : kI st ≠ 0) : kI st = 4 := by
  have : st = 6 ∨ st = 7 ∨ st = 8 ∨ st = 9 ∨ st = 10 := by omega
  rcases this with rfl | rfl | rfl | rfl | rfl
  · rfl
  · exact absurd rfl h
  · exact absurd rfl h
  · exact absurd rfl h
  · rfl
theorem TokAt.kinds {l : List UInt8} {n : Nat} {k : Int} (h : TokAt l n k) : 1 ≤ k ∧ k ≤ 4 ∧ (k ≠ 4 → ∀ b t, l.take n = b :: t → sgB b = false) := by
  obtain ⟨b, t, ht, hs, hk, hk0, -⟩ := h
  subst hk
  refine ⟨(kI_bd hk0).1, (kI_bd hk0).2, fun h4 b' t' he => ?_⟩
  rw [ht] at he
  injection he with e1 e2
  subst e1 e2
  cases hb : sgB b with
  | false => rfl
  | true =>
    obtain ⟨f1, f2⟩ := sg_first hb
    rcases sg_fin f1 f2 hs with h | h
    · rw [h] at h4 hk0; exact absurd (kI_sg f1 f2 hk0) h4
    · rw [h] at h4; exact absurd rfl h4
theorem cover_kinds (ts : List (Int × Nat × Nat)) : ∀ (a : Nat) (l : List UInt8), Cover a l ts → ts.length ≤ l.length ∧ ∀ x ∈ ts, 1 ≤ x.1 ∧ x.1 ≤ 4 ∧ (x.1 ≠ 4 → ∀ b t, (l.drop (x.2.1 - a)).take (x.2.2 - x.2.1) = b :: t → sgB b = false) := by
  induction ts with
  | nil => intro a l _; exact ⟨Nat.zero_le _, fun x hx => by cases hx⟩
  | cons y ts ih =>
    intro a l h
    obtain ⟨k, f, t⟩ := y
    obtain ⟨j, n, rfl, rfl, h3, h4, h5, h6⟩ := h
    have hle := h5.le
    rw [List.length_drop] at hle
    obtain ⟨i1, i2⟩ := ih _ _ h6
    rw [List.length_drop] at i1
    have hin := cover_in ts _ _ h6
    refine ⟨by rw [List.length_cons]; omega, fun x hx => ?_⟩
    rcases List.mem_cons.mp hx with rfl | hx
    · have := h5.kinds
      simp only [Nat.add_sub_cancel_left] at this ⊢
      exact this
    · obtain ⟨k1, k2, k3⟩ := i2 x hx
      have h7 := (hin x hx).1
      refine ⟨k1, k2, fun h4' b t' he => k3 h4' b t' ?_⟩
      rw [List.drop_drop, show j + n + (x.2.1 - (a + j + n)) = x.2.1 - a by omega]
      exact he
theorem toks_cover {s : ByteArray} : Cover 0 s.data.toList (toksT s) ∨ toksT s = [] := by
  by_cases h : okT s = true
  · left
    rw [toksT, if_pos h]
    simp only [okT, Bool.and_eq_true] at h
    exact res_cover h.2
  · right; rw [toksT, if_neg h]
theorem toks_len (s : ByteArray) (hs : s.size ≤ 20000 ∨ okT s = true) : (toksT s).length ≤ 20000 ∧ (toksT s ≠ [] → s.size ≤ 20000) := by
  have h20 : okT s = true → s.size ≤ 20000 := fun h => by simp only [okT, Bool.and_eq_true, decide_eq_true_eq] at h; exact h.1.1
  by_cases h : okT s = true
  · have := h20 h
    rcases toks_cover (s := s) with hc | hc
    · have := (cover_kinds _ _ _ hc).1
      rw [size_list] at this
      exact ⟨by omega, fun _ => by omega⟩
    · rw [hc]; exact ⟨Nat.zero_le _, fun _ => by omega⟩
  · rw [toksT, if_neg h]; exact ⟨Nat.zero_le _, fun h => absurd rfl h⟩
theorem toks_facts (s : ByteArray) : (toksT s).length ≤ 20000 ∧ (∀ x ∈ toksT s, x.2.1 ≤ x.2.2 ∧ x.2.2 ≤ s.size) ∧ Signed (rdTk s) ∧ ∀ x ∈ toksT s, 1 ≤ x.1 ∧ x.1 ≤ 4 := by
  by_cases h : okT s = true
  · refine ⟨(toks_len s (.inr h)).1, ?_⟩
    rcases toks_cover (s := s) with hc | hc
    · have hin := cover_in _ _ _ hc
      obtain ⟨-, hk⟩ := cover_kinds _ _ _ hc
      refine ⟨fun x hx => ?_, ?_, fun x hx => ⟨(hk x hx).1, (hk x hx).2.1⟩⟩
      · have := hin x hx; rw [size_list] at this; omega
      · intro p k w hp hk4 b t hb
        simp only [rdTk, List.getElem?_map, Option.map_eq_some_iff] at hp
        obtain ⟨x, hx, he⟩ := hp
        injection he with e1 e2
        subst e1 e2
        have hm := List.mem_of_getElem? hx
        refine (hk x hm).2.2 hk4 b t ?_
        rw [← hb, ByteArray.data_extract, Array.toList_extract, List.extract_eq_take_drop]
        simp
    · rw [hc]; exact ⟨(fun x hx => by cases hx), (fun p k w hp => by simp [rdTk, hc] at hp), (fun x hx => by cases hx)⟩
  · have hc : toksT s = [] := by rw [toksT, if_neg h]
    rw [hc]; exact ⟨Nat.zero_le _, (fun x hx => by cases hx), (fun p k w hp => by simp [rdTk, hc] at hp), (fun x hx => by cases hx)⟩

end Go.Proofs.YtncehcklppakcaaGreatDoor
