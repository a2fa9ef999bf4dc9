/-
  The words of joined texts.
-/
import Derived.Test.YtiehdnompeibiaaWords
namespace Go.Proofs.Ytiehdnompeibiaa
set_option linter.unusedVariables false

def bytesW (L : List ByteArray) : List (List UInt8) := L.map fun t => t.data.toList
theorem bytesW_inj {A B : List ByteArray} (h : bytesW A = bytesW B) : A = B := by
  induction A generalizing B with
  | nil => cases B with
    | nil => rfl
    | cons b B => simp [bytesW] at h
  | cons a A ih =>
    cases B with
    | nil => simp [bytesW] at h
    | cons b B =>
      simp only [bytesW, List.map_cons, List.cons.injEq] at h
      rw [ih h.2, Go.WideShapes.bytes_inj h.1]
theorem ext_list (s : ByteArray) (f t : Nat) : (s.extract f t).data.toList = (s.data.toList.drop f).take (t - f) := by
  simp [ByteArray.data_extract]
theorem wordsT_bytes (s : ByteArray) (h : okT s = true) : bytesW (wordsT s) = W s.data.toList := by
  unfold bytesW wordsT W toksT
  rw [if_pos h, List.map_map]
  apply List.map_congr_left
  intro x hx
  simp only [Function.comp]
  rw [ext_list]
theorem okT_parts {s : ByteArray} (h : okT s = true) : s.size ≤ 20000 ∧ plainL s.data.toList = true ∧ resB (0, 0, []) 0 s.data.toList = true := by
  simp only [okT, Bool.and_eq_true, decide_eq_true_eq] at h; exact ⟨h.1.1, h.1.2, h.2⟩
theorem okT_of {s : ByteArray} (h1 : s.size ≤ 20000) (h2 : plainL s.data.toList = true) (h3 : resB (0, 0, []) 0 s.data.toList = true) : okT s = true := by
  simp only [okT, Bool.and_eq_true, decide_eq_true_eq]; exact ⟨⟨h1, h2⟩, h3⟩
theorem plainL_app (a b : List UInt8) : plainL (a ++ b) = (plainL a && plainL b) := by simp [plainL]
theorem plainL_sub {l m : List UInt8} (h : plainL l = true) (hs : ∀ x ∈ m, x ∈ l) : plainL m = true := by
  simp only [plainL, List.all_eq_true] at h ⊢; exact fun x hx => h x (hs x hx)
theorem W_plain {l : List UInt8} (h : plainL l = true) : ∀ u ∈ W l, plainL u = true := by
  intro u hu
  unfold W at hu
  rw [List.mem_map] at hu
  obtain ⟨x, _, rfl⟩ := hu
  exact plainL_sub h fun y hy => List.mem_of_mem_drop (List.mem_of_mem_take hy)
theorem join_plain (us : List (List UInt8)) (h : ∀ u ∈ us, plainL u = true) : plainL (joinW us) = true := by
  induction us with
  | nil => rfl
  | cons u us ih =>
    show plainL (u ++ 32 :: 32 :: joinW us) = true
    rw [plainL_app, h u List.mem_cons_self]
    have := ih (fun v hv => h v (List.mem_cons_of_mem _ hv))
    simp only [plainL, List.all_cons] at this ⊢
    rw [this]; rfl
theorem join_snoc (us : List (List UInt8)) (u : List UInt8) : joinW (us ++ [u]) = joinW us ++ (u ++ [32, 32]) := by
  induction us with
  | nil => simp [joinW]
  | cons v us ih => simp [joinW, ih]
/-- Written with two spaces behind each of them they are the same words. -/
theorem words_again (s t : ByteArray) (ht : t.size ≤ 20000) (h : t.data.toList = joinW (bytesW (wordsT s))) : wordsT t = wordsT s := by
  cases hok : okT s with
  | true =>
    obtain ⟨_, p2, p3⟩ := okT_parts hok
    have hb := wordsT_bytes s hok
    rw [hb] at h
    have hj := W_join (W s.data.toList) (W_alone p3)
    have hot : okT t = true := okT_of ht (by rw [h]; exact join_plain _ (W_plain p2)) (by rw [h]; exact hj.1)
    apply bytesW_inj
    rw [wordsT_bytes t hot, hb, h, hj.2]
  | false =>
    have hw : wordsT s = [] := by simp [wordsT, toksT, hok]
    rw [hw] at h ⊢
    have h' : t.data.toList = [] := h
    have hot : okT t = true := okT_of ht (by rw [h']; rfl) (by rw [h']; exact W_nil.1)
    apply bytesW_inj
    rw [wordsT_bytes t hot, h', W_nil.2]; rfl
/-- With a space between them two texts have the words of both. -/
theorem words_both (a b c : ByteArray) (ha : okT a = true) (hb : okT b = true) (hc : c.size ≤ 20000) (h : c.data.toList = a.data.toList ++ 32 :: b.data.toList) : wordsT c = wordsT a ++ wordsT b := by
  obtain ⟨_, a2, a3⟩ := okT_parts ha
  obtain ⟨_, b2, b3⟩ := okT_parts hb
  have hw := W_both a.data.toList b.data.toList 32 rfl a3 b3
  have hoc : okT c = true := okT_of hc (by
    rw [h, plainL_app, a2]
    simp only [plainL, List.all_cons] at b2 ⊢
    rw [b2]; rfl) (by rw [h]; exact hw.1)
  apply bytesW_inj
  rw [wordsT_bytes c hoc, h, hw.2, ← wordsT_bytes a ha, ← wordsT_bytes b hb]
  simp [bytesW]
theorem toksT_small (s : ByteArray) : (toksT s).length ≤ s.size + 1 := by
  unfold toksT
  split
  · unfold resL
    split
    · have hl : s.data.toList.length = s.size := by rw [Array.length_toList]; rfl
      have h1 := runM_len (s.data.toList) (0, 0, []) 0
      have h2 : (endM (0, 0, []) 0 s.data.toList).2.2.length ≤ (runM (0, 0, []) 0 s.data.toList).2.2.length + 1 := by
        unfold endM stepM
        split
        · simp
        · split
          · simp
          · split <;> simp
      simp only [List.length_nil] at h1
      omega
    · simp
  · simp
theorem wordsT_small (s : ByteArray) : (wordsT s).length ≤ s.size + 1 := by have := toksT_small s; simpa [wordsT] using this
theorem wordsT_size (s : ByteArray) (t : ByteArray) (h : t ∈ wordsT s) : t.size ≤ s.size := by
  unfold wordsT at h
  rw [List.mem_map] at h
  obtain ⟨x, _, rfl⟩ := h
  rw [ByteArray.size_extract]; omega

end Go.Proofs.Ytiehdnompeibiaa
