/-
  Lines of a note, plainly: each fits; together they hold the note's letters.
-/
import Derived.Test.YtbddokfcohnndabDoorWrapT
namespace Go.Proofs.YtbddokfcohnndabDoor
open Go.RowKit
set_option linter.unusedVariables false

/-- Bytes without the spaces. -/
def nsL (l : List UInt8) : List UInt8 := l.filter fun b => b != 32
/-- Texts, one behind the other. -/
def catW (L : List ByteArray) : List UInt8 := (L.map (·.data.toList)).flatten
theorem nsL_app (a b : List UInt8) : nsL (a ++ b) = nsL a ++ nsL b := by simp [nsL]
theorem catW_app (a b : List ByteArray) : catW (a ++ b) = catW a ++ catW b := by simp [catW]
theorem catW_cons (a : ByteArray) (b : List ByteArray) : catW (a :: b) = a.data.toList ++ catW b := by simp [catW]
theorem ns_foldl : ∀ (xs : List ByteArray) (a : ByteArray), nsL (xs.foldl (fun a y => a ++ ⟨#[32]⟩ ++ y) a).data.toList = nsL a.data.toList ++ nsL (catW xs) := by
  intro xs
  induction xs with
  | nil => intro a; simp [catW, nsL]
  | cons x xs ih =>
    intro a
    rw [List.foldl_cons, ih, ByteArray.data_append, ByteArray.data_append, Array.toList_append, Array.toList_append, nsL_app, nsL_app, catW_cons, nsL_app]
    rw [show nsL (⟨#[32]⟩ : ByteArray).data.toList = [] from rfl, List.append_nil, List.append_assoc]
theorem ns_jnW (xs : List ByteArray) : nsL (jnW xs).data.toList = nsL (catW xs) := by
  cases xs with
  | nil => rfl
  | cons x xs => rw [jnW, ns_foldl, catW_cons, nsL_app]
theorem ns_lines : ∀ (ls : List Nat) (W : List ByteArray), nsL (catW (linesT ls W)) = nsL (catW (W.take ls.sum)) := by
  intro ls
  induction ls with
  | nil => intro W; simp [linesT]
  | cons n ls ih =>
    intro W
    rw [linesT, catW_cons, nsL_app, ns_jnW, ih, List.sum_cons, List.take_add, catW_app, nsL_app]
theorem ns_fields : ∀ (l cur : List UInt8), (∀ b ∈ l, 32 ≤ b.toNat) → nsL (Lib.fieldsGo cur l).flatten = nsL (cur ++ l) := by
  intro l
  induction l with
  | nil =>
    intro cur _
    rw [Lib.fieldsGo]
    cases cur <;> simp
  | cons b l ih =>
    intro cur h
    have hb := h b (List.mem_cons_self ..)
    have hl := fun b hb => h b (List.mem_cons_of_mem _ hb)
    rw [Lib.fieldsGo, note_sp hb]
    by_cases e : b = 32
    · subst e
      rw [if_pos (by simp)]
      have h3 : nsL (cur ++ 32 :: l) = nsL cur ++ nsL l := by rw [nsL_app]; rfl
      rw [h3]
      have h4 := ih [] hl
      rw [List.nil_append] at h4
      cases cur with
      | nil => rw [if_pos (by rfl), h4]; rfl
      | cons c cs => rw [if_neg (by simp), List.flatten_cons, nsL_app, h4]
    · rw [if_neg (by simpa using e), ih _ hl, List.append_assoc]; rfl
theorem ns_fldB {s : ByteArray} (h : ∀ (k : Nat) (hk : k < s.size), 32 ≤ s[k].toNat) : nsL (catW (fldB s)) = nsL s.data.toList := by
  have e : catW (fldB s) = (Lib.fieldsGo [] s.data.toList).flatten := by
    unfold catW fldB Lib.fields mkB
    rw [List.map_map]
    congr 1
    rw [show ((fun x : ByteArray => x.data.toList) ∘ fun l : List UInt8 => (⟨l.toArray⟩ : ByteArray)) = id from by funext l; simp]
    simp
  rw [e, ns_fields _ [] (fun b hb => by
    obtain ⟨k, hk, rfl⟩ := List.mem_iff_getElem.mp hb
    exact h k (by rw [Array.length_toList] at hk; exact hk)), List.nil_append]
theorem foldl_jsz : ∀ (xs : List ByteArray) (a : ByteArray), (xs.foldl (fun a y => a ++ ⟨#[32]⟩ ++ y) a).size = a.size + (szW xs).sum + xs.length := by
  intro xs
  induction xs with
  | nil => intro a; simp [szW]
  | cons x xs ih =>
    intro a
    have h3 : (a ++ ⟨#[32]⟩ ++ x).size = a.size + 1 + x.size := by
      rw [ByteArray.size_append, ByteArray.size_append]; rfl
    rw [List.foldl_cons, ih, h3, szW, szW, List.map_cons, List.sum_cons, List.length_cons]
    omega
theorem jnW_sz {xs : List ByteArray} (h : xs ≠ []) : (jnW xs).size + 1 = (szW xs).sum + xs.length := by
  cases xs with
  | nil => exact absurd rfl h
  | cons x xs => rw [jnW, foldl_jsz, szW, szW, List.map_cons, List.sum_cons, List.length_cons]; omega
theorem lines_fit {w : Int} : ∀ (ls : List Nat) (W : List ByteArray) (c : Nat) (R : List Nat), (∀ y ∈ W, 1 ≤ y.size) → costR w (szW W) ls = some (c, R) → ∀ t ∈ linesT ls W, 1 ≤ t.size ∧ (t.size : Int) ≤ w := by
  intro ls
  induction ls with
  | nil => intro W c R _ _ t ht; cases ht
  | cons n ls ih =>
    intro W c R hW h t ht
    obtain ⟨h1, h2, c', h3, -⟩ := costR_cons h
    have hle := fu_le w (szW W)
    rw [szW_len] at hle
    rw [linesT] at ht
    rcases List.mem_cons.mp ht with rfl | ht
    · have hf := fu_len h2 (by omega)
      have hlen : (W.take n).length = n := by rw [List.length_take]; omega
      have hne : W.take n ≠ [] := by intro e; rw [e] at hlen; simp at hlen; omega
      have hz := jnW_sz hne
      rw [hlen, show szW (W.take n) = (szW W).take n by simp [szW, List.map_take]] at hz
      unfold slen at hf
      refine ⟨?_, by omega⟩
      obtain ⟨y, ys, he⟩ : ∃ y ys, W.take n = y :: ys := List.exists_cons_of_ne_nil hne
      have hy := hW y (List.mem_of_mem_take (by rw [he]; exact List.mem_cons_self ..))
      rw [he, jnW, foldl_jsz]; omega
    · exact ih (W.drop n) c' R (fun y hy => hW y (List.mem_of_mem_drop hy)) (by rw [show szW (W.drop n) = (szW W).drop n by simp [szW, List.map_drop]]; exact h3) t ht
theorem wrap_line {s : ByteArray} {x : Int} : ∀ t ∈ wrapTB s x, 1 ≤ t.size ∧ (t.size : Int) ≤ x := by
  intro t ht
  unfold wrapTB at ht
  split at ht
  · unfold wlB at ht
    by_cases hf : fitB (fldB s) x = true
    · rw [if_pos hf] at ht
      obtain ⟨n, rfl, h1, h2, h3⟩ := fit_S hf
      rw [Int.toNat_natCast] at ht
      exact lines_fit _ _ _ _ (fun y hy => ((okW_iff _ _).mp (((fitB_iff _ _).mp hf).2.2.2 y hy)).1) (best_ok h3).1 t ht
    · rw [if_neg hf] at ht; cases ht
  · cases ht
theorem wrap_all {s : ByteArray} {x : Int} (h : wrapTB s x ≠ []) : nsL (catW (wrapTB s x)) = nsL s.data.toList := by
  unfold wrapTB at h ⊢
  split at h
  · rename_i hn
    rw [if_pos hn]
    unfold wlB at h ⊢
    by_cases hf : fitB (fldB s) x = true
    · rw [if_pos hf]
      obtain ⟨n, rfl, h1, h2, h3⟩ := fit_S hf
      obtain ⟨h4, h5, h6⟩ := costR_sum _ _ _ _ (best_ok h3).1
      rw [Int.toNat_natCast]
      simp only at h4 h5
      have h7 : (bestL n (szW (fldB s))).sum = (fldB s).length := by
        have := congrArg List.length h4
        rw [List.length_drop, szW_len] at this
        rw [szW_len] at h5
        simp at this; omega
      rw [ns_lines, h7, List.take_length, ns_fldB (fun k hk => ((note_bytes hn).2 k hk).1)]
    · rw [if_neg hf] at h; exact absurd rfl h
  · exact absurd rfl h

end Go.Proofs.YtbddokfcohnndabDoor
