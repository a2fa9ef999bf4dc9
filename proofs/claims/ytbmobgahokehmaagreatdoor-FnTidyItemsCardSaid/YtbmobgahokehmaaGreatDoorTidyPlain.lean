/-
  Tidy documents, plainly: tidying (tidyL), what is left out, that tidy documents are documents and stay.
-/
import Derived.Test.YtbmobgahokehmaaGreatDoorDocPlain
namespace Go.Proofs.YtbmobgahokehmaaGreatDoor
set_option linter.unusedVariables false

def lastK (l : List It) : Int := (l.getLast?.map (·.1)).getD 0
theorem lastK_snoc (l : List It) (i : It) : lastK (l ++ [i]) = i.1 := by unfold lastK; rw [List.getLast?_concat]; rfl
theorem lastK_nil : lastK [] = 0 := rfl
/-- One item more. -/
def tidyS (out : List It) (i : It) : List It :=
  if i.1 = 1 ∧ (out = [] ∨ lastK out = 1 ∨ lastK out = 4) then out
  else (if i.1 = 5 ∧ lastK out = 1 then out.dropLast else out) ++ [i]
def tidyE (out : List It) : List It := if lastK out = 1 then out.dropLast else out
def tidyL (l : List It) : List It := tidyE (l.foldl tidyS [])
noncomputable def tidyD (l : List It) : List It := if docB l = true then tidyL l else []
/-- All but the blank ones. -/
def fullL (l : List It) : List It := l.filter fun i => decide (i.1 ≠ 1)
theorem fullL_snoc (l : List It) (i : It) : fullL (l ++ [i]) = fullL l ++ (if i.1 = 1 then [] else [i]) := by
  unfold fullL
  rw [List.filter_append]
  congr 1
  by_cases h : i.1 = 1
  · rw [if_pos h]; simp [h]
  · rw [if_neg h]; simp [h]
theorem drop_last {l : List It} (h : lastK l = 1) : ∃ i, l = l.dropLast ++ [i] ∧ i.1 = 1 := by
  cases hl : l.getLast? with
  | none => rw [lastK, hl] at h; cases h
  | some i =>
    obtain ⟨ys, hy⟩ := List.getLast?_eq_some_iff.mp hl
    subst hy
    rw [lastK_snoc] at h
    exact ⟨i, by rw [List.dropLast_concat], h⟩
theorem full_drop {l : List It} (h : lastK l = 1) : fullL l.dropLast = fullL l := by
  obtain ⟨i, e, h1⟩ := drop_last h
  conv => rhs; rw [e]
  rw [fullL_snoc, if_pos h1, List.append_nil]
theorem full_S (out : List It) (i : It) : fullL (tidyS out i) = fullL (out ++ [i]) := by
  unfold tidyS
  split
  · rename_i h; rw [fullL_snoc, if_pos h.1, List.append_nil]
  · rw [fullL_snoc, fullL_snoc]
    split
    · rename_i h; rw [full_drop h.2]
    · rfl
theorem full_fold : ∀ (l out : List It), fullL (l.foldl tidyS out) = fullL (out ++ l) := by
  intro l
  induction l with
  | nil => intro out; simp
  | cons i l ih =>
    intro out
    rw [List.foldl_cons, ih]
    have : fullL (tidyS out i ++ l) = fullL (tidyS out i) ++ fullL l := by unfold fullL; rw [List.filter_append]
    rw [this, full_S]
    unfold fullL
    rw [← List.filter_append, List.append_assoc]; rfl
theorem full_E (out : List It) : fullL (tidyE out) = fullL out := by
  unfold tidyE
  split
  · rename_i h; exact full_drop h
  · rfl
/-- Only blank items are left out. -/
theorem tidy_full (l : List It) : fullL (tidyL l) = fullL l := by
  unfold tidyL
  rw [full_E, full_fold, List.nil_append]
theorem nest_full : ∀ (l : List It) (d : Int), 0 ≤ d → d ≤ 4 → nestO d l = nestO d (fullL l) := by
  intro l
  induction l with
  | nil => intro d _ _; rfl
  | cons i l ih =>
    intro d h0 h1
    by_cases h : i.1 = 1
    · have e : fullL (i :: l) = fullL l := by unfold fullL; rw [List.filter_cons_of_neg (by simp [h])]
      have en : depN d i = d := by unfold depN depS; rw [if_neg (by omega), if_neg (by omega)]
      rw [e, nestO, en, if_pos ⟨h0, h1⟩, ih d h0 h1]
    · have e : fullL (i :: l) = i :: fullL l := by unfold fullL; rw [List.filter_cons_of_pos (by simp [h])]
      rw [e, nestO, nestO]
      split
      · rename_i hc; exact ih _ hc.1 hc.2
      · rfl
theorem tidyS_mem {out : List It} {i j : It} (h : j ∈ tidyS out i) : j ∈ out ∨ j = i := by
  unfold tidyS at h
  split at h
  · exact .inl h
  · rw [List.mem_append, List.mem_singleton] at h
    rcases h with h | h
    · split at h
      · exact .inl (List.dropLast_subset _ h)
      · exact .inl h
    · exact .inr h
theorem tidyS_len (out : List It) (i : It) : (tidyS out i).length ≤ out.length + 1 := by
  unfold tidyS
  split
  · omega
  · rw [List.length_append, List.length_singleton]
    split
    · rw [List.length_dropLast]; omega
    · omega
theorem fold_mem : ∀ (l out : List It) (j : It), j ∈ l.foldl tidyS out → j ∈ out ∨ j ∈ l := by
  intro l
  induction l with
  | nil => intro out j h; exact .inl h
  | cons i l ih =>
    intro out j h
    rcases ih _ j h with h | h
    · rcases tidyS_mem h with h | h
      · exact .inl h
      · exact .inr (by rw [h]; exact List.mem_cons_self ..)
    · exact .inr (List.mem_cons_of_mem _ h)
theorem fold_len : ∀ (l out : List It), (l.foldl tidyS out).length ≤ out.length + l.length := by
  intro l
  induction l with
  | nil => intro out; exact Nat.le_refl _
  | cons i l ih =>
    intro out
    have := ih (tidyS out i)
    have h2 := tidyS_len out i
    rw [List.foldl_cons, List.length_cons]; omega
theorem tidyE_mem {out : List It} {j : It} (h : j ∈ tidyE out) : j ∈ out := by
  unfold tidyE at h
  split at h
  · exact List.dropLast_subset _ h
  · exact h
theorem tidyE_len (out : List It) : (tidyE out).length ≤ out.length := by
  unfold tidyE
  split
  · rw [List.length_dropLast]; omega
  · omega
theorem tidy_mem {l : List It} {j : It} (h : j ∈ tidyL l) : j ∈ l := by
  rcases fold_mem l [] j (tidyE_mem h) with h | h
  · cases h
  · exact h
theorem tidy_len (l : List It) : (tidyL l).length ≤ l.length := by
  have h1 := tidyE_len (l.foldl tidyS [])
  have h2 := fold_len l []
  rw [List.length_nil, Nat.zero_add] at h2
  exact Nat.le_trans h1 h2
/-- A tidy document is a document. -/
theorem tidy_doc {l : List It} (h : docB l = true) : docB (tidyL l) = true := by
  rw [docB_iff] at h ⊢
  obtain ⟨h1, h2, h3⟩ := h
  refine ⟨Nat.le_trans (tidy_len l) h1, ?_, ?_⟩
  · rw [List.all_eq_true] at h2 ⊢
    exact fun j hj => h2 j (tidy_mem hj)
  · rw [nest_full _ 0 (by omega) (by omega), tidy_full, ← nest_full _ 0 (by omega) (by omega)]; exact h3
/-- What may stand behind what. -/
def nextOK (a b : Int) : Prop := ¬ (b = 1 ∧ (a = 1 ∨ a = 4)) ∧ ¬ (a = 1 ∧ b = 5)
def Neat (l : List It) : Prop := (∀ i, l.head? = some i → i.1 ≠ 1) ∧ ∀ k, (h : k + 1 < l.length) → nextOK l[k].1 l[k + 1].1
theorem neat_nil : Neat [] := ⟨fun i h => (by cases h), fun k h => absurd h (by simp)⟩
theorem neat_take {l : List It} (h : Neat l) (n : Nat) : Neat (l.take n) := by
  refine ⟨fun i hi => ?_, fun k hk => ?_⟩
  · cases n with
    | zero => cases hi
    | succ n =>
      cases l with
      | nil => cases hi
      | cons a l => exact h.1 i hi
  · rw [List.length_take] at hk
    rw [List.getElem_take, List.getElem_take]
    exact h.2 k (by omega)
theorem neat_drop {l : List It} (h : Neat l) : Neat l.dropLast := by rw [List.dropLast_eq_take]; exact neat_take h _
theorem lastK_at {l : List It} (h : 0 < l.length) : lastK l = (l[l.length - 1]'(by omega)).1 := by
  unfold lastK
  rw [List.getLast?_eq_getElem?, List.getElem?_eq_getElem (by omega)]; rfl
theorem neat_snoc {l : List It} (h : Neat l) {i : It} (h0 : l = [] → i.1 ≠ 1) (h1 : l ≠ [] → nextOK (lastK l) i.1) : Neat (l ++ [i]) := by
  refine ⟨fun j hj => ?_, fun k hk => ?_⟩
  · cases l with
    | nil => simp at hj; rw [← hj]; exact h0 rfl
    | cons a l => exact h.1 j hj
  · rw [List.length_append, List.length_singleton] at hk
    by_cases hk1 : k + 1 < l.length
    · rw [List.getElem_append_left (by omega), List.getElem_append_left hk1]; exact h.2 k hk1
    · have hne : l ≠ [] := by intro e; subst e; simp at hk
      have := h1 hne
      rw [lastK_at (by omega)] at this
      rw [List.getElem_append_left (by omega), List.getElem_append_right (by omega)]
      have e : l.length - 1 = k := by omega
      simp only [e] at this
      simpa using this
theorem neat_S {out : List It} (h : Neat out) (i : It) : Neat (tidyS out i) := by
  unfold tidyS
  split
  · exact h
  · rename_i hn
    split
    · rename_i hc
      obtain ⟨b, e, h1⟩ := drop_last hc.2
      refine neat_snoc (neat_drop h) (fun _ => by omega) fun hne => ?_
      have hlen : 0 < out.dropLast.length := List.length_pos_iff.mpr hne
      have hl : out.length = out.dropLast.length + 1 := by conv => lhs; rw [e]; rw [List.length_append, List.length_singleton]
      have hx := h.2 (out.dropLast.length - 1) (by omega)
      have hb : (out[out.dropLast.length - 1 + 1]'(by omega)).1 = 1 := by
        have := lastK_at (l := out) (by omega)
        rw [hc.2] at this
        have e2 : out.length - 1 = out.dropLast.length - 1 + 1 := by omega
        simp only [e2] at this
        exact this.symm
      have ha : lastK out.dropLast = (out[out.dropLast.length - 1]'(by omega)).1 := by
        rw [lastK_at hlen, List.getElem_dropLast]
      rw [hb, ← ha] at hx
      unfold nextOK at hx ⊢
      omega
    · rename_i hc
      refine neat_snoc h (fun e k => hn ⟨k, .inl e⟩) fun hne => ?_
      unfold nextOK
      refine ⟨fun k => hn ⟨k.1, .inr k.2⟩, fun k => hc ⟨k.2, k.1⟩⟩
theorem neat_fold : ∀ (l out : List It), Neat out → Neat (l.foldl tidyS out) := by
  intro l
  induction l with
  | nil => intro out h; exact h
  | cons i l ih => intro out h; exact ih _ (neat_S h i)
theorem neat_E {out : List It} (h : Neat out) : Neat (tidyE out) ∧ lastK (tidyE out) ≠ 1 := by
  unfold tidyE
  split
  · rename_i hl
    refine ⟨neat_drop h, fun k => ?_⟩
    obtain ⟨b, e, h1⟩ := drop_last hl
    have hne : 0 < out.dropLast.length := by
      cases hd : out.dropLast with
      | nil => rw [hd] at k; cases k
      | cons _ _ => simp
    have hll : out.length = out.dropLast.length + 1 := by conv => lhs; rw [e]; rw [List.length_append, List.length_singleton]
    have hx := h.2 (out.dropLast.length - 1) (by omega)
    have hb : (out[out.dropLast.length - 1 + 1]'(by omega)).1 = 1 := by
      have := lastK_at (l := out) (by omega)
      rw [hl] at this
      have e2 : out.length - 1 = out.dropLast.length - 1 + 1 := by omega
      simp only [e2] at this
      exact this.symm
    have ha : lastK out.dropLast = (out[out.dropLast.length - 1]'(by omega)).1 := by
      rw [lastK_at hne, List.getElem_dropLast]
    rw [hb, ← ha, k] at hx
    unfold nextOK at hx
    omega
  · rename_i hl; exact ⟨h, hl⟩
theorem tidy_neat (l : List It) : Neat (tidyL l) ∧ lastK (tidyL l) ≠ 1 := neat_E (neat_fold l [] neat_nil)
/-- Where a blank item stands in a tidy document. -/
theorem tidy_blank {l : List It} (h : Neat l) (hl : lastK l ≠ 1) (k : Nat) (hk : k < l.length) (h1 : l[k].1 = 1) :
    ∃ (h0 : 0 < k) (h2 : k + 1 < l.length), (l[k - 1]'(by omega)).1 ≠ 1 ∧ (l[k - 1]'(by omega)).1 ≠ 4 ∧ l[k + 1].1 ≠ 5 := by
  have h0 : 0 < k := by
    rcases Nat.eq_zero_or_pos k with e | e
    · subst e
      exact absurd h1 (h.1 l[0] (by rw [List.head?_eq_getElem?, List.getElem?_eq_getElem hk]))
    · exact e
  have h2 : k + 1 < l.length := by
    by_cases e : k + 1 < l.length
    · exact e
    · have := lastK_at (l := l) (by omega)
      have e2 : l.length - 1 = k := by omega
      simp only [e2] at this
      exact absurd (this.trans h1) hl
  refine ⟨h0, h2, ?_⟩
  have a := h.2 (k - 1) (by omega)
  have b := h.2 k h2
  have e : k - 1 + 1 = k := by omega
  simp only [e] at a
  rw [h1] at a b
  unfold nextOK at a b
  omega
theorem fold_neat : ∀ (l : List It), Neat l → l.foldl tidyS [] = l := by
  intro l h
  have : ∀ k, k ≤ l.length → (l.take k).foldl tidyS [] = l.take k := by
    intro k
    induction k with
    | zero => intro _; rfl
    | succ k ih =>
      intro hk
      have i := ih (by omega)
      rw [List.take_succ_eq_append_getElem (by omega), List.foldl_append, i]
      show tidyS (l.take k) l[k] = _
      unfold tidyS
      have hlen : (l.take k).length = k := by rw [List.length_take]; omega
      have hlast : 0 < k → lastK (l.take k) = (l[k - 1]'(by omega)).1 := by
        intro hp
        rw [lastK_at (by omega)]
        simp only [hlen, List.getElem_take]
      rw [if_neg, if_neg]
      · rintro ⟨k1, k2⟩
        rcases Nat.eq_zero_or_pos k with e | e
        · subst e; cases k2
        · have a := h.2 (k - 1) (by omega)
          have e2 : k - 1 + 1 = k := by omega
          simp only [e2] at a
          rw [← hlast e, k2, k1] at a
          unfold nextOK at a; omega
      · rintro ⟨k1, k2⟩
        rcases Nat.eq_zero_or_pos k with e | e
        · subst e
          exact absurd k1 (h.1 l[0] (by rw [List.head?_eq_getElem?, List.getElem?_eq_getElem (by omega)]))
        · rcases k2 with k2 | k2
          · rw [k2] at hlen; simp at hlen; omega
          · have a := h.2 (k - 1) (by omega)
            have e2 : k - 1 + 1 = k := by omega
            simp only [e2] at a
            rw [← hlast e, k1] at a
            unfold nextOK at a; omega
  have := this l.length (Nat.le_refl _)
  rwa [List.take_length] at this
/-- Tidying again changes nothing. -/
theorem tidy_again (l : List It) : tidyL (tidyL l) = tidyL l := by
  obtain ⟨h1, h2⟩ := tidy_neat l
  show tidyE ((tidyL l).foldl tidyS []) = _
  rw [fold_neat _ h1]
  unfold tidyE
  rw [if_neg h2]

end Go.Proofs.YtbmobgahokehmaaGreatDoor
