/-
  Texts of values, plainly: none is empty; the text of a list is made of those of its parts; a short one.
-/
import Derived.Test.YtbnchmlapimmdaaGreatDoorValPlain
namespace Go.Proofs.YtbnchmlapimmdaaGreatDoor
set_option linter.unusedVariables false

theorem Tx.up {l l' : List Cl} {n f t : Nat} {xs : List Pt} (h : Tx l n f t xs) : ∀ (a : Nat), (∀ i, f ≤ i → i < t → l'[i + a]? = l[i]?) → Tx l' n (f + a) (t + a) xs := by
  induction h with
  | nil f => intro a hb; exact .nil _
  | @cons f g n t c ks xs hc h1 h2 i1 i2 =>
    intro a hb
    obtain ⟨_, e1⟩ := h1.exs
    obtain ⟨_, e2⟩ := h2.exs
    have l1 := e1.le; have l2 := e2.le
    have k1 := i1 a (fun i hi1 hi2 => hb i (by omega) (by omega))
    have k2 := i2 a (fun i hi1 hi2 => hb i (by omega) (by omega))
    rw [show f + 1 + a = f + a + 1 by omega] at k1
    exact .cons (by rw [hb f (Nat.le_refl _) (by omega)]; exact hc) k1 k2
/-- What stands side by side, printed. -/
theorem cat_tx {parts : List (List Cl)} (h : ∀ p ∈ parts, okV p = true) : ∀ (pre post : List Cl), ∃ ks, Tx (pre ++ (parts.flatten ++ post)) parts.length pre.length (pre.length + parts.flatten.length) ks ∧ ks.map (·.2) = parts.map textV := by
  induction parts with
  | nil => intro pre post; exact ⟨[], by simp only [List.flatten_nil, List.length_nil, Nat.add_zero]; exact .nil _, rfl⟩
  | cons p ps ih =>
    intro pre post
    have hp := h p (by simp)
    obtain ⟨x, hx⟩ := okV_tx hp
    have e1 : pre ++ ((p :: ps).flatten ++ post) = pre ++ (p ++ (ps.flatten ++ post)) := by simp
    have e2 : (pre ++ p) ++ (ps.flatten ++ post) = pre ++ (p ++ (ps.flatten ++ post)) := by simp
    have h1 : Tx (pre ++ (p ++ (ps.flatten ++ post))) 1 (0 + pre.length) (p.length + pre.length) [x] := hx.up pre.length (fun i _ hi => by
      rw [List.getElem?_append_right (by simp), List.getElem?_append_left (by simp; omega)]
      simp)
    obtain ⟨ks, h2, h3⟩ := ih (fun q hq => h q (by simp [hq])) (pre ++ p) post
    rw [e2, List.length_append] at h2
    rw [Nat.zero_add, Nat.add_comm p.length] at h1
    have h4 := h1.app h2
    refine ⟨[x] ++ ks, ?_, ?_⟩
    · rw [e1, List.length_cons, List.flatten_cons, List.length_append, Nat.add_comm ps.length, show pre.length + (p.length + ps.flatten.length) = pre.length + p.length + ps.flatten.length by omega]
      exact h4
    · rw [List.map_append, h3, List.map_cons (f := textV), textV_of hp hx]; rfl
/-- Texts with a comma and a space between two of them. -/
def commaL : List (List UInt8) → List UInt8
  | [] => []
  | x :: xs => x ++ xs.flatMap fun y => [44, 32] ++ y
theorem joinT_comma (ks : List Pt) : joinT ks = commaL (ks.map (·.2)) := by
  cases ks with
  | nil => rfl
  | cons x xs =>
    simp only [joinT, tailT, commaL, List.map_cons, List.flatMap_map]
/-- The text of a list of values. -/
theorem textV_listV {parts : List (List Cl)} (h : ∀ p ∈ parts, okV p = true) (hok : okV (listV parts) = true) : textV (listV parts) = 91 :: (commaL (parts.map textV) ++ [93]) := by
  obtain ⟨ks, h1, h2⟩ := cat_tx h [(5, ⟨#[]⟩, (parts.length : Int))] []
  rw [List.append_nil] at h1
  have hlen : (listV parts).length = 1 + parts.flatten.length := by simp [listV]; omega
  have h3 : Tx (listV parts) 1 0 (listV parts).length [(rkC (5, ⟨#[]⟩, (parts.length : Int)), bareT (5, ⟨#[]⟩, (parts.length : Int)) ks)] := by
    rw [hlen]
    have h1' : Tx (listV parts) parts.length (0 + 1) (1 + parts.flatten.length) ks := h1
    exact .cons (c := (5, ⟨#[]⟩, (parts.length : Int))) (by simp [listV]) (by simpa using h1') (.nil _)
  rw [textV_of hok h3]
  have : bareT (5, ⟨#[]⟩, (parts.length : Int)) ks = 91 :: (joinT ks ++ [93]) := rfl
  rw [this, joinT_comma, h2]
/-- No text of a value is empty. -/
theorem textV_ne {l : List Cl} (hok : okV l = true) : textV l ≠ [] := by
  obtain ⟨x, hx⟩ := okV_tx hok
  rw [textV_of hok hx]
  obtain ⟨c, ks, hc, -, rfl⟩ := hx.inv
  have hcc : okVC c = true := by
    have := ((okV_iff l).mp hok).2.1
    rw [List.all_eq_true] at this
    exact this c (List.mem_of_getElem? hc)
  have hk := okVC_kind hcc
  obtain ⟨k, s, m⟩ := c
  simp only at hk
  rcases hk with rfl | rfl | rfl | rfl
  · have e : bareT (1, s, m) ks = s.data.toList := rfl
    rw [e]
    simp only [okVC, vC, if_true, Bool.and_eq_true] at hcc
    intro h0
    obtain rfl : s = ⟨#[]⟩ := strL (l := []) h0
    exact absurd hcc.1 (by decide)
  · have e : bareT (2, s, m) ks = quoteL s.data.toList := rfl
    rw [e, quoteL]; simp
  · have e : bareT (3, s, m) ks = s.data.toList := rfl
    rw [e]
    simp only [okVC, plC, Int.reduceEq, if_false, okC, cellB, wordB, Bool.and_eq_true, if_true, Bool.or_eq_true, beq_iff_eq] at hcc
    intro h0
    have h0' : s.data.toList = [] := h0
    rcases hcc.2.1 with h | h <;> rw [h0'] at h <;> cases h
  · have e : bareT (5, s, m) ks = 91 :: (joinT ks ++ [93]) := rfl
    rw [e]; simp

end Go.Proofs.YtbnchmlapimmdaaGreatDoor
