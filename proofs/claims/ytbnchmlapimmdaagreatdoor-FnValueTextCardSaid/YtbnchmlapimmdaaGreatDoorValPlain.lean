/-
  Values, plainly: valid values (okV), their texts (textV), lists of values cut into parts (cutL) and put together (listV).
-/
import Derived.Test.YtbnchmlapimmdaaGreatDoorCellW
import Derived.Test.YtbnchmlapimmdaaGreatDoorPrintPlain
namespace Go.Proofs.YtbnchmlapimmdaaGreatDoor
set_option linter.unusedVariables false

/-- A cell with a plain number in the place of any other. -/
def plC (c : Cl) : Cl := if c.1 = 1 then (1, ⟨#[48]⟩, c.2.2) else c
/-- A cell of a value: a number whose word can be read, a text, a truth or a list. -/
def vC (c : Cl) : Bool := if c.1 = 1 then rdOK c.2.1 else (c.1 == 2 || c.1 == 3 || c.1 == 5)
def okVC (c : Cl) : Bool := vC c && okC (plC c)
/-- A valid value. -/
noncomputable def okV (l : List Cl) : Bool := l.all vC && okE (l.map plC)
theorem plC_many (c : Cl) : (plC c).2.2 = c.2.2 := by unfold plC; split <;> rfl
theorem amL_plC (l : List Cl) : amL (l.map plC) = amL l := by
  simp [amL, plC_many]
theorem all_plC (l : List Cl) : (l.all vC = true ∧ (l.map plC).all okC = true) ↔ l.all okVC = true := by
  simp only [List.all_eq_true, List.mem_map, okVC, Bool.and_eq_true]
  constructor
  · rintro ⟨h1, h2⟩ c hc
    exact ⟨h1 c hc, h2 _ ⟨c, hc, rfl⟩⟩
  · intro h
    refine ⟨fun c hc => (h c hc).1, ?_⟩
    rintro _ ⟨c, hc, rfl⟩
    exact (h c hc).2
theorem okV_iff (l : List Cl) : okV l = true ↔ l.length ≤ 60 ∧ l.all okVC = true ∧ ∃ d, d ≤ 12 ∧ Exs (amL l) 1 0 l.length d := by
  rw [okV, Bool.and_eq_true, okE_iff, amL_plC, List.length_map, ← all_plC]
  constructor
  · rintro ⟨h1, h2, h3, h4⟩; exact ⟨h2, ⟨h1, h3⟩, h4⟩
  · rintro ⟨h2, ⟨h1, h3⟩, h4⟩; exact ⟨h1, h2, h3, h4⟩
theorem okVC_W {c : Cl} (h : okVC c = true) : okW c = true := by
  obtain ⟨k, s, m⟩ := c
  simp only [okVC, Bool.and_eq_true] at h
  obtain ⟨h1, h2⟩ := h
  by_cases hk : k = 1
  · subst hk
    simp only [vC, if_true] at h1
    simp only [plC, if_true, okC, cellB, manyB, Bool.and_eq_true] at h2
    have hm : m = 0 := by simpa using h2.2
    have hs : s.size ≤ 60 := by
      rw [← size_list, ← rd_text s h1]; exact textF_len60 _ _
    simp [okW, hm, hs]
  · simp only [plC, if_neg hk] at h2
    exact okW_of h2
theorem allV_W {l : List Cl} (h : l.all okVC = true) : l.all okW = true := by
  rw [List.all_eq_true] at h ⊢; exact fun c hc => okVC_W (h c hc)
theorem okVC_kind {c : Cl} (h : okVC c = true) : c.1 = 1 ∨ c.1 = 2 ∨ c.1 = 3 ∨ c.1 = 5 := by
  simp only [okVC, vC, Bool.and_eq_true] at h
  by_cases hk : c.1 = 1
  · exact .inl hk
  · rw [if_neg hk] at h
    simp only [Bool.or_eq_true, beq_iff_eq] at h
    rcases h.1 with (h | h) | h
    · exact .inr (.inl h)
    · exact .inr (.inr (.inl h))
    · exact .inr (.inr (.inr h))
theorem wordB_zero : wordB 1 ⟨#[48]⟩ = true := by
  have hz : Lib.decDigits 0 = [48] := by first | rfl | decide | simp [Lib.decDigits]
  have hf : fracT 0 1 = [48] := by
    rw [fracT, if_neg (by decide)]
    simp [posText, decText, hz]
  obtain ⟨h1, h2, h3⟩ := read_back ⟨#[48]⟩ 0 1 (by decide) hf.symm
  simp only [wordB, if_true, numB, h1, h2, h3]
  decide
/-- An expression whose cells are those of values is a value. -/
theorem okV_of_okE {l : List Cl} (h : okE l = true) (hk : ∀ c ∈ l, c.1 = 1 ∨ c.1 = 2 ∨ c.1 = 3 ∨ c.1 = 5) : okV l = true := by
  obtain ⟨h1, h2, h3⟩ := (okE_iff l).mp h
  rw [okV_iff]
  refine ⟨h1, ?_, h3⟩
  rw [List.all_eq_true] at h2 ⊢
  intro c hc
  have hoc := h2 c hc
  obtain ⟨k, s, m⟩ := c
  simp only [okVC, Bool.and_eq_true]
  by_cases h1k : k = 1
  · subst h1k
    simp only [okC, cellB, wordB, Bool.and_eq_true, if_true] at hoc
    refine ⟨?_, ?_⟩
    · simp only [vC, if_true]
      have := hoc.1
      simp only [numB, Bool.and_eq_true] at this
      exact this.1
    · simp only [plC, if_true, okC, cellB, Bool.and_eq_true]
      exact ⟨wordB_zero, hoc.2⟩
  · have := hk _ hc
    simp only at this
    refine ⟨?_, ?_⟩
    · simp only [vC, if_neg h1k]
      rcases this with h | h | h | h
      · exact absurd h h1k
      · subst h; rfl
      · subst h; rfl
      · subst h; rfl
    · simp only [plC, if_neg h1k]; exact hoc
open Classical in
/-- The text of a valid value. -/
noncomputable def textV (l : List Cl) : List UInt8 := if h : okV l = true ∧ ∃ x, Tx l 1 0 l.length [x] then h.2.choose.2 else []
theorem textV_of {l : List Cl} {x : Pt} (hok : okV l = true) (h : Tx l 1 0 l.length [x]) : textV l = x.2 := by
  have hh : okV l = true ∧ ∃ x, Tx l 1 0 l.length [x] := ⟨hok, x, h⟩
  unfold textV
  rw [dif_pos hh]
  have := (hh.2.choose_spec.uniq h).2
  simp only [List.cons.injEq, and_true] at this
  rw [this]
theorem textV_no {l : List Cl} (hok : okV l = false) : textV l = [] := by
  unfold textV
  rw [dif_neg]
  intro h; rw [hok] at h; cases h.1
theorem okV_tx {l : List Cl} (hok : okV l = true) : ∃ x, Tx l 1 0 l.length [x] := by
  obtain ⟨-, -, d, -, hx⟩ := (okV_iff l).mp hok
  obtain ⟨xs, h⟩ := Tx.of_exs hx
  have hl := h.len
  match xs, hl with
  | [x], _ => exact ⟨x, h⟩
/-- The text of a value that is an expression is that of the expression. -/
theorem textV_E {l : List Cl} (hE : okE l = true) (hV : okV l = true) : textV l = textE l := by
  obtain ⟨x, hx⟩ := okE_tx hE
  rw [textV_of hV hx, textE_of hE hx]

-- lists and their parts
/-- n expressions side by side from f on, cut apart. -/
noncomputable def cutL (l : List Cl) : Nat → Nat → List (List Cl)
  | _, 0 => []
  | f, n + 1 => ((l.drop f).take (endP (amL l) f - f)) :: cutL l (endP (amL l) f) n
theorem vcut_at (l : List Cl) (f g i : Nat) (h1 : f ≤ i) (h2 : i < g) : (amL ((l.drop f).take (g - f)))[i - f]? = (amL l)[i]? := by
  simp only [amL, List.map_take, List.map_drop]
  rw [List.getElem?_take, if_pos (by omega), List.getElem?_drop, show f + (i - f) = i by omega]
theorem Exs.cut {l : List Cl} {n f t d : Nat} (h : Exs (amL l) n f t d) : (cutL l f n).flatten = (l.drop f).take (t - f) ∧ (cutL l f n).length = n ∧
    (∀ p ∈ cutL l f n, (∃ e, e ≤ d ∧ Exs (amL p) 1 0 p.length e) ∧ ∀ c ∈ p, c ∈ l) ∧ f ≤ t := by
  generalize ha : amL l = am at h
  induction h with
  | nil f => exact ⟨by simp [cutL], rfl, (fun p hp => by simp [cutL] at hp), Nat.le_refl _⟩
  | @cons f m g d n t e hm h1 h2 i1 i2 =>
    subst ha
    have hone := Exs.one hm h1
    have hend := hone.endP
    have hle := hone.le
    have hgl := hle.2 (by omega)
    rw [amL_length] at hgl
    obtain ⟨e1, e2, e3, e4⟩ := i2
    have hp : ((l.drop f).take (g - f)).length = g - f := by rw [List.length_take, List.length_drop]; omega
    rw [cutL, hend]
    refine ⟨?_, by rw [List.length_cons, e2], ?_, by omega⟩
    · rw [List.flatten_cons, e1]
      have : l.drop g = (l.drop f).drop (g - f) := by rw [List.drop_drop]; congr 1; omega
      rw [this, show t - f = (g - f) + (t - g) by omega, List.take_add]
    · intro p hp'
      rcases List.mem_cons.mp hp' with rfl | hp'
      · refine ⟨⟨d + 1, by omega, ?_⟩, fun c hc => List.mem_of_mem_drop (List.mem_of_mem_take hc)⟩
        have hs := hone.shift (bm := amL ((l.drop f).take (g - f))) f (Nat.le_refl _) (fun i h1 h2 => vcut_at l f g i h1 h2)
        rw [Nat.sub_self] at hs
        rw [hp]; exact hs
      · obtain ⟨⟨e', he', hx⟩, hm'⟩ := e3 p hp'
        exact ⟨⟨e', by omega, hx⟩, hm'⟩
/-- The depth of what stands side by side. -/
noncomputable def maxV : List (List Cl) → Nat
  | [] => 0
  | p :: ps => max (depE (amL p) 0) (maxV ps)
theorem maxV_le {ps : List (List Cl)} {p : List Cl} (h : p ∈ ps) : depE (amL p) 0 ≤ maxV ps := by
  induction ps with
  | nil => cases h
  | cons q qs ih =>
    rcases List.mem_cons.mp h with rfl | h
    · simp only [maxV]; omega
    · have := ih h; simp only [maxV]; omega
theorem cat_exs {parts : List (List Cl)} (h : ∀ p ∈ parts, ∃ d, Exs (amL p) 1 0 p.length d) : ∀ (pre post : List Cl),
    Exs (amL (pre ++ (parts.flatten ++ post))) parts.length pre.length (pre.length + parts.flatten.length) (maxV parts) := by
  induction parts with
  | nil => intro pre post; simp only [List.flatten_nil, List.length_nil, Nat.add_zero]; exact .nil _
  | cons p ps ih =>
    intro pre post
    obtain ⟨d, hd⟩ := h p (by simp)
    have h1 : Exs (amL (pre ++ (p ++ (ps.flatten ++ post)))) 1 (0 + pre.length) (p.length + pre.length) d := hd.up pre.length (fun i _ hi => by
      simp only [amL, List.map_append]
      rw [List.getElem?_append_right (by simp), List.getElem?_append_left (by simp; omega)]
      simp)
    have h2 := ih (fun q hq => h q (by simp [hq])) (pre ++ p) post
    have e1 : pre ++ ((p :: ps).flatten ++ post) = pre ++ (p ++ (ps.flatten ++ post)) := by simp
    have e2 : (pre ++ p) ++ (ps.flatten ++ post) = pre ++ (p ++ (ps.flatten ++ post)) := by simp
    rw [e2, List.length_append] at h2
    rw [Nat.zero_add, Nat.add_comm p.length] at h1
    have h3 := h1.app h2
    rw [e1, List.length_cons, List.flatten_cons, List.length_append, maxV, hd.depE, Nat.add_comm ps.length]
    rw [show pre.length + (p.length + ps.flatten.length) = pre.length + p.length + ps.flatten.length by omega]
    exact h3
theorem cut_cat {parts : List (List Cl)} (h : ∀ p ∈ parts, ∃ d, Exs (amL p) 1 0 p.length d) : ∀ (pre post : List Cl), cutL (pre ++ (parts.flatten ++ post)) pre.length parts.length = parts := by
  induction parts with
  | nil => intro pre post; rfl
  | cons p ps ih =>
    intro pre post
    obtain ⟨d, hd⟩ := h p (by simp)
    have e1 : pre ++ ((p :: ps).flatten ++ post) = pre ++ (p ++ (ps.flatten ++ post)) := by simp
    have e2 : (pre ++ p) ++ (ps.flatten ++ post) = pre ++ (p ++ (ps.flatten ++ post)) := by simp
    have h1 : Exs (amL (pre ++ (p ++ (ps.flatten ++ post)))) 1 (0 + pre.length) (p.length + pre.length) d := hd.up pre.length (fun i _ hi => by
      simp only [amL, List.map_append]
      rw [List.getElem?_append_right (by simp), List.getElem?_append_left (by simp; omega)]
      simp)
    rw [Nat.zero_add] at h1
    have h2 := ih (fun q hq => h q (by simp [hq])) (pre ++ p) post
    rw [e2, List.length_append] at h2
    rw [e1, List.length_cons, cutL, h1.endP, Nat.add_comm p.length, h2]
    congr 1
    rw [List.drop_left, show pre.length + p.length - pre.length = p.length by omega, List.take_left]
/-- A list of values. -/
def listV (parts : List (List Cl)) : List Cl := (5, ⟨#[]⟩, (parts.length : Int)) :: parts.flatten
/-- When a list of values is a value. -/
theorem okV_listV {parts : List (List Cl)} (h : ∀ p ∈ parts, okV p = true) : okV (listV parts) = true ↔ parts.length ≤ 8 ∧ parts.flatten.length < 60 ∧ maxV parts < 12 := by
  have hx : ∀ p ∈ parts, ∃ d, Exs (amL p) 1 0 p.length d := fun p hp => by
    obtain ⟨-, -, d, -, h⟩ := (okV_iff p).mp (h p hp); exact ⟨d, h⟩
  have hc := cat_exs hx [(5, ⟨#[]⟩, (parts.length : Int))] []
  rw [List.append_nil] at hc
  have hone : Exs (amL (listV parts)) 1 0 (1 + parts.flatten.length) (maxV parts + 1) := Exs.one (m := parts.length) (by simp [listV, amL]) hc
  have hlen : (listV parts).length = 1 + parts.flatten.length := by simp [listV]; omega
  rw [okV_iff, hlen]
  constructor
  · rintro ⟨h1, h2, d, hd, h3⟩
    obtain ⟨-, rfl⟩ := h3.uniq hone
    refine ⟨?_, by omega, by omega⟩
    rw [List.all_eq_true] at h2
    have := (okW_M (okVC_W (h2 _ (List.mem_cons_self ..))))
    have := (okM_many this).2
    simp only at this; omega
  · rintro ⟨h1, h2, h3⟩
    refine ⟨by omega, ?_, _, by omega, hone⟩
    rw [List.all_eq_true]
    intro c hc
    rcases List.mem_cons.mp hc with rfl | hc
    · have : manyB 5 (parts.length : Int) = true := by
        simp only [manyB, Int.reduceEq, if_false]
        simp; omega
      have e : okVC (5, ⟨#[]⟩, (parts.length : Int)) = manyB 5 (parts.length : Int) := by simp [okVC, vC, plC, okC, cellB, wordB]
      rw [e]; exact this
    · obtain ⟨p, hp, hcp⟩ := List.mem_flatten.mp hc
      have := ((okV_iff p).mp (h p hp)).2.1
      rw [List.all_eq_true] at this
      exact this c hcp
open Classical in
/-- The parts of a value that is a list. -/
noncomputable def partsV (l : List Cl) : List (List Cl) := if okV l = true ∧ ∃ c t, l = c :: t ∧ c.1 = 5 then cutL l 1 ((amL l).getD 0 0) else []
/-- Parts of a list of values are the values. -/
theorem parts_listV {parts : List (List Cl)} (h : ∀ p ∈ parts, okV p = true) (hok : okV (listV parts) = true) : partsV (listV parts) = parts := by
  have hx : ∀ p ∈ parts, ∃ d, Exs (amL p) 1 0 p.length d := fun p hp => by
    obtain ⟨-, -, d, -, h⟩ := (okV_iff p).mp (h p hp); exact ⟨d, h⟩
  have hc := cut_cat hx [(5, ⟨#[]⟩, (parts.length : Int))] []
  rw [List.append_nil] at hc
  rw [partsV, if_pos ⟨hok, _, _, rfl, rfl⟩]
  have : (amL (listV parts)).getD 0 0 = parts.length := by simp [listV, amL]
  rw [this]
  exact hc
/-- The list of the parts of a list is the list. -/
theorem list_partsV {l : List Cl} (hok : okV l = true) {c : Cl} {t : List Cl} (hl : l = c :: t) (h5 : c.1 = 5) : listV (partsV l) = l ∧ (∀ p ∈ partsV l, okV p = true) ∧ ((partsV l).length : Int) = c.2.2 := by
  obtain ⟨h60, hal, d, hd, hx⟩ := (okV_iff l).mp hok
  obtain ⟨m, e, hm, hk, rfl⟩ := hx.inv
  have hall := hal
  rw [List.all_eq_true] at hall
  have hcc := hall c (by rw [hl]; simp)
  have hmc : m = c.2.2.toNat := by rw [hl] at hm; simp [amL] at hm; exact hm.symm
  obtain ⟨c1, c2, c3, -⟩ := hk.cut
  have hM := okM_many (okW_M (okVC_W hcc))
  have hpv : partsV l = cutL l 1 m := by
    rw [partsV, if_pos ⟨hok, c, t, hl, h5⟩, List.getD_eq_getElem?_getD, hm]; rfl
  rw [hpv]
  refine ⟨?_, ?_, ?_⟩
  · rw [listV, c1, c2]
    have ht : (l.drop (0 + 1)).take (l.length - (0 + 1)) = t := by rw [hl]; simp
    rw [ht, hl]
    congr 1
    obtain ⟨k, s, m'⟩ := c
    simp only at h5 hmc hM ⊢
    subst h5
    have hs : s = ⟨#[]⟩ := by
      have h2 := hcc
      simp only [okVC, plC, Bool.and_eq_true, okC, cellB, wordB] at h2
      have h3 := h2.2.1
      simp at h3
      exact strL (l := []) (by rw [h3])
    subst hs
    have : ((m : Nat) : Int) = m' := by omega
    rw [this]
  · intro p hp
    obtain ⟨⟨e', he', hxp⟩, hin⟩ := c3 p hp
    rw [okV_iff]
    refine ⟨?_, ?_, e', by omega, hxp⟩
    · have : p.length ≤ (cutL l (0 + 1) m).flatten.length := (List.sublist_flatten_of_mem hp).length_le
      rw [c1, List.length_take, List.length_drop] at this
      omega
    · rw [List.all_eq_true]; exact fun c hc => hall c (hin c hc)
  · rw [c2]; omega

end Go.Proofs.YtbnchmlapimmdaaGreatDoor
