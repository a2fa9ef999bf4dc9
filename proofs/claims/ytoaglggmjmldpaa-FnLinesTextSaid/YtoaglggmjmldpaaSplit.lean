/-
  Plain facts on lines and their texts: the lines of a text, joined, and the text of lines, parted.
-/
import Derived.Test.YtoaglggmjmldpaaLines
import Derived.Test.YtoaglggmjmldpaaJoin
namespace Go.Proofs.Ytoaglggmjmldpaa

/-- The lines of bytes, acc being what stands ahead of them in the first line. -/
def splitL : List UInt8 → List UInt8 → List (List UInt8)
  | acc, [] => if acc = [] then [] else [acc]
  | acc, b :: r => if b = 10 then acc :: splitL [] r else splitL (acc ++ [b]) r

def bytesOf (L : List ByteArray) : List (List UInt8) := L.map fun t => t.data.toList
theorem bytesOf_inj {A B : List ByteArray} (h : bytesOf A = bytesOf B) : A = B := by
  refine (List.map_inj_right ?_).1 h
  intro x y hxy
  apply ByteArray.ext
  exact Array.toList_inj.1 hxy
theorem bytesOf_append (A B : List ByteArray) : bytesOf (A ++ B) = bytesOf A ++ bytesOf B := by simp [bytesOf]

theorem extract_bytes (s : ByteArray) (a b : Nat) : (s.extract a b).data.toList = (s.data.toList.take b).drop a := by
  simp [ByteArray.data_extract, List.extract, List.drop_take]

theorem split_upto (s : ByteArray) (k : Nat) (hk : k ≤ s.size) :
    splitL [] s.data.toList = bytesOf (linesTo s k) ++ splitL ((s.data.toList.take k).drop (fromN s.data.toList k)) (s.data.toList.drop k) := by
  induction k with
  | zero => simp [linesTo, bytesOf, fromN]
  | succ k ih =>
    have hlt : k < s.data.toList.length := by simp; omega
    rw [ih (by omega)]
    have hd : s.data.toList.drop k = s.data.toList[k] :: s.data.toList.drop (k + 1) := List.drop_eq_getElem_cons hlt
    have hf := fromN_le s.data.toList k
    rw [hd]
    simp only [linesTo, fromN, List.getElem?_eq_getElem hlt, Option.some.injEq]
    show bytesOf (linesTo s k) ++ (if s.data.toList[k] = 10 then _ else _) = _
    by_cases h10 : s.data.toList[k] = 10
    · rw [if_pos h10, if_pos h10, if_pos h10, bytesOf_append, List.append_assoc]
      congr 1
      have e1 : bytesOf [s.extract (fromN s.data.toList k) k] = [(s.data.toList.take k).drop (fromN s.data.toList k)] := by
        simp only [bytesOf, List.map_cons, List.map_nil, extract_bytes]
      have e2 : (s.data.toList.take (k + 1)).drop (k + 1) = [] := by
        apply List.drop_eq_nil_of_le; simp; omega
      rw [e1, e2]; rfl
    · rw [if_neg h10, if_neg h10, if_neg h10]
      congr 2
      rw [List.take_succ_eq_append_getElem hlt, List.drop_append_of_le_length (by simp; omega)]

theorem split_all (s : ByteArray) : bytesOf (linesAll s) = splitL [] s.data.toList := by
  have h := split_upto s s.size (Nat.le_refl _)
  have hl : s.data.toList.length = s.size := by simp
  have ht : s.data.toList.take s.size = s.data.toList := List.take_of_length_le (by omega)
  have hd : s.data.toList.drop s.size = [] := List.drop_eq_nil_of_le (by omega)
  have hf := fromN_le s.data.toList s.size
  rw [h, ht, hd]
  show _ = _ ++ (if _ then _ else _)
  unfold linesAll
  by_cases hr : fromN s.data.toList s.size < s.size
  · rw [if_pos hr, if_neg (by intro he; have := congrArg List.length he; simp only [List.length_drop, List.length_nil, hl] at this; omega), bytesOf_append]
    congr 1
    simp only [bytesOf, List.map_cons, List.map_nil, extract_bytes, ht]
  · rw [if_neg hr, if_pos (List.drop_eq_nil_of_le (by omega)), List.append_nil]

theorem split_join (acc a b : List UInt8) : splitL acc (a ++ 10 :: b) = splitL acc (a ++ [10]) ++ splitL [] b := by
  induction a generalizing acc with
  | nil => simp [splitL]
  | cons x a ih =>
    simp only [List.cons_append, splitL]
    split
    · rw [ih]; rfl
    · rw [ih]
theorem split_line (acc t r : List UInt8) (h : ∀ x ∈ t, x ≠ 10) : splitL acc (t ++ 10 :: r) = (acc ++ t) :: splitL [] r := by
  induction t generalizing acc with
  | nil => simp [splitL]
  | cons x t ih =>
    simp only [List.cons_append, splitL]
    rw [if_neg (h x (by simp)), ih _ (fun y hy => h y (by simp [hy]))]
    simp
theorem split_text (acc l : List UInt8) : (((splitL acc l).map (· ++ [10])).flatten = acc ++ l ∨ ((splitL acc l).map (· ++ [10])).flatten = acc ++ l ++ [10]) := by
  induction l generalizing acc with
  | nil =>
    simp only [splitL]
    by_cases h : acc = []
    · left; simp [h]
    · right; simp [h]
  | cons b l ih =>
    simp only [splitL]
    split
    · rename_i hb
      subst hb
      rcases ih [] with h | h
      · left; simp only [List.map_cons, List.flatten_cons, h]; simp
      · right; simp only [List.map_cons, List.flatten_cons, h]; simp
    · rcases ih (acc ++ [b]) with h | h
      · left; rw [h]; simp
      · right; rw [h]; simp
theorem split_mem (acc l : List UInt8) (P : UInt8 → Prop) (ha : ∀ x ∈ acc, P x) (hl : ∀ x ∈ l, x = 10 ∨ P x) : ∀ t ∈ splitL acc l, ∀ x ∈ t, P x := by
  induction l generalizing acc with
  | nil =>
    intro t ht
    simp only [splitL] at ht
    split at ht
    · simp at ht
    · simp only [List.mem_singleton] at ht; subst ht; exact ha
  | cons b l ih =>
    intro t ht
    simp only [splitL] at ht
    split at ht
    · rcases List.mem_cons.1 ht with rfl | ht
      · exact ha
      · exact ih [] (by simp) (fun x hx => hl x (by simp [hx])) t ht
    · rename_i hb
      refine ih (acc ++ [b]) ?_ (fun x hx => hl x (by simp [hx])) t ht
      intro x hx
      rcases List.mem_append.1 hx with hx | hx
      · exact ha x hx
      · simp only [List.mem_singleton] at hx; subst hx
        exact (hl x (by simp)).resolve_left hb

theorem accTo_bytes (L : List ByteArray) (k : Nat) (hk : k ≤ L.length) : (accTo L k).data.toList = (((bytesOf L).take k).map (· ++ [10])).flatten := by
  induction k with
  | zero => rfl
  | succ k ih =>
    have hlt : k < L.length := by omega
    have e : accTo L (k + 1) = accTo L k ++ lineAt L k ++ ⟨#[10]⟩ := rfl
    have hl : lineAt L k = L[k] := by simp [lineAt, List.getElem?_eq_getElem hlt]
    have hb : (bytesOf L).take (k + 1) = (bytesOf L).take k ++ [L[k].data.toList] := by
      rw [List.take_succ_eq_append_getElem (by simpa [bytesOf] using hlt)]
      simp [bytesOf]
    rw [e, hb, hl]
    simp only [ByteArray.data_append, Array.toList_append, ih (by omega), List.map_append, List.flatten_append, List.map_cons, List.map_nil, List.flatten_cons, List.flatten_nil, List.append_nil, List.append_assoc]
theorem accTo_all (L : List ByteArray) : (accTo L L.length).data.toList = ((bytesOf L).map (· ++ [10])).flatten := by
  rw [accTo_bytes L _ (Nat.le_refl _), List.take_of_length_le (by simp [bytesOf])]
theorem accTo_mono (L : List ByteArray) (j k : Nat) (h : j ≤ k) : (accTo L j).size ≤ (accTo L k).size := by
  induction k with
  | zero => obtain rfl : j = 0 := by omega
            exact Nat.le_refl _
  | succ k ih =>
    by_cases hj : j = k + 1
    · subst hj; exact Nat.le_refl _
    · have := ih (by omega); rw [accTo_size_next]; omega
/-- Lines of plain bytes whose text is not too long make a text. -/
theorem joinOk_of (L : List ByteArray) (hp : ∀ t ∈ L, plainL t.data.toList = true) (hs : (accTo L L.length).size ≤ 20000) : joinOk L = true := by
  apply joinOk_good
  intro j hj
  have hl : lineAt L j = L[j] := by simp [lineAt, List.getElem?_eq_getElem hj]
  have h1 := accTo_size_next L j
  have h2 := accTo_mono L (j + 1) L.length (by omega)
  rw [okAt, hl, hp _ (List.getElem_mem _)]
  rw [hl] at h1
  simp; omega
theorem size_bytes (s : ByteArray) : s.size = s.data.toList.length := by simp

/-- THE LINES OF A TEXT, JOINED: the text, or the text and a line end. -/
theorem join_lines (s : ByteArray) (ht : textB s = true) (hs : s.size < 20000) :
    joinOk (linesB s) = true ∧ (joinB (linesB s) = s ∨ joinB (linesB s) = s ++ ⟨#[10]⟩) := by
  have hL : linesB s = linesAll s := by rw [linesB, if_pos ht]
  have hok : okL s.data.toList = true := by simp only [textB, Bool.and_eq_true] at ht; exact ht.2
  have hb : bytesOf (linesB s) = splitL [] s.data.toList := by rw [hL]; exact split_all s
  have hacc := accTo_all (linesB s)
  rw [hb] at hacc
  have hcase := split_text [] s.data.toList
  rw [← hacc, List.nil_append] at hcase
  have hsz := size_bytes s
  have hsz2 := size_bytes (accTo (linesB s) (linesB s).length)
  have hlen : (accTo (linesB s) (linesB s).length).size ≤ 20000 := by
    rw [hsz2]
    rcases hcase with h | h
    · rw [h]; omega
    · rw [h, List.length_append]; simp only [List.length_cons, List.length_nil]; omega
  have hjo : joinOk (linesB s) = true := by
    refine joinOk_of _ ?_ hlen
    intro t ht'
    have hmem : t.data.toList ∈ splitL [] s.data.toList := by
      rw [← hb]; exact List.mem_map.2 ⟨t, ht', rfl⟩
    have := split_mem [] s.data.toList (fun x => plainI (x.toNat : Int) = true) (by simp) (by
      intro x hx
      simp only [okL, List.all_eq_true] at hok
      have := hok x hx
      simp only [okI, Bool.or_eq_true, beq_iff_eq] at this
      rcases this with h | h
      · left; exact UInt8.toNat_inj.1 (by show x.toNat = 10; omega)
      · right; exact h) _ hmem
    simp only [plainL, List.all_eq_true]
    exact this
  refine ⟨hjo, ?_⟩
  rw [joinB, if_pos hjo]
  rcases hcase with h | h
  · left; apply ByteArray.ext; exact Array.toList_inj.1 h
  · right; apply ByteArray.ext; apply Array.toList_inj.1; rw [h]; simp

theorem plain_ne_ten {l : List UInt8} (h : plainL l = true) : ∀ x ∈ l, x ≠ 10 := by
  intro x hx he
  subst he
  simp only [plainL, List.all_eq_true] at h
  have := h 10 hx
  simp [plainI] at this
theorem split_flat (M : List (List UInt8)) (h : ∀ t ∈ M, ∀ x ∈ t, x ≠ 10) : splitL [] ((M.map (· ++ [10])).flatten) = M := by
  induction M with
  | nil => rfl
  | cons t M ih =>
    simp only [List.map_cons, List.flatten_cons, List.append_assoc, List.cons_append, List.nil_append]
    rw [split_line [] t _ (h t (by simp)), ih (fun u hu => h u (by simp [hu]))]
    rfl
theorem okL_flat (M : List (List UInt8)) (h : ∀ t ∈ M, plainL t = true) : okL ((M.map (· ++ [10])).flatten) = true := by
  induction M with
  | nil => rfl
  | cons t M ih =>
    have h1 := h t (by simp)
    have h2 := ih (fun u hu => h u (by simp [hu]))
    simp only [okL, plainL, List.all_eq_true] at h1 h2 ⊢
    intro x hx
    simp only [List.map_cons, List.flatten_cons, List.mem_append, List.mem_singleton] at hx
    rcases hx with (hx | rfl) | hx
    · simp [okI, h1 x hx]
    · rfl
    · exact h2 x hx
/-- THE TEXT OF LINES, PARTED: the lines. -/
theorem lines_join (L : List ByteArray) (h : joinOk L = true) : textB (joinB L) = true ∧ linesB (joinB L) = L := by
  have hj : joinB L = accTo L L.length := by rw [joinB, if_pos h]
  have hall : ∀ j, j < L.length → okAt L j = true := by
    intro j hj'; simp only [joinOk, List.all_eq_true] at h; exact h j (List.mem_range.2 hj')
  have hp : ∀ t ∈ bytesOf L, plainL t = true := by
    intro t ht
    obtain ⟨u, hu, rfl⟩ := List.mem_map.1 ht
    obtain ⟨j, hj', rfl⟩ := List.getElem_of_mem hu
    have := hall j hj'
    have hl : lineAt L j = L[j] := by simp [lineAt, List.getElem?_eq_getElem hj']
    rw [okAt, hl] at this
    simp only [Bool.and_eq_true] at this
    exact this.1
  have hb := accTo_all L
  have ht : textB (accTo L L.length) = true := by
    rw [textB, hb, okL_flat _ hp]
    have := acc_le L L.length hall
    simp [this]
  rw [hj]
  refine ⟨ht, ?_⟩
  rw [linesB, if_pos ht]
  apply bytesOf_inj
  rw [split_all, hb]
  exact split_flat _ (fun t ht => plain_ne_ten (hp t ht))

/-- THE LINES OF TWO TEXTS, the first of which ends with a line end. -/
theorem lines_append (a b : ByteArray) (ha : textB a = true) (hb : textB b = true) (hs : a.size + b.size ≤ 20000) (hlast : ∃ l, a.data.toList = l ++ [10]) :
    textB (a ++ b) = true ∧ linesB (a ++ b) = linesB a ++ linesB b := by
  have e : (a ++ b).data.toList = a.data.toList ++ b.data.toList := by simp
  have ht : textB (a ++ b) = true := by
    simp only [textB, Bool.and_eq_true, decide_eq_true_eq] at ha hb ⊢
    refine ⟨by rw [ByteArray.size_append]; exact hs, ?_⟩
    rw [e]
    simp only [okL, List.all_append, Bool.and_eq_true]
    exact ⟨ha.2, hb.2⟩
  refine ⟨ht, ?_⟩
  rw [linesB, linesB, linesB, if_pos ht, if_pos ha, if_pos hb]
  apply bytesOf_inj
  obtain ⟨l, hl⟩ := hlast
  rw [bytesOf_append, split_all, split_all, split_all, e, hl, List.append_assoc]
  exact split_join [] l b.data.toList

end Go.Proofs.Ytoaglggmjmldpaa
