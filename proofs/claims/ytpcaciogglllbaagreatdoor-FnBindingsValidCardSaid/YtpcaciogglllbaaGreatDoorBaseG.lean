/-
  Several texts of the proof in one file: CallPlain, CallMore, CallR.
-/
import Derived.Test.YtpcaciogglllbaaGreatDoorBaseE
import Derived.Test.YtpcaciogglllbaaGreatDoorBaseA
/-
  What functions return for values, plainly (callF).
-/
namespace Go.Proofs.YtpcaciogglllbaaGreatDoor
set_option linter.unusedVariables false

/-- The first cell's kind, word and number of parts. -/
def kdV (l : List Cl) : Int := (l[0]?.getD (0, ⟨#[]⟩, 0)).1
def wdV (l : List Cl) : ByteArray := (l[0]?.getD (0, ⟨#[]⟩, 0)).2.1
def myV (l : List Cl) : Int := (l[0]?.getD (0, ⟨#[]⟩, 0)).2.2
def numV (t b : Int) : List Cl := [(1, ⟨(textF t b).toArray⟩, 0)]
def truV (b : Bool) : List Cl := [(3, (if b then ⟨#[116, 114, 117, 101]⟩ else ⟨#[102, 97, 108, 115, 101]⟩), 0)]
/-- The value of a text, if it is one. -/
noncomputable def texO (s : ByteArray) : Option (List Cl) := if okV [(2, s, 0)] = true then some [(2, s, 0)] else none
noncomputable def lisO (ls : List (List Cl)) : Option (List Cl) := if okV (listV ls) = true then some (listV ls) else none
/-- Letters changed. -/
def upC (c : UInt8) : UInt8 := if 97 ≤ c.toNat ∧ c.toNat ≤ 122 then c - 32 else c
def loC (c : UInt8) : UInt8 := if 65 ≤ c.toNat ∧ c.toNat ≤ 90 then c + 32 else c
def mapB (f : UInt8 → UInt8) (s : ByteArray) : ByteArray := ⟨(s.data.toList.map f).toArray⟩
theorem upC_all : ∀ n : Nat, n < 256 → upC (loC (upC (UInt8.ofNat n))) = upC (UInt8.ofNat n) := by decide +kernel
theorem upC_twice (c : UInt8) : upC (loC (upC c)) = upC c := by
  have h := upC_all c.toNat c.toNat_lt
  rwa [UInt8.ofNat_toNat] at h
theorem map_twice (s : ByteArray) : mapB upC (mapB loC (mapB upC s)) = mapB upC s := by
  simp only [mapB, List.map_map]
  congr 2
  exact List.map_congr_left fun c _ => upC_twice c
theorem mapB_size (f : UInt8 → UInt8) (s : ByteArray) : (mapB f s).size = s.size := by
  show (s.data.toList.map f).toArray.size = s.data.size
  simp

/-- Whether a number is less (mn) or greater than another. -/
def betB (mn : Bool) (l b : List Cl) : Bool := if mn then decide (rdT (wdV l) * rdB (wdV b) < rdT (wdV b) * rdB (wdV l)) else decide (rdT (wdV b) * rdB (wdV l) < rdT (wdV l) * rdB (wdV b))
/-- The least or greatest number, the first of equal ones. -/
def bestB (mn : Bool) : List Cl → List (List Cl) → List Cl
  | b, [] => b
  | b, l :: ls => bestB mn (if betB mn l b = true then l else b) ls
/-- Words with another one between two of them. -/
def joinSep (sep : ByteArray) : List ByteArray → ByteArray
  | [] => ⟨#[]⟩
  | x :: xs => xs.foldl (fun a y => a ++ sep ++ y) x
def nmLength : ByteArray := ⟨#[108, 101, 110, 103, 116, 104]⟩
def nmUpper : ByteArray := ⟨#[117, 112, 112, 101, 114]⟩
def nmLower : ByteArray := ⟨#[108, 111, 119, 101, 114]⟩
def nmMin : ByteArray := ⟨#[109, 105, 110]⟩
def nmMax : ByteArray := ⟨#[109, 97, 120]⟩
def nmFirst : ByteArray := ⟨#[102, 105, 114, 115, 116]⟩
def nmReverse : ByteArray := ⟨#[114, 101, 118, 101, 114, 115, 101]⟩
def nmContains : ByteArray := ⟨#[99, 111, 110, 116, 97, 105, 110, 115]⟩
def nmJoin : ByteArray := ⟨#[106, 111, 105, 110]⟩
open Classical in
/-- What a function returns for valid values. -/
noncomputable def callF (nm : ByteArray) (ls : List (List Cl)) : Option (List Cl) :=
  if nm = nmLength then
    match ls with
    | [v] => if kdV v = 2 then some (numV ((wdV v).size : Int) 1) else if kdV v = 5 then some (numV (myV v) 1) else none
    | _ => none
  else if nm = nmUpper then
    match ls with
    | [v] => if kdV v = 2 then texO (mapB upC (wdV v)) else none
    | _ => none
  else if nm = nmLower then
    match ls with
    | [v] => if kdV v = 2 then texO (mapB loC (wdV v)) else none
    | _ => none
  else if nm = nmMin ∨ nm = nmMax then
    match ls with
    | v :: vs => if ∀ x ∈ v :: vs, kdV x = 1 then some (bestB (decide (nm = nmMin)) v vs) else none
    | _ => none
  else if nm = nmFirst then
    match ls with
    | [v] => if kdV v = 5 then (partsV v)[0]? else none
    | _ => none
  else if nm = nmReverse then
    match ls with
    | [v] => if kdV v = 5 then lisO (partsV v).reverse else none
    | _ => none
  else if nm = nmContains then
    match ls with
    | [v, x] => if kdV v = 5 then some (truV (decide (x ∈ partsV v))) else none
    | _ => none
  else if nm = nmJoin then
    match ls with
    | [v, x] => if kdV v = 5 ∧ kdV x = 2 ∧ ∀ p ∈ partsV v, kdV p = 2 then texO (joinSep (wdV x) ((partsV v).map wdV)) else none
    | _ => none
  else none
/-- A list turned around is a value. -/
theorem turned_ok {l : List Cl} (hok : okV l = true) (h5 : kdV l = 5) : okV (listV (partsV l).reverse) = true := by
  obtain ⟨c, t, hl⟩ : ∃ c t, l = c :: t := by
    cases l with
    | nil => simp [kdV] at h5
    | cons c t => exact ⟨c, t, rfl⟩
  have hc5 : c.1 = 5 := by subst hl; simpa [kdV] using h5
  obtain ⟨k1, k2, k3⟩ := list_partsV hok hl hc5
  have hok2 : okV (listV (partsV l)) = true := by rw [k1]; exact hok
  have h := (okV_listV k2).mp hok2
  have k2' : ∀ p ∈ (partsV l).reverse, okV p = true := fun p hp => k2 p (List.mem_reverse.mp hp)
  have hlen : (partsV l).reverse.flatten.length = (partsV l).flatten.length := by
    have : ∀ L : List (List Cl), L.reverse.flatten.length = L.flatten.length := by
      intro L
      induction L with
      | nil => rfl
      | cons a L ih => simp only [List.reverse_cons, List.flatten_append, List.length_append, List.flatten_cons, List.flatten_nil, List.append_nil, ih]; omega
    exact this _
  have hmax : maxV (partsV l).reverse = maxV (partsV l) := by
    have happ : ∀ A B : List (List Cl), maxV (A ++ B) = max (maxV A) (maxV B) := by
      intro A
      induction A with
      | nil => intro B; simp [maxV]
      | cons a A ih => intro B; simp only [List.cons_append, maxV, ih]; omega
    have : ∀ L : List (List Cl), maxV L.reverse = maxV L := by
      intro L
      induction L with
      | nil => rfl
      | cons a L ih => simp only [List.reverse_cons, happ, maxV, ih]; omega
    exact this _
  exact (okV_listV k2').mpr ⟨by rw [List.length_reverse]; exact h.1, by rw [hlen]; exact h.2.1, by rw [hmax]; exact h.2.2⟩
theorem turned_back {l : List Cl} (hok : okV l = true) (h5 : kdV l = 5) : listV (partsV (listV (partsV l).reverse)).reverse = l := by
  obtain ⟨c, t, hl⟩ : ∃ c t, l = c :: t := by
    cases l with
    | nil => simp [kdV] at h5
    | cons c t => exact ⟨c, t, rfl⟩
  have hc5 : c.1 = 5 := by subst hl; simpa [kdV] using h5
  obtain ⟨k1, k2, -⟩ := list_partsV hok hl hc5
  rw [parts_listV (fun p hp => k2 p (List.mem_reverse.mp hp)) (turned_ok hok h5), List.reverse_reverse, k1]

end Go.Proofs.YtpcaciogglllbaaGreatDoor

/-
  What functions return for values, plainly: results are values; turned around twice; a list has its first part; the least and the greatest.
-/
namespace Go.Proofs.YtpcaciogglllbaaGreatDoor
set_option linter.unusedVariables false

/-- What a function returns, flat; nothing if it returns no value. -/
noncomputable def callR (nm : ByteArray) (ls : List (List Cl)) : List Cl := (callF nm ls).getD []
noncomputable def callOK (nm : ByteArray) (ls : List (List Cl)) : Bool := (callF nm ls).isSome

theorem one_ok {c : Cl} (h : okVC c = true) (h0 : c.2.2 = 0) : okV [c] = true := by
  rw [okV_iff]
  refine ⟨by simp, by simp [h], 1, by omega, ?_⟩
  have : amL [c] = [0] := by simp [amL, h0]
  rw [this]
  exact Exs.cons (d := 0) (e := 0) rfl (Exs.nil 1) (Exs.nil 1)
theorem num_ok {n : Int} (h0 : 0 ≤ n) (h1 : n ≤ 1000000000) : okV (numV n 1) = true := by
  have hv : vB n 1 = true := by
    simp only [vB, Bool.and_eq_true, decide_eq_true_eq, beq_iff_eq]
    refine ⟨⟨⟨⟨by omega, h1⟩, by omega⟩, by omega⟩, ?_⟩
    simp
  obtain ⟨k1, k2, k3⟩ := read_back ⟨(textF n 1).toArray⟩ n 1 hv (by simp [textF, hv])
  refine one_ok ?_ rfl
  simp only [okVC, vC, plC, if_pos, Bool.and_eq_true]
  refine ⟨k1, ?_⟩
  show cellB 1 ⟨#[48]⟩ 0 = true
  simp [cellB, manyB, wordB_zero]
theorem tru_ok (b : Bool) : okV (truV b) = true := by
  cases b <;> refine one_ok ?_ rfl <;> decide +kernel
theorem okV_cons {l : List Cl} (h : okV l = true) : ∃ c t, l = c :: t := by
  cases l with
  | nil => obtain ⟨-, -, d, -, hx⟩ := (okV_iff _).mp h; have := hx.le.1; simp at this
  | cons c t => exact ⟨c, t, rfl⟩
theorem kd_cons (c : Cl) (t : List Cl) : kdV (c :: t) = c.1 ∧ wdV (c :: t) = c.2.1 ∧ myV (c :: t) = c.2.2 := ⟨rfl, rfl, rfl⟩
theorem okV_head {c : Cl} {t : List Cl} (h : okV (c :: t) = true) : okVC c = true := by
  obtain ⟨-, hal, -⟩ := (okV_iff _).mp h
  rw [List.all_cons, Bool.and_eq_true] at hal
  exact hal.1
theorem okVC_many {c : Cl} (h : okVC c = true) : 0 ≤ c.2.2 ∧ c.2.2 ≤ 8 := by
  rw [okVC, Bool.and_eq_true] at h
  have := okC_many h.2
  rwa [plC_many] at this
theorem okVC_word {c : Cl} (h : okVC c = true) : c.2.1.size ≤ 60 := by
  rw [okVC, Bool.and_eq_true] at h
  by_cases h1 : c.1 = 1
  · have hv := h.1
    simp only [vC, if_pos h1] at hv
    have := rd_text _ hv
    rw [← size_list, ← this]
    exact textF_len60 _ _
  · have hc := h.2
    rw [plC, if_neg h1, okC, cellB, Bool.and_eq_true] at hc
    exact word_len _ _ hc.1
theorem best_mem (mn : Bool) : ∀ (ls : List (List Cl)) (b : List Cl), bestB mn b ls = b ∨ bestB mn b ls ∈ ls := by
  intro ls
  induction ls with
  | nil => intro b; exact .inl rfl
  | cons l ls ih =>
    intro b
    rw [bestB]
    rcases ih (if betB mn l b = true then l else b) with h | h
    · rw [h]; split
      · exact .inr (List.mem_cons_self ..)
      · exact .inl rfl
    · exact .inr (List.mem_cons_of_mem _ h)
/-- Number a is not greater than number b. -/
def leV (a b : List Cl) : Prop := rdT (wdV a) * rdB (wdV b) ≤ rdT (wdV b) * rdB (wdV a)
theorem leV_trans {a b c : List Cl} (ha : 1 ≤ rdB (wdV a)) (hb : 1 ≤ rdB (wdV b)) (hc : 1 ≤ rdB (wdV c)) (h1 : leV a b) (h2 : leV b c) : leV a c := by
  unfold leV at *
  have e1 := Int.mul_le_mul_of_nonneg_right h1 (show (0 : Int) ≤ rdB (wdV c) by omega)
  have e2 := Int.mul_le_mul_of_nonneg_right h2 (show (0 : Int) ≤ rdB (wdV a) by omega)
  have e3 : rdT (wdV a) * rdB (wdV c) * rdB (wdV b) ≤ rdT (wdV c) * rdB (wdV a) * rdB (wdV b) := by
    have x1 : rdT (wdV a) * rdB (wdV c) * rdB (wdV b) = rdT (wdV a) * rdB (wdV b) * rdB (wdV c) := by grind
    have x2 : rdT (wdV c) * rdB (wdV a) * rdB (wdV b) = rdT (wdV c) * rdB (wdV b) * rdB (wdV a) := by grind
    have x3 : rdT (wdV b) * rdB (wdV a) * rdB (wdV c) = rdT (wdV b) * rdB (wdV c) * rdB (wdV a) := by grind
    rw [x1, x2]; rw [x3] at e1; exact Int.le_trans e1 e2
  exact Int.le_of_mul_le_mul_right e3 (by omega)
theorem leV_refl (a : List Cl) : leV a a := Int.le_refl _
theorem best_min : ∀ (ls : List (List Cl)) (b : List Cl), (∀ x ∈ b :: ls, 1 ≤ rdB (wdV x)) → leV (bestB true b ls) b := by
  intro ls
  induction ls with
  | nil => intro b _; exact leV_refl b
  | cons l ls ih =>
    intro b hb
    rw [bestB]
    have hbb := hb b (List.mem_cons_self ..); have hlb := hb l (List.mem_cons_of_mem _ (List.mem_cons_self ..))
    by_cases hg : betB true l b = true
    · rw [if_pos hg]
      have i := ih l (fun x hx => hb x (List.mem_cons_of_mem _ hx))
      refine leV_trans ?_ hlb hbb i ?_
      · rcases best_mem true ls l with h | h
        · rw [h]; exact hlb
        · exact hb _ (List.mem_cons_of_mem _ (List.mem_cons_of_mem _ h))
      · simp only [betB, if_true, decide_eq_true_eq] at hg; unfold leV; omega
    · rw [if_neg hg]
      exact ih b (fun x hx => hb x (by simp only [List.mem_cons] at hx ⊢; rcases hx with h | h; exact .inl h; exact .inr (.inr h)))
theorem best_max : ∀ (ls : List (List Cl)) (b : List Cl), (∀ x ∈ b :: ls, 1 ≤ rdB (wdV x)) → leV b (bestB false b ls) := by
  intro ls
  induction ls with
  | nil => intro b _; exact leV_refl b
  | cons l ls ih =>
    intro b hb
    rw [bestB]
    have hbb := hb b (List.mem_cons_self ..); have hlb := hb l (List.mem_cons_of_mem _ (List.mem_cons_self ..))
    by_cases hg : betB false l b = true
    · rw [if_pos hg]
      have i := ih l (fun x hx => hb x (List.mem_cons_of_mem _ hx))
      refine leV_trans hbb hlb ?_ ?_ i
      · rcases best_mem false ls l with h | h
        · rw [h]; exact hlb
        · exact hb _ (List.mem_cons_of_mem _ (List.mem_cons_of_mem _ h))
      · simp only [betB, Bool.false_eq_true, if_false, decide_eq_true_eq] at hg; unfold leV; omega
    · rw [if_neg hg]
      exact ih b (fun x hx => hb x (by simp only [List.mem_cons] at hx ⊢; rcases hx with h | h; exact .inl h; exact .inr (.inr h)))
theorem num_read {l : List Cl} (hok : okV l = true) (h1 : kdV l = 1) : rdOK (wdV l) = true ∧ 1 ≤ rdB (wdV l) := by
  obtain ⟨c, t, rfl⟩ := okV_cons hok
  have h := okV_head hok
  rw [okVC, Bool.and_eq_true, vC, if_pos (show c.1 = 1 from h1)] at h
  exact ⟨h.1, (rd_bottom _ h.1).1⟩
theorem min_max {v : List Cl} {vs : List (List Cl)} (hok : ∀ x ∈ v :: vs, okV x = true) (h1 : ∀ x ∈ v :: vs, kdV x = 1) : leV (bestB true v vs) (bestB false v vs) := by
  have hb : ∀ x ∈ v :: vs, 1 ≤ rdB (wdV x) := fun x hx => (num_read (hok x hx) (h1 x hx)).2
  have m1 : 1 ≤ rdB (wdV (bestB true v vs)) := by
    rcases best_mem true vs v with h | h
    · rw [h]; exact hb v (List.mem_cons_self ..)
    · exact hb _ (List.mem_cons_of_mem _ h)
  have m2 : 1 ≤ rdB (wdV (bestB false v vs)) := by
    rcases best_mem false vs v with h | h
    · rw [h]; exact hb v (List.mem_cons_self ..)
    · exact hb _ (List.mem_cons_of_mem _ h)
  exact leV_trans m1 (hb v (List.mem_cons_self ..)) m2 (best_min vs v hb) (best_max vs v hb)
/-- What a function returns is a value. -/
theorem call_ok {nm : ByteArray} {ls : List (List Cl)} {r : List Cl} (hok : ∀ x ∈ ls, okV x = true) (h : callF nm ls = some r) : okV r = true := by
  have htex : ∀ s, texO s = some r → okV r = true := by
    intro s hs; unfold texO at hs; split at hs
    · rename_i h1; injection hs with hs; rw [← hs]; exact h1
    · cases hs
  unfold callF at h
  repeat' split at h
  all_goals first | (cases h; done) | skip
  · rename_i v _; injection h with h; subst h
    obtain ⟨c, t, rfl⟩ := okV_cons (hok _ (List.mem_singleton.mpr rfl))
    have := okVC_word (okV_head (hok _ (List.mem_singleton.mpr rfl)))
    exact num_ok (by omega) (by show ((wdV (c :: t)).size : Int) ≤ 1000000000; rw [(kd_cons c t).2.1]; omega)
  · injection h with h; subst h
    rename_i v _ _
    obtain ⟨c, t, rfl⟩ := okV_cons (hok _ (List.mem_singleton.mpr rfl))
    have := okVC_many (okV_head (hok _ (List.mem_singleton.mpr rfl)))
    rw [(kd_cons c t).2.2]
    exact num_ok (by omega) (by omega)
  · exact htex _ h
  · exact htex _ h
  · injection h with h; subst h
    rcases best_mem (decide (nm = nmMin)) _ _ with k | k
    · rw [k]; exact hok _ (List.mem_cons_self ..)
    · exact hok _ (List.mem_cons_of_mem _ k)
  · rename_i v h5
    obtain ⟨c, t, rfl⟩ := okV_cons (hok _ (List.mem_singleton.mpr rfl))
    obtain ⟨-, k2, -⟩ := list_partsV (hok _ (List.mem_singleton.mpr rfl)) rfl h5
    exact k2 _ (List.mem_of_getElem? h)
  · unfold lisO at h; split at h
    · rename_i k; injection h with h; rw [← h]; exact k
    · cases h
  · injection h with h; subst h; exact tru_ok _
  · exact htex _ h
theorem rev_ne : nmReverse ≠ nmLength ∧ nmReverse ≠ nmUpper ∧ nmReverse ≠ nmLower ∧ ¬ (nmReverse = nmMin ∨ nmReverse = nmMax) ∧ nmReverse ≠ nmFirst := by decide
theorem callF_rev (ls : List (List Cl)) : callF nmReverse ls = (match ls with | [v] => if kdV v = 5 then lisO (partsV v).reverse else none | _ => none) := by
  obtain ⟨h1, h2, h3, h4, h5⟩ := rev_ne
  unfold callF
  rw [if_neg h1, if_neg h2, if_neg h3, if_neg h4, if_neg h5, if_pos rfl]
  try rfl
theorem rev_back {ls : List (List Cl)} {r : List Cl} (hok : ∀ x ∈ ls, okV x = true) (h : callF nmReverse ls = some r) : ∃ v, ls = [v] ∧ callF nmReverse [r] = some v := by
  rw [callF_rev] at h
  split at h
  · rename_i v
    split at h
    · rename_i h5
      have hv := hok v (List.mem_singleton.mpr rfl)
      have ht := turned_ok hv h5
      unfold lisO at h
      rw [if_pos ht] at h
      injection h with h; subst h
      refine ⟨v, rfl, ?_⟩
      rw [callF_rev]
      show (if kdV (listV (partsV v).reverse) = 5 then lisO (partsV (listV (partsV v).reverse)).reverse else none) = some v
      rw [if_pos (show kdV (listV (partsV v).reverse) = 5 from rfl)]
      unfold lisO
      rw [turned_back hv h5, if_pos hv]
    · cases h
  · cases h
theorem first_ne : nmFirst ≠ nmLength ∧ nmFirst ≠ nmUpper ∧ nmFirst ≠ nmLower ∧ ¬ (nmFirst = nmMin ∨ nmFirst = nmMax) := by decide
theorem callF_first (ls : List (List Cl)) : callF nmFirst ls = (match ls with | [v] => if kdV v = 5 then (partsV v)[0]? else none | _ => none) := by
  obtain ⟨h1, h2, h3, h4⟩ := first_ne
  unfold callF
  rw [if_neg h1, if_neg h2, if_neg h3, if_neg h4, if_pos rfl]
  try rfl
theorem con_ne : nmContains ≠ nmLength ∧ nmContains ≠ nmUpper ∧ nmContains ≠ nmLower ∧ ¬ (nmContains = nmMin ∨ nmContains = nmMax) ∧ nmContains ≠ nmFirst ∧ nmContains ≠ nmReverse := by decide
open Classical in
theorem callF_con (v x : List Cl) : callF nmContains [v, x] = if kdV v = 5 then some (truV (decide (x ∈ partsV v))) else none := by
  obtain ⟨h1, h2, h3, h4, h5, h6⟩ := con_ne
  unfold callF
  rw [if_neg h1, if_neg h2, if_neg h3, if_neg h4, if_neg h5, if_neg h6, if_pos rfl]
open Classical in
theorem first_in {ls : List (List Cl)} {r : List Cl} (h : callF nmFirst ls = some r) : ∃ v, ls = [v] ∧ callF nmContains [v, r] = some (truV true) := by
  rw [callF_first] at h
  split at h
  · rename_i v
    split at h
    · rename_i h5
      refine ⟨v, rfl, ?_⟩
      rw [callF_con, if_pos h5, decide_eq_true (List.mem_of_getElem? h)]
    · cases h
  · cases h
theorem min_ne : nmMin ≠ nmLength ∧ nmMin ≠ nmUpper ∧ nmMin ≠ nmLower := by decide
theorem max_ne : nmMax ≠ nmLength ∧ nmMax ≠ nmUpper ∧ nmMax ≠ nmLower ∧ nmMax ≠ nmMin := by decide
theorem callF_min (ls : List (List Cl)) : callF nmMin ls = (match ls with | v :: vs => if ∀ x ∈ v :: vs, kdV x = 1 then some (bestB true v vs) else none | _ => none) := by
  obtain ⟨h1, h2, h3⟩ := min_ne
  unfold callF
  rw [if_neg h1, if_neg h2, if_neg h3, if_pos (.inl rfl)]
  split <;> simp
theorem callF_max (ls : List (List Cl)) : callF nmMax ls = (match ls with | v :: vs => if ∀ x ∈ v :: vs, kdV x = 1 then some (bestB false v vs) else none | _ => none) := by
  obtain ⟨h1, h2, h3, h4⟩ := max_ne
  unfold callF
  rw [if_neg h1, if_neg h2, if_neg h3, if_pos (.inr rfl)]
  split <;> simp [h4]
theorem min_le {ls : List (List Cl)} {r : List Cl} (hok : ∀ x ∈ ls, okV x = true) (h : callF nmMin ls = some r) : ∃ m, callF nmMax ls = some m ∧ leV r m ∧ kdV r = 1 ∧ kdV m = 1 ∧ okV r = true ∧ okV m = true := by
  have hr := call_ok hok h
  rw [callF_min] at h
  split at h
  · rename_i v vs
    split at h
    · rename_i h1
      injection h with h; subst h
      refine ⟨bestB false v vs, ?_, min_max hok h1, ?_, ?_, hr, ?_⟩
      · rw [callF_max]; exact if_pos h1
      · rcases best_mem true vs v with k | k
        · rw [k]; exact h1 v (List.mem_cons_self ..)
        · exact h1 _ (List.mem_cons_of_mem _ k)
      · rcases best_mem false vs v with k | k
        · rw [k]; exact h1 v (List.mem_cons_self ..)
        · exact h1 _ (List.mem_cons_of_mem _ k)
      · rcases best_mem false vs v with k | k
        · rw [k]; exact hok v (List.mem_cons_self ..)
        · exact hok _ (List.mem_cons_of_mem _ k)
    · cases h
  · cases h
theorem callF_len (ls : List (List Cl)) : callF nmLength ls = (match ls with | [v] => if kdV v = 2 then some (numV ((wdV v).size : Int) 1) else if kdV v = 5 then some (numV (myV v) 1) else none | _ => none) := by
  unfold callF
  rw [if_pos rfl]
  try rfl
/-- A list turned around is as long, and its first part is the last one. -/
theorem rev_len {v : List Cl} (hok : okV v = true) (h5 : kdV v = 5) (hne : partsV v ≠ []) : ∃ w n, callF nmReverse [v] = some w ∧ okV w = true ∧ callF nmLength [v] = some (numV n 1) ∧ callF nmLength [w] = some (numV n 1) ∧ callF nmFirst [w] = (partsV v).getLast? ∧ (0 ≤ n ∧ n ≤ 8) := by
  have ht := turned_ok hok h5
  obtain ⟨c, t, hl⟩ := okV_cons hok
  obtain ⟨k1, k2, k3⟩ := list_partsV hok hl (by rw [← (kd_cons c t).1, ← hl]; exact h5)
  have hm := okVC_many (okV_head (hl ▸ hok))
  have hmy : myV v = c.2.2 := by rw [hl]; rfl
  refine ⟨listV (partsV v).reverse, myV v, ?_, ht, ?_, ?_, ?_, by omega⟩
  · rw [callF_rev]
    show (if kdV v = 5 then lisO (partsV v).reverse else none) = _
    rw [if_pos h5]; unfold lisO; rw [if_pos ht]
  · rw [callF_len]
    show (if kdV v = 2 then some (numV ((wdV v).size : Int) 1) else if kdV v = 5 then some (numV (myV v) 1) else none) = _
    rw [if_neg (by omega), if_pos h5]
  · rw [callF_len]
    show (if (5 : Int) = 2 then some (numV ((wdV (listV (partsV v).reverse)).size : Int) 1) else if (5 : Int) = 5 then some (numV (((partsV v).reverse.length : Int)) 1) else none) = _
    rw [if_neg (by omega), if_pos rfl, List.length_reverse, k3, hmy]
  · rw [callF_first]
    show (if kdV (listV (partsV v).reverse) = 5 then (partsV (listV (partsV v).reverse))[0]? else none) = _
    rw [if_pos (show kdV (listV (partsV v).reverse) = 5 from rfl), parts_listV (fun p hp => k2 p (List.mem_reverse.mp hp)) ht, List.getLast?_eq_head?_reverse, List.head?_eq_getElem?]
theorem upp_ne : nmUpper ≠ nmLength ∧ nmLower ≠ nmLength ∧ nmLower ≠ nmUpper := by decide
theorem callF_up (ls : List (List Cl)) : callF nmUpper ls = (match ls with | [v] => if kdV v = 2 then texO (mapB upC (wdV v)) else none | _ => none) := by
  obtain ⟨h1, h2, h3⟩ := upp_ne
  unfold callF
  rw [if_neg h1, if_pos rfl]
  try rfl
theorem callF_lo (ls : List (List Cl)) : callF nmLower ls = (match ls with | [v] => if kdV v = 2 then texO (mapB loC (wdV v)) else none | _ => none) := by
  obtain ⟨h1, h2, h3⟩ := upp_ne
  unfold callF
  rw [if_neg h2, if_neg h3, if_pos rfl]
  try rfl
theorem okL_map {f : UInt8 → UInt8} (hf : ∀ b : UInt8, okI (b.toNat : Int) = true → okI ((f b).toNat : Int) = true) (l : List UInt8) (h : okL l = true) : okL (l.map f) = true := by
  simp only [okL, List.all_eq_true, List.mem_map] at h ⊢
  rintro _ ⟨b, hb, rfl⟩
  exact hf b (h b hb)
theorem lo_all : ∀ n : Nat, n < 256 → okI ((UInt8.ofNat n).toNat : Int) = true → okI ((loC (UInt8.ofNat n)).toNat : Int) = true := by decide +kernel
theorem lo_plain (b : UInt8) (h : okI (b.toNat : Int) = true) : okI ((loC b).toNat : Int) = true := by
  have k := lo_all b.toNat b.toNat_lt
  rw [UInt8.ofNat_toNat] at k
  exact k h
theorem txt_ok {s : ByteArray} : okV [(2, s, 0)] = true ↔ textB s = true ∧ s.size ≤ 60 := by
  constructor
  · intro h
    have k := okV_head h
    rw [okVC, Bool.and_eq_true, plC, if_neg (show ¬ ((2 : Int) = 1) by decide), okC, cellB, Bool.and_eq_true] at k
    have k1 := k.2.1
    simp only [wordB, show ¬ ((2 : Int) = 1) by decide, if_false, if_true, Bool.and_eq_true, decide_eq_true_eq] at k1
    exact k1
  · rintro ⟨h1, h2⟩
    refine one_ok ?_ rfl
    rw [okVC, Bool.and_eq_true, plC, if_neg (show ¬ ((2 : Int) = 1) by decide), okC, cellB, Bool.and_eq_true]
    refine ⟨by simp [vC], ?_, by simp [manyB]⟩
    simp only [wordB, show ¬ ((2 : Int) = 1) by decide, if_false, if_true, Bool.and_eq_true, decide_eq_true_eq]
    exact ⟨h1, h2⟩
theorem lo_ok {s : ByteArray} (h : okV [(2, s, 0)] = true) : okV [(2, mapB loC s, 0)] = true := by
  rw [txt_ok] at h ⊢
  refine ⟨?_, by rw [mapB_size]; exact h.2⟩
  have h1 := h.1
  rw [textB, Bool.and_eq_true, decide_eq_true_eq] at h1 ⊢
  refine ⟨by rw [mapB_size]; exact h1.1, ?_⟩
  have : (mapB loC s).data.toList = s.data.toList.map loC := by simp [mapB]
  rw [this]
  exact okL_map lo_plain _ h1.2
/-- Letters made large, then small, then large again. -/
theorem case_twice {ls : List (List Cl)} {r : List Cl} (h : callF nmUpper ls = some r) : ∃ m, callF nmLower [r] = some m ∧ okV m = true ∧ callF nmUpper [m] = some r := by
  rw [callF_up] at h
  split at h
  · rename_i v
    split at h
    · rename_i h2
      unfold texO at h
      split at h
      · rename_i hok
        injection h with h; subst h
        have hm : okV [(2, mapB loC (mapB upC (wdV v)), 0)] = true := lo_ok hok
        refine ⟨[(2, mapB loC (mapB upC (wdV v)), 0)], ?_, hm, ?_⟩
        · rw [callF_lo]
          show (if (2 : Int) = 2 then texO (mapB loC (mapB upC (wdV v))) else none) = _
          rw [if_pos rfl]; unfold texO; rw [if_pos hm]
        · rw [callF_up]
          show (if (2 : Int) = 2 then texO (mapB upC (mapB loC (mapB upC (wdV v)))) else none) = _
          rw [if_pos rfl, map_twice]; unfold texO; rw [if_pos hok]
      · cases h
    · cases h
  · cases h

end Go.Proofs.YtpcaciogglllbaaGreatDoor

/-
  What CallFunction answers, at values and at what is no value.
-/
namespace Go.Proofs.YtpcaciogglllbaaGreatDoor
open Go.RowKit
set_option linter.unusedVariables false

theorem rd_valid (s : ByteArray) (h : rdOK s = true) : vB (rdT s) (rdB s) = true := by
  have e := rd_text s h
  cases hv : vB (rdT s) (rdB s) with
  | true => rfl
  | false =>
    exfalso
    rw [textF, hv] at e
    have e : s.data.toList = [] := by simpa using e.symm
    obtain rfl : s = ⟨#[]⟩ := by rw [strL e]
    exact absurd h (by decide)
noncomputable def callRK (nm : ByteArray) (ls : List (List Cl)) : Bool := ls.all okV && callOK nm ls
noncomputable def callRR (nm : ByteArray) (ls : List (List Cl)) : List Cl := if callRK nm ls = true then callR nm ls else []
theorem callRK_yes {nm : ByteArray} {ls : List (List Cl)} (h : ∀ l ∈ ls, okV l = true) : callRK nm ls = callOK nm ls ∧ callRR nm ls = callR nm ls := by
  have h1 : callRK nm ls = callOK nm ls := by rw [callRK, List.all_eq_true.mpr h, Bool.true_and]
  refine ⟨h1, ?_⟩
  rw [callRR, h1]
  cases hc : callF nm ls with
  | none => simp [callOK, callR, hc]
  | some r => simp [callOK, callR, hc]
theorem callRK_no {nm : ByteArray} {ls : List (List Cl)} {l : List Cl} (hm : l ∈ ls) (h : okV l = false) : callRK nm ls = false ∧ callRR nm ls = [] := by
  have h1 : callRK nm ls = false := by
    rw [callRK, Bool.and_eq_false_iff]; left
    rw [List.all_eq_false]; exact ⟨l, hm, by rw [h]; decide⟩
  exact ⟨h1, by rw [callRR, h1]; rfl⟩
theorem callRR_ok {nm : ByteArray} {ls : List (List Cl)} (h : callRK nm ls = true) : callF nm ls = some (callRR nm ls) ∧ okV (callRR nm ls) = true := by
  have h' := h
  rw [callRK, Bool.and_eq_true, List.all_eq_true] at h'
  obtain ⟨r, hr⟩ := Option.isSome_iff_exists.mp h'.2
  have e : callRR nm ls = r := by rw [callRR, if_pos h, callR, hr]; rfl
  rw [e]
  exact ⟨hr, call_ok h'.1 hr⟩
theorem callRR_len (nm : ByteArray) (ls : List (List Cl)) : (callRR nm ls).length ≤ 60 := by
  by_cases h : callRK nm ls = true
  · exact ((okV_iff _).mp (callRR_ok h).2).1
  · rw [callRR, if_neg h]; simp
theorem callF_other {nm : ByteArray} {ls : List (List Cl)} (h : nm ≠ nmLength ∧ nm ≠ nmUpper ∧ nm ≠ nmLower ∧ nm ≠ nmMin ∧ nm ≠ nmMax ∧ nm ≠ nmFirst ∧ nm ≠ nmReverse ∧ nm ≠ nmContains ∧ nm ≠ nmJoin) : callF nm ls = none := by
  obtain ⟨h1, h2, h3, h4, h5, h6, h7, h8, h9⟩ := h
  unfold callF
  rw [if_neg h1, if_neg h2, if_neg h3, if_neg (by rintro (h | h); exact h4 h; exact h5 h), if_neg h6, if_neg h7, if_neg h8, if_neg h9]
theorem join_ne : nmJoin ≠ nmLength ∧ nmJoin ≠ nmUpper ∧ nmJoin ≠ nmLower ∧ ¬ (nmJoin = nmMin ∨ nmJoin = nmMax) ∧ nmJoin ≠ nmFirst ∧ nmJoin ≠ nmReverse ∧ nmJoin ≠ nmContains := by decide
open Classical in
theorem callF_join (ls : List (List Cl)) : callF nmJoin ls = (match ls with | [v, x] => if kdV v = 5 ∧ kdV x = 2 ∧ ∀ p ∈ partsV v, kdV p = 2 then texO (joinSep (wdV x) ((partsV v).map wdV)) else none | _ => none) := by
  obtain ⟨h1, h2, h3, h4, h5, h6, h7⟩ := join_ne
  unfold callF
  rw [if_neg h1, if_neg h2, if_neg h3, if_neg h4, if_neg h5, if_neg h6, if_neg h7, if_pos rfl]
  try rfl
open Classical in
theorem callF_conL (ls : List (List Cl)) : callF nmContains ls = (match ls with | [v, x] => if kdV v = 5 then some (truV (decide (x ∈ partsV v))) else none | _ => none) := by
  obtain ⟨h1, h2, h3, h4, h5, h6⟩ := con_ne
  unfold callF
  rw [if_neg h1, if_neg h2, if_neg h3, if_neg h4, if_neg h5, if_neg h6, if_pos rfl]
  try rfl

end Go.Proofs.YtpcaciogglllbaaGreatDoor
