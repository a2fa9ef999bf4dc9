/-
  Slices of slices of cells of one's own: no two share a block.
-/
import Derived.Test.YtbnchmlapimmdaaGreatDoorRowLs
import Derived.Test.YtbnchmlapimmdaaGreatDoorMarkC
namespace Go.Proofs.YtbnchmlapimmdaaGreatDoor
open Go.RowKit
set_option linter.unusedVariables false

theorem own_keep {w w' : World} {base : Nat} {e : TypeId} {size n : Nat} {v : Value} {xs : List Value} (h : w.ownsRow base e size v n xs) (hw : ∀ g, v.ownBlock = some g → w'.heap[g]? = w.heap[g]?) : w'.ownsRow base e size v n xs := by
  refine ⟨h.1, ?_⟩
  rcases h.2 with hn | ⟨g', cap, cur, rfl, hb', hgg, rest⟩
  · exact .inl hn
  · exact .inr ⟨g', cap, cur, rfl, hb', by rw [hw g' rfl]; exact hgg, rest⟩
theorem own_base {w : World} {base base' : Nat} {e : TypeId} {size n : Nat} {v : Value} {xs : List Value} (h : w.ownsRow base e size v n xs) (hg : ∀ g, v.ownBlock = some g → base' ≤ g) : w.ownsRow base' e size v n xs := by
  refine ⟨h.1, ?_⟩
  rcases h.2 with hn | ⟨g', cap, cur, rfl, hb', rest⟩
  · exact .inl hn
  · exact .inr ⟨g', cap, cur, rfl, hg g' rfl, rest⟩
theorem own_belowS {w w1 : World} {base : Nat} {e : TypeId} {size n : Nat} {v : Value} {xs : List Value} (h : w.ownsRow base e size v n xs) (hb : Below w.heap.size w w1) : w1.ownsRow base e size v n xs :=
  own_keep h (fun g hg => hb.block g (h.lt g hg).2)
/-- Rows of one's own, in blocks of their own. -/
structure OwnSS (w : World) (base : Nat) (v : Value) (us : List Value) (ls : List (List Cl)) : Prop where
  row : w.ownsRow base 23 1 v ls.length us
  len : us.length = ls.length
  each : ∀ (k : Nat) (h : k < us.length) (h' : k < ls.length), w.ownsRow base 27 3 us[k] ls[k].length (flatC ls[k])
  far : ∀ (k : Nat) (h : k < us.length) (b : Nat), us[k].ownBlock = some b → v.ownBlock ≠ some b
  apart : ∀ (i j : Nat) (hi : i < us.length) (hj : j < us.length) (b : Nat), us[i].ownBlock = some b → us[j].ownBlock = some b → i = j
theorem OwnSS.below {w w' : World} {base : Nat} {v : Value} {us : List Value} {ls : List (List Cl)} (h : OwnSS w base v us ls) (hb : Below w.heap.size w w') : OwnSS w' base v us ls :=
  ⟨own_belowS h.row hb, h.len, fun k h1 h2 => own_belowS (h.each k h1 h2) hb, h.far, h.apart⟩
theorem OwnSS.keep {w w' : World} {base : Nat} {v : Value} {us : List Value} {ls : List (List Cl)} (h : OwnSS w base v us ls) (hw : ∀ b, base ≤ b → b < w.heap.size → w'.heap[b]? = w.heap[b]?) : OwnSS w' base v us ls :=
  ⟨own_keep h.row (fun g hg => hw g (h.row.lt g hg).1 (h.row.lt g hg).2), h.len, fun k h1 h2 => own_keep (h.each k h1 h2) (fun g hg => hw g ((h.each k h1 h2).lt g hg).1 ((h.each k h1 h2).lt g hg).2), h.far, h.apart⟩
theorem OwnSS.lower {w : World} {base base' : Nat} {v : Value} {us : List Value} {ls : List (List Cl)} (h : OwnSS w base v us ls) (hb : base' ≤ base) : OwnSS w base' v us ls :=
  ⟨own_base h.row (fun g hg => Nat.le_trans hb (h.row.lt g hg).1), h.len, fun k h1 h2 => own_base (h.each k h1 h2) (fun g hg => Nat.le_trans hb ((h.each k h1 h2).lt g hg).1), h.far, h.apart⟩
theorem OwnSS.reads {w : World} {base : Nat} {v : Value} {us : List Value} {ls : List (List Cl)} (h : OwnSS w base v us ls) : RowLs w v ls := by
  have hr : ∀ (us : List Value) (ls : List (List Cl)), us.length = ls.length → (∀ (k : Nat) (h : k < us.length) (h' : k < ls.length), RowC w us[k] ls[k]) → RowsC w us ls := by
    intro us
    induction us with
    | nil => intro ls h _; cases ls with
      | nil => trivial
      | cons a t => simp at h
    | cons u us ih => intro ls h hh; cases ls with
      | nil => simp at h
      | cons a t => exact ⟨hh 0 (by simp) (by simp), ih t (by simpa using h) (fun k h1 h2 => by have := hh (k + 1) (by simpa using h1) (by simpa using h2); simpa using this)⟩
  exact (RowLs.of_own h.row (hr us ls h.len fun k h1 h2 => (RowC.of_own (h.each k h1 h2)).1)).1
/-- One row more. -/
theorem OwnSS.snoc {w w' : World} {base : Nat} {v v' u : Value} {us : List Value} {ls : List (List Cl)} {l : List Cl} (h : OwnSS w base v us ls)
    (hrow : w'.ownsRow base 23 1 v' (ls.length + 1) (us ++ [u])) (hu : w'.ownsRow base 27 3 u l.length (flatC l))
    (hw : ∀ k (hk : k < us.length) b, us[k].ownBlock = some b → w'.heap[b]? = w.heap[b]?)
    (h1 : ∀ k (hk : k < us.length) b, us[k].ownBlock = some b → v'.ownBlock ≠ some b) (h2 : ∀ b, u.ownBlock = some b → v'.ownBlock ≠ some b) (h3 : ∀ k (hk : k < us.length) b, us[k].ownBlock = some b → u.ownBlock ≠ some b) : OwnSS w' base v' (us ++ [u]) (ls ++ [l]) := by
  have hl := h.len
  refine ⟨by simpa using hrow, by simp [hl], ?_, ?_, ?_⟩
  · intro k hk hk'
    by_cases hlt : k < us.length
    · rw [List.getElem_append_left hlt, List.getElem_append_left (by omega)]
      exact own_keep (h.each k hlt (by omega)) (fun g hg => hw k hlt g hg)
    · have : k = us.length := by simp at hk; omega
      subst this
      simp only [List.getElem_append_right (Nat.le_refl _), Nat.sub_self, List.getElem_cons_zero]
      rw [List.getElem_append_right (by omega)]
      simpa [hl] using hu
  · intro k hk b hb
    by_cases hlt : k < us.length
    · rw [List.getElem_append_left hlt] at hb; exact h1 k hlt b hb
    · have : k = us.length := by simp at hk; omega
      subst this
      simp only [List.getElem_append_right (Nat.le_refl _), Nat.sub_self, List.getElem_cons_zero] at hb
      exact h2 b hb
  · intro i j hi hj b hbi hbj
    by_cases hli : i < us.length
    · rw [List.getElem_append_left hli] at hbi
      by_cases hlj : j < us.length
      · rw [List.getElem_append_left hlj] at hbj; exact h.apart i j hli hlj b hbi hbj
      · have : j = us.length := by simp at hj; omega
        subst this
        simp only [List.getElem_append_right (Nat.le_refl _), Nat.sub_self, List.getElem_cons_zero] at hbj
        exact absurd hbj (h3 i hli b hbi)
    · have : i = us.length := by simp at hi; omega
      subst this
      simp only [List.getElem_append_right (Nat.le_refl _), Nat.sub_self, List.getElem_cons_zero] at hbi
      by_cases hlj : j < us.length
      · rw [List.getElem_append_left hlj] at hbj; exact absurd hbi (h3 j hlj b hbj)
      · simp at hj; omega
theorem OwnSS.start (w : World) (base : Nat) : OwnSS w base (.slice none 0 0) [] [] :=
  ⟨World.ownsRow_nil _ _ _ _, rfl, fun k h => by simp at h, fun k h => by simp at h, fun i j h => by simp at h⟩
theorem own_shape {w : World} {base : Nat} {e : TypeId} {size n : Nat} {v : Value} {xs : List Value} (h : w.ownsRow base e size v n xs) : ∃ a c, v = .slice a n c := by
  rcases h.2 with ⟨rfl, h0⟩ | ⟨g', cap, cur, rfl, _⟩
  · exact ⟨none, 0, by rw [h0]⟩
  · exact ⟨_, _, rfl⟩
/-- One row more, made behind the others and appended. -/
theorem OwnSS.push {wr w5 w6 : World} {base gg : Nat} {a v' u : Value} {us : List Value} {ls : List (List Cl)} {l : List Cl} (h : OwnSS wr base a us ls) (hb5 : Below wr.heap.size wr w5)
    (hu : w5.ownsRow wr.heap.size 27 3 u l.length (flatC l)) (o : Obj) (hgrow : (w5.alloc o).grownBy w6 a.ownBlock) (hrow : w6.ownsRow base 23 1 v' (ls.length + 1) (us ++ [u])) (hv : v'.ownBlock = some gg) (hat : a.ownBlock = some gg ∨ gg = w5.heap.size + 1) (hb : base ≤ wr.heap.size) :
    OwnSS w6 base v' (us ++ [u]) (ls ++ [l]) := by
  have hs5 := hb5.size
  have hal : ∀ x, a.ownBlock = some x → x < wr.heap.size := fun x hx => (h.row.lt x hx).2
  have hus : ∀ k (hk : k < us.length) b, us[k].ownBlock = some b → b < wr.heap.size := fun k hk b hkb => ((h.each k hk (by have := h.len; omega)).lt b hkb).2
  have hw6 : ∀ b, b < w5.heap.size → a.ownBlock ≠ some b → w6.heap[b]? = w5.heap[b]? := fun b hb hne => by
    rw [hgrow.block b (by simp; omega) (fun e => hne e.symm), Below.heap_alloc _ _ _ hb]
  have hu1 : ∀ b, u.ownBlock = some b → wr.heap.size ≤ b ∧ b < w5.heap.size := fun b hb => hu.lt b hb
  refine h.snoc hrow ?_ ?_ ?_ ?_ ?_
  · exact own_base (own_keep hu (fun g hg => hw6 g (hu1 g hg).2 (fun e => by have := hal g e; have := (hu1 g hg).1; omega))) (fun g hg => by have := (hu1 g hg).1; omega)
  · intro k hk b hkb
    have hlt := hus k hk b hkb
    rw [hw6 b (by omega) (fun e => h.far k hk b hkb e), hb5.block b hlt]
  · intro k hk b hkb he
    have hlt := hus k hk b hkb
    rw [hv] at he
    injection he with he
    subst he
    rcases hat with hat | hat
    · exact h.far k hk _ hkb hat
    · omega
  · intro b hkb he
    have hlt := hu1 b hkb
    rw [hv] at he
    injection he with he
    subst he
    rcases hat with hat | hat
    · have := hal _ hat; omega
    · omega
  · intro k hk b hkb he
    have := hus k hk b hkb
    have := (hu1 b he).1
    omega
/-- One row marked. -/
theorem OwnSS.mark {w w' : World} {base : Nat} {v : Value} {us : List Value} {ls : List (List Cl)} (h : OwnSS w base v us ls) (k : Nat) (hk : k < us.length) (hk' : k < ls.length) (l : List Cl) (hl : l.length = ls[k].length)
    (hg : w.grownBy w' us[k].ownBlock) (ho : w'.ownsRow base 27 3 us[k] l.length (flatC l)) : OwnSS w' base v us (ls.set k l) := by
  refine ⟨?_, by rw [List.length_set]; exact h.len, ?_, h.far, h.apart⟩
  · rw [List.length_set]
    exact own_keep h.row (fun g hgv => hg.block g (h.row.lt g hgv).2 (fun he => h.far k hk g he.symm hgv))
  · intro j hj hj'
    rw [List.length_set] at hj'
    by_cases hjk : k = j
    · subst hjk
      rw [List.getElem_set_self]; exact ho
    · rw [List.getElem_set_ne hjk]
      exact own_keep (h.each j hj hj') (fun g hgj => hg.block g ((h.each j hj hj').lt g hgj).2 (fun he => hjk (h.apart k j hk hj g he.symm hgj)))
/-- A new row of rows. -/
def NewSS (ls : List (List Cl)) (w : World) (e : Ending) (w' : World) : Prop :=
  ∃ v us, e = .returned v ∧ OwnSS w' w.heap.size v us ls ∧ Below w.heap.size w w'
/-- Rows of marked cells. -/
def marksSS : Nat → List (List Cl) → List (List Cl)
  | _, [] => []
  | m, l :: ls => marksC m l.length :: marksSS (m + l.length * 3) ls
def lenSS (ls : List (List Cl)) : Nat := ls.flatten.length
theorem marksSS_length (m : Nat) (ls : List (List Cl)) : (marksSS m ls).length = ls.length := by
  induction ls generalizing m with
  | nil => rfl
  | cons l ls ih => simp [marksSS, ih]
theorem marksSS_at (ls : List (List Cl)) : ∀ (m k : Nat) (h : k < (marksSS m ls).length) (h' : k < ls.length), (marksSS m ls)[k] = marksC (m + lenSS (ls.take k) * 3) ls[k].length := by
  induction ls with
  | nil => intro m k h h'; simp at h'
  | cons l ls ih =>
    intro m k h h'
    cases k with
    | zero => simp [marksSS, lenSS]
    | succ k =>
      simp only [marksSS, List.getElem_cons_succ, List.take_succ_cons]
      rw [ih (m + l.length * 3) k (by simpa [marksSS] using h) (by simpa using h')]
      congr 1
      simp [lenSS]; omega
/-- Rows of which the first k are marked. -/
def mkdSS (m k : Nat) (ls : List (List Cl)) : List (List Cl) := (marksSS m ls).take k ++ ls.drop k
theorem mkdSS_length (m k : Nat) (ls : List (List Cl)) : (mkdSS m k ls).length = ls.length := by
  rw [mkdSS, List.length_append, List.length_take, List.length_drop, marksSS_length]; omega
theorem mkdSS_at (m k : Nat) (ls : List (List Cl)) (h : k < ls.length) : (mkdSS m k ls)[k]'(by rw [mkdSS_length]; exact h) = ls[k] := by
  simp only [mkdSS]
  rw [List.getElem_append_right (by simp; omega)]
  simp [marksSS_length, Nat.min_eq_left (Nat.le_of_lt h)]
theorem mkdSS_next (m k : Nat) (ls : List (List Cl)) (h : k < ls.length) : (mkdSS m k ls).set k (marksC (m + lenSS (ls.take k) * 3) ls[k].length) = mkdSS m (k + 1) ls := by
  have hm : k < (marksSS m ls).length := by rw [marksSS_length]; exact h
  have hl : ((marksSS m ls).take k).length = k := by rw [List.length_take]; omega
  unfold mkdSS
  rw [List.set_append_right _ _ (by omega), hl, Nat.sub_self, List.drop_eq_getElem_cons h, List.set_cons_zero, List.take_succ_eq_append_getElem hm, marksSS_at ls m k hm h, List.append_assoc]
  rfl
theorem lenSS_take (ls : List (List Cl)) (k : Nat) (h : k < ls.length) : lenSS (ls.take (k + 1)) = lenSS (ls.take k) + ls[k].length := by
  simp only [lenSS]
  rw [List.take_succ_eq_append_getElem h, List.flatten_append, List.length_append]
  simp
theorem lenSS_le (ls : List (List Cl)) (k : Nat) : lenSS (ls.take k) ≤ lenSS ls := by
  simp only [lenSS]
  conv => rhs; rw [← List.take_append_drop k ls, List.flatten_append, List.length_append]
  omega
theorem lenSS_in (ls : List (List Cl)) (k : Nat) (h : k < ls.length) : ls[k].length ≤ lenSS ls := by
  have := lenSS_take ls k h
  have := lenSS_le ls (k + 1)
  omega

end Go.Proofs.YtbnchmlapimmdaaGreatDoor
