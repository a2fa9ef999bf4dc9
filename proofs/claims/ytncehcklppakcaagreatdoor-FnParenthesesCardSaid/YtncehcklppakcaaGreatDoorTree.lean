/-
  Trees of expressions in memory: what they are, and that they are kept.
-/
import Derived.Test.YtncehcklppakcaaGreatDoorCellRow
import Derived.Test.YtncehcklppakcaaGreatDoorBaseA
import Derived.Below
import Derived.Laws.OwnMore
import Derived.Laws.Rows
import Derived.OwnWalk
import Derived.Deep.Onto
namespace Go.Proofs.YtncehcklppakcaaGreatDoor
open Go.RowKit
set_option linter.unusedVariables false

/-- A node's block, known whole. -/
def BlkN (w : World) (g : Nat) (cs : Array Value) : Prop := w.heap[g]? = some (.cells cs 93 (0, 0))
section
variable {w w' : World} {g : Nat} {cs : Array Value}
theorem BlkN.lt (h : BlkN w g cs) : g < w.heap.size := by
  rcases Nat.lt_or_ge g w.heap.size with hlt | hge
  · exact hlt
  · unfold BlkN at h; rw [Array.getElem?_eq_none hge] at h; cases h
theorem BlkN.cell (h : BlkN w g cs) (i : Nat) : w.cell? ⟨g, i, none⟩ = cs[i]? := cell_of_row w g i cs _ (0, 0) h
theorem BlkN.frozen (h : BlkN w g cs) (i : Nat) : w.frozen? ⟨g, i, none⟩ = false := by
  unfold BlkN at h
  simp [World.frozen?, h]
theorem BlkN.new (w : World) (cs : Array Value) : BlkN (w.alloc (.cells cs 93)) w.heap.size cs := heap_alloc_new w _
theorem BlkN.keep (h : BlkN w g cs) (hb : Below w.heap.size w w') : BlkN w' g cs := (hb.block g h.lt).trans h
theorem BlkN.alloc (h : BlkN w g cs) (o : Obj) : BlkN (w.alloc o) g cs := (Below.heap_alloc w o g h.lt).trans h
theorem BlkN.drew (h : BlkN w g cs) : BlkN w.drew g cs := h
theorem BlkN.set_ (h : BlkN w g cs) (i : Nat) (u : Value) : BlkN (w.setCell ⟨g, i, none⟩ u) g (cs.setIfInBounds i u) := by
  unfold BlkN at h ⊢
  simp [World.setCell, Array.getElem?_modify, h]
theorem BlkN.grown {row : Option Nat} (h : BlkN w g cs) (hb : w.grownBy w' row) (hg : some g ≠ row) : BlkN w' g cs := (hb.block g h.lt hg).trans h
end

/-- Pointers to nodes. -/
def ptrs (ps : List Nat) : List Value := ps.map fun p => Value.pointer (some ⟨p, 0, none⟩)
theorem ptrs_length (ps : List Nat) : (ptrs ps).length = ps.length := by simp [ptrs]
theorem ptrs_snoc (ps : List Nat) (p : Nat) : ptrs (ps ++ [p]) = ptrs ps ++ [.pointer (some ⟨p, 0, none⟩)] := by simp [ptrs]
theorem ptrs_at (ps : List Nat) (k : Nat) (h : k < ps.length) : (ptrs ps)[k]? = some (.pointer (some ⟨ps[k], 0, none⟩)) := by simp [ptrs, h]

/-- The trees of expressions side by side from f up to t, in blocks that S has. -/
inductive TrS (w : World) (am : List Nat) (S : Nat → Prop) : List Nat → Nat → Nat → Nat → Prop
  | nil (f : Nat) : TrS w am S [] f f 0
  | cons {N f m g d t e : Nat} {v : Value} {qs ps : List Nat} : am[f]? = some m → S N → BlkN w N #[.int .i64 (f : Int), .int .i64 (g : Int), v] → w.ownsRow 0 49 1 v m (ptrs qs) →
      (∀ r, v.ownBlock = some r → S r) → TrS w am S qs (f + 1) g d → TrS w am S ps g t e → TrS w am S (N :: ps) f t (max (d + 1) e)

theorem own_len {w : World} {base m : Nat} {T : TypeId} {v : Value} {qs : List Nat} (h : w.ownsRow base T 1 v m (ptrs qs)) : qs.length = m := by
  have := h.1; rw [ptrs_length] at this; omega
theorem TrS.exs {w : World} {am : List Nat} {S : Nat → Prop} {ps : List Nat} {f t d : Nat} (h : TrS w am S ps f t d) : Exs am ps.length f t d := by
  induction h with
  | nil f => exact .nil f
  | @cons N f m g d t e v qs ps hm hS hb ho hr h1 h2 i1 i2 =>
    rw [own_len ho] at i1
    exact .cons hm i1 i2
theorem TrS.keep {w w' : World} {am : List Nat} {S S' : Nat → Prop} {ps : List Nat} {f t d : Nat} (h : TrS w am S ps f t d) (hw : ∀ b, S b → b < w.heap.size → w'.heap[b]? = w.heap[b]?) (hS : ∀ b, S b → b < w.heap.size → S' b) : TrS w' am S' ps f t d := by
  induction h with
  | nil f => exact .nil f
  | @cons N f m g d t e v qs ps hm hN hb ho hr h1 h2 i1 i2 =>
    have hlt := hb.lt
    refine .cons hm (hS N hN hlt) ((hw N hN hlt).trans hb) ?_ (fun r h => hS r (hr r h) (ho.lt r h).2) i1 i2
    refine ⟨ho.1, ?_⟩
    rcases ho.2 with hn | ⟨g', cap, cur, rfl, hb', hgg, rest⟩
    · exact .inl hn
    · refine .inr ⟨g', cap, cur, rfl, hb', ?_, rest⟩
      rw [hw g' (hr g' rfl) (ho.lt g' rfl).2]
      exact hgg
theorem TrS.app {w : World} {am : List Nat} {S : Nat → Prop} {ps : List Nat} {f g d : Nat} (h : TrS w am S ps f g d) : ∀ {qs : List Nat} {t e : Nat}, TrS w am S qs g t e → TrS w am S (ps ++ qs) f t (max d e) := by
  induction h with
  | nil f => intro qs t e k; rw [Nat.zero_max]; exact k
  | @cons N f m g d t e v qs ps hm hN hb ho hr h1 h2 i1 i2 =>
    intro qs' t' e' k
    rw [Nat.max_assoc]
    exact .cons hm hN hb ho hr h1 (i2 k)
theorem TrS.one {w : World} {am : List Nat} {S : Nat → Prop} {N f m g d : Nat} {v : Value} {qs : List Nat} (hm : am[f]? = some m) (hN : S N) (hb : BlkN w N #[.int .i64 (f : Int), .int .i64 (g : Int), v]) (ho : w.ownsRow 0 49 1 v m (ptrs qs))
    (hr : ∀ r, v.ownBlock = some r → S r) (h : TrS w am S qs (f + 1) g d) : TrS w am S [N] f g (d + 1) := by
  have := TrS.cons hm hN hb ho hr h (.nil g)
  rwa [Nat.max_eq_left (by omega)] at this
theorem TrS.inv {w : World} {am : List Nat} {S : Nat → Prop} {N f t d : Nat} (h : TrS w am S [N] f t d) : ∃ m e v qs, am[f]? = some m ∧ S N ∧ BlkN w N #[.int .i64 (f : Int), .int .i64 (t : Int), v] ∧ w.ownsRow 0 49 1 v m (ptrs qs) ∧ (∀ r, v.ownBlock = some r → S r) ∧ TrS w am S qs (f + 1) t e ∧ d = e + 1 := by
  cases h with
  | @cons _ _ m g d1 _ _ v qs _ hm hN hb ho hr h1 h2 =>
    cases h2
    exact ⟨m, d1, v, qs, hm, hN, hb, ho, hr, h1, by omega⟩
/-- The tree with the number k, and those before and behind it. -/
theorem TrS.at {w : World} {am : List Nat} {S : Nat → Prop} {ps : List Nat} {f t d : Nat} (h : TrS w am S ps f t d) : ∀ k, (hk : k < ps.length) → ∃ g g' d0 d1 d2, TrS w am S (ps.take k) f g d0 ∧ TrS w am S [ps[k]] g g' d1 ∧ TrS w am S (ps.take (k + 1)) f g' (max d0 d1) ∧ TrS w am S (ps.drop (k + 1)) g' t d2 ∧ d = max (max d0 d1) d2 := by
  induction h with
  | nil f => intro k hk; simp at hk
  | @cons N f m g d t e v qs ps hm hN hb ho hr h1 h2 i1 i2 =>
    intro k hk
    cases k with
    | zero =>
      have h := TrS.one hm hN hb ho hr h1
      exact ⟨f, g, 0, d + 1, e, .nil f, h, by rw [Nat.zero_max]; exact h, h2, by rw [Nat.zero_max]⟩
    | succ k =>
      have hk' : k < ps.length := by simpa using hk
      obtain ⟨g1, g2, d0, d1, d2, j1, j2, j3, j4, rfl⟩ := i2 k hk'
      have h := TrS.one hm hN hb ho hr h1
      refine ⟨g1, g2, max (d + 1) d0, d1, d2, ?_, by simpa using j2, ?_, by simpa using j4, by omega⟩
      · rw [List.take_succ_cons]; exact h.app j1
      · rw [List.take_succ_cons]
        have := h.app j3
        rwa [show max (d + 1) (max d0 d1) = max (max (d + 1) d0) d1 by omega] at this
/-- The pointers of a row. -/
theorem own_ptr {w : World} {m : Nat} {v : Value} {qs : List Nat} (ho : w.ownsRow 0 49 1 v m (ptrs qs)) :
    ∃ ao cap, v = .slice ao qs.length cap ∧ qs.length ≤ cap ∧ cap ≤ maxLen ∧ (qs = [] ∨ ∃ b, ao = some ⟨b, 0, none⟩ ∧ b < w.heap.size ∧ ∀ k (h : k < qs.length), w.cell? ⟨b, k, none⟩ = some (.pointer (some ⟨qs[k], 0, none⟩))) := by
  have hl := own_len ho
  subst hl
  rcases ho.2 with ⟨rfl, h0⟩ | ⟨g, cap, cur, rfl, hg, hh, h1, h2, _⟩
  · exact ⟨none, 0, by rw [h0], by omega, by unfold maxLen; omega, .inl (List.length_eq_zero_iff.mp h0)⟩
  · refine ⟨_, cap, rfl, h1, h2, .inr ⟨g, rfl, (ho.lt g rfl).2, fun k hk => ?_⟩⟩
    rw [ho.cellAt k (by omega)]
    exact ptrs_at qs k hk

end Go.Proofs.YtncehcklppakcaaGreatDoor
