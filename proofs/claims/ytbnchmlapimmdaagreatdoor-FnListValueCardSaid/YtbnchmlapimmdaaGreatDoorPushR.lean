/-
  Rows of one's own: one more, where the reader's block alone has been written.
-/
import Derived.Test.YtbnchmlapimmdaaGreatDoorOwnSS
namespace Go.Proofs.YtbnchmlapimmdaaGreatDoor
open Go.RowKit
set_option linter.unusedVariables false

/-- One row more, made behind the others and appended. -/
theorem OwnSS.pushR {wr w5 w6 : World} {base gg : Nat} {a v' u : Value} {us : List Value} {ls : List (List Cl)} {l : List Cl} (h : OwnSS wr base a us ls) (hb5 : ∀ b, base ≤ b → b < wr.heap.size → w5.heap[b]? = wr.heap[b]?) (hs5 : wr.heap.size ≤ w5.heap.size)
    (hu : w5.ownsRow wr.heap.size 27 3 u l.length (flatC l)) (o : Obj) (hgrow : (w5.alloc o).grownBy w6 a.ownBlock) (hrow : w6.ownsRow base 23 1 v' (ls.length + 1) (us ++ [u])) (hv : v'.ownBlock = some gg) (hat : a.ownBlock = some gg ∨ gg = w5.heap.size + 1) (hb : base ≤ wr.heap.size) :
    OwnSS w6 base v' (us ++ [u]) (ls ++ [l]) := by
  have hal : ∀ x, a.ownBlock = some x → x < wr.heap.size := fun x hx => (h.row.lt x hx).2
  have hus : ∀ k (hk : k < us.length) b, us[k].ownBlock = some b → b < wr.heap.size := fun k hk b hkb => ((h.each k hk (by have := h.len; omega)).lt b hkb).2
  have hus1 : ∀ k (hk : k < us.length) b, us[k].ownBlock = some b → base ≤ b := fun k hk b hkb => ((h.each k hk (by have := h.len; omega)).lt b hkb).1
  have hw6 : ∀ b, b < w5.heap.size → a.ownBlock ≠ some b → w6.heap[b]? = w5.heap[b]? := fun b hb hne => by
    rw [hgrow.block b (by simp; omega) (fun e => hne e.symm), Below.heap_alloc _ _ _ hb]
  have hu1 : ∀ b, u.ownBlock = some b → wr.heap.size ≤ b ∧ b < w5.heap.size := fun b hb => hu.lt b hb
  refine h.snoc hrow ?_ ?_ ?_ ?_ ?_
  · exact own_base (own_keep hu (fun g hg => hw6 g (hu1 g hg).2 (fun e => by have := hal g e; have := (hu1 g hg).1; omega))) (fun g hg => by have := (hu1 g hg).1; omega)
  · intro k hk b hkb
    have hlt := hus k hk b hkb
    rw [hw6 b (by omega) (fun e => h.far k hk b hkb e), hb5 b (hus1 k hk b hkb) hlt]
  · intro k hk b hkb he
    have hlt := hus k hk b hkb
    rw [hv] at he
    injection he with he
    subst he
    rcases hat with hat | hat
    · exact h.far k hk _ hkb hat
    · omega
  · intro b hkb he
    have hlt := hu1 b hkb
    rw [hv] at he
    injection he with he
    subst he
    rcases hat with hat | hat
    · have := hal _ hat; omega
    · omega
  · intro k hk b hkb he
    have := hus k hk b hkb
    have := (hu1 b he).1
    omega

end Go.Proofs.YtbnchmlapimmdaaGreatDoor
