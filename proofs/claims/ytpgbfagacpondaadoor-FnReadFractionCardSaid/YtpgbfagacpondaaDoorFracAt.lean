/-
  A fraction in a block, kept while memory grows.
-/
import Derived.Test.YtpgbfagacpondaaDoorFracHeld
namespace Go.Proofs.YtpgbfagacpondaaDoor
open Go.RowKit

def FrAt (w' : World) (B : Nat) (x y : Int) : Prop := w'.cell? ⟨B, 0, none⟩ = some (.int .i64 x) ∧ w'.cell? ⟨B, 1, none⟩ = some (.int .i64 y)
theorem FrAt.keep {W w1 : World} {B : Nat} {x y : Int} (h : FrAt W B x y) (hb : Below W.heap.size W w1) : FrAt w1 B x y :=
  ⟨by rw [hb.cell (World.block_lt_of_cell? W _ h.1)]; exact h.1, by rw [hb.cell (World.block_lt_of_cell? W _ h.2)]; exact h.2⟩
theorem FrAt.al {W : World} {B : Nat} {x y : Int} (h : FrAt W B x y) (o : Obj) : FrAt (W.alloc o) B x y :=
  h.keep ((Below.refl _ W).alloc (Nat.le_refl _) _)
theorem FrAt.lt {W : World} {B : Nat} {x y : Int} (h : FrAt W B x y) : B < W.heap.size := World.block_lt_of_cell? W _ h.1
theorem FrAt.new (W : World) (x y : Int) (t : TypeId) : FrAt (W.alloc (.cells #[.int .i64 x, .int .i64 y] t)) W.heap.size x y := ⟨by simp [go_sem], by simp [go_sem]⟩

end Go.Proofs.YtpgbfagacpondaaDoor
