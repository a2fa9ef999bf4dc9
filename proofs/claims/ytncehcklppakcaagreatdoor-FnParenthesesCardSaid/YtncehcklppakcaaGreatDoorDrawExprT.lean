/-
  spec.DrawExprText: cells whose words are short, at most 60 of them.
-/
import Derived.Test.YtncehcklppakcaaGreatDoorDrawExpr
namespace Go.Proofs.YtncehcklppakcaaGreatDoor
open Go.RowKit
set_option linter.unusedVariables false

/-- Drawn cells. -/
def DrawnT (w : World) (e : Ending) (w' : World) : Prop :=
  ∃ (v : Value) (l : List Cl), e = .returned v ∧ RowC w' v l ∧ (∀ c ∈ l, c.2.1.size ≤ 60) ∧ l.length ≤ 60 ∧ Below w.heap.size w w'

set_option maxHeartbeats 1000000 in
theorem drawExprText_any (a : Option Addr) (len cap : Nat) (w : World) (h : CodeRow w a len cap) :
    Calls Tryz.prog 14 #[.slice a len cap] w (DrawnT w) := by
  go_enter Tryz.func14, Tryz.ntmps14
  go_wp2_with fail
  refine (open_codes a len cap _ h).mono ?_
  rintro e w1 ⟨rfl, hr1, hb1, hs1⟩
  have HB := Lib.hid hb1; have HS := Lib.hid hs1
  clear hb1 hs1
  go_wp2_with fail
  refine (expr_any w.heap.size 0 9 _ (by omega) (by omega) (by omega) hr1).mono ?_
  rintro e w2 ⟨v, l, rfl, hrow, hsh, hl60, -, hr2, hg2⟩
  have HB2 := Lib.hid (HB.out.trans (grown_below hg2 (by have := HS.out; omega) (Nat.le_refl _)))
  have HRW := Lib.hid hrow.row; have HSH := Lib.hid hsh
  clear hg2 hr2 HB HS hr1 hrow hsh
  go_wp2
  go_ret
  exact ⟨v, l, rfl, HRW.out, HSH.out, hl60, HB2.out⟩

end Go.Proofs.YtncehcklppakcaaGreatDoor
