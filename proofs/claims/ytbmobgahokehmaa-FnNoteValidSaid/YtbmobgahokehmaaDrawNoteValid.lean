/-
  spec.DrawNoteValid returns a text of at most 61 bytes.
-/
import Derived.Test.YtbmobgahokehmaaDrawNote
namespace Go.Proofs.Ytbmobgahokehmaa
open Go.RowKit
set_option linter.unusedVariables false

/-- A drawn note. -/
def DrawnNote (w : World) (e : Ending) (w' : World) : Prop := ∃ s : ByteArray, e = .returned (.string s) ∧ s.size ≤ 61 ∧ Below w.heap.size w w'

set_option maxHeartbeats 1000000 in
theorem drawNoteValid_any (a : Option Addr) (len cap : Nat) (w : World) (h : CodeRow w a len cap) :
    Calls Try.prog 5 #[.slice a len cap] w (DrawnNote w) := by
  go_enter Try.func5, Try.ntmps5
  go_wp2_with fail
  refine (open_codes a len cap _ h).mono ?_
  rintro e w1 ⟨rfl, hr1, hb1, hs1⟩
  have HB := Lib.hid hb1; have HS := Lib.hid hs1
  clear hb1 hs1
  go_wp2_with fail
  refine (note_any w.heap.size 0 _ _ (by omega) (by omega) (by omega) hr1).mono ?_
  rintro e w2 ⟨s, rfl, hs, hr2, hg2⟩
  have HB2 := Lib.hid (HB.out.trans (grown_below hg2 (by have := HS.out; omega) (Nat.le_refl _)))
  clear hg2 hr2 HB HS hr1
  go_wp2
  go_ret
  exact ⟨s, rfl, hs, HB2.out⟩

end Go.Proofs.Ytbmobgahokehmaa
