/-
  spec.DrawQuoteText returns a text of at most 9 bytes.
-/
import Derived.Test.YtffpaabpicdpeaaDraw
namespace Go.Proofs.Ytffpaabpicdpeaa
open Go.RowKit
set_option linter.unusedVariables false

set_option maxHeartbeats 1000000 in
theorem drawQuoteText_any (a : Option Addr) (len cap : Nat) (w : World) (h : CodeRow w a len cap) :
    Calls Try.prog 7 #[.slice a len cap] w (Drawn w) := by
  go_enter Try.func7, Try.ntmps7
  go_wp2_with fail
  refine (open_codes a len cap _ h).mono ?_
  rintro e w1 ⟨rfl, hr1, hb1, hs1⟩
  have HB := Lib.hid hb1; have HS := Lib.hid hs1
  clear hb1 hs1
  go_wp2_with fail
  refine (plain_any w.heap.size 0 _ _ (by omega) (by omega) (by omega) hr1).mono ?_
  rintro e w2 ⟨s, rfl, hs, hr2, hg2⟩
  have HB2 := Lib.hid (HB.out.trans (grown_below hg2 (by have := HS.out; omega) (Nat.le_refl _)))
  clear hg2 hr2 HB HS hr1
  go_wp2
  go_ret
  exact ⟨s, rfl, hs, HB2.out⟩

end Go.Proofs.Ytffpaabpicdpeaa
