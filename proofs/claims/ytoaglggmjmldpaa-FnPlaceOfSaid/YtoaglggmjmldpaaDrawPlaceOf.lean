/-
  spec.DrawPlaceOf returns a text of at most 9 bytes and a place near it.
-/
import Derived.Test.YtoaglggmjmldpaaDraw
namespace Go.Proofs.Ytoaglggmjmldpaa
open Go.RowKit
set_option linter.unusedVariables false

def DrawnPlace (w : World) (e : Ending) (w' : World) : Prop :=
  ∃ (s : ByteArray) (p : Int), e = .returned (.tuple #[.string s, .int .i64 p]) ∧ s.size ≤ 9 ∧ -1 ≤ p ∧ p ≤ (s.size : Int) + 1 ∧ Below w.heap.size w w'

set_option maxHeartbeats 1000000 in
theorem drawPlaceOf_any (a : Option Addr) (len cap : Nat) (w : World) (h : CodeRow w a len cap) :
    Calls Try.prog 23 #[.slice a len cap] w (DrawnPlace w) := by
  go_enter Try.func23, Try.ntmps23
  go_wp2_with fail
  refine (open_codes a len cap _ h).mono ?_
  rintro e w1 ⟨rfl, hr1, hb1, hs1⟩
  have HB := Lib.hid hb1; have HS := Lib.hid hs1
  clear hb1 hs1
  go_wp2_with fail
  refine (plain_any w.heap.size 0 _ _ (by omega) (by omega) (by omega) hr1).mono ?_
  rintro e w2 ⟨s, rfl, hs, hr2, hg2⟩
  have HG2 := Lib.hid hg2; clear hg2 hr1
  go_wp2_with fail
  refine (pick_any w.heap.size (0 + 11) _ _ (by omega) hr2).mono ?_
  rintro e w3 ⟨m, rfl, hm0, hm1, hm2, hr3, hg3, hs3⟩
  have HG3 := Lib.hid (grown_trans HG2.out hg3); clear hg3 hs3 HG2 hr2
  have hm3 : m < (s.size : Int) + 2 := hm1 (by omega)
  clear hm1 hm2
  go_wp2_with fail
  refine (pick_any w.heap.size (0 + 11 + 1) _ _ (by omega) hr3).mono ?_
  rintro e w4 ⟨n, rfl, hn0, hn1, hn2, hr4, hg4, hs4⟩
  have HG4 := Lib.hid (grown_trans HG3.out hg4); clear hg4 hs4 HG3 hr3 hr4
  have hn3 : n < 9 := hn1 (by omega)
  clear hn1 hn2
  go_wp2
  go_ret2
  exact ⟨s, m - n / 8, rfl, hs, by omega, by omega, HB.out.trans (grown_below HG4.out (by have := HS.out; omega) (Nat.le_refl _))⟩

end Go.Proofs.Ytoaglggmjmldpaa
