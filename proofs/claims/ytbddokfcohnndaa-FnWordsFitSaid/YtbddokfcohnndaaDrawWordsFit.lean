/-
  spec.DrawWordsFit returns drawn words and a width.
-/
import Derived.Test.YtbddokfcohnndaaDrawWrapped
namespace Go.Proofs.Ytbddokfcohnndaa
open Go.RowKit
set_option linter.unusedVariables false

set_option maxRecDepth 100000 in
set_option maxHeartbeats 2000000 in
theorem drawWordsFit_any (a : Option Addr) (len cap : Nat) (w : World) (h : CodeRow w a len cap) :
    Calls Try.prog 28 #[.slice a len cap] w (DrawnW w) := by
  go_enter Try.func28, Try.ntmps28
  go_wp2_with fail
  refine (open_codes a len cap _ h).mono ?_
  rintro e w1 ⟨rfl, hr1, hb1, hs1⟩
  have HB1 := Lib.hid hb1
  clear hb1 hs1 h
  go_wp2_with fail
  refine (wrapped_any w.heap.size 0 2 _ (by omega) (by omega) (by omega) hr1).mono ?_
  rintro e w2 ⟨L, x, v, rfl, hL, hx0, hx1, hS⟩
  obtain ⟨a2, c2, rfl⟩ := own_shape hS.own
  have S := Lib.hid hS
  clear hS hr1
  go_wp2
  exact bodyPost_ret (v := .tuple #[.slice a2 L.length c2, .int .i64 x]) (by simp [results, Try.results28, go_sem]) rfl ⟨L, x, _, rfl, hL, S.out.sz, hx0, hx1, own_base S.out.own (fun g hg => Nat.le_trans HB1.out.size (S.out.own.lt g hg).1), HB1.out.trans (grown_below S.out.gr HB1.out.size (Nat.le_refl _))⟩

end Go.Proofs.Ytbddokfcohnndaa
