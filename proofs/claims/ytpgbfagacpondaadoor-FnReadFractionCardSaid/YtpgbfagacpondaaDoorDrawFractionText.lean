/-
  One drawn fraction: spec.DrawFractionText.
-/
import Derived.Test.YtpgbfagacpondaaDoorFracZero
namespace Go.Proofs.YtpgbfagacpondaaDoor
open Go.RowKit
set_option linter.unusedVariables false

set_option maxHeartbeats 2000000 in
theorem drawFractionText_any (a : Option Addr) (len cap : Nat) (w : World) (h : CodeRow w a len cap) :
    Calls Tryd.prog 10 #[.slice a len cap] w (Drawn1 w) := by
  go_enter Tryd.func10, Tryd.ntmps10
  go_wp2_with fail
  refine (open_codes a len cap _ (h.mono ((Below.refl _ w).alloc (Nat.le_refl _) _))).mono ?_
  rintro e w1 ⟨rfl, hr1, hb1, hs1⟩
  have q1 : Zero1 w1 w.heap.size := Zero1.below (by refine ⟨?_, ?_, ?_, ?_, ?_⟩ <;> simp [go_sem]) hb1 (by simp)
  have HB1 := Lib.hid (((Below.refl _ w).alloc (Nat.le_refl _) _).trans (hb1.mono (by simp)))
  have hR1 : (w.alloc (.cells #[.int .i64 0, .int .i64 0] 25)).heap.size = w.heap.size + 1 := by simp
  rw [hR1] at hr1 ⊢
  have Q1 := Lib.hid q1
  clear hb1 hs1 h hR1 q1
  go_wp2_with fail
  refine (fraction_any _ 0 9 _ (by omega) (by omega) (by omega) hr1).mono ?_
  rintro e w3 ⟨aT, aB, rfl, hr3, hg3⟩
  have HG3 := Lib.hid hg3; clear hg3 hr1
  have P1 := Lib.hid (Q1.out.grown HG3.out (by omega))
  have HB3 := Lib.hid (HB1.out.trans (grown_below HG3.out HB1.out.size (by omega)))
  clear Q1 HB1 HG3
  obtain ⟨x0, x1, x2, x3, x4⟩ := P1.out
  go_wp2
  exact bodyPost_ret (v := .agg #[.int .i64 aT, .int .i64 aB]) (by simp [results, Tryd.results10, go_sem, x1, x2]) rfl
    ⟨aT, aB, rfl, (HB3.out.setCell (Nat.le_refl _) _).setCell (Nat.le_refl _) _⟩

end Go.Proofs.YtpgbfagacpondaaDoor
