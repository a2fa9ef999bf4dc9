/-
  Two drawn fractions: spec.DrawDivFractions.
-/
import Derived.Test.YtnapknogfdkgbaaFracDraw2
namespace Go.Proofs.Ytnapknogfdkgbaa
open Go.RowKit
set_option linter.unusedVariables false

set_option maxHeartbeats 2000000 in
theorem drawDiv_any (a : Option Addr) (len cap : Nat) (w : World) (h : CodeRow w a len cap) :
    Calls Try.prog 32 #[.slice a len cap] w (Drawn2 w) := by
  go_enter Try.func32, Try.ntmps32
  go_wp2_with fail
  refine (drawAdd_any a len cap _ (h.mono (below2 w _ _))).mono ?_
  rintro e w1 ⟨aT, aB, bT, bB, rfl, hb1⟩
  have q1 : Zero1 w1 w.heap.size := Zero1.below (by refine ⟨?_, ?_, ?_, ?_, ?_⟩ <;> simp [go_sem]) hb1 (by simp; omega)
  have q2 : Zero1 w1 (w.heap.size + 1) := Zero1.below (by refine ⟨?_, ?_, ?_, ?_, ?_⟩ <;> simp [go_sem]) hb1 (by simp)
  have HB3 := Lib.hid ((below2 w _ _).trans (hb1.mono (by simp; omega)))
  clear hb1 h
  obtain ⟨x0, x1, x2, x3, x4⟩ := q1
  obtain ⟨y0, y1, y2, y3, y4⟩ := q2
  go_wp2
  exact bodyPost_ret (v := .tuple #[.agg #[.int .i64 aT, .int .i64 aB], .agg #[.int .i64 bT, .int .i64 bB]]) (by simp [results, Try.results32, go_sem, x1, x2, y1, y2]) rfl
    ⟨aT, aB, bT, bB, rfl, ((((HB3.out.setCell (Nat.le_refl _) _).setCell (Nat.le_refl _) _).setCell (by simp) _).setCell (by simp) _)⟩

end Go.Proofs.Ytnapknogfdkgbaa
