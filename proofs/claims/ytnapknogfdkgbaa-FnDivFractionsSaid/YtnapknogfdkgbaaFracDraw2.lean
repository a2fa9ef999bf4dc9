/-
  Two drawn fractions: spec.DrawAddFractions.
-/
import Derived.Test.YtnapknogfdkgbaaFracDraw
namespace Go.Proofs.Ytnapknogfdkgbaa
open Go.RowKit
set_option linter.unusedVariables false

/-- Two drawn fractions. -/
def Drawn2 (w : World) (e : Ending) (w' : World) : Prop :=
  ∃ aT aB bT bB : Int, e = .returned (.tuple #[.agg #[.int .i64 aT, .int .i64 aB], .agg #[.int .i64 bT, .int .i64 bB]]) ∧ Below w.heap.size w w'
/-- One drawn fraction. -/
def Drawn1 (w : World) (e : Ending) (w' : World) : Prop :=
  ∃ aT aB : Int, e = .returned (.agg #[.int .i64 aT, .int .i64 aB]) ∧ Below w.heap.size w w'

/-- An empty fraction in block N. -/
def Zero1 (w' : World) (N : Nat) : Prop :=
  N < w'.heap.size ∧ w'.cell? ⟨N, 0, none⟩ = some (.int .i64 0) ∧ w'.cell? ⟨N, 1, none⟩ = some (.int .i64 0) ∧ w'.frozen? ⟨N, 0, none⟩ = false ∧ w'.frozen? ⟨N, 1, none⟩ = false
theorem Zero1.below {W w' : World} {N B : Nat} (h : Zero1 W N) (hb : Below B W w') (hN : N < B) : Zero1 w' N := by
  obtain ⟨h0, h1, h2, h3, h4⟩ := h
  have hs := hb.size
  exact ⟨by omega, by rw [hb.cell (by exact hN)]; exact h1, by rw [hb.cell (by exact hN)]; exact h2, by rw [hb.frozen (by exact hN)]; exact h3, by rw [hb.frozen (by exact hN)]; exact h4⟩
theorem Zero1.grown {W w' : World} {N R : Nat} (h : Zero1 W N) (hg : W.grownBy w' (some R)) (hR : R ≠ N) : Zero1 w' N := by
  obtain ⟨h0, h1, h2, h3, h4⟩ := h
  have hs := hg.size
  exact ⟨by omega, by rw [(grown_far h0 hR hg).1]; exact h1, by rw [(grown_far h0 hR hg).1]; exact h2, by rw [(grown_far h0 hR hg).2]; exact h3, by rw [(grown_far h0 hR hg).2]; exact h4⟩

theorem below2 (w : World) (a b : Obj) : Below w.heap.size w ((w.alloc a).alloc b) := ((Below.refl _ w).alloc (Nat.le_refl _) _).alloc (by simp) _

set_option maxHeartbeats 2000000 in
theorem drawAdd_any (a : Option Addr) (len cap : Nat) (w : World) (h : CodeRow w a len cap) :
    Calls Try.prog 29 #[.slice a len cap] w (Drawn2 w) := by
  go_enter Try.func29, Try.ntmps29
  go_wp2_with fail
  refine (open_codes a len cap _ (h.mono (below2 w _ _))).mono ?_
  rintro e w1 ⟨rfl, hr1, hb1, hs1⟩
  have q1 : Zero1 w1 w.heap.size := Zero1.below (by refine ⟨?_, ?_, ?_, ?_, ?_⟩ <;> simp [go_sem]) hb1 (by simp; omega)
  have q2 : Zero1 w1 (w.heap.size + 1) := Zero1.below (by refine ⟨?_, ?_, ?_, ?_, ?_⟩ <;> simp [go_sem]) hb1 (by simp)
  have HB1 := Lib.hid ((below2 w _ _).trans (hb1.mono (by simp; omega)))
  have hR1 : ((w.alloc (.cells #[.int .i64 0, .int .i64 0] 25)).alloc (.cells #[.int .i64 0, .int .i64 0] 25)).heap.size = w.heap.size + 1 + 1 := by simp
  rw [hR1] at hr1 ⊢
  have Q1 := Lib.hid q1; have Q2 := Lib.hid q2
  clear hb1 hs1 h hR1 q1 q2
  go_wp2_with fail
  refine (fraction_any _ 0 12 _ (by omega) (by omega) (by omega) hr1).mono ?_
  rintro e w2 ⟨aT, aB, rfl, hr2, hg2⟩
  have HG2 := Lib.hid hg2; clear hg2 hr1
  go_wp2_with fail
  refine (fraction_any _ (0 + 8) 12 _ (by omega) (by omega) (by omega) hr2).mono ?_
  rintro e w3 ⟨bT, bB, rfl, hr3, hg3⟩
  have HG3 := Lib.hid (grown_trans HG2.out hg3); clear hg3 hr2 HG2
  have P1 := Lib.hid (Q1.out.grown HG3.out (by omega)); have P2 := Lib.hid (Q2.out.grown HG3.out (by omega))
  have HB3 := Lib.hid (HB1.out.trans (grown_below HG3.out HB1.out.size (by omega)))
  clear Q1 Q2 HB1 HG3
  obtain ⟨x0, x1, x2, x3, x4⟩ := P1.out
  obtain ⟨y0, y1, y2, y3, y4⟩ := P2.out
  go_wp2
  exact bodyPost_ret (v := .tuple #[.agg #[.int .i64 aT, .int .i64 aB], .agg #[.int .i64 bT, .int .i64 bB]]) (by simp [results, Try.results29, go_sem, x1, x2, y1, y2]) rfl
    ⟨aT, aB, bT, bB, rfl, ((((HB3.out.setCell (Nat.le_refl _) _).setCell (Nat.le_refl _) _).setCell (by simp) _).setCell (by simp) _)⟩

end Go.Proofs.Ytnapknogfdkgbaa
