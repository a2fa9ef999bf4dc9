/-
  Two drawn fractions: spec.DrawCompareFractions.
-/
import Derived.Test.YtnapknogfdkgbaaFracDraw2
import Derived.Deep.RegionHeld3
namespace Go.Proofs.Ytnapknogfdkgbaa
open Go.RowKit
set_option linter.unusedVariables false

theorem keepB {W w' : World} {R b o : Nat} {v : Value} (hg : W.grownBy w' (some R)) (hR : R ≠ b) (h : W.cell? ⟨b, o, none⟩ = some v) : w'.cell? ⟨b, o, none⟩ = some v := by
  rw [(grown_far (World.block_lt_of_cell? W _ h) hR hg).1]; exact h

set_option maxHeartbeats 4000000 in
theorem drawCmp_any (a : Option Addr) (len cap : Nat) (w : World) (h : CodeRow w a len cap) :
    Calls Try.prog 27 #[.slice a len cap] w (Drawn2 w) := by
  go_enter Try.func27, Try.ntmps27
  go_wp2_with fail
  refine (open_codes a len cap _ (h.mono (below2 w _ _))).mono ?_
  rintro e w1 ⟨rfl, hr1, hb1, hs1⟩
  have q1 : Zero1 w1 w.heap.size := Zero1.below (by refine ⟨?_, ?_, ?_, ?_, ?_⟩ <;> simp [go_sem]) hb1 (by simp; omega)
  have q2 : Zero1 w1 (w.heap.size + 1) := Zero1.below (by refine ⟨?_, ?_, ?_, ?_, ?_⟩ <;> simp [go_sem]) hb1 (by simp)
  have HB1 := Lib.hid ((below2 w _ _).trans (hb1.mono (by simp; omega)))
  have hR1 : ((w.alloc (.cells #[.int .i64 0, .int .i64 0] 25)).alloc (.cells #[.int .i64 0, .int .i64 0] 25)).heap.size = w.heap.size + 1 + 1 := by simp
  rw [hR1] at hr1 ⊢
  have Q1 := Lib.hid q1; have Q2 := Lib.hid q2
  clear hb1 hs1 h hR1 q1 q2
  go_wp2_with fail
  refine (fraction_any _ 0 12 _ (by omega) (by omega) (by omega) hr1).mono ?_
  rintro e w2 ⟨aT, aB, rfl, hr2, hg2⟩
  have HG2 := Lib.hid hg2; clear hg2 hr1
  have hlt := hr2.lt
  go_wp2_with fail
  refine (pick_any _ (0 + 8) 4 _ (by omega) (hr2.al _)).mono ?_
  rintro e w3 ⟨m3, rfl, hm30, hm31, -, hr3, hg3, hs3⟩
  have hm3 := hm31 (by omega)
  have c30 : w3.cell? ⟨w2.heap.size, 0, none⟩ = some (.int .i64 aT) := keepB hg3 (by omega) (by simp [go_sem])
  have c31 : w3.cell? ⟨w2.heap.size, 1, none⟩ = some (.int .i64 aB) := keepB hg3 (by omega) (by simp [go_sem])
  have HG3 := Lib.hid (grown_trans (grown_alloc HG2.out _) hg3)
  clear hm31 hg3 hs3 HG2 hr2
  have P1 := Lib.hid (Q1.out.grown HG3.out (by omega)); have P2 := Lib.hid (Q2.out.grown HG3.out (by omega))
  have HB3 := Lib.hid (HB1.out.trans (grown_below HG3.out HB1.out.size (by omega)))
  clear Q1 Q2 HB1 HG3
  have ne1 : w.heap.size ≠ w2.heap.size := by omega
  have ne2 : w.heap.size + 1 ≠ w2.heap.size := by omega
  have ne3 : w2.heap.size ≠ w.heap.size := by omega
  have ne4 : w2.heap.size ≠ w.heap.size + 1 := by omega
  by_cases h0 : m3 = 0
  · subst h0
    obtain ⟨x0, x1, x2, x3, x4⟩ := P1.out
    obtain ⟨y0, y1, y2, y3, y4⟩ := P2.out
    go_wp2
    go_region
    all_goals
      go_wp2
      exact bodyPost_ret (v := .tuple #[.agg #[.int .i64 aT, .int .i64 aB], .agg #[.int .i64 aT, .int .i64 aB]]) (by simp [results, Try.results27, go_sem, x1, x2, y1, y2]) rfl
        ⟨aT, aB, aT, aB, rfl, ((((HB3.out.setCell (Nat.le_refl _) _).setCell (Nat.le_refl _) _).setCell (by simp) _).setCell (by simp) _).drew⟩
  · have h0' : (m3 == 0) = false := by simpa using h0
    go_wp2_with fail
    go_region_held3 (fun w' => w'.cell? ⟨w2.heap.size, 0, none⟩ = some (.int .i64 aT) ∧ w'.cell? ⟨w2.heap.size, 1, none⟩ = some (.int .i64 aB))
      (first
        | go_keep
        | (go_split_ands; exact ⟨keepB hg4 (by omega) (by assumption), keepB hg4 (by omega) (by assumption)⟩))
      ((go_at_call 43; refine (fraction_any (w.heap.size + 1 + 1) (0 + 8 + 1) 12 _ (by omega) (by omega) (by omega) (by first | exact hr3.dr | exact hr3)).mono ?_; rintro e w4 ⟨bT, bB, rfl, hr4, hg4⟩;
        obtain ⟨x0, x1, x2, x3, x4⟩ : Zero1 w4 w.heap.size := Zero1.grown (by exact P1.out) hg4 (by omega); obtain ⟨y0, y1, y2, y3, y4⟩ : Zero1 w4 (w.heap.size + 1) := Zero1.grown (by exact P2.out) hg4 (by omega)))
    have HB4 := Lib.hid (HB3.out.drew.trans (grown_below hg4 HB3.out.size (by omega)))
    go_wp2
    exact bodyPost_ret (v := .tuple #[.agg #[.int .i64 aT, .int .i64 aB], .agg #[.int .i64 bT, .int .i64 bB]]) (by simp [results, Try.results27, go_sem, x1, x2, y1, y2]) rfl
      ⟨aT, aB, bT, bB, rfl, ((((HB4.out.setCell (Nat.le_refl _) _).setCell (Nat.le_refl _) _).setCell (by simp) _).setCell (by simp) _)⟩

end Go.Proofs.Ytnapknogfdkgbaa
