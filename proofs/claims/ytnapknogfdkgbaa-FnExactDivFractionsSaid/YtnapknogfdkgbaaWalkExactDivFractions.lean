/-
  The walk of laws.FnExactDivFractions.
-/
import Derived.Test.YtnapknogfdkgbaaFracTo
import Derived.Test.YtnapknogfdkgbaaFracDivS
import Derived.Test.YtnapknogfdkgbaaFracDivI
import Derived.Deep.RegionHeld3
import Derived.Deep.DeepCutAuto
namespace Go.Proofs.Ytnapknogfdkgbaa
open Go.RowKit
set_option linter.unusedVariables false

set_option maxRecDepth 100000 in
set_option maxHeartbeats 4000000 in
theorem fnExactDivFractions_core (aT aB bT bB : Int) (w : World) :
    Calls Try.prog 7 #[.agg #[.int .i64 aT, .int .i64 aB], .agg #[.int .i64 bT, .int .i64 bB]] w fun e w' => e = .returned (.bool true) ∧ Below w.heap.size w w' := by
  have ne1 : w.heap.size + 1 ≠ w.heap.size := by omega
  have ne2 : w.heap.size + 1 + 1 ≠ w.heap.size := by omega
  have ne3 : w.heap.size ≠ w.heap.size + 1 + 1 := by omega
  have cs := fun w' => div_spec aT aB bT bB w'
  have ci := fun w' => div_impl aT aB bT bB w'
  generalize opT (vB aT aB && vB bT bB && (bT != 0)) (divT aT bT bB) (divB aB bT) = rT at cs ci
  generalize opB (vB aT aB && vB bT bB && (bT != 0)) (divT aT bT bB) (divB aB bT) = rB at cs ci
  generalize opOK (vB aT aB && vB bT bB && (bT != 0)) (divT aT bT bB) (divB aB bT) = ok at cs ci
  have HS := Lib.hid cs; have HI := Lib.hid ci; clear cs ci
  go_enter Try.func7, Try.ntmps7
  go_upto_region 1 with fail
  go_cut [5, 6] (Cut1 aT aB bT bB rT rB ok w)
  case first =>
    go_region_held3 (fun w' => w'.cell? ⟨w.heap.size, 0, none⟩ = some (.int .i64 aT) ∧ w'.cell? ⟨w.heap.size, 1, none⟩ = some (.int .i64 aB) ∧ w'.cell? ⟨w.heap.size + 1, 0, none⟩ = some (.int .i64 bT) ∧ w'.cell? ⟨w.heap.size + 1, 1, none⟩ = some (.int .i64 bB))
      (first
        | go_keep
        | (go_split_ands; exact swap4C nC3 (by assumption) (by assumption) (by assumption) (by assumption))
        | (go_split_ands; exact kept4C hb3 (by assumption) (by assumption) (by assumption) (by assumption))
        | (go_split_ands; exact kept4C hb2 (by assumption) (by assumption) (by assumption) (by assumption))
        | (go_split_ands; exact kept4C hb1 (by assumption) (by assumption) (by assumption) (by assumption)))
      (first
        | (go_at_call_of 16 (Value.agg #[Value.int .i64 aT, Value.int .i64 aB]); (refine (toF aT aB _).mono ?_; rintro e w1 ⟨rfl, hb1⟩; have nC1 : w.heap.size + 1 < w1.heap.size := (by have := hb1.size; (try simp at this); omega); obtain ⟨x11, x12, x13, x14⟩ := ne_new nC1; have H1 : Hid (Below w.heap.size w w1) := (by first | exact bel_0 (bel_2 w _ _).1 (bel_2 w _ _).2 hb1 | exact bel_d (bel_2 w _ _).1 (bel_2 w _ _).2 hb1 | exact bel_a (bel_2 w _ _).1 (bel_2 w _ _).2 hb1 | exact bel_ad (bel_2 w _ _).1 (bel_2 w _ _).2 hb1); (try (refine keptRK hb1 (p4 := ⟨w.heap.size + 1 + 1, 0, none⟩) (p5 := ⟨w.heap.size + 1 + 1, 1, none⟩) (v4 := .int .i64 0) (v5 := .int .i64 0) ?_ ?_ ?_ ?_ ?_; (focus (simp [go_sem]; done)); (focus (simp [go_sem]; done)); (focus (simp [go_sem]; done)); (focus (simp [go_sem]; done)); rintro ⟨y1a, y1b, y1c, y1d⟩))))
        | (go_at_call_of 16 (Value.agg #[Value.int .i64 bT, Value.int .i64 bB]); (refine (toF bT bB _).mono ?_; rintro e w2 ⟨rfl, hb2⟩; have nC2 : w.heap.size + 1 < w2.heap.size := (by have := hb2.size; (try simp at this); omega); obtain ⟨x21, x22, x23, x24⟩ := ne_new nC2; have H2 : Hid (Below w.heap.size w w2) := (by first | exact bel_0 H1.out H1.out.size hb2 | exact bel_d H1.out H1.out.size hb2 | exact bel_a H1.out H1.out.size hb2 | exact bel_ad H1.out H1.out.size hb2); (try (refine keptRK hb2 (p4 := ⟨w.heap.size + 1 + 1, 0, none⟩) (p5 := ⟨w.heap.size + 1 + 1, 1, none⟩) (v4 := .int .i64 0) (v5 := .int .i64 0) ?_ ?_ ?_ ?_ ?_; (focus ((go_split_ands; assumption); done)); (focus ((go_split_ands; assumption); done)); (focus ((go_split_ands; assumption); done)); (focus ((go_split_ands; assumption); done)); rintro ⟨y2a, y2b, y2c, y2d⟩)); (try (refine keptRK hb2 (p4 := ⟨w1.heap.size, 0, none⟩) (p5 := ⟨w1.heap.size, 1, none⟩) (v4 := .int .i64 0) (v5 := .int .i64 0) ?_ ?_ ?_ ?_ ?_; (focus (simp [go_sem]; done)); (focus (simp [go_sem]; done)); (focus (simp [go_sem]; done)); (focus (simp [go_sem]; done)); rintro ⟨y2a, y2b, y2c, y2d⟩))))
        | (go_at_call 25; (refine (HS.out _).mono ?_; rintro e w3 ⟨rfl, hb3⟩; have nC3 : w.heap.size + 1 < w3.heap.size := (by have := hb3.size; (try simp at this); omega); obtain ⟨x31, x32, x33, x34⟩ := ne_new nC3; have H3 : Hid (Below w.heap.size w w3) := (by first | exact bel_0 H2.out H2.out.size hb3 | exact bel_d H2.out H2.out.size hb3 | exact bel_a H2.out H2.out.size hb3 | exact bel_ad H2.out H2.out.size hb3); (try (refine keptRK hb3 (p4 := ⟨w.heap.size + 1 + 1, 0, none⟩) (p5 := ⟨w.heap.size + 1 + 1, 1, none⟩) (v4 := .int .i64 0) (v5 := .int .i64 0) ?_ ?_ ?_ ?_ ?_; (focus ((go_split_ands; assumption); done)); (focus ((go_split_ands; assumption); done)); (focus ((go_split_ands; assumption); done)); (focus ((go_split_ands; assumption); done)); rintro ⟨y3a, y3b, y3c, y3d⟩)); (try (refine keptRK hb3 (p4 := ⟨w1.heap.size, 0, none⟩) (p5 := ⟨w1.heap.size, 1, none⟩) (v4 := .int .i64 0) (v5 := .int .i64 0) ?_ ?_ ?_ ?_ ?_; (focus ((go_split_ands; assumption); done)); (focus ((go_split_ands; assumption); done)); (focus ((go_split_ands; assumption); done)); (focus ((go_split_ands; assumption); done)); rintro ⟨y3a, y3b, y3c, y3d⟩)); (try (refine keptRK hb3 (p4 := ⟨w2.heap.size, 0, none⟩) (p5 := ⟨w2.heap.size, 1, none⟩) (v4 := .int .i64 0) (v5 := .int .i64 0) ?_ ?_ ?_ ?_ ?_; (focus (simp [go_sem]; done)); (focus (simp [go_sem]; done)); (focus (simp [go_sem]; done)); (focus (simp [go_sem]; done)); rintro ⟨y3a, y3b, y3c, y3d⟩)))))
    all_goals (go_wp2_with fail; go_meet)
    all_goals go_split_ands
    all_goals first
      | exact cut1_new nC3 H3.out (by assumption) (by assumption) (by assumption) (by assumption)
      | exact cut1_old (by omega) H3.out (by assumption) (by assumption) (by assumption) (by assumption) (by assumption) (by assumption)
  case rest =>
    obtain ⟨g, rfl, rfl, hg, c0, c1, d0, d1, d2, d3, hbel⟩ := hcut
    have HB := Lib.hid hbel; clear hbel
    have hgl : g < wc.heap.size := World.block_lt_of_cell? wc _ c0
    have nC0 : w.heap.size + 1 < wc.heap.size := by omega
    obtain ⟨x01, x02, x03, x04⟩ := ne_new nC0
    have HC0 := Lib.hid c0; have HC1 := Lib.hid c1; clear c0 c1
    go_upto_region 2 with fail
    go_cut [7, 8] (Cut2 rT rB ok wc)
    case first =>
      go_region_held3 (fun w' => w'.cell? ⟨w.heap.size, 0, none⟩ = some (.int .i64 aT) ∧ w'.cell? ⟨w.heap.size, 1, none⟩ = some (.int .i64 aB) ∧ w'.cell? ⟨w.heap.size + 1, 0, none⟩ = some (.int .i64 bT) ∧ w'.cell? ⟨w.heap.size + 1, 1, none⟩ = some (.int .i64 bB))
        (first
          | go_keep
          | (go_split_ands; exact swap4C nC6 (by assumption) (by assumption) (by assumption) (by assumption))
          | (go_split_ands; exact kept4C hb6 (by assumption) (by assumption) (by assumption) (by assumption))
          | (go_split_ands; exact kept4C hb5 (by assumption) (by assumption) (by assumption) (by assumption))
          | (go_split_ands; exact kept4C hb4 (by assumption) (by assumption) (by assumption) (by assumption)))
        (first
          | (go_at_call_of 16 (Value.agg #[Value.int .i64 aT, Value.int .i64 aB]); (refine (toF aT aB _).mono ?_; rintro e w4 ⟨rfl, hb4⟩; have nC4 : w.heap.size + 1 < w4.heap.size := (by have := hb4.size; (try simp at this); omega); obtain ⟨x41, x42, x43, x44⟩ := ne_new nC4; have H4 : Hid (Below wc.heap.size wc w4) := (by first | exact bel_0 (Below.refl _ wc) (Nat.le_refl _) hb4 | exact bel_d (Below.refl _ wc) (Nat.le_refl _) hb4 | exact bel_a (Below.refl _ wc) (Nat.le_refl _) hb4 | exact bel_ad (Below.refl _ wc) (Nat.le_refl _) hb4); (try (refine keptRK hb4 (p4 := ⟨wc.heap.size, 0, none⟩) (p5 := ⟨wc.heap.size, 1, none⟩) (v4 := .int .i64 0) (v5 := .int .i64 0) ?_ ?_ ?_ ?_ ?_; (focus (simp [go_sem]; done)); (focus (simp [go_sem]; done)); (focus (simp [go_sem]; done)); (focus (simp [go_sem]; done)); rintro ⟨y4a, y4b, y4c, y4d⟩))))
          | (go_at_call_of 16 (Value.agg #[Value.int .i64 bT, Value.int .i64 bB]); (refine (toF bT bB _).mono ?_; rintro e w5 ⟨rfl, hb5⟩; have nC5 : w.heap.size + 1 < w5.heap.size := (by have := hb5.size; (try simp at this); omega); obtain ⟨x51, x52, x53, x54⟩ := ne_new nC5; have H5 : Hid (Below wc.heap.size wc w5) := (by first | exact bel_0 H4.out H4.out.size hb5 | exact bel_d H4.out H4.out.size hb5 | exact bel_a H4.out H4.out.size hb5 | exact bel_ad H4.out H4.out.size hb5); (try (refine keptRK hb5 (p4 := ⟨wc.heap.size, 0, none⟩) (p5 := ⟨wc.heap.size, 1, none⟩) (v4 := .int .i64 0) (v5 := .int .i64 0) ?_ ?_ ?_ ?_ ?_; (focus ((go_split_ands; assumption); done)); (focus ((go_split_ands; assumption); done)); (focus ((go_split_ands; assumption); done)); (focus ((go_split_ands; assumption); done)); rintro ⟨y5a, y5b, y5c, y5d⟩)); (try (refine keptRK hb5 (p4 := ⟨w4.heap.size, 0, none⟩) (p5 := ⟨w4.heap.size, 1, none⟩) (v4 := .int .i64 0) (v5 := .int .i64 0) ?_ ?_ ?_ ?_ ?_; (focus (simp [go_sem]; done)); (focus (simp [go_sem]; done)); (focus (simp [go_sem]; done)); (focus (simp [go_sem]; done)); rintro ⟨y5a, y5b, y5c, y5d⟩))))
          | (go_at_call 26; (refine (HI.out _).mono ?_; rintro e w6 ⟨rfl, hb6⟩; have nC6 : w.heap.size + 1 < w6.heap.size := (by have := hb6.size; (try simp at this); omega); obtain ⟨x61, x62, x63, x64⟩ := ne_new nC6; have H6 : Hid (Below wc.heap.size wc w6) := (by first | exact bel_0 H5.out H5.out.size hb6 | exact bel_d H5.out H5.out.size hb6 | exact bel_a H5.out H5.out.size hb6 | exact bel_ad H5.out H5.out.size hb6); (try (refine keptRK hb6 (p4 := ⟨wc.heap.size, 0, none⟩) (p5 := ⟨wc.heap.size, 1, none⟩) (v4 := .int .i64 0) (v5 := .int .i64 0) ?_ ?_ ?_ ?_ ?_; (focus ((go_split_ands; assumption); done)); (focus ((go_split_ands; assumption); done)); (focus ((go_split_ands; assumption); done)); (focus ((go_split_ands; assumption); done)); rintro ⟨y6a, y6b, y6c, y6d⟩)); (try (refine keptRK hb6 (p4 := ⟨w4.heap.size, 0, none⟩) (p5 := ⟨w4.heap.size, 1, none⟩) (v4 := .int .i64 0) (v5 := .int .i64 0) ?_ ?_ ?_ ?_ ?_; (focus ((go_split_ands; assumption); done)); (focus ((go_split_ands; assumption); done)); (focus ((go_split_ands; assumption); done)); (focus ((go_split_ands; assumption); done)); rintro ⟨y6a, y6b, y6c, y6d⟩)); (try (refine keptRK hb6 (p4 := ⟨w5.heap.size, 0, none⟩) (p5 := ⟨w5.heap.size, 1, none⟩) (v4 := .int .i64 0) (v5 := .int .i64 0) ?_ ?_ ?_ ?_ ?_; (focus (simp [go_sem]; done)); (focus (simp [go_sem]; done)); (focus (simp [go_sem]; done)); (focus (simp [go_sem]; done)); rintro ⟨y6a, y6b, y6c, y6d⟩)))))
      all_goals (go_wp2_with fail; go_meet)
      all_goals go_split_ands
      all_goals first
        | exact cut2_new H6.out
        | exact cut2_old (by have := H4.out.size; have := H5.out.size; omega) H6.out (by assumption) (by assumption)
    case rest =>
      obtain ⟨g2, rfl, rfl, e0, e1, hbel2⟩ := hcut
      have f0 := keptC hbel2 HC0.out; have f1 := keptC hbel2 HC1.out
      have HB2 := Lib.hid (HB.out.trans (hbel2.mono HB.out.size)); clear hbel2
      go_wp2_with fail
      refine (eqF_same _ _ _).mono ?_
      rintro e w7 ⟨rfl, hb7⟩
      have HB3 := Lib.hid (HB2.out.trans (hb7.mono HB2.out.size)); clear hb7
      cases ok
      all_goals
        go_wp2
        go_ret
        exact ⟨rfl, HB3.out⟩

end Go.Proofs.Ytnapknogfdkgbaa
