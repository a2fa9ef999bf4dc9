/-
  The walk of laws.FnExactCompareFractions.
-/
import Derived.Test.YtnapknogfdkgbaaFracTo
import Derived.Test.YtnapknogfdkgbaaFracCmp
import Derived.Deep.RegionHeld3
import Derived.Deep.DeepCutAuto
namespace Go.Proofs.Ytnapknogfdkgbaa
open Go.RowKit
set_option linter.unusedVariables false

set_option maxRecDepth 100000 in
set_option maxHeartbeats 4000000 in
theorem fnExactCompareFractions_core (aT aB bT bB : Int) (w : World) :
    Calls Try.prog 4 #[.agg #[.int .i64 aT, .int .i64 aB], .agg #[.int .i64 bT, .int .i64 bB]] w fun e w' => e = .returned (.bool true) ∧ Below w.heap.size w w' := by
  have ne1 : w.heap.size + 1 ≠ w.heap.size := by omega
  have cs := fun w' => cmp_spec aT aB bT bB w'
  have ci := fun w' => cmp_impl aT aB bT bB w'
  generalize cmpF (vB aT aB && vB bT bB) (aT * bB) (bT * aB) = r at cs ci
  have HS := Lib.hid cs; have HI := Lib.hid ci; clear cs ci
  go_enter Try.func4, Try.ntmps4
  go_wp2_with fail
  go_region_held3 (fun w' => w'.cell? ⟨w.heap.size, 0, none⟩ = some (.int .i64 aT) ∧ w'.cell? ⟨w.heap.size, 1, none⟩ = some (.int .i64 aB) ∧ w'.cell? ⟨w.heap.size + 1, 0, none⟩ = some (.int .i64 bT) ∧ w'.cell? ⟨w.heap.size + 1, 1, none⟩ = some (.int .i64 bB))
    (first
      | go_keep
      | (go_split_ands; exact kept4C hb3 (by assumption) (by assumption) (by assumption) (by assumption))
      | (go_split_ands; exact kept4C hb2 (by assumption) (by assumption) (by assumption) (by assumption))
      | (go_split_ands; exact kept4C hb1 (by assumption) (by assumption) (by assumption) (by assumption)))
    (first
      | (go_at_call_of 16 (Value.agg #[Value.int .i64 aT, Value.int .i64 aB]); refine (toF aT aB _).mono ?_; rintro e w1 ⟨rfl, hb1⟩)
      | (go_at_call_of 16 (Value.agg #[Value.int .i64 bT, Value.int .i64 bB]); refine (toF bT bB _).mono ?_; rintro e w2 ⟨rfl, hb2⟩)
      | (go_at_call 18; refine (HS.out _).mono ?_; rintro e w3 ⟨rfl, hb3⟩))
  have H3 : Hid (Below w.heap.size w w3) := bel_0 (bel_0 (by first | exact bel_d (bel_2 w _ _).1 (bel_2 w _ _).2 hb1 | exact bel_0 (bel_2 w _ _).1 (bel_2 w _ _).2 hb1) (Nat.le_trans (bel_2 w _ _).2 hb1.size) hb2) (Nat.le_trans (Nat.le_trans (bel_2 w _ _).2 hb1.size) hb2.size) hb3
  clear hb1 hb2 hb3
  go_split_ands
  go_wp2_with fail
  go_region_held3 (fun w' => w'.cell? ⟨w.heap.size, 0, none⟩ = some (.int .i64 aT) ∧ w'.cell? ⟨w.heap.size, 1, none⟩ = some (.int .i64 aB) ∧ w'.cell? ⟨w.heap.size + 1, 0, none⟩ = some (.int .i64 bT) ∧ w'.cell? ⟨w.heap.size + 1, 1, none⟩ = some (.int .i64 bB))
    (first
      | go_keep
      | (go_split_ands; exact kept4C hb6 (by assumption) (by assumption) (by assumption) (by assumption))
      | (go_split_ands; exact kept4C hb5 (by assumption) (by assumption) (by assumption) (by assumption))
      | (go_split_ands; exact kept4C hb4 (by assumption) (by assumption) (by assumption) (by assumption)))
    (first
      | (go_at_call_of 16 (Value.agg #[Value.int .i64 aT, Value.int .i64 aB]); refine (toF aT aB _).mono ?_; rintro e w4 ⟨rfl, hb4⟩)
      | (go_at_call_of 16 (Value.agg #[Value.int .i64 bT, Value.int .i64 bB]); refine (toF bT bB _).mono ?_; rintro e w5 ⟨rfl, hb5⟩)
      | (go_at_call 19; refine (HI.out _).mono ?_; rintro e w6 ⟨rfl, hb6⟩))
  have H6 : Hid (Below w.heap.size w w6) := bel_0 (bel_0 (by first | exact bel_d H3.out H3.out.size hb4 | exact bel_0 H3.out H3.out.size hb4) (Nat.le_trans H3.out.size hb4.size) hb5) (Nat.le_trans (Nat.le_trans H3.out.size hb4.size) hb5.size) hb6
  clear hb4 hb5 hb6
  go_wp2
  go_ret
  exact ⟨by first | rfl | simp, H6.out⟩

end Go.Proofs.Ytnapknogfdkgbaa
