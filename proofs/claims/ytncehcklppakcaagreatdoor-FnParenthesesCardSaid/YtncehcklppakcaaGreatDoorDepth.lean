/-
  impl's (*node).depth, by its contract.
-/
import Derived.Test.YtncehcklppakcaaGreatDoorTree
import Derived.Deep.QuietTactic
import Derived.BigQuiet
namespace Go.Proofs.YtncehcklppakcaaGreatDoor
open Go.RowKit
set_option linter.unusedVariables false

theorem Exs.dep {am : List Nat} {n f t d : Nat} (h : Exs am n f t d) : d ≤ t - f := by
  induction h with
  | nil f => omega
  | @cons f m g d n t e hm h1 h2 i1 i2 => have l1 := h1.le; have l2 := h2.le; omega
theorem ret_i {a b : Int} (h : a = b) : Ending.returned (.int .i64 a) = .returned (.int .i64 b) := by rw [h]

set_option maxRecDepth 100000 in
set_option maxHeartbeats 4000000 in
theorem depth_any (am : List Nat) (h60 : am.length ≤ 60) (S : Nat → Prop) (w : World) (j : Nat) : ∀ (N f t d : Nat), TrS w am S [N] f t d → t - f ≤ j →
    Calls Tryz.prog 49 #[.pointer (some ⟨N, 0, none⟩)] w fun e w' => e = .returned (.int .i64 (d : Int)) ∧ w = w' := by
  induction j with
  | zero => intro N f t d h hj; have := h.exs.le; simp at this; omega
  | succ j ih =>
    intro N f t d h hj
    obtain ⟨m, e, v, qs, hm, hS, hb, ho, hr, ht, rfl⟩ := h.inv
    have hle := ht.exs.le
    have hdep := ht.exs.dep
    have htl : t ≤ am.length := h.exs.le.2 (by simp)
    obtain ⟨ao, cap, rfl, h1, h2, h3⟩ := own_ptr ho
    unfold maxLen at h2
    have c2 : w.cell? ⟨N, 2, none⟩ = some (.slice ao qs.length cap) := hb.cell 2
    have H3 := Lib.hid h3; have HT := Lib.hid ht; have IH := Lib.hid ih
    have HSTART := Lib.hid (show TrS w am S (qs.take 0) (f + 1) (f + 1) 0 from .nil _)
    have hql : qs.length ≤ 60 := by omega
    clear h3 ht ih h hm hS hb ho hr
    go_enter Tryz.func49, Tryz.ntmps49
    go_wp2
    go_loop [3, 5, 11] (fun dp _ i => ∃ k e0 : Nat, k ≤ qs.length ∧ i = .int .i64 (k : Int) ∧ dp = .int .i64 (e0 : Int) ∧ ∃ g, TrS w am S (qs.take k) (f + 1) g e0) (fun _ _ i => qs.length - (intOf i).toNat)
    case atStart => exact ⟨0, 0, Nat.zero_le _, rfl, rfl, f + 1, HSTART.out⟩
    case round =>
      obtain ⟨k, e0, hk, rfl, rfl, hx⟩ := hrel
      have HX := Lib.hid hx; clear hx
      by_cases hlt : k < qs.length
      · obtain ⟨b, rfl, hbl, cc⟩ := H3.out.resolve_left (by rintro rfl; simp at hlt)
        have d1 := cc k hlt
        obtain ⟨g, g', d0, d1', d2, j1, j2, j3, j4, j5⟩ := HT.out.at k hlt
        obtain ⟨gx, hx⟩ := HX.out
        obtain ⟨-, rfl⟩ := hx.exs.uniq j1.exs
        have l1 := j1.exs.le; have l2 := j2.exs.le; have l4 := j4.exs.le; have l2d := j2.exs.dep; have l1d := j1.exs.dep
        have HJ2 := Lib.hid j2; have HJ3 := Lib.hid j3
        simp only [List.length_take, List.length_cons, List.length_nil] at l1 l2
        clear j1 j2 j3 j4 hx cc HX
        go_wp2_with fail
        refine (IH.out _ g g' d1' HJ2.out (by omega)).mono ?_
        rintro e w' ⟨rfl, rfl⟩
        go_wp2
        go_round
        case rel => exact ⟨k + 1, max e0 d1', by omega, by go_num, by first | rfl | (congr 1; omega), g', HJ3.out⟩
        case measure => simp [intOf]; omega
      · obtain rfl : k = qs.length := by omega
        obtain ⟨g, hx⟩ := HX.out
        have HX2 := Lib.hid (show e0 = e by
          rw [List.take_of_length_le (Nat.le_refl _)] at hx
          exact (hx.exs.uniq HT.out.exs).2)
        have : e0 ≤ 60 := by have := HX2.out; omega
        clear hx
        go_wp2
        go_ret
        exact ⟨ret_i (by rw [HX2.out]), rfl⟩

end Go.Proofs.YtncehcklppakcaaGreatDoor
