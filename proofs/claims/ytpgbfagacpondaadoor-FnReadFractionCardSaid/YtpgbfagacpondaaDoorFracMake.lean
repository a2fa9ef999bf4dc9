/-
  Contracts of chapter 2's functions: reduced fractions, impl's and spec's.
-/
import Derived.Test.YtpgbfagacpondaaDoorFracValid
import Derived.RegionTactic
import Derived.ChangeAlike
import Derived.BigRegion
namespace Go.Proofs.YtpgbfagacpondaaDoor
open Go.RowKit
set_option linter.unusedVariables false

/-- A fraction and whether it is one, as a result. -/
abbrev fr (t b : Int) (ok : Bool) : Ending := .returned (.tuple #[.agg #[.int .i64 t, .int .i64 b], .bool ok])

theorem mk_yes {t b : Int} (h : mkOK t b = true) : mkT t b = t.tdiv (Int.gcd t b : Nat) ∧ mkB t b = b.tdiv (Int.gcd t b : Nat) := by simp [mkT, mkB, h]

theorem bcell {W w1 : World} (hb : Below W.heap.size W w1) : (∀ b o, b < W.heap.size → w1.cell? ⟨b, o, none⟩ = W.cell? ⟨b, o, none⟩) ∧ (∀ b o, b < W.heap.size → w1.frozen? ⟨b, o, none⟩ = W.frozen? ⟨b, o, none⟩) :=
  ⟨fun b o h => hb.cell (p := ⟨b, o, none⟩) h, fun b o h => hb.frozen (p := ⟨b, o, none⟩) h⟩

theorem tdiv_size (t : Int) (g : Nat) : (t.tdiv g).natAbs ≤ t.natAbs := by rw [Int.natAbs_tdiv]; exact Nat.div_le_self _ _

theorem mk_ready (t b : Int) (hb : 1 ≤ b) : ∃ g : Nat, 1 ≤ g ∧ g ≤ b.natAbs ∧ Hid (Int.gcd t b = g) ∧ mkOK t b = vB (t.tdiv g) (b.tdiv g) ∧ (mkOK t b = true → mkT t b = t.tdiv g ∧ mkB t b = b.tdiv g) :=
  ⟨Int.gcd t b, gcd_pos' t b hb, Int.gcd_le_natAbs_right _ (by omega), rfl, rfl, mk_yes⟩

set_option maxHeartbeats 2000000 in
theorem make_spec (t b : Int) (w : World) (ht : t.natAbs < 4611686018427387904) (hb : 1 ≤ b) (hb1 : b < 4611686018427387904) :
    Calls Tryd.prog 43 #[.int .i64 t, .int .i64 b] w fun e w' => e = fr (mkT t b) (mkB t b) (mkOK t b) ∧ Below w.heap.size w w' := by
  obtain ⟨g, hg, hg1, HG, hmk, hyes⟩ := mk_ready t b hb
  have hg0 : ((g : Int) == 0) = false := by simp; omega
  have s1 := tdiv_size t g
  have s2 := tdiv_size b g
  by_cases ho : mkOK t b = true
  · obtain ⟨e1, e2⟩ := hyes ho
    have HV := Lib.hid (hmk.symm.trans ho)
    rw [ho, e1, e2]
    clear ho e1 e2 hmk hyes
    go_enter Tryd.func43, Tryd.ntmps43
    go_wp2_with fail
    refine (gcd_spec _ _ _ ht (by omega)).mono ?_
    rintro e w' ⟨rfl, rfl⟩
    rw [HG.out]
    go_wp2
    go_region
    go_wp2_with fail
    refine (valid_spec _ _ _).mono ?_
    rintro e w1 ⟨rfl, hb1⟩
    obtain ⟨hc, hf⟩ := bcell hb1
    have hz : w.heap.size + 1 < w1.heap.size := by have := hb1.size; simp at this; omega
    have HB := Lib.hid (drew_below (((Below.refl _ w).alloc (Nat.le_refl _) _).alloc (by simp) _) 1 |>.trans (hb1.mono (by first | (simp; done) | (simp; omega)))); clear hb1
    have k0 : w1.cell? ⟨w.heap.size, 0, none⟩ = some (.int .i64 0) := by rw [hc _ _ (by first | (simp; done) | (simp; omega))]; simp [go_sem]
    have k1 : w1.cell? ⟨w.heap.size, 1, none⟩ = some (.int .i64 0) := by rw [hc _ _ (by first | (simp; done) | (simp; omega))]; simp [go_sem]
    rw [HV.out]
    go_wp2
    exact bodyPost_ret (v := .tuple #[.agg #[.int .i64 (t.tdiv g), .int .i64 (b.tdiv g)], .bool true]) (by simp [results, Tryd.results43, go_sem, k0, k1]) rfl ⟨rfl, HB.out.setCell (Nat.le_refl _) _ |>.setCell (Nat.le_refl _) _⟩
  · have ho' := Bool.eq_false_iff.mpr ho
    obtain ⟨e1, e2⟩ := mk_no ho'
    have HV := Lib.hid (hmk.symm.trans ho')
    rw [ho', e1, e2]
    clear ho ho' e1 e2 hmk hyes
    go_enter Tryd.func43, Tryd.ntmps43
    go_wp2_with fail
    refine (gcd_spec _ _ _ ht (by omega)).mono ?_
    rintro e w' ⟨rfl, rfl⟩
    rw [HG.out]
    go_wp2
    go_region
    go_wp2_with fail
    refine (valid_spec _ _ _).mono ?_
    rintro e w1 ⟨rfl, hb1⟩
    obtain ⟨hc, hf⟩ := bcell hb1
    have hz : w.heap.size + 1 < w1.heap.size := by have := hb1.size; simp at this; omega
    have HB := Lib.hid (drew_below (((Below.refl _ w).alloc (Nat.le_refl _) _).alloc (by simp) _) 1 |>.trans (hb1.mono (by first | (simp; done) | (simp; omega)))); clear hb1
    have k0 : w1.cell? ⟨w.heap.size, 0, none⟩ = some (.int .i64 0) := by rw [hc _ _ (by first | (simp; done) | (simp; omega))]; simp [go_sem]
    have k1 : w1.cell? ⟨w.heap.size, 1, none⟩ = some (.int .i64 0) := by rw [hc _ _ (by first | (simp; done) | (simp; omega))]; simp [go_sem]
    rw [HV.out]
    go_wp2
    exact bodyPost_ret (v := .tuple #[.agg #[.int .i64 0, .int .i64 0], .bool false]) (by simp [results, Tryd.results43, go_sem, k0, k1]) rfl ⟨rfl, HB.out.setCell (Nat.le_refl _) _ |>.setCell (Nat.le_refl _) _⟩

end Go.Proofs.YtpgbfagacpondaaDoor
