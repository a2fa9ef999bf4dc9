/-
  Contracts of chapter 2's methods: reduced, plus, times, inverse.
-/
import Derived.Test.YtpgbfagacpondaaDoorFracMake
namespace Go.Proofs.YtpgbfagacpondaaDoor
open Go.RowKit
set_option linter.unusedVariables false

theorem gcd_i (t b : Int) (w : World) (ht : t.natAbs < 4611686018427387904) (hb : 1 ≤ b) (hb1 : b < 4611686018427387904) :
    Calls Tryd.prog 32 #[.int .i64 (t.natAbs : Nat), .int .i64 b] w fun e w' => e = .returned (.int .i64 (Int.gcd t b : Nat)) ∧ ∃ n, w' = w.drewN n := by
  obtain ⟨m, rfl⟩ := Int.eq_ofNat_of_zero_le (show 0 ≤ b by omega)
  exact gcd_impl t.natAbs m w ht (by omega)

set_option maxHeartbeats 2000000 in
theorem reduced_any (t b : Int) (w : World) (ht : t.natAbs < 4611686018427387904) (hb : 1 ≤ b) (hb1 : b < 4611686018427387904) :
    Calls Tryd.prog 49 #[.agg #[.int .i64 t, .int .i64 b]] w fun e w' => e = fr (mkT t b) (mkB t b) (mkOK t b) ∧ Below w.heap.size w w' := by
  obtain ⟨g, hg, hg1, HG, hmk, hyes⟩ := mk_ready t b (by omega)
  have hg0 : ((g : Int) == 0) = false := by simp; omega
  have s1 := tdiv_size t g
  have s2 := tdiv_size b g
  by_cases ho : mkOK t b = true
  · obtain ⟨e1, e2⟩ := hyes ho
    have HV := Lib.hid (hmk.symm.trans ho)
    rw [ho, e1, e2]
    clear ho e1 e2 hmk hyes
    go_enter Tryd.func49, Tryd.ntmps49
    go_wp2
    go_quiet (first
      | (go_at_call 33; exact Calls.quiet_of_same ((size_any _ _ (by omega) (by omega)).mono fun e w' h => ⟨h.1, h.2.symm⟩))
      | (go_at_call 32; exact Calls.quiet_of (gcd_i _ _ _ (by omega) (by omega) (by omega))))
    go_wp2
    rw [HG.out]
    go_region
    go_wp2_with fail
    refine (valid_method _ _ _).mono ?_
    rintro e w1 ⟨rfl, hb1⟩
    obtain ⟨hc, hf⟩ := bcell hb1
    have hz : w.heap.size + 2 < w1.heap.size := by have := hb1.size; simp at this; omega
    have HB := Lib.hid (((drew_below ((((Below.refl _ w).alloc (Nat.le_refl _) _).alloc (by simp) _).alloc (by first | (simp; done) | (simp; omega)) _) nq).drew).trans (hb1.mono (by first | (simp; done) | (simp; omega)))); clear hb1
    have k0 : w1.cell? ⟨w.heap.size + 1, 0, none⟩ = some (.int .i64 0) := by rw [hc _ _ (by first | (simp; done) | (simp; omega))]; simp [go_sem]
    have k1 : w1.cell? ⟨w.heap.size + 1, 1, none⟩ = some (.int .i64 0) := by rw [hc _ _ (by first | (simp; done) | (simp; omega))]; simp [go_sem]
    rw [HV.out]
    go_wp2
    exact bodyPost_ret (v := .tuple #[.agg #[.int .i64 (t.tdiv g), .int .i64 (b.tdiv g)], .bool true]) (by simp [results, Tryd.results49, go_sem, k0, k1]) rfl ⟨rfl, HB.out.setCell (by simp) _ |>.setCell (by simp) _⟩
  · have ho' := Bool.eq_false_iff.mpr ho
    obtain ⟨e1, e2⟩ := mk_no ho'
    have HV := Lib.hid (hmk.symm.trans ho')
    rw [ho', e1, e2]
    clear ho ho' e1 e2 hmk hyes
    go_enter Tryd.func49, Tryd.ntmps49
    go_wp2
    go_quiet (first
      | (go_at_call 33; exact Calls.quiet_of_same ((size_any _ _ (by omega) (by omega)).mono fun e w' h => ⟨h.1, h.2.symm⟩))
      | (go_at_call 32; exact Calls.quiet_of (gcd_i _ _ _ (by omega) (by omega) (by omega))))
    go_wp2
    rw [HG.out]
    go_region
    go_wp2_with fail
    refine (valid_method _ _ _).mono ?_
    rintro e w1 ⟨rfl, hb1⟩
    obtain ⟨hc, hf⟩ := bcell hb1
    have hz : w.heap.size + 2 < w1.heap.size := by have := hb1.size; simp at this; omega
    have HB := Lib.hid (((drew_below ((((Below.refl _ w).alloc (Nat.le_refl _) _).alloc (by simp) _).alloc (by first | (simp; done) | (simp; omega)) _) nq).drew).trans (hb1.mono (by first | (simp; done) | (simp; omega)))); clear hb1
    have k0 : w1.cell? ⟨w.heap.size + 1, 0, none⟩ = some (.int .i64 0) := by rw [hc _ _ (by first | (simp; done) | (simp; omega))]; simp [go_sem]
    have k1 : w1.cell? ⟨w.heap.size + 1, 1, none⟩ = some (.int .i64 0) := by rw [hc _ _ (by first | (simp; done) | (simp; omega))]; simp [go_sem]
    rw [HV.out]
    go_wp2
    exact bodyPost_ret (v := .tuple #[.agg #[.int .i64 0, .int .i64 0], .bool false]) (by simp [results, Tryd.results49, go_sem, k0, k1]) rfl ⟨rfl, HB.out.setCell (by simp) _ |>.setCell (by simp) _⟩

end Go.Proofs.YtpgbfagacpondaaDoor
