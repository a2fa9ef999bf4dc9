/-
  Contracts of chapter 2's functions: validity, impl's and spec's.
-/
import Derived.Test.YtpgbfagacpondaaDoorFrac
namespace Go.Proofs.YtpgbfagacpondaaDoor
open Go.RowKit
set_option linter.unusedVariables false

/-- 'n is in lo..hi'. -/
def inF (n lo hi : Int) : Bool := decide (lo ≤ n) && decide (n ≤ hi)

set_option maxHeartbeats 400000 in
theorem l1In_f (n lo hi : Int) (w : World) :
    Calls Tryd.prog 22 #[.int .i64 n, .int .i64 lo, .int .i64 hi] w fun e w' => e = .returned (.bool (inF n lo hi)) ∧ w = w' := by
  by_cases a : lo ≤ n
  · by_cases b : n ≤ hi
    · have hp : inF n lo hi = true := by simp [inF, a, b]
      rw [hp]; clear hp
      go_enter Tryd.func22, Tryd.ntmps22
      go_wp2
      go_ret
      exact ⟨rfl, rfl⟩
    · have hp : inF n lo hi = false := by simp [inF, b]
      rw [hp]; clear hp
      go_enter Tryd.func22, Tryd.ntmps22
      go_wp2
      go_ret
      exact ⟨rfl, rfl⟩
  · have hp : inF n lo hi = false := by simp [inF, a]
    rw [hp]; clear hp
    go_enter Tryd.func22, Tryd.ntmps22
    go_wp2
    go_ret
    exact ⟨rfl, rfl⟩

theorem vB_gcd {t b : Int} (a1 : -1000000000 ≤ t) (a2 : t ≤ 1000000000) (a3 : 1 ≤ b) (a4 : b ≤ 1000000) : vB t b = (((Int.gcd t b : Nat) : Int) == 1) := by
  rw [Bool.eq_iff_iff, vB_iff]; simp [a1, a2, a3, a4]; omega

theorem vB_no {t b : Int} (h : inF t (-1000000000) 1000000000 = false ∨ inF b 1 1000000 = false) : vB t b = false := by
  rw [Bool.eq_false_iff]; intro hv; rw [vB_iff] at hv
  simp [inF] at h; omega

set_option maxHeartbeats 1000000 in
theorem valid_spec (t b : Int) (w : World) :
    Calls Tryd.prog 11 #[.agg #[.int .i64 t, .int .i64 b]] w fun e w' => e = .returned (.bool (vB t b)) ∧ Below w.heap.size w w' := by
  by_cases h1 : inF t (-1000000000) 1000000000 = true
  · by_cases h2 : inF b 1 1000000 = true
    · have b1 := h1; have b2 := h2
      simp only [inF, Bool.and_eq_true, decide_eq_true_eq] at b1 b2
      rw [vB_gcd b1.1 b1.2 b2.1 b2.2]
      obtain ⟨b11, b12⟩ := b1; obtain ⟨b21, b22⟩ := b2
      go_enter Tryd.func11, Tryd.ntmps11
      go_wp2_with (first
        | (go_at_call 22; refine (l1In_f _ _ _ _).mono ?_; rintro e w' ⟨rfl, rfl⟩)
        | (go_at_call 23; refine (gcd_spec _ _ _ (by omega) (by omega)).mono ?_; rintro e w' ⟨rfl, rfl⟩))
      go_ret
      exact ⟨rfl, (Below.refl _ _).alloc (Nat.le_refl _) _⟩
    · have h2' := Bool.eq_false_iff.mpr h2
      rw [vB_no (.inr h2')]; clear h2
      go_enter Tryd.func11, Tryd.ntmps11
      go_wp2_with (first
        | (go_at_call 22; refine (l1In_f _ _ _ _).mono ?_; rintro e w' ⟨rfl, rfl⟩))
      go_ret
      exact ⟨rfl, (Below.refl _ _).alloc (Nat.le_refl _) _⟩
  · have h1' := Bool.eq_false_iff.mpr h1
    rw [vB_no (.inl h1')]; clear h1
    go_enter Tryd.func11, Tryd.ntmps11
    go_wp2_with (first
      | (go_at_call 22; refine (l1In_f _ _ _ _).mono ?_; rintro e w' ⟨rfl, rfl⟩))
    go_ret
    exact ⟨rfl, (Below.refl _ _).alloc (Nat.le_refl _) _⟩

theorem drew_below {B : Nat} {a w : World} (h : Below B a w) (n : Nat) : Below B a (w.drewN n) := h.trans ⟨rfl, rfl, rfl, Nat.le_refl _, fun _ _ => rfl⟩

set_option maxHeartbeats 2000000 in
theorem valid_method (t b : Int) (w : World) :
    Calls Tryd.prog 18 #[.agg #[.int .i64 t, .int .i64 b]] w fun e w' => e = .returned (.bool (vB t b)) ∧ Below w.heap.size w w' := by
  by_cases a1 : -1000000000 ≤ t
  · by_cases a2 : t ≤ 1000000000
    · by_cases a3 : 1 ≤ b
      · by_cases a4 : b ≤ 1000000
        · rw [vB_gcd a1 a2 a3 a4]
          obtain ⟨m, rfl⟩ := Int.eq_ofNat_of_zero_le (show 0 ≤ b by omega)
          have hgg : (Int.gcd t (m : Int) : Nat) = Nat.gcd t.natAbs m := rfl
          rw [hgg]
          clear hgg
          go_enter Tryd.func18, Tryd.ntmps18
          go_wp2
          go_quiet (first
            | (go_at_call 33; exact Calls.quiet_of_same ((size_any _ _ (by omega) (by omega)).mono fun e w' h => ⟨h.1, h.2.symm⟩))
            | (go_at_call 32; exact Calls.quiet_of (gcd_impl _ _ _ (by omega) (by omega))))
          go_wp2
          go_ret
          exact ⟨rfl, drew_below ((Below.refl _ _).alloc (Nat.le_refl _) _) _⟩
        · have hv : vB t b = false := by rw [Bool.eq_false_iff]; intro hv; rw [vB_iff] at hv; omega
          rw [hv]; clear hv
          have hd : decide (b ≤ 1000000) = false := by simpa using a4
          go_enter Tryd.func18, Tryd.ntmps18
          go_wp2
          go_quiet (fail)
          go_wp2
          go_ret
          exact ⟨rfl, drew_below ((Below.refl _ _).alloc (Nat.le_refl _) _) _⟩
      · have hv : vB t b = false := by rw [Bool.eq_false_iff]; intro hv; rw [vB_iff] at hv; omega
        rw [hv]; clear hv
        have hd : decide (1 ≤ b) = false := by simpa using a3
        go_enter Tryd.func18, Tryd.ntmps18
        go_wp2
        go_quiet (fail)
        go_wp2
        go_ret
        exact ⟨rfl, drew_below ((Below.refl _ _).alloc (Nat.le_refl _) _) _⟩
    · have hv : vB t b = false := by rw [Bool.eq_false_iff]; intro hv; rw [vB_iff] at hv; omega
      rw [hv]; clear hv
      have hd : decide (t ≤ 1000000000) = false := by simpa using a2
      go_enter Tryd.func18, Tryd.ntmps18
      go_wp2
      go_quiet (fail)
      go_wp2
      go_ret
      exact ⟨rfl, drew_below ((Below.refl _ _).alloc (Nat.le_refl _) _) _⟩
  · have hv : vB t b = false := by rw [Bool.eq_false_iff]; intro hv; rw [vB_iff] at hv; omega
    rw [hv]; clear hv
    have hd : decide (-1000000000 ≤ t) = false := by simpa using a1
    go_enter Tryd.func18, Tryd.ntmps18
    go_wp2
    go_quiet (fail)
    go_wp2
    go_ret
    exact ⟨rfl, drew_below ((Below.refl _ _).alloc (Nat.le_refl _) _) _⟩

end Go.Proofs.YtpgbfagacpondaaDoor
