/-
  Contracts of chapter 2's functions: divisors and validity, impl's and spec's.
-/
import Derived.Test.YtpgbfagacpondaaDoorRows
import Derived.Test.YtpgbfagacpondaaDoorFracPlain
import Derived.WalkKit
import Derived.WalkSpells
import Derived.Lib.Hide
import Derived.IntWalk
import Derived.BigQuiet
import Derived.Deep.QuietTactic
import Derived.Below
namespace Go.Proofs.YtpgbfagacpondaaDoor
open Go.RowKit
set_option linter.unusedVariables false

theorem ret_int {k : IntKind} {a b : Int} (h : a = b) : Ending.returned (.int k a) = .returned (.int k b) := by rw [h]
theorem ret_b {a b : Bool} (h : a = b) : Ending.returned (.bool a) = .returned (.bool b) := by rw [h]

set_option maxHeartbeats 1000000 in
theorem gcd_impl (a b : Nat) (w : World) (ha : a < 4611686018427387904) (hb : b < 4611686018427387904) :
    Calls Tryd.prog 32 #[.int .i64 a, .int .i64 b] w fun e w' => e = .returned (.int .i64 (Nat.gcd a b : Nat)) ∧ ∃ n, w' = w.drewN n := by
  go_enter Tryd.func32, Tryd.ntmps32
  go_wp2
  go_loopw [0, 1] (fun u v wr => ∃ x y : Nat, u = .int .i64 x ∧ v = .int .i64 y ∧ x < 4611686018427387904 ∧ y < 4611686018427387904 ∧ Nat.gcd x y = Nat.gcd a b ∧ ∃ n, wr = w.drewN n) (fun _ v _ => (intOf v).toNat)
  case atStart => exact ⟨a, b, rfl, rfl, ha, hb, rfl, 0, rfl⟩
  case round =>
    obtain ⟨x, y, rfl, rfl, hx, hy, hg, n, rfl⟩ := hrel
    have HG := Lib.hid hg; clear hg
    by_cases h0 : y = 0
    · subst h0
      go_wp2
      go_ret
      exact ⟨ret_int (by rw [← HG.out, Nat.gcd_zero_right]), n, rfl⟩
    · have hne : ((y : Int) != 0) = true := by simp; omega
      have hne' : ((y : Int) == 0) = false := by simp; omega
      have e1 : (x : Int).tmod y = ((x % y : Nat) : Int) := by rw [Int.tmod_eq_emod_of_nonneg (by omega), Int.natCast_emod]
      have hm : x % y < y := Nat.mod_lt _ (by omega)
      have hgm : Nat.gcd y (x % y) = Nat.gcd x y := by rw [Nat.gcd_comm x y, Nat.gcd_rec y x, Nat.gcd_comm]
      have HM := Lib.hid hgm; clear hgm
      go_wp2
      go_quiet (fail)
      go_wp2
      go_roundw
      case rel => exact ⟨y, x % y, rfl, by first | rfl | (rw [← e1]), hy, by omega, by rw [HM.out, HG.out], n + nq, by rw [World.drewN_drewN]⟩
      case measure => simp [intOf]; omega

set_option maxHeartbeats 1000000 in
theorem gcd_spec (a b : Int) (w : World) (ha : a.natAbs < 4611686018427387904) (hb : b.natAbs < 4611686018427387904) :
    Calls Tryd.prog 23 #[.int .i64 a, .int .i64 b] w fun e w' => e = .returned (.int .i64 (Int.gcd a b : Nat)) ∧ w = w' := by
  go_enter Tryd.func23, Tryd.ntmps23
  go_wp2
  go_loop [0, 1, 5] (fun u v _ => ∃ x y : Int, u = .int .i64 x ∧ v = .int .i64 y ∧ x.natAbs < 4611686018427387904 ∧ y.natAbs < 4611686018427387904 ∧ Int.gcd x y = Int.gcd a b) (fun _ v _ => (intOf v).natAbs)
  case atStart => exact ⟨a, b, rfl, rfl, ha, hb, rfl⟩
  case round =>
    obtain ⟨x, y, rfl, rfl, hx, hy, hg⟩ := hrel
    have HG := Lib.hid hg; clear hg
    have hx0 : -4611686018427387904 ≤ x := by omega
    have hx1 : x ≤ 4611686018427387904 := by omega
    by_cases h0 : y = 0
    · subst h0
      have hgx : Int.gcd x 0 = x.natAbs := by simp [Int.gcd]
      have HX := Lib.hid hgx; clear hgx
      by_cases hs : 0 ≤ x
      · go_wp2
        go_ret
        exact ⟨ret_int (by rw [← HG.out, HX.out]; omega), rfl⟩
      · go_wp2
        go_ret
        exact ⟨ret_int (by rw [← HG.out, HX.out]; omega), rfl⟩
    · have hne : (y != 0) = true := by simp; omega
      have hne' : (y == 0) = false := by simp; omega
      have hm : (x.tmod y).natAbs < y.natAbs := by rw [Int.natAbs_tmod]; exact Nat.mod_lt _ (by omega)
      have hgm : Int.gcd y (x.tmod y) = Int.gcd x y := by
        unfold Int.gcd; rw [Int.natAbs_tmod, Nat.gcd_comm x.natAbs, Nat.gcd_rec y.natAbs x.natAbs, Nat.gcd_comm]
      have HM := Lib.hid hgm; clear hgm
      have HMM := Lib.hid hm; clear hm
      go_wp2
      go_round
      case rel => exact ⟨y, x.tmod y, rfl, rfl, hy, by have := HMM.out; omega, by rw [HM.out, HG.out]⟩
      case measure => simp only [intOf]; exact HMM.out

set_option maxHeartbeats 400000 in
theorem size_any (n : Int) (w : World) (h0 : -4611686018427387904 ≤ n) (h1 : n ≤ 4611686018427387904) :
    Calls Tryd.prog 33 #[.int .i64 n] w fun e w' => e = .returned (.int .i64 (n.natAbs : Nat)) ∧ w = w' := by
  by_cases h : n < 0
  · go_enter Tryd.func33, Tryd.ntmps33
    go_wp2
    go_ret
    exact ⟨ret_int (by omega), rfl⟩
  · go_enter Tryd.func33, Tryd.ntmps33
    go_wp2
    go_ret
    exact ⟨ret_int (by omega), rfl⟩

end Go.Proofs.YtpgbfagacpondaaDoor
