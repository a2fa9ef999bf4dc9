/-
  laws.szCell, toCell, eqCell, and the same for slices: szCellS, toCellS, eqCellS.
-/
import Derived.Test.YtncehcklppakcaaGreatDoorOpenCells
import Derived.Test.YtncehcklppakcaaGreatDoorBaseA
import Derived.Deep.RegionHeld3
import Derived.RegionTactic
import Derived.Deep.DrawnRows
import Derived.Laws.OwnMore
import Derived.Laws.Rows
namespace Go.Proofs.YtncehcklppakcaaGreatDoor
open Go.RowKit
set_option linter.unusedVariables false

set_option maxRecDepth 100000 in
set_option maxHeartbeats 2000000 in
theorem szCell_any (k m : Int) (s : ByteArray) (n : Int) (w : World) (hs : s.size ≤ maxLen) (hn0 : 0 ≤ n) (hn1 : n ≤ 1048576) :
    Calls Tryz.prog 29 #[.agg #[.int .i64 k, .string s, .int .i64 m], .int .i64 n] w fun e w' => e = .returned (.int .i64 (if (s.size : Int) ≤ n then n - s.size else -1)) ∧ Below w.heap.size w w' := by
  unfold maxLen at hs
  by_cases h : (s.size : Int) ≤ n
  · rw [if_pos h]
    go_enter Tryz.func29, Tryz.ntmps29
    go_wp2
    go_ret
    exact ⟨rfl, (Below.refl _ _).alloc (Nat.le_refl _) _⟩
  · rw [if_neg h]
    go_enter Tryz.func29, Tryz.ntmps29
    go_wp2
    go_ret
    exact ⟨rfl, (Below.refl _ _).alloc (Nat.le_refl _) _⟩

set_option maxRecDepth 100000 in
set_option maxHeartbeats 2000000 in
theorem toCell_any (k m : Int) (s : ByteArray) (w : World) :
    Calls Tryz.prog 31 #[.agg #[.int .i64 k, .string s, .int .i64 m]] w fun e w' => e = .returned (.agg #[.int .i64 k, .string s, .int .i64 m]) ∧ Below w.heap.size w w' := by
  go_enter Tryz.func31, Tryz.ntmps31
  go_wp2
  exact bodyPost_ret (v := .agg #[.int .i64 k, .string s, .int .i64 m]) (by simp [results, Tryz.results31, go_sem]) rfl ⟨rfl, by (repeat' (first | exact Below.refl _ _ | refine Below.setCell ?_ ?_ _ | refine Below.alloc ?_ ?_ _)) <;> first | exact Nat.le_refl _ | (simp; done) | (simp; omega)⟩

end Go.Proofs.YtncehcklppakcaaGreatDoor
