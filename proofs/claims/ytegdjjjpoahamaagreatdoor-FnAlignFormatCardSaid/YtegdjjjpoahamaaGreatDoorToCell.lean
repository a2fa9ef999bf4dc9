/-
  laws.szCell, toCell, eqCell, and the same for slices: szCellS, toCellS, eqCellS.
-/
import Derived.Test.YtegdjjjpoahamaaGreatDoorOpenCells
import Derived.Test.YtegdjjjpoahamaaGreatDoorBaseA
import Derived.Deep.RegionHeld3
import Derived.RegionTactic
import Derived.Deep.DrawnRows
import Derived.Laws.OwnMore
import Derived.Laws.Rows
set_option linter.unusedVariables false
set_option maxHeartbeats 2000000
set_option maxRecDepth 100000
namespace Go.Proofs.YtegdjjjpoahamaaGreatDoor
open Go.RowKit
theorem szCell_any (k m:Int) (s:ByteArray) (n:Int) (w:World) (hs:s.size≤maxLen) (hn0:0≤n) (hn1:n≤1048576):
  Calls Tryz.prog 145 #[.agg #[.int .i64 k, .string s, .int .i64 m], .int .i64 n] w fun e w'=>e= .returned (.int .i64 (if (s.size:Int)≤n then n-s.size else-1))∧Below w.heap.size w w':=by
 unfold maxLen at hs
 by_cases h:(s.size:Int)≤n
 ·rw [if_pos h]
  go_enter Tryz.func145,Tryz.ntmps145
  go_wp2
  go_ret
  exact ⟨rfl,(Below.refl _ _).alloc (Nat.le_refl _) _⟩
 ·rw [if_neg h]
  go_enter Tryz.func145,Tryz.ntmps145
  go_wp2
  go_ret
  exact ⟨rfl,(Below.refl _ _).alloc (Nat.le_refl _) _⟩
theorem toCell_any (k m:Int) (s:ByteArray) (w:World):
  Calls Tryz.prog 146 #[.agg #[.int .i64 k, .string s, .int .i64 m]] w fun e w'=>e= .returned (.agg #[.int .i64 k, .string s, .int .i64 m])∧Below w.heap.size w w':=by
 go_enter Tryz.func146,Tryz.ntmps146
 go_wp2
 exact bodyPost_ret (v:= .agg #[.int .i64 k, .string s, .int .i64 m]) (by simp [results,Tryz.results146,go_sem]) rfl ⟨rfl,by (repeat' (first|exact Below.refl _ _|refine Below.setCell ?_ ?_ _|refine Below.alloc ?_ ?_ _))<;>first|exact Nat.le_refl _|(simp;done)|(simp;omega)⟩
end Go.Proofs.YtegdjjjpoahamaaGreatDoor
