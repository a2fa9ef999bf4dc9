/-
  impl's ExprDepth, by its contract.
-/
import Derived.Test.YtjkeiniienkkiaaGreatDoorBaseX
namespace Go.Proofs.YtjkeiniienkkiaaGreatDoor
open Go.RowKit
set_option linter.unusedVariables false

/-- The depth that is answered. -/
noncomputable def depI (l : List Cl) : Int := if okE l = true then (depE (amL l) 0 : Int) else -1

set_option maxRecDepth 100000 in
set_option maxHeartbeats 4000000 in
theorem exprDepth_impl (v : Value) (l : List Cl) (w : World) (hr : RowC w v l) (hz : SizedC l) (htab : Tab w) :
    Calls Tryz.prog 14 #[v] w fun e w' => e = .returned (.int .i64 (depI l)) ∧ Below w.heap.size w w' := by
  have HC := Lib.hid (exprTree_any v l w hr hz htab)
  obtain ⟨ao, cap, rfl, h1, h2, h3⟩ := hr
  unfold maxLen at h2
  clear h3 hz
  go_enter Tryz.func14, Tryz.ntmps14
  go_wp2_with fail
  refine HC.out.mono ?_
  rintro e w1 ⟨hb1, ⟨N, d, rfl, hok, hd, ht⟩ | ⟨rfl, hno⟩⟩
  · have HD := Lib.hid (show depI l = (d : Int) by rw [depI, if_pos hok, ht.exs.depE])
    have h60 := ((okE_iff l).mp hok).1
    have HB := Lib.hid hb1; have HT := Lib.hid ht
    clear hok hb1 ht
    go_wp2_with fail
    refine (depth_any (amL l) (by rw [amL_length]; exact h60) _ _ l.length N 0 l.length d HT.out (by omega)).mono ?_
    rintro e w' ⟨rfl, rfl⟩
    go_wp2
    go_ret
    exact ⟨ret_i HD.out.symm, HB.out⟩
  · have HD := Lib.hid (show depI l = -1 by rw [depI, hno]; rfl)
    have HB := Lib.hid hb1
    clear hno hb1
    go_wp2
    go_ret
    exact ⟨ret_i HD.out.symm, HB.out⟩

end Go.Proofs.YtjkeiniienkkiaaGreatDoor
