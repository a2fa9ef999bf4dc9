/-
  spec.ExprDepth, by its contract.
-/
import Derived.Test.YtjkeiniienkkiaaGreatDoorBaseI
namespace Go.Proofs.YtjkeiniienkkiaaGreatDoor
open Go.RowKit
set_option linter.unusedVariables false

/-- The depth that is answered. -/
noncomputable def depS (l : List Cl) : Int := if okE l = true then (depE (amL l) 0 : Int) else -1

set_option maxRecDepth 100000 in
set_option maxHeartbeats 4000000 in
theorem exprDepth_spec (v : Value) (l : List Cl) (w : World) (hr : RowC w v l) (hz : ShortC l) (hl : l.length ≤ 1048576) :
    Calls Tryz.prog 29 #[v] w fun e w' => e = .returned (.int .i64 (depS l)) ∧ Below w.heap.size w w' := by
  have HC := Lib.hid (exprValid_spec v l w hr hz hl)
  have HR := Lib.hid hr
  obtain ⟨ao, cap, rfl, h1, h2, h3⟩ := hr
  unfold maxLen at h2
  clear h3 hz
  cases hok : okE l with
  | true =>
    obtain ⟨h60, hal, d, hd, hx⟩ := (okE_iff l).mp hok
    have HD := Lib.hid (show depS l = (d : Int) by rw [depS, if_pos hok, hx.depE])
    have HOK := Lib.hid hok; have HX := Lib.hid hx; have HAL := Lib.hid hal
    rw [HD.out]
    clear hok hx hal
    go_enter Tryz.func29, Tryz.ntmps29
    go_wp2_with fail
    refine HC.out.mono ?_
    rintro e w1 ⟨rfl, hb1⟩
    have HB := Lib.hid hb1; clear hb1
    rw [HOK.out]
    go_wp2_with fail
    refine (l5Depth_any _ l h60 (allM_of HAL.out) l.length 0 l.length d _ HX.out (by omega) (HR.out.mono HB.out)).mono ?_
    rintro e w2 ⟨rfl, hb2⟩
    have HB2 := Lib.hid (HB.out.trans (hb2.mono HB.out.size)); clear hb2
    go_wp2
    go_ret
    exact ⟨rfl, HB2.out⟩
  | false =>
    have HD := Lib.hid (show depS l = -1 by rw [depS, hok]; rfl)
    have HOK := Lib.hid hok
    rw [HD.out]
    clear hok
    go_enter Tryz.func29, Tryz.ntmps29
    go_wp2_with fail
    refine HC.out.mono ?_
    rintro e w1 ⟨rfl, hb1⟩
    have HB := Lib.hid hb1; clear hb1
    rw [HOK.out]
    go_wp2
    go_ret
    exact ⟨rfl, HB.out⟩

end Go.Proofs.YtjkeiniienkkiaaGreatDoor
