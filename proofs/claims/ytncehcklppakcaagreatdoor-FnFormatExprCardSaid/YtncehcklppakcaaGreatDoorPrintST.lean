/-
  spec.ExprText, by its contract.
-/
import Derived.Test.YtncehcklppakcaaGreatDoorPrintS
namespace Go.Proofs.YtncehcklppakcaaGreatDoor
open Go.RowKit
set_option linter.unusedVariables false

set_option maxRecDepth 100000 in
set_option maxHeartbeats 4000000 in
theorem exprText_spec (v : Value) (l : List Cl) (w : World) (hr : RowC w v l) (hz : ShortC l) (hl : l.length ≤ 1048576) :
    Calls Tryz.prog 10 #[v] w fun e w' => e = .returned (.string ⟨(textE l).toArray⟩) ∧ Below w.heap.size w w' := by
  have HC := Lib.hid (exprValid_spec v l w hr hz hl)
  have HR := Lib.hid hr
  obtain ⟨ao, cap, rfl, h1, h2, h3⟩ := hr
  unfold maxLen at h2
  clear h3 hz
  cases hok : okE l with
  | true =>
    obtain ⟨x, hx⟩ := okE_tx hok
    have hoi := (okE_iff l).mp hok
    have HE := Lib.hid (textE_of hok hx)
    have HTX := Lib.hid (fun w' hr' => text_all (v := .slice ao l.length cap) hoi.1 (allW_of hoi.2.1) l.length 0 l.length x w' hx (by omega) hr')
    have HOK := Lib.hid hok
    clear hx hoi hok
    go_enter Tryz.func10, Tryz.ntmps10
    go_wp2_with fail
    refine HC.out.mono ?_
    rintro e w1 ⟨rfl, hb1⟩
    rw [HOK.out]
    have HB := Lib.hid hb1; clear hb1
    go_wp2_with fail
    refine (HTX.out _ (HR.out.mono HB.out)).mono ?_
    rintro e w2 ⟨rfl, hb2⟩
    have HB2 := Lib.hid (HB.out.trans (hb2.mono HB.out.size)); clear hb2
    go_wp2
    go_ret
    exact ⟨by rw [HE.out]; rfl, HB2.out⟩
  | false =>
    have HE := Lib.hid (textE_no hok)
    have HOK := Lib.hid hok
    clear hok
    go_enter Tryz.func10, Tryz.ntmps10
    go_wp2_with fail
    refine HC.out.mono ?_
    rintro e w1 ⟨rfl, hb1⟩
    rw [HOK.out]
    have HB := Lib.hid hb1; clear hb1
    go_wp2
    go_ret
    exact ⟨by rw [HE.out]; rfl, HB.out⟩

end Go.Proofs.YtncehcklppakcaaGreatDoor
