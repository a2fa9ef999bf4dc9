/-
  spec.DrawDepthsOf returns items of one's own.
-/
import Derived.Test.YtbmobgahokehmaaGreatDoorDrawDoc
import Derived.Test.YtbmobgahokehmaaGreatDoorBaseD
namespace Go.Proofs.YtbmobgahokehmaaGreatDoor
open Go.RowKit
set_option linter.unusedVariables false

set_option maxRecDepth 100000 in
set_option maxHeartbeats 4000000 in
theorem drawDepthsOf_any (a : Option Addr) (len cap : Nat) (w : World) (h : CodeRow w a len cap) :
    Calls Tryz.prog 19 #[.slice a len cap] w fun e w' => ∃ (v : Value) (us : List Value) (l : List It), e = .returned v ∧ OwnG w' w.heap.size v us l ∧ (∀ i ∈ l, FewI i) ∧ l.length ≤ 41 ∧ Below w.heap.size w w' := by
  have HO := Lib.hid (open_codes a len cap _ h)
  clear h
  go_enter Tryz.func19, Tryz.ntmps19
  go_wp2_with fail
  refine HO.out.mono ?_
  rintro e w1 ⟨rfl, hr1, hb1, hs1⟩
  have HB := Lib.hid hb1; have HR1 := Lib.hid hr1
  clear hb1 hs1 hr1
  go_wp2_with fail
  refine (document_any w.heap.size 0 6 _ (by omega) (by omega) (by omega) HR1.out).mono ?_
  rintro e w2 ⟨v, us, l, rfl, ho, hf, hl, hr2, hg2⟩
  obtain ⟨g, c, rfl⟩ := ho.is
  have HO2 := Lib.hid (ho.lower HB.out.size); have HF := Lib.hid hf; have HL := Lib.hid hl
  have HB2 := Lib.hid (HB.out.trans (grown_below hg2 HB.out.size (Nat.le_refl _)))
  clear ho hf hl hr2 hg2
  go_wp2
  go_ret
  exact ⟨_, us, l, rfl, HO2.out, HF.out, HL.out, HB2.out⟩

end Go.Proofs.YtbmobgahokehmaaGreatDoor
