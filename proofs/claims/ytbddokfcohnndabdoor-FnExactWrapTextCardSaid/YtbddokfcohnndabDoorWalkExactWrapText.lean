/-
  The walk of laws.FnExactWrapText.
-/
import Derived.Test.YtbddokfcohnndabDoorWrapTI
import Derived.Test.YtbddokfcohnndabDoorWrapTS
import Derived.Test.YtbddokfcohnndabDoorEqStringS
import Derived.Test.YtbddokfcohnndabDoorHeldS
namespace Go.Proofs.YtbddokfcohnndabDoor
open Go.RowKit
set_option linter.unusedVariables false

theorem wrapTB_len (s : ByteArray) (x : Int) : (wrapTB s x).length ≤ 20 := by
  rw [wrapTB_is, linesT_len]
  exact wlB_len _ x

set_option maxRecDepth 100000 in
set_option maxHeartbeats 2000000 in
theorem fnExactWrapText_core (a0 : ByteArray) (a1 : Int) (w : World) (hs : a0.size ≤ maxLen) (ht : TabS w) :
    Calls Tryd.prog 3 #[.string a0, .int .i64 a1] w fun e w' => e = .returned (.bool true) ∧ Below w.heap.size w w' := by
  have hm := hs
  have HT := Lib.hid ht
  clear ht
  unfold maxLen at hm
  by_cases hl : a0.size ≤ 1048576
  · have hll := wrapTB_len a0 a1
    go_enter Tryd.func3, Tryd.ntmps3
    go_wp2_with fail
    refine (wrapText_spec a0 a1 _ hs).mono ?_
    rintro e w1 ⟨v1, rfl, hown1, hb1⟩
    have R1 := Lib.hid (RowOf.of_own hown1); have B1 := Lib.hid hb1
    clear hown1 hb1
    go_wp2_with fail
    refine (wrapText_impl a0 a1 _ hs (HT.out.keep B1.out)).mono ?_
    rintro e w2 ⟨v2, rfl, hown2, hb2⟩
    have O2 := Lib.hid hown2; have C2 := Lib.hid hb2
    clear hown2 hb2
    go_wp2_with fail
    refine (eqStringS_any v2 v1 _ _ _ (RowOf.of_own O2.out) (R1.out.mono C2.out)).mono ?_
    rintro e w3 ⟨rfl, n3, hw3⟩
    have O3 := Lib.hid (show w3.ownsRow w1.heap.size 9 1 v2 (wrapTB a0 a1).length (strs (wrapTB a0 a1)) by rw [hw3]; exact O2.out)
    have C3 := Lib.hid (show Below w1.heap.size w1 w3 by rw [hw3]; exact C2.out.trans ⟨rfl, rfl, rfl, Nat.le_refl _, fun _ _ => rfl⟩)
    clear hw3 O2 C2
    rw [show decide (wrapTB a0 a1 = wrapTB a0 a1) = true by simp]
    go_wp2_with fail
    refine (markStringS_own w1.heap.size 1 _ v2 _ _ (by omega) (by omega) O3.out).mono ?_
    rintro e w4 ⟨rfl, hown4, hg4⟩
    have R4 := Lib.hid (RowOf.of_own hown4)
    have C4 := Lib.hid (C3.out.grown hg4 C3.out.size (fun q hq => (O3.out.lt q hq).1))
    clear hown4 hg4 O3 C3
    go_wp2_with fail
    refine (heldStringS_any 1 _ v2 _ (by omega) (by omega) R4.out).mono ?_
    rintro e w5 ⟨rfl, hb5⟩
    have R5 := Lib.hid (R4.out.mono hb5)
    have C5 := Lib.hid (C4.out.trans (hb5.mono C4.out.size))
    clear hb5 R4 C4
    generalize hN : (wrapTB a0 a1).length = N at hll R5 ⊢
    have HN := Lib.hid hN; clear hN
    go_wp2_with fail
    refine (wrapText_impl a0 a1 _ hs (HT.out.keep (B1.out.trans (C5.out.mono B1.out.size)))).mono ?_
    rintro e w6 ⟨v6, rfl, hown6, hb6⟩
    have R6 := Lib.hid (R5.out.mono hb6)
    have C6 := Lib.hid (C5.out.trans (hb6.mono C5.out.size))
    have S6 := Lib.hid (RowOf.of_own hown6)
    clear hown6 hb6 R5 C5
    go_wp2_with fail
    refine (eqStringS_any v6 v1 _ _ _ S6.out (R1.out.mono C6.out)).mono ?_
    rintro e w7 ⟨rfl, n7, hw7⟩
    have R7 := Lib.hid (show RowOf w7 v2 (marks 1 N) by rw [hw7]; exact R6.out.drewN _)
    have C7 := Lib.hid (show Below w1.heap.size w1 w7 by rw [hw7]; exact C6.out.trans ⟨rfl, rfl, rfl, Nat.le_refl _, fun _ _ => rfl⟩)
    clear hw7 R6 C6 S6
    rw [show decide (wrapTB a0 a1 = wrapTB a0 a1) = true by simp]
    go_wp2_with fail
    refine (heldStringS_any 1 _ v2 _ (by omega) (by omega) R7.out).mono ?_
    rintro e w8 ⟨rfl, hb8⟩
    have C8 := Lib.hid (B1.out.trans ((C7.out.trans (hb8.mono C7.out.size)).mono B1.out.size))
    clear hb8 R7 C7
    go_wp2
    go_ret
    exact ⟨rfl, C8.out⟩
  · go_enter Tryd.func3, Tryd.ntmps3
    go_wp2
    go_ret
    exact ⟨rfl, Below.refl _ _⟩

end Go.Proofs.YtbddokfcohnndabDoor
