/-
  impl.valueCells, by its contract, at a value whose appendTo is known.
-/
import Derived.Test.YtpcaciogglllbaaGreatDoorFunD
namespace Go.Proofs.YtpcaciogglllbaaGreatDoor
open Go.RowKit
set_option linter.unusedVariables false

/-- Cells, if they are a value. -/
noncomputable def okR (r : List Cl) : List Cl := if okV r = true then r else []
theorem okR_yes {r : List Cl} (h : okV r = true) : okR r = r := if_pos h
theorem okR_no {r : List Cl} (h : okV r = false) : okR r = [] := if_neg (by rw [h]; decide)

set_option maxRecDepth 100000 in
set_option maxHeartbeats 4000000 in
/-- valueCells, at a value whose appendTo appends these cells. -/
theorem valueCells_app (u : Value) (r : List Cl) (w : World) (happ : AppOK w u r) (hz : ShortC r) (hlen : r.length ≤ 1000) (htab : Tab w) :
    Calls Tryz.prog 77 #[u] w fun e w' => ∃ v, e = .returned (.tuple #[v, .bool (okV r)]) ∧ w'.ownsRow w.heap.size 44 3 v (okR r).length (flatC (okR r)) ∧ Below w.heap.size w w' := by
  obtain ⟨T, x', K, rfl, hm, heK, hK⟩ := happ
  have HK := Lib.hid (hK w w.heap.size (.slice none 0 0) [] (Below.refl _ _) (Nat.le_refl _) (Nat.le_refl _) (World.ownsRow_nil _ _ _ _) (by simp; omega))
  have HZ := Lib.hid hz
  clear hK hz
  cases hok : okV r with
  | true =>
    have HOK := Lib.hid hok
    have HRR := Lib.hid (okR_yes hok)
    clear hok
    go_enter Tryz.func77, Tryz.ntmps77
    go_wp2_with fail
    refine HK.out.mono ?_
    rintro e w1 ⟨v1, rfl, ho1, hb1, hs1⟩
    have HO1 := Lib.hid (show w1.ownsRow w.heap.size 44 3 v1 r.length (flatC r) by simpa using ho1)
    have HB1 := Lib.hid hb1
    clear ho1 hb1
    go_wp2_with fail
    refine (valueValid_impl v1 r _ (RowC.of_own HO1.out).1 HZ.out (htab.keep HB1.out)).mono ?_
    rintro e w2 ⟨rfl, hb2⟩
    rw [HOK.out]
    have HO2 := Lib.hid (own_belowA HO1.out hb2)
    have HB2 := Lib.hid (HB1.out.trans (hb2.mono HB1.out.size)); clear hb2
    go_wp2
    exact bodyPost_ret (v := .tuple #[v1, .bool true]) (by simp [results, Tryz.results77, go_sem]) rfl ⟨v1, rfl, by rw [HRR.out]; exact HO2.out, HB2.out⟩
  | false =>
    have HOK := Lib.hid hok
    have HRR := Lib.hid (okR_no hok)
    clear hok
    go_enter Tryz.func77, Tryz.ntmps77
    go_wp2_with fail
    refine HK.out.mono ?_
    rintro e w1 ⟨v1, rfl, ho1, hb1, hs1⟩
    have HO1 := Lib.hid (show w1.ownsRow w.heap.size 44 3 v1 r.length (flatC r) by simpa using ho1)
    have HB1 := Lib.hid hb1
    clear ho1 hb1
    go_wp2_with fail
    refine (valueValid_impl v1 r _ (RowC.of_own HO1.out).1 HZ.out (htab.keep HB1.out)).mono ?_
    rintro e w2 ⟨rfl, hb2⟩
    rw [HOK.out]
    have HB2 := Lib.hid (HB1.out.trans (hb2.mono HB1.out.size)); clear hb2
    go_wp2
    exact bodyPost_ret (v := .tuple #[.slice none 0 0, .bool false]) (by simp [results, Tryz.results77, go_sem]) rfl ⟨_, rfl, by rw [HRR.out]; exact World.ownsRow_nil _ _ _ _, HB2.out⟩

theorem eqlIf (T : TypeId) (x : Value) (w : World) : (binOp BinOp.eql 70 (.iface T x) .nilIface).run Tryz.prog w = .ok (.bool false) w := by kernel_rfl
theorem eqlNo (w : World) : (binOp BinOp.eql 70 .nilIface .nilIface).run Tryz.prog w = .ok (.bool true) w := by kernel_rfl
theorem newCB_nil (w w' : World) (hb : Below w.heap.size w w') : NewCB [] false w (.returned (.tuple #[.slice none 0 0, .bool false])) w' :=
  ⟨_, rfl, World.ownsRow_nil _ _ _ _, hb⟩

end Go.Proofs.YtpcaciogglllbaaGreatDoor
