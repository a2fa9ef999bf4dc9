/- Part of the proof of FnExactEvaluate. -/
import Derived.Test.YtpcaciogglllbaaGreatDoorQEvI1
import Derived.Test.YtpcaciogglllbaaGreatDoorQNumI
import Derived.Test.YtpcaciogglllbaaGreatDoorQConcI
import Derived.Test.YtpcaciogglllbaaGreatDoorQFu2
namespace Go.Proofs.YtpcaciogglllbaaGreatDoor
open Go.RowKit
set_option linter.unusedVariables false

theorem RowV.of_ownG {w : World} {base n : Nat} {v : Value} {us : List Value} (h : w.ownsRow base 70 1 v n us) {S : Nat → Prop} (hS : Hi base S) : RowV w S v us := by
  have hl : n = us.length := by have := h.1; omega
  subst hl
  rcases h.2 with ⟨rfl, h0⟩ | ⟨g, cap, cur, rfl, _⟩
  · exact ⟨none, 0, by rw [h0], by omega, by unfold maxLen; omega, .inl (List.length_eq_zero_iff.mp h0)⟩
  · exact (RowV.of_own h hS).1
noncomputable def unaO (word : ByteArray) (o : Option (List Cl)) : Option (List Cl) := match o with
  | some v => if word.data.toList = [33] ∧ kdV v = 3 then some (truV (falseW v)) else if word.data.toList = [45] ∧ kdV v = 1 then some (numV (-aT v) (aB v)) else none
  | none => none
theorem unaO_no {word : ByteArray} {v : List Cl} (h3 : word.data.toList = [33] → kdV v ≠ 3) (h1 : word.data.toList = [45] → kdV v ≠ 1) : unaO word (some v) = none := by
  rw [unaO]
  show (if _ then _ else if _ then _ else none) = none
  rw [if_neg (fun h => h3 h.1 h.2), if_neg (fun h => h1 h.1 h.2)]
theorem unaO_not {word : ByteArray} (b : Bool) (h : word.data.toList = [33]) : unaO word (some (truV b)) = some (truV (!b)) := by
  show (if _ then _ else if _ then _ else none) = _
  rw [if_pos ⟨h, rfl⟩]
  cases b <;> rfl
theorem unaO_neg {word : ByteArray} (s : ByteArray) (h : word.data.toList = [45]) : unaO word (some [(1, s, 0)]) = some (numV (-rdT s) (rdB s)) := by
  show (if _ then _ else if _ then _ else none) = _
  rw [if_neg (fun k => by rw [h] at k; cases k.1), if_pos ⟨h, rfl⟩]; rfl

set_option maxRecDepth 100000 in
set_option maxHeartbeats 4000000 in
theorem unary_nil {S : Nat → Prop} (s : ByteArray) (w : World) : Calls Tryz.prog 112 #[.string s, .nilIface] w (Res S (unaO s none) w) := by
  have t1 := taB_nil
  have t2 := taN_nil
  go_enter Tryz.func112, Tryz.ntmps112
  go_wp2
  go_ret
  exact Res.nil (Below.refl _ _) rfl

set_option maxRecDepth 100000 in
set_option maxHeartbeats 4000000 in
theorem unary_any {S : Nat → Prop} (s : ByteArray) (u : Value) (p : List Cl) (w : World) (hv : VlS w S [u] [p]) (hok : okV p = true) (htab : Tab w) :
    Calls Tryz.prog 112 #[.string s, u] w (Res S (unaO s (some p)) w) := by
  have hl : s.toList = s.data.toList := ByteArray.toList_eq ..
  have HL := Lib.hid hl
  rcases hv.one hok with ⟨t, ht, rfl, rfl⟩ | ⟨t, ht, rfl, rfl⟩ | ⟨b, rfl, rfl⟩ | ⟨v, us, ps, rfl, rfl, -⟩
  · have t1 := fun w => taB_num (.agg #[.int .i64 (rdT t), .int .i64 (rdB t)]) w
    have t2 := fun w => taN_num (.agg #[.int .i64 (rdT t), .int .i64 (rdB t)]) w
    have hbd := vB_bd (rd_valid _ ht)
    have hnum := conc_num
    have HT := Lib.hid htab
    have HB0 := Lib.hid ((Below.refl w.heap.size w).alloc (Nat.le_refl _) (.cells #[.int .i64 (rdT t), .int .i64 (rdB t)] 154))
    by_cases hs : s.toList = [45]
    · have HN := Lib.hid (unaO_neg t (hl.symm.trans hs))
      have HV := Lib.hid (vBE_neg (rd_valid _ ht))
      obtain ⟨b1, b2, b3, b4⟩ := hbd
      clear hv hok ht hl htab
      generalize rdT t = x at *
      generalize rdB t = y at *
      go_enter Tryz.func112, Tryz.ntmps112
      go_wp2_with fail
      refine (opposite_any x y _ (by omega) (by omega)).mono ?_
      rintro e w1 ⟨rfl, hb1⟩
      have HB1 := Lib.hid (HB0.out.trans (hb1.mono HB0.out.size)); clear hb1
      go_wp2
      go_ret
      exact Res.num HB1.out (HT.out.keep HB1.out) HV.out HN.out
    · have hsb : (s.toList == [45]) = false := beq_eq_false_iff_ne.mpr hs
      have HN := Lib.hid (show unaO s (some [(1, t, 0)]) = none from unaO_no (fun _ => (show (1 : Int) ≠ 3 by decide)) (fun h => absurd (HL.out.trans h) hs))
      clear hv hok ht hl htab hs hbd
      generalize rdT t = x at *
      generalize rdB t = y at *
      go_enter Tryz.func112, Tryz.ntmps112
      go_wp2
      go_ret
      exact Res.nil HB0.out HN.out
  · have t1 := fun w => taB_text (.string t) w
    have t2 := fun w => taN_text (.string t) w
    have HN := Lib.hid (show unaO s (some [(2, t, 0)]) = none from unaO_no (fun _ => (show (2 : Int) ≠ 3 by decide)) (fun _ => (show (2 : Int) ≠ 1 by decide)))
    clear hv hok ht hl htab
    go_enter Tryz.func112, Tryz.ntmps112
    go_wp2
    go_ret
    exact Res.nil (Below.refl _ _) HN.out
  · have t1 := fun w => taB_truth (.bool b) w
    have t2 := fun w => taN_truth (.bool b) w
    have htru := conc_truth
    have HT := Lib.hid htab
    by_cases hs : s.toList = [33]
    · have HN := Lib.hid (unaO_not b (hl.symm.trans hs))
      clear hv hok hl htab
      go_enter Tryz.func112, Tryz.ntmps112
      go_wp2
      go_ret
      exact Res.tru (Below.refl _ _) HT.out _ HN.out
    · have hsb : (s.toList == [33]) = false := beq_eq_false_iff_ne.mpr hs
      have HN := Lib.hid (show unaO s (some (truV b)) = none from unaO_no (fun h => absurd (HL.out.trans h) hs) (fun _ => (show (3 : Int) ≠ 1 by decide)))
      clear hv hok hl htab hs
      go_enter Tryz.func112, Tryz.ntmps112
      go_wp2
      go_ret
      exact Res.nil (Below.refl _ _) HN.out
  · have t1 := fun w => taB_list v w
    have t2 := fun w => taN_list v w
    have HN := Lib.hid (show unaO s (some (listV ps)) = none from unaO_no (fun _ => (show (5 : Int) ≠ 3 by decide)) (fun _ => (show (5 : Int) ≠ 1 by decide)))
    clear hv hok hl htab
    go_enter Tryz.func112, Tryz.ntmps112
    go_wp2
    go_ret
    exact Res.nil (Below.refl _ _) HN.out

end Go.Proofs.YtpcaciogglllbaaGreatDoor
