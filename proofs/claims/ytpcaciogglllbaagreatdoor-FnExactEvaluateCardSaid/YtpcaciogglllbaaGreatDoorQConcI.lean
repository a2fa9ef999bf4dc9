/- Part of the proof of FnExactEvaluate. -/
import Derived.Test.YtpcaciogglllbaaGreatDoorQEv
import Derived.Laws.AppendOwnNone
namespace Go.Proofs.YtpcaciogglllbaaGreatDoor
open Go.RowKit
set_option linter.unusedVariables false

set_option maxRecDepth 100000 in
set_option maxHeartbeats 4000000 in
theorem grow_nil (n : Nat) (w : World) (hn : n ≤ 1000) :
    Calls Tryz.prog 194 #[.slice none 0 0, .int .i64 (n : Int)] w fun e w' => ∃ v, e = .returned v ∧ w'.ownsRow w.heap.size 70 1 v 0 [] ∧ Below w.heap.size w w' := by
  by_cases h0 : n = 0
  · subst h0
    go_enter Tryz.func194, Tryz.ntmps194
    go_wp2
    go_ret
    exact ⟨_, rfl, World.ownsRow_nil _ _ _ _, Below.refl _ _⟩
  · have hpos : (0 : Int) < (n : Int) := by omega
    have hbt : Tryz.t70.bytes = 16 := rfl
    have hnc : Builtin.nextslicecap n 0 = n := nextslicecap_zero (by omega)
    have hfit : ¬ 281474976710656 < Builtin.nextslicecap n 0 * Tryz.t70.bytes := by rw [hnc, hbt]; omega
    have hfit2 : (n : Int) * ((Tryz.t70.bytes : Nat) : Int) ≤ 281474976710656 := by rw [hbt]; omega
    have hcap : n ≤ grownCap w n 0 70 := grownCap_ge w n 0 _
    have hcm : grownCap w n 0 70 ≤ maxLen := grownCap_le_maxLen w n 0 _ (by unfold maxLen; omega)
    have hcap63 : grownCap w n 0 70 ≤ 9223372036854775807 := by unfold maxLen at hcm; exact hcm
    have HC := Lib.hid hcap; have HCM := Lib.hid hcm
    unfold grownCap at hcap hcap63
    clear hbt hnc hcm
    go_enter Tryz.func194, Tryz.ntmps194
    go_wp2
    go_ret
    refine ⟨_, rfl, ⟨by simp, .inr ⟨w.heap.size, _, _, rfl, Nat.le_refl _, heap_alloc_new w _, Nat.zero_le _, HCM.out, ?_, by simp⟩⟩, ((Below.refl _ w).alloc (Nat.le_refl _) _).drew⟩
    have := HC.out
    unfold grownCap at this
    simp [Builtin.zeroCells]
    omega

theorem run_append_noneV {P : Program} {w : World} (base : Nat) (t ty e : TypeId) (i : TypeInfo) (size : Nat) (ht : P.underlying t = some (.slice e)) (hi : P.info? e = some i)
    (v : Value) (n c : Nat) (xs : List Value) (hown : w.ownsRow base e size v n xs) :
    (Builtin.append_ #[t, t] ty #[v, .slice none 0 c]).run P w = .ok v w := by
  rcases hown.2 with ⟨rfl, rfl⟩ | ⟨g, cap, cur, rfl, _, _, hnc, _⟩
  · simp [Builtin.append_, run_underlying ht, sizeOf, typeInfo, hi, Builtin.lenOf, Builtin.firstCells]
  · simp [Builtin.append_, run_underlying ht, sizeOf, typeInfo, hi, Builtin.lenOf, Builtin.firstCells, hnc, storeCells]
theorem appendV {w : World} {ops : Array Oper} {rest : List Oper} {o : Oper} {a : Act} {Q : Exit → Act → World → Prop} (hgd : o.guard = none) (s x : Operand)
    (ho : o.op = .call { callee := .builtin .append, args := #[s, x], argTypes := #[158, 158] })
    (base : Nat) (v : Value) (n : Nat) (xs : List Value) (hs : a.eval s = v) (hown : w.ownsRow base 70 1 v n xs)
    (u : Value) (ys : List Value) (S : Nat → Prop) (hx : a.eval x = u) (hsrc : RowV w S u ys) (h1 : ∀ u ∈ ys, u.oneCell' = true)
    (h63 : n + ys.length ≤ 1000) (hbase : base ≤ w.heap.size)
    (h : ∀ v' w', w'.ownsRow base 70 1 v' (n + ys.length) (xs ++ ys) → w.grownBy w' v.ownBlock → wpList Tryz.prog ops Q rest (a.put o.dst v') w') : wpList Tryz.prog ops Q (o :: rest) a w := by
  obtain ⟨i0, hi, hz0, hz1, hz2⟩ := info_parts infoV
  obtain ⟨ao, c, rfl, p1, p2, p3⟩ := hsrc
  by_cases h0 : ys = []
  · subst h0
    cases ao with
    | none =>
      refine wpList_plain hgd fun K hK => ?_
      have hrun := run_append_noneV (P := Tryz.prog) (w := w) base 158 o.type 70 i0 1 Tryz.underlying158 hi v n c xs hown
      unfold Oper.wp
      simp [execOp, ho, resolve, invoke, builtin, hs, hx, hrun, Result.andThen]
      exact hK _ _ (h v w (by simpa using hown) (World.grownBy.refl _ _))
    | some ad =>
      exact wpList_append_own _ hgd s x 158 ho base 70 i0 .nilIface 1 16 Tryz.underlying158 hi hz0 hz1 hz2 rfl (by decide) v n xs hs hown ad 0 c [] hx rfl (fun j u hj => by simp at hj) (fun u hu => by cases hu) (by unfold maxLen; omega) (by omega) hbase (fun v' w' a1 a2 _ => h v' w' a1 a2)
  · obtain ⟨b, off, rfl, -, hbl, cc⟩ := p3.resolve_left h0
    refine wpList_append_own _ hgd s x 158 ho base 70 i0 .nilIface 1 16 Tryz.underlying158 hi hz0 hz1 hz2 rfl (by decide) v n xs hs hown ⟨b, off, none⟩ ys.length c ys hx (by omega) ?_ h1 (by unfold maxLen; omega) (by omega) hbase (fun v' w' a1 a2 _ => h v' w' a1 a2)
    intro j y hj
    have hlt : j < ys.length := by
      by_cases hk : j < ys.length
      · exact hk
      · rw [List.getElem?_eq_none (by omega)] at hj; cases hj
    rw [addr_add, cc j hlt, ← hj, List.getElem?_eq_getElem hlt]

set_option maxRecDepth 100000 in
set_option maxHeartbeats 4000000 in
theorem concat_two {S : Nat → Prop} (v1 v2 : Value) (us1 us2 : List Value) (w : World) (g : Nat) (hS : Hi w.heap.size S) (h1 : RowV w S v1 us1) (h2 : RowV w S v2 us2) (hc1 : ∀ u ∈ us1, u.oneCell' = true) (hc2 : ∀ u ∈ us2, u.oneCell' = true) (hl1 : us1.length ≤ 100) (hl2 : us2.length ≤ 100)
    (g0 : w.cell? ⟨g, 0, none⟩ = some v1) (g1 : w.cell? ⟨g, 1, none⟩ = some v2) :
    Calls Tryz.prog 164 #[.slice (some ⟨g, 0, none⟩) 2 2] w fun e w' => ∃ v, e = .returned v ∧ w'.ownsRow w.heap.size 70 1 v (us1 ++ us2).length (us1 ++ us2) ∧ Below w.heap.size w w' := by
  obtain ⟨a1, c1, rfl, p1, q1, r1⟩ := h1
  obtain ⟨a2, c2, rfl, p2, q2, r2⟩ := h2
  obtain ⟨i0, hi, hz0, hz1, hz2⟩ := info_parts infoV
  have R1 := Lib.hid r1; have R2 := Lib.hid r2; have HC1 := Lib.hid hc1; have HC2 := Lib.hid hc2
  have hg := World.block_lt_of_cell? w _ g0
  have Q1 := Lib.hid q1; have Q2 := Lib.hid q2
  unfold maxLen at q1 q2
  clear r1 r2 hc1 hc2
  have HG := Lib.hid (fun w => grow_nil (us1.length + us2.length) w (by omega))
  have HSUM := Lib.hid (show ((us1.length : Int) + (us2.length : Int)) = ((us1.length + us2.length : Nat) : Int) by omega)
  go_enter Tryz.func164, Tryz.ntmps164
  go_wp2_with fail
  refine wp_loop_rounds 3 ?_
  rw [rounds_succ]
  go_wp2_with fail
  rw [rounds_succ]
  go_wp2_with fail
  rw [rounds_succ]
  go_wp2_with fail
  rw [HSUM.out]
  refine (HG.out _).mono ?_
  rintro e w1 ⟨v, rfl, ho1, hb1⟩
  have HO1 := Lib.hid ho1; have HB1 := Lib.hid hb1
  have k0 : w1.cell? ⟨g, 0, none⟩ = some (.slice a1 us1.length c1) := (hb1.cell (p := ⟨g, 0, none⟩) hg).trans g0
  have k1 : w1.cell? ⟨g, 1, none⟩ = some (.slice a2 us2.length c2) := (hb1.cell (p := ⟨g, 1, none⟩) hg).trans g1
  have HVA := Lib.hid (show ∀ w', Below w.heap.size w w' → RowV w' (fun _ => True) (.slice a1 us1.length c1) us1 from fun w' hb => (RowV.any (⟨a1, c1, rfl, p1, Q1.out, R1.out⟩ : RowV w S _ us1)).low hb)
  have HVB := Lib.hid (show ∀ w', Below w.heap.size w w' → RowV w' (fun _ => True) (.slice a2 us2.length c2) us2 from fun w' hb => (RowV.any (⟨a2, c2, rfl, p2, Q2.out, R2.out⟩ : RowV w S _ us2)).low hb)
  clear ho1 hb1
  go_wp2_with fail
  refine wp_loop_rounds 3 ?_
  rw [rounds_succ]
  go_wp2_with (at_builtin; refine appendV rfl _ _ rfl w.heap.size _ 0 [] rfl HO1.out _ us1 (fun _ => True) rfl (HVA.out _ HB1.out) HC1.out (by omega) HB1.out.size ?_; intro v3 w3 hown3 hgrow3; have HO3 := Lib.hid (show w3.ownsRow w.heap.size 70 1 v3 us1.length us1 by simpa using hown3); have HB3 := Lib.hid (HB1.out.grown hgrow3 HB1.out.size (fun j hj => (HO1.out.lt j hj).1)); have j1 : w3.cell? ⟨g, 1, none⟩ = some (.slice a2 us2.length c2) := (HB3.out.cell (p := ⟨g, 1, none⟩) hg).trans g1; have j0 : w3.cell? ⟨g, 0, none⟩ = some (.slice a1 us1.length c1) := (HB3.out.cell (p := ⟨g, 0, none⟩) hg).trans g0; clear hown3 hgrow3)
  rw [rounds_succ]
  go_wp2_with (at_builtin; refine appendV rfl _ _ rfl w.heap.size _ us1.length us1 rfl HO3.out _ us2 (fun _ => True) rfl (HVB.out _ HB3.out) HC2.out (by omega) HB3.out.size ?_; intro v5 w5 hown5 hgrow5; have HO5 := Lib.hid (show w5.ownsRow w.heap.size 70 1 v5 (us1 ++ us2).length (us1 ++ us2) by rw [List.length_append]; exact hown5); have HB5 := Lib.hid (HB3.out.grown hgrow5 HB3.out.size (fun j hj => (HO3.out.lt j hj).1)); clear hown5 hgrow5)
  rw [rounds_succ]
  go_wp2
  go_ret
  exact ⟨_, rfl, HO5.out, HB5.out⟩

end Go.Proofs.YtpcaciogglllbaaGreatDoor
