/-
  comparisons, impl's and spec's.
-/
import Derived.Test.YtipmkbahlfkfoaaGreatDoorBaseA
namespace Go.Proofs.YtipmkbahlfkfoaaGreatDoor
open Go.RowKit
set_option linter.unusedVariables false
/-- Two fractions, one block each. -/
def Held2 (w' : World) (N : Nat) (aT aB bT bB : Int) : Prop :=
  w'.cell? ⟨N, 0, none⟩ = some (.int .i64 aT) ∧ w'.cell? ⟨N, 1, none⟩ = some (.int .i64 aB) ∧ w'.cell? ⟨N + 1, 0, none⟩ = some (.int .i64 bT) ∧ w'.cell? ⟨N + 1, 1, none⟩ = some (.int .i64 bB)
theorem kept2 {W w1 : World} (hb : Below W.heap.size W w1) {p : Addr} {v : Value} (h : W.cell? p = some v) : w1.cell? p = some v := by
  rw [hb.cell (World.block_lt_of_cell? W _ h)]; exact h
theorem Held2.keep {W w1 : World} {N : Nat} {aT aB bT bB : Int} (h : Held2 W N aT aB bT bB) (hb : Below W.heap.size W w1) : Held2 w1 N aT aB bT bB :=
  ⟨kept2 hb h.1, kept2 hb h.2.1, kept2 hb h.2.2.1, kept2 hb h.2.2.2⟩

set_option maxHeartbeats 1000000 in
theorem compareI (x y : Int) (w : World) :
    Calls Tryz.prog 58 #[.int .i64 x, .int .i64 y] w fun e w' => e = .returned (.int .i64 (cmpI x y)) ∧ w = w' := by
  by_cases l1 : x < y
  · have hq : cmpI x y = -1 := by simp [cmpI, l1]
    rw [hq]; clear hq
    go_enter Tryz.func58, Tryz.ntmps58
    go_wp2
    go_ret
    exact ⟨rfl, rfl⟩
  · by_cases l2 : y < x
    · have hq : cmpI x y = 1 := by simp [cmpI, l1, l2]
      rw [hq]; clear hq
      go_enter Tryz.func58, Tryz.ntmps58
      go_wp2
      go_ret
      exact ⟨rfl, rfl⟩
    · have hq : cmpI x y = 0 := by simp [cmpI, l1, l2]
      rw [hq]; clear hq
      go_enter Tryz.func58, Tryz.ntmps58
      go_wp2
      go_ret
      exact ⟨rfl, rfl⟩

set_option maxRecDepth 100000 in
set_option maxHeartbeats 4000000 in
theorem cmp_spec (aT aB bT bB : Int) (w : World) :
    Calls Tryz.prog 78 #[.agg #[.int .i64 aT, .int .i64 aB], .agg #[.int .i64 bT, .int .i64 bB]] w fun e w' => e = .returned (.int .i64 (cmpF (vB aT aB && vB bT bB) (aT * bB) (bT * aB))) ∧ Below w.heap.size w w' := by
  by_cases ha : vB aT aB = true
  · by_cases hb : vB bT bB = true
    · rw [ha, hb, show cmpF (true && true) (aT * bB) (bT * aB) = cmpI (aT * bB) (bT * aB) from rfl]
      obtain ⟨a1, a2, a3, a4⟩ := vB_bd ha
      obtain ⟨b1, b2, b3, b4⟩ := vB_bd hb
      have HA := Lib.hid ha; have HB := Lib.hid hb; clear ha hb
      have m1 := mul_15 a1 a2 b3 b4
      have m2 := mul_15 b1 b2 a3 a4
      by_cases l1 : aT * bB < bT * aB
      · have hq : cmpI (aT * bB) (bT * aB) = -1 := by simp [cmpI, l1]
        rw [hq]; clear hq
        go_enter Tryz.func78, Tryz.ntmps78
        go_wp2_with fail
        refine (valid_spec _ _ _).mono ?_
        rintro e w1 ⟨rfl, hb1⟩
        have HH1 : Hid (Held2 w1 w.heap.size aT aB bT bB) := Held2.keep (by refine ⟨?_, ?_, ?_, ?_⟩ <;> simp [go_sem]) hb1
        have HB1 := Lib.hid ((((Below.refl _ w).alloc (Nat.le_refl _) _).alloc (by simp) _).trans (hb1.mono (by first | (simp; done) | (simp; omega)))); clear hb1
        obtain ⟨z11, z12, z13, z14⟩ := HH1.out
        rw [HA.out]
        go_wp2_with fail
        refine (valid_spec _ _ _).mono ?_
        rintro e w2 ⟨rfl, hb2⟩
        have HH2 := Lib.hid (HH1.out.keep hb2)
        have HB2 := Lib.hid (HB1.out.trans (hb2.mono HB1.out.size)); clear hb2 HB1 HH1 z11 z12 z13 z14
        obtain ⟨z21, z22, z23, z24⟩ := HH2.out
        rw [HB.out]
        go_wp2
        go_ret
        exact ⟨rfl, HB2.out⟩
      · by_cases l2 : bT * aB < aT * bB
        · have hq : cmpI (aT * bB) (bT * aB) = 1 := by simp [cmpI, l1, l2]
          rw [hq]; clear hq
          go_enter Tryz.func78, Tryz.ntmps78
          go_wp2_with fail
          refine (valid_spec _ _ _).mono ?_
          rintro e w1 ⟨rfl, hb1⟩
          have HH1 : Hid (Held2 w1 w.heap.size aT aB bT bB) := Held2.keep (by refine ⟨?_, ?_, ?_, ?_⟩ <;> simp [go_sem]) hb1
          have HB1 := Lib.hid ((((Below.refl _ w).alloc (Nat.le_refl _) _).alloc (by simp) _).trans (hb1.mono (by first | (simp; done) | (simp; omega)))); clear hb1
          obtain ⟨z11, z12, z13, z14⟩ := HH1.out
          rw [HA.out]
          go_wp2_with fail
          refine (valid_spec _ _ _).mono ?_
          rintro e w2 ⟨rfl, hb2⟩
          have HH2 := Lib.hid (HH1.out.keep hb2)
          have HB2 := Lib.hid (HB1.out.trans (hb2.mono HB1.out.size)); clear hb2 HB1 HH1 z11 z12 z13 z14
          obtain ⟨z21, z22, z23, z24⟩ := HH2.out
          rw [HB.out]
          go_wp2
          go_ret
          exact ⟨rfl, HB2.out⟩
        · have hq : cmpI (aT * bB) (bT * aB) = 0 := by simp [cmpI, l1, l2]
          rw [hq]; clear hq
          go_enter Tryz.func78, Tryz.ntmps78
          go_wp2_with fail
          refine (valid_spec _ _ _).mono ?_
          rintro e w1 ⟨rfl, hb1⟩
          have HH1 : Hid (Held2 w1 w.heap.size aT aB bT bB) := Held2.keep (by refine ⟨?_, ?_, ?_, ?_⟩ <;> simp [go_sem]) hb1
          have HB1 := Lib.hid ((((Below.refl _ w).alloc (Nat.le_refl _) _).alloc (by simp) _).trans (hb1.mono (by first | (simp; done) | (simp; omega)))); clear hb1
          obtain ⟨z11, z12, z13, z14⟩ := HH1.out
          rw [HA.out]
          go_wp2_with fail
          refine (valid_spec _ _ _).mono ?_
          rintro e w2 ⟨rfl, hb2⟩
          have HH2 := Lib.hid (HH1.out.keep hb2)
          have HB2 := Lib.hid (HB1.out.trans (hb2.mono HB1.out.size)); clear hb2 HB1 HH1 z11 z12 z13 z14
          obtain ⟨z21, z22, z23, z24⟩ := HH2.out
          rw [HB.out]
          go_wp2
          go_ret
          exact ⟨rfl, HB2.out⟩
    · have hb' := Bool.eq_false_iff.mpr hb
      rw [ha, hb', show cmpF (true && false) (aT * bB) (bT * aB) = 2 from rfl]
      have HA := Lib.hid ha; have HB := Lib.hid hb'; clear ha hb hb'
      go_enter Tryz.func78, Tryz.ntmps78
      go_wp2_with fail
      refine (valid_spec _ _ _).mono ?_
      rintro e w1 ⟨rfl, hb1⟩
      have HH1 : Hid (Held2 w1 w.heap.size aT aB bT bB) := Held2.keep (by refine ⟨?_, ?_, ?_, ?_⟩ <;> simp [go_sem]) hb1
      have HB1 := Lib.hid ((((Below.refl _ w).alloc (Nat.le_refl _) _).alloc (by simp) _).trans (hb1.mono (by first | (simp; done) | (simp; omega)))); clear hb1
      obtain ⟨z11, z12, z13, z14⟩ := HH1.out
      rw [HA.out]
      go_wp2_with fail
      refine (valid_spec _ _ _).mono ?_
      rintro e w2 ⟨rfl, hb2⟩
      have HH2 := Lib.hid (HH1.out.keep hb2)
      have HB2 := Lib.hid (HB1.out.trans (hb2.mono HB1.out.size)); clear hb2 HB1 HH1 z11 z12 z13 z14
      obtain ⟨z21, z22, z23, z24⟩ := HH2.out
      rw [HB.out]
      go_wp2
      go_ret
      exact ⟨rfl, HB2.out⟩
  · have ha' := Bool.eq_false_iff.mpr ha
    rw [ha', show cmpF (false && vB bT bB) (aT * bB) (bT * aB) = 2 from rfl]
    have HA := Lib.hid ha'; clear ha ha'
    go_enter Tryz.func78, Tryz.ntmps78
    go_wp2_with fail
    refine (valid_spec _ _ _).mono ?_
    rintro e w1 ⟨rfl, hb1⟩
    have HH1 : Hid (Held2 w1 w.heap.size aT aB bT bB) := Held2.keep (by refine ⟨?_, ?_, ?_, ?_⟩ <;> simp [go_sem]) hb1
    have HB1 := Lib.hid ((((Below.refl _ w).alloc (Nat.le_refl _) _).alloc (by simp) _).trans (hb1.mono (by first | (simp; done) | (simp; omega)))); clear hb1
    obtain ⟨z11, z12, z13, z14⟩ := HH1.out
    rw [HA.out]
    go_wp2
    go_ret
    exact ⟨rfl, HB1.out⟩

set_option maxRecDepth 100000 in
set_option maxHeartbeats 4000000 in
theorem cmp_impl (aT aB bT bB : Int) (w : World) :
    Calls Tryz.prog 24 #[.agg #[.int .i64 aT, .int .i64 aB], .agg #[.int .i64 bT, .int .i64 bB]] w fun e w' => e = .returned (.int .i64 (cmpF (vB aT aB && vB bT bB) (aT * bB) (bT * aB))) ∧ Below w.heap.size w w' := by
  by_cases ha : vB aT aB = true
  · by_cases hb : vB bT bB = true
    · rw [ha, hb, show cmpF (true && true) (aT * bB) (bT * aB) = cmpI (aT * bB) (bT * aB) from rfl]
      obtain ⟨a1, a2, a3, a4⟩ := vB_bd ha
      obtain ⟨b1, b2, b3, b4⟩ := vB_bd hb
      have HA := Lib.hid ha; have HB := Lib.hid hb; clear ha hb
      have m1 := mul_15 a1 a2 b3 b4
      have m2 := mul_15 b1 b2 a3 a4
      go_enter Tryz.func24, Tryz.ntmps24
      go_wp2_with fail
      refine (valid_method _ _ _).mono ?_
      rintro e w1 ⟨rfl, hb1⟩
      have HH1 : Hid (Held2 w1 w.heap.size aT aB bT bB) := Held2.keep (by refine ⟨?_, ?_, ?_, ?_⟩ <;> simp [go_sem]) hb1
      have HB1 := Lib.hid ((((Below.refl _ w).alloc (Nat.le_refl _) _).alloc (by simp) _).trans (hb1.mono (by first | (simp; done) | (simp; omega)))); clear hb1
      obtain ⟨z11, z12, z13, z14⟩ := HH1.out
      rw [HA.out]
      go_wp2_with fail
      refine (valid_method _ _ _).mono ?_
      rintro e w2 ⟨rfl, hb2⟩
      have HH2 := Lib.hid (HH1.out.keep hb2)
      have HB2 := Lib.hid (HB1.out.trans (hb2.mono HB1.out.size)); clear hb2 HB1 HH1 z11 z12 z13 z14
      obtain ⟨z21, z22, z23, z24⟩ := HH2.out
      rw [HB.out]
      go_wp2_with fail
      refine (compareI _ _ _).mono ?_
      rintro e w' ⟨rfl, rfl⟩
      go_wp2
      go_ret
      exact ⟨rfl, HB2.out⟩
    · have hb' := Bool.eq_false_iff.mpr hb
      rw [ha, hb', show cmpF (true && false) (aT * bB) (bT * aB) = 2 from rfl]
      have HA := Lib.hid ha; have HB := Lib.hid hb'; clear ha hb hb'
      go_enter Tryz.func24, Tryz.ntmps24
      go_wp2_with fail
      refine (valid_method _ _ _).mono ?_
      rintro e w1 ⟨rfl, hb1⟩
      have HH1 : Hid (Held2 w1 w.heap.size aT aB bT bB) := Held2.keep (by refine ⟨?_, ?_, ?_, ?_⟩ <;> simp [go_sem]) hb1
      have HB1 := Lib.hid ((((Below.refl _ w).alloc (Nat.le_refl _) _).alloc (by simp) _).trans (hb1.mono (by first | (simp; done) | (simp; omega)))); clear hb1
      obtain ⟨z11, z12, z13, z14⟩ := HH1.out
      rw [HA.out]
      go_wp2_with fail
      refine (valid_method _ _ _).mono ?_
      rintro e w2 ⟨rfl, hb2⟩
      have HH2 := Lib.hid (HH1.out.keep hb2)
      have HB2 := Lib.hid (HB1.out.trans (hb2.mono HB1.out.size)); clear hb2 HB1 HH1 z11 z12 z13 z14
      obtain ⟨z21, z22, z23, z24⟩ := HH2.out
      rw [HB.out]
      go_wp2
      go_ret
      exact ⟨rfl, HB2.out⟩
  · have ha' := Bool.eq_false_iff.mpr ha
    rw [ha', show cmpF (false && vB bT bB) (aT * bB) (bT * aB) = 2 from rfl]
    have HA := Lib.hid ha'; clear ha ha'
    go_enter Tryz.func24, Tryz.ntmps24
    go_wp2_with fail
    refine (valid_method _ _ _).mono ?_
    rintro e w1 ⟨rfl, hb1⟩
    have HH1 : Hid (Held2 w1 w.heap.size aT aB bT bB) := Held2.keep (by refine ⟨?_, ?_, ?_, ?_⟩ <;> simp [go_sem]) hb1
    have HB1 := Lib.hid ((((Below.refl _ w).alloc (Nat.le_refl _) _).alloc (by simp) _).trans (hb1.mono (by first | (simp; done) | (simp; omega)))); clear hb1
    obtain ⟨z11, z12, z13, z14⟩ := HH1.out
    rw [HA.out]
    go_wp2
    go_ret
    exact ⟨rfl, HB1.out⟩

end Go.Proofs.YtipmkbahlfkfoaaGreatDoor
