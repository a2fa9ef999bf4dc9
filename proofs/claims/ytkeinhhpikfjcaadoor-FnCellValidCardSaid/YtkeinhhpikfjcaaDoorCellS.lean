/-
  The validity of a cell, spec's side.
-/
import Derived.Test.YtkeinhhpikfjcaaDoorReadSAll
import Derived.Test.YtkeinhhpikfjcaaDoorSigns
import Derived.Test.YtkeinhhpikfjcaaDoorNameS
import Derived.Test.YtkeinhhpikfjcaaDoorTextsSpec
import Derived.Test.YtkeinhhpikfjcaaDoorHas
import Derived.Test.YtkeinhhpikfjcaaDoorFracAt
namespace Go.Proofs.YtkeinhhpikfjcaaDoor
open Go.RowKit
set_option linter.unusedVariables false

theorem boxedS {w w1 : World} {k m : Int} {s : ByteArray} {t : TypeId} (hb : Below (w.alloc (.cells #[.int .i64 k, .string s, .int .i64 m] t)).heap.size (w.alloc (.cells #[.int .i64 k, .string s, .int .i64 m] t)) w1) :
    w1.cell? ⟨w.heap.size, 0, none⟩ = some (.int .i64 k) ∧ w1.cell? ⟨w.heap.size, 1, none⟩ = some (.string s) ∧ w1.cell? ⟨w.heap.size, 2, none⟩ = some (.int .i64 m) := by
  refine ⟨?_, ?_, ?_⟩ <;> (rw [hb.cell (by simp)]; simp [go_sem])
theorem tmB (t b : Nat) : (t : Int).tmod (b : Int) = ((t % b : Nat) : Int) := by rw [Int.tmod_eq_emod_of_nonneg (by omega), Int.natCast_emod]
theorem in8 (m : Int) : inI m 0 8 = (decide (0 ≤ m) && decide (m ≤ 8)) := rfl

set_option maxRecDepth 100000 in
set_option maxHeartbeats 4000000 in
theorem cellValid_1 (m : Int) (s : ByteArray) (w : World) (hs : s.size ≤ 1048576) :
    Calls Tryd.prog 7 #[.agg #[.int .i64 1, .string s, .int .i64 m]] w fun e w' => e = .returned (.bool (cellB 1 s m)) ∧ Below w.heap.size w w' := by
  have cs := fun w' => readFraction_spec s w' (by omega)
  cases ho : rdOK s with
  | false =>
    rw [show cellB 1 s m = false by simp [cellB, wordB, numB, ho]]
    rw [ho] at cs
    generalize rdT s = T at cs
    generalize rdB s = B at cs
    have CS := Lib.hid cs; clear cs ho
    go_enter Tryd.func7, Tryd.ntmps7
    go_wp2_with fail
    refine (CS.out _).mono ?_
    rintro e w1 ⟨rfl, hb1⟩
    obtain ⟨d0, d1, d2⟩ := boxedS (hb1.alloc hb1.size (.cells #[.int .i64 T, .int .i64 B] 41))
    have B1 := Lib.hid (((Below.refl w.heap.size w).alloc (Nat.le_refl _) _).trans ((hb1.alloc hb1.size (.cells #[.int .i64 T, .int .i64 B] 41)).mono (by simp))); clear hb1
    go_wp2
    go_ret
    exact ⟨rfl, B1.out⟩
  | true =>
    obtain ⟨b1, b2⟩ := rd_bottom s ho
    have HN : cellB 1 s m = (decide (0 ≤ rdT s) && ((1000000 : Int).tmod (rdB s) == 0) && (m == 0)) := by simp [cellB, wordB, numB, manyB, ho]
    rw [ho] at cs
    generalize rdT s = T at cs HN
    generalize rdB s = B at cs HN b1 b2
    obtain ⟨b, rfl⟩ := Int.eq_ofNat_of_zero_le (show 0 ≤ B by omega)
    have e1 : (1000000 : Int).tmod (b : Int) = ((1000000 % b : Nat) : Int) := tmB 1000000 b
    have e0 : ((b : Int) == 0) = false := beq_eq_false_iff_ne.mpr (by omega)
    rw [e1] at HN
    have CS := Lib.hid cs; clear cs ho
    by_cases h0 : 0 ≤ T
    · rw [decide_eq_true h0, Bool.true_and] at HN
      by_cases h : 1000000 % b = 0
      · have e2 : (((1000000 % b : Nat) : Int) == 0) = true := beq_iff_eq.mpr (by omega)
        rw [e2, Bool.true_and] at HN
        rw [HN]; clear HN h
        generalize 1000000 % b = q at e1 e2
        go_enter Tryd.func7, Tryd.ntmps7
        go_wp2_with fail
        refine (CS.out _).mono ?_
        rintro e w1 ⟨rfl, hb1⟩
        obtain ⟨d0, d1, d2⟩ := boxedS (hb1.alloc hb1.size (.cells #[.int .i64 T, .int .i64 (b : Int)] 41))
        have B1 := Lib.hid (((Below.refl w.heap.size w).alloc (Nat.le_refl _) _).trans ((hb1.alloc hb1.size (.cells #[.int .i64 T, .int .i64 (b : Int)] 41)).mono (by simp))); clear hb1
        go_wp2
        go_ret
        exact ⟨rfl, B1.out⟩
      · have e2 : (((1000000 % b : Nat) : Int) == 0) = false := beq_eq_false_iff_ne.mpr (by omega)
        rw [e2, Bool.false_and] at HN
        rw [HN]; clear HN h
        generalize 1000000 % b = q at e1 e2
        go_enter Tryd.func7, Tryd.ntmps7
        go_wp2_with fail
        refine (CS.out _).mono ?_
        rintro e w1 ⟨rfl, hb1⟩
        obtain ⟨d0, d1, d2⟩ := boxedS (hb1.alloc hb1.size (.cells #[.int .i64 T, .int .i64 (b : Int)] 41))
        have B1 := Lib.hid (((Below.refl w.heap.size w).alloc (Nat.le_refl _) _).trans ((hb1.alloc hb1.size (.cells #[.int .i64 T, .int .i64 (b : Int)] 41)).mono (by simp))); clear hb1
        go_wp2
        go_ret
        exact ⟨rfl, B1.out⟩
    · rw [decide_eq_false h0, Bool.false_and, Bool.false_and] at HN
      rw [HN]; clear HN
      generalize 1000000 % b = q at e1
      go_enter Tryd.func7, Tryd.ntmps7
      go_wp2_with fail
      refine (CS.out _).mono ?_
      rintro e w1 ⟨rfl, hb1⟩
      obtain ⟨d0, d1, d2⟩ := boxedS (hb1.alloc hb1.size (.cells #[.int .i64 T, .int .i64 (b : Int)] 41))
      have B1 := Lib.hid (((Below.refl w.heap.size w).alloc (Nat.le_refl _) _).trans ((hb1.alloc hb1.size (.cells #[.int .i64 T, .int .i64 (b : Int)] 41)).mono (by simp))); clear hb1
      go_wp2
      go_ret
      exact ⟨rfl, B1.out⟩

set_option maxRecDepth 100000 in
set_option maxHeartbeats 4000000 in
theorem cellValid_2 (m : Int) (s : ByteArray) (w : World) (hs : s.size ≤ 1048576) :
    Calls Tryd.prog 7 #[.agg #[.int .i64 2, .string s, .int .i64 m]] w fun e w' => e = .returned (.bool (cellB 2 s m)) ∧ Below w.heap.size w w' := by
  have hN : cellB 2 s m = (textB s && decide (s.size ≤ 60) && (m == 0)) := by simp [cellB, wordB, manyB]
  rw [hN]; clear hN
  cases ht : textB s with
  | false =>
    rw [Bool.false_and, Bool.false_and]
    have HT := Lib.hid ht; clear ht
    go_enter Tryd.func7, Tryd.ntmps7
    go_wp2_with fail
    refine (textValid_spec s _ (by unfold maxLen; omega)).mono ?_
    rintro e w' ⟨rfl, rfl⟩
    rw [HT.out]
    go_wp2
    go_ret
    exact ⟨rfl, (Below.refl _ _).alloc (Nat.le_refl _) _⟩
  | true =>
    rw [Bool.true_and]
    have HT := Lib.hid ht; clear ht
    by_cases h6 : s.size ≤ 60
    · rw [decide_eq_true h6, Bool.true_and]
      go_enter Tryd.func7, Tryd.ntmps7
      go_wp2_with fail
      refine (textValid_spec s _ (by unfold maxLen; omega)).mono ?_
      rintro e w' ⟨rfl, rfl⟩
      rw [HT.out]
      go_wp2
      go_ret
      exact ⟨rfl, (Below.refl _ _).alloc (Nat.le_refl _) _⟩
    · rw [decide_eq_false h6, Bool.false_and]
      go_enter Tryd.func7, Tryd.ntmps7
      go_wp2_with fail
      refine (textValid_spec s _ (by unfold maxLen; omega)).mono ?_
      rintro e w' ⟨rfl, rfl⟩
      rw [HT.out]
      go_wp2
      go_ret
      exact ⟨rfl, (Below.refl _ _).alloc (Nat.le_refl _) _⟩

set_option maxRecDepth 100000 in
set_option maxHeartbeats 4000000 in
theorem cellValid_4 (m : Int) (s : ByteArray) (w : World) (hs : s.size ≤ 1048576) :
    Calls Tryd.prog 7 #[.agg #[.int .i64 4, .string s, .int .i64 m]] w fun e w' => e = .returned (.bool (cellB 4 s m)) ∧ Below w.heap.size w w' := by
  have hN : cellB 4 s m = (nameL s.data.toList && decide (s.size ≤ 60) && (m == 0)) := by simp [cellB, wordB, manyB]
  rw [hN]; clear hN
  cases ht : nameL s.data.toList with
  | false =>
    rw [Bool.false_and, Bool.false_and]
    have HT := Lib.hid ht; clear ht
    go_enter Tryd.func7, Tryd.ntmps7
    go_wp2_with fail
    refine (nameValid_spec s _ (by unfold maxLen; omega)).mono ?_
    rintro e w' ⟨rfl, rfl⟩
    rw [HT.out]
    go_wp2
    go_ret
    exact ⟨rfl, (Below.refl _ _).alloc (Nat.le_refl _) _⟩
  | true =>
    rw [Bool.true_and]
    have HT := Lib.hid ht; clear ht
    by_cases h6 : s.size ≤ 60
    · rw [decide_eq_true h6, Bool.true_and]
      go_enter Tryd.func7, Tryd.ntmps7
      go_wp2_with fail
      refine (nameValid_spec s _ (by unfold maxLen; omega)).mono ?_
      rintro e w' ⟨rfl, rfl⟩
      rw [HT.out]
      go_wp2
      go_ret
      exact ⟨rfl, (Below.refl _ _).alloc (Nat.le_refl _) _⟩
    · rw [decide_eq_false h6, Bool.false_and]
      go_enter Tryd.func7, Tryd.ntmps7
      go_wp2_with fail
      refine (nameValid_spec s _ (by unfold maxLen; omega)).mono ?_
      rintro e w' ⟨rfl, rfl⟩
      rw [HT.out]
      go_wp2
      go_ret
      exact ⟨rfl, (Below.refl _ _).alloc (Nat.le_refl _) _⟩

set_option maxRecDepth 100000 in
set_option maxHeartbeats 4000000 in
theorem cellValid_3 (m : Int) (s : ByteArray) (w : World) (hs : s.size ≤ 1048576) :
    Calls Tryd.prog 7 #[.agg #[.int .i64 3, .string s, .int .i64 m]] w fun e w' => e = .returned (.bool (cellB 3 s m)) ∧ Below w.heap.size w w' := by
  by_cases h1 : s.data.toList = [116, 114, 117, 101]
  · have e1 := ls_yes h1
    rw [show cellB 3 s m = (m == 0) by simp [cellB, wordB, manyB, trueL, falseL,  h1]]
    clear h1
    go_enter Tryd.func7, Tryd.ntmps7
    go_wp2
    go_ret
    exact ⟨rfl, (Below.refl _ _).alloc (Nat.le_refl _) _⟩
  · by_cases h2 : s.data.toList = [102, 97, 108, 115, 101]
    · have e1 := ls_no h1; have e2 := ls_yes h2
      rw [show cellB 3 s m = (m == 0) by simp [cellB, wordB, manyB, trueL, falseL,  h2]]
      clear h1 h2
      go_enter Tryd.func7, Tryd.ntmps7
      go_wp2
      go_ret
      exact ⟨rfl, (Below.refl _ _).alloc (Nat.le_refl _) _⟩
    · have e1 := ls_no h1; have e2 := ls_no h2
      rw [show cellB 3 s m = false by simp [cellB, wordB, trueL, falseL,  h1, h2]]
      clear h1 h2
      go_enter Tryd.func7, Tryd.ntmps7
      go_wp2
      go_ret
      exact ⟨rfl, (Below.refl _ _).alloc (Nat.le_refl _) _⟩

set_option maxRecDepth 100000 in
set_option maxHeartbeats 4000000 in
theorem cellValid_7 (m : Int) (s : ByteArray) (w : World) (hs : s.size ≤ 1048576) :
    Calls Tryd.prog 7 #[.agg #[.int .i64 7, .string s, .int .i64 m]] w fun e w' => e = .returned (.bool (cellB 7 s m)) ∧ Below w.heap.size w w' := by
  by_cases h1 : s.data.toList = [33]
  · have e1 := ls_yes h1
    rw [show cellB 7 s m = (m == 1) by simp [cellB, wordB, manyB,  h1]]
    clear h1
    go_enter Tryd.func7, Tryd.ntmps7
    go_wp2
    go_ret
    exact ⟨rfl, (Below.refl _ _).alloc (Nat.le_refl _) _⟩
  · by_cases h2 : s.data.toList = [45]
    · have e1 := ls_no h1; have e2 := ls_yes h2
      rw [show cellB 7 s m = (m == 1) by simp [cellB, wordB, manyB,  h2]]
      clear h1 h2
      go_enter Tryd.func7, Tryd.ntmps7
      go_wp2
      go_ret
      exact ⟨rfl, (Below.refl _ _).alloc (Nat.le_refl _) _⟩
    · have e1 := ls_no h1; have e2 := ls_no h2
      rw [show cellB 7 s m = false by simp [cellB, wordB,  h1, h2]]
      clear h1 h2
      go_enter Tryd.func7, Tryd.ntmps7
      go_wp2
      go_ret
      exact ⟨rfl, (Below.refl _ _).alloc (Nat.le_refl _) _⟩

set_option maxRecDepth 100000 in
set_option maxHeartbeats 4000000 in
theorem cellValid_5 (m : Int) (s : ByteArray) (w : World) (hs : s.size ≤ 1048576) :
    Calls Tryd.prog 7 #[.agg #[.int .i64 5, .string s, .int .i64 m]] w fun e w' => e = .returned (.bool (cellB 5 s m)) ∧ Below w.heap.size w w' := by
  cases he : s.data.toList with
  | nil =>
    rw [show cellB 5 s m = inI m 0 8 by simp [cellB, wordB, manyB, inI, he]]
    have e1 := ls_yes he
    have e2 : s.toList = [] := by rw [ByteArray.toList_eq]; exact he
    have e3 : s.toList.isEmpty = true := by rw [e2]; rfl
    have e4 : (!s.toList.isEmpty) = false := by rw [e2]; rfl
    clear he
    go_enter Tryd.func7, Tryd.ntmps7
    go_wp2_with fail
    refine (l1In_any m 0 8 _).mono ?_
    rintro e w' ⟨rfl, rfl⟩
    go_wp2
    go_ret
    exact ⟨rfl, (Below.refl _ _).alloc (Nat.le_refl _) _⟩
  | cons b t =>
    rw [show cellB 5 s m = false by simp [cellB, wordB, he]]
    have e1 : (s.toList == []) = false := ls_no (by rw [he]; simp)
    have e2 : s.toList ≠ [] := by rw [ByteArray.toList_eq, he]; simp
    have e3 : s.toList.isEmpty = false := by rw [ByteArray.toList_eq, he]; rfl
    have e4 : (!s.toList.isEmpty) = true := by rw [e3]; rfl
    clear he
    go_enter Tryd.func7, Tryd.ntmps7
    go_wp2
    go_ret
    exact ⟨ret_b (by simp [*]), (Below.refl _ _).alloc (Nat.le_refl _) _⟩

set_option maxRecDepth 100000 in
set_option maxHeartbeats 4000000 in
theorem cellValid_9 (m : Int) (s : ByteArray) (w : World) (hs : s.size ≤ 1048576) :
    Calls Tryd.prog 7 #[.agg #[.int .i64 9, .string s, .int .i64 m]] w fun e w' => e = .returned (.bool (cellB 9 s m)) ∧ Below w.heap.size w w' := by
  cases he : s.data.toList with
  | nil =>
    rw [show cellB 9 s m = (m == 3) by simp [cellB, wordB, manyB, he]]
    have e1 := ls_yes he
    have e2 : s.toList = [] := by rw [ByteArray.toList_eq]; exact he
    have e3 : s.toList.isEmpty = true := by rw [e2]; rfl
    have e4 : (!s.toList.isEmpty) = false := by rw [e2]; rfl
    clear he
    go_enter Tryd.func7, Tryd.ntmps7
    go_wp2
    go_ret
    exact ⟨rfl, (Below.refl _ _).alloc (Nat.le_refl _) _⟩
  | cons b t =>
    rw [show cellB 9 s m = false by simp [cellB, wordB, he]]
    have e1 : (s.toList == []) = false := ls_no (by rw [he]; simp)
    have e2 : s.toList ≠ [] := by rw [ByteArray.toList_eq, he]; simp
    have e3 : s.toList.isEmpty = false := by rw [ByteArray.toList_eq, he]; rfl
    have e4 : (!s.toList.isEmpty) = true := by rw [e3]; rfl
    clear he
    go_enter Tryd.func7, Tryd.ntmps7
    go_wp2
    go_ret
    exact ⟨ret_b (by simp [*]), (Below.refl _ _).alloc (Nat.le_refl _) _⟩

set_option maxRecDepth 100000 in
set_option maxHeartbeats 4000000 in
theorem cellValid_6 (m : Int) (s : ByteArray) (w : World) (hs : s.size ≤ 1048576) :
    Calls Tryd.prog 7 #[.agg #[.int .i64 6, .string s, .int .i64 m]] w fun e w' => e = .returned (.bool (cellB 6 s m)) ∧ Below w.heap.size w w' := by
  have hN : cellB 6 s m = (nameL s.data.toList && !hasL s.data.toList 46 && inI m 0 8) := by simp [cellB, wordB, manyB, inI]
  rw [hN]; clear hN
  cases ht : nameL s.data.toList with
  | false =>
    rw [Bool.false_and, Bool.false_and]
    have HT := Lib.hid ht; clear ht
    go_enter Tryd.func7, Tryd.ntmps7
    go_wp2_with fail
    refine (nameValid_spec s _ (by unfold maxLen; omega)).mono ?_
    rintro e w' ⟨rfl, rfl⟩
    rw [HT.out]
    go_wp2
    go_ret
    exact ⟨rfl, (Below.refl _ _).alloc (Nat.le_refl _) _⟩
  | true =>
    rw [Bool.true_and]
    have HT := Lib.hid ht; clear ht
    cases hh : hasL s.data.toList 46
    · rw [Bool.not_false, Bool.true_and]
      have HH := Lib.hid hh; clear hh
      go_enter Tryd.func7, Tryd.ntmps7
      go_wp2_with fail
      refine (nameValid_spec s _ (by unfold maxLen; omega)).mono ?_
      rintro e w' ⟨rfl, rfl⟩
      rw [HT.out]
      go_wp2_with fail
      refine (l1Has_any s 46 _ (by unfold maxLen; omega) (by omega) (by omega)).mono ?_
      rintro e w' ⟨rfl, rfl⟩
      rw [HH.out]
      go_wp2_with fail
      refine (l1In_any m 0 8 _).mono ?_
      rintro e w' ⟨rfl, rfl⟩
      go_wp2
      go_ret
      exact ⟨rfl, (Below.refl _ _).alloc (Nat.le_refl _) _⟩
    · rw [Bool.not_true, Bool.false_and]
      have HH := Lib.hid hh; clear hh
      go_enter Tryd.func7, Tryd.ntmps7
      go_wp2_with fail
      refine (nameValid_spec s _ (by unfold maxLen; omega)).mono ?_
      rintro e w' ⟨rfl, rfl⟩
      rw [HT.out]
      go_wp2_with fail
      refine (l1Has_any s 46 _ (by unfold maxLen; omega) (by omega) (by omega)).mono ?_
      rintro e w' ⟨rfl, rfl⟩
      rw [HH.out]
      go_wp2
      go_ret
      exact ⟨rfl, (Below.refl _ _).alloc (Nat.le_refl _) _⟩

set_option maxRecDepth 100000 in
set_option maxHeartbeats 4000000 in
theorem cellValid_8 (m : Int) (s : ByteArray) (w : World) (hs : s.size ≤ 1048576) :
    Calls Tryd.prog 7 #[.agg #[.int .i64 8, .string s, .int .i64 m]] w fun e w' => e = .returned (.bool (cellB 8 s m)) ∧ Below w.heap.size w w' := by
  have hN : cellB 8 s m = (decide (0 < rankL s.data.toList) && (m == 2)) := by simp [cellB, wordB, manyB]
  rw [hN]; clear hN
  by_cases h6 : 0 < rankL s.data.toList
  · rw [decide_eq_true h6, Bool.true_and]
    have CR := Lib.hid (fun w' => l5Binary_any s w')
    generalize rankL s.data.toList = r at CR h6
    go_enter Tryd.func7, Tryd.ntmps7
    go_wp2_with fail
    refine (CR.out _).mono ?_
    rintro e w' ⟨rfl, rfl⟩
    go_wp2
    go_ret
    exact ⟨rfl, (Below.refl _ _).alloc (Nat.le_refl _) _⟩
  · rw [decide_eq_false h6, Bool.false_and]
    have CR := Lib.hid (fun w' => l5Binary_any s w')
    generalize rankL s.data.toList = r at CR h6
    go_enter Tryd.func7, Tryd.ntmps7
    go_wp2_with fail
    refine (CR.out _).mono ?_
    rintro e w' ⟨rfl, rfl⟩
    go_wp2
    go_ret
    exact ⟨rfl, (Below.refl _ _).alloc (Nat.le_refl _) _⟩

set_option maxRecDepth 100000 in
set_option maxHeartbeats 4000000 in
theorem cellValid_no (k : Int) (m : Int) (s : ByteArray) (w : World) (hs : s.size ≤ 1048576) (hk : ¬ (1 ≤ k ∧ k ≤ 9)) :
    Calls Tryd.prog 7 #[.agg #[.int .i64 k, .string s, .int .i64 m]] w fun e w' => e = .returned (.bool (cellB k s m)) ∧ Below w.heap.size w w' := by
  have hf : cellB k s m = false := by
    unfold cellB wordB
    iterate 9 rw [if_neg (by omega)]
    rfl
  rw [hf]; clear hf
  have n1 : (k == 1) = false := beq_eq_false_iff_ne.mpr (by omega)
  have n2 : (k == 2) = false := beq_eq_false_iff_ne.mpr (by omega)
  have n3 : (k == 3) = false := beq_eq_false_iff_ne.mpr (by omega)
  have n4 : (k == 4) = false := beq_eq_false_iff_ne.mpr (by omega)
  have n5 : (k == 5) = false := beq_eq_false_iff_ne.mpr (by omega)
  have n6 : (k == 6) = false := beq_eq_false_iff_ne.mpr (by omega)
  have n7 : (k == 7) = false := beq_eq_false_iff_ne.mpr (by omega)
  have n8 : (k == 8) = false := beq_eq_false_iff_ne.mpr (by omega)
  have n9 : (k == 9) = false := beq_eq_false_iff_ne.mpr (by omega)
  clear hk
  go_enter Tryd.func7, Tryd.ntmps7
  go_wp2
  go_ret
  exact ⟨rfl, (Below.refl _ _).alloc (Nat.le_refl _) _⟩

theorem kindsS (k : Int) (h : 1 ≤ k ∧ k ≤ 9) : k = 1 ∨ k = 2 ∨ k = 3 ∨ k = 4 ∨ k = 5 ∨ k = 6 ∨ k = 7 ∨ k = 8 ∨ k = 9 := by omega
theorem cellValid_spec (k m : Int) (s : ByteArray) (w : World) (hs : s.size ≤ 1048576) :
    Calls Tryd.prog 7 #[.agg #[.int .i64 k, .string s, .int .i64 m]] w fun e w' => e = .returned (.bool (cellB k s m)) ∧ Below w.heap.size w w' := by
  by_cases hk : 1 ≤ k ∧ k ≤ 9
  · rcases kindsS k hk with rfl | rfl | rfl | rfl | rfl | rfl | rfl | rfl | rfl
    · exact cellValid_1 m s w hs
    · exact cellValid_2 m s w hs
    · exact cellValid_3 m s w hs
    · exact cellValid_4 m s w hs
    · exact cellValid_5 m s w hs
    · exact cellValid_6 m s w hs
    · exact cellValid_7 m s w hs
    · exact cellValid_8 m s w hs
    · exact cellValid_9 m s w hs
  · exact cellValid_no k m s w hs hk

end Go.Proofs.YtkeinhhpikfjcaaDoor
