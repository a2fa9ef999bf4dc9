/-
  The validity of a cell, impl's side: wordFits, partsFit, CellValid.
-/
import Derived.Test.YtkeinhhpikfjcaaDoorNumWord
import Derived.Test.YtkeinhhpikfjcaaDoorSigns
import Derived.Test.YtkeinhhpikfjcaaDoorNameV
import Derived.Test.YtkeinhhpikfjcaaDoorNamP
namespace Go.Proofs.YtkeinhhpikfjcaaDoor
open Go.RowKit
set_option linter.unusedVariables false

theorem index_has (l : List UInt8) (c : UInt8) : decide (0 ≤ Lib.indexByte l c) = hasL l (c.toNat : Int) := by
  induction l with
  | nil => rfl
  | cons b t ih =>
    have e : hasL (b :: t) (c.toNat : Int) = ((b == c) || hasL t (c.toNat : Int)) := by
      show (((b.toNat : Int) == (c.toNat : Int)) || hasL t (c.toNat : Int)) = _
      rw [byte_eq]
    have := indexByte_lt t c
    rw [e, ← ih]
    by_cases hb : b = c
    · have h0 : Lib.indexByte (b :: t) c = 0 := by simp [Lib.indexByte, hb]
      rw [beq_iff_eq.mpr hb, Bool.true_or, decide_eq_true_eq]; omega
    · have hx : Lib.indexByte (b :: t) c = if Lib.indexByte t c = -1 then -1 else Lib.indexByte t c + 1 := by simp [Lib.indexByte, hb]
      rw [beq_eq_false_iff_ne.mpr hb, Bool.false_or, Bool.eq_iff_iff, decide_eq_true_eq, decide_eq_true_eq, hx]
      split <;> omega

theorem boxed {w w1 : World} {k m : Int} {s : ByteArray} {t : TypeId} (hb : Below (w.alloc (.cells #[.int .i64 k, .string s, .int .i64 m] t)).heap.size (w.alloc (.cells #[.int .i64 k, .string s, .int .i64 m] t)) w1) :
    w1.cell? ⟨w.heap.size, 0, none⟩ = some (.int .i64 k) ∧ w1.cell? ⟨w.heap.size, 1, none⟩ = some (.string s) ∧ w1.cell? ⟨w.heap.size, 2, none⟩ = some (.int .i64 m) := by
  refine ⟨?_, ?_, ?_⟩ <;> (rw [hb.cell (by simp)]; simp [go_sem])

set_option maxRecDepth 100000 in
set_option maxHeartbeats 4000000 in
theorem wordFits_long (k : Int) (m : Int) (s : ByteArray) (w : World) (hs : s.size ≤ maxLen) (hl : ¬ s.size ≤ 60) :
    Calls Tryd.prog 15 #[.agg #[.int .i64 k, .string s, .int .i64 m]] w fun e w' => e = .returned (.bool (wordB k s)) ∧ Below w.heap.size w w' := by
  have hf : wordB k s = false := by rw [Bool.eq_false_iff]; exact fun h => hl (word_len k s h)
  rw [hf]; clear hf
  unfold maxLen at hs
  go_enter Tryd.func15, Tryd.ntmps15
  go_wp2
  go_ret
  exact ⟨rfl, (Below.refl _ _).alloc (Nat.le_refl _) _⟩

set_option maxRecDepth 100000 in
set_option maxHeartbeats 4000000 in
theorem wordFits_1 (m : Int) (s : ByteArray) (w : World) (hl : s.size ≤ 60) (htab : Tab w) :
    Calls Tryd.prog 15 #[.agg #[.int .i64 1, .string s, .int .i64 m]] w fun e w' => e = .returned (.bool (wordB 1 s)) ∧ Below w.heap.size w w' := by
  rw [show wordB 1 s = numB s by simp [wordB]]
  go_enter Tryd.func15, Tryd.ntmps15
  go_wp2_with fail
  refine (numberWord_any s _ (by omega) (htab.al _)).mono ?_
  rintro e w1 ⟨rfl, hb1⟩
  have B1 := Lib.hid (((Below.refl w.heap.size w).alloc (Nat.le_refl _) _).trans (hb1.mono (by simp))); clear hb1
  go_wp2
  go_ret
  exact ⟨rfl, B1.out⟩

set_option maxRecDepth 100000 in
set_option maxHeartbeats 4000000 in
theorem wordFits_2 (m : Int) (s : ByteArray) (w : World) (hl : s.size ≤ 60) :
    Calls Tryd.prog 15 #[.agg #[.int .i64 2, .string s, .int .i64 m]] w fun e w' => e = .returned (.bool (wordB 2 s)) ∧ Below w.heap.size w w' := by
  rw [show wordB 2 s = textB s by simp [wordB, hl]]
  go_enter Tryd.func15, Tryd.ntmps15
  go_wp2_with fail
  refine (textValid_impl s _ (by unfold maxLen; omega)).mono ?_
  rintro e w' ⟨rfl, rfl⟩
  go_wp2
  go_ret
  exact ⟨rfl, (Below.refl _ _).alloc (Nat.le_refl _) _⟩

set_option maxRecDepth 100000 in
set_option maxHeartbeats 4000000 in
theorem wordFits_3 (m : Int) (s : ByteArray) (w : World) (hl : s.size ≤ 60) :
    Calls Tryd.prog 15 #[.agg #[.int .i64 3, .string s, .int .i64 m]] w fun e w' => e = .returned (.bool (wordB 3 s)) ∧ Below w.heap.size w w' := by
  by_cases h1 : s.data.toList = [116, 114, 117, 101]
  · have e1 := ls_yes h1
    rw [show wordB 3 s = true by simp [wordB, trueL, falseL,  h1]]
    clear h1
    go_enter Tryd.func15, Tryd.ntmps15
    go_wp2
    go_ret
    exact ⟨rfl, (Below.refl _ _).alloc (Nat.le_refl _) _⟩
  · by_cases h2 : s.data.toList = [102, 97, 108, 115, 101]
    · have e1 := ls_no h1; have e2 := ls_yes h2
      rw [show wordB 3 s = true by simp [wordB, trueL, falseL,  h2]]
      clear h1 h2
      go_enter Tryd.func15, Tryd.ntmps15
      go_wp2
      go_ret
      exact ⟨rfl, (Below.refl _ _).alloc (Nat.le_refl _) _⟩
    · have e1 := ls_no h1; have e2 := ls_no h2
      rw [show wordB 3 s = false by simp [wordB, trueL, falseL,  h1, h2]]
      clear h1 h2
      go_enter Tryd.func15, Tryd.ntmps15
      go_wp2
      go_ret
      exact ⟨rfl, (Below.refl _ _).alloc (Nat.le_refl _) _⟩

set_option maxRecDepth 100000 in
set_option maxHeartbeats 4000000 in
theorem wordFits_7 (m : Int) (s : ByteArray) (w : World) (hl : s.size ≤ 60) :
    Calls Tryd.prog 15 #[.agg #[.int .i64 7, .string s, .int .i64 m]] w fun e w' => e = .returned (.bool (wordB 7 s)) ∧ Below w.heap.size w w' := by
  by_cases h1 : s.data.toList = [33]
  · have e1 := ls_yes h1
    rw [show wordB 7 s = true by simp [wordB,  h1]]
    clear h1
    go_enter Tryd.func15, Tryd.ntmps15
    go_wp2
    go_ret
    exact ⟨rfl, (Below.refl _ _).alloc (Nat.le_refl _) _⟩
  · by_cases h2 : s.data.toList = [45]
    · have e1 := ls_no h1; have e2 := ls_yes h2
      rw [show wordB 7 s = true by simp [wordB,  h2]]
      clear h1 h2
      go_enter Tryd.func15, Tryd.ntmps15
      go_wp2
      go_ret
      exact ⟨rfl, (Below.refl _ _).alloc (Nat.le_refl _) _⟩
    · have e1 := ls_no h1; have e2 := ls_no h2
      rw [show wordB 7 s = false by simp [wordB,  h1, h2]]
      clear h1 h2
      go_enter Tryd.func15, Tryd.ntmps15
      go_wp2
      go_ret
      exact ⟨rfl, (Below.refl _ _).alloc (Nat.le_refl _) _⟩

set_option maxRecDepth 100000 in
set_option maxHeartbeats 4000000 in
theorem wordFits_4 (m : Int) (s : ByteArray) (w : World) (hl : s.size ≤ 60) :
    Calls Tryd.prog 15 #[.agg #[.int .i64 4, .string s, .int .i64 m]] w fun e w' => e = .returned (.bool (wordB 4 s)) ∧ Below w.heap.size w w' := by
  rw [show wordB 4 s = nameL s.data.toList by simp [wordB, hl]]
  go_enter Tryd.func15, Tryd.ntmps15
  go_wp2_with fail
  refine (nameValid_impl s _ (by unfold maxLen; omega)).mono ?_
  rintro e w1 ⟨rfl, hb1⟩
  have B1 := Lib.hid (((Below.refl w.heap.size w).alloc (Nat.le_refl _) _).trans (hb1.mono (by simp))); clear hb1
  go_wp2
  go_ret
  exact ⟨rfl, B1.out⟩

set_option maxRecDepth 100000 in
set_option maxHeartbeats 4000000 in
theorem wordFits_6 (m : Int) (s : ByteArray) (w : World) (hl : s.size ≤ 60) :
    Calls Tryd.prog 15 #[.agg #[.int .i64 6, .string s, .int .i64 m]] w fun e w' => e = .returned (.bool (wordB 6 s)) ∧ Below w.heap.size w w' := by
  rw [show wordB 6 s = simpB s by simp [wordB, simpB]]
  go_enter Tryd.func15, Tryd.ntmps15
  go_wp2_with fail
  refine (plainName_any s _ (by unfold maxLen; omega)).mono ?_
  rintro e w1 ⟨rfl, rfl⟩
  go_wp2
  go_ret
  exact ⟨rfl, (Below.refl _ _).alloc (Nat.le_refl _) _⟩

set_option maxRecDepth 100000 in
set_option maxHeartbeats 4000000 in
theorem wordFits_8 (m : Int) (s : ByteArray) (w : World) (hl : s.size ≤ 60) :
    Calls Tryd.prog 15 #[.agg #[.int .i64 8, .string s, .int .i64 m]] w fun e w' => e = .returned (.bool (wordB 8 s)) ∧ Below w.heap.size w w' := by
  rw [show wordB 8 s = decide (0 < rankL s.data.toList) by simp [wordB]]
  go_enter Tryd.func15, Tryd.ntmps15
  go_wp2_with fail
  refine (binarySign_any s _).mono ?_
  rintro e w' ⟨rfl, rfl⟩
  go_wp2
  go_ret
  exact ⟨rfl, (Below.refl _ _).alloc (Nat.le_refl _) _⟩

set_option maxRecDepth 100000 in
set_option maxHeartbeats 4000000 in
theorem wordFits_5 (m : Int) (s : ByteArray) (w : World) (hl : s.size ≤ 60) :
    Calls Tryd.prog 15 #[.agg #[.int .i64 5, .string s, .int .i64 m]] w fun e w' => e = .returned (.bool (wordB 5 s)) ∧ Below w.heap.size w w' := by
  cases hs : s.data.toList with
  | nil =>
    rw [show wordB 5 s = true by simp [wordB, hs]]
    have e1 := ls_yes hs
    have e2 : s.toList = [] := by rw [ByteArray.toList_eq]; exact hs
    have e3 : s.toList.isEmpty = true := by rw [e2]; rfl
    have e4 : (!s.toList.isEmpty) = false := by rw [e2]; rfl
    clear hs
    go_enter Tryd.func15, Tryd.ntmps15
    go_wp2
    go_ret
    exact ⟨ret_b (by simp [*]), (Below.refl _ _).alloc (Nat.le_refl _) _⟩
  | cons b t =>
    rw [show wordB 5 s = false by simp [wordB, hs]]
    have e1 : (s.toList == []) = false := ls_no (by rw [hs]; simp)
    have e2 : s.toList ≠ [] := by rw [ByteArray.toList_eq, hs]; simp
    have e3 : s.toList.isEmpty = false := by rw [ByteArray.toList_eq, hs]; rfl
    have e4 : (!s.toList.isEmpty) = true := by rw [e3]; rfl
    clear hs
    go_enter Tryd.func15, Tryd.ntmps15
    go_wp2
    go_ret
    exact ⟨ret_b (by simp [*]), (Below.refl _ _).alloc (Nat.le_refl _) _⟩

set_option maxRecDepth 100000 in
set_option maxHeartbeats 4000000 in
theorem wordFits_9 (m : Int) (s : ByteArray) (w : World) (hl : s.size ≤ 60) :
    Calls Tryd.prog 15 #[.agg #[.int .i64 9, .string s, .int .i64 m]] w fun e w' => e = .returned (.bool (wordB 9 s)) ∧ Below w.heap.size w w' := by
  cases hs : s.data.toList with
  | nil =>
    rw [show wordB 9 s = true by simp [wordB, hs]]
    have e1 := ls_yes hs
    have e2 : s.toList = [] := by rw [ByteArray.toList_eq]; exact hs
    have e3 : s.toList.isEmpty = true := by rw [e2]; rfl
    have e4 : (!s.toList.isEmpty) = false := by rw [e2]; rfl
    clear hs
    go_enter Tryd.func15, Tryd.ntmps15
    go_wp2
    go_ret
    exact ⟨ret_b (by simp [*]), (Below.refl _ _).alloc (Nat.le_refl _) _⟩
  | cons b t =>
    rw [show wordB 9 s = false by simp [wordB, hs]]
    have e1 : (s.toList == []) = false := ls_no (by rw [hs]; simp)
    have e2 : s.toList ≠ [] := by rw [ByteArray.toList_eq, hs]; simp
    have e3 : s.toList.isEmpty = false := by rw [ByteArray.toList_eq, hs]; rfl
    have e4 : (!s.toList.isEmpty) = true := by rw [e3]; rfl
    clear hs
    go_enter Tryd.func15, Tryd.ntmps15
    go_wp2
    go_ret
    exact ⟨ret_b (by simp [*]), (Below.refl _ _).alloc (Nat.le_refl _) _⟩

set_option maxRecDepth 100000 in
set_option maxHeartbeats 4000000 in
theorem wordFits_no (k : Int) (m : Int) (s : ByteArray) (w : World) (hl : s.size ≤ 60) (hk : ¬ (1 ≤ k ∧ k ≤ 9)) :
    Calls Tryd.prog 15 #[.agg #[.int .i64 k, .string s, .int .i64 m]] w fun e w' => e = .returned (.bool (wordB k s)) ∧ Below w.heap.size w w' := by
  have hf : wordB k s = false := by
    unfold wordB
    iterate 9 rw [if_neg (by omega)]
  rw [hf]; clear hf
  have n1 : (k == 1) = false := beq_eq_false_iff_ne.mpr (by omega)
  have n2 : (k == 2) = false := beq_eq_false_iff_ne.mpr (by omega)
  have n3 : (k == 3) = false := beq_eq_false_iff_ne.mpr (by omega)
  have n4 : (k == 4) = false := beq_eq_false_iff_ne.mpr (by omega)
  have n5 : (k == 5) = false := beq_eq_false_iff_ne.mpr (by omega)
  have n6 : (k == 6) = false := beq_eq_false_iff_ne.mpr (by omega)
  have n7 : (k == 7) = false := beq_eq_false_iff_ne.mpr (by omega)
  have n8 : (k == 8) = false := beq_eq_false_iff_ne.mpr (by omega)
  have n9 : (k == 9) = false := beq_eq_false_iff_ne.mpr (by omega)
  clear hk
  go_enter Tryd.func15, Tryd.ntmps15
  go_wp2
  go_ret
  exact ⟨rfl, (Below.refl _ _).alloc (Nat.le_refl _) _⟩

theorem kinds (k : Int) (h : 1 ≤ k ∧ k ≤ 9) : k = 1 ∨ k = 2 ∨ k = 3 ∨ k = 4 ∨ k = 5 ∨ k = 6 ∨ k = 7 ∨ k = 8 ∨ k = 9 := by omega
theorem wordFits_any (k m : Int) (s : ByteArray) (w : World) (hs : s.size ≤ maxLen) (htab : Tab w) :
    Calls Tryd.prog 15 #[.agg #[.int .i64 k, .string s, .int .i64 m]] w fun e w' => e = .returned (.bool (wordB k s)) ∧ Below w.heap.size w w' := by
  by_cases hl : s.size ≤ 60
  · by_cases hk : 1 ≤ k ∧ k ≤ 9
    · rcases kinds k hk with rfl | rfl | rfl | rfl | rfl | rfl | rfl | rfl | rfl
      · exact wordFits_1 m s w hl htab
      · exact wordFits_2 m s w hl
      · exact wordFits_3 m s w hl
      · exact wordFits_4 m s w hl
      · exact wordFits_5 m s w hl
      · exact wordFits_6 m s w hl
      · exact wordFits_7 m s w hl
      · exact wordFits_8 m s w hl
      · exact wordFits_9 m s w hl
    · exact wordFits_no k m s w hl hk
  · exact wordFits_long k m s w hs hl

set_option maxRecDepth 100000 in
set_option maxHeartbeats 4000000 in
theorem partsFit_1 (m : Int) (s : ByteArray) (w : World)  :
    Calls Tryd.prog 16 #[.agg #[.int .i64 1, .string s, .int .i64 m]] w fun e w' => e = .returned (.bool (manyB 1 m)) ∧ Below w.heap.size w w' := by
  rw [show manyB 1 m = (m == 0) by simp [manyB]]
  go_enter Tryd.func16, Tryd.ntmps16
  go_wp2
  go_ret
  exact ⟨rfl, (Below.refl _ _).alloc (Nat.le_refl _) _⟩

set_option maxRecDepth 100000 in
set_option maxHeartbeats 4000000 in
theorem partsFit_2 (m : Int) (s : ByteArray) (w : World)  :
    Calls Tryd.prog 16 #[.agg #[.int .i64 2, .string s, .int .i64 m]] w fun e w' => e = .returned (.bool (manyB 2 m)) ∧ Below w.heap.size w w' := by
  rw [show manyB 2 m = (m == 0) by simp [manyB]]
  go_enter Tryd.func16, Tryd.ntmps16
  go_wp2
  go_ret
  exact ⟨rfl, (Below.refl _ _).alloc (Nat.le_refl _) _⟩

set_option maxRecDepth 100000 in
set_option maxHeartbeats 4000000 in
theorem partsFit_3 (m : Int) (s : ByteArray) (w : World)  :
    Calls Tryd.prog 16 #[.agg #[.int .i64 3, .string s, .int .i64 m]] w fun e w' => e = .returned (.bool (manyB 3 m)) ∧ Below w.heap.size w w' := by
  rw [show manyB 3 m = (m == 0) by simp [manyB]]
  go_enter Tryd.func16, Tryd.ntmps16
  go_wp2
  go_ret
  exact ⟨rfl, (Below.refl _ _).alloc (Nat.le_refl _) _⟩

set_option maxRecDepth 100000 in
set_option maxHeartbeats 4000000 in
theorem partsFit_4 (m : Int) (s : ByteArray) (w : World)  :
    Calls Tryd.prog 16 #[.agg #[.int .i64 4, .string s, .int .i64 m]] w fun e w' => e = .returned (.bool (manyB 4 m)) ∧ Below w.heap.size w w' := by
  rw [show manyB 4 m = (m == 0) by simp [manyB]]
  go_enter Tryd.func16, Tryd.ntmps16
  go_wp2
  go_ret
  exact ⟨rfl, (Below.refl _ _).alloc (Nat.le_refl _) _⟩

set_option maxRecDepth 100000 in
set_option maxHeartbeats 4000000 in
theorem partsFit_7 (m : Int) (s : ByteArray) (w : World)  :
    Calls Tryd.prog 16 #[.agg #[.int .i64 7, .string s, .int .i64 m]] w fun e w' => e = .returned (.bool (manyB 7 m)) ∧ Below w.heap.size w w' := by
  rw [show manyB 7 m = (m == 1) by simp [manyB]]
  go_enter Tryd.func16, Tryd.ntmps16
  go_wp2
  go_ret
  exact ⟨rfl, (Below.refl _ _).alloc (Nat.le_refl _) _⟩

set_option maxRecDepth 100000 in
set_option maxHeartbeats 4000000 in
theorem partsFit_8 (m : Int) (s : ByteArray) (w : World)  :
    Calls Tryd.prog 16 #[.agg #[.int .i64 8, .string s, .int .i64 m]] w fun e w' => e = .returned (.bool (manyB 8 m)) ∧ Below w.heap.size w w' := by
  rw [show manyB 8 m = (m == 2) by simp [manyB]]
  go_enter Tryd.func16, Tryd.ntmps16
  go_wp2
  go_ret
  exact ⟨rfl, (Below.refl _ _).alloc (Nat.le_refl _) _⟩

set_option maxRecDepth 100000 in
set_option maxHeartbeats 4000000 in
theorem partsFit_9 (m : Int) (s : ByteArray) (w : World)  :
    Calls Tryd.prog 16 #[.agg #[.int .i64 9, .string s, .int .i64 m]] w fun e w' => e = .returned (.bool (manyB 9 m)) ∧ Below w.heap.size w w' := by
  rw [show manyB 9 m = (m == 3) by simp [manyB]]
  go_enter Tryd.func16, Tryd.ntmps16
  go_wp2
  go_ret
  exact ⟨rfl, (Below.refl _ _).alloc (Nat.le_refl _) _⟩

set_option maxRecDepth 100000 in
set_option maxHeartbeats 4000000 in
theorem partsFit_5 (m : Int) (s : ByteArray) (w : World)  :
    Calls Tryd.prog 16 #[.agg #[.int .i64 5, .string s, .int .i64 m]] w fun e w' => e = .returned (.bool (manyB 5 m)) ∧ Below w.heap.size w w' := by
  rw [show manyB 5 m = (decide (0 ≤ m) && decide (m ≤ 8)) by simp [manyB]]
  by_cases h0 : 0 ≤ m
  · by_cases h8 : m ≤ 8
    · rw [decide_eq_true h0, decide_eq_true h8]
      go_enter Tryd.func16, Tryd.ntmps16
      go_wp2
      go_ret
      exact ⟨rfl, (Below.refl _ _).alloc (Nat.le_refl _) _⟩
    · rw [decide_eq_true h0, decide_eq_false h8]
      go_enter Tryd.func16, Tryd.ntmps16
      go_wp2
      go_ret
      exact ⟨rfl, (Below.refl _ _).alloc (Nat.le_refl _) _⟩
  · rw [decide_eq_false h0]
    go_enter Tryd.func16, Tryd.ntmps16
    go_wp2
    go_ret
    exact ⟨rfl, (Below.refl _ _).alloc (Nat.le_refl _) _⟩

set_option maxRecDepth 100000 in
set_option maxHeartbeats 4000000 in
theorem partsFit_6 (m : Int) (s : ByteArray) (w : World)  :
    Calls Tryd.prog 16 #[.agg #[.int .i64 6, .string s, .int .i64 m]] w fun e w' => e = .returned (.bool (manyB 6 m)) ∧ Below w.heap.size w w' := by
  rw [show manyB 6 m = (decide (0 ≤ m) && decide (m ≤ 8)) by simp [manyB]]
  by_cases h0 : 0 ≤ m
  · by_cases h8 : m ≤ 8
    · rw [decide_eq_true h0, decide_eq_true h8]
      go_enter Tryd.func16, Tryd.ntmps16
      go_wp2
      go_ret
      exact ⟨rfl, (Below.refl _ _).alloc (Nat.le_refl _) _⟩
    · rw [decide_eq_true h0, decide_eq_false h8]
      go_enter Tryd.func16, Tryd.ntmps16
      go_wp2
      go_ret
      exact ⟨rfl, (Below.refl _ _).alloc (Nat.le_refl _) _⟩
  · rw [decide_eq_false h0]
    go_enter Tryd.func16, Tryd.ntmps16
    go_wp2
    go_ret
    exact ⟨rfl, (Below.refl _ _).alloc (Nat.le_refl _) _⟩

set_option maxRecDepth 100000 in
set_option maxHeartbeats 4000000 in
theorem partsFit_no (k : Int) (m : Int) (s : ByteArray) (w : World) (hk : ¬ (1 ≤ k ∧ k ≤ 9)) :
    Calls Tryd.prog 16 #[.agg #[.int .i64 k, .string s, .int .i64 m]] w fun e w' => e = .returned (.bool (manyB k m)) ∧ Below w.heap.size w w' := by
  have hf : manyB k m = false := by
    unfold manyB
    iterate 5 rw [if_neg (by omega)]
  rw [hf]; clear hf
  have n1 : (k == 1) = false := beq_eq_false_iff_ne.mpr (by omega)
  have n2 : (k == 2) = false := beq_eq_false_iff_ne.mpr (by omega)
  have n3 : (k == 3) = false := beq_eq_false_iff_ne.mpr (by omega)
  have n4 : (k == 4) = false := beq_eq_false_iff_ne.mpr (by omega)
  have n5 : (k == 5) = false := beq_eq_false_iff_ne.mpr (by omega)
  have n6 : (k == 6) = false := beq_eq_false_iff_ne.mpr (by omega)
  have n7 : (k == 7) = false := beq_eq_false_iff_ne.mpr (by omega)
  have n8 : (k == 8) = false := beq_eq_false_iff_ne.mpr (by omega)
  have n9 : (k == 9) = false := beq_eq_false_iff_ne.mpr (by omega)
  clear hk
  go_enter Tryd.func16, Tryd.ntmps16
  go_wp2
  go_ret
  exact ⟨rfl, (Below.refl _ _).alloc (Nat.le_refl _) _⟩

theorem partsFit_any (k m : Int) (s : ByteArray) (w : World) :
    Calls Tryd.prog 16 #[.agg #[.int .i64 k, .string s, .int .i64 m]] w fun e w' => e = .returned (.bool (manyB k m)) ∧ Below w.heap.size w w' := by
  by_cases hk : 1 ≤ k ∧ k ≤ 9
  · rcases kinds k hk with rfl | rfl | rfl | rfl | rfl | rfl | rfl | rfl | rfl
    · exact partsFit_1 m s w
    · exact partsFit_2 m s w
    · exact partsFit_3 m s w
    · exact partsFit_4 m s w
    · exact partsFit_5 m s w
    · exact partsFit_6 m s w
    · exact partsFit_7 m s w
    · exact partsFit_8 m s w
    · exact partsFit_9 m s w
  · exact partsFit_no k m s w hk

set_option maxRecDepth 100000 in
set_option maxHeartbeats 4000000 in
theorem cellValid_impl (k m : Int) (s : ByteArray) (w : World) (hs : s.size ≤ maxLen) (htab : Tab w) :
    Calls Tryd.prog 6 #[.agg #[.int .i64 k, .string s, .int .i64 m]] w fun e w' => e = .returned (.bool (cellB k s m)) ∧ Below w.heap.size w w' := by
  cases hw : wordB k s with
  | false =>
    rw [show cellB k s m = false by simp [cellB, hw]]
    have HW := Lib.hid hw; clear hw
    go_enter Tryd.func6, Tryd.ntmps6
    go_wp2_with fail
    refine (wordFits_any k m s _ hs (htab.al _)).mono ?_
    rintro e w1 ⟨rfl, hb1⟩
    have B1 := Lib.hid (((Below.refl w.heap.size w).alloc (Nat.le_refl _) _).trans (hb1.mono (by simp))); clear hb1
    rw [HW.out]
    go_wp2
    go_ret
    exact ⟨rfl, B1.out⟩
  | true =>
    rw [show cellB k s m = manyB k m by simp [cellB, hw]]
    have HW := Lib.hid hw; clear hw
    go_enter Tryd.func6, Tryd.ntmps6
    go_wp2_with fail
    refine (wordFits_any k m s _ hs (htab.al _)).mono ?_
    rintro e w1 ⟨rfl, hb1⟩
    obtain ⟨d0, d1, d2⟩ := boxed hb1
    have B1 := Lib.hid (((Below.refl w.heap.size w).alloc (Nat.le_refl _) _).trans (hb1.mono (by simp))); clear hb1
    rw [HW.out]
    go_wp2_with fail
    refine (partsFit_any k m s _).mono ?_
    rintro e w2 ⟨rfl, hb2⟩
    have B2 := Lib.hid (B1.out.trans (hb2.mono B1.out.size)); clear hb2
    go_wp2
    go_ret
    exact ⟨rfl, B2.out⟩

end Go.Proofs.YtkeinhhpikfjcaaDoor
