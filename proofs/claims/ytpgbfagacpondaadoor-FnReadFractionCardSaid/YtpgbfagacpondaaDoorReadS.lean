/-
  spec.ReadFraction, by its contract.
-/
import Derived.Test.YtpgbfagacpondaaDoorReadSPlain
import Derived.Test.YtpgbfagacpondaaDoorDecSpec
import Derived.Test.YtpgbfagacpondaaDoorTextS
import Derived.Deep.DeepCutAuto
namespace Go.Proofs.YtpgbfagacpondaaDoor
open Go.RowKit
set_option linter.unusedVariables false

theorem body_neg (s : ByteArray) (h : negS s = true) : 0 < s.size ∧ s.extract 1 s.size = bodyS s ∧ ∀ (hz : 0 < s.size), (s[0].toNat : Int) = 45 := by
  have hl : s.data.toList.length = s.size := by rw [Array.length_toList]; rfl
  unfold negS Lib.hasPrefix at h
  cases hx : s.data.toList with
  | nil => rw [hx] at h; simp [List.isPrefixOf] at h
  | cons c l =>
    rw [hx] at h
    simp [List.isPrefixOf] at h
    have hz : 0 < s.size := by rw [← hl, hx]; simp
    refine ⟨hz, ?_, ?_⟩
    · apply strL
      have e : (s.extract 1 s.size).data.toList = (s.data.toList.drop 1).take (s.size - 1) := by simp [ByteArray.data_extract]
      rw [e, List.take_of_length_le (by rw [List.length_drop, hl]; exact Nat.le_refl _)]
      unfold Lib.trimPrefix Lib.hasPrefix
      rw [hx]; simp [List.isPrefixOf, h]
    · intro _
      have e : s[0] = c := by
        have : s.data.toList[0]? = some c := by rw [hx]; rfl
        rw [List.getElem?_eq_getElem (by omega)] at this
        exact Option.some.inj this
      rw [e, ← h]; rfl
theorem body_pos (s : ByteArray) (h : negS s = false) : bodyS s = s ∧ ∀ (hz : 0 < s.size), ((s[0].toNat : Int) == 45) = false := by
  have hl : s.data.toList.length = s.size := by rw [Array.length_toList]; rfl
  have hb : bodyS s = s := by
    unfold bodyS Lib.trimPrefix
    unfold negS at h
    rw [h]
    apply ByteArray.ext; simp
  refine ⟨hb, fun hz => ?_⟩
  unfold negS Lib.hasPrefix at h
  cases hx : s.data.toList with
  | nil => rw [hx] at hl; simp at hl; omega
  | cons c l =>
    rw [hx] at h
    simp [List.isPrefixOf] at h
    have e : s[0] = c := by
      have : s.data.toList[0]? = some c := by rw [hx]; rfl
      rw [List.getElem?_eq_getElem (by omega)] at this
      exact Option.some.inj this
    rw [e, show (45 : Int) = ((45 : UInt8).toNat : Int) from rfl, beq_eq_false_iff_ne]
    intro e2
    exact h (UInt8.toNat_inj.mp (by omega))

theorem l2D0 (X : ByteArray) (w : World) (hs : X.size ≤ 2097152) :
    Calls Tryd.prog 28 #[.string X, .int .i64 0, .int .i64 10] w fun e w' => e = .returned (.tuple #[.int .i64 ((valAt X 0 (spK X) : Nat) : Int), .int .i64 ((spK X : Nat) : Int)]) ∧ w = w' := by
  have := l2Digits_any X 0 10 w hs (by omega) (by omega)
  rw [Nat.zero_add] at this
  exact this
theorem l2D1 (X : ByteArray) (w : World) (hs : X.size ≤ 2097152) (hk : spK X + 1 ≤ X.size) :
    Calls Tryd.prog 28 #[.string X, .int .i64 ((spK X + 1 : Nat) : Int), .int .i64 7] w fun e w' => e = .returned (.tuple #[.int .i64 ((valAt X (spK X + 1) (spJ X) : Nat) : Int), .int .i64 ((spK X + 1 + spJ X : Nat) : Int)]) ∧ w = w' :=
  l2Digits_any X (spK X + 1) 7 w hs hk (by omega)
theorem val0_bd (X : ByteArray) : valAt X 0 (spK X) < 10000000000 := by
  unfold valAt spK runAt
  exact valD_bd _ (runD_take _ _) (by rw [List.length_take]; have := (runD_le (X.data.toList.drop 0) 10).2; omega)
theorem val1_bd (X : ByteArray) : valAt X (spK X + 1) (spJ X) < 10000000000 := by
  unfold valAt spJ runAt
  exact valD_bd _ (runD_take _ _) (by rw [List.length_take]; have := (runD_le (X.data.toList.drop (spK X + 1)) 7).2; omega)
theorem spK_le (X : ByteArray) : spK X ≤ X.size := by
  unfold spK runAt
  have := (runD_le (X.data.toList.drop 0) 10).1
  rw [List.drop_zero, Array.length_toList] at this
  exact this
theorem op_zero (v : Bool) (x y : Int) (h : opOK v x y = false) : opT v x y = 0 ∧ opB v x y = 0 := by
  cases v with
  | false => exact ⟨(op_false _ _).1, (op_false _ _).2.1⟩
  | true =>
    rw [(op_true _ _).2.2] at h
    rw [(op_true _ _).1, (op_true _ _).2.1]
    exact mk_no h
theorem op_bd (v : Bool) (x y : Int) : -1000000000 ≤ opT v x y ∧ opT v x y ≤ 1000000000 := by
  unfold opT
  split
  · unfold mkT
    split
    · rename_i h; have := vB_bd h; omega
    · omega
  · omega

set_option maxRecDepth 100000 in
set_option maxHeartbeats 8000000 in
theorem read_pos1 (s : ByteArray) (w : World) (hs : s.size ≤ 2097152) (hng : negS s = false) (hne : 0 < s.size) (h1 : spO s = true)
    (T B : Int) (hT : T = spT s) (hB : B = spB s) (good : Bool) (hgood : (textF T B == s.data.toList) = good) :
    Calls Tryd.prog 14 #[.string s] w fun e w' => e = fr (if good = true then T else 0) (if good = true then B else 0) good ∧ Below w.heap.size w w' := by
  have b45 : ((s[0].toNat : Int) == 45) = false := (body_pos s hng).2 hne
  have e0 : s.toList.isEmpty = false := by
    rw [ByteArray.toList_eq]
    cases hc : s.data.toList with
    | nil => have := congrArg List.length hc; rw [Array.length_toList] at this; simp only [List.length_nil] at this; have h' : s.size = 0 := this; omega
    | cons x l => rfl
  have e1 : (s.toList == []) = false := by cases hc : s.toList with
    | nil => rw [hc] at e0; cases e0
    | cons x l => rfl
  have hsz : s.size ≤ 2097152 := hs
  clear hng
  have CD := Lib.hid (fun w' => decimal_spec s w' hsz)
  obtain ⟨o1, o2⟩ := op_bd (decV s.data.toList) (decX s.data.toList) (decY s.data.toList)
  have hO : spO s = opOK (decV s.data.toList) (decX s.data.toList) (decY s.data.toList) := rfl
  have hT2 : T = opT (decV s.data.toList) (decX s.data.toList) (decY s.data.toList) := by rw [hT, spT, if_pos h1]
  have hB2 : B = opB (decV s.data.toList) (decX s.data.toList) (decY s.data.toList) := by rw [hB, spB, if_pos h1]
  rw [← hO, h1, ← hT2, ← hB2] at CD
  rw [← hT2] at o1 o2
  clear hO hT hB hT2 hB2 h1
  have HEQ := Lib.hid (eqL (textF T B) s)
  rw [hgood] at HEQ
  have CT := Lib.hid (fun w' => fractionText_spec T B w')
  clear hgood
  generalize (⟨(textF T B).toArray⟩ : ByteArray) = Z at *
  have hEE : (Z.toList == s.toList) = good := HEQ.out
  cases good
  all_goals
    go_enter Tryd.func14, Tryd.ntmps14
    go_wp2_with fail
    refine (CD.out _).mono ?_
    rintro e w1 ⟨rfl, hb1⟩
    have Z1 := Lib.hid ((ZeroF.new w 25).keep hb1)
    have hN : w.heap.size < w1.heap.size := Z1.out.2.2.2.2
    have hN1 : w.heap.size ≠ w1.heap.size := by omega
    have HB1 := Lib.hid (((Below.refl _ w).alloc (Nat.le_refl _) _).trans (hb1.mono (by simp))); clear hb1
    go_wp2_with fail
    refine (CT.out _).mono ?_
    rintro e w3 ⟨rfl, hb3⟩
    have Z3 := Lib.hid ((Z1.out.al _).keep hb3)
    have F3 := Lib.hid (FrAt.keep (FrAt.new _ _ _ _) hb3)
    have HB3 := Lib.hid ((HB1.out.alloc HB1.out.size _).trans (hb3.mono (by have := HB1.out.size; simp; omega))); clear hb3
    obtain ⟨u0, u1, u2, u3, u4⟩ := Z3.out
    obtain ⟨d0, d1⟩ := F3.out
    go_wp2
    exact bodyPost_ret (v := .tuple #[.agg #[.int .i64 _, .int .i64 _], .bool _]) (by simp [results, Tryd.results14, go_sem, u0, u1]) rfl ⟨rfl, (HB3.out.setCell (Nat.le_refl _) _).setCell (Nat.le_refl _) _⟩

set_option maxRecDepth 100000 in
set_option maxHeartbeats 8000000 in
theorem read_pos2 (s : ByteArray) (w : World) (hs : s.size ≤ 2097152) (hng : negS s = false) (hne : 0 < s.size) (h1 : spO s = false) (h2 : spK s = 0)
    (T B : Int) (hT : T = spT s) (hB : B = spB s) (good : Bool) (hgood : (textF T B == s.data.toList) = good) :
    Calls Tryd.prog 14 #[.string s] w fun e w' => e = fr (if good = true then T else 0) (if good = true then B else 0) good ∧ Below w.heap.size w w' := by
  have b45 : ((s[0].toNat : Int) == 45) = false := (body_pos s hng).2 hne
  have e0 : s.toList.isEmpty = false := by
    rw [ByteArray.toList_eq]
    cases hc : s.data.toList with
    | nil => have := congrArg List.length hc; rw [Array.length_toList] at this; simp only [List.length_nil] at this; have h' : s.size = 0 := this; omega
    | cons x l => rfl
  have e1 : (s.toList == []) = false := by cases hc : s.toList with
    | nil => rw [hc] at e0; cases e0
    | cons x l => rfl
  have hsz : s.size ≤ 2097152 := hs
  clear hng
  have CD := Lib.hid (fun w' => decimal_spec s w' hsz)
  obtain ⟨o1, o2⟩ := op_bd (decV s.data.toList) (decX s.data.toList) (decY s.data.toList)
  have hO : spO s = opOK (decV s.data.toList) (decX s.data.toList) (decY s.data.toList) := rfl
  obtain ⟨q1, q2⟩ := op_zero _ _ _ (hO.symm.trans h1)
  rw [← hO, h1, q1, q2] at CD
  clear o1 o2 q1 q2 hO
  have hvb := val0_bd s
  have hvb1 := val1_bd s
  have hkl := spK_le s
  have C0 := Lib.hid (fun w' => l2D0 s w' hsz)
  have hgo : spGo s = false := by simp [spGo, spSl, h2]
  have hT2 : T = 0 := by rw [hT, spT, h1, hgo, if_neg (by simp), if_neg (by intro h; omega), if_neg (by simp)]
  have hB2 : B = 0 := by rw [hB, spB, h1, hgo, if_neg (by simp), if_neg (by intro h; omega), if_neg (by simp)]
  subst hT2 hB2
  clear hT hB hgo
  clear h1
  generalize hv0 : valAt s 0 (spK s) = v0 at *
  generalize hk : spK s = k at *
  clear hv0 hk hvb1
  subst h2
  have HEQ := Lib.hid (eqL (textF 0 0) s)
  rw [hgood] at HEQ
  have CT := Lib.hid (fun w' => fractionText_spec 0 0 w')
  clear hgood
  generalize (⟨(textF 0 0).toArray⟩ : ByteArray) = Z at *
  have hEE : (Z.toList == s.toList) = good := HEQ.out
  cases good
  all_goals
    go_enter Tryd.func14, Tryd.ntmps14
    go_wp2_with fail
    refine (CD.out _).mono ?_
    rintro e w1 ⟨rfl, hb1⟩
    have Z1 := Lib.hid ((ZeroF.new w 25).keep hb1)
    have hN : w.heap.size < w1.heap.size := Z1.out.2.2.2.2
    have hN1 : w.heap.size ≠ w1.heap.size := by omega
    have HB1 := Lib.hid (((Below.refl _ w).alloc (Nat.le_refl _) _).trans (hb1.mono (by simp))); clear hb1
    go_wp2_with fail
    refine (C0.out _).mono ?_
    rintro e w' ⟨rfl, rfl⟩
    go_wp2_with fail
    refine (CT.out _).mono ?_
    rintro e w3 ⟨rfl, hb3⟩
    have Z3 := Lib.hid ((Z1.out.al _).keep hb3)
    have F3 := Lib.hid (FrAt.keep (FrAt.new _ _ _ _) hb3)
    have HB3 := Lib.hid ((HB1.out.alloc HB1.out.size _).trans (hb3.mono (by have := HB1.out.size; simp; omega))); clear hb3
    obtain ⟨u0, u1, u2, u3, u4⟩ := Z3.out
    obtain ⟨d0, d1⟩ := F3.out
    go_wp2
    exact bodyPost_ret (v := .tuple #[.agg #[.int .i64 _, .int .i64 _], .bool _]) (by simp [results, Tryd.results14, go_sem, u0, u1]) rfl ⟨rfl, (HB3.out.setCell (Nat.le_refl _) _).setCell (Nat.le_refl _) _⟩

set_option maxRecDepth 100000 in
set_option maxHeartbeats 8000000 in
theorem read_pos3 (s : ByteArray) (w : World) (hs : s.size ≤ 2097152) (hng : negS s = false) (hne : 0 < s.size) (h1 : spO s = false) (h2 : 0 < spK s) (h3 : spK s = s.size)
    (T B : Int) (hT : T = spT s) (hB : B = spB s) (good : Bool) (hgood : (textF T B == s.data.toList) = good) :
    Calls Tryd.prog 14 #[.string s] w fun e w' => e = fr (if good = true then T else 0) (if good = true then B else 0) good ∧ Below w.heap.size w w' := by
  have b45 : ((s[0].toNat : Int) == 45) = false := (body_pos s hng).2 hne
  have e0 : s.toList.isEmpty = false := by
    rw [ByteArray.toList_eq]
    cases hc : s.data.toList with
    | nil => have := congrArg List.length hc; rw [Array.length_toList] at this; simp only [List.length_nil] at this; have h' : s.size = 0 := this; omega
    | cons x l => rfl
  have e1 : (s.toList == []) = false := by cases hc : s.toList with
    | nil => rw [hc] at e0; cases e0
    | cons x l => rfl
  have hsz : s.size ≤ 2097152 := hs
  clear hng
  have CD := Lib.hid (fun w' => decimal_spec s w' hsz)
  obtain ⟨o1, o2⟩ := op_bd (decV s.data.toList) (decX s.data.toList) (decY s.data.toList)
  have hO : spO s = opOK (decV s.data.toList) (decX s.data.toList) (decY s.data.toList) := rfl
  obtain ⟨q1, q2⟩ := op_zero _ _ _ (hO.symm.trans h1)
  rw [← hO, h1, q1, q2] at CD
  clear o1 o2 q1 q2 hO
  have hvb := val0_bd s
  have hvb1 := val1_bd s
  have hkl := spK_le s
  have C0 := Lib.hid (fun w' => l2D0 s w' hsz)
  have hT2 : T = ((valAt s 0 (spK s) : Nat) : Int) := by rw [hT, spT, h1, if_neg (by simp), if_pos ⟨h2, h3⟩]
  have hB2 : B = 1 := by rw [hB, spB, h1, if_neg (by simp), if_pos ⟨h2, h3⟩]
  subst hB2
  clear hT hB
  clear h1
  generalize hv0 : valAt s 0 (spK s) = v0 at *
  generalize hk : spK s = k at *
  clear hv0 hk hvb1
  subst hT2
  have g0 : decide (0 < k) = true := decide_eq_true h2
  have g1 : (((k : Nat) : Int) == ((s.size : Nat) : Int)) = true := beq_iff_eq.mpr (by omega)
  have g2 : decide (k < s.size) = false := decide_eq_false (by omega)
  have g3 : (k == s.size) = true := beq_iff_eq.mpr h3
  clear h3
  have HEQ := Lib.hid (eqL (textF (v0 : Int) 1) s)
  rw [hgood] at HEQ
  have CT := Lib.hid (fun w' => fractionText_spec (v0 : Int) 1 w')
  clear hgood
  generalize (⟨(textF (v0 : Int) 1).toArray⟩ : ByteArray) = Z at *
  have hEE : (Z.toList == s.toList) = good := HEQ.out
  cases good
  all_goals
    go_enter Tryd.func14, Tryd.ntmps14
    go_wp2_with fail
    refine (CD.out _).mono ?_
    rintro e w1 ⟨rfl, hb1⟩
    have Z1 := Lib.hid ((ZeroF.new w 25).keep hb1)
    have hN : w.heap.size < w1.heap.size := Z1.out.2.2.2.2
    have hN1 : w.heap.size ≠ w1.heap.size := by omega
    have HB1 := Lib.hid (((Below.refl _ w).alloc (Nat.le_refl _) _).trans (hb1.mono (by simp))); clear hb1
    go_wp2_with fail
    refine (C0.out _).mono ?_
    rintro e w' ⟨rfl, rfl⟩
    go_wp2_with fail
    refine (CT.out _).mono ?_
    rintro e w3 ⟨rfl, hb3⟩
    have Z3 := Lib.hid ((Z1.out.al _).keep hb3)
    have F3 := Lib.hid (FrAt.keep (FrAt.new _ _ _ _) hb3)
    have HB3 := Lib.hid ((HB1.out.alloc HB1.out.size _).trans (hb3.mono (by have := HB1.out.size; simp; omega))); clear hb3
    obtain ⟨u0, u1, u2, u3, u4⟩ := Z3.out
    obtain ⟨d0, d1⟩ := F3.out
    go_wp2
    exact bodyPost_ret (v := .tuple #[.agg #[.int .i64 _, .int .i64 _], .bool _]) (by simp [results, Tryd.results14, go_sem, u0, u1]) rfl ⟨rfl, (HB3.out.setCell (Nat.le_refl _) _).setCell (Nat.le_refl _) _⟩

set_option maxRecDepth 100000 in
set_option maxHeartbeats 8000000 in
theorem read_pos4 (s : ByteArray) (w : World) (hs : s.size ≤ 2097152) (hng : negS s = false) (hne : 0 < s.size) (h1 : spO s = false) (h2 : 0 < spK s) (h3 : spK s < s.size) (h4 : ∀ (hz : spK s < s.size), (s[spK s].toNat : Int) ≠ 47)
    (T B : Int) (hT : T = spT s) (hB : B = spB s) (good : Bool) (hgood : (textF T B == s.data.toList) = good) :
    Calls Tryd.prog 14 #[.string s] w fun e w' => e = fr (if good = true then T else 0) (if good = true then B else 0) good ∧ Below w.heap.size w w' := by
  have b45 : ((s[0].toNat : Int) == 45) = false := (body_pos s hng).2 hne
  have e0 : s.toList.isEmpty = false := by
    rw [ByteArray.toList_eq]
    cases hc : s.data.toList with
    | nil => have := congrArg List.length hc; rw [Array.length_toList] at this; simp only [List.length_nil] at this; have h' : s.size = 0 := this; omega
    | cons x l => rfl
  have e1 : (s.toList == []) = false := by cases hc : s.toList with
    | nil => rw [hc] at e0; cases e0
    | cons x l => rfl
  have hsz : s.size ≤ 2097152 := hs
  clear hng
  have CD := Lib.hid (fun w' => decimal_spec s w' hsz)
  obtain ⟨o1, o2⟩ := op_bd (decV s.data.toList) (decX s.data.toList) (decY s.data.toList)
  have hO : spO s = opOK (decV s.data.toList) (decX s.data.toList) (decY s.data.toList) := rfl
  obtain ⟨q1, q2⟩ := op_zero _ _ _ (hO.symm.trans h1)
  rw [← hO, h1, q1, q2] at CD
  clear o1 o2 q1 q2 hO
  have hvb := val0_bd s
  have hvb1 := val1_bd s
  have hkl := spK_le s
  have C0 := Lib.hid (fun w' => l2D0 s w' hsz)
  have hgo : spGo s = false := by
    have e : s.data.toList[spK s]? = some s[spK s] := by rw [List.getElem?_eq_getElem (by rw [Array.length_toList]; exact h3)]; rfl
    simp only [spGo, spSl, e]
    have : (some s[spK s] == some (47 : UInt8)) = false := by
      rw [beq_eq_false_iff_ne]; intro hh; apply h4 h3; rw [Option.some.inj hh]; rfl
    rw [this]; simp
  have hT2 : T = 0 := by rw [hT, spT, h1, hgo, if_neg (by simp), if_neg (by intro h; omega), if_neg (by simp)]
  have hB2 : B = 0 := by rw [hB, spB, h1, hgo, if_neg (by simp), if_neg (by intro h; omega), if_neg (by simp)]
  subst hT2 hB2
  clear hT hB hgo
  have f47 : ((s[spK s].toNat : Int) == 47) = false := beq_eq_false_iff_ne.mpr (h4 h3)
  clear h4
  clear h1
  generalize hv0 : valAt s 0 (spK s) = v0 at *
  generalize hk : spK s = k at *
  clear hv0 hk hvb1
  have g0 : decide (0 < k) = true := decide_eq_true h2
  have g1 : (((k : Nat) : Int) == ((s.size : Nat) : Int)) = false := beq_eq_false_iff_ne.mpr (by omega)
  have g2 : decide (k < s.size) = true := decide_eq_true h3
  have g3 : (k == s.size) = false := beq_eq_false_iff_ne.mpr (by omega)
  have HEQ := Lib.hid (eqL (textF 0 0) s)
  rw [hgood] at HEQ
  have CT := Lib.hid (fun w' => fractionText_spec 0 0 w')
  clear hgood
  generalize (⟨(textF 0 0).toArray⟩ : ByteArray) = Z at *
  have hEE : (Z.toList == s.toList) = good := HEQ.out
  cases good
  all_goals
    go_enter Tryd.func14, Tryd.ntmps14
    go_wp2_with fail
    refine (CD.out _).mono ?_
    rintro e w1 ⟨rfl, hb1⟩
    have Z1 := Lib.hid ((ZeroF.new w 25).keep hb1)
    have hN : w.heap.size < w1.heap.size := Z1.out.2.2.2.2
    have hN1 : w.heap.size ≠ w1.heap.size := by omega
    have HB1 := Lib.hid (((Below.refl _ w).alloc (Nat.le_refl _) _).trans (hb1.mono (by simp))); clear hb1
    go_wp2_with fail
    refine (C0.out _).mono ?_
    rintro e w' ⟨rfl, rfl⟩
    go_wp2_with fail
    refine (CT.out _).mono ?_
    rintro e w3 ⟨rfl, hb3⟩
    have Z3 := Lib.hid ((Z1.out.al _).keep hb3)
    have F3 := Lib.hid (FrAt.keep (FrAt.new _ _ _ _) hb3)
    have HB3 := Lib.hid ((HB1.out.alloc HB1.out.size _).trans (hb3.mono (by have := HB1.out.size; simp; omega))); clear hb3
    obtain ⟨u0, u1, u2, u3, u4⟩ := Z3.out
    obtain ⟨d0, d1⟩ := F3.out
    go_wp2
    exact bodyPost_ret (v := .tuple #[.agg #[.int .i64 _, .int .i64 _], .bool _]) (by simp [results, Tryd.results14, go_sem, u0, u1]) rfl ⟨rfl, (HB3.out.setCell (Nat.le_refl _) _).setCell (Nat.le_refl _) _⟩

set_option maxRecDepth 100000 in
set_option maxHeartbeats 8000000 in
theorem read_pos5 (s : ByteArray) (w : World) (hs : s.size ≤ 2097152) (hng : negS s = false) (hne : 0 < s.size) (h1 : spO s = false) (h2 : 0 < spK s) (h3 : spK s < s.size) (h4 : ∀ (hz : spK s < s.size), (s[spK s].toNat : Int) = 47) (h5 : ¬ (spK s + 1 + spJ s = s.size ∧ 0 < valAt s (spK s + 1) (spJ s)))
    (T B : Int) (hT : T = spT s) (hB : B = spB s) (good : Bool) (hgood : (textF T B == s.data.toList) = good) :
    Calls Tryd.prog 14 #[.string s] w fun e w' => e = fr (if good = true then T else 0) (if good = true then B else 0) good ∧ Below w.heap.size w w' := by
  have b45 : ((s[0].toNat : Int) == 45) = false := (body_pos s hng).2 hne
  have e0 : s.toList.isEmpty = false := by
    rw [ByteArray.toList_eq]
    cases hc : s.data.toList with
    | nil => have := congrArg List.length hc; rw [Array.length_toList] at this; simp only [List.length_nil] at this; have h' : s.size = 0 := this; omega
    | cons x l => rfl
  have e1 : (s.toList == []) = false := by cases hc : s.toList with
    | nil => rw [hc] at e0; cases e0
    | cons x l => rfl
  have hsz : s.size ≤ 2097152 := hs
  clear hng
  have CD := Lib.hid (fun w' => decimal_spec s w' hsz)
  obtain ⟨o1, o2⟩ := op_bd (decV s.data.toList) (decX s.data.toList) (decY s.data.toList)
  have hO : spO s = opOK (decV s.data.toList) (decX s.data.toList) (decY s.data.toList) := rfl
  obtain ⟨q1, q2⟩ := op_zero _ _ _ (hO.symm.trans h1)
  rw [← hO, h1, q1, q2] at CD
  clear o1 o2 q1 q2 hO
  have hvb := val0_bd s
  have hvb1 := val1_bd s
  have hkl := spK_le s
  have C0 := Lib.hid (fun w' => l2D0 s w' hsz)
  have C1 := Lib.hid (fun w' => l2D1 s w' hsz (by omega))
  have hgo : spGo s = false := by
    rw [Bool.eq_false_iff]; intro hg
    simp only [spGo, Bool.and_eq_true, decide_eq_true_eq] at hg
    exact h5 ⟨hg.1.2, hg.2⟩
  have hT2 : T = 0 := by rw [hT, spT, h1, hgo, if_neg (by simp), if_neg (by intro h; omega), if_neg (by simp)]
  have hB2 : B = 0 := by rw [hB, spB, h1, hgo, if_neg (by simp), if_neg (by intro h; omega), if_neg (by simp)]
  subst hT2 hB2
  clear hT hB hgo
  have f47 : ((s[spK s].toNat : Int) == 47) = true := beq_iff_eq.mpr (h4 h3)
  clear h4
  clear h1
  generalize hv0 : valAt s 0 (spK s) = v0 at *
  generalize hv1 : valAt s (spK s + 1) (spJ s) = v1 at *
  generalize hj : spJ s = j at *
  generalize hk : spK s = k at *
  generalize hm : k + 1 + j = m at *
  clear hv0 hk hv1 hj hm
  have g0 : decide (0 < k) = true := decide_eq_true h2
  have g1 : (((k : Nat) : Int) == ((s.size : Nat) : Int)) = false := beq_eq_false_iff_ne.mpr (by omega)
  have g2 : decide (k < s.size) = true := decide_eq_true h3
  have g3 : (k == s.size) = false := beq_eq_false_iff_ne.mpr (by omega)
  have HEQ := Lib.hid (eqL (textF 0 0) s)
  rw [hgood] at HEQ
  have CT := Lib.hid (fun w' => fractionText_spec 0 0 w')
  clear hgood
  generalize (⟨(textF 0 0).toArray⟩ : ByteArray) = Z at *
  have hEE : (Z.toList == s.toList) = good := HEQ.out
  cases good
  all_goals
    go_enter Tryd.func14, Tryd.ntmps14
    go_wp2_with fail
    refine (CD.out _).mono ?_
    rintro e w1 ⟨rfl, hb1⟩
    have Z1 := Lib.hid ((ZeroF.new w 25).keep hb1)
    have hN : w.heap.size < w1.heap.size := Z1.out.2.2.2.2
    have hN1 : w.heap.size ≠ w1.heap.size := by omega
    have HB1 := Lib.hid (((Below.refl _ w).alloc (Nat.le_refl _) _).trans (hb1.mono (by simp))); clear hb1
    go_wp2_with fail
    refine (C0.out _).mono ?_
    rintro e w' ⟨rfl, rfl⟩
    go_wp2_with fail
    rw [show ((k : Int) + 1) = ((k + 1 : Nat) : Int) by omega]
    refine (C1.out _).mono ?_
    rintro e w' ⟨rfl, rfl⟩
    by_cases h6 : m = s.size
    · have g4 : (((m : Nat) : Int) == ((s.size : Nat) : Int)) = true := beq_iff_eq.mpr (by omega)
      have g7 : (m == s.size) = true := beq_iff_eq.mpr h6
      have g5 : decide (0 < v1) = false := decide_eq_false (fun h => h5 ⟨h6, h⟩)
      have g6 : v1 = 0 := by have := of_decide_eq_false g5; omega
      clear h5 h6
      subst g6
      go_wp2_with fail
      refine (CT.out _).mono ?_
      rintro e w3 ⟨rfl, hb3⟩
      have Z3 := Lib.hid ((Z1.out.al _).keep hb3)
      have F3 := Lib.hid (FrAt.keep (FrAt.new _ _ _ _) hb3)
      have HB3 := Lib.hid ((HB1.out.alloc HB1.out.size _).trans (hb3.mono (by have := HB1.out.size; simp; omega))); clear hb3
      obtain ⟨u0, u1, u2, u3, u4⟩ := Z3.out
      obtain ⟨d0, d1⟩ := F3.out
      go_wp2
      exact bodyPost_ret (v := .tuple #[.agg #[.int .i64 _, .int .i64 _], .bool _]) (by simp [results, Tryd.results14, go_sem, u0, u1]) rfl ⟨rfl, (HB3.out.setCell (Nat.le_refl _) _).setCell (Nat.le_refl _) _⟩
    · have g4 : (((m : Nat) : Int) == ((s.size : Nat) : Int)) = false := beq_eq_false_iff_ne.mpr (by omega)
      have g7 : (m == s.size) = false := beq_eq_false_iff_ne.mpr h6
      clear h5 h6
      go_wp2_with fail
      refine (CT.out _).mono ?_
      rintro e w3 ⟨rfl, hb3⟩
      have Z3 := Lib.hid ((Z1.out.al _).keep hb3)
      have F3 := Lib.hid (FrAt.keep (FrAt.new _ _ _ _) hb3)
      have HB3 := Lib.hid ((HB1.out.alloc HB1.out.size _).trans (hb3.mono (by have := HB1.out.size; simp; omega))); clear hb3
      obtain ⟨u0, u1, u2, u3, u4⟩ := Z3.out
      obtain ⟨d0, d1⟩ := F3.out
      go_wp2
      exact bodyPost_ret (v := .tuple #[.agg #[.int .i64 _, .int .i64 _], .bool _]) (by simp [results, Tryd.results14, go_sem, u0, u1]) rfl ⟨rfl, (HB3.out.setCell (Nat.le_refl _) _).setCell (Nat.le_refl _) _⟩

set_option maxRecDepth 100000 in
set_option maxHeartbeats 8000000 in
theorem read_pos6 (s : ByteArray) (w : World) (hs : s.size ≤ 2097152) (hng : negS s = false) (hne : 0 < s.size) (h1 : spO s = false) (h2 : 0 < spK s) (h3 : spK s < s.size) (h4 : ∀ (hz : spK s < s.size), (s[spK s].toNat : Int) = 47) (h5 : spK s + 1 + spJ s = s.size) (h6 : 0 < valAt s (spK s + 1) (spJ s))
    (T B : Int) (hT : T = spT s) (hB : B = spB s) (good : Bool) (hgood : (textF T B == s.data.toList) = good) :
    Calls Tryd.prog 14 #[.string s] w fun e w' => e = fr (if good = true then T else 0) (if good = true then B else 0) good ∧ Below w.heap.size w w' := by
  have b45 : ((s[0].toNat : Int) == 45) = false := (body_pos s hng).2 hne
  have e0 : s.toList.isEmpty = false := by
    rw [ByteArray.toList_eq]
    cases hc : s.data.toList with
    | nil => have := congrArg List.length hc; rw [Array.length_toList] at this; simp only [List.length_nil] at this; have h' : s.size = 0 := this; omega
    | cons x l => rfl
  have e1 : (s.toList == []) = false := by cases hc : s.toList with
    | nil => rw [hc] at e0; cases e0
    | cons x l => rfl
  have hsz : s.size ≤ 2097152 := hs
  clear hng
  have CD := Lib.hid (fun w' => decimal_spec s w' hsz)
  obtain ⟨o1, o2⟩ := op_bd (decV s.data.toList) (decX s.data.toList) (decY s.data.toList)
  have hO : spO s = opOK (decV s.data.toList) (decX s.data.toList) (decY s.data.toList) := rfl
  obtain ⟨q1, q2⟩ := op_zero _ _ _ (hO.symm.trans h1)
  rw [← hO, h1, q1, q2] at CD
  clear o1 o2 q1 q2 hO
  have hvb := val0_bd s
  have hvb1 := val1_bd s
  have hkl := spK_le s
  have C0 := Lib.hid (fun w' => l2D0 s w' hsz)
  have C1 := Lib.hid (fun w' => l2D1 s w' hsz (by omega))
  have e47 : s.data.toList[spK s]? = some 47 := by
    rw [List.getElem?_eq_getElem (by rw [Array.length_toList]; exact h3)]
    congr 1
    exact UInt8.toNat_inj.mp (by have := h4 h3; show s[spK s].toNat = 47; omega)
  have hgo : spGo s = true := by simp only [spGo, spSl, e47, decide_eq_true h2, decide_eq_true h3, decide_eq_true h5, decide_eq_true h6]; rfl
  have hT2 : T = ((valAt s 0 (spK s) : Nat) : Int) := by rw [hT, spT, h1, hgo, if_neg (by simp), if_neg (by intro h; omega), if_pos rfl]
  have hB2 : B = ((valAt s (spK s + 1) (spJ s) : Nat) : Int) := by rw [hB, spB, h1, hgo, if_neg (by simp), if_neg (by intro h; omega), if_pos rfl]
  clear hT hB hgo e47
  have f47 : ((s[spK s].toNat : Int) == 47) = true := beq_iff_eq.mpr (h4 h3)
  clear h4
  clear h1
  generalize hv0 : valAt s 0 (spK s) = v0 at *
  generalize hv1 : valAt s (spK s + 1) (spJ s) = v1 at *
  generalize hj : spJ s = j at *
  generalize hk : spK s = k at *
  generalize hm : k + 1 + j = m at *
  clear hv0 hk hv1 hj hm
  subst hT2 hB2
  have g0 : decide (0 < k) = true := decide_eq_true h2
  have g1 : (((k : Nat) : Int) == ((s.size : Nat) : Int)) = false := beq_eq_false_iff_ne.mpr (by omega)
  have g2 : decide (k < s.size) = true := decide_eq_true h3
  have g3 : (k == s.size) = false := beq_eq_false_iff_ne.mpr (by omega)
  have g4 : (((m : Nat) : Int) == ((s.size : Nat) : Int)) = true := beq_iff_eq.mpr (by omega)
  have g6 : (m == s.size) = true := beq_iff_eq.mpr h5
  have g5 : decide (0 < v1) = true := decide_eq_true h6
  clear h5
  have HEQ := Lib.hid (eqL (textF (v0 : Int) (v1 : Int)) s)
  rw [hgood] at HEQ
  have CT := Lib.hid (fun w' => fractionText_spec (v0 : Int) (v1 : Int) w')
  clear hgood
  generalize (⟨(textF (v0 : Int) (v1 : Int)).toArray⟩ : ByteArray) = Z at *
  have hEE : (Z.toList == s.toList) = good := HEQ.out
  cases good
  all_goals
    go_enter Tryd.func14, Tryd.ntmps14
    go_wp2_with fail
    refine (CD.out _).mono ?_
    rintro e w1 ⟨rfl, hb1⟩
    have Z1 := Lib.hid ((ZeroF.new w 25).keep hb1)
    have hN : w.heap.size < w1.heap.size := Z1.out.2.2.2.2
    have hN1 : w.heap.size ≠ w1.heap.size := by omega
    have HB1 := Lib.hid (((Below.refl _ w).alloc (Nat.le_refl _) _).trans (hb1.mono (by simp))); clear hb1
    go_wp2_with fail
    refine (C0.out _).mono ?_
    rintro e w' ⟨rfl, rfl⟩
    go_wp2_with fail
    rw [show ((k : Int) + 1) = ((k + 1 : Nat) : Int) by omega]
    refine (C1.out _).mono ?_
    rintro e w' ⟨rfl, rfl⟩
    go_wp2_with fail
    refine (CT.out _).mono ?_
    rintro e w3 ⟨rfl, hb3⟩
    have Z3 := Lib.hid ((Z1.out.al _).keep hb3)
    have F3 := Lib.hid (FrAt.keep (FrAt.new _ _ _ _) hb3)
    have HB3 := Lib.hid ((HB1.out.alloc HB1.out.size _).trans (hb3.mono (by have := HB1.out.size; simp; omega))); clear hb3
    obtain ⟨u0, u1, u2, u3, u4⟩ := Z3.out
    obtain ⟨d0, d1⟩ := F3.out
    go_wp2
    exact bodyPost_ret (v := .tuple #[.agg #[.int .i64 _, .int .i64 _], .bool _]) (by simp [results, Tryd.results14, go_sem, u0, u1]) rfl ⟨rfl, (HB3.out.setCell (Nat.le_refl _) _).setCell (Nat.le_refl _) _⟩

set_option maxRecDepth 100000 in
set_option maxHeartbeats 8000000 in
theorem read_neg1 (s : ByteArray) (w : World) (hs : s.size ≤ 2097152) (hng : negS s = true) (h1 : spO (bodyS s) = true)
    (T B : Int) (hT : T = spT (bodyS s)) (hB : B = spB (bodyS s)) (good : Bool) (hgood : (textF (-T) B == s.data.toList) = good) :
    Calls Tryd.prog 14 #[.string s] w fun e w' => e = fr (if good = true then (-T) else 0) (if good = true then B else 0) good ∧ Below w.heap.size w w' := by
  obtain ⟨hne, hbx, h45⟩ := body_neg s hng
  have HBX := Lib.hid hbx
  have b45 : ((s[0].toNat : Int) == 45) = true := beq_iff_eq.mpr (h45 hne)
  have e0 : s.toList.isEmpty = false := by
    rw [ByteArray.toList_eq]
    cases hc : s.data.toList with
    | nil => have := congrArg List.length hc; rw [Array.length_toList] at this; simp only [List.length_nil] at this; have h' : s.size = 0 := this; omega
    | cons x l => rfl
  have e1 : (s.toList == []) = false := by cases hc : s.toList with
    | nil => rw [hc] at e0; cases e0
    | cons x l => rfl
  have hsz : (bodyS s).size ≤ 2097152 := by have := bodyS_le s; omega
  clear hng hbx h45
  generalize hXX : bodyS s = X at *
  clear hXX
  have CD := Lib.hid (fun w' => decimal_spec X w' hsz)
  obtain ⟨o1, o2⟩ := op_bd (decV X.data.toList) (decX X.data.toList) (decY X.data.toList)
  have hO : spO X = opOK (decV X.data.toList) (decX X.data.toList) (decY X.data.toList) := rfl
  have hT2 : T = opT (decV X.data.toList) (decX X.data.toList) (decY X.data.toList) := by rw [hT, spT, if_pos h1]
  have hB2 : B = opB (decV X.data.toList) (decX X.data.toList) (decY X.data.toList) := by rw [hB, spB, if_pos h1]
  rw [← hO, h1, ← hT2, ← hB2] at CD
  rw [← hT2] at o1 o2
  clear hO hT hB hT2 hB2 h1
  have HEQ := Lib.hid (eqL (textF (-T) B) s)
  rw [hgood] at HEQ
  have CT := Lib.hid (fun w' => fractionText_spec (-T) B w')
  clear hgood
  generalize (⟨(textF (-T) B).toArray⟩ : ByteArray) = Z at *
  have hEE : (Z.toList == s.toList) = good := HEQ.out
  cases good
  all_goals
    go_enter Tryd.func14, Tryd.ntmps14
    go_wp2_with fail
    rw [HBX.out]
    refine (CD.out _).mono ?_
    rintro e w1 ⟨rfl, hb1⟩
    have Z1 := Lib.hid ((ZeroF.new w 25).keep hb1)
    have hN : w.heap.size < w1.heap.size := Z1.out.2.2.2.2
    have hN1 : w.heap.size ≠ w1.heap.size := by omega
    have HB1 := Lib.hid (((Below.refl _ w).alloc (Nat.le_refl _) _).trans (hb1.mono (by simp))); clear hb1
    go_wp2_with fail
    refine (CT.out _).mono ?_
    rintro e w3 ⟨rfl, hb3⟩
    have Z3 := Lib.hid ((Z1.out.al _).keep hb3)
    have F3 := Lib.hid (FrAt.keep (FrAt.new _ _ _ _) hb3)
    have HB3 := Lib.hid ((HB1.out.alloc HB1.out.size _).trans (hb3.mono (by have := HB1.out.size; simp; omega))); clear hb3
    obtain ⟨u0, u1, u2, u3, u4⟩ := Z3.out
    obtain ⟨d0, d1⟩ := F3.out
    go_wp2
    exact bodyPost_ret (v := .tuple #[.agg #[.int .i64 _, .int .i64 _], .bool _]) (by simp [results, Tryd.results14, go_sem, u0, u1]) rfl ⟨rfl, (HB3.out.setCell (Nat.le_refl _) _).setCell (Nat.le_refl _) _⟩

set_option maxRecDepth 100000 in
set_option maxHeartbeats 8000000 in
theorem read_neg2 (s : ByteArray) (w : World) (hs : s.size ≤ 2097152) (hng : negS s = true) (h1 : spO (bodyS s) = false) (h2 : spK (bodyS s) = 0)
    (T B : Int) (hT : T = spT (bodyS s)) (hB : B = spB (bodyS s)) (good : Bool) (hgood : (textF (-T) B == s.data.toList) = good) :
    Calls Tryd.prog 14 #[.string s] w fun e w' => e = fr (if good = true then (-T) else 0) (if good = true then B else 0) good ∧ Below w.heap.size w w' := by
  obtain ⟨hne, hbx, h45⟩ := body_neg s hng
  have HBX := Lib.hid hbx
  have b45 : ((s[0].toNat : Int) == 45) = true := beq_iff_eq.mpr (h45 hne)
  have e0 : s.toList.isEmpty = false := by
    rw [ByteArray.toList_eq]
    cases hc : s.data.toList with
    | nil => have := congrArg List.length hc; rw [Array.length_toList] at this; simp only [List.length_nil] at this; have h' : s.size = 0 := this; omega
    | cons x l => rfl
  have e1 : (s.toList == []) = false := by cases hc : s.toList with
    | nil => rw [hc] at e0; cases e0
    | cons x l => rfl
  have hsz : (bodyS s).size ≤ 2097152 := by have := bodyS_le s; omega
  clear hng hbx h45
  generalize hXX : bodyS s = X at *
  clear hXX
  have CD := Lib.hid (fun w' => decimal_spec X w' hsz)
  obtain ⟨o1, o2⟩ := op_bd (decV X.data.toList) (decX X.data.toList) (decY X.data.toList)
  have hO : spO X = opOK (decV X.data.toList) (decX X.data.toList) (decY X.data.toList) := rfl
  obtain ⟨q1, q2⟩ := op_zero _ _ _ (hO.symm.trans h1)
  rw [← hO, h1, q1, q2] at CD
  clear o1 o2 q1 q2 hO
  have hvb := val0_bd X
  have hvb1 := val1_bd X
  have hkl := spK_le X
  have C0 := Lib.hid (fun w' => l2D0 X w' hsz)
  have hgo : spGo X = false := by simp [spGo, spSl, h2]
  have hT2 : T = 0 := by rw [hT, spT, h1, hgo, if_neg (by simp), if_neg (by intro h; omega), if_neg (by simp)]
  have hB2 : B = 0 := by rw [hB, spB, h1, hgo, if_neg (by simp), if_neg (by intro h; omega), if_neg (by simp)]
  subst hT2 hB2
  clear hT hB hgo
  clear h1
  generalize hv0 : valAt X 0 (spK X) = v0 at *
  generalize hk : spK X = k at *
  clear hv0 hk hvb1
  subst h2
  have HEQ := Lib.hid (eqL (textF (-0) 0) s)
  rw [hgood] at HEQ
  have CT := Lib.hid (fun w' => fractionText_spec (-0) 0 w')
  rw [show (-0 : Int) = 0 from rfl] at HEQ CT
  rw [show (-0 : Int) = 0 from rfl]
  clear hgood
  generalize (⟨(textF 0 0).toArray⟩ : ByteArray) = Z at *
  have hEE : (Z.toList == s.toList) = good := HEQ.out
  cases good
  all_goals
    go_enter Tryd.func14, Tryd.ntmps14
    go_wp2_with fail
    rw [HBX.out]
    refine (CD.out _).mono ?_
    rintro e w1 ⟨rfl, hb1⟩
    have Z1 := Lib.hid ((ZeroF.new w 25).keep hb1)
    have hN : w.heap.size < w1.heap.size := Z1.out.2.2.2.2
    have hN1 : w.heap.size ≠ w1.heap.size := by omega
    have HB1 := Lib.hid (((Below.refl _ w).alloc (Nat.le_refl _) _).trans (hb1.mono (by simp))); clear hb1
    go_wp2_with fail
    refine (C0.out _).mono ?_
    rintro e w' ⟨rfl, rfl⟩
    go_wp2_with fail
    refine (CT.out _).mono ?_
    rintro e w3 ⟨rfl, hb3⟩
    have Z3 := Lib.hid ((Z1.out.al _).keep hb3)
    have F3 := Lib.hid (FrAt.keep (FrAt.new _ _ _ _) hb3)
    have HB3 := Lib.hid ((HB1.out.alloc HB1.out.size _).trans (hb3.mono (by have := HB1.out.size; simp; omega))); clear hb3
    obtain ⟨u0, u1, u2, u3, u4⟩ := Z3.out
    obtain ⟨d0, d1⟩ := F3.out
    go_wp2
    exact bodyPost_ret (v := .tuple #[.agg #[.int .i64 _, .int .i64 _], .bool _]) (by simp [results, Tryd.results14, go_sem, u0, u1]) rfl ⟨rfl, (HB3.out.setCell (Nat.le_refl _) _).setCell (Nat.le_refl _) _⟩

set_option maxRecDepth 100000 in
set_option maxHeartbeats 8000000 in
theorem read_neg3 (s : ByteArray) (w : World) (hs : s.size ≤ 2097152) (hng : negS s = true) (h1 : spO (bodyS s) = false) (h2 : 0 < spK (bodyS s)) (h3 : spK (bodyS s) = (bodyS s).size)
    (T B : Int) (hT : T = spT (bodyS s)) (hB : B = spB (bodyS s)) (good : Bool) (hgood : (textF (-T) B == s.data.toList) = good) :
    Calls Tryd.prog 14 #[.string s] w fun e w' => e = fr (if good = true then (-T) else 0) (if good = true then B else 0) good ∧ Below w.heap.size w w' := by
  obtain ⟨hne, hbx, h45⟩ := body_neg s hng
  have HBX := Lib.hid hbx
  have b45 : ((s[0].toNat : Int) == 45) = true := beq_iff_eq.mpr (h45 hne)
  have e0 : s.toList.isEmpty = false := by
    rw [ByteArray.toList_eq]
    cases hc : s.data.toList with
    | nil => have := congrArg List.length hc; rw [Array.length_toList] at this; simp only [List.length_nil] at this; have h' : s.size = 0 := this; omega
    | cons x l => rfl
  have e1 : (s.toList == []) = false := by cases hc : s.toList with
    | nil => rw [hc] at e0; cases e0
    | cons x l => rfl
  have hsz : (bodyS s).size ≤ 2097152 := by have := bodyS_le s; omega
  clear hng hbx h45
  generalize hXX : bodyS s = X at *
  clear hXX
  have CD := Lib.hid (fun w' => decimal_spec X w' hsz)
  obtain ⟨o1, o2⟩ := op_bd (decV X.data.toList) (decX X.data.toList) (decY X.data.toList)
  have hO : spO X = opOK (decV X.data.toList) (decX X.data.toList) (decY X.data.toList) := rfl
  obtain ⟨q1, q2⟩ := op_zero _ _ _ (hO.symm.trans h1)
  rw [← hO, h1, q1, q2] at CD
  clear o1 o2 q1 q2 hO
  have hvb := val0_bd X
  have hvb1 := val1_bd X
  have hkl := spK_le X
  have C0 := Lib.hid (fun w' => l2D0 X w' hsz)
  have hT2 : T = ((valAt X 0 (spK X) : Nat) : Int) := by rw [hT, spT, h1, if_neg (by simp), if_pos ⟨h2, h3⟩]
  have hB2 : B = 1 := by rw [hB, spB, h1, if_neg (by simp), if_pos ⟨h2, h3⟩]
  subst hB2
  clear hT hB
  clear h1
  generalize hv0 : valAt X 0 (spK X) = v0 at *
  generalize hk : spK X = k at *
  clear hv0 hk hvb1
  subst hT2
  have g0 : decide (0 < k) = true := decide_eq_true h2
  have g1 : (((k : Nat) : Int) == ((X.size : Nat) : Int)) = true := beq_iff_eq.mpr (by omega)
  have g2 : decide (k < X.size) = false := decide_eq_false (by omega)
  have g3 : (k == X.size) = true := beq_iff_eq.mpr h3
  clear h3
  have HEQ := Lib.hid (eqL (textF (-(v0 : Int)) 1) s)
  rw [hgood] at HEQ
  have CT := Lib.hid (fun w' => fractionText_spec (-(v0 : Int)) 1 w')
  clear hgood
  generalize (⟨(textF (-(v0 : Int)) 1).toArray⟩ : ByteArray) = Z at *
  have hEE : (Z.toList == s.toList) = good := HEQ.out
  cases good
  all_goals
    go_enter Tryd.func14, Tryd.ntmps14
    go_wp2_with fail
    rw [HBX.out]
    refine (CD.out _).mono ?_
    rintro e w1 ⟨rfl, hb1⟩
    have Z1 := Lib.hid ((ZeroF.new w 25).keep hb1)
    have hN : w.heap.size < w1.heap.size := Z1.out.2.2.2.2
    have hN1 : w.heap.size ≠ w1.heap.size := by omega
    have HB1 := Lib.hid (((Below.refl _ w).alloc (Nat.le_refl _) _).trans (hb1.mono (by simp))); clear hb1
    go_wp2_with fail
    refine (C0.out _).mono ?_
    rintro e w' ⟨rfl, rfl⟩
    go_wp2_with fail
    refine (CT.out _).mono ?_
    rintro e w3 ⟨rfl, hb3⟩
    have Z3 := Lib.hid ((Z1.out.al _).keep hb3)
    have F3 := Lib.hid (FrAt.keep (FrAt.new _ _ _ _) hb3)
    have HB3 := Lib.hid ((HB1.out.alloc HB1.out.size _).trans (hb3.mono (by have := HB1.out.size; simp; omega))); clear hb3
    obtain ⟨u0, u1, u2, u3, u4⟩ := Z3.out
    obtain ⟨d0, d1⟩ := F3.out
    go_wp2
    exact bodyPost_ret (v := .tuple #[.agg #[.int .i64 _, .int .i64 _], .bool _]) (by simp [results, Tryd.results14, go_sem, u0, u1]) rfl ⟨rfl, (HB3.out.setCell (Nat.le_refl _) _).setCell (Nat.le_refl _) _⟩

set_option maxRecDepth 100000 in
set_option maxHeartbeats 8000000 in
theorem read_neg4 (s : ByteArray) (w : World) (hs : s.size ≤ 2097152) (hng : negS s = true) (h1 : spO (bodyS s) = false) (h2 : 0 < spK (bodyS s)) (h3 : spK (bodyS s) < (bodyS s).size) (h4 : ∀ (hz : spK (bodyS s) < (bodyS s).size), ((bodyS s)[spK (bodyS s)].toNat : Int) ≠ 47)
    (T B : Int) (hT : T = spT (bodyS s)) (hB : B = spB (bodyS s)) (good : Bool) (hgood : (textF (-T) B == s.data.toList) = good) :
    Calls Tryd.prog 14 #[.string s] w fun e w' => e = fr (if good = true then (-T) else 0) (if good = true then B else 0) good ∧ Below w.heap.size w w' := by
  obtain ⟨hne, hbx, h45⟩ := body_neg s hng
  have HBX := Lib.hid hbx
  have b45 : ((s[0].toNat : Int) == 45) = true := beq_iff_eq.mpr (h45 hne)
  have e0 : s.toList.isEmpty = false := by
    rw [ByteArray.toList_eq]
    cases hc : s.data.toList with
    | nil => have := congrArg List.length hc; rw [Array.length_toList] at this; simp only [List.length_nil] at this; have h' : s.size = 0 := this; omega
    | cons x l => rfl
  have e1 : (s.toList == []) = false := by cases hc : s.toList with
    | nil => rw [hc] at e0; cases e0
    | cons x l => rfl
  have hsz : (bodyS s).size ≤ 2097152 := by have := bodyS_le s; omega
  clear hng hbx h45
  generalize hXX : bodyS s = X at *
  clear hXX
  have CD := Lib.hid (fun w' => decimal_spec X w' hsz)
  obtain ⟨o1, o2⟩ := op_bd (decV X.data.toList) (decX X.data.toList) (decY X.data.toList)
  have hO : spO X = opOK (decV X.data.toList) (decX X.data.toList) (decY X.data.toList) := rfl
  obtain ⟨q1, q2⟩ := op_zero _ _ _ (hO.symm.trans h1)
  rw [← hO, h1, q1, q2] at CD
  clear o1 o2 q1 q2 hO
  have hvb := val0_bd X
  have hvb1 := val1_bd X
  have hkl := spK_le X
  have C0 := Lib.hid (fun w' => l2D0 X w' hsz)
  have hgo : spGo X = false := by
    have e : X.data.toList[spK X]? = some X[spK X] := by rw [List.getElem?_eq_getElem (by rw [Array.length_toList]; exact h3)]; rfl
    simp only [spGo, spSl, e]
    have : (some X[spK X] == some (47 : UInt8)) = false := by
      rw [beq_eq_false_iff_ne]; intro hh; apply h4 h3; rw [Option.some.inj hh]; rfl
    rw [this]; simp
  have hT2 : T = 0 := by rw [hT, spT, h1, hgo, if_neg (by simp), if_neg (by intro h; omega), if_neg (by simp)]
  have hB2 : B = 0 := by rw [hB, spB, h1, hgo, if_neg (by simp), if_neg (by intro h; omega), if_neg (by simp)]
  subst hT2 hB2
  clear hT hB hgo
  have f47 : ((X[spK X].toNat : Int) == 47) = false := beq_eq_false_iff_ne.mpr (h4 h3)
  clear h4
  clear h1
  generalize hv0 : valAt X 0 (spK X) = v0 at *
  generalize hk : spK X = k at *
  clear hv0 hk hvb1
  have g0 : decide (0 < k) = true := decide_eq_true h2
  have g1 : (((k : Nat) : Int) == ((X.size : Nat) : Int)) = false := beq_eq_false_iff_ne.mpr (by omega)
  have g2 : decide (k < X.size) = true := decide_eq_true h3
  have g3 : (k == X.size) = false := beq_eq_false_iff_ne.mpr (by omega)
  have HEQ := Lib.hid (eqL (textF (-0) 0) s)
  rw [hgood] at HEQ
  have CT := Lib.hid (fun w' => fractionText_spec (-0) 0 w')
  rw [show (-0 : Int) = 0 from rfl] at HEQ CT
  rw [show (-0 : Int) = 0 from rfl]
  clear hgood
  generalize (⟨(textF 0 0).toArray⟩ : ByteArray) = Z at *
  have hEE : (Z.toList == s.toList) = good := HEQ.out
  cases good
  all_goals
    go_enter Tryd.func14, Tryd.ntmps14
    go_wp2_with fail
    rw [HBX.out]
    refine (CD.out _).mono ?_
    rintro e w1 ⟨rfl, hb1⟩
    have Z1 := Lib.hid ((ZeroF.new w 25).keep hb1)
    have hN : w.heap.size < w1.heap.size := Z1.out.2.2.2.2
    have hN1 : w.heap.size ≠ w1.heap.size := by omega
    have HB1 := Lib.hid (((Below.refl _ w).alloc (Nat.le_refl _) _).trans (hb1.mono (by simp))); clear hb1
    go_wp2_with fail
    refine (C0.out _).mono ?_
    rintro e w' ⟨rfl, rfl⟩
    go_wp2_with fail
    refine (CT.out _).mono ?_
    rintro e w3 ⟨rfl, hb3⟩
    have Z3 := Lib.hid ((Z1.out.al _).keep hb3)
    have F3 := Lib.hid (FrAt.keep (FrAt.new _ _ _ _) hb3)
    have HB3 := Lib.hid ((HB1.out.alloc HB1.out.size _).trans (hb3.mono (by have := HB1.out.size; simp; omega))); clear hb3
    obtain ⟨u0, u1, u2, u3, u4⟩ := Z3.out
    obtain ⟨d0, d1⟩ := F3.out
    go_wp2
    exact bodyPost_ret (v := .tuple #[.agg #[.int .i64 _, .int .i64 _], .bool _]) (by simp [results, Tryd.results14, go_sem, u0, u1]) rfl ⟨rfl, (HB3.out.setCell (Nat.le_refl _) _).setCell (Nat.le_refl _) _⟩

set_option maxRecDepth 100000 in
set_option maxHeartbeats 8000000 in
theorem read_neg5 (s : ByteArray) (w : World) (hs : s.size ≤ 2097152) (hng : negS s = true) (h1 : spO (bodyS s) = false) (h2 : 0 < spK (bodyS s)) (h3 : spK (bodyS s) < (bodyS s).size) (h4 : ∀ (hz : spK (bodyS s) < (bodyS s).size), ((bodyS s)[spK (bodyS s)].toNat : Int) = 47) (h5 : ¬ (spK (bodyS s) + 1 + spJ (bodyS s) = (bodyS s).size ∧ 0 < valAt (bodyS s) (spK (bodyS s) + 1) (spJ (bodyS s))))
    (T B : Int) (hT : T = spT (bodyS s)) (hB : B = spB (bodyS s)) (good : Bool) (hgood : (textF (-T) B == s.data.toList) = good) :
    Calls Tryd.prog 14 #[.string s] w fun e w' => e = fr (if good = true then (-T) else 0) (if good = true then B else 0) good ∧ Below w.heap.size w w' := by
  obtain ⟨hne, hbx, h45⟩ := body_neg s hng
  have HBX := Lib.hid hbx
  have b45 : ((s[0].toNat : Int) == 45) = true := beq_iff_eq.mpr (h45 hne)
  have e0 : s.toList.isEmpty = false := by
    rw [ByteArray.toList_eq]
    cases hc : s.data.toList with
    | nil => have := congrArg List.length hc; rw [Array.length_toList] at this; simp only [List.length_nil] at this; have h' : s.size = 0 := this; omega
    | cons x l => rfl
  have e1 : (s.toList == []) = false := by cases hc : s.toList with
    | nil => rw [hc] at e0; cases e0
    | cons x l => rfl
  have hsz : (bodyS s).size ≤ 2097152 := by have := bodyS_le s; omega
  clear hng hbx h45
  generalize hXX : bodyS s = X at *
  clear hXX
  have CD := Lib.hid (fun w' => decimal_spec X w' hsz)
  obtain ⟨o1, o2⟩ := op_bd (decV X.data.toList) (decX X.data.toList) (decY X.data.toList)
  have hO : spO X = opOK (decV X.data.toList) (decX X.data.toList) (decY X.data.toList) := rfl
  obtain ⟨q1, q2⟩ := op_zero _ _ _ (hO.symm.trans h1)
  rw [← hO, h1, q1, q2] at CD
  clear o1 o2 q1 q2 hO
  have hvb := val0_bd X
  have hvb1 := val1_bd X
  have hkl := spK_le X
  have C0 := Lib.hid (fun w' => l2D0 X w' hsz)
  have C1 := Lib.hid (fun w' => l2D1 X w' hsz (by omega))
  have hgo : spGo X = false := by
    rw [Bool.eq_false_iff]; intro hg
    simp only [spGo, Bool.and_eq_true, decide_eq_true_eq] at hg
    exact h5 ⟨hg.1.2, hg.2⟩
  have hT2 : T = 0 := by rw [hT, spT, h1, hgo, if_neg (by simp), if_neg (by intro h; omega), if_neg (by simp)]
  have hB2 : B = 0 := by rw [hB, spB, h1, hgo, if_neg (by simp), if_neg (by intro h; omega), if_neg (by simp)]
  subst hT2 hB2
  clear hT hB hgo
  have f47 : ((X[spK X].toNat : Int) == 47) = true := beq_iff_eq.mpr (h4 h3)
  clear h4
  clear h1
  generalize hv0 : valAt X 0 (spK X) = v0 at *
  generalize hv1 : valAt X (spK X + 1) (spJ X) = v1 at *
  generalize hj : spJ X = j at *
  generalize hk : spK X = k at *
  generalize hm : k + 1 + j = m at *
  clear hv0 hk hv1 hj hm
  have g0 : decide (0 < k) = true := decide_eq_true h2
  have g1 : (((k : Nat) : Int) == ((X.size : Nat) : Int)) = false := beq_eq_false_iff_ne.mpr (by omega)
  have g2 : decide (k < X.size) = true := decide_eq_true h3
  have g3 : (k == X.size) = false := beq_eq_false_iff_ne.mpr (by omega)
  have HEQ := Lib.hid (eqL (textF (-0) 0) s)
  rw [hgood] at HEQ
  have CT := Lib.hid (fun w' => fractionText_spec (-0) 0 w')
  rw [show (-0 : Int) = 0 from rfl] at HEQ CT
  rw [show (-0 : Int) = 0 from rfl]
  clear hgood
  generalize (⟨(textF 0 0).toArray⟩ : ByteArray) = Z at *
  have hEE : (Z.toList == s.toList) = good := HEQ.out
  cases good
  all_goals
    go_enter Tryd.func14, Tryd.ntmps14
    go_wp2_with fail
    rw [HBX.out]
    refine (CD.out _).mono ?_
    rintro e w1 ⟨rfl, hb1⟩
    have Z1 := Lib.hid ((ZeroF.new w 25).keep hb1)
    have hN : w.heap.size < w1.heap.size := Z1.out.2.2.2.2
    have hN1 : w.heap.size ≠ w1.heap.size := by omega
    have HB1 := Lib.hid (((Below.refl _ w).alloc (Nat.le_refl _) _).trans (hb1.mono (by simp))); clear hb1
    go_wp2_with fail
    refine (C0.out _).mono ?_
    rintro e w' ⟨rfl, rfl⟩
    go_wp2_with fail
    rw [show ((k : Int) + 1) = ((k + 1 : Nat) : Int) by omega]
    refine (C1.out _).mono ?_
    rintro e w' ⟨rfl, rfl⟩
    by_cases h6 : m = X.size
    · have g4 : (((m : Nat) : Int) == ((X.size : Nat) : Int)) = true := beq_iff_eq.mpr (by omega)
      have g7 : (m == X.size) = true := beq_iff_eq.mpr h6
      have g5 : decide (0 < v1) = false := decide_eq_false (fun h => h5 ⟨h6, h⟩)
      have g6 : v1 = 0 := by have := of_decide_eq_false g5; omega
      clear h5 h6
      subst g6
      go_wp2_with fail
      refine (CT.out _).mono ?_
      rintro e w3 ⟨rfl, hb3⟩
      have Z3 := Lib.hid ((Z1.out.al _).keep hb3)
      have F3 := Lib.hid (FrAt.keep (FrAt.new _ _ _ _) hb3)
      have HB3 := Lib.hid ((HB1.out.alloc HB1.out.size _).trans (hb3.mono (by have := HB1.out.size; simp; omega))); clear hb3
      obtain ⟨u0, u1, u2, u3, u4⟩ := Z3.out
      obtain ⟨d0, d1⟩ := F3.out
      go_wp2
      exact bodyPost_ret (v := .tuple #[.agg #[.int .i64 _, .int .i64 _], .bool _]) (by simp [results, Tryd.results14, go_sem, u0, u1]) rfl ⟨rfl, (HB3.out.setCell (Nat.le_refl _) _).setCell (Nat.le_refl _) _⟩
    · have g4 : (((m : Nat) : Int) == ((X.size : Nat) : Int)) = false := beq_eq_false_iff_ne.mpr (by omega)
      have g7 : (m == X.size) = false := beq_eq_false_iff_ne.mpr h6
      clear h5 h6
      go_wp2_with fail
      refine (CT.out _).mono ?_
      rintro e w3 ⟨rfl, hb3⟩
      have Z3 := Lib.hid ((Z1.out.al _).keep hb3)
      have F3 := Lib.hid (FrAt.keep (FrAt.new _ _ _ _) hb3)
      have HB3 := Lib.hid ((HB1.out.alloc HB1.out.size _).trans (hb3.mono (by have := HB1.out.size; simp; omega))); clear hb3
      obtain ⟨u0, u1, u2, u3, u4⟩ := Z3.out
      obtain ⟨d0, d1⟩ := F3.out
      go_wp2
      exact bodyPost_ret (v := .tuple #[.agg #[.int .i64 _, .int .i64 _], .bool _]) (by simp [results, Tryd.results14, go_sem, u0, u1]) rfl ⟨rfl, (HB3.out.setCell (Nat.le_refl _) _).setCell (Nat.le_refl _) _⟩

set_option maxRecDepth 100000 in
set_option maxHeartbeats 8000000 in
theorem read_neg6 (s : ByteArray) (w : World) (hs : s.size ≤ 2097152) (hng : negS s = true) (h1 : spO (bodyS s) = false) (h2 : 0 < spK (bodyS s)) (h3 : spK (bodyS s) < (bodyS s).size) (h4 : ∀ (hz : spK (bodyS s) < (bodyS s).size), ((bodyS s)[spK (bodyS s)].toNat : Int) = 47) (h5 : spK (bodyS s) + 1 + spJ (bodyS s) = (bodyS s).size) (h6 : 0 < valAt (bodyS s) (spK (bodyS s) + 1) (spJ (bodyS s)))
    (T B : Int) (hT : T = spT (bodyS s)) (hB : B = spB (bodyS s)) (good : Bool) (hgood : (textF (-T) B == s.data.toList) = good) :
    Calls Tryd.prog 14 #[.string s] w fun e w' => e = fr (if good = true then (-T) else 0) (if good = true then B else 0) good ∧ Below w.heap.size w w' := by
  obtain ⟨hne, hbx, h45⟩ := body_neg s hng
  have HBX := Lib.hid hbx
  have b45 : ((s[0].toNat : Int) == 45) = true := beq_iff_eq.mpr (h45 hne)
  have e0 : s.toList.isEmpty = false := by
    rw [ByteArray.toList_eq]
    cases hc : s.data.toList with
    | nil => have := congrArg List.length hc; rw [Array.length_toList] at this; simp only [List.length_nil] at this; have h' : s.size = 0 := this; omega
    | cons x l => rfl
  have e1 : (s.toList == []) = false := by cases hc : s.toList with
    | nil => rw [hc] at e0; cases e0
    | cons x l => rfl
  have hsz : (bodyS s).size ≤ 2097152 := by have := bodyS_le s; omega
  clear hng hbx h45
  generalize hXX : bodyS s = X at *
  clear hXX
  have CD := Lib.hid (fun w' => decimal_spec X w' hsz)
  obtain ⟨o1, o2⟩ := op_bd (decV X.data.toList) (decX X.data.toList) (decY X.data.toList)
  have hO : spO X = opOK (decV X.data.toList) (decX X.data.toList) (decY X.data.toList) := rfl
  obtain ⟨q1, q2⟩ := op_zero _ _ _ (hO.symm.trans h1)
  rw [← hO, h1, q1, q2] at CD
  clear o1 o2 q1 q2 hO
  have hvb := val0_bd X
  have hvb1 := val1_bd X
  have hkl := spK_le X
  have C0 := Lib.hid (fun w' => l2D0 X w' hsz)
  have C1 := Lib.hid (fun w' => l2D1 X w' hsz (by omega))
  have e47 : X.data.toList[spK X]? = some 47 := by
    rw [List.getElem?_eq_getElem (by rw [Array.length_toList]; exact h3)]
    congr 1
    exact UInt8.toNat_inj.mp (by have := h4 h3; show X[spK X].toNat = 47; omega)
  have hgo : spGo X = true := by simp only [spGo, spSl, e47, decide_eq_true h2, decide_eq_true h3, decide_eq_true h5, decide_eq_true h6]; rfl
  have hT2 : T = ((valAt X 0 (spK X) : Nat) : Int) := by rw [hT, spT, h1, hgo, if_neg (by simp), if_neg (by intro h; omega), if_pos rfl]
  have hB2 : B = ((valAt X (spK X + 1) (spJ X) : Nat) : Int) := by rw [hB, spB, h1, hgo, if_neg (by simp), if_neg (by intro h; omega), if_pos rfl]
  clear hT hB hgo e47
  have f47 : ((X[spK X].toNat : Int) == 47) = true := beq_iff_eq.mpr (h4 h3)
  clear h4
  clear h1
  generalize hv0 : valAt X 0 (spK X) = v0 at *
  generalize hv1 : valAt X (spK X + 1) (spJ X) = v1 at *
  generalize hj : spJ X = j at *
  generalize hk : spK X = k at *
  generalize hm : k + 1 + j = m at *
  clear hv0 hk hv1 hj hm
  subst hT2 hB2
  have g0 : decide (0 < k) = true := decide_eq_true h2
  have g1 : (((k : Nat) : Int) == ((X.size : Nat) : Int)) = false := beq_eq_false_iff_ne.mpr (by omega)
  have g2 : decide (k < X.size) = true := decide_eq_true h3
  have g3 : (k == X.size) = false := beq_eq_false_iff_ne.mpr (by omega)
  have g4 : (((m : Nat) : Int) == ((X.size : Nat) : Int)) = true := beq_iff_eq.mpr (by omega)
  have g6 : (m == X.size) = true := beq_iff_eq.mpr h5
  have g5 : decide (0 < v1) = true := decide_eq_true h6
  clear h5
  have HEQ := Lib.hid (eqL (textF (-(v0 : Int)) (v1 : Int)) s)
  rw [hgood] at HEQ
  have CT := Lib.hid (fun w' => fractionText_spec (-(v0 : Int)) (v1 : Int) w')
  clear hgood
  generalize (⟨(textF (-(v0 : Int)) (v1 : Int)).toArray⟩ : ByteArray) = Z at *
  have hEE : (Z.toList == s.toList) = good := HEQ.out
  cases good
  all_goals
    go_enter Tryd.func14, Tryd.ntmps14
    go_wp2_with fail
    rw [HBX.out]
    refine (CD.out _).mono ?_
    rintro e w1 ⟨rfl, hb1⟩
    have Z1 := Lib.hid ((ZeroF.new w 25).keep hb1)
    have hN : w.heap.size < w1.heap.size := Z1.out.2.2.2.2
    have hN1 : w.heap.size ≠ w1.heap.size := by omega
    have HB1 := Lib.hid (((Below.refl _ w).alloc (Nat.le_refl _) _).trans (hb1.mono (by simp))); clear hb1
    go_wp2_with fail
    refine (C0.out _).mono ?_
    rintro e w' ⟨rfl, rfl⟩
    go_wp2_with fail
    rw [show ((k : Int) + 1) = ((k + 1 : Nat) : Int) by omega]
    refine (C1.out _).mono ?_
    rintro e w' ⟨rfl, rfl⟩
    go_wp2_with fail
    refine (CT.out _).mono ?_
    rintro e w3 ⟨rfl, hb3⟩
    have Z3 := Lib.hid ((Z1.out.al _).keep hb3)
    have F3 := Lib.hid (FrAt.keep (FrAt.new _ _ _ _) hb3)
    have HB3 := Lib.hid ((HB1.out.alloc HB1.out.size _).trans (hb3.mono (by have := HB1.out.size; simp; omega))); clear hb3
    obtain ⟨u0, u1, u2, u3, u4⟩ := Z3.out
    obtain ⟨d0, d1⟩ := F3.out
    go_wp2
    exact bodyPost_ret (v := .tuple #[.agg #[.int .i64 _, .int .i64 _], .bool _]) (by simp [results, Tryd.results14, go_sem, u0, u1]) rfl ⟨rfl, (HB3.out.setCell (Nat.le_refl _) _).setCell (Nat.le_refl _) _⟩

end Go.Proofs.YtpgbfagacpondaaDoor
