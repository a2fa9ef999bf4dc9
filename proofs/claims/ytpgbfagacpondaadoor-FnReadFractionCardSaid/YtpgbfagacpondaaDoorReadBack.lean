/-
  ReadFraction of the text of a fraction, plainly.
-/
import Derived.Test.YtpgbfagacpondaaDoorReadPlain
namespace Go.Proofs.YtpgbfagacpondaaDoor
set_option linter.unusedVariables false

theorem cut_at (s : ByteArray) (p q : List UInt8) (h : s.data.toList = p ++ 47 :: q) (hp : (47 : UInt8) ∉ p) : cutB s 47 = true ∧ (cutP s 47).data.toList = p ∧ (cutQ s 47).data.toList = q := by
  have ei : Lib.indexByte s.data.toList 47 = (p.length : Nat) := by
    refine ix_at _ 47 _ ?_ ?_
    · rw [h, List.getElem?_append_right (Nat.le_refl _)]; simp
    · rw [h, List.take_left]; exact hp
  have hl : s.data.toList.length = s.size := by rw [Array.length_toList]; rfl
  unfold cutB cutP cutQ
  rw [ei, decide_eq_false (by omega), if_neg (by omega), if_neg (by omega), Int.toNat_natCast]
  refine ⟨rfl, ?_, ?_⟩
  · have e : (s.extract 0 p.length).data.toList = s.data.toList.take p.length := by simp [ByteArray.data_extract]
    rw [e, h, List.take_left]
  · have e : (s.extract (p.length + 1) s.size).data.toList = (s.data.toList.drop (p.length + 1)).take (s.size - (p.length + 1)) := by simp [ByteArray.data_extract]
    rw [e, List.take_of_length_le (by rw [List.length_drop, hl]; exact Nat.le_refl _), h, ← List.drop_drop, List.drop_left]; rfl
theorem cut_no (s : ByteArray) (h : (47 : UInt8) ∉ s.data.toList) : cutB s 47 = false := by
  unfold cutB; rw [ix_none _ 47 h]; rfl
theorem dec47 (t b : Nat) (hb : 1 ≤ b) : (47 : UInt8) ∉ decText t b := by
  have h1 := not_mem_digits (dec_digits (t / b)).1 47 (by decide)
  have h2 := not_mem_digits (frs_digits 6 (t % b) b (Nat.mod_lt _ (by omega))) 47 (by decide)
  unfold decText
  split
  · simpa using h1
  · simp [h1, h2]
theorem un_read (s : ByteArray) (t b : Nat) (hv : vB (t : Int) (b : Int) = true) (h : s.data.toList = posText t b) : unOK s = true ∧ unT s = (t : Int) ∧ unB s = (b : Int) := by
  obtain ⟨v1, v2, v3, v4⟩ := vB_bd hv
  unfold unOK unT unB
  by_cases hd : 1000000 % b = 0
  · rw [posText, if_pos hd] at h
    have hc : cutB s 47 = false := cut_no s (by rw [h]; exact dec47 t b (by omega))
    obtain ⟨d1, d2, d3, d4⟩ := dec_read t b hv hd
    rw [hc, h, d1]
    simp only [Bool.false_eq_true, if_false]
    rw [(op_true _ _).1, (op_true _ _).2.1, (op_true _ _).2.2]
    exact ⟨d2, d3, d4⟩
  · rw [posText, if_neg hd] at h
    obtain ⟨c1, c2, c3⟩ := cut_at s _ _ h (not_mem_digits (dec_digits t).1 47 (by decide))
    have o1 : dOK (Lib.decDigits t) 10 = true := dec_dOK (k := 9) (by omega) (by omega)
    have o2 : dOK (Lib.decDigits b) 10 = true := dec_dOK (k := 9) (by omega) (by omega)
    have ho : slOK (Lib.decDigits t) (Lib.decDigits b) = true := by simp [slOK, o1, o2]
    rw [c1, c2, c3]
    simp only [if_true]
    refine ⟨ho, ?_, ?_⟩
    · rw [slT, if_pos ho, (dec_digits t).2]
    · rw [slB, if_pos ho, (dec_digits b).2]
theorem dec_head (n : Nat) : ∃ c l, Lib.decDigits n = c :: l ∧ isD c = true := by
  have h := (dec_digits n).1
  cases hl : Lib.decDigits n with
  | nil => exact absurd hl (dec_ne n)
  | cons c l =>
    rw [hl] at h
    simp only [allD, List.all_cons, Bool.and_eq_true] at h
    exact ⟨c, l, rfl, h.1⟩
theorem pos_head (t b : Nat) : ∃ c l, posText t b = c :: l ∧ isD c = true := by
  unfold posText decText
  split
  · obtain ⟨c, l, e, h⟩ := dec_head (t / b)
    exact ⟨c, _, by rw [e]; rfl, h⟩
  · obtain ⟨c, l, e, h⟩ := dec_head t
    exact ⟨c, _, by rw [e]; rfl, h⟩
theorem pos_noneg (t b : Nat) : Lib.hasPrefix (posText t b) [45] = false := by
  obtain ⟨c, l, e, h⟩ := pos_head t b
  rw [e]
  have hc : c ≠ 45 := by rintro rfl; cases h
  unfold Lib.hasPrefix
  simp [List.isPrefixOf]
  exact fun h => hc h.symm
/-- ReadFraction of the text returns the fraction. -/
theorem read_back (s : ByteArray) (t b : Int) (hv : vB t b = true) (h : s.data.toList = fracT t b) : rdOK s = true ∧ rdT s = t ∧ rdB s = b := by
  obtain ⟨v1, v2, v3, v4⟩ := vB_bd hv
  obtain ⟨b', rfl⟩ := Int.eq_ofNat_of_zero_le (show 0 ≤ b by omega)
  have key : unOK (bodyS s) = true ∧ rdTop s = t ∧ unB (bodyS s) = (b' : Int) := by
    by_cases hn : t < 0
    · obtain ⟨t', ht'⟩ := Int.eq_ofNat_of_zero_le (show 0 ≤ -t by omega)
      obtain rfl : t = -(t' : Int) := by omega
      rw [fracT, if_pos hn, show (- -(t' : Int)).toNat = t' by omega, show ((b' : Int)).toNat = b' by omega] at h
      have hp : Lib.hasPrefix s.data.toList [45] = true := by rw [h]; unfold Lib.hasPrefix; simp [List.isPrefixOf]
      have hng : negS s = true := hp
      have hbd : (bodyS s).data.toList = posText t' b' := by
        unfold bodyS Lib.trimPrefix; rw [hp, if_pos rfl, h]; simp
      have hv' : vB (t' : Int) (b' : Int) = true := by
        rw [vB_iff] at hv ⊢
        refine ⟨by omega, by omega, hv.2.2.1, hv.2.2.2.1, ?_⟩
        have := hv.2.2.2.2
        rwa [Int.neg_gcd] at this
      obtain ⟨r1, r2, r3⟩ := un_read (bodyS s) t' b' hv' hbd
      exact ⟨r1, by rw [rdTop, hng, if_pos rfl, r2], r3⟩
    · obtain ⟨t', rfl⟩ := Int.eq_ofNat_of_zero_le (show 0 ≤ t by omega)
      rw [fracT, if_neg hn, show ((t' : Int)).toNat = t' by omega, show ((b' : Int)).toNat = b' by omega] at h
      have hp : Lib.hasPrefix s.data.toList [45] = false := by rw [h]; exact pos_noneg t' b'
      have hng : negS s = false := hp
      have hbd : (bodyS s).data.toList = posText t' b' := by
        unfold bodyS Lib.trimPrefix; rw [hp]; simp [h]
      obtain ⟨r1, r2, r3⟩ := un_read (bodyS s) t' b' hv hbd
      exact ⟨r1, by rw [rdTop, hng]; simpa using r2, r3⟩
  obtain ⟨k1, k2, k3⟩ := key
  have ho : rdOK s = true := by
    rw [rdOK, k1, k2, k3, h, textF, if_pos hv]; simp
  exact ⟨ho, by rw [rdT, if_pos ho, k2], by rw [rdB, if_pos ho, k3]⟩
theorem frac_ne (t b : Int) : fracT t b ≠ [] := by
  unfold fracT
  split
  · simp
  · obtain ⟨c, l, e, _⟩ := pos_head t.toNat b.toNat
    rw [e]; simp

end Go.Proofs.YtpgbfagacpondaaDoor
