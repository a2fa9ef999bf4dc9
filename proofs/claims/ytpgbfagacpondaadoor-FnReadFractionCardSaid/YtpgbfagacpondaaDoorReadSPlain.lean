/-
  What spec.ReadFraction reads, plainly; it is what impl's reads.
-/
import Derived.Test.YtpgbfagacpondaaDoorReadBack
namespace Go.Proofs.YtpgbfagacpondaaDoor
set_option linter.unusedVariables false

/-- The slash's place, and whether digits stand before and behind it. -/
def spK (s : ByteArray) : Nat := runAt s 0 10
def spJ (s : ByteArray) : Nat := runAt s (spK s + 1) 7
def spSl (s : ByteArray) : Bool := decide (0 < spK s) && decide (spK s < s.size) && (s.data.toList[spK s]? == some 47)
def spGo (s : ByteArray) : Bool := spSl s && decide (spK s + 1 + spJ s = s.size) && decide (0 < valAt s (spK s + 1) (spJ s))
def spO (s : ByteArray) : Bool := opOK (decV s.data.toList) (decX s.data.toList) (decY s.data.toList)
/-- The fraction that is tried. -/
def spT (s : ByteArray) : Int := if spO s = true then opT (decV s.data.toList) (decX s.data.toList) (decY s.data.toList) else if 0 < spK s ∧ spK s = s.size then ((valAt s 0 (spK s) : Nat) : Int) else if spGo s = true then ((valAt s 0 (spK s) : Nat) : Int) else 0
def spB (s : ByteArray) : Int := if spO s = true then opB (decV s.data.toList) (decX s.data.toList) (decY s.data.toList) else if 0 < spK s ∧ spK s = s.size then 1 else if spGo s = true then ((valAt s (spK s + 1) (spJ s) : Nat) : Int) else 0

theorem sp_read (s : ByteArray) (t b : Nat) (hv : vB (t : Int) (b : Int) = true) (h : s.data.toList = posText t b) : spT s = (t : Int) ∧ spB s = (b : Int) := by
  obtain ⟨v1, v2, v3, v4⟩ := vB_bd hv
  have hl : s.data.toList.length = s.size := by rw [Array.length_toList]; rfl
  by_cases hd : 1000000 % b = 0
  · rw [posText, if_pos hd] at h
    obtain ⟨d1, d2, d3, d4⟩ := dec_read t b hv hd
    have ho : spO s = true := by unfold spO; rw [h, d1, (op_true _ _).2.2]; exact d2
    unfold spT spB
    rw [ho, if_pos rfl, if_pos rfl, h, d1, (op_true _ _).1, (op_true _ _).2.1]
    exact ⟨d3, d4⟩
  · rw [posText, if_neg hd] at h
    obtain ⟨w1, w2⟩ := dec_digits t
    obtain ⟨w3, w4⟩ := dec_digits b
    have s1 := dec_short 9 t (by omega)
    have s2 := dec_short 6 b (by omega)
    have hlen : s.size = (Lib.decDigits t).length + 1 + (Lib.decDigits b).length := by rw [← hl, h]; simp; omega
    have p1 : 0 < (Lib.decDigits t).length := List.length_pos_iff.mpr (dec_ne t)
    have hk : spK s = (Lib.decDigits t).length := by
      unfold spK runAt
      rw [List.drop_zero, h]
      refine runD_unique (by simp) s1 (by rw [List.take_left]; exact w1) (.inr (.inr ⟨47, ?_, by decide⟩))
      rw [List.getElem?_append_right (Nat.le_refl _)]; simp
    have hdr : s.data.toList.drop ((Lib.decDigits t).length + 1) = Lib.decDigits b := by
      rw [h, ← List.drop_drop, List.drop_left]; rfl
    have hj : spJ s = (Lib.decDigits b).length := by
      unfold spJ runAt
      rw [hk, hdr]
      exact runD_unique (Nat.le_refl _) s2 (by rw [List.take_length]; exact w3) (.inl rfl)
    have hno : decV s.data.toList = false := by
      rw [Bool.eq_false_iff]; intro hv'
      simp only [decV, Bool.and_eq_true, dOK_iff] at hv'
      have h47 : (46 : UInt8) ∉ s.data.toList := by
        rw [h]; simp [not_mem_digits w1 46 (by decide), not_mem_digits w3 46 (by decide)]
      have eP : decP s.data.toList = s.data.toList := by unfold decP; rw [ix_none _ 46 h47, if_pos (by omega)]
      rw [eP] at hv'
      exact not_mem_digits hv'.1.2.2 47 (by decide) (by rw [h]; simp)
    have ho : spO s = false := by unfold spO; rw [hno]; exact (op_false _ _).2.2
    have t1 : valAt s 0 (spK s) = t := by unfold valAt; rw [List.drop_zero, hk, h, List.take_left]; exact w2
    have t2 : valAt s (spK s + 1) (spJ s) = b := by unfold valAt; rw [hk, hdr, hj, List.take_length]; exact w4
    have hsl : spSl s = true := by
      unfold spSl
      rw [hk, decide_eq_true p1, decide_eq_true (by omega), h, List.getElem?_append_right (Nat.le_refl _)]
      simp
    have hgo : spGo s = true := by
      unfold spGo
      rw [hsl, t2, hk, hj, decide_eq_true (by omega), decide_eq_true (by omega)]; rfl
    unfold spT spB
    rw [ho, hgo, t1, t2]
    simp only [Bool.false_eq_true, if_false, if_true]
    rw [if_neg (by rw [hk]; omega), if_neg (by rw [hk]; omega)]
    exact ⟨rfl, rfl⟩

/-- The fraction with its sign. -/
def sdTop (s : ByteArray) : Int := if negS s = true then -spT (bodyS s) else spT (bodyS s)
def sdOK (s : ByteArray) : Bool := !s.data.toList.isEmpty && (textF (sdTop s) (spB (bodyS s)) == s.data.toList)
theorem sd_back (s : ByteArray) (t b : Int) (hv : vB t b = true) (h : s.data.toList = fracT t b) : sdTop s = t ∧ spB (bodyS s) = b := by
  obtain ⟨v1, v2, v3, v4⟩ := vB_bd hv
  obtain ⟨b', rfl⟩ := Int.eq_ofNat_of_zero_le (show 0 ≤ b by omega)
  by_cases hn : t < 0
  · obtain ⟨t', ht'⟩ := Int.eq_ofNat_of_zero_le (show 0 ≤ -t by omega)
    obtain rfl : t = -(t' : Int) := by omega
    rw [fracT, if_pos hn, show (- -(t' : Int)).toNat = t' by omega, show ((b' : Int)).toNat = b' by omega] at h
    have hp : Lib.hasPrefix s.data.toList [45] = true := by rw [h]; unfold Lib.hasPrefix; simp [List.isPrefixOf]
    have hng : negS s = true := hp
    have hbd : (bodyS s).data.toList = posText t' b' := by
      unfold bodyS Lib.trimPrefix; rw [hp, if_pos rfl, h]; simp
    have hv' : vB (t' : Int) (b' : Int) = true := by
      rw [vB_iff] at hv ⊢
      refine ⟨by omega, by omega, hv.2.2.1, hv.2.2.2.1, ?_⟩
      have := hv.2.2.2.2
      rwa [Int.neg_gcd] at this
    obtain ⟨r2, r3⟩ := sp_read (bodyS s) t' b' hv' hbd
    exact ⟨by rw [sdTop, hng, if_pos rfl, r2], r3⟩
  · obtain ⟨t', rfl⟩ := Int.eq_ofNat_of_zero_le (show 0 ≤ t by omega)
    rw [fracT, if_neg hn, show ((t' : Int)).toNat = t' by omega, show ((b' : Int)).toNat = b' by omega] at h
    have hp : Lib.hasPrefix s.data.toList [45] = false := by rw [h]; exact pos_noneg t' b'
    have hng : negS s = false := hp
    have hbd : (bodyS s).data.toList = posText t' b' := by
      unfold bodyS Lib.trimPrefix; rw [hp]; simp [h]
    obtain ⟨r2, r3⟩ := sp_read (bodyS s) t' b' hv hbd
    exact ⟨by rw [sdTop, hng]; simpa using r2, r3⟩
/-- Both sides read alike. -/
theorem read_same (s : ByteArray) : sdOK s = rdOK s ∧ (rdOK s = true → sdTop s = rdTop s ∧ spB (bodyS s) = unB (bodyS s)) := by
  have ofText : ∀ (t b : Int), textF t b = s.data.toList → s.data.toList ≠ [] → vB t b = true ∧ s.data.toList = fracT t b := by
    intro t b h hne
    cases hv : vB t b with
    | false => rw [textF, hv] at h; exact absurd h.symm hne
    | true => rw [textF, if_pos hv] at h; exact ⟨rfl, h.symm⟩
  have h1 : rdOK s = true → sdOK s = true ∧ sdTop s = rdTop s ∧ spB (bodyS s) = unB (bodyS s) := by
    intro h
    simp only [rdOK, Bool.and_eq_true, beq_iff_eq] at h
    have hne : s.data.toList ≠ [] := by
      intro h0
      have : unOK (bodyS s) = false := by
        have hb : (bodyS s).data.toList = [] := by unfold bodyS Lib.trimPrefix; rw [h0]; simp [Lib.hasPrefix, List.isPrefixOf]
        unfold unOK
        rw [cut_no _ (by rw [hb]; simp), hb, if_neg (by simp)]; decide
      rw [this] at h; exact absurd h.1 (by simp)
    obtain ⟨hv, hf⟩ := ofText _ _ h.2 hne
    obtain ⟨e1, e2⟩ := sd_back s _ _ hv hf
    refine ⟨?_, e1, e2⟩
    simp only [sdOK, Bool.and_eq_true, beq_iff_eq, e1, e2]
    refine ⟨?_, h.2⟩
    cases hx : s.data.toList with
    | nil => exact absurd hx hne
    | cons _ _ => rfl
  have h2 : sdOK s = true → rdOK s = true := by
    intro h
    simp only [sdOK, Bool.and_eq_true, beq_iff_eq] at h
    have hne : s.data.toList ≠ [] := by
      intro h0; rw [h0] at h; exact absurd h.1 (by simp)
    obtain ⟨hv, hf⟩ := ofText _ _ h.2 hne
    exact (read_back s _ _ hv hf).1
  refine ⟨?_, fun h => (h1 h).2⟩
  rw [Bool.eq_iff_iff]
  exact ⟨h2, fun h => (h1 h).1⟩

end Go.Proofs.YtpgbfagacpondaaDoor
