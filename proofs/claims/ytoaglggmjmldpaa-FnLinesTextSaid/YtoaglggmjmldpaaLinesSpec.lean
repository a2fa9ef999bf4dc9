/-
  spec.LinesOf, by its contract.
-/
import Derived.Test.YtoaglggmjmldpaaStarts
import Derived.Test.YtoaglggmjmldpaaLines
namespace Go.Proofs.Ytoaglggmjmldpaa
open Go.RowKit
set_option linter.unusedVariables false

theorem infoStr : (Try.prog.info? 9).map (fun i => (i.zero, i.size, i.bytes)) = some (some (.string ByteArray.empty), 1, 16) := by kernel_rfl

/-- Texts as values. -/
def strs (l : List ByteArray) : List Value := l.map Value.string
theorem strs_length (l : List ByteArray) : (strs l).length = l.length := by simp [strs]
theorem strs_append (a b : List ByteArray) : strs (a ++ b) = strs a ++ strs b := by simp [strs]
theorem str_oneCell (t : ByteArray) : ∀ u ∈ [Value.string t], u.oneCell' = true := by
  intro u hu; simp only [List.mem_singleton] at hu; subst hu; rfl

/-- What a function leaves that returns new texts. -/
def NewTexts (L : List ByteArray) (w : World) (e : Ending) (w' : World) : Prop :=
  ∃ v, e = .returned v ∧ w'.ownsRow w.heap.size 9 1 v L.length (strs L) ∧ Below w.heap.size w w'

set_option maxRecDepth 100000 in
set_option maxHeartbeats 2000000 in
theorem linesOf_spec (s : ByteArray) (w : World) (hs : s.size ≤ maxLen) :
    Calls Try.prog 19 #[.string s] w (NewTexts (linesB s) w) := by
  obtain ⟨i0, hi, hz0, hz1, hz2⟩ := info_parts infoStr
  by_cases ht : textB s = true
  · have h20 : s.size ≤ 20000 := by simp only [textB, Bool.and_eq_true, decide_eq_true_eq] at ht; exact ht.1
    have HL := Lib.hid (show linesB s = linesAll s by rw [linesB, if_pos ht])
    have HT := Lib.hid ht; clear ht
    go_enter Try.func19, Try.ntmps19
    go_wp2_with fail
    refine (textValid_spec s _ hs).mono ?_
    rintro e w' ⟨rfl, hw1⟩
    rw [HT.out]
    subst hw1
    go_wp2_with fail
    go_loopw [3, 4, 5] (fun v a i wr => ∃ k : Nat, k ≤ s.size ∧ i = .int .i64 k ∧ a = .int .i64 (fromN s.data.toList k : Nat) ∧ wr.ownsRow w.heap.size 9 1 v (linesTo s k).length (strs (linesTo s k)) ∧ Below w.heap.size w wr) (fun _ _ i _ => s.size - (intOf i).toNat)
    case atStart => exact ⟨0, Nat.zero_le _, rfl, rfl, World.ownsRow_lit _ _ 0 (Nat.le_refl _) (by unfold maxLen; omega) rfl, (Below.refl _ _).alloc (Nat.le_refl _) _⟩
    case round =>
      obtain ⟨k, hk, rfl, rfl, hown, hb⟩ := hrel
      have HB := Lib.hid hb; clear hb
      have hll := lineN_le s.data.toList k
      have hfl := fromN_le s.data.toList k
      have HSL := Lib.hid (linesTo_length s k)
      by_cases hlt : k < s.size
      · have hb0 : (s[k].toNat : Int) ≤ 255 := by have := s[k].toNat_lt; omega
        by_cases hten : ((s[k].toNat : Int) == 10) = true
        · have HS := Lib.hid (show linesTo s (k + 1) = linesTo s k ++ [s.extract (fromN s.data.toList k) k] by simp only [linesTo]; rw [if_pos (byte_ten s k hlt hten)])
          have HF := Lib.hid (show fromN s.data.toList (k + 1) = k + 1 by simp only [fromN]; rw [if_pos (byte_ten s k hlt hten)])
          go_wp2_with (at_builtin; refine wpList_append_own _ rfl _ _ 27 rfl w.heap.size 9 i0 (.string ByteArray.empty) 1 16 Try.underlying27 hi hz0 hz1 hz2 rfl (by decide) _ _ _ rfl (hown.alloc _) ⟨wr.heap.size, 0, none⟩ 1 1 [.string (s.extract (fromN s.data.toList k) k)] rfl rfl (cell_one_new _ _ _) (str_oneCell _) (by have := HSL.out; unfold maxLen; omega) (by have := HSL.out; omega) (by have := HB.out.size; simp; omega) ?_; intro v' w1 hown' hgrow hnil)
          go_roundw
          case rel =>
            refine ⟨k + 1, by omega, by go_num, by rw [HF.out]; go_num, ?_, ?_⟩
            · rw [HS.out, strs_append, List.length_append]; exact hown'
            · exact (HB.out.alloc HB.out.size _).grown hgrow (by have := HB.out.size; simp; omega) (fun q hq => (hown.lt q hq).1)
          case measure => simp [intOf]; omega
        · have hten' : ((s[k].toNat : Int) == 10) = false := by simpa using hten
          have HS := Lib.hid (show linesTo s (k + 1) = linesTo s k by simp only [linesTo]; rw [if_neg (byte_other s k hlt hten')])
          have HF := Lib.hid (show fromN s.data.toList (k + 1) = fromN s.data.toList k by simp only [fromN]; rw [if_neg (byte_other s k hlt hten')])
          clear hten
          go_wp2
          go_roundw
          case rel => exact ⟨k + 1, by omega, by go_num, by rw [HF.out], by rw [HS.out]; exact hown, HB.out⟩
          case measure => simp [intOf]; omega
      · obtain rfl : k = s.size := by omega
        by_cases hrest : fromN s.data.toList s.size < s.size
        · have HA := Lib.hid (show linesAll s = linesTo s s.size ++ [s.extract (fromN s.data.toList s.size) s.size] by rw [linesAll, if_pos hrest])
          go_wp2_with (at_builtin; refine wpList_append_own _ rfl _ _ 27 rfl w.heap.size 9 i0 (.string ByteArray.empty) 1 16 Try.underlying27 hi hz0 hz1 hz2 rfl (by decide) _ _ _ rfl (hown.alloc _) ⟨wr.heap.size, 0, none⟩ 1 1 [.string (s.extract (fromN s.data.toList s.size) s.size)] rfl rfl (cell_one_new _ _ _) (str_oneCell _) (by have := HSL.out; unfold maxLen; omega) (by have := HSL.out; omega) (by have := HB.out.size; simp; omega) ?_; intro v' w1 hown' hgrow hnil)
          go_ret
          refine ⟨_, rfl, ?_, ?_⟩
          · rw [HL.out, HA.out, strs_append, List.length_append]; exact hown'
          · exact (HB.out.alloc HB.out.size _).grown hgrow (by have := HB.out.size; simp; omega) (fun q hq => (hown.lt q hq).1)
        · have HA := Lib.hid (show linesAll s = linesTo s s.size by rw [linesAll, if_neg hrest])
          go_wp2
          go_ret
          exact ⟨_, rfl, by rw [HL.out, HA.out]; exact hown, HB.out⟩
  · have HL := Lib.hid (show linesB s = [] by rw [linesB, if_neg ht])
    go_enter Try.func19, Try.ntmps19
    go_wp2_with fail
    refine (textValid_spec s _ hs).mono ?_
    rintro e w' ⟨rfl, hw1⟩
    rw [Bool.eq_false_iff.mpr ht]
    subst hw1
    clear ht
    go_wp2
    go_ret
    exact ⟨_, rfl, by rw [HL.out]; exact World.ownsRow_lit _ _ 0 (Nat.le_refl _) (by unfold maxLen; omega) rfl, (Below.refl _ _).alloc (Nat.le_refl _) _⟩

end Go.Proofs.Ytoaglggmjmldpaa
