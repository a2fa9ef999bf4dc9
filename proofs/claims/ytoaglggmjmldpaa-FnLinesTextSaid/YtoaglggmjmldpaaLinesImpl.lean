/-
  impl.LinesOf, by its contract.
-/
import Derived.Test.YtoaglggmjmldpaaLinesSpec
import Derived.Deep.RegionHeld3
import Derived.Deep.AppendLies
namespace Go.Proofs.Ytoaglggmjmldpaa
open Go.RowKit
set_option linter.unusedVariables false

theorem own_mono {w : World} {b b' : Nat} {e : TypeId} {size : Nat} {v : Value} {n : Nat} {xs : List Value} (h : w.ownsRow b e size v n xs) (hb : b' ≤ b) : w.ownsRow b' e size v n xs := by
  refine ⟨h.1, ?_⟩
  rcases h.2 with h2 | ⟨g, cap, cur, hv, hg, r⟩
  · exact .inl h2
  · exact .inr ⟨g, cap, cur, hv, by omega, r⟩

set_option maxRecDepth 100000 in
set_option maxHeartbeats 2000000 in
theorem linesOf_impl (s : ByteArray) (w : World) (hs : s.size ≤ maxLen) :
    Calls Try.prog 17 #[.string s] w (NewTexts (linesB s) w) := by
  obtain ⟨i0, hi, hz0, hz1, hz2⟩ := info_parts infoStr
  by_cases ht : textB s = true
  · have h20 : s.size ≤ 20000 := by simp only [textB, Bool.and_eq_true, decide_eq_true_eq] at ht; exact ht.1
    have HL := Lib.hid (show linesB s = linesAll s by rw [linesB, if_pos ht])
    have HT := Lib.hid ht; clear ht
    go_enter Try.func17, Try.ntmps17
    go_wp2_with fail
    refine (textValid_impl s _ hs).mono ?_
    rintro e w' ⟨rfl, hw1⟩
    rw [HT.out]
    subst hw1
    go_wp2_with fail
    refine (lineStarts_any s _ h20).mono ?_
    rintro e w1 ⟨g, cap, rfl, hc1, hc2, hg0, hg1, hcells, hb1⟩
    have HC := Lib.hid hcells; have HB1 := Lib.hid hb1
    unfold maxLen at hc2
    have hln := lineN_le s.data.toList s.size
    clear hcells hb1
    go_wp2_with fail
    go_loopw [5, 6, 16] (fun v _ i wr => ∃ k : Nat, k ≤ lineN s.data.toList s.size ∧ i = .int .i64 k ∧ wr.ownsRow w1.heap.size 9 1 v k (strs ((linesTo s s.size).take k)) ∧ Below w1.heap.size w1 wr) (fun _ _ i _ => lineN s.data.toList s.size - (intOf i).toNat)
    case atStart => exact ⟨0, Nat.zero_le _, rfl, World.ownsRow_nil _ _ _ _, Below.refl _ _⟩
    case round =>
      obtain ⟨k, hk, rfl, hown, hb⟩ := hrel
      have HB := Lib.hid hb; clear hb
      by_cases hlt : k < lineN s.data.toList s.size
      · have hsl := starts_length s.data.toList s.size
        obtain ⟨a, ha⟩ : ∃ a, (starts s.data.toList s.size)[k]? = some a := ⟨_, List.getElem?_eq_getElem (by omega)⟩
        obtain ⟨b, hb⟩ : ∃ b, (starts s.data.toList s.size)[k + 1]? = some b := ⟨_, List.getElem?_eq_getElem (by omega)⟩
        obtain ⟨q1, q2, q3, q4⟩ := linesTo_at s s.size k a b ha hb
        have ca : wr.cell? ⟨g, k, none⟩ = some (.int .i64 (a : Int)) := (HB.out.cell (p := ⟨g, k, none⟩) hg1).trans (HC.out k a ha)
        have cb : wr.cell? ⟨g, k + 1, none⟩ = some (.int .i64 (b : Int)) := (HB.out.cell (p := ⟨g, k + 1, none⟩) hg1).trans (HC.out (k + 1) b hb)
        have HQ := Lib.hid q4
        clear ha hb hsl q4
        have e1 : IntKind.i64.wrap ((k : Int) + 1) = (k : Int) + 1 := IntWalk.i64_in _ (by omega)
        have e2 : IntKind.i64.wrap ((b : Int) - 1) = (b : Int) - 1 := IntWalk.i64_in _ (by omega)
        have e3 : 0 ≤ (k : Int) + 1 := by omega
        have e4 : ((k : Int) + 1).toNat = k + 1 := by omega
        have ag : ∀ q, u5.ownBlock = some q → q ≠ g := fun q hq => by have := (hown.lt q hq).1; omega
        have AG := Lib.hid ag; clear ag
        have hgw : g < wr.heap.size := by have := HB.out.size; omega
        have bk3 : (a : Int) ≤ (b : Int) - 1 := by omega
        have bk4 : (b : Int) - 1 ≤ (s.size : Int) := by omega
        have bk5 : 0 ≤ (b : Int) - 1 := by omega
        have bk6 : ((b : Int) - 1).toNat = b - 1 := by omega
        have bk0 : (0 : Int) ≤ (k : Int) := by omega
        have bk1 : (k : Int) < (lineN s.data.toList s.size : Int) + 1 := by omega
        have bk2 : (k : Int) + 1 < (lineN s.data.toList s.size : Int) + 1 := by omega
        go_wp2_with fail
        go_region_held3 (fun w' => w'.cell? ⟨g, k, none⟩ = some (.int .i64 (a : Int)) ∧ w'.cell? ⟨g, k + 1, none⟩ = some (.int .i64 (b : Int)))
          (first
            | go_keep
            | (go_split_ands
               refine ⟨?_, ?_⟩
               · (rw [hgrow.cell_far _ (by simp; omega) (fun hq => AG.out _ hq.symm rfl)]; assumption)
               · (rw [hgrow.cell_far _ (by simp; omega) (fun hq => AG.out _ hq.symm rfl)]; assumption)))
          ((refine step_append_lies _ (by rfl) _ _ _ (by rfl) w1.heap.size 9 i0 _ 1 16 Try.underlying27 hi hz0 hz1 hz2 rfl (by omega) u5 k _ (by rfl) ((hown.alloc _).drew)
              ⟨wr.heap.size, 0, none⟩ 1 1 [.string (s.extract a (b - 1))] (by rfl) (by rfl) (World.news_of_block (cs := #[.string (s.extract a (b - 1))]) (t := 9) (fr := (0, 0)) (heap_alloc_new wr _)) (by simp [Value.oneCell'])
              (by omega) (by unfold maxLen; omega) (by omega) (by have := HB.out.size; simp; omega) (wr.heap.size + 1) (by simp) ?_; intro gg cap' w2 hown' hgrow hat hlt'))
        have HT2 := Lib.hid (show (linesTo s s.size).take (k + 1) = (linesTo s s.size).take k ++ [s.extract a (b - 1)] by rw [List.take_add_one, HQ.out]; rfl)
        go_wp2
        go_roundw
        case rel =>
          refine ⟨k + 1, by omega, by go_num, ?_, ?_⟩
          · rw [HT2.out, strs_append]; exact hown'
          · exact ((HB.out.alloc HB.out.size _).drew).grown hgrow (by have := HB.out.size; simp; omega) (fun q hq => (hown.lt q hq).1)
        case measure => simp [intOf]; omega
      · obtain rfl : k = lineN s.data.toList s.size := by omega
        have HT2 := Lib.hid (show (linesTo s s.size).take (lineN s.data.toList s.size) = linesTo s s.size by rw [List.take_of_length_le (by rw [linesTo_length]; omega)])
        rw [HT2.out] at hown
        have HLL := Lib.hid (linesTo_length s s.size)
        have hfl := fromN_le s.data.toList s.size
        have ca : wr.cell? ⟨g, lineN s.data.toList s.size, none⟩ = some (.int .i64 (fromN s.data.toList s.size : Nat)) := (HB.out.cell (p := ⟨g, _, none⟩) hg1).trans (HC.out _ _ (starts_last s.data.toList s.size))
        have HW := Lib.hid (HB1.out.trans (HB.out.mono HB1.out.size))
        by_cases hrest : fromN s.data.toList s.size < s.size
        · have HA := Lib.hid (show linesAll s = linesTo s s.size ++ [s.extract (fromN s.data.toList s.size) s.size] by rw [linesAll, if_pos hrest])
          go_wp2_with (at_builtin; refine wpList_append_own _ rfl _ _ 27 rfl w1.heap.size 9 i0 (.string ByteArray.empty) 1 16 Try.underlying27 hi hz0 hz1 hz2 rfl (by decide) _ _ _ rfl (hown.alloc _) ⟨wr.heap.size, 0, none⟩ 1 1 [.string (s.extract (fromN s.data.toList s.size) s.size)] rfl rfl (cell_one_new _ _ _) (str_oneCell _) (by unfold maxLen; omega) (by omega) (by have := HB.out.size; simp; omega) ?_; intro v' w2 hown' hgrow hnil)
          go_ret
          refine ⟨_, rfl, ?_, ?_⟩
          · rw [HL.out, HA.out, strs_append, List.length_append, HLL.out]; exact own_mono hown' HB1.out.size
          · exact (HW.out.alloc HW.out.size _).grown hgrow (by have := HW.out.size; simp; omega) (fun q hq => Nat.le_trans HB1.out.size (hown.lt q hq).1)
        · have HA := Lib.hid (show linesAll s = linesTo s s.size by rw [linesAll, if_neg hrest])
          go_wp2
          go_ret
          exact ⟨_, rfl, by rw [HL.out, HA.out, HLL.out]; exact own_mono hown HB1.out.size, HW.out⟩
  · have HL := Lib.hid (show linesB s = [] by rw [linesB, if_neg ht])
    go_enter Try.func17, Try.ntmps17
    go_wp2_with fail
    refine (textValid_impl s _ hs).mono ?_
    rintro e w' ⟨rfl, hw1⟩
    rw [Bool.eq_false_iff.mpr ht]
    subst hw1
    clear ht
    go_wp2
    go_ret
    exact ⟨_, rfl, by rw [HL.out]; exact World.ownsRow_nil _ _ _ _, Below.refl _ _⟩

end Go.Proofs.Ytoaglggmjmldpaa
