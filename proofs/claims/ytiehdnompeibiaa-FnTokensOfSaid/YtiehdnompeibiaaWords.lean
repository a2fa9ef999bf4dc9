/-
  impl.WordsOf, spec.WordsOf, by their contracts.
-/
import Derived.Test.YtiehdnompeibiaaTokRow
import Derived.Test.YtiehdnompeibiaaTokS
import Derived.Test.YtiehdnompeibiaaTokCover
import Derived.Test.YtiehdnompeibiaaStrs
import Derived.Deep.RegionHeld3
import Derived.Deep.AppendLies
namespace Go.Proofs.Ytiehdnompeibiaa
open Go.RowKit
set_option linter.unusedVariables false

/-- The words of a text. -/
def wordsT (s : ByteArray) : List ByteArray := (toksT s).map fun t => s.extract t.2.1 t.2.2
theorem toksT_in (s : ByteArray) (k : Nat) (h : k < (toksT s).length) : (toksT s)[k].2.1 < (toksT s)[k].2.2 ∧ (toksT s)[k].2.2 ≤ s.size := by
  have hm : (toksT s)[k] ∈ toksT s := List.getElem_mem h
  revert hm
  generalize (toksT s)[k] = x
  intro hm
  unfold toksT at hm
  split at hm
  · rename_i hok
    simp only [okT, Bool.and_eq_true] at hok
    have := cover_in _ _ _ (res_cover hok.2) x hm
    have hl : s.data.toList.length = s.size := by rw [Array.length_toList]; rfl
    omega
  · cases hm
theorem toksT_len1 (s : ByteArray) : (toksT s).length ≤ 20001 := by
  unfold toksT
  split
  · rename_i h
    have h20 : s.size ≤ 20000 := by simp only [okT, Bool.and_eq_true, decide_eq_true_eq] at h; exact h.1.1
    unfold resL
    split
    · have hl : s.data.toList.length = s.size := by rw [Array.length_toList]; rfl
      have h1 := runM_len (s.data.toList) (0, 0, []) 0
      have h2 : (endM (0, 0, []) 0 s.data.toList).2.2.length ≤ (runM (0, 0, []) 0 s.data.toList).2.2.length + 1 := by
        unfold endM stepM
        split
        · simp
        · split
          · simp
          · split <;> simp
      simp only [List.length_nil] at h1
      omega
    · simp
  · simp
theorem wordsT_next (s : ByteArray) (k : Nat) (h : k < (toksT s).length) : (wordsT s).take (k + 1) = (wordsT s).take k ++ [s.extract (toksT s)[k].2.1 (toksT s)[k].2.2] := by
  rw [List.take_succ_eq_append_getElem (by simpa [wordsT] using h)]; simp [wordsT]

set_option maxRecDepth 100000 in
set_option maxHeartbeats 4000000 in
theorem wordsOf_impl (s : ByteArray) (w : World) (hs : s.size ≤ maxLen) :
    Calls Try.prog 22 #[.string s] w (NewTexts (wordsT s) w) := by
  obtain ⟨i0, hi, hz0, hz1, hz2⟩ := info_parts infoStr
  have HMX := Lib.hid hs
  unfold maxLen at hs
  have hll := toksT_len1 s
  have HIN := Lib.hid (toksT_in s)
  have HNX := Lib.hid (wordsT_next s)
  have HWL := Lib.hid (show (wordsT s).length = (toksT s).length by simp [wordsT])
  go_enter Try.func22, Try.ntmps22
  go_wp2_with fail
  refine (tokensOf_impl s _ HMX.out).mono ?_
  rintro e w1 ⟨v1, rfl, hown1, hb1⟩
  have R1 := RowT.of_own hown1
  have HB1 := Lib.hid hb1
  clear hown1 hb1
  obtain ⟨-, ao, cap, rfl, l1, m1, r1⟩ := R1
  unfold maxLen at m1
  have R := Lib.hid r1; clear r1
  generalize okT s = okk
  go_wp2_with fail
  go_loopw [5, 7, 15] (fun v _ i wr => ∃ k : Nat, k ≤ (toksT s).length ∧ i = .int .i64 (k : Int) ∧ wr.ownsRow w1.heap.size 9 1 v k (strs ((wordsT s).take k)) ∧ Below w1.heap.size w1 wr) (fun _ _ i _ => (toksT s).length - (intOf i).toNat)
  case atStart => exact ⟨0, Nat.zero_le _, rfl, World.ownsRow_nil _ _ _ _, Below.refl _ _⟩
  case round =>
    obtain ⟨k, hk, rfl, hown, hb⟩ := hrel
    have HB := Lib.hid hb; clear hb
    by_cases hlt : k < (toksT s).length
    · obtain ⟨b, rfl, lt1, cc⟩ := R.out.resolve_left (by omega)
      obtain ⟨f0, f1, f2⟩ := flatT_at _ k hlt
      have d0 := (HB.out.cell (p := ⟨b, k * 3, none⟩) lt1).trans (cc _ _ f0)
      have d1 := (HB.out.cell (p := ⟨b, k * 3 + 1, none⟩) lt1).trans (cc _ _ f1)
      have d2 := (HB.out.cell (p := ⟨b, k * 3 + 2, none⟩) lt1).trans (cc _ _ f2)
      have hbw : b < wr.heap.size := by have := HB.out.size; omega
      have hin := HIN.out k hlt
      have HN := Lib.hid (HNX.out k hlt)
      clear cc f0 f1 f2
      generalize (toksT s)[k] = x at *
      obtain ⟨x1, x2, x3⟩ := x
      simp only at d0 d1 d2 hin HN
      obtain ⟨q1, q2⟩ := hin
      have hne : ¬ b = wr.heap.size := by omega
      have q3 : x2 ≤ x3 := by omega
      have EW : wr.heap.size + 1 = (wr.alloc (.cells #[.int .i64 x1, .int .i64 (x2 : Int), .int .i64 (x3 : Int)] 33)).heap.size := by simp
      have HEW := Lib.hid EW; clear EW
      go_wp2_with (at_builtin; refine wpList_append_own _ rfl _ _ 34 rfl w1.heap.size 9 i0 (.string ByteArray.empty) 1 16 Try.underlying34 hi hz0 hz1 hz2 rfl (by decide) _ _ _ rfl ((hown.alloc _).alloc _) ⟨wr.heap.size + 1, 0, none⟩ 1 1 [.string (s.extract x2 x3)] rfl rfl (by rw [HEW.out]; exact cell_one_new _ _ _) (str_oneCell _) (by unfold maxLen; omega) (by omega) (by have := HB.out.size; simp; omega) ?_; intro v' w2 hown' hgrow hnil)
      go_roundw
      case rel =>
        refine ⟨k + 1, by omega, by go_num, ?_, ?_⟩
        · rw [HN.out, strs_append]; exact hown'
        · exact (((HB.out.alloc HB.out.size _).alloc (by have := HB.out.size; simp; omega) _).grown hgrow (by have := HB.out.size; simp; omega) (fun q hq => (hown.lt q hq).1))
      case measure => simp [intOf]; omega
    · obtain rfl : k = (toksT s).length := by omega
      go_wp2
      go_ret
      have h2 : (wordsT s).take (toksT s).length = wordsT s := List.take_of_length_le (by rw [HWL.out]; exact Nat.le_refl _)
      rw [h2] at hown
      refine ⟨_, rfl, ?_, HB1.out.trans (HB.out.mono HB1.out.size)⟩
      rw [HWL.out]
      refine ⟨hown.1, ?_⟩
      rcases hown.2 with h2 | ⟨g, cap, cur, hv, hg, r⟩
      · exact .inl h2
      · exact .inr ⟨g, cap, cur, hv, by have := HB1.out.size; omega, r⟩

set_option maxRecDepth 100000 in
set_option maxHeartbeats 4000000 in
theorem wordsOf_spec (s : ByteArray) (w : World) (hs : s.size ≤ maxLen) :
    Calls Try.prog 21 #[.string s] w (NewTexts (wordsT s) w) := by
  obtain ⟨i0, hi, hz0, hz1, hz2⟩ := info_parts infoStr
  have HMX := Lib.hid hs
  unfold maxLen at hs
  have hll := toksT_len1 s
  have HIN := Lib.hid (toksT_in s)
  have HNX := Lib.hid (wordsT_next s)
  have HWL := Lib.hid (show (wordsT s).length = (toksT s).length by simp [wordsT])
  go_enter Try.func21, Try.ntmps21
  go_wp2_with fail
  refine (tokensOf_spec s _ HMX.out).mono ?_
  rintro e w1 ⟨v1, rfl, hown1, hb1⟩
  have R1 := RowT.of_own hown1
  have hs1 : w.heap.size + 1 ≤ w1.heap.size := by have := hb1.size; simpa using this
  have HO0 := Lib.hid (show w1.ownsRow w.heap.size 9 1 (.slice (some ⟨w.heap.size, 0, none⟩) 0 0) 0 [] from
    (World.ownsRow_lit w #[] 0 (Nat.le_refl _) (by unfold maxLen; omega) rfl).kept (row := none) ⟨hb1.os, hb1.tape, hb1.output, hb1.size, fun i hi _ => hb1.block i hi⟩ (.inr (by simp [Value.ownBlock])))
  have HB1 := Lib.hid (((Below.refl _ w).alloc (Nat.le_refl _) _).trans (hb1.mono (by simp)))
  have HBK := Lib.hid (fun q hq => (hown1.lt q hq).1)
  clear hb1
  obtain ⟨-, ao, cap, rfl, l1, m1, r1⟩ := R1
  unfold maxLen at m1
  have R := Lib.hid r1; clear r1 hown1
  generalize okT s = okk
  go_wp2_with fail
  go_loopw [3, 6] (fun v i wr => ∃ k : Nat, k ≤ (toksT s).length ∧ i = .int .i64 (k : Int) ∧ wr.ownsRow w.heap.size 9 1 v k (strs ((wordsT s).take k)) ∧ (∀ q, v.ownBlock = some q → q = w.heap.size ∨ w1.heap.size ≤ q) ∧ w1.grownBy wr (some w.heap.size)) (fun _ i _ => (toksT s).length - (intOf i).toNat)
  case atStart => exact ⟨0, Nat.zero_le _, rfl, HO0.out, fun q hq => by simp [Value.ownBlock] at hq; exact .inl hq.symm, World.grownBy.refl _ _⟩
  case round =>
    obtain ⟨k, hk, rfl, hown, hat, hg⟩ := hrel
    have HG := Lib.hid hg; have HAT := Lib.hid hat; clear hg hat
    by_cases hlt : k < (toksT s).length
    · obtain ⟨b, rfl, lt1, cc⟩ := R.out.resolve_left (by omega)
      have hb0 : w.heap.size + 1 ≤ b := by have := HBK.out b rfl; simpa using this
      obtain ⟨f0, f1, f2⟩ := flatT_at _ k hlt
      have d1 := (HG.out.cell_far ⟨b, k * 3 + 1, none⟩ lt1 (by simp; omega)).trans (cc _ _ f1)
      have d2 := (HG.out.cell_far ⟨b, k * 3 + 2, none⟩ lt1 (by simp; omega)).trans (cc _ _ f2)
      have hbw : b < wr.heap.size := by have := HG.out.size; omega
      have hin := HIN.out k hlt
      have HN := Lib.hid (HNX.out k hlt)
      clear cc f0 f1 f2
      generalize (toksT s)[k] = x at *
      obtain ⟨x1, x2, x3⟩ := x
      simp only at d1 d2 hin HN
      obtain ⟨q1, q2⟩ := hin
      have ag : ∀ q, u3.ownBlock = some q → q ≠ b := fun q hq => by
        rcases HAT.out q hq with h | h <;> omega
      have AG := Lib.hid ag; clear ag
      have bk0 : (0 : Int) ≤ (k : Int) := by omega
      have bk1 : (k : Int) < ((toksT s).length : Int) := by omega
      have bk2 : (x2 : Int) ≤ (x3 : Int) := by omega
      have bk3 : (x3 : Int) ≤ (s.size : Int) := by omega
      have bk4 : (0 : Int) ≤ (x2 : Int) := by omega
      have q3 : x2 ≤ x3 := by omega
      have hbs : w.heap.size ≤ wr.heap.size := by have := HG.out.size; omega
      go_wp2_with fail
      go_region_held3 (fun w' => w'.cell? ⟨b, k * 3 + 1, none⟩ = some (.int .i64 (x2 : Int)) ∧ w'.cell? ⟨b, k * 3 + 2, none⟩ = some (.int .i64 (x3 : Int)))
        (first
          | go_keep
          | (go_split_ands
             refine ⟨?_, ?_⟩
             · (rw [hgrow.cell_far _ (by simp; omega) (fun hq => AG.out _ hq.symm rfl)]; assumption)
             · (rw [hgrow.cell_far _ (by simp; omega) (fun hq => AG.out _ hq.symm rfl)]; assumption)))
        ((refine step_append_lies _ (by rfl) _ _ _ (by rfl) w.heap.size 9 i0 _ 1 16 Try.underlying34 hi hz0 hz1 hz2 rfl (by omega) u3 k _ (by rfl) ((hown.alloc _).drew)
            ⟨wr.heap.size, 0, none⟩ 1 1 [.string (s.extract x2 x3)] (by rfl) (by rfl) (World.news_of_block (cs := #[.string (s.extract x2 x3)]) (t := 9) (fr := (0, 0)) (heap_alloc_new wr _)) (by simp [Value.oneCell'])
            (by omega) (by unfold maxLen; omega) (by omega) (by simp; omega) (wr.heap.size + 1) (by simp) ?_; intro gg cap' w2 hown' hgrow hat hlt'))
      have HGR := Lib.hid hgrow; have HAA := Lib.hid hat; clear hgrow hat
      go_wp2
      go_roundw
      case rel =>
        refine ⟨k + 1, by omega, by go_num, ?_, ?_, ?_⟩
        · rw [HN.out, strs_append]; exact hown'
        · intro q hq
          have hqg : q = gg := by simpa [Value.ownBlock] using hq.symm
          subst hqg
          rcases HAA.out with h | h
          · exact HAT.out _ h
          · right; have := HG.out.size; omega
        · refine ⟨HGR.out.os.trans HG.out.os, HGR.out.tape.trans HG.out.tape, HGR.out.output.trans HG.out.output, by have := HG.out.size; have := HGR.out.size; simp at this; omega, fun i hi hn => ?_⟩
          have hiw : i < wr.heap.size := Nat.lt_of_lt_of_le hi HG.out.size
          have e1 := HGR.out.block i (by simp; omega) (fun e => by
            have h := HAT.out i e.symm
            rcases h with h | h
            · exact hn (by rw [h])
            · omega)
          exact e1.trans ((Below.heap_alloc wr _ i hiw).trans (HG.out.block i hi hn))
      case measure => simp [intOf]; omega
    · obtain rfl : k = (toksT s).length := by omega
      go_wp2
      go_ret
      have h2 : (wordsT s).take (toksT s).length = wordsT s := List.take_of_length_le (by rw [HWL.out]; exact Nat.le_refl _)
      rw [h2] at hown
      refine ⟨_, rfl, ?_, HB1.out.trans ⟨HG.out.os, HG.out.tape, HG.out.output, HG.out.size, fun i hi => HG.out.block i (by have := HB1.out.size; omega) (by intro e; cases e; omega)⟩⟩
      rw [HWL.out]; exact hown

end Go.Proofs.Ytiehdnompeibiaa
