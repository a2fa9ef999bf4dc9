/-
  spec.TokensOf, by its contract.
-/
import Derived.Test.YtiehdnompeibiaaTokEnd
import Derived.Test.YtiehdnompeibiaaTokI
import Derived.Test.YtiehdnompeibiaaTextsSpec
namespace Go.Proofs.Ytiehdnompeibiaa
open Go.RowKit
set_option linter.unusedVariables false

theorem okT_iff (s : ByteArray) : okT s = (textB s && !hasL s.data.toList 10 && resB (0, 0, []) 0 s.data.toList) := by
  rw [okT, plain_iff, textB]
  cases decide (s.size ≤ 20000) <;> simp
theorem end_done (acc : List (Int × Nat × Nat)) (k : Nat) : endM (0, 0, acc) k [] = (0, k, acc) := by
  unfold endM; rw [runM, step_zero, first_space]; rfl
theorem end_skip (s : ByteArray) (k : Nat) (acc : List (Int × Nat × Nat)) (h : k < s.size) (h32 : ((s[k].toNat : Int) == 32) = true) : endM (0, 0, acc) k (s.data.toList.drop k) = endM (0, 0, acc) (k + 1) (s.data.toList.drop (k + 1)) := by
  rw [drop_k s k h, end_space _ _ _ _ _ (by simpa using h32), end_from k 0]
theorem end_tok (s : ByteArray) (k : Nat) (acc : List (Int × Nat × Nat)) (h : k < s.size) (h32 : ((s[k].toNat : Int) == 32) = false) (hk : endK (s.data.toList.drop k) ≠ 0) :
    1 ≤ endN (s.data.toList.drop k) ∧ k + endN (s.data.toList.drop k) ≤ s.size ∧ endM (0, 0, acc) k (s.data.toList.drop k) = endM (0, 0, acc ++ [(endK (s.data.toList.drop k), k, k + endN (s.data.toList.drop k))]) (k + endN (s.data.toList.drop k)) (s.data.toList.drop (k + endN (s.data.toList.drop k))) := by
  have ht : TokAt (s.data.toList.drop k) (endN (s.data.toList.drop k)) (endK (s.data.toList.drop k)) := by
    rw [drop_k s k h] at hk ⊢
    exact end_ok _ _ (by simpa using h32) hk
  have h1 := ht.read 0 k acc
  rw [List.drop_drop] at h1
  have hl : (s.data.toList.drop k).length = s.size - k := by rw [List.length_drop, Array.length_toList]; rfl
  obtain ⟨b, t, -, -, -, -, hle, -⟩ := ht
  exact ⟨h1.1, by rw [hl] at hle; omega, h1.2⟩
theorem end_wrong (s : ByteArray) (k : Nat) (acc : List (Int × Nat × Nat)) (h : k < s.size) (h32 : ((s[k].toNat : Int) == 32) = false) (hk : endK (s.data.toList.drop k) = 0) : (endM (0, 0, acc) k (s.data.toList.drop k)).1 ≠ 0 := by
  rw [drop_k s k h] at hk ⊢
  exact end_bad _ _ _ _ _ (by simpa using h32) hk

set_option maxRecDepth 100000 in
set_option maxHeartbeats 4000000 in
theorem tokensOf_spec (s : ByteArray) (w : World) (hs : s.size ≤ maxLen) :
    Calls Try.prog 15 #[.string s] w (NewToks (okT s) (toksT s) w) := by
  obtain ⟨i0, hi, hz0, hz1, hz2⟩ := info_parts infoTok
  have HMX := Lib.hid hs
  unfold maxLen at hs
  have HI := Lib.hid (okT_iff s)
  cases ht : textB s with
  | false =>
    have HT := Lib.hid ht
    have HR := Lib.hid (show okT s = false by rw [HI.out, ht]; rfl)
    have HL := Lib.hid (show toksT s = [] by rw [toksT, HR.out]; rfl)
    clear ht
    go_enter Try.func15, Try.ntmps15
    go_wp2_with fail
    refine (textValid_spec s _ HMX.out).mono ?_
    rintro e w' ⟨rfl, rfl⟩
    rw [HT.out]
    go_wp2
    refine bodyPost_ret (results_tmp2' rfl _ _ _) rfl ?_
    exact ⟨_, by rw [HR.out]; rfl, by rw [HL.out]; exact World.ownsRow_lit _ _ 0 (Nat.le_refl _) (by unfold maxLen; omega) rfl, (Below.refl _ _).alloc (Nat.le_refl _) _⟩
  | true =>
    have h20 : s.size ≤ 20000 := by simp only [textB, Bool.and_eq_true, decide_eq_true_eq] at ht; exact ht.1
    have HT := Lib.hid ht
    cases hh : hasL s.data.toList 10 with
    | true =>
      have HH := Lib.hid hh
      have HR := Lib.hid (show okT s = false by rw [HI.out, hh]; simp)
      have HL := Lib.hid (show toksT s = [] by rw [toksT, HR.out]; rfl)
      clear ht hh
      go_enter Try.func15, Try.ntmps15
      go_wp2_with fail
      refine (textValid_spec s _ HMX.out).mono ?_
      rintro e w' ⟨rfl, rfl⟩
      rw [HT.out]
      go_wp2_with fail
      refine (l1Has_any s 10 _ HMX.out (by omega) (by omega)).mono ?_
      rintro e w' ⟨rfl, rfl⟩
      rw [HH.out]
      go_wp2
      refine bodyPost_ret (results_tmp2' rfl _ _ _) rfl ?_
      exact ⟨_, by rw [HR.out]; rfl, by rw [HL.out]; exact World.ownsRow_lit _ _ 0 (Nat.le_refl _) (by unfold maxLen; omega) rfl, (Below.refl _ _).alloc (Nat.le_refl _) _⟩
    | false =>
      have HH := Lib.hid hh
      have HR := Lib.hid (show okT s = resB (0, 0, []) 0 s.data.toList by rw [HI.out, hh, ht]; rfl)
      clear ht hh
      go_enter Try.func15, Try.ntmps15
      go_wp2_with fail
      refine (textValid_spec s _ HMX.out).mono ?_
      rintro e w' ⟨rfl, rfl⟩
      rw [HT.out]
      go_wp2_with fail
      refine (l1Has_any s 10 _ HMX.out (by omega) (by omega)).mono ?_
      rintro e w' ⟨rfl, rfl⟩
      rw [HH.out]
      go_wp2_with fail
      go_loopw [4, 5] (fun v i wr => ∃ (k : Nat) (acc : List (Int × Nat × Nat)), k ≤ s.size ∧ acc.length ≤ k ∧ i = .int .i64 (k : Int) ∧ endM (0, 0, acc) k (s.data.toList.drop k) = endM (0, 0, []) 0 s.data.toList ∧ wr.ownsRow w.heap.size 33 3 v acc.length (flatT acc) ∧ Below w.heap.size w wr) (fun _ i _ => s.size - (intOf i).toNat)
      case atStart => exact ⟨0, [], Nat.zero_le _, Nat.zero_le _, rfl, rfl, World.ownsRow_lit _ _ 0 (Nat.le_refl _) (by unfold maxLen; omega) rfl, (Below.refl _ _).alloc (Nat.le_refl _) _⟩
      case round =>
        obtain ⟨k, acc, hk, hal, rfl, hE, hown, hb⟩ := hrel
        have HE := Lib.hid hE; have HB := Lib.hid hb; clear hE hb
        by_cases hlt : k < s.size
        · have hb0 : (s[k].toNat : Int) ≤ 255 := by have := s[k].toNat_lt; omega
          cases h32 : ((s[k].toNat : Int) == 32) with
          | true =>
            have HS := Lib.hid (end_skip s k acc hlt h32)
            go_wp2
            go_roundw
            case rel => exact ⟨k + 1, acc, by omega, by omega, by go_num, by rw [← HS.out]; exact HE.out, hown, HB.out⟩
            case measure => simp [intOf]; omega
          | false =>
            go_wp2_with fail
            refine (l3End_any s k _ h20 hlt).mono ?_
            rintro e w1 ⟨rfl, hb1⟩
            have hgb : wr.grownBy w1 none := ⟨hb1.os, hb1.tape, hb1.output, hb1.size, fun i hi _ => hb1.block i hi⟩
            have hown1 := hown.kept hgb (by
              rcases hown.2 with ⟨rfl, _⟩ | ⟨g', cap, cur, rfl, _⟩
              · exact .inl rfl
              · exact .inr (by simp [Value.ownBlock]))
            have HB1 := Lib.hid (HB.out.trans (hb1.mono HB.out.size))
            clear hb1 hgb hown HB
            by_cases hk0 : endK (s.data.toList.drop k) = 0
            · have HW := Lib.hid (end_wrong s k acc hlt h32 hk0)
              have HZ := Lib.hid (show okT s = false by rw [HR.out, resB, ← HE.out]; exact decide_eq_false HW.out)
              have HL := Lib.hid (show toksT s = [] by rw [toksT, HZ.out]; rfl)
              rw [hk0]; clear hk0
              go_wp2
              refine bodyPost_ret (results_tmp2' rfl _ _ _) rfl ?_
              exact ⟨_, by rw [HZ.out]; rfl, by rw [HL.out]; exact World.ownsRow_lit _ _ 0 HB1.out.size (by unfold maxLen; omega) rfl, HB1.out.alloc HB1.out.size _⟩
            · obtain ⟨t1, t2, t3⟩ := end_tok s k acc hlt h32 hk0
              have hkz : (endK (s.data.toList.drop k) == 0) = false := beq_eq_false_iff_ne.mpr hk0
              have HT3 := Lib.hid t3
              clear hk0 t3
              generalize hnn : endN (s.data.toList.drop k) = n at t1 t2 HT3 ⊢
              generalize hkk : endK (s.data.toList.drop k) = kk at hkz HT3 ⊢
              clear hnn hkk
              go_wp2_with (at_builtin; refine wpList_append_own _ rfl _ _ 27 rfl w.heap.size 33 i0 (.agg #[.int .i64 0, .int .i64 0, .int .i64 0]) 3 24 Try.underlying27 hi hz0 hz1 hz2 rfl (by decide) _ _ _ rfl (hown1.alloc _) ⟨w1.heap.size, 0, none⟩ 1 1 [.int .i64 kk, .int .i64 (k : Int), .int .i64 ((k + n : Nat) : Int)] rfl rfl (World.news_of_block (cs := #[.int .i64 kk, .int .i64 (k : Int), .int .i64 ((k + n : Nat) : Int)]) (t := 33) (fr := (0, 0)) (heap_alloc_new w1 _)) (by simp [Value.oneCell']) (by unfold maxLen; omega) (by omega) (by have := HB1.out.size; simp; omega) ?_; intro v' w2 hown' hgrow hnil)
              go_roundw
              case rel =>
                refine ⟨k + n, acc ++ [(kk, k, k + n)], by omega, by simp; omega, rfl, by rw [← HT3.out]; exact HE.out, ?_, ?_⟩
                · rw [flatT_snoc, List.length_append]; exact hown'
                · exact (HB1.out.alloc HB1.out.size _).grown hgrow (by have := HB1.out.size; simp; omega) (fun q hq => (hown1.lt q hq).1)
              case measure => simp [intOf]; omega
        · have HD := Lib.hid (show endM (0, 0, []) 0 s.data.toList = (0, k, acc) by rw [← HE.out, drop_end s k (by omega), end_done])
          have HZ := Lib.hid (show okT s = true by rw [HR.out, resB, HD.out]; rfl)
          have HL := Lib.hid (show toksT s = acc by rw [toksT, HZ.out, if_pos rfl, resL, resB, HD.out]; simp)
          go_wp2
          refine bodyPost_ret (results_tmp2' rfl _ _ _) rfl ?_
          exact ⟨_, by rw [HZ.out]; rfl, by rw [HL.out]; exact hown, HB.out⟩

end Go.Proofs.Ytiehdnompeibiaa
