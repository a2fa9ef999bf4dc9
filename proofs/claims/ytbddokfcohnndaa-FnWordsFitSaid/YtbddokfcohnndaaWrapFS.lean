/-
  spec.WordsFit, by its contract.
-/
import Derived.Test.YtbddokfcohnndaaWrapB
import Derived.Test.YtbddokfcohnndaaRows2
import Derived.Test.YtbddokfcohnndaaSized
namespace Go.Proofs.Ytbddokfcohnndaa
open Go.RowKit
set_option linter.unusedVariables false

set_option maxRecDepth 100000 in
set_option maxHeartbeats 2000000 in
theorem wordsFit_spec (v : Value) (L : List ByteArray) (x : Int) (w : World) (h : RowOf w v (strs L)) (hz : Sized L) :
    Calls Try.prog 13 #[v, .int .i64 x] w fun e w' => e = .returned (.bool (fitB L x)) ∧ w = w' := by
  obtain ⟨ao, cap, rfl, h1, h2, h3⟩ := h
  simp only [strs_length] at h1 ⊢
  unfold maxLen at h2
  have H3 := Lib.hid h3; have HZ := Lib.hid hz
  clear h3 hz
  go_enter Try.func13, Try.ntmps13
  go_wp2
  go_loop [5] (fun i => ∃ k : Nat, k ≤ L.length ∧ i = .int .i64 k ∧ (∀ j, j < k → (hj : j < L.length) → okW x L[j] = true)) (fun i => L.length - (intOf i).toNat)
  case atStart => exact ⟨0, Nat.zero_le _, rfl, fun j hj => by omega⟩
  case round =>
    obtain ⟨k, hk, rfl, hok⟩ := hrel
    have HK := Lib.hid hok; clear hok
    by_cases hlt : k < L.length
    · obtain ⟨b, o, hA, -, cc⟩ := H3.out.resolve_left (by intro h; have h' := congrArg List.length h; rw [strs_length] at h'; simp only [List.length_nil] at h'; omega)
      subst hA
      have HBAD := Lib.hid (fun (h : okW x L[k] = false) => fit_bad hlt h)
      have HNX := Lib.hid (show okW x L[k] = true → ∀ j, j < k + 1 → (hj : j < L.length) → okW x L[j] = true from fun h j hj hl => by
        by_cases e : j = k
        · subst e; exact h
        · exact HK.out j (by omega) hl)
      have hts : L[k].size ≤ maxLen := HZ.out _ (List.getElem_mem _)
      have d1 := cc k (.string L[k]) (by simp [strs, hlt])
      generalize L[k] = t at d1 hts HBAD HNX
      unfold maxLen at hts
      clear cc HK
      go_wp2
      go_loop [6] (fun i => ∃ j : Nat, j ≤ t.size ∧ i = .int .i64 j ∧ wbL (t.data.toList.take j) = true) (fun i => t.size - (intOf i).toNat)
      case atStart => exact ⟨0, Nat.zero_le _, rfl, rfl⟩
      case round =>
        obtain ⟨j, hj, rfl, hb⟩ := hrel
        have HJ := Lib.hid hb; clear hb
        by_cases hjt : j < t.size
        · have hb0 : (t[j].toNat : Int) ≤ 255 := by have := t[j].toNat_lt; omega
          go_wp2_with fail
          refine (l1In_any _ _ _ _).mono ?_
          rintro e w' ⟨rfl, rfl⟩
          by_cases he : inI (t[j].toNat : Int) 33 126 = true
          · have HE := Lib.hid (wbL_next t j hjt HJ.out he)
            rw [he]; clear he
            go_wp2
            go_round
            case rel => exact ⟨j + 1, by omega, by go_num, HE.out⟩
            case measure => simp [intOf]; omega
          · have HE := Lib.hid (HBAD.out (by rw [Bool.eq_false_iff]; intro h; have := ((okW_iff _ _).mp h).2.2; rw [wbL_bad t j hjt (Bool.eq_false_iff.mpr he)] at this; cases this))
            rw [Bool.eq_false_iff.mpr he]; clear he
            go_wp2
            go_ret
            exact ⟨ret_bool HE.out.symm, rfl⟩
        · have HT := Lib.hid (wbL_all t j hjt HJ.out)
          go_wp2_with fail
          refine (l1In_any _ _ _ _).mono ?_
          rintro e w' ⟨rfl, rfl⟩
          by_cases he : inI (t.size : Int) 1 x = true
          · have HE := Lib.hid (HNX.out ((okW_iff _ _).mpr (by simp only [inI, Bool.and_eq_true, decide_eq_true_eq] at he; exact ⟨by omega, he.2, HT.out⟩)))
            rw [he]; clear he
            go_wp2
            go_round
            case rel => exact ⟨k + 1, by omega, by go_num, HE.out⟩
            case measure => simp [intOf]; omega
          · have HE := Lib.hid (HBAD.out (by rw [Bool.eq_false_iff]; intro h; have := (okW_iff _ _).mp h; apply he; simp only [inI, Bool.and_eq_true, decide_eq_true_eq]; omega))
            rw [Bool.eq_false_iff.mpr he]; clear he
            go_wp2
            go_ret
            exact ⟨ret_bool HE.out.symm, rfl⟩
    · obtain rfl : k = L.length := by omega
      have HALL := Lib.hid (show fitB L x = (decide (L.length ≤ 20) && inI x 1 40) by
        rw [fitB, show L.all (okW x) = true from List.all_eq_true.mpr fun s hs => by
          obtain ⟨j, hj, rfl⟩ := List.mem_iff_getElem.mp hs
          exact HK.out j hj hj, Bool.and_true])
      by_cases h20 : L.length ≤ 20
      · go_wp2_with fail
        refine (l1In_any _ _ _ _).mono ?_
        rintro e w' ⟨rfl, rfl⟩
        have HE := Lib.hid (show fitB L x = inI x 1 40 by rw [HALL.out, show decide (L.length ≤ 20) = true by simp [h20], Bool.true_and])
        go_wp2
        go_ret
        exact ⟨ret_bool HE.out.symm, rfl⟩
      · have HE := Lib.hid (show fitB L x = false by rw [HALL.out, show decide (L.length ≤ 20) = false by simp [h20], Bool.false_and])
        go_wp2
        go_ret
        exact ⟨ret_bool HE.out.symm, rfl⟩

end Go.Proofs.Ytbddokfcohnndaa
