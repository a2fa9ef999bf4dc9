/-
  slices.Compare at []int, by its contract.
-/
import Derived.Test.YtbddokfcohnndabDoorShelf
import Derived.Test.YtbddokfcohnndabDoorInts
import Derived.Test.YtbddokfcohnndabDoorWrapP
import Derived.Test.YtbddokfcohnndabDoorRows2
namespace Go.Proofs.YtbddokfcohnndabDoor
open Go.RowKit
set_option linter.unusedVariables false

theorem ret_intC {a b : Int} (h : a = b) : Ending.returned (.int .i64 a) = .returned (.int .i64 b) := by rw [h]

set_option maxRecDepth 100000 in
set_option maxHeartbeats 2000000 in
theorem compare_any (v u : Value) (A B : List Nat) (w : World) (h : RowOf w v (ints A)) (g : RowOf w u (ints B)) :
    Calls Tryd.prog 48 #[v, u] w fun e w' => e = .returned (.int .i64 (cmpL A B)) ∧ w = w' := by
  obtain ⟨ao, cap, rfl, h1, h2, h3⟩ := h
  obtain ⟨au, cu, rfl, g1, g2, g3⟩ := g
  rw [ints_length] at h1 g1
  rw [ints_length, ints_length]
  unfold maxLen at h2 g2
  have H3 := Lib.hid h3; have G3 := Lib.hid g3
  clear h3 g3
  go_enter Tryd.func48, Tryd.ntmps48
  go_wp2
  go_loop [5, 6, 7, 8, 11] (fun _ _ _ _ i => ∃ k : Nat, k ≤ A.length ∧ k ≤ B.length ∧ i = .int .i64 k ∧ cmpL A B = cmpL (A.drop k) (B.drop k)) (fun _ _ _ _ i => A.length - (intOf i).toNat)
  case atStart => exact ⟨0, Nat.zero_le _, Nat.zero_le _, rfl, rfl⟩
  case round =>
    obtain ⟨k, hk, hkb, rfl, he⟩ := hrel
    have HE := Lib.hid he; clear he
    by_cases hlt : k < A.length
    · obtain ⟨b, o, hA, -, cc⟩ := H3.out.resolve_left (by intro h; have h' := congrArg List.length h; rw [ints_length] at h'; simp only [List.length_nil] at h'; omega)
      subst hA
      have d1 := cc k _ (ints_at A k hlt)
      clear cc
      by_cases hltb : k < B.length
      · obtain ⟨b2, o2, hB, -, cc2⟩ := G3.out.resolve_left (by intro h; have h' := congrArg List.length h; rw [ints_length] at h'; simp only [List.length_nil] at h'; omega)
        subst hB
        have d2 := cc2 k _ (ints_at B k hltb)
        clear cc2
        have HN := Lib.hid (show cmpL A B = if A[k] < B[k] then -1 else if B[k] < A[k] then 1 else cmpL (A.drop (k + 1)) (B.drop (k + 1)) by
          rw [HE.out, List.drop_eq_getElem_cons hlt, List.drop_eq_getElem_cons hltb, cmpL])
        clear HE
        generalize A[k] = x at d1 HN
        generalize B[k] = y at d2 HN
        by_cases hxy : x < y
        · have HC := Lib.hid (show cmpL A B = -1 by rw [HN.out, if_pos hxy])
          have e1 : Lib.compareInt (x : Int) (y : Int) = -1 := by unfold Lib.compareInt; rw [if_pos (by omega)]
          go_wp2_with fail
          refine (Tryd.cmp_Compare_int _ _ _).mono ?_
          rintro e w' ⟨rfl, rfl⟩
          rw [e1]
          go_wp2
          go_ret
          exact ⟨ret_intC HC.out.symm, rfl⟩
        · by_cases hyx : y < x
          · have HC := Lib.hid (show cmpL A B = 1 by rw [HN.out, if_neg hxy, if_pos hyx])
            have e1 : Lib.compareInt (x : Int) (y : Int) = 1 := by unfold Lib.compareInt; rw [if_neg (by omega), if_pos (by omega)]
            go_wp2_with fail
            refine (Tryd.cmp_Compare_int _ _ _).mono ?_
            rintro e w' ⟨rfl, rfl⟩
            rw [e1]
            go_wp2
            go_ret
            exact ⟨ret_intC HC.out.symm, rfl⟩
          · have HC := Lib.hid (show cmpL A B = cmpL (A.drop (k + 1)) (B.drop (k + 1)) by rw [HN.out, if_neg hxy, if_neg hyx])
            have e1 : Lib.compareInt (x : Int) (y : Int) = 0 := by unfold Lib.compareInt; rw [if_neg (by omega), if_neg (by omega)]
            go_wp2_with fail
            refine (Tryd.cmp_Compare_int _ _ _).mono ?_
            rintro e w' ⟨rfl, rfl⟩
            rw [e1]
            go_wp2
            go_round
            case rel => exact ⟨k + 1, by omega, by omega, by go_num, HC.out⟩
            case measure => simp [intOf]; omega
      · have HC := Lib.hid (show cmpL A B = 1 by rw [HE.out, List.drop_eq_getElem_cons hlt, List.drop_eq_nil_of_le (show B.length ≤ k by omega), cmpL])
        go_wp2
        go_ret
        exact ⟨ret_intC HC.out.symm, rfl⟩
    · by_cases hltb : k < B.length
      · have HC := Lib.hid (show cmpL A B = -1 by rw [HE.out, List.drop_eq_getElem_cons hltb, List.drop_eq_nil_of_le (show A.length ≤ k by omega), cmpL])
        have hAB : A.length < B.length := by omega
        go_wp2
        go_ret
        exact ⟨ret_intC HC.out.symm, rfl⟩
      · have HC := Lib.hid (show cmpL A B = 0 by rw [HE.out, List.drop_eq_nil_of_le (show B.length ≤ k by omega), List.drop_eq_nil_of_le (show A.length ≤ k by omega), cmpL])
        have hAB : ¬ A.length < B.length := by omega
        go_wp2
        go_ret
        exact ⟨ret_intC HC.out.symm, rfl⟩

end Go.Proofs.YtbddokfcohnndabDoor
