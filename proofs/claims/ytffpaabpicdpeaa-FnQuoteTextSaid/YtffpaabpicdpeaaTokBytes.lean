/-
  The states of the machine of tokens: impl.firstState, stateInText, next, kind, by their contracts.
-/
import Derived.Test.YtffpaabpicdpeaaBytes
import Derived.Test.YtffpaabpicdpeaaTokPlain
namespace Go.Proofs.Ytffpaabpicdpeaa
open Go.RowKit
set_option linter.unusedVariables false

set_option maxRecDepth 100000 in
set_option maxHeartbeats 4000000 in
theorem firstState_any (n : Int) (w : World) (h0 : 0 ≤ n) (h1 : n ≤ 255) :
    Calls Try.prog 38 #[.int .u8 n] w fun e w' => e = .returned (.int .i64 (firstI n)) ∧ w = w' := by
  cases hl : ltrI n with
  | true =>
    have HL := Lib.hid hl
    rw [show firstI n = 1 by simp [firstI, hl]]; clear hl
    go_enter Try.func38, Try.ntmps38
    go_wp2_with fail
    refine (smallLetter_any _ _ (by omega) (by omega)).mono ?_
    rintro e w' ⟨rfl, rfl⟩
    rw [HL.out]
    go_wp2
    go_ret
    exact ⟨rfl, rfl⟩
  | false =>
    have HL := Lib.hid hl
    cases hd : digI n with
    | true =>
      have HD := Lib.hid hd
      rw [show firstI n = 2 by simp [firstI, hl, hd]]; clear hl hd
      go_enter Try.func38, Try.ntmps38
      go_wp2_with fail
      refine (smallLetter_any _ _ (by omega) (by omega)).mono ?_
      rintro e w' ⟨rfl, rfl⟩
      rw [HL.out]
      go_wp2_with fail
      refine (digit_any _ _ (by omega) (by omega)).mono ?_
      rintro e w' ⟨rfl, rfl⟩
      rw [HD.out]
      go_wp2
      go_ret
      exact ⟨rfl, rfl⟩
    | false =>
      have HD := Lib.hid hd
      by_cases e32 : n = 32
      · subst e32; rw [show firstI 32 = 0 by decide]; clear hl hd
        go_enter Try.func38, Try.ntmps38
        go_wp2_with fail
        refine (smallLetter_any _ _ (by omega) (by omega)).mono ?_
        rintro e w' ⟨rfl, rfl⟩
        rw [HL.out]
        go_wp2_with fail
        refine (digit_any _ _ (by omega) (by omega)).mono ?_
        rintro e w' ⟨rfl, rfl⟩
        rw [HD.out]
        go_wp2
        go_ret
        exact ⟨rfl, rfl⟩
      have z32 : (n == 32) = false := beq_eq_false_iff_ne.mpr e32
      clear e32
      by_cases e34 : n = 34
      · subst e34; rw [show firstI 34 = 3 by decide]; clear hl hd
        go_enter Try.func38, Try.ntmps38
        go_wp2_with fail
        refine (smallLetter_any _ _ (by omega) (by omega)).mono ?_
        rintro e w' ⟨rfl, rfl⟩
        rw [HL.out]
        go_wp2_with fail
        refine (digit_any _ _ (by omega) (by omega)).mono ?_
        rintro e w' ⟨rfl, rfl⟩
        rw [HD.out]
        go_wp2
        go_ret
        exact ⟨rfl, rfl⟩
      have z34 : (n == 34) = false := beq_eq_false_iff_ne.mpr e34
      clear e34
      by_cases e60 : n = 60
      · subst e60; rw [show firstI 60 = 6 by decide]; clear hl hd
        go_enter Try.func38, Try.ntmps38
        go_wp2_with fail
        refine (smallLetter_any _ _ (by omega) (by omega)).mono ?_
        rintro e w' ⟨rfl, rfl⟩
        rw [HL.out]
        go_wp2_with fail
        refine (digit_any _ _ (by omega) (by omega)).mono ?_
        rintro e w' ⟨rfl, rfl⟩
        rw [HD.out]
        go_wp2
        go_ret
        exact ⟨rfl, rfl⟩
      have z60 : (n == 60) = false := beq_eq_false_iff_ne.mpr e60
      clear e60
      by_cases e62 : n = 62
      · subst e62; rw [show firstI 62 = 6 by decide]; clear hl hd
        go_enter Try.func38, Try.ntmps38
        go_wp2_with fail
        refine (smallLetter_any _ _ (by omega) (by omega)).mono ?_
        rintro e w' ⟨rfl, rfl⟩
        rw [HL.out]
        go_wp2_with fail
        refine (digit_any _ _ (by omega) (by omega)).mono ?_
        rintro e w' ⟨rfl, rfl⟩
        rw [HD.out]
        go_wp2
        go_ret
        exact ⟨rfl, rfl⟩
      have z62 : (n == 62) = false := beq_eq_false_iff_ne.mpr e62
      clear e62
      by_cases e33 : n = 33
      · subst e33; rw [show firstI 33 = 6 by decide]; clear hl hd
        go_enter Try.func38, Try.ntmps38
        go_wp2_with fail
        refine (smallLetter_any _ _ (by omega) (by omega)).mono ?_
        rintro e w' ⟨rfl, rfl⟩
        rw [HL.out]
        go_wp2_with fail
        refine (digit_any _ _ (by omega) (by omega)).mono ?_
        rintro e w' ⟨rfl, rfl⟩
        rw [HD.out]
        go_wp2
        go_ret
        exact ⟨rfl, rfl⟩
      have z33 : (n == 33) = false := beq_eq_false_iff_ne.mpr e33
      clear e33
      by_cases e61 : n = 61
      · subst e61; rw [show firstI 61 = 7 by decide]; clear hl hd
        go_enter Try.func38, Try.ntmps38
        go_wp2_with fail
        refine (smallLetter_any _ _ (by omega) (by omega)).mono ?_
        rintro e w' ⟨rfl, rfl⟩
        rw [HL.out]
        go_wp2_with fail
        refine (digit_any _ _ (by omega) (by omega)).mono ?_
        rintro e w' ⟨rfl, rfl⟩
        rw [HD.out]
        go_wp2
        go_ret
        exact ⟨rfl, rfl⟩
      have z61 : (n == 61) = false := beq_eq_false_iff_ne.mpr e61
      clear e61
      by_cases e38 : n = 38
      · subst e38; rw [show firstI 38 = 8 by decide]; clear hl hd
        go_enter Try.func38, Try.ntmps38
        go_wp2_with fail
        refine (smallLetter_any _ _ (by omega) (by omega)).mono ?_
        rintro e w' ⟨rfl, rfl⟩
        rw [HL.out]
        go_wp2_with fail
        refine (digit_any _ _ (by omega) (by omega)).mono ?_
        rintro e w' ⟨rfl, rfl⟩
        rw [HD.out]
        go_wp2
        go_ret
        exact ⟨rfl, rfl⟩
      have z38 : (n == 38) = false := beq_eq_false_iff_ne.mpr e38
      clear e38
      by_cases e124 : n = 124
      · subst e124; rw [show firstI 124 = 9 by decide]; clear hl hd
        go_enter Try.func38, Try.ntmps38
        go_wp2_with fail
        refine (smallLetter_any _ _ (by omega) (by omega)).mono ?_
        rintro e w' ⟨rfl, rfl⟩
        rw [HL.out]
        go_wp2_with fail
        refine (digit_any _ _ (by omega) (by omega)).mono ?_
        rintro e w' ⟨rfl, rfl⟩
        rw [HD.out]
        go_wp2
        go_ret
        exact ⟨rfl, rfl⟩
      have z124 : (n == 124) = false := beq_eq_false_iff_ne.mpr e124
      clear e124
      by_cases e45 : n = 45
      · subst e45; rw [show firstI 45 = 10 by decide]; clear hl hd
        go_enter Try.func38, Try.ntmps38
        go_wp2_with fail
        refine (smallLetter_any _ _ (by omega) (by omega)).mono ?_
        rintro e w' ⟨rfl, rfl⟩
        rw [HL.out]
        go_wp2_with fail
        refine (digit_any _ _ (by omega) (by omega)).mono ?_
        rintro e w' ⟨rfl, rfl⟩
        rw [HD.out]
        go_wp2
        go_ret
        exact ⟨rfl, rfl⟩
      have z45 : (n == 45) = false := beq_eq_false_iff_ne.mpr e45
      clear e45
      by_cases e42 : n = 42
      · subst e42; rw [show firstI 42 = 10 by decide]; clear hl hd
        go_enter Try.func38, Try.ntmps38
        go_wp2_with fail
        refine (smallLetter_any _ _ (by omega) (by omega)).mono ?_
        rintro e w' ⟨rfl, rfl⟩
        rw [HL.out]
        go_wp2_with fail
        refine (digit_any _ _ (by omega) (by omega)).mono ?_
        rintro e w' ⟨rfl, rfl⟩
        rw [HD.out]
        go_wp2
        go_ret
        exact ⟨rfl, rfl⟩
      have z42 : (n == 42) = false := beq_eq_false_iff_ne.mpr e42
      clear e42
      by_cases e47 : n = 47
      · subst e47; rw [show firstI 47 = 10 by decide]; clear hl hd
        go_enter Try.func38, Try.ntmps38
        go_wp2_with fail
        refine (smallLetter_any _ _ (by omega) (by omega)).mono ?_
        rintro e w' ⟨rfl, rfl⟩
        rw [HL.out]
        go_wp2_with fail
        refine (digit_any _ _ (by omega) (by omega)).mono ?_
        rintro e w' ⟨rfl, rfl⟩
        rw [HD.out]
        go_wp2
        go_ret
        exact ⟨rfl, rfl⟩
      have z47 : (n == 47) = false := beq_eq_false_iff_ne.mpr e47
      clear e47
      by_cases e37 : n = 37
      · subst e37; rw [show firstI 37 = 10 by decide]; clear hl hd
        go_enter Try.func38, Try.ntmps38
        go_wp2_with fail
        refine (smallLetter_any _ _ (by omega) (by omega)).mono ?_
        rintro e w' ⟨rfl, rfl⟩
        rw [HL.out]
        go_wp2_with fail
        refine (digit_any _ _ (by omega) (by omega)).mono ?_
        rintro e w' ⟨rfl, rfl⟩
        rw [HD.out]
        go_wp2
        go_ret
        exact ⟨rfl, rfl⟩
      have z37 : (n == 37) = false := beq_eq_false_iff_ne.mpr e37
      clear e37
      by_cases e43 : n = 43
      · subst e43; rw [show firstI 43 = 10 by decide]; clear hl hd
        go_enter Try.func38, Try.ntmps38
        go_wp2_with fail
        refine (smallLetter_any _ _ (by omega) (by omega)).mono ?_
        rintro e w' ⟨rfl, rfl⟩
        rw [HL.out]
        go_wp2_with fail
        refine (digit_any _ _ (by omega) (by omega)).mono ?_
        rintro e w' ⟨rfl, rfl⟩
        rw [HD.out]
        go_wp2
        go_ret
        exact ⟨rfl, rfl⟩
      have z43 : (n == 43) = false := beq_eq_false_iff_ne.mpr e43
      clear e43
      by_cases e63 : n = 63
      · subst e63; rw [show firstI 63 = 10 by decide]; clear hl hd
        go_enter Try.func38, Try.ntmps38
        go_wp2_with fail
        refine (smallLetter_any _ _ (by omega) (by omega)).mono ?_
        rintro e w' ⟨rfl, rfl⟩
        rw [HL.out]
        go_wp2_with fail
        refine (digit_any _ _ (by omega) (by omega)).mono ?_
        rintro e w' ⟨rfl, rfl⟩
        rw [HD.out]
        go_wp2
        go_ret
        exact ⟨rfl, rfl⟩
      have z63 : (n == 63) = false := beq_eq_false_iff_ne.mpr e63
      clear e63
      by_cases e58 : n = 58
      · subst e58; rw [show firstI 58 = 10 by decide]; clear hl hd
        go_enter Try.func38, Try.ntmps38
        go_wp2_with fail
        refine (smallLetter_any _ _ (by omega) (by omega)).mono ?_
        rintro e w' ⟨rfl, rfl⟩
        rw [HL.out]
        go_wp2_with fail
        refine (digit_any _ _ (by omega) (by omega)).mono ?_
        rintro e w' ⟨rfl, rfl⟩
        rw [HD.out]
        go_wp2
        go_ret
        exact ⟨rfl, rfl⟩
      have z58 : (n == 58) = false := beq_eq_false_iff_ne.mpr e58
      clear e58
      by_cases e40 : n = 40
      · subst e40; rw [show firstI 40 = 10 by decide]; clear hl hd
        go_enter Try.func38, Try.ntmps38
        go_wp2_with fail
        refine (smallLetter_any _ _ (by omega) (by omega)).mono ?_
        rintro e w' ⟨rfl, rfl⟩
        rw [HL.out]
        go_wp2_with fail
        refine (digit_any _ _ (by omega) (by omega)).mono ?_
        rintro e w' ⟨rfl, rfl⟩
        rw [HD.out]
        go_wp2
        go_ret
        exact ⟨rfl, rfl⟩
      have z40 : (n == 40) = false := beq_eq_false_iff_ne.mpr e40
      clear e40
      by_cases e41 : n = 41
      · subst e41; rw [show firstI 41 = 10 by decide]; clear hl hd
        go_enter Try.func38, Try.ntmps38
        go_wp2_with fail
        refine (smallLetter_any _ _ (by omega) (by omega)).mono ?_
        rintro e w' ⟨rfl, rfl⟩
        rw [HL.out]
        go_wp2_with fail
        refine (digit_any _ _ (by omega) (by omega)).mono ?_
        rintro e w' ⟨rfl, rfl⟩
        rw [HD.out]
        go_wp2
        go_ret
        exact ⟨rfl, rfl⟩
      have z41 : (n == 41) = false := beq_eq_false_iff_ne.mpr e41
      clear e41
      by_cases e91 : n = 91
      · subst e91; rw [show firstI 91 = 10 by decide]; clear hl hd
        go_enter Try.func38, Try.ntmps38
        go_wp2_with fail
        refine (smallLetter_any _ _ (by omega) (by omega)).mono ?_
        rintro e w' ⟨rfl, rfl⟩
        rw [HL.out]
        go_wp2_with fail
        refine (digit_any _ _ (by omega) (by omega)).mono ?_
        rintro e w' ⟨rfl, rfl⟩
        rw [HD.out]
        go_wp2
        go_ret
        exact ⟨rfl, rfl⟩
      have z91 : (n == 91) = false := beq_eq_false_iff_ne.mpr e91
      clear e91
      by_cases e93 : n = 93
      · subst e93; rw [show firstI 93 = 10 by decide]; clear hl hd
        go_enter Try.func38, Try.ntmps38
        go_wp2_with fail
        refine (smallLetter_any _ _ (by omega) (by omega)).mono ?_
        rintro e w' ⟨rfl, rfl⟩
        rw [HL.out]
        go_wp2_with fail
        refine (digit_any _ _ (by omega) (by omega)).mono ?_
        rintro e w' ⟨rfl, rfl⟩
        rw [HD.out]
        go_wp2
        go_ret
        exact ⟨rfl, rfl⟩
      have z93 : (n == 93) = false := beq_eq_false_iff_ne.mpr e93
      clear e93
      by_cases e44 : n = 44
      · subst e44; rw [show firstI 44 = 10 by decide]; clear hl hd
        go_enter Try.func38, Try.ntmps38
        go_wp2_with fail
        refine (smallLetter_any _ _ (by omega) (by omega)).mono ?_
        rintro e w' ⟨rfl, rfl⟩
        rw [HL.out]
        go_wp2_with fail
        refine (digit_any _ _ (by omega) (by omega)).mono ?_
        rintro e w' ⟨rfl, rfl⟩
        rw [HD.out]
        go_wp2
        go_ret
        exact ⟨rfl, rfl⟩
      have z44 : (n == 44) = false := beq_eq_false_iff_ne.mpr e44
      clear e44
      have hf : firstI n = 11 := by simp only [firstI, cmpB, signI, hl, hd, z32, z34, z60, z62, z33, z61, z38, z124, z45, z42, z47, z37, z43, z63, z58, z40, z41, z91, z93, z44, Bool.or_self, Bool.false_eq_true, if_false]
      rw [hf]; clear hf hl hd
      go_enter Try.func38, Try.ntmps38
      go_wp2_with fail
      refine (smallLetter_any _ _ (by omega) (by omega)).mono ?_
      rintro e w' ⟨rfl, rfl⟩
      rw [HL.out]
      go_wp2_with fail
      refine (digit_any _ _ (by omega) (by omega)).mono ?_
      rintro e w' ⟨rfl, rfl⟩
      rw [HD.out]
      go_wp2
      go_ret
      exact ⟨rfl, rfl⟩

set_option maxHeartbeats 1000000 in
theorem stateInText_any (n : Int) (w : World) :
    Calls Try.prog 45 #[.int .u8 n] w fun e w' => e = .returned (.int .i64 (inTextI n)) ∧ w = w' := by
  by_cases e34 : n = 34
  · subst e34; rw [show inTextI 34 = 5 by decide]
    go_enter Try.func45, Try.ntmps45
    go_wp2
    go_ret
    exact ⟨rfl, rfl⟩
  by_cases e92 : n = 92
  · subst e92; rw [show inTextI 92 = 4 by decide]
    go_enter Try.func45, Try.ntmps45
    go_wp2
    go_ret
    exact ⟨rfl, rfl⟩
  have z1 : (n == 34) = false := beq_eq_false_iff_ne.mpr e34
  have z2 : (n == 92) = false := beq_eq_false_iff_ne.mpr e92
  have hf : inTextI n = 3 := by simp only [inTextI, z1, z2, Bool.false_eq_true, if_false]
  rw [hf]; clear hf e34 e92
  go_enter Try.func45, Try.ntmps45
  go_wp2
  go_ret
  exact ⟨rfl, rfl⟩

theorem st_cases {st : Int} (h0 : 0 ≤ st) (h1 : st ≤ 11) : st = 0 ∨ st = 1 ∨ st = 2 ∨ st = 3 ∨ st = 4 ∨ st = 5 ∨ st = 6 ∨ st = 7 ∨ st = 8 ∨ st = 9 ∨ st = 10 ∨ st = 11 := by omega

set_option maxHeartbeats 2000000 in
theorem kind_any (st : Int) (w : World) (h0 : 0 ≤ st) (h1 : st ≤ 11) :
    Calls Try.prog 46 #[.int .i64 st] w fun e w' => e = .returned (.int .i64 (kI st)) ∧ w = w' := by
  rcases st_cases h0 h1 with rfl | rfl | rfl | rfl | rfl | rfl | rfl | rfl | rfl | rfl | rfl | rfl
  all_goals
    clear h0 h1
    go_enter Try.func46, Try.ntmps46
    go_wp2
    go_ret
    exact ⟨rfl, rfl⟩

set_option maxRecDepth 100000 in
set_option maxHeartbeats 4000000 in
theorem next_any (st n : Int) (w : World) (h0 : 0 ≤ st) (h1 : st ≤ 11) (hn0 : 0 ≤ n) (hn1 : n ≤ 255) :
    Calls Try.prog 36 #[.int .i64 st, .int .u8 n] w fun e w' => e = .returned (.tuple #[.int .i64 (nS st n), .bool (nB st n)]) ∧ w = w' := by
  rcases st_cases h0 h1 with rfl | rfl | rfl | rfl | rfl | rfl | rfl | rfl | rfl | rfl | rfl | rfl
  · clear h0 h1
    go_enter Try.func36, Try.ntmps36
    go_wp2
    go_ret2
    exact ⟨rfl, rfl⟩
  · clear h0 h1
    rw [show nS 1 n = 1 from rfl, show nB 1 n = (parI n || n == 46) from rfl]
    cases hp : parI n with
    | true =>
      have HP := Lib.hid hp; clear hp
      go_enter Try.func36, Try.ntmps36
      go_wp2_with fail
      refine (partByte_any n _ hn0 hn1).mono ?_
      rintro e w' ⟨rfl, rfl⟩
      rw [HP.out]
      go_wp2
      go_ret2
      exact ⟨rfl, rfl⟩
    | false =>
      have HP := Lib.hid hp; clear hp
      go_enter Try.func36, Try.ntmps36
      go_wp2_with fail
      refine (partByte_any n _ hn0 hn1).mono ?_
      rintro e w' ⟨rfl, rfl⟩
      rw [HP.out]
      go_wp2
      go_ret2
      exact ⟨rfl, rfl⟩
  · clear h0 h1
    rw [show nS 2 n = 2 from rfl, show nB 2 n = (digI n || n == 46) from rfl]
    cases hp : digI n with
    | true =>
      have HP := Lib.hid hp; clear hp
      go_enter Try.func36, Try.ntmps36
      go_wp2_with fail
      refine (digit_any n _ hn0 hn1).mono ?_
      rintro e w' ⟨rfl, rfl⟩
      rw [HP.out]
      go_wp2
      go_ret2
      exact ⟨rfl, rfl⟩
    | false =>
      have HP := Lib.hid hp; clear hp
      go_enter Try.func36, Try.ntmps36
      go_wp2_with fail
      refine (digit_any n _ hn0 hn1).mono ?_
      rintro e w' ⟨rfl, rfl⟩
      rw [HP.out]
      go_wp2
      go_ret2
      exact ⟨rfl, rfl⟩
  · clear h0 h1
    rw [show nS 3 n = inTextI n from rfl, show nB 3 n = true from rfl]
    go_enter Try.func36, Try.ntmps36
    go_wp2_with fail
    refine (stateInText_any n _).mono ?_
    rintro e w' ⟨rfl, rfl⟩
    go_wp2
    go_ret2
    exact ⟨rfl, rfl⟩
  · clear h0 h1
    go_enter Try.func36, Try.ntmps36
    go_wp2
    go_ret2
    exact ⟨rfl, rfl⟩
  · clear h0 h1
    go_enter Try.func36, Try.ntmps36
    go_wp2
    go_ret2
    exact ⟨rfl, rfl⟩
  · clear h0 h1
    go_enter Try.func36, Try.ntmps36
    go_wp2
    go_ret2
    exact ⟨rfl, rfl⟩
  · clear h0 h1
    go_enter Try.func36, Try.ntmps36
    go_wp2
    go_ret2
    exact ⟨rfl, rfl⟩
  · clear h0 h1
    go_enter Try.func36, Try.ntmps36
    go_wp2
    go_ret2
    exact ⟨rfl, rfl⟩
  · clear h0 h1
    go_enter Try.func36, Try.ntmps36
    go_wp2
    go_ret2
    exact ⟨rfl, rfl⟩
  · clear h0 h1
    go_enter Try.func36, Try.ntmps36
    go_wp2
    go_ret2
    exact ⟨rfl, rfl⟩
  · clear h0 h1
    go_enter Try.func36, Try.ntmps36
    go_wp2
    go_ret2
    exact ⟨rfl, rfl⟩

end Go.Proofs.Ytffpaabpicdpeaa
