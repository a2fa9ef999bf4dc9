/-
  Where a token ends: spec.l3End, by its contract.
-/
import Derived.Test.YtiehdnompeibiaaTokSign
namespace Go.Proofs.Ytiehdnompeibiaa
open Go.RowKit
set_option linter.unusedVariables false

theorem lead_yes (p : Int → Bool) (s : ByteArray) (k : Nat) (h : k < s.size) (hp : p (s[k].toNat : Int) = true) : lead p (s.data.toList.drop k) = lead p (s.data.toList.drop (k + 1)) + 1 := by
  rw [drop_k s k h, lead, if_pos hp]
theorem lead_no (p : Int → Bool) (s : ByteArray) (k : Nat) (h : k < s.size) (hp : p (s[k].toNat : Int) = false) : lead p (s.data.toList.drop k) = 0 := by
  rw [drop_k s k h, lead, if_neg (by rw [hp]; simp)]
theorem lead_end (p : Int → Bool) (s : ByteArray) (k : Nat) (h : s.size ≤ k) : lead p (s.data.toList.drop k) = 0 := by rw [drop_end s k h]; rfl
theorem endN_name (s : ByteArray) (a : Nat) (h : a < s.size) (hl : ltrI (s[a].toNat : Int) = true) : endN (s.data.toList.drop a) = lead nmI (s.data.toList.drop a) ∧ endK (s.data.toList.drop a) = 1 := by
  rw [drop_k s a h]; simp [endN, endK, hl]
theorem endN_num (s : ByteArray) (a : Nat) (h : a < s.size) (hl : ltrI (s[a].toNat : Int) = false) (hd : digI (s[a].toNat : Int) = true) : endN (s.data.toList.drop a) = lead nrI (s.data.toList.drop a) ∧ endK (s.data.toList.drop a) = 2 := by
  rw [drop_k s a h]; simp [endN, endK, hl, hd]
theorem endN_text (s : ByteArray) (a : Nat) (h : a < s.size) (hl : ltrI (s[a].toNat : Int) = false) (hd : digI (s[a].toNat : Int) = false) (hq : ((s[a].toNat : Int) == 34) = true) :
    endN (s.data.toList.drop a) = (if a + 1 + clo false (s.data.toList.drop (a + 1)) < s.size then clo false (s.data.toList.drop (a + 1)) + 2 else 0) ∧ endK (s.data.toList.drop a) = (if a + 1 + clo false (s.data.toList.drop (a + 1)) < s.size then 3 else 0) := by
  have hl2 : (s.data.toList.drop (a + 1)).length = s.size - (a + 1) := by rw [List.length_drop, Array.length_toList]; rfl
  have e : clo false (s.data.toList.drop (a + 1)) < (s.data.toList.drop (a + 1)).length ↔ a + 1 + clo false (s.data.toList.drop (a + 1)) < s.size := by rw [hl2]; omega
  rw [drop_k s a h]; simp only [endN, endK, hl, hd, hq, Bool.false_eq_true, if_false, if_true, e, and_self]
theorem endN_sign (s : ByteArray) (a : Nat) (h : a < s.size) (hl : ltrI (s[a].toNat : Int) = false) (hd : digI (s[a].toNat : Int) = false) (hq : ((s[a].toNat : Int) == 34) = false) :
    endN (s.data.toList.drop a) = signL (s.data.toList.drop a) ∧ endK (s.data.toList.drop a) = if signL (s.data.toList.drop a) = 0 then 0 else 4 := by
  rw [drop_k s a h]; simp only [endN, endK, hl, hd, hq, Bool.false_eq_true, if_false, and_self]
theorem clo_stop (s : ByteArray) (k : Nat) (h : k < s.size) (hq : ((s[k].toNat : Int) == 34) = true) : clo false (s.data.toList.drop k) = 0 := by
  rw [drop_k s k h, clo, if_pos hq]
theorem clo_esc (s : ByteArray) (k : Nat) (h : k < s.size) (hq : ((s[k].toNat : Int) == 34) = false) (hb : ((s[k].toNat : Int) == 92) = true) : clo false (s.data.toList.drop k) = clo false (s.data.toList.drop (k + 2)) + 2 := by
  rw [drop_k s k h, clo, if_neg (by rw [hq]; simp), if_pos hb]
  by_cases h1 : k + 1 < s.size
  · rw [drop_k s (k + 1) h1, clo]
  · rw [drop_end s (k + 1) (by omega), drop_end s (k + 2) (by omega)]; rfl
theorem clo_one (s : ByteArray) (k : Nat) (h : k < s.size) (hq : ((s[k].toNat : Int) == 34) = false) (hb : ((s[k].toNat : Int) == 92) = false) : clo false (s.data.toList.drop k) = clo false (s.data.toList.drop (k + 1)) + 1 := by
  rw [drop_k s k h, clo, if_neg (by rw [hq]; simp), if_neg (by rw [hb]; simp)]
theorem clo_end (s : ByteArray) (k : Nat) (h : s.size ≤ k) : clo false (s.data.toList.drop k) = 0 := by rw [drop_end s k h]; rfl

/-- What l3End returns. -/
def EndAt (s : ByteArray) (a : Nat) (w : World) (e : Ending) (w' : World) : Prop :=
  e = .returned (.tuple #[.int .i64 ((a + endN (s.data.toList.drop a) : Nat) : Int), .int .i64 (endK (s.data.toList.drop a))]) ∧ Below w.heap.size w w'
theorem endAt_of {s : ByteArray} {a n : Nat} {k : Int} {w w' : World} (h1 : endN (s.data.toList.drop a) = n) (h2 : endK (s.data.toList.drop a) = k) (hb : Below w.heap.size w w') : EndAt s a w (.returned (.tuple #[.int .i64 ((a + n : Nat) : Int), .int .i64 k])) w' := by
  subst h1 h2; exact ⟨rfl, hb⟩

set_option maxRecDepth 100000 in
set_option maxHeartbeats 4000000 in
theorem l3End_name (s : ByteArray) (a : Nat) (w : World) (hs : s.size ≤ 20000) (ha : a < s.size) (hl : ltrI (s[a].toNat : Int) = true) :
    Calls Try.prog 41 #[.string s, .int .i64 (a : Int)] w (EndAt s a w) := by
  have hb0 : (s[a].toNat : Int) ≤ 255 := by have := s[a].toNat_lt; omega
  have HE := Lib.hid (endN_name s a ha hl); have HL := Lib.hid hl; clear hl
  go_enter Try.func41, Try.ntmps41
  go_wp2_with fail
  refine (l3Letter_any _ _ (by omega) (by omega)).mono ?_
  rintro e w' ⟨rfl, rfl⟩
  rw [HL.out]
  go_wp2_with fail
  go_loop [6] (fun i => ∃ j : Nat, a + j ≤ s.size ∧ i = .int .i64 ((a + j : Nat) : Int) ∧ j + lead nmI (s.data.toList.drop (a + j)) = lead nmI (s.data.toList.drop a)) (fun i => s.size - (intOf i).toNat)
  case atStart => exact ⟨0, by omega, rfl, by simp⟩
  case round =>
    obtain ⟨j, hj, rfl, hr⟩ := hrel
    have HR := Lib.hid hr; clear hr
    by_cases hlt : a + j < s.size
    · have hbk : (s[a + j].toNat : Int) ≤ 255 := by have := s[a + j].toNat_lt; omega
      have HY := Lib.hid (lead_yes nmI s (a + j) hlt)
      have HZ := Lib.hid (lead_no nmI s (a + j) hlt)
      cases hk1 : ltrI (s[a + j].toNat : Int) with
      | true =>
        have HK1 := Lib.hid hk1; clear hk1
        have HV := Lib.hid (HY.out (by simp [nmI, parI, HK1.out])); clear HY HZ
        go_wp2_with fail
        refine (l3Letter_any _ _ (by omega) (by omega)).mono ?_
        rintro e w' ⟨rfl, rfl⟩
        rw [HK1.out]
        go_wp2
        go_round
        case rel => exact ⟨j + 1, by omega, by go_num, by rw [← HR.out, HV.out, show a + (j + 1) = a + j + 1 by omega]; omega⟩
        case measure => simp [intOf]; omega
      | false =>
        have HK1 := Lib.hid hk1; clear hk1
        cases hk2 : digI (s[a + j].toNat : Int) with
        | true =>
          have HK2 := Lib.hid hk2; clear hk2
          have HV := Lib.hid (HY.out (by simp [nmI, parI, HK1.out, HK2.out])); clear HY HZ
          go_wp2_with fail
          refine (l3Letter_any _ _ (by omega) (by omega)).mono ?_
          rintro e w' ⟨rfl, rfl⟩
          rw [HK1.out]
          go_wp2_with fail
          refine (l3Digit_any _ _ (by omega) (by omega)).mono ?_
          rintro e w' ⟨rfl, rfl⟩
          rw [HK2.out]
          go_wp2
          go_round
          case rel => exact ⟨j + 1, by omega, by go_num, by rw [← HR.out, HV.out, show a + (j + 1) = a + j + 1 by omega]; omega⟩
          case measure => simp [intOf]; omega
        | false =>
          have HK2 := Lib.hid hk2; clear hk2
          cases hk3 : ((s[a + j].toNat : Int) == 95) with
          | true =>
            have HV := Lib.hid (HY.out (by simp only [nmI, parI, HK1.out, HK2.out, hk3]; rfl)); clear HY HZ
            go_wp2_with fail
            refine (l3Letter_any _ _ (by omega) (by omega)).mono ?_
            rintro e w' ⟨rfl, rfl⟩
            rw [HK1.out]
            go_wp2_with fail
            refine (l3Digit_any _ _ (by omega) (by omega)).mono ?_
            rintro e w' ⟨rfl, rfl⟩
            rw [HK2.out]
            go_wp2
            go_round
            case rel => exact ⟨j + 1, by omega, by go_num, by rw [← HR.out, HV.out, show a + (j + 1) = a + j + 1 by omega]; omega⟩
            case measure => simp [intOf]; omega
          | false =>
            cases hk4 : ((s[a + j].toNat : Int) == 46) with
            | true =>
              have HV := Lib.hid (HY.out (by simp only [nmI, parI, HK1.out, HK2.out, hk3, hk4]; rfl)); clear HY HZ
              go_wp2_with fail
              refine (l3Letter_any _ _ (by omega) (by omega)).mono ?_
              rintro e w' ⟨rfl, rfl⟩
              rw [HK1.out]
              go_wp2_with fail
              refine (l3Digit_any _ _ (by omega) (by omega)).mono ?_
              rintro e w' ⟨rfl, rfl⟩
              rw [HK2.out]
              go_wp2
              go_round
              case rel => exact ⟨j + 1, by omega, by go_num, by rw [← HR.out, HV.out, show a + (j + 1) = a + j + 1 by omega]; omega⟩
              case measure => simp [intOf]; omega
            | false =>
              have HV := Lib.hid (HZ.out (by simp only [nmI, parI, HK1.out, HK2.out, hk3, hk4]; rfl)); clear HY HZ
              have HQ := Lib.hid (show endN (s.data.toList.drop a) = j by rw [HE.out.1, ← HR.out, HV.out]; rfl)
              go_wp2_with fail
              refine (l3Letter_any _ _ (by omega) (by omega)).mono ?_
              rintro e w' ⟨rfl, rfl⟩
              rw [HK1.out]
              go_wp2_with fail
              refine (l3Digit_any _ _ (by omega) (by omega)).mono ?_
              rintro e w' ⟨rfl, rfl⟩
              rw [HK2.out]
              go_wp2
              go_ret2
              exact endAt_of HQ.out HE.out.2 (Below.refl _ _)
    · have HZ := Lib.hid (lead_end nmI s (a + j) (by omega))
      have HQ := Lib.hid (show endN (s.data.toList.drop a) = j by rw [HE.out.1, ← HR.out, HZ.out]; rfl)
      go_wp2
      go_ret2
      exact endAt_of HQ.out HE.out.2 (Below.refl _ _)

set_option maxRecDepth 100000 in
set_option maxHeartbeats 4000000 in
theorem l3End_num (s : ByteArray) (a : Nat) (w : World) (hs : s.size ≤ 20000) (ha : a < s.size) (hl : ltrI (s[a].toNat : Int) = false) (hd : digI (s[a].toNat : Int) = true) :
    Calls Try.prog 41 #[.string s, .int .i64 (a : Int)] w (EndAt s a w) := by
  have hb0 : (s[a].toNat : Int) ≤ 255 := by have := s[a].toNat_lt; omega
  have HE := Lib.hid (endN_num s a ha hl hd); have HL := Lib.hid hl; have HD := Lib.hid hd; clear hl hd
  go_enter Try.func41, Try.ntmps41
  go_wp2_with fail
  refine (l3Letter_any _ _ (by omega) (by omega)).mono ?_
  rintro e w' ⟨rfl, rfl⟩
  rw [HL.out]
  go_wp2_with fail
  refine (l3Digit_any _ _ (by omega) (by omega)).mono ?_
  rintro e w' ⟨rfl, rfl⟩
  rw [HD.out]
  go_wp2_with fail
  go_loop [6] (fun i => ∃ j : Nat, a + j ≤ s.size ∧ i = .int .i64 ((a + j : Nat) : Int) ∧ j + lead nrI (s.data.toList.drop (a + j)) = lead nrI (s.data.toList.drop a)) (fun i => s.size - (intOf i).toNat)
  case atStart => exact ⟨0, by omega, rfl, by simp⟩
  case round =>
    obtain ⟨j, hj, rfl, hr⟩ := hrel
    have HR := Lib.hid hr; clear hr
    by_cases hlt : a + j < s.size
    · have hbk : (s[a + j].toNat : Int) ≤ 255 := by have := s[a + j].toNat_lt; omega
      have HY := Lib.hid (lead_yes nrI s (a + j) hlt)
      have HZ := Lib.hid (lead_no nrI s (a + j) hlt)
      cases hk2 : digI (s[a + j].toNat : Int) with
      | true =>
        have HK2 := Lib.hid hk2; clear hk2
        have HV := Lib.hid (HY.out (by simp [nrI, HK2.out])); clear HY HZ
        go_wp2_with fail
        refine (l3Digit_any _ _ (by omega) (by omega)).mono ?_
        rintro e w' ⟨rfl, rfl⟩
        rw [HK2.out]
        go_wp2
        go_round
        case rel => exact ⟨j + 1, by omega, by go_num, by rw [← HR.out, HV.out, show a + (j + 1) = a + j + 1 by omega]; omega⟩
        case measure => simp [intOf]; omega
      | false =>
        have HK2 := Lib.hid hk2; clear hk2
        cases hk4 : ((s[a + j].toNat : Int) == 46) with
        | true =>
          have HV := Lib.hid (HY.out (by simp only [nrI, HK2.out, hk4]; rfl)); clear HY HZ
          go_wp2_with fail
          refine (l3Digit_any _ _ (by omega) (by omega)).mono ?_
          rintro e w' ⟨rfl, rfl⟩
          rw [HK2.out]
          go_wp2
          go_round
          case rel => exact ⟨j + 1, by omega, by go_num, by rw [← HR.out, HV.out, show a + (j + 1) = a + j + 1 by omega]; omega⟩
          case measure => simp [intOf]; omega
        | false =>
          have HV := Lib.hid (HZ.out (by simp only [nrI, HK2.out, hk4]; rfl)); clear HY HZ
          have HQ := Lib.hid (show endN (s.data.toList.drop a) = j by rw [HE.out.1, ← HR.out, HV.out]; rfl)
          go_wp2_with fail
          refine (l3Digit_any _ _ (by omega) (by omega)).mono ?_
          rintro e w' ⟨rfl, rfl⟩
          rw [HK2.out]
          go_wp2
          go_ret2
          exact endAt_of HQ.out HE.out.2 (Below.refl _ _)
    · have HZ := Lib.hid (lead_end nrI s (a + j) (by omega))
      have HQ := Lib.hid (show endN (s.data.toList.drop a) = j by rw [HE.out.1, ← HR.out, HZ.out]; rfl)
      go_wp2
      go_ret2
      exact endAt_of HQ.out HE.out.2 (Below.refl _ _)

set_option maxRecDepth 100000 in
set_option maxHeartbeats 4000000 in
theorem l3End_text (s : ByteArray) (a : Nat) (w : World) (hs : s.size ≤ 20000) (ha : a < s.size) (hl : ltrI (s[a].toNat : Int) = false) (hd : digI (s[a].toNat : Int) = false) (hq : ((s[a].toNat : Int) == 34) = true) :
    Calls Try.prog 41 #[.string s, .int .i64 (a : Int)] w (EndAt s a w) := by
  have hb0 : (s[a].toNat : Int) ≤ 255 := by have := s[a].toNat_lt; omega
  have HE := Lib.hid (endN_text s a ha hl hd hq); have HL := Lib.hid hl; have HD := Lib.hid hd; clear hl hd
  go_enter Try.func41, Try.ntmps41
  go_wp2_with fail
  refine (l3Letter_any _ _ (by omega) (by omega)).mono ?_
  rintro e w' ⟨rfl, rfl⟩
  rw [HL.out]
  go_wp2_with fail
  refine (l3Digit_any _ _ (by omega) (by omega)).mono ?_
  rintro e w' ⟨rfl, rfl⟩
  rw [HD.out]
  go_wp2_with fail
  go_loop [6] (fun i => ∃ k : Nat, a + 1 ≤ k ∧ k ≤ s.size + 1 ∧ i = .int .i64 (k : Int) ∧ k + clo false (s.data.toList.drop k) = a + 1 + clo false (s.data.toList.drop (a + 1))) (fun i => s.size + 1 - (intOf i).toNat)
  case atStart => exact ⟨a + 1, by omega, by omega, by go_num, rfl⟩
  case round =>
    obtain ⟨k, hk0, hk, rfl, hr⟩ := hrel
    have HR := Lib.hid hr; clear hr
    by_cases hlt : k < s.size
    · have hbk : (s[k].toNat : Int) ≤ 255 := by have := s[k].toNat_lt; omega
      cases h34 : ((s[k].toNat : Int) == 34) with
      | true =>
        have n34 : ((s[k].toNat : Int) != 34) = false := by simp only [bne, h34]; rfl
        have HZ := Lib.hid (clo_stop s k hlt h34)
        have HV := Lib.hid (show a + 1 + clo false (s.data.toList.drop (a + 1)) = k by rw [← HR.out, HZ.out]; rfl)
        have HQ := Lib.hid (show endN (s.data.toList.drop a) = k + 1 - a by rw [HE.out.1, HV.out, if_pos hlt]; have := HV.out; omega)
        have HQ2 := Lib.hid (show endK (s.data.toList.drop a) = 3 by rw [HE.out.2, HV.out, if_pos hlt])
        have HX := Lib.hid (show ((a + (k + 1 - a) : Nat) : Int) = (k : Int) + 1 by omega)
        go_wp2
        go_ret2
        have := endAt_of (w := w) HQ.out HQ2.out (Below.refl _ _)
        rw [HX.out] at this
        exact this
      | false =>
        have n34 : ((s[k].toNat : Int) != 34) = true := by simp only [bne, h34]; rfl
        cases h92 : ((s[k].toNat : Int) == 92) with
        | true =>
          have HV := Lib.hid (clo_esc s k hlt h34 h92)
          go_wp2
          go_round
          case rel => exact ⟨k + 2, by omega, by omega, by go_num, by rw [← HR.out, HV.out]; omega⟩
          case measure => simp [intOf]; omega
        | false =>
          have HV := Lib.hid (clo_one s k hlt h34 h92)
          go_wp2
          go_round
          case rel => exact ⟨k + 1, by omega, by omega, by go_num, by rw [← HR.out, HV.out]; omega⟩
          case measure => simp [intOf]; omega
    · have HZ := Lib.hid (clo_end s k (by omega))
      have HV := Lib.hid (show a + 1 + clo false (s.data.toList.drop (a + 1)) = k by rw [← HR.out, HZ.out]; rfl)
      have HQ := Lib.hid (show endN (s.data.toList.drop a) = 0 by rw [HE.out.1, HV.out, if_neg hlt])
      have HQ2 := Lib.hid (show endK (s.data.toList.drop a) = 0 by rw [HE.out.2, HV.out, if_neg hlt])
      go_wp2
      go_ret2
      exact endAt_of HQ.out HQ2.out (Below.refl _ _)

set_option maxRecDepth 100000 in
set_option maxHeartbeats 4000000 in
theorem l3End_sign (s : ByteArray) (a : Nat) (w : World) (hs : s.size ≤ 20000) (ha : a < s.size) (hl : ltrI (s[a].toNat : Int) = false) (hd : digI (s[a].toNat : Int) = false) (hq : ((s[a].toNat : Int) == 34) = false) :
    Calls Try.prog 41 #[.string s, .int .i64 (a : Int)] w (EndAt s a w) := by
  have hb0 : (s[a].toNat : Int) ≤ 255 := by have := s[a].toNat_lt; omega
  have HE := Lib.hid (endN_sign s a ha hl hd hq); have HL := Lib.hid hl; have HD := Lib.hid hd; clear hl hd
  go_enter Try.func41, Try.ntmps41
  go_wp2_with fail
  refine (l3Letter_any _ _ (by omega) (by omega)).mono ?_
  rintro e w' ⟨rfl, rfl⟩
  rw [HL.out]
  go_wp2_with fail
  refine (l3Digit_any _ _ (by omega) (by omega)).mono ?_
  rintro e w' ⟨rfl, rfl⟩
  rw [HD.out]
  go_wp2_with fail
  refine (l3Sign_any s a _ hs ha).mono ?_
  rintro e w1 ⟨rfl, hb1⟩
  have HB1 := Lib.hid hb1; clear hb1
  have hle : signL (s.data.toList.drop a) ≤ 2 := by
    rw [drop_k s a ha]
    cases s.data.toList.drop (a + 1) with
    | nil => simp only [signL]; split <;> omega
    | cons c r => simp only [signL]; split
                  · omega
                  · split <;> omega
  generalize hn : signL (s.data.toList.drop a) = n at *
  by_cases hz : n = 0
  · have hz' : ((n : Int) == 0) = true := beq_iff_eq.mpr (by omega)
    have HQ := Lib.hid (show endN (s.data.toList.drop a) = 0 by rw [HE.out.1]; exact hz)
    have HQ2 := Lib.hid (show endK (s.data.toList.drop a) = 0 by rw [HE.out.2, if_pos hz])
    clear hn hz
    go_wp2
    go_ret2
    exact endAt_of HQ.out HQ2.out HB1.out
  · have hz' : ((n : Int) == 0) = false := beq_eq_false_iff_ne.mpr (by omega)
    have HQ := Lib.hid HE.out.1
    have HQ2 := Lib.hid (show endK (s.data.toList.drop a) = 4 by rw [HE.out.2, if_neg hz])
    clear hn hz
    go_wp2
    go_ret2
    exact endAt_of HQ.out HQ2.out HB1.out

theorem l3End_any (s : ByteArray) (a : Nat) (w : World) (hs : s.size ≤ 20000) (ha : a < s.size) :
    Calls Try.prog 41 #[.string s, .int .i64 (a : Int)] w (EndAt s a w) := by
  cases hl : ltrI (s[a].toNat : Int) with
  | true => exact l3End_name s a w hs ha hl
  | false =>
    cases hd : digI (s[a].toNat : Int) with
    | true => exact l3End_num s a w hs ha hl hd
    | false =>
      cases hq : ((s[a].toNat : Int) == 34) with
      | true => exact l3End_text s a w hs ha hl hd hq
      | false => exact l3End_sign s a w hs ha hl hd hq

end Go.Proofs.Ytiehdnompeibiaa
