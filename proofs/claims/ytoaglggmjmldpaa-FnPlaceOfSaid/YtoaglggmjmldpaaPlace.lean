/-
  impl.PlaceOf and spec.PlaceOf, by their contracts.
-/
import Derived.Test.YtoaglggmjmldpaaStarts
namespace Go.Proofs.Ytoaglggmjmldpaa
open Go.RowKit
set_option linter.unusedVariables false

theorem below_drawn {B : Nat} {a w : World} (h : Below B a w) (n : Nat) : Below B a (w.drewN n) := h.trans ⟨rfl, rfl, rfl, Nat.le_refl _, fun _ _ => rfl⟩

/-- A place of a valid text. -/
def placeOK (s : ByteArray) (p : Int) : Bool := (decide (0 ≤ p) && decide (p ≤ (s.size : Int))) && textB s
def placeL (s : ByteArray) (p : Int) : Int := if placeOK s p = true then ((lineN s.data.toList p.toNat : Nat) : Int) else -1
def placeC (s : ByteArray) (p : Int) : Int := if placeOK s p = true then p - ((fromN s.data.toList p.toNat : Nat) : Int) else -1

theorem place_bad {s : ByteArray} {p : Int} (h : placeOK s p = false) : placeL s p = -1 ∧ placeC s p = -1 := by
  simp [placeL, placeC, h]
theorem place_good {s : ByteArray} {p : Nat} (h : placeOK s p = true) : placeL s p = (lineN s.data.toList p : Nat) ∧ placeC s p = (p : Int) - (fromN s.data.toList p : Nat) := by
  simp [placeL, placeC, h]
theorem ret_two {a b c d : Int} (h : a = c) (h' : b = d) : Ending.returned (.tuple #[.int .i64 a, .int .i64 b]) = .returned (.tuple #[.int .i64 c, .int .i64 d]) := by rw [h, h']

set_option maxHeartbeats 2000000 in
theorem placeOf_spec (s : ByteArray) (p : Int) (w : World) (hs : s.size ≤ maxLen) :
    Calls Try.prog 25 #[.string s, .int .i64 p] w fun e w' => e = .returned (.tuple #[.int .i64 (placeL s p), .int .i64 (placeC s p)]) ∧ w = w' := by
  have hs1 := hs
  unfold maxLen at hs1
  by_cases hok : placeOK s p = true
  · have ho := hok
    simp only [placeOK, Bool.and_eq_true, decide_eq_true_eq] at ho
    obtain ⟨⟨h0, h1⟩, ht⟩ := ho
    obtain ⟨k, rfl⟩ := Int.eq_ofNat_of_zero_le h0
    rw [(place_good hok).1, (place_good hok).2]
    have hin : inI (k : Int) 0 (s.size : Int) = true := by simp [inI]; omega
    have HT := Lib.hid ht; clear ht hok
    go_enter Try.func25, Try.ntmps25
    go_wp2_with fail
    refine (textValid_spec s _ hs).mono ?_
    rintro e w' ⟨rfl, rfl⟩
    rw [HT.out]
    go_wp2_with fail
    refine (l1In_any _ _ _ _).mono ?_
    rintro e w' ⟨rfl, rfl⟩
    rw [hin]
    clear hin
    go_wp2_with fail
    go_loop [6, 7, 8] (fun a b i => ∃ j : Nat, j ≤ k ∧ i = .int .i64 j ∧ a = .int .i64 (lineN s.data.toList j : Nat) ∧ b = .int .i64 (fromN s.data.toList j : Nat)) (fun _ _ i => k - (intOf i).toNat)
    case atStart => exact ⟨0, Nat.zero_le _, rfl, rfl, rfl⟩
    case round =>
      obtain ⟨j, hj, rfl, rfl, rfl⟩ := hrel
      have hll := lineN_le s.data.toList j
      have hfl := fromN_le s.data.toList j
      by_cases hlt : j < k
      · have hjs : j < s.size := by omega
        by_cases hten : ((s[j].toNat : Int) == 10) = true
        · have HL := Lib.hid (show lineN s.data.toList (j + 1) = lineN s.data.toList j + 1 by simp only [lineN]; rw [if_pos (byte_ten s j hjs hten)])
          have HF := Lib.hid (show fromN s.data.toList (j + 1) = j + 1 by simp only [fromN]; rw [if_pos (byte_ten s j hjs hten)])
          go_wp2
          go_round
          case rel => exact ⟨j + 1, by omega, by go_num, by rw [HL.out]; go_num, by rw [HF.out]; go_num⟩
          case measure => simp [intOf]; omega
        · have hten' : ((s[j].toNat : Int) == 10) = false := by simpa using hten
          have HL := Lib.hid (show lineN s.data.toList (j + 1) = lineN s.data.toList j by simp only [lineN]; rw [if_neg (byte_other s j hjs hten')])
          have HF := Lib.hid (show fromN s.data.toList (j + 1) = fromN s.data.toList j by simp only [fromN]; rw [if_neg (byte_other s j hjs hten')])
          clear hten
          go_wp2
          go_round
          case rel => exact ⟨j + 1, by omega, by go_num, by rw [HL.out], by rw [HF.out]⟩
          case measure => simp [intOf]; omega
      · go_wp2
        go_ret2
        obtain rfl : j = k := by omega
        exact ⟨rfl, rfl⟩
  · have hb := Bool.eq_false_iff.mpr hok
    rw [(place_bad hb).1, (place_bad hb).2]
    by_cases ht : textB s = true
    · have hin : inI p 0 (s.size : Int) = false := by
        rw [placeOK, ht, Bool.and_true] at hb
        exact hb
      have HT := Lib.hid ht; clear ht hok hb
      go_enter Try.func25, Try.ntmps25
      go_wp2_with fail
      refine (textValid_spec s _ hs).mono ?_
      rintro e w' ⟨rfl, rfl⟩
      rw [HT.out]
      go_wp2_with fail
      refine (l1In_any _ _ _ _).mono ?_
      rintro e w' ⟨rfl, rfl⟩
      rw [hin]
      clear hin
      go_wp2
      go_ret2
      exact ⟨rfl, rfl⟩
    · go_enter Try.func25, Try.ntmps25
      go_wp2_with fail
      refine (textValid_spec s _ hs).mono ?_
      rintro e w' ⟨rfl, rfl⟩
      rw [Bool.eq_false_iff.mpr ht]
      clear hok hb ht
      go_wp2
      go_ret2
      exact ⟨rfl, rfl⟩

set_option maxRecDepth 100000 in
set_option maxHeartbeats 2000000 in
theorem placeOf_impl (s : ByteArray) (p : Int) (w : World) (hs : s.size ≤ maxLen) :
    Calls Try.prog 24 #[.string s, .int .i64 p] w fun e w' => e = .returned (.tuple #[.int .i64 (placeL s p), .int .i64 (placeC s p)]) ∧ Below w.heap.size w w' := by
  have hs1 := hs
  unfold maxLen at hs1
  by_cases hok : placeOK s p = true
  · have ho := hok
    simp only [placeOK, Bool.and_eq_true, decide_eq_true_eq] at ho
    obtain ⟨⟨h0, h1⟩, ht⟩ := ho
    obtain ⟨k, rfl⟩ := Int.eq_ofNat_of_zero_le h0
    rw [(place_good hok).1, (place_good hok).2]
    have h20 : s.size ≤ 20000 := by simp only [textB, Bool.and_eq_true, decide_eq_true_eq] at ht; exact ht.1
    have HT := Lib.hid ht; clear ht hok
    have b0 : decide ((k : Int) < 0) = false := by simp
    have b1 : decide ((s.size : Int) < (k : Int)) = false := by simp; omega
    go_enter Try.func24, Try.ntmps24
    go_wp2_with fail
    refine (textValid_impl s _ hs).mono ?_
    rintro e w' ⟨rfl, rfl⟩
    rw [HT.out]
    go_wp2_with fail
    refine (lineStarts_any s _ h20).mono ?_
    rintro e w1 ⟨g, cap, rfl, hc1, hc2, hg0, hg1, hcells, hb⟩
    have HC := Lib.hid hcells; have HB := Lib.hid hb
    unfold maxLen at hc2
    have hln := lineN_le s.data.toList s.size
    clear hcells hb
    go_wp2_with fail
    go_loop [7] (fun a => ∃ j : Nat, lineN s.data.toList k ≤ j ∧ j ≤ lineN s.data.toList s.size ∧ a = .int .i64 (j : Nat)) (fun a => (intOf a).toNat)
    case atStart => exact ⟨lineN s.data.toList s.size, lineN_mono _ _ _ (by omega), Nat.le_refl _, by go_num⟩
    case round =>
      obtain ⟨j, hj0, hj1, rfl⟩ := hrel
      by_cases hlt : lineN s.data.toList k < j
      · obtain ⟨x, hx, hkx⟩ := starts_later s.data.toList k s.size j (by omega) hlt hj1
        have hcell := HC.out j x hx
        clear hx
        go_wp2
        go_round
        case rel => exact ⟨j - 1, by omega, by omega, by go_num⟩
        case measure => simp [intOf]; omega
      · obtain rfl : j = lineN s.data.toList k := by omega
        have hcell := HC.out _ _ (starts_at s.data.toList k s.size (by omega))
        have hfl := fromN_le s.data.toList k
        go_wp2
        go_quiet (fail)
        go_wp2
        go_ret2
        exact ⟨rfl, below_drawn HB.out _⟩
  · have hb := Bool.eq_false_iff.mpr hok
    rw [(place_bad hb).1, (place_bad hb).2]
    by_cases h0 : p < 0
    · have b0 : decide (p < 0) = true := by simpa using h0
      go_enter Try.func24, Try.ntmps24
      go_wp2
      go_ret2
      exact ⟨rfl, Below.refl _ _⟩
    have b0 : decide (p < 0) = false := by simpa using h0
    by_cases h1 : (s.size : Int) < p
    · have b1 : decide ((s.size : Int) < p) = true := by simpa using h1
      go_enter Try.func24, Try.ntmps24
      go_wp2
      go_ret2
      exact ⟨rfl, Below.refl _ _⟩
    have b1 : decide ((s.size : Int) < p) = false := by simpa using h1
    have ht : textB s = false := by
      have a0 : decide (0 ≤ p) = true := by simp; omega
      have a1 : decide (p ≤ (s.size : Int)) = true := by simp; omega
      rw [placeOK, a0, a1] at hb
      simpa using hb
    clear hb hok
    go_enter Try.func24, Try.ntmps24
    go_wp2_with fail
    refine (textValid_impl s _ hs).mono ?_
    rintro e w' ⟨rfl, rfl⟩
    rw [ht]
    clear ht
    go_wp2
    go_ret2
    exact ⟨rfl, Below.refl _ _⟩

end Go.Proofs.Ytoaglggmjmldpaa
