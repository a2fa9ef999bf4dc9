/-
  spec.DrawReadFraction returns a short text.
-/
import Derived.Test.YtpgbfagacpondaaDoorDrawDecimal
import Derived.Test.YtpgbfagacpondaaDoorFracDraw
import Derived.Test.YtpgbfagacpondaaDoorTextS
import Derived.Test.YtpgbfagacpondaaDoorWalkFractionText
namespace Go.Proofs.YtpgbfagacpondaaDoor
open Go.RowKit
set_option linter.unusedVariables false
attribute [local go_sem ↓] Go.wp_at_zero Go.wp_at_succ

def DrawnR (w : World) (e : Ending) (w' : World) : Prop :=
  ∃ s : ByteArray, e = .returned (.string s) ∧ s.size ≤ 101 ∧ Below w.heap.size w w'

theorem dec15 (x y : ByteArray) (hx : x.size ≤ 20) (hy : y.size ≤ 20) (m : Nat) (h : m < 15) : ∃ t : ByteArray, t.size ≤ 21 ∧ (#[Value.string ⟨#[45, 48]⟩, .string ⟨#[51, 47, 52]⟩, .string ⟨#[49, 47, 48]⟩, .string ⟨#[49, 47]⟩, .string ⟨#[47, 51]⟩, .string ⟨#[45]⟩, .string ⟨#[43, 49]⟩, .string ⟨#[49, 48, 48, 48, 48, 48, 48, 48, 48, 48]⟩, .string ⟨#[49, 48, 48, 48, 48, 48, 48, 48, 48, 49]⟩, .string ⟨#[50, 47, 54]⟩, .string ⟨#[45, 49, 47, 51]⟩, .string ⟨#[48, 46, 53]⟩, .string ⟨#[48, 46, 53, 48]⟩, .string (⟨#[45]⟩ ++ x), .string y] : Array Value)[m]? = some (.string t) := by
  match m, h with
  | 0, _ => exact ⟨⟨#[45, 48]⟩, by show (2 : Nat) ≤ 21; omega, rfl⟩
  | 1, _ => exact ⟨⟨#[51, 47, 52]⟩, by show (3 : Nat) ≤ 21; omega, rfl⟩
  | 2, _ => exact ⟨⟨#[49, 47, 48]⟩, by show (3 : Nat) ≤ 21; omega, rfl⟩
  | 3, _ => exact ⟨⟨#[49, 47]⟩, by show (2 : Nat) ≤ 21; omega, rfl⟩
  | 4, _ => exact ⟨⟨#[47, 51]⟩, by show (2 : Nat) ≤ 21; omega, rfl⟩
  | 5, _ => exact ⟨⟨#[45]⟩, by show (1 : Nat) ≤ 21; omega, rfl⟩
  | 6, _ => exact ⟨⟨#[43, 49]⟩, by show (2 : Nat) ≤ 21; omega, rfl⟩
  | 7, _ => exact ⟨⟨#[49, 48, 48, 48, 48, 48, 48, 48, 48, 48]⟩, by show (10 : Nat) ≤ 21; omega, rfl⟩
  | 8, _ => exact ⟨⟨#[49, 48, 48, 48, 48, 48, 48, 48, 48, 49]⟩, by show (10 : Nat) ≤ 21; omega, rfl⟩
  | 9, _ => exact ⟨⟨#[50, 47, 54]⟩, by show (3 : Nat) ≤ 21; omega, rfl⟩
  | 10, _ => exact ⟨⟨#[45, 49, 47, 51]⟩, by show (4 : Nat) ≤ 21; omega, rfl⟩
  | 11, _ => exact ⟨⟨#[48, 46, 53]⟩, by show (3 : Nat) ≤ 21; omega, rfl⟩
  | 12, _ => exact ⟨⟨#[48, 46, 53, 48]⟩, by show (4 : Nat) ≤ 21; omega, rfl⟩
  | 13, _ => exact ⟨(⟨#[45]⟩ ++ x), by rw [ByteArray.size_append]; show 1 + x.size ≤ 21; omega, rfl⟩
  | 14, _ => exact ⟨y, by omega, rfl⟩

set_option maxRecDepth 100000 in
set_option maxHeartbeats 8000000 in
theorem drawReadFraction_any (a : Option Addr) (len cap : Nat) (w : World) (h : CodeRow w a len cap) :
    Calls Tryd.prog 16 #[.slice a len cap] w (DrawnR w) := by
  go_enter Tryd.func16, Tryd.ntmps16
  go_wp2_with fail
  refine (open_codes a len cap _ h).mono ?_
  rintro e w1 ⟨rfl, hr1, hb1, hs1⟩
  have HB := Lib.hid hb1; have HS := Lib.hid hs1
  clear hb1 hs1 h
  go_wp2_with fail
  refine (odd_any w.heap.size 0 3 _ (by omega) (by omega) (by omega) hr1).mono ?_
  rintro e w2 ⟨od, rfl, -, hr2, hg2, hs2⟩
  have HG2 := Lib.hid hg2; clear hg2 hs2 hr1
  cases od with
  | true =>
    go_wp2_with fail
    refine (decimal_any w.heap.size 1 _ (by omega) hr2).mono ?_
    rintro e w4 ⟨sA, rfl, hsA, hr4, hg4⟩
    have HG4 := Lib.hid (grown_trans HG2.out hg4)
    clear hg4 hr2 HG2
    go_wp2_with fail
    refine (decimal_any w.heap.size (1 + 3) _ (by omega) hr4).mono ?_
    rintro e w5 ⟨sB, rfl, hsB, hr5, hg5⟩
    have HG5 := Lib.hid (grown_trans HG4.out hg5)
    have hR5 := hr5.lt; have HL := Lib.hid (dec15 sA sB hsA hsB)
    clear hg5 hr4 HG4
    go_wp2_with fail
    refine (pick_any w.heap.size (1 + 3 + 3) 15 _ (by omega) (hr5.al1 _)).mono ?_
    rintro e w6 ⟨m6, rfl, hm60, hm61, -, hr6, hg6, hs6⟩
    have hm6 := hm61 (by omega)
    clear hm61
    obtain ⟨j6, hj6⟩ := Int.eq_ofNat_of_zero_le hm60
    subst hj6
    obtain ⟨t, ht, hlit⟩ := HL.out j6 (by omega)
    have c6 := lit_cell hR5 hg6 hlit
    have HB6 := Lib.hid (HB.out.trans (grown_below (grown_trans (grown_alloc HG5.out _) hg6) (by have := HS.out; omega) (Nat.le_refl _)))
    clear hg6 hs6 hlit HL HG5 hr6 hr5
    go_wp2
    go_ret
    exact ⟨t, rfl, by omega, HB6.out⟩
  | false =>
    go_wp2_with fail
    refine (fraction_any w.heap.size 1 0 _ (by omega) (by omega) (by omega) hr2).mono ?_
    rintro e w3 ⟨aT, aB, rfl, hr3, hg3⟩
    have HB3 := Lib.hid (HB.out.trans (grown_below (grown_trans HG2.out hg3) (by have := HS.out; omega) (Nat.le_refl _))); clear hg3 hr3 HG2
    have hlen := textF_len aT aB
    have hzs : (⟨(textF aT aB).toArray⟩ : ByteArray).size ≤ 101 := by show (textF aT aB).toArray.size ≤ 101; simpa using hlen
    have CT := Lib.hid (fun w' => fractionText_spec aT aB w')
    generalize (⟨(textF aT aB).toArray⟩ : ByteArray) = Z at CT hzs
    clear hlen
    go_wp2_with fail
    refine (CT.out _).mono ?_
    rintro e w4 ⟨rfl, hb4⟩
    have HB4 := Lib.hid (HB3.out.trans (hb4.mono HB3.out.size)); clear hb4
    go_wp2
    go_ret
    exact ⟨Z, rfl, hzs, HB4.out⟩

end Go.Proofs.YtpgbfagacpondaaDoor
