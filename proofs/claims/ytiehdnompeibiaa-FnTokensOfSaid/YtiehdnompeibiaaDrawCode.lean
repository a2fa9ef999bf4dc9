/-
  Drawn texts of tokens: spec.l20Code.
-/
import Derived.Test.YtiehdnompeibiaaOpen
namespace Go.Proofs.Ytiehdnompeibiaa
open Go.RowKit
set_option linter.unusedVariables false

/-- What a drawn text of tokens is: at most 30 bytes. -/
def CodesT (R p : Nat) (w : World) (e : Ending) (w' : World) : Prop :=
  ∃ s : ByteArray, e = .returned (.string s) ∧ s.size ≤ 30 ∧ Rdm w' R (p + 10) ∧ w.grownBy w' (some R)

theorem code22 (m : Nat) (h : m < 22) : ∃ t : ByteArray, t.size ≤ 4 ∧ (#[Value.string ⟨#[97]⟩, .string ⟨#[32]⟩, .string ⟨#[49, 50]⟩, .string ⟨#[49, 46, 53]⟩, .string ⟨#[34, 120, 34]⟩, .string ⟨#[34, 92, 34, 34]⟩, .string ⟨#[60, 61]⟩, .string ⟨#[33, 61]⟩, .string ⟨#[38, 38]⟩, .string ⟨#[124, 124]⟩, .string ⟨#[40]⟩, .string ⟨#[41]⟩, .string ⟨#[91]⟩, .string ⟨#[93]⟩, .string ⟨#[44]⟩, .string ⟨#[63]⟩, .string ⟨#[58]⟩, .string ⟨#[45]⟩, .string ⟨#[33]⟩, .string ⟨#[37]⟩, .string ⟨#[98, 46, 99]⟩, .string ⟨#[60]⟩] : Array Value)[m]? = some (.string t) := by
  match m, h with
  | 0, _ => exact ⟨_, by decide, rfl⟩
  | 1, _ => exact ⟨_, by decide, rfl⟩
  | 2, _ => exact ⟨_, by decide, rfl⟩
  | 3, _ => exact ⟨_, by decide, rfl⟩
  | 4, _ => exact ⟨_, by decide, rfl⟩
  | 5, _ => exact ⟨_, by decide, rfl⟩
  | 6, _ => exact ⟨_, by decide, rfl⟩
  | 7, _ => exact ⟨_, by decide, rfl⟩
  | 8, _ => exact ⟨_, by decide, rfl⟩
  | 9, _ => exact ⟨_, by decide, rfl⟩
  | 10, _ => exact ⟨_, by decide, rfl⟩
  | 11, _ => exact ⟨_, by decide, rfl⟩
  | 12, _ => exact ⟨_, by decide, rfl⟩
  | 13, _ => exact ⟨_, by decide, rfl⟩
  | 14, _ => exact ⟨_, by decide, rfl⟩
  | 15, _ => exact ⟨_, by decide, rfl⟩
  | 16, _ => exact ⟨_, by decide, rfl⟩
  | 17, _ => exact ⟨_, by decide, rfl⟩
  | 18, _ => exact ⟨_, by decide, rfl⟩
  | 19, _ => exact ⟨_, by decide, rfl⟩
  | 20, _ => exact ⟨_, by decide, rfl⟩
  | 21, _ => exact ⟨_, by decide, rfl⟩
  | q + 22, h => exact absurd h (by omega)
theorem code8 (m : Nat) (h : m < 8) : ∃ t : ByteArray, t.size ≤ 2 ∧ (#[Value.string ⟨#[34]⟩, .string ⟨#[38]⟩, .string ⟨#[61]⟩, .string ⟨#[35]⟩, .string ⟨#[123]⟩, .string ⟨#[65]⟩, .string ⟨#[10]⟩, .string ⟨#[34, 92]⟩] : Array Value)[m]? = some (.string t) := by
  match m, h with
  | 0, _ => exact ⟨_, by decide, rfl⟩
  | 1, _ => exact ⟨_, by decide, rfl⟩
  | 2, _ => exact ⟨_, by decide, rfl⟩
  | 3, _ => exact ⟨_, by decide, rfl⟩
  | 4, _ => exact ⟨_, by decide, rfl⟩
  | 5, _ => exact ⟨_, by decide, rfl⟩
  | 6, _ => exact ⟨_, by decide, rfl⟩
  | 7, _ => exact ⟨_, by decide, rfl⟩

set_option maxRecDepth 100000 in
set_option maxHeartbeats 2000000 in
theorem code_any (R p : Nat) (w : World) (hp : p < 1073741824) (h : Rdm w R p) :
    Calls Try.prog 45 #[.pointer (some ⟨R, 0, none⟩)] w (CodesT R p w) := by
  go_enter Try.func45, Try.ntmps45
  go_wp2_with fail
  refine (pick_any R p 8 _ (by omega) h).mono ?_
  rintro e w1 ⟨m, rfl, hm0, hm1, -, hr1, hg1, hs1⟩
  have hm2 := hm1 (by omega)
  obtain ⟨k1, rfl⟩ := Int.eq_ofNat_of_zero_le hm0
  have HG1 := Lib.hid hg1
  clear hm1 hg1 hs1 h
  go_wp2_with fail
  go_loopw [3, 4] (fun o k wr => ∃ (s : ByteArray) (m : Nat), o = .string s ∧ k = .int .i64 m ∧ m ≤ 7 ∧ s.size + 4 * m ≤ 28 ∧ Rdm wr R (p + 8 - m) ∧ w.grownBy wr (some R)) (fun _ k _ => (intOf k).toNat)
  case atStart => exact ⟨_, k1, rfl, rfl, by omega, by simp [ByteArray.size]; omega, hr1.mono (by omega), HG1.out⟩
  case round =>
    obtain ⟨s, m, rfl, rfl, hm7, hsm, hr, hg⟩ := hrel
    have HG := Lib.hid hg
    clear hg
    by_cases h0 : 0 < m
    · go_wp2_with fail
      refine (pick_any R (p + 8 - m) 22 _ (by omega) (hr.kept (World.grownBy_alloc wr _ none) (by simp))).mono ?_
      rintro e w2 ⟨j, rfl, hj0, hj1, -, hr2, hg2, hs2⟩
      have hj2 := hj1 (by omega)
      obtain ⟨j1, rfl⟩ := Int.eq_ofNat_of_zero_le hj0
      obtain ⟨t, ht, hlit⟩ := code22 j1 (by omega)
      have hcell := lit_cell hr.lt hg2 hlit
      have HG2 := Lib.hid (grown_trans (grown_alloc HG.out _) hg2)
      clear hj1 hg2 hs2 hlit hr HG
      go_wp2
      go_roundw
      case rel => exact ⟨_, m - 1, rfl, by go_num, by omega, by simp; omega, hr2.mono (by omega), HG2.out⟩
      case measure => simp [intOf]; omega
    · go_wp2_with fail
      refine (odd_any R (p + 8) 6 _ (by omega) (by omega) (by omega) (hr.mono (by omega))).mono ?_
      rintro e w2 ⟨b, rfl, -, hr2, hg2, hs2⟩
      have HG2 := Lib.hid (grown_trans HG.out hg2)
      clear hg2 hs2 HG hr
      cases b with
      | false =>
        go_wp2
        go_ret
        exact ⟨_, rfl, by omega, hr2.mono (by omega), HG2.out⟩
      | true =>
        go_wp2_with fail
        refine (pick_any R (p + 8 + 1) 8 _ (by omega) (hr2.kept (World.grownBy_alloc w2 _ none) (by simp))).mono ?_
        rintro e w3 ⟨j, rfl, hj0, hj1, -, hr3, hg3, hs3⟩
        have hj2 := hj1 (by omega)
        obtain ⟨j1, rfl⟩ := Int.eq_ofNat_of_zero_le hj0
        obtain ⟨t, ht, hlit⟩ := code8 j1 (by omega)
        have hcell := lit_cell hr2.lt hg3 hlit
        have HG3 := Lib.hid (grown_trans (grown_alloc HG2.out _) hg3)
        clear hj1 hg3 hs3 hlit hr2 HG2
        go_wp2
        go_ret
        exact ⟨_, rfl, by simp; omega, hr3.mono (by omega), HG3.out⟩

/-- What a law is told of a drawn text of tokens. -/
def DrawnT (w : World) (e : Ending) (w' : World) : Prop :=
  ∃ s : ByteArray, e = .returned (.string s) ∧ s.size ≤ 30 ∧ Below w.heap.size w w'

end Go.Proofs.Ytiehdnompeibiaa
