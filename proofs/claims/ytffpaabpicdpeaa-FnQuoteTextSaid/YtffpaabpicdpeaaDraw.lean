/-
  Drawn texts: spec.l20Plain.
-/
import Derived.Test.YtffpaabpicdpeaaOpen
namespace Go.Proofs.Ytffpaabpicdpeaa
open Go.RowKit
set_option linter.unusedVariables false

/-- What a drawn text is: at most 9 bytes. -/
def Plains (R p : Nat) (w : World) (e : Ending) (w' : World) : Prop :=
  ∃ s : ByteArray, e = .returned (.string s) ∧ s.size ≤ 9 ∧ Rdm w' R (p + 11) ∧ w.grownBy w' (some R)

theorem lit8 (m : Nat) (h : m < 8) : ∃ t : ByteArray, t.size = 1 ∧ (#[Value.string ⟨#[97]⟩, .string ⟨#[98]⟩, .string ⟨#[32]⟩, .string ⟨#[10]⟩, .string ⟨#[34]⟩, .string ⟨#[92]⟩, .string ⟨#[35]⟩, .string ⟨#[120]⟩] : Array Value)[m]? = some (.string t) := by
  match m, h with
  | 0, _ => exact ⟨_, rfl, rfl⟩
  | 1, _ => exact ⟨_, rfl, rfl⟩
  | 2, _ => exact ⟨_, rfl, rfl⟩
  | 3, _ => exact ⟨_, rfl, rfl⟩
  | 4, _ => exact ⟨_, rfl, rfl⟩
  | 5, _ => exact ⟨_, rfl, rfl⟩
  | 6, _ => exact ⟨_, rfl, rfl⟩
  | 7, _ => exact ⟨_, rfl, rfl⟩
theorem lit3 (m : Nat) (h : m < 3) : ∃ t : ByteArray, t.size = 1 ∧ (#[Value.string ⟨#[31]⟩, .string ⟨#[127]⟩, .string ⟨#[195]⟩] : Array Value)[m]? = some (.string t) := by
  match m, h with
  | 0, _ => exact ⟨_, rfl, rfl⟩
  | 1, _ => exact ⟨_, rfl, rfl⟩
  | 2, _ => exact ⟨_, rfl, rfl⟩

set_option maxRecDepth 100000 in
set_option maxHeartbeats 2000000 in
theorem plain_any (R p : Nat) (n : Int) (w : World) (hp : p < 1073741824) (hn0 : 0 ≤ n) (hn1 : n ≤ 1000) (h : Rdm w R p) :
    Calls Try.prog 17 #[.pointer (some ⟨R, 0, none⟩), .int .i64 n] w (Plains R p w) := by
  go_enter Try.func17, Try.ntmps17
  go_wp2_with fail
  refine (pick_any R p 9 _ (by omega) h).mono ?_
  rintro e w1 ⟨m, rfl, hm0, hm1, -, hr1, hg1, hs1⟩
  have hm2 := hm1 (by omega)
  obtain ⟨k1, rfl⟩ := Int.eq_ofNat_of_zero_le hm0
  have HG1 := Lib.hid hg1
  clear hm1 hg1 hs1 h
  go_wp2_with fail
  go_loopw [5, 6] (fun o k wr => ∃ (s : ByteArray) (m : Nat), o = .string s ∧ k = .int .i64 m ∧ s.size + m ≤ 8 ∧ Rdm wr R (p + 9 - m) ∧ w.grownBy wr (some R)) (fun _ k _ => (intOf k).toNat)
  case atStart => exact ⟨_, k1, rfl, rfl, by simp [ByteArray.size]; omega, hr1.mono (by omega), HG1.out⟩
  case round =>
    obtain ⟨s, m, rfl, rfl, hsm, hr, hg⟩ := hrel
    have HG := Lib.hid hg
    clear hg
    by_cases h0 : 0 < m
    · go_wp2_with fail
      refine (pick_any R (p + 9 - m) 8 _ (by omega) (hr.kept (World.grownBy_alloc wr _ none) (by simp))).mono ?_
      rintro e w2 ⟨j, rfl, hj0, hj1, -, hr2, hg2, hs2⟩
      have hj2 := hj1 (by omega)
      obtain ⟨j1, rfl⟩ := Int.eq_ofNat_of_zero_le hj0
      obtain ⟨t, ht, hlit⟩ := lit8 j1 (by omega)
      have hcell := lit_cell hr.lt hg2 hlit
      have HG2 := Lib.hid (grown_trans (grown_alloc HG.out _) hg2)
      have hts : t.size ≤ 1 := by omega
      clear hj1 hg2 hs2 hlit hr HG ht
      go_wp2
      go_roundw
      case rel => exact ⟨_, m - 1, rfl, by go_num, by simp; omega, hr2.mono (by omega), HG2.out⟩
      case measure => simp [intOf]; omega
    · go_wp2_with fail
      refine (odd_any R (p + 9) n _ (by omega) (by omega) (by omega) (hr.mono (by omega))).mono ?_
      rintro e w2 ⟨b, rfl, -, hr2, hg2, hs2⟩
      have HG2 := Lib.hid (grown_trans HG.out hg2)
      clear hg2 hs2 HG hr
      cases b with
      | false =>
        go_wp2
        go_ret
        exact ⟨_, rfl, by omega, hr2.mono (by omega), HG2.out⟩
      | true =>
        go_wp2_with fail
        refine (pick_any R (p + 9 + 1) 3 _ (by omega) (hr2.kept (World.grownBy_alloc w2 _ none) (by simp))).mono ?_
        rintro e w3 ⟨j, rfl, hj0, hj1, -, hr3, hg3, hs3⟩
        have hj2 := hj1 (by omega)
        obtain ⟨j1, rfl⟩ := Int.eq_ofNat_of_zero_le hj0
        obtain ⟨t, ht, hlit⟩ := lit3 j1 (by omega)
        have hcell := lit_cell hr2.lt hg3 hlit
        have HG3 := Lib.hid (grown_trans (grown_alloc HG2.out _) hg3)
        have hts : t.size ≤ 1 := by omega
        clear hj1 hg3 hs3 hlit hr2 HG2 ht
        go_wp2
        go_ret
        exact ⟨_, rfl, by simp; omega, hr3.mono (by omega), HG3.out⟩


/-- What the law is told of a drawn text. -/
def Drawn (w : World) (e : Ending) (w' : World) : Prop :=
  ∃ s : ByteArray, e = .returned (.string s) ∧ s.size ≤ 9 ∧ Below w.heap.size w w'

end Go.Proofs.Ytffpaabpicdpeaa
