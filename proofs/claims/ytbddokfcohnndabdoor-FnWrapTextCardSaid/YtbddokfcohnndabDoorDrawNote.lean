/-
  Drawn notes: spec.l20Note.
-/
import Derived.Test.YtbddokfcohnndabDoorOpen
namespace Go.Proofs.YtbddokfcohnndabDoor
open Go.RowKit
set_option linter.unusedVariables false

/-- What a drawn note is: at most 61 bytes. -/
def NotesD (R p : Nat) (w : World) (e : Ending) (w' : World) : Prop :=
  ∃ s : ByteArray, e = .returned (.string s) ∧ s.size ≤ 61 ∧ Rdm w' R (p + 2) ∧ w.grownBy w' (some R)
theorem note5 (m : Nat) (h : m < 5) : ∃ t : ByteArray, t.size ≤ 61 ∧ (#[Value.string ⟨#[32, 97]⟩, .string ⟨#[97, 32]⟩, .string ⟨#[97, 10, 98]⟩, .string ⟨#[1]⟩, .string ⟨#[97, 97, 97, 97, 97, 97, 97, 97, 97, 97, 98, 98, 98, 98, 98, 98, 98, 98, 98, 98, 99, 99, 99, 99, 99, 99, 99, 99, 99, 99, 100, 100, 100, 100, 100, 100, 100, 100, 100, 100, 101, 101, 101, 101, 101, 101, 101, 101, 101, 101, 102, 102, 102, 102, 102, 102, 102, 102, 102, 102, 103]⟩] : Array Value)[m]? = some (.string t) := by
  match m, h with
  | 0, _ => exact ⟨_, by decide, rfl⟩
  | 1, _ => exact ⟨_, by decide, rfl⟩
  | 2, _ => exact ⟨_, by decide, rfl⟩
  | 3, _ => exact ⟨_, by decide, rfl⟩
  | 4, _ => exact ⟨_, by decide, rfl⟩
theorem note7 (m : Nat) (h : m < 7) : ∃ t : ByteArray, t.size ≤ 61 ∧ (#[Value.string ⟨#[]⟩, .string ⟨#[97, 32, 110, 111, 116, 101]⟩, .string ⟨#[35, 32, 120]⟩, .string ⟨#[115, 97, 121, 32, 34, 104, 105, 34]⟩, .string ⟨#[111, 110, 101, 32, 116, 119, 111, 32, 116, 104, 114, 101, 101, 32, 102, 111, 117, 114, 32, 102, 105, 118, 101]⟩, .string ⟨#[97, 32, 32, 98]⟩, .string ⟨#[123]⟩] : Array Value)[m]? = some (.string t) := by
  match m, h with
  | 0, _ => exact ⟨_, by decide, rfl⟩
  | 1, _ => exact ⟨_, by decide, rfl⟩
  | 2, _ => exact ⟨_, by decide, rfl⟩
  | 3, _ => exact ⟨_, by decide, rfl⟩
  | 4, _ => exact ⟨_, by decide, rfl⟩
  | 5, _ => exact ⟨_, by decide, rfl⟩
  | 6, _ => exact ⟨_, by decide, rfl⟩

set_option maxRecDepth 100000 in
set_option maxHeartbeats 2000000 in
theorem note_any (R p : Nat) (n : Int) (w : World) (hp : p < 1073741824) (hn0 : 0 ≤ n) (hn1 : n ≤ 1000) (h : Rdm w R p) :
    Calls Tryd.prog 24 #[.pointer (some ⟨R, 0, none⟩), .int .i64 n] w (NotesD R p w) := by
  go_enter Tryd.func24, Tryd.ntmps24
  go_wp2_with fail
  refine (odd_any R p n _ (by omega) (by omega) (by omega) h).mono ?_
  rintro e w2 ⟨b, rfl, -, hr2, hg2, hs2⟩
  have HG2 := Lib.hid hg2
  clear hg2 hs2 h
  cases b with
  | true =>
    go_wp2_with fail
    refine (pick_any R (p + 1) 5 _ (by omega) (hr2.kept (World.grownBy_alloc w2 _ none) (by simp))).mono ?_
    rintro e w3 ⟨j, rfl, hj0, hj1, -, hr3, hg3, hs3⟩
    have hj2 := hj1 (by omega)
    obtain ⟨j1, rfl⟩ := Int.eq_ofNat_of_zero_le hj0
    obtain ⟨t, ht, hlit⟩ := note5 j1 (by omega)
    have hcell := lit_cell hr2.lt hg3 hlit
    have HG3 := Lib.hid (grown_trans (grown_alloc HG2.out _) hg3)
    clear hj1 hg3 hs3 hlit hr2 HG2
    go_wp2
    go_ret
    exact ⟨_, rfl, ht, hr3.mono (by omega), HG3.out⟩
  | false =>
    go_wp2_with fail
    refine (pick_any R (p + 1) 7 _ (by omega) (hr2.kept (World.grownBy_alloc w2 _ none) (by simp))).mono ?_
    rintro e w3 ⟨j, rfl, hj0, hj1, -, hr3, hg3, hs3⟩
    have hj2 := hj1 (by omega)
    obtain ⟨j1, rfl⟩ := Int.eq_ofNat_of_zero_le hj0
    obtain ⟨t, ht, hlit⟩ := note7 j1 (by omega)
    have hcell := lit_cell hr2.lt hg3 hlit
    have HG3 := Lib.hid (grown_trans (grown_alloc HG2.out _) hg3)
    clear hj1 hg3 hs3 hlit hr2 HG2
    go_wp2
    go_ret
    exact ⟨_, rfl, ht, hr3.mono (by omega), HG3.out⟩

end Go.Proofs.YtbddokfcohnndabDoor
