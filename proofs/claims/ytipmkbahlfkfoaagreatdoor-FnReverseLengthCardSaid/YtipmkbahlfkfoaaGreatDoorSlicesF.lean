/-
  slices.IndexFunc and slices.ContainsFunc at lists of values, with a closure of one captured variable, by their contracts.
-/
import Derived.Test.YtipmkbahlfkfoaaGreatDoorChecked
import Derived.Deep.Slices
import Derived.Deep.Fields
import Derived.OwnWalk
import Derived.Below
import Derived.Lib.Hide
import Derived.WalkKit
namespace Go.Proofs.YtipmkbahlfkfoaaGreatDoor
open Go.RowKit Go.Deep
set_option linter.unusedVariables false

set_option maxRecDepth 100000 in
set_option maxHeartbeats 4000000 in
theorem index_any (K : FuncId) (pb : Nat) (he : ∀ args w, (callFunc K args).run Tryz.prog w = .ok (.enter K args) w) (ao : Option Addr) (cap : Nat) (us : List Value) (p : Nat → Bool) (w : World) (h8 : us.length ≤ 1000)
    (hif : ∀ (k : Nat) (h : k < us.length), ∃ T x, us[k] = .iface T x) (hc : us = [] ∨ ∃ b o, ao = some ⟨b, o, none⟩ ∧ b < w.heap.size ∧ ∀ (k : Nat) (h : k < us.length), w.cell? ⟨b, o + k, none⟩ = some us[k])
    (hK : ∀ (k : Nat) (h : k < us.length) (w' : World), Below w.heap.size w w' → Calls Tryz.prog K #[us[k], .pointer (some ⟨pb, 0, none⟩)] w' fun e w'' => e = .returned (.bool (p k)) ∧ Below w'.heap.size w' w'') :
    Calls Tryz.prog 176 #[.slice ao us.length cap, .func (.func K) #[] #[.pointer (some ⟨pb, 0, none⟩)]] w fun e w' =>
      Below w.heap.size w w' ∧ ∃ i : Int, e = .returned (.int .i64 i) ∧ (0 ≤ i ↔ ∃ k, k < us.length ∧ p k = true) := by
  have HC := Lib.hid hc; have HK := Lib.hid hK; have HIF := Lib.hid hif
  clear hc hK hif
  go_enter Tryz.func176, Tryz.ntmps176
  go_wp2_with fail
  go_loopw [8] (fun i wr => ∃ k : Nat, k ≤ us.length ∧ i = .int .i64 (k : Int) ∧ (∀ j, j < k → p j = false) ∧ Below w.heap.size w wr) (fun i _ => us.length - (intOf i).toNat)
  case atStart => exact ⟨0, Nat.zero_le _, rfl, fun j h => by omega, Below.refl _ _⟩
  case round =>
    obtain ⟨k, hk, rfl, hno, hb⟩ := hrel
    have HNO := Lib.hid hno; have HB := Lib.hid hb
    clear hno hb
    by_cases hlt : k < us.length
    · obtain ⟨b, o, rfl, hbl, cc⟩ := HC.out.resolve_left (by rintro rfl; simp at hlt)
      have d0 : wr.cell? ⟨b, o + k, none⟩ = some us[k] := (HB.out.cell (p := ⟨b, _, none⟩) hbl).trans (cc k hlt)
      have hc1 := HK.out k hlt wr HB.out
      obtain ⟨T, x, hT⟩ := HIF.out k hlt
      rw [hT] at d0 hc1
      have HCL := Lib.hid hc1
      clear cc hc1 hT
      cases hp : p k with
      | true =>
        have HY := Lib.hid (show ∃ k, k < us.length ∧ p k = true from ⟨k, hlt, hp⟩)
        rw [hp] at HCL
        clear hp
        go_wp2_with fail
        refine HCL.out.mono ?_
        rintro e w1 ⟨rfl, hb1⟩
        have HB1 := Lib.hid (HB.out.trans (hb1.mono HB.out.size)); clear hb1
        go_wp2
        go_ret
        exact ⟨HB1.out, _, rfl, ⟨fun _ => HY.out, fun _ => by omega⟩⟩
      | false =>
        have HN := Lib.hid (show ∀ j, j < k + 1 → p j = false from fun j h => by
          by_cases hj : j = k
          · subst hj; exact hp
          · exact HNO.out j (by omega))
        rw [hp] at HCL
        clear hp
        go_wp2_with fail
        refine HCL.out.mono ?_
        rintro e w1 ⟨rfl, hb1⟩
        have HB1 := Lib.hid (HB.out.trans (hb1.mono HB.out.size)); clear hb1
        go_wp2
        go_roundw
        case rel => exact ⟨k + 1, by omega, by go_num, HN.out, HB1.out⟩
        case measure => simp [intOf]; omega
    · obtain rfl : k = us.length := by omega
      have HN := Lib.hid (show ¬ ∃ k, k < us.length ∧ p k = true from fun ⟨j, h1, h2⟩ => by rw [HNO.out j h1] at h2; cases h2)
      go_wp2
      go_ret
      exact ⟨HB.out, _, rfl, ⟨fun h => by omega, fun h => absurd h HN.out⟩⟩

open Classical in
set_option maxRecDepth 100000 in
set_option maxHeartbeats 4000000 in
theorem contains_any (K : FuncId) (pb : Nat) (he : ∀ args w, (callFunc K args).run Tryz.prog w = .ok (.enter K args) w) (ao : Option Addr) (cap : Nat) (us : List Value) (p : Nat → Bool) (w : World) (h8 : us.length ≤ 1000)
    (hif : ∀ (k : Nat) (h : k < us.length), ∃ T x, us[k] = .iface T x) (hc : us = [] ∨ ∃ b o, ao = some ⟨b, o, none⟩ ∧ b < w.heap.size ∧ ∀ (k : Nat) (h : k < us.length), w.cell? ⟨b, o + k, none⟩ = some us[k])
    (hK : ∀ (k : Nat) (h : k < us.length) (w' : World), Below w.heap.size w w' → Calls Tryz.prog K #[us[k], .pointer (some ⟨pb, 0, none⟩)] w' fun e w'' => e = .returned (.bool (p k)) ∧ Below w'.heap.size w' w'') (r : Bool) (hr : r = true ↔ ∃ k, k < us.length ∧ p k = true) :
    Calls Tryz.prog 146 #[.slice ao us.length cap, .func (.func K) #[] #[.pointer (some ⟨pb, 0, none⟩)]] w fun e w' =>
      e = .returned (.bool r) ∧ Below w.heap.size w w' := by
  have HI := Lib.hid (index_any K pb he ao cap us p w h8 hif hc hK); have HR := Lib.hid hr
  clear hc hK hif hr
  go_enter Tryz.func146, Tryz.ntmps146
  go_wp2_with fail
  refine HI.out.mono ?_
  rintro e w1 ⟨hb1, i, rfl, hi⟩
  have HB1 := Lib.hid hb1
  have HD := Lib.hid (show decide (0 ≤ i) = r by
    cases hrr : r with
    | true => exact decide_eq_true (hi.mpr (HR.out.mp hrr))
    | false => exact decide_eq_false (fun h => by have := HR.out.mpr (hi.mp h); rw [hrr] at this; cases this))
  clear hb1 hi
  go_wp2
  go_ret
  exact ⟨by rw [← HD.out]; rfl, HB1.out⟩

end Go.Proofs.YtipmkbahlfkfoaaGreatDoor
