/-
  spec.ExprParts, by its contract.
-/
import Derived.Test.YtjkeiniienkkiaaGreatDoorFindS
namespace Go.Proofs.YtjkeiniienkkiaaGreatDoor
open Go.RowKit
set_option linter.unusedVariables false

set_option maxRecDepth 100000 in
set_option maxHeartbeats 4000000 in
theorem exprParts_spec (v : Value) (l : List Cl) (a : Int) (w : World) (hr : RowC w v l) (hz : ShortC l) (hl : l.length ≤ 1048576) :
    Calls Tryz.prog 21 #[v, .int .i64 a] w (NewInts (partsA l a) w) := by
  have HC := Lib.hid (exprValid_spec v l w hr hz hl)
  have HR := Lib.hid hr
  obtain ⟨ao, cap, rfl, h1, h2, h3⟩ := hr
  unfold maxLen at h2
  clear h3 hz
  cases hok : okE l with
  | true =>
    obtain ⟨h60, hal, d, hd, hx⟩ := (okE_iff l).mp hok
    have HOK := Lib.hid hok; have HAL := Lib.hid hal
    have hlen : 1 ≤ l.length := by have := hx.le; omega
    clear hx hal
    by_cases hin : 0 ≤ a ∧ a < (l.length : Int)
    · obtain ⟨k, rfl⟩ := Int.eq_ofNat_of_zero_le hin.1
      obtain ⟨m, g, d', hm, hx, hx1⟩ := inside_ok hok k (by omega)
      have HE := Lib.hid (partsA_yes (a := (k : Int)) rfl (by omega) hok hm)
      have HIN := Lib.hid (show inI (k : Int) 0 ((l.length : Int) - 1) = true by simp [inI]; omega)
      have HM := Lib.hid hm; have HX := Lib.hid hx
      rw [HE.out]
      have hkl : k ≤ l.length := by omega
      clear hok hm hx hx1 hin
      go_enter Tryz.func21, Tryz.ntmps21
      go_wp2_with fail
      refine HC.out.mono ?_
      rintro e w1 ⟨rfl, hb1⟩
      have HB := Lib.hid hb1; clear hb1
      rw [HOK.out]
      go_wp2_with fail
      refine (l1In_any _ _ _ _).mono ?_
      rintro e w' ⟨rfl, rfl⟩
      rw [HIN.out]
      go_wp2_with fail
      refine (l5Kids_any _ l k m g d' _ (HR.out.mono HB.out) h60 (allM_of HAL.out) HM.out HX.out).mono ?_
      rintro e w2 ⟨v2, rfl, ho2, hb2⟩
      have HO := Lib.hid ho2; have HB2 := Lib.hid (HB.out.trans (hb2.mono HB.out.size)); clear ho2 hb2
      go_wp2
      go_ret
      exact ⟨_, rfl, HO.out.mono HB.out.size, HB2.out⟩
    · have HE := Lib.hid (partsA_no (l := l) (a := a) (fun h => hin h.2))
      have HIN := Lib.hid (show inI a 0 ((l.length : Int) - 1) = false by simp [inI]; omega)
      rw [HE.out]
      clear hok
      go_enter Tryz.func21, Tryz.ntmps21
      go_wp2_with fail
      refine HC.out.mono ?_
      rintro e w1 ⟨rfl, hb1⟩
      have HB := Lib.hid hb1; clear hb1
      rw [HOK.out]
      go_wp2_with fail
      refine (l1In_any _ _ _ _).mono ?_
      rintro e w' ⟨rfl, rfl⟩
      rw [HIN.out]
      go_wp2
      go_ret
      exact ⟨_, rfl, World.ownsRow_lit _ _ 0 HB.out.size (by unfold maxLen; omega) rfl, HB.out.alloc HB.out.size _⟩
  | false =>
    have HE := Lib.hid (partsA_no (l := l) (a := a) (fun h => by rw [hok] at h; cases h.1))
    have HOK := Lib.hid hok
    rw [HE.out]
    clear hok
    go_enter Tryz.func21, Tryz.ntmps21
    go_wp2_with fail
    refine HC.out.mono ?_
    rintro e w1 ⟨rfl, hb1⟩
    have HB := Lib.hid hb1; clear hb1
    rw [HOK.out]
    go_wp2
    go_ret
    exact ⟨_, rfl, World.ownsRow_lit _ _ 0 HB.out.size (by unfold maxLen; omega) rfl, HB.out.alloc HB.out.size _⟩

end Go.Proofs.YtjkeiniienkkiaaGreatDoor
