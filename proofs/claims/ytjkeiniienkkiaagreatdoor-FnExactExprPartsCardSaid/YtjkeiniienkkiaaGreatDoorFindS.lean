/-
  spec's ExprEnd, ExprParts, by their contracts.
-/
import Derived.Test.YtjkeiniienkkiaaGreatDoorFind
import Derived.Test.YtjkeiniienkkiaaGreatDoorBaseI
namespace Go.Proofs.YtjkeiniienkkiaaGreatDoor
open Go.RowKit
set_option linter.unusedVariables false

theorem inside_ok {l : List Cl} (hok : okE l = true) (k : Nat) (hk : k < l.length) : ∃ m g d, (amL l)[k]? = some m ∧ Exs (amL l) m (k + 1) g d ∧ Exs (amL l) 1 k g (d + 1) := by
  obtain ⟨-, -, d, -, hx⟩ := (okE_iff l).mp hok
  obtain ⟨g, e, h1, -, -⟩ := hx.inside k (Nat.zero_le _) hk
  obtain ⟨m, e', hm, h2, -⟩ := h1.inv
  exact ⟨m, g, e', hm, h2, .one hm h2⟩

set_option maxRecDepth 100000 in
set_option maxHeartbeats 4000000 in
theorem exprEnd_spec (v : Value) (l : List Cl) (a : Int) (w : World) (hr : RowC w v l) (hz : ShortC l) (hl : l.length ≤ 1048576) :
    Calls Tryz.prog 16 #[v, .int .i64 a] w fun e w' => e = .returned (.int .i64 (endA l a)) ∧ Below w.heap.size w w' := by
  have HC := Lib.hid (exprValid_spec v l w hr hz hl)
  have HR := Lib.hid hr
  obtain ⟨ao, cap, rfl, h1, h2, h3⟩ := hr
  unfold maxLen at h2
  clear h3 hz
  cases hok : okE l with
  | true =>
    obtain ⟨h60, hal, d, hd, hx⟩ := (okE_iff l).mp hok
    have HOK := Lib.hid hok; have HAL := Lib.hid hal
    have hlen : 1 ≤ l.length := by have := hx.le; omega
    clear hx hal
    by_cases hin : 0 ≤ a ∧ a < (l.length : Int)
    · obtain ⟨k, rfl⟩ := Int.eq_ofNat_of_zero_le hin.1
      obtain ⟨m, g, d', hm, hx, hx1⟩ := inside_ok hok k (by omega)
      have HE := Lib.hid (endA_yes (a := (k : Int)) rfl (by omega) hok hx1)
      have HEI := Lib.hid hx1.endI
      have HIN := Lib.hid (show inI (k : Int) 0 ((l.length : Int) - 1) = true by simp [inI]; omega)
      rw [HE.out]
      have hkl : k ≤ l.length := by omega
      clear hok hm hx hx1 hin
      go_enter Tryz.func16, Tryz.ntmps16
      go_wp2_with fail
      refine HC.out.mono ?_
      rintro e w1 ⟨rfl, hb1⟩
      have HB := Lib.hid hb1; clear hb1
      rw [HOK.out]
      go_wp2_with fail
      refine (l1In_any _ _ _ _).mono ?_
      rintro e w' ⟨rfl, rfl⟩
      rw [HIN.out]
      go_wp2_with fail
      refine (l5End_any _ l k _ (HR.out.mono HB.out) h60 (allM_of HAL.out) hkl).mono ?_
      rintro e w' ⟨rfl, rfl⟩
      rw [HEI.out]
      go_wp2
      go_ret
      exact ⟨rfl, HB.out⟩
    · have HE := Lib.hid (endA_no (l := l) (a := a) (fun h => hin h.2))
      have HIN := Lib.hid (show inI a 0 ((l.length : Int) - 1) = false by simp [inI]; omega)
      rw [HE.out]
      clear hok
      go_enter Tryz.func16, Tryz.ntmps16
      go_wp2_with fail
      refine HC.out.mono ?_
      rintro e w1 ⟨rfl, hb1⟩
      have HB := Lib.hid hb1; clear hb1
      rw [HOK.out]
      go_wp2_with fail
      refine (l1In_any _ _ _ _).mono ?_
      rintro e w' ⟨rfl, rfl⟩
      rw [HIN.out]
      go_wp2
      go_ret
      exact ⟨rfl, HB.out⟩
  | false =>
    have HE := Lib.hid (endA_no (l := l) (a := a) (fun h => by rw [hok] at h; cases h.1))
    have HOK := Lib.hid hok
    rw [HE.out]
    clear hok
    go_enter Tryz.func16, Tryz.ntmps16
    go_wp2_with fail
    refine HC.out.mono ?_
    rintro e w1 ⟨rfl, hb1⟩
    have HB := Lib.hid hb1; clear hb1
    rw [HOK.out]
    go_wp2
    go_ret
    exact ⟨rfl, HB.out⟩

end Go.Proofs.YtjkeiniienkkiaaGreatDoor
