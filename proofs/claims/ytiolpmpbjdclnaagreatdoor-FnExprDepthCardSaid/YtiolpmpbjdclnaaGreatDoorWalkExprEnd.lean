/-
  The walk of laws.FnExprEnd.
-/
import Derived.Test.YtiolpmpbjdclnaaGreatDoorDrawLists
import Derived.Test.YtiolpmpbjdclnaaGreatDoorExprMore
import Derived.Test.YtiolpmpbjdclnaaGreatDoorFindS
import Derived.Test.YtiolpmpbjdclnaaGreatDoorAlive
namespace Go.Proofs.YtiolpmpbjdclnaaGreatDoor
open Go.RowKit
set_option linter.unusedVariables false

theorem shortE_sized {l : List Cl} (h : ∀ c ∈ l, c.2.1.size ≤ 60) : SizedC l := fun c hc => by have := h c hc; unfold maxLen; omega
theorem shortE_short {l : List Cl} (h : ∀ c ∈ l, c.2.1.size ≤ 60) : ShortC l := fun c hc => by have := h c hc; omega
/-- The two ways of a place: inside a valid expression, or not. -/
theorem end_ways (l : List Cl) (a : Int) : (endA l a = -1 ∧ ¬ (okE l = true ∧ 0 ≤ a ∧ a < (l.length : Int))) ∨ ∃ k t d : Nat, a = (k : Int) ∧ k < t ∧ t ≤ l.length ∧ k < l.length ∧ okE l = true ∧ endA l a = (t : Int) ∧ d ≤ 12 ∧ Exs (amL l) 1 k t d := by
  by_cases h : okE l = true ∧ 0 ≤ a ∧ a < (l.length : Int)
  · obtain ⟨hok, h0, h1⟩ := h
    obtain ⟨k, rfl⟩ := Int.eq_ofNat_of_zero_le h0
    obtain ⟨-, -, D, hD, hX⟩ := (okE_iff l).mp hok
    obtain ⟨g, e, hx, hg, he⟩ := hX.inside k (Nat.zero_le _) (by omega)
    have := hx.le
    exact .inr ⟨k, g, e, rfl, by omega, hg, by omega, hok, endA_yes rfl (by omega) hok hx, by omega, hx⟩
  · exact .inl ⟨endA_no h, h⟩
theorem end_zero {l : List Cl} (hok : okE l = true) : endA l 0 = (l.length : Int) := by
  obtain ⟨-, -, D, hD, hX⟩ := (okE_iff l).mp hok
  have := hX.le
  exact endA_yes (a := 0) (k := 0) rfl (by omega) hok hX

set_option maxRecDepth 100000 in
set_option maxHeartbeats 8000000 in
theorem fnExprEnd_core (a0 : Option Addr) (len0 cap0 : Nat) (w : World) (hrow : CodeRow w a0 len0 cap0) (htab : Tab w) :
    Calls Tryz.prog 4 #[.slice a0 len0 cap0] w fun e w' => e = .returned (.bool true) ∧ Below w.heap.size w w' := by
  have hcap := hrow.1; have hmx := hrow.2.1
  unfold maxLen at hmx
  by_cases hl : len0 ≤ 1048576
  · go_enter Tryz.func4, Tryz.ntmps4
    go_wp2_with fail
    refine (drawExprEnd_any a0 len0 cap0 _ hrow).mono ?_
    rintro e w1 ⟨v, l, p, rfl, hr, hs, hl60, hp0, hp1, hb⟩
    have HB := Lib.hid hb; have HR1 := Lib.hid hr; have HSH := Lib.hid hs
    clear hb hrow hr hs
    obtain ⟨ao, cp, rfl, q1, q2, -⟩ := HR1.out
    unfold maxLen at q2
    go_wp2_with fail
    refine (exprEnd_impl _ l p _ HR1.out (shortE_sized HSH.out) (htab.keep HB.out)).mono ?_
    rintro e w2 ⟨rfl, hb2⟩
    have HB2 := Lib.hid (HB.out.trans (hb2.mono HB.out.size)); have HR2 := Lib.hid (HR1.out.mono hb2); clear hb2 HB HR1
    go_wp2_with fail
    refine (exprEnd_spec _ l p _ HR2.out (shortE_short HSH.out) (by omega)).mono ?_
    rintro e w3 ⟨rfl, hb3⟩
    have HB3 := Lib.hid (HB2.out.trans (hb3.mono HB2.out.size)); have HR3 := Lib.hid (HR2.out.mono hb3); clear hb3 HB2 HR2
    rcases end_ways l p with ⟨hE, -⟩ | ⟨k, t, d, rfl, hkt, htl, hkl, hok, hE, hd, hx⟩
    · rw [hE]; clear hE
      have hm1 : ((-1 : Int) != -1) = false := by decide
      go_wp2_with fail
      refine (alive_any _).mono ?_
      rintro e w' ⟨rfl, rfl⟩
      go_wp2
      go_ret
      exact ⟨rfl, HB3.out⟩
    · rw [hE]
      have HSB := Lib.hid (okE_sub hok hx hd).1
      have HEZ := Lib.hid (end_zero hok)
      obtain ⟨ao', cp', hv, -, -, hq⟩ := HR3.out
      simp only [Value.slice.injEq] at hv
      obtain ⟨rfl, -, rfl⟩ := hv
      obtain ⟨b, off, rfl, hbl, -⟩ := hq.resolve_left (by rintro rfl; simp at hkl)
      have HSUB := Lib.hid (HR3.out.sub k t (by omega) htl)
      have hne : ((t : Int) != (t : Int)) = false := by simp
      have hkc : ¬ k = cp := by omega
      clear hE hok hx hd
      go_wp2_with fail
      refine (exprValid_impl _ ((l.take t).drop k) _ HSUB.out (fun c hc => shortE_sized HSH.out c (List.mem_of_mem_take (List.mem_of_mem_drop hc))) (htab.keep HB3.out)).mono ?_
      rintro e w4 ⟨rfl, hb4⟩
      rw [HSB.out]
      have HB4 := Lib.hid (HB3.out.trans (hb4.mono HB3.out.size)); have HR4 := Lib.hid (HR3.out.mono hb4); clear hb4
      go_wp2_with fail
      refine (exprEnd_impl _ l 0 _ HR4.out (shortE_sized HSH.out) (htab.keep HB4.out)).mono ?_
      rintro e w5 ⟨rfl, hb5⟩
      rw [HEZ.out]
      have HB5 := Lib.hid (HB4.out.trans (hb5.mono HB4.out.size)); clear hb5
      have hee : ((l.length : Int) == (l.length : Int)) = true := by simp
      go_wp2
      go_ret
      exact ⟨rfl, HB5.out⟩
  · go_enter Tryz.func4, Tryz.ntmps4
    go_wp2
    go_ret
    exact ⟨rfl, Below.refl _ _⟩

end Go.Proofs.YtiolpmpbjdclnaaGreatDoor
