/-
  The walk of laws.FnWrapWider.
-/
import Derived.Test.YtbddokfcohnndaaDrawWrapGreedy
import Derived.Test.YtbddokfcohnndaaWrapWI
import Derived.Test.YtbddokfcohnndaaWrapGS
import Derived.Test.YtbddokfcohnndaaWrapLen
import Derived.Test.YtbddokfcohnndaaSameInts
import Derived.Test.YtbddokfcohnndaaAlive
import Derived.Test.YtbddokfcohnndaaWrapFew
namespace Go.Proofs.Ytbddokfcohnndaa
open Go.RowKit
set_option linter.unusedVariables false

theorem wider_few {L : List ByteArray} {x : Int} (h : fitB L x = true) (hx : x ≠ 40) : (glB L (x + 1)).length ≤ (glB L x).length := by
  have h1 := fitB_more h hx
  obtain ⟨n, rfl, h3, h4, h5⟩ := fit_S h
  obtain ⟨m, hm, h6, h7, h8⟩ := fit_S h1
  obtain ⟨c, hc⟩ := gl_ok _ _ rfl h5
  have hg := gl_few (w := m) (v := n) (by omega) _ _ _ h8 hc 0
  unfold glB
  rw [if_pos h, if_pos h1, hm]
  simpa using hg
theorem greedy_few {L : List ByteArray} {x : Int} (h : fitB L x = true) : (glB L x).length ≤ (wlB L x).length := by
  obtain ⟨n, rfl, h3, h4, h5⟩ := fit_S h
  have hc := (best_ok h5).1
  have hg := gl_few (w := n) (v := n) (Nat.le_refl _) _ _ _ h5 hc 0
  unfold glB wlB
  rw [if_pos h, if_pos h, Int.toNat_natCast]
  simpa using hg

set_option maxRecDepth 100000 in
set_option maxHeartbeats 4000000 in
theorem fnWrapWider_core (a0 : Option Addr) (len0 cap0 : Nat) (w : World) (hrow : CodeRow w a0 len0 cap0) :
    Calls Try.prog 10 #[.slice a0 len0 cap0] w fun e w' => e = .returned (.bool true) ∧ Below w.heap.size w w' := by
  have hcap := hrow.1; have hmx := hrow.2.1
  unfold maxLen at hmx
  by_cases hl : len0 ≤ 1048576
  · go_enter Try.func10, Try.ntmps10
    go_wp2_with fail
    refine (drawWrapGreedy_any a0 len0 cap0 _ hrow).mono ?_
    rintro e w1 ⟨L, x, v1, rfl, hL, hsz, hx0, hx1, hown1, hb⟩
    have B1 := Lib.hid hb; have R1 := Lib.hid (RowOf.of_own hown1)
    have Z := Lib.hid (few_sized hsz)
    obtain ⟨a1, c1, rfl⟩ := own_shape hown1
    have hg20 := glB_len L x
    clear hb hrow hown1 hsz
    go_wp2_with fail
    refine (wrapGreedy_impl _ L x _ R1.out Z.out).mono ?_
    rintro e w2 ⟨v2, rfl, hown2, hb2⟩
    obtain ⟨a2, c2, rfl⟩ := own_shape hown2
    have O2 := Lib.hid (RowI.of_own hown2).1; have R2 := Lib.hid (R1.out.mono hb2); have B2 := Lib.hid (B1.out.trans (hb2.mono B1.out.size))
    clear hown2 hb2 R1 B1
    go_wp2_with fail
    refine (wrapGreedy_spec _ L x _ R2.out Z.out).mono ?_
    rintro e w3 ⟨v3, rfl, hown3, hb3⟩
    obtain ⟨a3, c3, rfl⟩ := own_shape hown3
    have O3 := Lib.hid (RowI.of_own hown3).1; have P3 := Lib.hid (O2.out.mono hb3); have R3 := Lib.hid (R2.out.mono hb3); have B3 := Lib.hid (B2.out.trans (hb3.mono B2.out.size))
    clear hown3 hb3 R2 B2 O2
    go_wp2_with fail
    refine (sameInts_same _ _ (glB L x) _ P3.out O3.out).mono ?_
    rintro e w4 ⟨rfl, hb4⟩
    have R4 := Lib.hid (R3.out.mono hb4); have B4 := Lib.hid (B3.out.trans (hb4.mono B3.out.size))
    clear hb4 R3 B3 O3 P3
    go_wp2_with fail
    refine (wordsFit_spec _ L x _ R4.out Z.out).mono ?_
    rintro e w' ⟨rfl, hw'⟩
    subst hw'
    cases hf : fitB L x with
    | false =>
      go_wp2_with fail
      refine (alive_any _).mono ?_
      rintro e w' ⟨rfl, hw'⟩
      subst hw'
      go_wp2
      go_ret
      exact ⟨rfl, B4.out⟩
    | true =>
      by_cases h40 : x = 40
      · subst h40
        clear hf
        go_wp2_with fail
        refine (alive_any _).mono ?_
        rintro e w' ⟨rfl, hw'⟩
        subst hw'
        go_wp2
        go_ret
        exact ⟨rfl, B4.out⟩
      · have h1 := wider_few hf h40
        have h2 := greedy_few hf
        have e40 : (x == (40 : Int)) = false := beq_eq_false_iff_ne.mpr h40
        have CG := Lib.hid (wrapGreedy_impl _ L (x + 1) _ R4.out Z.out)
        have CL := Lib.hid (fun w' hr => wrapLines_impl (.slice a1 L.length c1) L x w' hr Z.out)
        have hw20 := wlB_len L x
        generalize glB L x = P at *
        generalize glB L (x + 1) = P1 at *
        generalize wlB L x = P2 at *
        clear hf
        go_wp2_with fail
        refine CG.out.mono ?_
        rintro e w5 ⟨v5, rfl, hown5, hb5⟩
        obtain ⟨a5, c5, rfl⟩ := own_shape hown5
        have R5 := Lib.hid (R4.out.mono hb5); have B5 := Lib.hid (B4.out.trans (hb5.mono B4.out.size))
        clear hown5 hb5 R4 B4
        go_wp2_with fail
        refine (CL.out _ R5.out).mono ?_
        rintro e w6 ⟨v6, rfl, hown6, hb6⟩
        obtain ⟨a6, c6, rfl⟩ := own_shape hown6
        have B6 := Lib.hid (B5.out.trans (hb6.mono B5.out.size))
        clear hown6 hb6 R5 B5
        go_wp2
        go_ret
        exact ⟨rfl, B6.out⟩
  · go_enter Try.func10, Try.ntmps10
    go_wp2
    go_ret
    exact ⟨rfl, Below.refl _ _⟩

end Go.Proofs.Ytbddokfcohnndaa
