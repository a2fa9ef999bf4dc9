/-
  The walk of laws.FnValueValid.
-/
import Derived.Test.YtbnchmlapimmdaaGreatDoorDrawVals
import Derived.Test.YtbnchmlapimmdaaGreatDoorOfV
import Derived.Test.YtbnchmlapimmdaaGreatDoorValS
import Derived.Test.YtbnchmlapimmdaaGreatDoorAlive
namespace Go.Proofs.YtbnchmlapimmdaaGreatDoor
open Go.RowKit
set_option linter.unusedVariables false

theorem short60V {l : List Cl} (h : ∀ c ∈ l, c.2.1.size ≤ 60) : ShortC l := fun c hc => by have := h c hc; omega
/-- A depth is at most the number of those that have parts, and one. -/
theorem exs_depth {am : List Nat} {n f t d : Nat} (h : Exs am n f t d) : d ≤ ((am.drop f).take (t - f)).countP (fun m => decide (0 < m)) + 1 := by
  induction h with
  | nil f => omega
  | @cons f m g d n t e hm h1 h2 i1 i2 =>
    have l1 := h1.le; have l2 := h2.le
    have hcut : (am.drop f).take (t - f) = m :: ((am.drop (f + 1)).take (g - (f + 1)) ++ (am.drop g).take (t - g)) := by
      rw [am_drop am f m hm, show t - f = (t - (f + 1)) + 1 by omega, List.take_succ_cons]
      congr 1
      have : am.drop g = (am.drop (f + 1)).drop (g - (f + 1)) := by rw [List.drop_drop]; congr 1; omega
      rw [this, show t - (f + 1) = (g - (f + 1)) + (t - g) by omega, List.take_add]
    rw [hcut, List.countP_cons, List.countP_append]
    by_cases h0 : m = 0
    · subst h0
      cases h1
      simp only [Nat.lt_irrefl, decide_false]
      omega
    · have : decide (0 < m) = true := decide_eq_true (by omega)
      rw [if_pos this]
      omega
theorem depth_nmC {l : List Cl} (hok : okV l = true) : depE (amL l) 0 ≤ nmC l + 1 := by
  obtain ⟨-, hal, d, -, hx⟩ := (okV_iff l).mp hok
  rw [hx.depE]
  have h1 := exs_depth hx
  rw [List.drop_zero, Nat.sub_zero, List.take_of_length_le (by rw [amL_length]; exact Nat.le_refl _)] at h1
  have : (amL l).countP (fun m => decide (0 < m)) = nmC l := by
    rw [amL, List.countP_map, nmC]
    refine List.countP_congr fun c _ => ?_
    simp only [Function.comp_apply, decide_eq_true_eq]
    omega
  omega
theorem okV_one {l : List Cl} (hok : okV l = true) (hl : l.length ≤ 40) (hn : nmC l ≤ 4) : okV (listV [l]) = true := by
  rw [okV_listV (by intro p hp; rw [List.mem_singleton] at hp; subst hp; exact hok)]
  have := depth_nmC hok
  refine ⟨by simp, by simp; omega, ?_⟩
  simp only [maxV]; omega
theorem okV_name : okV [((4 : Int), (⟨#[97]⟩ : ByteArray), (0 : Int))] = false := by
  simp [okV, vC]

set_option maxRecDepth 100000 in
set_option maxHeartbeats 4000000 in
theorem fnValueValid_core (a0 : Option Addr) (len0 cap0 : Nat) (w : World) (hrow : CodeRow w a0 len0 cap0) (htab : Tab w) :
    Calls Tryz.prog 3 #[.slice a0 len0 cap0] w fun e w' => e = .returned (.bool true) ∧ Below w.heap.size w w' := by
  have hcap := hrow.1; have hmx := hrow.2.1
  unfold maxLen at hmx
  obtain ⟨i0, hi, hz0, hz1, hz2⟩ := info_parts infoC
  by_cases hl : len0 ≤ 1048576
  · go_enter Tryz.func3, Tryz.ntmps3
    go_wp2_with fail
    refine (drawValueValid_any a0 len0 cap0 _ hrow).mono ?_
    rintro e w1 ⟨v, l, rfl, hr, hs, hl1, hl14, hnm, hb⟩
    have HB := Lib.hid hb; have HR1 := Lib.hid hr; have HSH := Lib.hid (short60V hs)
    have HS60 := Lib.hid hs
    clear hb hrow hr hs
    obtain ⟨ao, cp, rfl, q1, q2, -⟩ := HR1.out
    unfold maxLen at q2
    go_wp2_with fail
    refine (valueValid_impl _ l _ HR1.out HSH.out (htab.keep HB.out)).mono ?_
    rintro e w2 ⟨rfl, hb2⟩
    have HB2 := Lib.hid (HB.out.trans (hb2.mono HB.out.size)); have HR2 := Lib.hid (HR1.out.mono hb2); clear hb2 HB HR1
    go_wp2_with fail
    refine (valueValid_spec _ l _ HR2.out HSH.out (by omega)).mono ?_
    rintro e w3 ⟨rfl, hb3⟩
    have HB3 := Lib.hid (HB2.out.trans (hb3.mono HB2.out.size)); have HR3 := Lib.hid (HR2.out.mono hb3); clear hb3 HB2 HR2
    have HONE := Lib.hid (fun h : okV l = true => okV_one h (by omega) hnm)
    have hlen1 : [((5 : Int), (⟨#[]⟩ : ByteArray), (1 : Int))].length = 1 := rfl
    have HLV := Lib.hid (show listV [l] = [((5 : Int), (⟨#[]⟩ : ByteArray), (1 : Int))] ++ l by simp [listV])
    have HSL := Lib.hid (show ShortC ([((5 : Int), (⟨#[]⟩ : ByteArray), (1 : Int))] ++ l) from fun c hc => by
      rw [List.mem_append, List.mem_singleton] at hc
      rcases hc with rfl | hc
      · show (⟨#[]⟩ : ByteArray).size ≤ 1048576
        decide
      · exact HSH.out c hc)
    have HSN := Lib.hid (show ShortC [((4 : Int), (⟨#[97]⟩ : ByteArray), (0 : Int))] from fun c hc => by
      rw [List.mem_singleton] at hc; subst hc
      show (⟨#[97]⟩ : ByteArray).size ≤ 1048576
      decide)
    have HOL := Lib.hid (show (w3.alloc (.cells #[.int .i64 5, .string ⟨#[]⟩, .int .i64 1] 27)).ownsRow w3.heap.size 27 3 (.slice (some ⟨w3.heap.size, 0, none⟩) 1 1) 1 (flatC [((5 : Int), (⟨#[]⟩ : ByteArray), (1 : Int))]) from
      World.ownsRow_lit (base := w3.heap.size) w3 #[.int .i64 5, .string ⟨#[]⟩, .int .i64 1] 1 (Nat.le_refl _) (by unfold maxLen; omega) rfl)
    cases hok : okV l with
    | true =>
      have HO1 := Lib.hid (HONE.out hok)
      clear hok hlen1
      go_wp2_with (at_builtin; refine append_rowC rfl _ _ 23 rfl w3.heap.size 27 i0 (.agg #[.int .i64 0, .string ByteArray.empty, .int .i64 0]) 32 Tryz.underlying23 hi hz0 hz1 hz2 (by decide) _ 1 (flatC [((5 : Int), (⟨#[]⟩ : ByteArray), (1 : Int))]) rfl HOL.out _ l rfl (HR3.out.al _) (by unfold maxLen; omega) (by omega) (by simp) ?_; intro v4 w4 hown4 hgrow4; have HO4 := Lib.hid (show w4.ownsRow w3.heap.size 27 3 v4 (1 + l.length) (flatC ([((5 : Int), (⟨#[]⟩ : ByteArray), (1 : Int))] ++ l)) by rw [flatC_append]; exact hown4); have HB4 := Lib.hid ((HB3.out.alloc HB3.out.size (.cells #[.int .i64 5, .string ⟨#[]⟩, .int .i64 1] 27)).grown hgrow4 (by have := HB3.out.size; simp; omega) (fun x hx => (by have h1 := (HOL.out.lt x hx).1; have := HB3.out.size; omega))); clear hown4 hgrow4)
      go_wp2_with fail
      refine (valueValid_impl v4 _ _ (RowC.of_own HO4.out).1 HSL.out (htab.keep HB4.out)).mono ?_
      rintro e w5 ⟨rfl, hb5⟩
      rw [← HLV.out, HO1.out]
      have HB5 := Lib.hid (HB4.out.trans (hb5.mono HB4.out.size)); clear hb5
      go_wp2_with fail
      refine (valueValid_impl _ _ _ (RowC_litV _ _ _ _) HSN.out ((htab.keep HB5.out).al _)).mono ?_
      rintro e w6 ⟨rfl, hb6⟩
      rw [okV_name]
      have HB6 := Lib.hid ((HB5.out.alloc HB5.out.size _).trans (hb6.mono (by have := HB5.out.size; simp; omega))); clear hb6
      go_wp2_with fail
      refine (alive_any _).mono ?_
      rintro e w' ⟨rfl, rfl⟩
      go_wp2
      go_ret
      exact ⟨rfl, HB6.out⟩
    | false =>
      clear hok hlen1
      go_wp2_with (at_builtin; refine append_rowC rfl _ _ 23 rfl w3.heap.size 27 i0 (.agg #[.int .i64 0, .string ByteArray.empty, .int .i64 0]) 32 Tryz.underlying23 hi hz0 hz1 hz2 (by decide) _ 1 (flatC [((5 : Int), (⟨#[]⟩ : ByteArray), (1 : Int))]) rfl HOL.out _ l rfl (HR3.out.al _) (by unfold maxLen; omega) (by omega) (by simp) ?_; intro v4 w4 hown4 hgrow4; have HB4 := Lib.hid ((HB3.out.alloc HB3.out.size (.cells #[.int .i64 5, .string ⟨#[]⟩, .int .i64 1] 27)).grown hgrow4 (by have := HB3.out.size; simp; omega) (fun x hx => (by have h1 := (HOL.out.lt x hx).1; have := HB3.out.size; omega))); clear hown4 hgrow4)
      go_wp2_with fail
      refine (valueValid_impl _ _ _ (RowC_litV _ _ _ _) HSN.out ((htab.keep HB4.out).al _)).mono ?_
      rintro e w6 ⟨rfl, hb6⟩
      rw [okV_name]
      have HB6 := Lib.hid ((HB4.out.alloc HB4.out.size _).trans (hb6.mono (by have := HB4.out.size; simp; omega))); clear hb6
      go_wp2_with fail
      refine (alive_any _).mono ?_
      rintro e w' ⟨rfl, rfl⟩
      go_wp2
      go_ret
      exact ⟨rfl, HB6.out⟩
  · go_enter Tryz.func3, Tryz.ntmps3
    go_wp2
    go_ret
    exact ⟨rfl, Below.refl _ _⟩

end Go.Proofs.YtbnchmlapimmdaaGreatDoor
