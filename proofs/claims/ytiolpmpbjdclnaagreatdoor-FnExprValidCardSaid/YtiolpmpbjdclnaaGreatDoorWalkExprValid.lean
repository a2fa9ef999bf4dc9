/-
  The walk of laws.FnExprValid.
-/
import Derived.Test.YtiolpmpbjdclnaaGreatDoorDrawLists
import Derived.Test.YtiolpmpbjdclnaaGreatDoorExprMore
import Derived.Test.YtiolpmpbjdclnaaGreatDoorExprS2
import Derived.Test.YtiolpmpbjdclnaaGreatDoorAlive
namespace Go.Proofs.YtiolpmpbjdclnaaGreatDoor
open Go.RowKit
set_option linter.unusedVariables false

theorem short_sized {l : List Cl} (h : ∀ c ∈ l, c.2.1.size ≤ 60) : SizedC l := fun c hc => by have := h c hc; unfold maxLen; omega
theorem short_short {l : List Cl} (h : ∀ c ∈ l, c.2.1.size ≤ 60) : ShortC l := fun c hc => by have := h c hc; omega
/-- The cells of a row, one by one. -/
theorem RowC.news {w : World} {b o cap : Nat} {l : List Cl} (h : ∀ (k : Nat) (h : k < l.length), CellAt w b o k l[k]) (j : Nat) (u : Value) (hj : (flatC l)[j]? = some u) : w.cell? ((⟨b, o, none⟩ : Addr).add j) = some u := by
  have hlt : j < l.length * 3 := by
    by_cases hk : j < l.length * 3
    · exact hk
    · rw [List.getElem?_eq_none (by rw [flatC_length]; omega)] at hj; cases hj
  have hk : j / 3 < l.length := by omega
  obtain ⟨c0, c1, c2⟩ := h (j / 3) hk
  obtain ⟨f0, f1, f2⟩ := flatC_at l (j / 3) hk
  rw [addr_add]
  have hr : j % 3 = 0 ∨ j % 3 = 1 ∨ j % 3 = 2 := by omega
  rcases hr with hr | hr | hr
  · have e : j = j / 3 * 3 := by omega
    rw [e, f0] at hj; injection hj with hj; subst hj
    rw [show o + j = o + j / 3 * 3 by omega]; exact c0
  · have e : j = j / 3 * 3 + 1 := by omega
    rw [e, f1] at hj; injection hj with hj; subst hj
    rw [show o + j = o + j / 3 * 3 + 1 by omega]; exact c1
  · have e : j = j / 3 * 3 + 2 := by omega
    rw [e, f2] at hj; injection hj with hj; subst hj
    rw [show o + j = o + j / 3 * 3 + 2 by omega]; exact c2

set_option maxRecDepth 100000 in
set_option maxHeartbeats 8000000 in
theorem fnExprValid_core (a0 : Option Addr) (len0 cap0 : Nat) (w : World) (hrow : CodeRow w a0 len0 cap0) (htab : Tab w) :
    Calls Tryz.prog 3 #[.slice a0 len0 cap0] w fun e w' => e = .returned (.bool true) ∧ Below w.heap.size w w' := by
  obtain ⟨i0, hi, hz0, hz1, hz2⟩ := info_parts infoC
  have hcap := hrow.1; have hmx := hrow.2.1
  unfold maxLen at hmx
  by_cases hl : len0 ≤ 1048576
  · go_enter Tryz.func3, Tryz.ntmps3
    go_wp2_with fail
    refine (drawExprValid_any a0 len0 cap0 _ hrow).mono ?_
    rintro e w1 ⟨v, l, rfl, hr, hs, hl60, hb⟩
    have HB := Lib.hid hb; have HR1 := Lib.hid hr; have HSH := Lib.hid hs
    clear hb hrow hr hs
    obtain ⟨ao, cp, rfl, q1, q2, -⟩ := HR1.out
    unfold maxLen at q2
    go_wp2_with fail
    refine (exprValid_impl _ l _ HR1.out (short_sized HSH.out) (htab.keep HB.out)).mono ?_
    rintro e w2 ⟨rfl, hb2⟩
    have HB2 := Lib.hid (HB.out.trans (hb2.mono HB.out.size)); have HR2 := Lib.hid (HR1.out.mono hb2); clear hb2 HB HR1
    go_wp2_with fail
    refine (exprValid_spec _ l _ HR2.out (short_short HSH.out) (by omega)).mono ?_
    rintro e w3 ⟨rfl, hb3⟩
    have HB3 := Lib.hid (HB2.out.trans (hb3.mono HB2.out.size)); have HR3 := Lib.hid (HR2.out.mono hb3); clear hb3 HB2 HR2
    cases hok : okE l with
    | false =>
      clear hok
      go_wp2_with fail
      refine (alive_any _).mono ?_
      rintro e w' ⟨rfl, rfl⟩
      go_wp2
      go_ret
      exact ⟨rfl, HB3.out⟩
    | true =>
      have hl1 : 1 ≤ l.length := by
        obtain ⟨-, -, d, -, hx⟩ := (okE_iff l).mp hok
        have := hx.le; omega
      have HIN := Lib.hid (okE_init hok)
      have HNT := Lib.hid (okE_not hok)
      obtain ⟨hd0, hd1⟩ := depI_bd hok
      obtain ⟨ao', cp', hv, -, -, hq⟩ := HR3.out
      simp only [Value.slice.injEq] at hv
      obtain ⟨rfl, -, rfl⟩ := hv
      obtain ⟨b, off, rfl, hbl, hcc⟩ := hq.resolve_left (by rintro rfl; simp at hl1)
      have HCC := Lib.hid hcc
      have HLIT := Lib.hid (World.ownsRow_lit (base := w.heap.size) (e := 28) (size := 3) w3 #[.int .i64 7, .string ⟨#[33]⟩, .int .i64 1] 1 HB3.out.size (by unfold maxLen; omega) rfl)
      have hws : w.heap.size ≤ w3.heap.size := HB3.out.size
      have HNW := Lib.hid (show ∀ j u, (flatC l)[j]? = some u → (w3.alloc (.cells #[.int .i64 7, .string ⟨#[33]⟩, .int .i64 1] 28)).cell? ((⟨b, off, none⟩ : Addr).add j) = some u from fun j u hj => by
        have h1 := RowC.news (w := w3) (cap := cp) hcc j u hj
        rw [addr_add] at h1 ⊢
        rw [((Below.refl w3.heap.size w3).alloc (Nat.le_refl _) (.cells #[.int .i64 7, .string ⟨#[33]⟩, .int .i64 1] 28)).cell (p := ⟨b, off + j, none⟩) hbl]; exact h1)
      clear hcc hok hq
      go_wp2_with (at_builtin; refine wpList_append_own _ rfl _ _ 23 rfl w.heap.size 28 i0 (.agg #[.int .i64 0, .string ByteArray.empty, .int .i64 0]) 3 32 Tryz.underlying23 hi hz0 hz1 hz2 rfl (by decide) _ _ _ rfl HLIT.out ⟨b, off, none⟩ l.length cp (flatC l) rfl (flatC_length l) HNW.out (flatC_one l) (by unfold maxLen; omega) (by omega) (by simp; omega) ?_; intro v4 w4 hown4 hgrow4 hnil4)
      all_goals
        have HO4 := Lib.hid (show w4.ownsRow w.heap.size 28 3 v4 (1 + l.length) (flatC ((7, ⟨#[33]⟩, 1) :: l)) by rw [flatC_cons]; exact hown4)
        have HB4 := Lib.hid (((HB3.out.alloc HB3.out.size _).grown hgrow4 (by simp; omega) (fun q hq => (HLIT.out.lt q hq).1)))
        have HLIT3 := Lib.hid (World.ownsRow_lit (base := w3.heap.size) (e := 28) (size := 3) w3 #[.int .i64 7, .string ⟨#[33]⟩, .int .i64 1] 1 (Nat.le_refl _) (by unfold maxLen; omega) rfl)
        have hb34 : Below w3.heap.size w3 w4 := ((Below.refl _ w3).alloc (Nat.le_refl _) _).grown hgrow4 (by simp) (fun q hq => (HLIT3.out.lt q hq).1)
        have HR4 := Lib.hid (HR3.out.mono hb34)
        have HM4 := Lib.hid (RowC.of_own HO4.out).1
        clear hown4 hgrow4 hnil4 hb34 HR3 HLIT HLIT3 HNW HCC HB3 HO4
        have HSUB := Lib.hid (show ∀ ww : World, RowC ww (.slice (some ⟨b, off, none⟩) l.length cp) l → RowC ww (.slice (some ⟨b, off, none⟩) (l.length - 1) cp) (l.take (l.length - 1)) from fun ww h => by
          have := h.sub 0 (l.length - 1) (Nat.zero_le _) (by omega)
          simpa using this)
        have hm1 : ((l.length : Int) - 1).toNat = l.length - 1 := by omega
      · have h59 : (l.length : Int) < 60 := by assumption
        rw [decide_eq_true h59, Bool.true_and] at HNT
        refine (exprDepth_impl _ l _ HR4.out (short_sized HSH.out) (htab.keep HB4.out)).mono ?_
        rintro e w5 ⟨rfl, hb5⟩
        have HB5 := Lib.hid (HB4.out.trans (hb5.mono HB4.out.size)); have HR5 := Lib.hid (HR4.out.mono hb5); have HM5 := Lib.hid (HM4.out.mono hb5); clear hb5 HB4 HR4 HM4
        generalize depI l = dd at hd0 hd1 HNT
        go_wp2_with fail
        refine (exprValid_impl _ (l.take (l.length - 1)) _ (HSUB.out _ HR5.out) (fun c hc => short_sized HSH.out c (List.mem_of_mem_take hc)) (htab.keep HB5.out)).mono ?_
        rintro e w6 ⟨rfl, hb6⟩
        rw [HIN.out]
        have HB6 := Lib.hid (HB5.out.trans (hb6.mono HB5.out.size)); have HM6 := Lib.hid (HM5.out.mono hb6); clear hb6
        go_wp2_with fail
        refine (exprValid_impl _ ((7, ⟨#[33]⟩, 1) :: l) _ HM6.out (short_sized (short_cons HSH.out _ (show (⟨#[33]⟩ : ByteArray).size ≤ 60 by decide))) (htab.keep HB6.out)).mono ?_
        rintro e w7 ⟨rfl, hb7⟩
        rw [HNT.out]
        have HB7 := Lib.hid (HB6.out.trans (hb7.mono HB6.out.size)); clear hb7

        by_cases hdd : dd < 12
        · go_wp2
          go_ret
          exact ⟨rfl, HB7.out⟩
        · go_wp2
          go_ret
          exact ⟨rfl, HB7.out⟩
      · have h59 : ¬ (l.length : Int) < 60 := by omega
        rw [decide_eq_false h59, Bool.false_and] at HNT
        refine (exprValid_impl _ (l.take (l.length - 1)) _ (HSUB.out _ HR4.out) (fun c hc => short_sized HSH.out c (List.mem_of_mem_take hc)) (htab.keep HB4.out)).mono ?_
        rintro e w6 ⟨rfl, hb6⟩
        rw [HIN.out]
        have HB6 := Lib.hid (HB4.out.trans (hb6.mono HB4.out.size)); have HM6 := Lib.hid (HM4.out.mono hb6); clear hb6
        go_wp2_with fail
        refine (exprValid_impl _ ((7, ⟨#[33]⟩, 1) :: l) _ HM6.out (short_sized (short_cons HSH.out _ (show (⟨#[33]⟩ : ByteArray).size ≤ 60 by decide))) (htab.keep HB6.out)).mono ?_
        rintro e w7 ⟨rfl, hb7⟩
        rw [HNT.out]
        have HB7 := Lib.hid (HB6.out.trans (hb7.mono HB6.out.size)); clear hb7

        go_wp2
        go_ret
        exact ⟨rfl, HB7.out⟩
  · go_enter Tryz.func3, Tryz.ntmps3
    go_wp2
    go_ret
    exact ⟨rfl, Below.refl _ _⟩

end Go.Proofs.YtiolpmpbjdclnaaGreatDoor
