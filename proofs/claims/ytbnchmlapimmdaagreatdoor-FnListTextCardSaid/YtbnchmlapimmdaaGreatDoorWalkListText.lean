/-
  The walk of laws.FnListText.
-/
import Derived.Test.YtbnchmlapimmdaaGreatDoorBaseD
import Derived.Test.YtbnchmlapimmdaaGreatDoorListI
import Derived.Test.YtbnchmlapimmdaaGreatDoorTextV
import Derived.Test.YtbnchmlapimmdaaGreatDoorValST
namespace Go.Proofs.YtbnchmlapimmdaaGreatDoor
open Go.RowKit
set_option linter.unusedVariables false

theorem RowLs_two {w : World} {u1 u2 : Value} {l1 l2 : List Cl} (h1 : RowC w u1 l1) (h2 : RowC w u2 l2) : RowLs (w.alloc (.cells #[u1, u2] 23)) (.slice (some ⟨w.heap.size, 0, none⟩) 2 2) [l1, l2] := by
  refine ⟨some ⟨w.heap.size, 0, none⟩, 2, rfl, by simp, by unfold maxLen; omega, .inr ⟨w.heap.size, 0, rfl, by simp, fun k hk => ?_⟩⟩
  have hc := fun i => cell_of_row (w.alloc (.cells #[u1, u2] 23)) w.heap.size i #[u1, u2] _ (0, 0) (heap_alloc_new w _)
  match k, hk with
  | 0, _ => exact ⟨u1, (hc 0).trans rfl, h1.al _⟩
  | 1, _ => exact ⟨u2, (hc 1).trans rfl, h2.al _⟩
theorem textV_le (l : List Cl) : (⟨(textV l).toArray⟩ : ByteArray).size ≤ 12000 := by
  show (textV l).toArray.size ≤ 12000
  cases hok : okV l with
  | true => have := textV_short hok; simpa using this
  | false => rw [textV_no hok]; simp
theorem text_two {a b : List Cl} (h : listOK [a, b] = true) : (⟨(textV (listR [a, b])).toArray⟩ : ByteArray) = (⟨#[91]⟩ : ByteArray) ++ ⟨(textV a).toArray⟩ ++ ⟨#[44, 32]⟩ ++ ⟨(textV b).toArray⟩ ++ ⟨#[93]⟩ ∧ ShortC (listR [a, b]) := by
  have h' := h
  rw [listOK, Bool.and_eq_true, List.all_eq_true] at h'
  rw [listR, if_pos h]
  refine ⟨?_, okV_short h'.2⟩
  rw [textV_listV h'.1 h'.2]
  apply ByteArray.ext
  simp [commaL]

set_option maxRecDepth 100000 in
set_option maxHeartbeats 4000000 in
theorem fnListText_core (a0 : Option Addr) (len0 cap0 : Nat) (a1 : Option Addr) (len1 cap1 : Nat) (w : World) (hrow : CodeRow w a0 len0 cap0) (hrow1 : CodeRow w a1 len1 cap1) (htab : Tab w) :
    Calls Tryz.prog 7 #[.slice a0 len0 cap0, .slice a1 len1 cap1] w fun e w' => e = .returned (.bool true) ∧ Below w.heap.size w w' := by
  have hcap := hrow.1; have hmx := hrow.2.1
  have hcap1 := hrow1.1; have hmx1 := hrow1.2.1
  unfold maxLen at hmx hmx1
  by_cases hl : len0 ≤ 1048576
  · by_cases hl1 : len1 ≤ 1048576
    · have HR0 := Lib.hid hrow1
      go_enter Tryz.func7, Tryz.ntmps7
      go_wp2_with fail
      refine (drawValueText_any a0 len0 cap0 _ hrow).mono ?_
      rintro e w1 ⟨v, l, rfl, hr, hs, hl1, hl14, -, hb⟩
      have HB := Lib.hid hb; have HR1 := Lib.hid hr; have HSH := Lib.hid (show ShortC l from fun c hc => by have := hs c hc; omega)
      clear hb hrow hrow1 hr hs
      obtain ⟨ao, cp, rfl, q1, q2, -⟩ := HR1.out
      unfold maxLen at q2
      go_wp2_with fail
      refine (valueText_impl _ l _ HR1.out HSH.out (htab.keep HB.out)).mono ?_
      rintro e w2 ⟨rfl, hb2⟩
      have HB2 := Lib.hid (HB.out.trans (hb2.mono HB.out.size)); have HR2 := Lib.hid (HR1.out.mono hb2); clear hb2 HB HR1
      go_wp2_with fail
      refine (valueText_spec _ l _ HR2.out HSH.out (by omega)).mono ?_
      rintro e w3 ⟨rfl, hb3⟩
      have HB3 := Lib.hid (HB2.out.trans (hb3.mono HB2.out.size)); have HR3 := Lib.hid (HR2.out.mono hb3); clear hb3 HB2 HR2
      obtain ⟨S, hS⟩ : ∃ S : ByteArray, S = ⟨(textV l).toArray⟩ := ⟨_, rfl⟩
      have hS9 : S.size ≤ 12000 := by rw [hS]; exact textV_le l
      rw [← hS]
      have HS := Lib.hid hS; clear hS
      go_wp2_with fail
      refine (drawValueText_any a1 len1 cap1 _ (HR0.out.mono HB3.out)).mono ?_
      rintro e w4 ⟨vb, lb, rfl, hr, hs, hl1b, hl14b, -, hb4⟩
      have HB4 := Lib.hid (HB3.out.trans (hb4.mono HB3.out.size)); have HR4 := Lib.hid (HR3.out.mono hb4); have HRB := Lib.hid hr; have HSB := Lib.hid (show ShortC lb from fun c hc => by have := hs c hc; omega)
      clear hb4 hr hs HB3 HR3
      obtain ⟨ab, cb, rfl, q1b, q2b, -⟩ := HRB.out
      unfold maxLen at q2b
      have HTW := Lib.hid (RowLs_two HR4.out HRB.out)
      have HZ2 := Lib.hid (show ∀ x ∈ [l, lb], ShortC x from fun x hx => by
        rcases List.mem_cons.mp hx with rfl | hx
        · exact HSH.out
        · rw [List.mem_singleton] at hx; subst hx; exact HSB.out)
      have hlen2 : [l, lb].length = 2 := rfl
      have HB4a := Lib.hid (HB4.out.alloc HB4.out.size (.cells #[.slice ao l.length cp, .slice ab lb.length cb] 23))
      have HTT := Lib.hid (fun h : listOK [l, lb] = true => text_two h)
      clear hlen2
      go_wp2_with fail
      refine (listValue_impl _ [l, lb] _ HTW.out HZ2.out (htab.keep HB4a.out)).mono ?_
      rintro e w5 ⟨v5, rfl, ho5, hb5⟩
      have HB5 := Lib.hid (HB4a.out.trans (hb5.mono HB4a.out.size)); have HRB5 := Lib.hid ((HRB.out.al _).mono hb5); have HX5 := Lib.hid (RowC.of_own ho5).1
      clear hb5 ho5
      cases hok : listOK [l, lb] with
      | false =>
        clear hok
        go_wp2_with fail
        refine (alive_any _).mono ?_
        rintro e w' ⟨rfl, rfl⟩
        go_wp2
        go_ret
        exact ⟨rfl, HB5.out⟩
      | true =>
        obtain ⟨t1, t2⟩ := HTT.out hok
        have HT1 := Lib.hid t1; have HT2 := Lib.hid t2
        clear t1 t2 hok
        obtain ⟨T, hT⟩ : ∃ T : ByteArray, T = ⟨(textV lb).toArray⟩ := ⟨_, rfl⟩
        have hT9 : T.size ≤ 12000 := by rw [hT]; exact textV_le lb
        have HTL := Lib.hid hT; clear hT
        go_wp2_with fail
        refine (valueText_impl v5 _ _ HX5.out HT2.out (htab.keep HB5.out)).mono ?_
        rintro e w6 ⟨rfl, hb6⟩
        rw [HT1.out, ← HS.out, ← HTL.out]
        have HB6 := Lib.hid (HB5.out.trans (hb6.mono HB5.out.size)); have HRB6 := Lib.hid (HRB5.out.mono hb6); clear hb6
        go_wp2_with fail
        refine (valueText_impl _ lb _ HRB6.out HSB.out (htab.keep HB6.out)).mono ?_
        rintro e w7 ⟨rfl, hb7⟩
        rw [← HTL.out]
        have HB7 := Lib.hid (HB6.out.trans (hb7.mono HB6.out.size)); clear hb7
        go_wp2_with fail
        refine (alive_any _).mono ?_
        rintro e w' ⟨rfl, rfl⟩
        go_wp2
        go_ret
        exact ⟨rfl, HB7.out⟩
    · go_enter Tryz.func7, Tryz.ntmps7
      go_wp2
      go_ret
      exact ⟨rfl, Below.refl _ _⟩
  · go_enter Tryz.func7, Tryz.ntmps7
    go_wp2
    go_ret
    exact ⟨rfl, Below.refl _ _⟩

end Go.Proofs.YtbnchmlapimmdaaGreatDoor
