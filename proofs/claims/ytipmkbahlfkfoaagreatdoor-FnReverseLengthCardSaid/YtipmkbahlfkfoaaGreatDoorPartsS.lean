/-
  spec.ValueParts, by its contract.
-/
import Derived.Test.YtipmkbahlfkfoaaGreatDoorBaseI
namespace Go.Proofs.YtipmkbahlfkfoaaGreatDoor
open Go.RowKit
set_option linter.unusedVariables false

set_option maxRecDepth 100000 in
set_option maxHeartbeats 4000000 in
theorem valueParts_spec (v : Value) (l : List Cl) (w : World) (hr : RowC w v l) (hz : ShortC l) (hl : l.length ≤ 1048576) :
    Calls Tryz.prog 30 #[v] w (NewSS (partsV l) w) := by
  have HC := Lib.hid (valueValid_spec v l w hr hz hl)
  have HR := Lib.hid hr; have HZ := Lib.hid hz
  obtain ⟨ao, cap, rfl, h1, h2, h3⟩ := hr
  unfold maxLen at h2
  have H3 := Lib.hid h3
  clear h3 hz
  have hlitE : ∀ w' : World, Below w.heap.size w w' → NewSS [] w (.returned (.slice (some ⟨w'.heap.size, 0, none⟩) 0 0)) (w'.alloc (.cells #[] 24)) := fun w' hb =>
    ⟨_, [], rfl, ⟨World.ownsRow_lit (e := 24) (size := 1) (base := w.heap.size) w' #[] 0 hb.size (by unfold maxLen; omega) rfl, rfl, fun k h => by simp at h, fun k h => by simp at h, fun i j h => by simp at h⟩, hb.alloc hb.size _⟩
  have HLE := Lib.hid hlitE; clear hlitE
  cases hok : okV l with
  | true =>
    obtain ⟨h60, hal, d, hd, hx⟩ := (okV_iff l).mp hok
    have hlen : 0 < l.length := by have := hx.le; omega
    obtain ⟨m, e, hm, hk, rfl⟩ := hx.inv
    have HM := Lib.hid hm; have HX := Lib.hid hk; have HAL := Lib.hid (allM_ofW (allV_W hal)); have HOK := Lib.hid hok
    obtain ⟨b, o, rfl, hbl, cc⟩ := H3.out.resolve_left (by rintro rfl; simp at hlen)
    obtain ⟨c0, c1, c2⟩ := cc 0 hlen
    rw [Nat.zero_mul, Nat.add_zero] at c0
    by_cases h5 : l[0].1 = 5
    · rw [h5] at c0
      have HP := Lib.hid (show partsV l = cutL l 1 m by
        have e0 : (amL l).getD 0 0 = m := by rw [List.getD_eq_getElem?_getD, hm]; rfl
        rw [partsV, if_pos ⟨hok, l[0], l.tail, by cases l with | nil => simp at hlen | cons a t => rfl, h5⟩, e0])
      clear hx hk hal hok hm cc c1 c2 h5 hd
      go_enter Tryz.func30, Tryz.ntmps30
      go_wp2_with fail
      refine HC.out.mono ?_
      rintro e w1 ⟨rfl, hb1⟩
      rw [HOK.out]
      have d0 : w1.cell? ⟨b, o, none⟩ = some (.int .i64 5) := (hb1.cell (p := ⟨b, o, none⟩) hbl).trans c0
      have HB := Lib.hid hb1; clear hb1 c0
      go_wp2_with fail
      refine (l8Parts_any _ l _ (HR.out.mono HB.out) HZ.out h60 HAL.out m l.length _ HM.out HX.out).mono ?_
      rintro e w2 ⟨v2, us, rfl, ho2, hb2⟩
      have HO2 := Lib.hid (show OwnSS w2 w.heap.size v2 us (partsV l) by
        rw [HP.out]
        exact ho2.lower HB.out.size)
      have HB2 := Lib.hid (HB.out.trans (hb2.mono HB.out.size))
      clear ho2 hb2
      go_wp2
      go_ret
      exact ⟨_, us, rfl, HO2.out, HB2.out⟩
    · have HP := Lib.hid (show partsV l = [] by
        rw [partsV, if_neg]
        rintro ⟨-, c, t, hl0, hc5⟩
        subst hl0
        exact h5 (by simpa using hc5))
      have hne : (l[0].1 != 5) = true := bne_iff_ne.mpr h5
      generalize l[0].1 = kk at c0 hne
      clear hx hk hal hok hm cc c1 c2 h5 hd
      go_enter Tryz.func30, Tryz.ntmps30
      go_wp2_with fail
      refine HC.out.mono ?_
      rintro e w1 ⟨rfl, hb1⟩
      rw [HOK.out]
      have d0 : w1.cell? ⟨b, o, none⟩ = some (.int .i64 kk) := (hb1.cell (p := ⟨b, o, none⟩) hbl).trans c0
      have HB := Lib.hid hb1; clear hb1 c0
      go_wp2
      go_ret
      rw [HP.out]
      exact HLE.out _ HB.out
  | false =>
    have HP := Lib.hid (show partsV l = [] by rw [partsV, if_neg]; rintro ⟨h, -⟩; rw [hok] at h; cases h)
    have HOK := Lib.hid hok
    clear hok
    go_enter Tryz.func30, Tryz.ntmps30
    go_wp2_with fail
    refine HC.out.mono ?_
    rintro e w1 ⟨rfl, hb1⟩
    rw [HOK.out]
    have HB := Lib.hid hb1; clear hb1
    go_wp2
    go_ret
    rw [HP.out]
    exact HLE.out _ HB.out

end Go.Proofs.YtipmkbahlfkfoaaGreatDoor
