/-
  The walk of laws.FnExactItemLine.
-/
import Derived.Test.YthijkjnngfnfdaaGreatDoorItLineI
import Derived.Test.YthijkjnngfnfdaaGreatDoorOpenItems
import Derived.Test.YthijkjnngfnfdaaGreatDoorItemT
import Derived.Test.YthijkjnngfnfdaaGreatDoorItemW
set_option linter.unusedVariables false
set_option maxHeartbeats 4000000
set_option maxRecDepth 100000
namespace Go.Proofs.YthijkjnngfnfdaaGreatDoor
open Go.RowKit
theorem fnExactItemLine_core (i : It) (u : Value) (d : Int) (w : World) (hr : RowC w u i.2.2.1) (hz : SizedI i) (htab : Tab w) :
    Calls Tryz.prog 8 #[.agg #[.int .i64 i.1, .string i.2.1, u, .string i.2.2.2], .int .i64 d] w fun e w' => e = .returned (.bool true) ∧ Below w.heap.size w w' := by
  obtain ⟨k, nm, l, t⟩ := i
  have HR := Lib.hid hr; have HZ := Lib.hid hz; have HT := Lib.hid htab
  simp only at HR ⊢
  have HB0 := Lib.hid ((Below.refl w.heap.size w).alloc (Nat.le_refl _) (.cells #[.int .i64 k, .string nm, u, .string t] 50))
  have HBX := Lib.hid (fun w1 (h : Below (w.alloc (.cells #[.int .i64 k, .string nm, u, .string t] 50)).heap.size (w.alloc (.cells #[.int .i64 k, .string nm, u, .string t] 50)) w1) => boxI h)
  have HS := Lib.hid (szItem_any u (k, nm, l, t) 1048576 _ (HR.out.mono HB0.out) HZ.out (by omega) (by omega))
  obtain ⟨ao, cap, rfl, -⟩ := hr
  clear hz htab
  obtain ⟨L, hL⟩ : ∃ L, lineD (k, nm, l, t) d = L := ⟨_, rfl⟩
  all_goals
    have HOK := Lib.hid hL; clear hL
    go_enter Tryz.func8, Tryz.ntmps8
    go_wp2_with fail
    refine HS.out.mono ?_
    rintro e w1 ⟨⟨q, rfl, hqn, hq⟩, hb1⟩
    obtain ⟨d0, d1, d2, d3⟩ := HBX.out w1 hb1
    have HB1 := Lib.hid (HB0.out.trans (hb1.mono HB0.out.size))
    have HBX1 := Lib.hid hb1; clear hb1
    by_cases hm0 : 0 ≤ q
    · obtain ⟨hl, hu1, hu2, hu3⟩ := hq hm0
      simp only at hl hu1 hu2 hu3
      have HSH := Lib.hid (show ShortC l from fun c hc => by have := hu2 c hc; omega)
      have HSZ := Lib.hid (show SizedC l from fun c hc => by have := hu2 c hc; unfold maxLen; omega)
      have hl' : l.length ≤ 1048576 := by omega
      have hn1 : nm.size ≤ 1048576 := by omega
      have hn2 : t.size ≤ 1048576 := by omega
      clear hq hu1 hu2 hu3
      go_wp2_with fail
      refine (toItem_any _ k nm t l _ (HR.out.mono HB1.out) hl').mono ?_
      rintro e w2 ⟨v2, rfl, ho2, hb2⟩
      have R2 := Lib.hid (RowC.of_own ho2).1; have HB2 := Lib.hid (HB1.out.trans (hb2.mono HB1.out.size))
      have e0 := (hb2.cell (p := ⟨w.heap.size, 0, none⟩) (by have := HBX1.out.size; simp at this; show w.heap.size < _; omega)).trans d0
      have e1 := (hb2.cell (p := ⟨w.heap.size, 1, none⟩) (by have := HBX1.out.size; simp at this; show w.heap.size < _; omega)).trans d1
      have e2 := (hb2.cell (p := ⟨w.heap.size, 2, none⟩) (by have := HBX1.out.size; simp at this; show w.heap.size < _; omega)).trans d2
      have e3 := (hb2.cell (p := ⟨w.heap.size, 3, none⟩) (by have := HBX1.out.size; simp at this; show w.heap.size < _; omega)).trans d3
      have hlt2 : w.heap.size < w2.heap.size := by have := HBX1.out.size; simp at this; have := hb2.size; omega
      clear ho2 hb2 d0 d1 d2 d3
      go_wp2_with fail
      refine (itemLine_spec (k, nm, l, t) _ d _ R2.out hn1 HSH.out hl' hn2).mono ?_
      rintro e w3 ⟨rfl, hb3⟩
      rw [HOK.out]
      have HB3 := Lib.hid (HB2.out.trans (hb3.mono HB2.out.size))
      have d0 := (hb3.cell (p := ⟨w.heap.size, 0, none⟩) hlt2).trans e0
      have d1 := (hb3.cell (p := ⟨w.heap.size, 1, none⟩) hlt2).trans e1
      have d2 := (hb3.cell (p := ⟨w.heap.size, 2, none⟩) hlt2).trans e2
      have d3 := (hb3.cell (p := ⟨w.heap.size, 3, none⟩) hlt2).trans e3
      have hlt3 : w.heap.size < w3.heap.size := by have := hb3.size; omega
      clear hb3 e0 e1 e2 e3
      go_wp2_with fail
      refine (toItem_any _ k nm t l _ (HR.out.mono HB3.out) hl').mono ?_
      rintro e w4 ⟨v4, rfl, ho4, hb4⟩
      obtain ⟨a4, c4, rfl⟩ := own_shape ho4
      have R4 := Lib.hid (RowC.of_own ho4).1; have HB4 := Lib.hid (HB3.out.trans (hb4.mono HB3.out.size))
      have e0 := (hb4.cell (p := ⟨w.heap.size, 0, none⟩) hlt3).trans d0
      have e1 := (hb4.cell (p := ⟨w.heap.size, 1, none⟩) hlt3).trans d1
      have e2 := (hb4.cell (p := ⟨w.heap.size, 2, none⟩) hlt3).trans d2
      have e3 := (hb4.cell (p := ⟨w.heap.size, 3, none⟩) hlt3).trans d3
      have hlt4 : w.heap.size < w4.heap.size := by have := hb4.size; omega
      clear ho4 hb4 d0 d1 d2 d3
      have HB5 := Lib.hid (HB4.out.alloc HB4.out.size (.cells #[.int .i64 k, .string nm, .slice a4 l.length c4, .string t] 25))
      have HI := Lib.hid (itemLine_impl (k, nm, l, t) (.slice a4 l.length c4) d (w4.alloc (.cells #[.int .i64 k, .string nm, .slice a4 l.length c4, .string t] 25)) (R4.out.al _) hn1 HSZ.out hn2 (HT.out.keep HB5.out))
      go_wp2_with fail
      refine HI.out.mono ?_
      rintro e w5 ⟨rfl, hb5⟩
      rw [HOK.out]
      obtain ⟨g0, g1, g2, g3⟩ := boxI hb5
      have hlt5 : w.heap.size < (w4.alloc (.cells #[.int .i64 k, .string nm, .slice a4 l.length c4, .string t] 25)).heap.size := by simp; omega
      have hc : ∀ q, w5.cell? ⟨w.heap.size, q, none⟩ = w4.cell? ⟨w.heap.size, q, none⟩ := fun q => (hb5.cell (p := ⟨w.heap.size, q, none⟩) hlt5).trans (((Below.refl _ w4).alloc (Nat.le_refl _) _).cell (p := ⟨w.heap.size, q, none⟩) hlt4)
      have d0 := (hc 0).trans e0
      have d1 := (hc 1).trans e1
      have d2 := (hc 2).trans e2
      have d3 := (hc 3).trans e3
      have hlt6 : w4.heap.size < w5.heap.size := by have := hb5.size; simp at this; omega
      have hlt7 : w.heap.size < w5.heap.size := by omega
      have R45 := Lib.hid ((R4.out.al (.cells #[.int .i64 k, .string nm, .slice a4 l.length c4, .string t] 25)).mono hb5)
      have HB6 := Lib.hid (HB5.out.trans (hb5.mono HB5.out.size))
      clear hb5 hc e0 e1 e2 e3 hlt5
      have hne : (w4.heap.size = w.heap.size) = False := eq_false (by omega)
      go_wp2_with fail
      go_region_with ((first
        | (go_at_call 34; refine (toItem_any _ k nm t l _ ((HR.out.mono HB6.out).mono (drewB w5)) hl').mono ?_; rintro e w6 ⟨v6, rfl, ho6, hb6⟩
           have g0 := (hb6.cell (p := ⟨w4.heap.size, 0, none⟩) hlt6).trans g0
           have g1 := (hb6.cell (p := ⟨w4.heap.size, 1, none⟩) hlt6).trans g1
           have g2 := (hb6.cell (p := ⟨w4.heap.size, 2, none⟩) hlt6).trans g2
           have g3 := (hb6.cell (p := ⟨w4.heap.size, 3, none⟩) hlt6).trans g3
           have R6 := Lib.hid (RowC.of_own ho6).1
           have R56 := Lib.hid ((R45.out.mono (drewB w5)).mono hb6)
           have HB7 := Lib.hid (HB6.out.trans (((drewB w5).trans hb6).mono HB6.out.size))
           clear ho6 hb6)
        | (go_at_call 35; refine (eqItem_same k nm t _ _ l _ R56.out R6.out).mono ?_; rintro e w7 ⟨rfl, hb7⟩
           have HB8 := Lib.hid (HB7.out.trans (hb7.mono HB7.out.size))
           clear hb7)))
      all_goals
        (try go_wp2)
        go_ret
        exact ⟨rfl, HB8.out⟩
    · clear hq
      go_wp2
      go_ret
      exact ⟨rfl, HB1.out⟩
end Go.Proofs.YthijkjnngfnfdaaGreatDoor
