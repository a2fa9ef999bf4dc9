/-
  laws.sameItem and laws.sameItems at items that read the same.
-/
import Derived.Test.YtbmobgahokehmaaGreatDoorItemW
import Derived.Test.YtbmobgahokehmaaGreatDoorSameCells
namespace Go.Proofs.YtbmobgahokehmaaGreatDoor
open Go.RowKit
set_option linter.unusedVariables false

set_option maxRecDepth 100000 in
set_option maxHeartbeats 2000000 in
theorem sameItem_same (k : Int) (s t : ByteArray) (u1 u2 : Value) (l : List Cl) (w : World) (h1 : RowC w u1 l) (h2 : RowC w u2 l) :
    Calls Tryz.prog 52 #[.agg #[.int .i64 k, .string s, u1, .string t], .agg #[.int .i64 k, .string s, u2, .string t]] w fun e w' => e = .returned (.bool true) ∧ Below w.heap.size w w' := by
  have HB0 := Lib.hid (((Below.refl w.heap.size w).alloc (Nat.le_refl _) (.cells #[.int .i64 k, .string s, u1, .string t] 25)).alloc (by simp) (.cells #[.int .i64 k, .string s, u2, .string t] 25))
  have HC := Lib.hid (sameCells_same u1 u2 l _ (h1.mono HB0.out) (h2.mono HB0.out))
  have HX0 := Lib.hid (fun w1 (h : Below ((w.alloc (.cells #[.int .i64 k, .string s, u1, .string t] 25)).alloc (.cells #[.int .i64 k, .string s, u2, .string t] 25)).heap.size ((w.alloc (.cells #[.int .i64 k, .string s, u1, .string t] 25)).alloc (.cells #[.int .i64 k, .string s, u2, .string t] 25)) w1) =>
    (show w1.cell? ⟨w.heap.size, 3, none⟩ = some (.string t) by rw [h.cell (by simp; omega)]; simp [go_sem]))
  have HX1 := Lib.hid (fun w1 (h : Below ((w.alloc (.cells #[.int .i64 k, .string s, u1, .string t] 25)).alloc (.cells #[.int .i64 k, .string s, u2, .string t] 25)).heap.size ((w.alloc (.cells #[.int .i64 k, .string s, u1, .string t] 25)).alloc (.cells #[.int .i64 k, .string s, u2, .string t] 25)) w1) =>
    (show w1.cell? ⟨w.heap.size + 1, 3, none⟩ = some (.string t) by rw [h.cell (by simp)]; simp [go_sem]))
  obtain ⟨a1, c1, rfl, -⟩ := h1
  obtain ⟨a2, c2, rfl, -⟩ := h2
  have ht : (s.toList == s.toList) = true := by simp
  have ht2 : (t.toList == t.toList) = true := by simp
  have hk : (k != k) = false := by simp
  go_enter Tryz.func52, Tryz.ntmps52
  go_wp2_with fail
  refine HC.out.mono ?_
  rintro e w1 ⟨rfl, hb1⟩
  have e0 := HX0.out w1 hb1
  have e1 := HX1.out w1 hb1
  have HB1 := Lib.hid (HB0.out.trans (hb1.mono HB0.out.size)); clear hb1
  go_wp2
  go_ret
  exact ⟨rfl, HB1.out⟩

set_option maxRecDepth 100000 in
set_option maxHeartbeats 4000000 in
theorem sameItems_same (v1 v2 : Value) (l : List It) (w : World) (h1 : RowIt w v1 l) (h2 : RowIt w v2 l) :
    Calls Tryz.prog 24 #[v1, v2] w fun e w' => e = .returned (.bool true) ∧ Below w.heap.size w w' := by
  obtain ⟨a1, c1, rfl, l1, m1, r1⟩ := h1
  obtain ⟨a2, c2, rfl, l2, m2, r2⟩ := h2
  unfold maxLen at m1 m2
  have R1 := Lib.hid r1; have R2 := Lib.hid r2
  clear r1 r2
  go_enter Tryz.func24, Tryz.ntmps24
  go_wp2
  go_loopw [5] (fun i wr => ∃ k : Nat, k ≤ l.length ∧ i = .int .i64 (k : Int) ∧ Below w.heap.size w wr) (fun i _ => l.length - (intOf i).toNat)
  case atStart => exact ⟨0, Nat.zero_le _, rfl, Below.refl _ _⟩
  case round =>
    obtain ⟨k, hk, rfl, hb⟩ := hrel
    have HB := Lib.hid hb; clear hb
    by_cases hlt : k < l.length
    · obtain ⟨b1, o1, rfl, lt1, cc1⟩ := R1.out.resolve_left (by rintro rfl; simp at hlt)
      obtain ⟨b2, o2, rfl, lt2, cc2⟩ := R2.out.resolve_left (by rintro rfl; simp at hlt)
      obtain ⟨u1, p1⟩ := cc1 k hlt
      obtain ⟨u2, p2⟩ := cc2 k hlt
      obtain ⟨d0, d1, d2, d3, x1⟩ := p1.mono lt1 HB.out
      obtain ⟨f0, f1, f2, f3, x2⟩ := p2.mono lt2 HB.out
      have X1 := Lib.hid x1; have X2 := Lib.hid x2
      clear cc1 cc2 p1 p2 x1 x2
      have bk0 : (0 : Int) ≤ (k : Int) := by omega
      have bk1 : (k : Int) < (l.length : Int) := by omega
      generalize l[k].1 = kk at d0 f0
      generalize l[k].2.1 = nk at d1 f1
      generalize l[k].2.2.1 = lk at X1 X2
      generalize l[k].2.2.2 = tk at d3 f3
      go_wp2_with fail
      go_region_with ((go_at_call 52; refine (sameItem_same _ _ _ _ _ lk _ (X1.out.mono (drewB wr)) (X2.out.mono (drewB wr))).mono ?_; rintro e w1 ⟨rfl, hb1⟩))
      all_goals
        have HB2 := Lib.hid (HB.out.trans (((drewB wr).trans hb1).mono HB.out.size))
        clear hb1
        (try go_wp2)
        go_roundw
        case rel => exact ⟨k + 1, by omega, by go_num, HB2.out⟩
        case measure => simp [intOf]; omega
    · obtain rfl : k = l.length := by omega
      go_wp2
      go_ret
      exact ⟨rfl, HB.out⟩

end Go.Proofs.YtbmobgahokehmaaGreatDoor
