/-
  spec.DrawCellValid returns a cell whose word is short.
-/
import Derived.Test.YtcnhefbbdklajaaDoorDrawExpr
namespace Go.Proofs.YtcnhefbbdklajaaDoor
open Go.RowKit
set_option linter.unusedVariables false

/-- A block of a cell, known whole. -/
def BlkC (w : World) (g : Nat) (cs : Array Value) : Prop := w.heap[g]? = some (.cells cs 26 (0, 0))
section
variable {w w' : World} {g : Nat} {cs : Array Value}
theorem BlkC.lt (h : BlkC w g cs) : g < w.heap.size := by
  rcases Nat.lt_or_ge g w.heap.size with hlt | hge
  · exact hlt
  · unfold BlkC at h; rw [Array.getElem?_eq_none hge] at h; cases h
theorem BlkC.cell (h : BlkC w g cs) (i : Nat) : w.cell? ⟨g, i, none⟩ = cs[i]? := cell_of_row w g i cs _ (0, 0) h
theorem BlkC.frozen (h : BlkC w g cs) (i : Nat) : w.frozen? ⟨g, i, none⟩ = false := by
  unfold BlkC at h
  simp [World.frozen?, h]
theorem BlkC.new (w : World) (cs : Array Value) : BlkC (w.alloc (.cells cs 26)) w.heap.size cs := heap_alloc_new w _
theorem BlkC.alloc (h : BlkC w g cs) (o : Obj) : BlkC (w.alloc o) g cs := (Below.heap_alloc w o g h.lt).trans h
theorem BlkC.grown {row : Option Nat} (h : BlkC w g cs) (hb : w.grownBy w' row) (hg : some g ≠ row) : BlkC w' g cs := (hb.block g h.lt hg).trans h
theorem BlkC.below (h : BlkC w g cs) (hb : Below w.heap.size w w') : BlkC w' g cs := (hb.block g h.lt).trans h
theorem BlkC.set_ (h : BlkC w g cs) (i : Nat) (u : Value) : BlkC (w.setCell ⟨g, i, none⟩ u) g (cs.setIfInBounds i u) := by
  unfold BlkC at h ⊢
  simp [World.setCell, Array.getElem?_modify, h]
theorem BlkC.far (h : BlkC w g cs) {f : Nat} (i : Nat) (u : Value) (hf : f ≠ g) : BlkC (w.setCell ⟨f, i, none⟩ u) g cs :=
  (Below.heap_setCell _ _ _ _ (fun e => hf e.symm)).trans h
theorem BlkC.all {k m : Int} {s : ByteArray} (h : BlkC w g #[.int .i64 k, .string s, .int .i64 m]) :
    w.cell? ⟨g, 0, none⟩ = some (.int .i64 k) ∧ w.cell? ⟨g, 1, none⟩ = some (.string s) ∧ w.cell? ⟨g, 2, none⟩ = some (.int .i64 m) ∧ w.frozen? ⟨g, 0, none⟩ = false ∧ w.frozen? ⟨g, 1, none⟩ = false ∧ w.frozen? ⟨g, 2, none⟩ = false :=
  ⟨h.cell 0, h.cell 1, h.cell 2, h.frozen 0, h.frozen 1, h.frozen 2⟩
end

theorem lit_w11 (m : Nat) (h : m < 11) : ∃ t : ByteArray, t.size ≤ 61 ∧ (#[Value.string ⟨#[]⟩, .string ⟨#[97, 46, 98]⟩, .string ⟨#[45, 49]⟩, .string ⟨#[49, 47, 51]⟩, .string ⟨#[48, 46, 49, 48]⟩, .string ⟨#[116, 114, 117, 101]⟩, .string ⟨#[43]⟩, .string ⟨#[33]⟩, .string ⟨#[61]⟩, .string ⟨#[1]⟩, .string ⟨#[97, 97, 97, 97, 97, 97, 97, 97, 97, 97, 98, 98, 98, 98, 98, 98, 98, 98, 98, 98, 99, 99, 99, 99, 99, 99, 99, 99, 99, 99, 100, 100, 100, 100, 100, 100, 100, 100, 100, 100, 101, 101, 101, 101, 101, 101, 101, 101, 101, 101, 102, 102, 102, 102, 102, 102, 102, 102, 102, 102, 103]⟩] : Array Value)[m]? = some (.string t) := by
  match m, h with
  | 0, _ => exact ⟨_, by decide, rfl⟩
  | 1, _ => exact ⟨_, by decide, rfl⟩
  | 2, _ => exact ⟨_, by decide, rfl⟩
  | 3, _ => exact ⟨_, by decide, rfl⟩
  | 4, _ => exact ⟨_, by decide, rfl⟩
  | 5, _ => exact ⟨_, by decide, rfl⟩
  | 6, _ => exact ⟨_, by decide, rfl⟩
  | 7, _ => exact ⟨_, by decide, rfl⟩
  | 8, _ => exact ⟨_, by decide, rfl⟩
  | 9, _ => exact ⟨_, by decide, rfl⟩
  | 10, _ => exact ⟨_, by decide, rfl⟩


/-- What a drawn cell is. -/
def DrawnC (w : World) (e : Ending) (w' : World) : Prop :=
  ∃ (k m : Int) (s : ByteArray), e = .returned (.agg #[.int .i64 k, .string s, .int .i64 m]) ∧ s.size ≤ 61 ∧ Below w.heap.size w w'

set_option maxRecDepth 100000 in
set_option maxHeartbeats 8000000 in
theorem drawCellValid_any (a : Option Addr) (len cap : Nat) (w : World) (h : CodeRow w a len cap) :
    Calls Tryd.prog 11 #[.slice a len cap] w (DrawnC w) := by
  go_enter Tryd.func11, Tryd.ntmps11
  go_wp2_with fail
  refine (open_codes a len cap _ (h.mono ((Below.refl _ w).alloc (Nat.le_refl _) _))).mono ?_
  rintro e w1 ⟨rfl, hr1, hb1, hs1⟩
  have RB1 := Lib.hid ((BlkC.new w #[.int .i64 0, .string ⟨#[]⟩, .int .i64 0]).below hb1)
  have HB1 := Lib.hid (((Below.refl w.heap.size w).alloc (Nat.le_refl _) (.cells #[.int .i64 0, .string ⟨#[]⟩, .int .i64 0] 26)).trans (hb1.mono (by simp)))
  have hss : (w.alloc (.cells #[.int .i64 0, .string ⟨#[]⟩, .int .i64 0] 26)).heap.size = w.heap.size + 1 := by simp
  rw [hss] at hr1 hs1
  clear hb1 h hss
  go_wp2_with fail
  refine (expr_any (w.heap.size + 1) 0 0 _ (by omega) (by omega) (by omega) hr1).mono ?_
  rintro e w2 ⟨v, l, rfl, hrow, hsh, hl60, hl1, hr2, hg2⟩
  have hl1' := hl1 (by omega)
  have RB2 := Lib.hid (RB1.out.grown hg2 (by intro e; simp only [Option.some.injEq] at e; omega))
  have HB2 := Lib.hid (HB1.out.trans (grown_below hg2 HB1.out.size (by omega)))
  clear hl1 hg2 hr1 RB1 HB1 hs1
  have HRW := Lib.hid hrow
  obtain ⟨ao, cp, rfl, q1, q2, q3⟩ := hrow.row
  unfold maxLen at q2
  have HSH := Lib.hid hsh
  clear q3 hsh hrow
  go_wp2_with fail
  refine (pick_any (w.heap.size + 1) (0 + 1000) (l.length : Int) _ (by omega) hr2).mono ?_
  rintro e w3 ⟨x, rfl, hx0, hx1, -, hr3, hg3, hs3⟩
  have hx2 := hx1 (by omega)
  obtain ⟨k, rfl⟩ := Int.eq_ofNat_of_zero_le hx0
  have hkl : k < l.length := by omega
  have RB3 := Lib.hid (RB2.out.grown hg3 (by intro e; simp only [Option.some.injEq] at e; omega))
  have HB3 := Lib.hid (HB2.out.trans (grown_below hg3 HB2.out.size (by omega)))
  obtain ⟨ao', cp', hv, -, -, hq⟩ := HRW.out w3 hg3
  simp only [Value.slice.injEq] at hv
  obtain ⟨rfl, -, rfl⟩ := hv
  obtain ⟨b, off, rfl, hbl, hcc⟩ := hq.resolve_left (by rintro rfl; simp at hkl)
  obtain ⟨c0, c1, c2⟩ := hcc k hkl
  have hsk : l[k].2.1.size ≤ 60 := HSH.out _ (List.getElem_mem hkl)
  generalize l[k].1 = kk at c0
  generalize l[k].2.1 = ss at c1 hsk
  generalize l[k].2.2 = mm at c2
  have CB3 := Lib.hid (BlkC.new w3 #[.int .i64 kk, .string ss, .int .i64 mm])
  have RB3' := Lib.hid (RB3.out.alloc (.cells #[.int .i64 kk, .string ss, .int .i64 mm] 26))
  have HB3' := Lib.hid (HB3.out.alloc HB3.out.size (.cells #[.int .i64 kk, .string ss, .int .i64 mm] 26))
  have hr3' := hr3.kept (World.grownBy_alloc w3 (.cells #[.int .i64 kk, .string ss, .int .i64 mm] 26) none) (by simp)
  have hcR : w.heap.size + 1 < w3.heap.size := hr3.lt
  clear hx1 hg3 hs3 hr2 RB2 HB2 hcc HRW hr3 RB3 HB3
  go_wp2_with fail
  refine (odd_any (w.heap.size + 1) (0 + 1000 + 1) 2 _ (by omega) (by omega) (by omega) hr3').mono ?_
  rintro e w4 ⟨bo, rfl, -, hr4, hg4, hs4⟩
  have CB4 := Lib.hid (CB3.out.grown hg4 (by intro e; simp only [Option.some.injEq] at e; omega))
  have RB4 := Lib.hid (RB3'.out.grown hg4 (by intro e; simp only [Option.some.injEq] at e; omega))
  have HB4 := Lib.hid (HB3'.out.trans (grown_below hg4 HB3'.out.size (by omega)))
  clear hg4 hs4 hr3' CB3 RB3' HB3' c0 c1 c2 hbl
  have n1 : ¬ w3.heap.size = w.heap.size := by omega
  have n2 : ¬ w.heap.size = w3.heap.size := by omega
  cases bo with
  | false =>
    obtain ⟨c0, c1, c2, f0, f1, f2⟩ := CB4.out.all
    obtain ⟨r0, r1, r2, z0, z1, z2⟩ := RB4.out.all
    have HEND := Lib.hid (((HB4.out.setCell (p := ⟨w.heap.size, 0, none⟩) (Nat.le_refl _) (.int .i64 kk)).setCell (p := ⟨w.heap.size, 1, none⟩) (Nat.le_refl _) (.string ss)).setCell (p := ⟨w.heap.size, 2, none⟩) (Nat.le_refl _) (.int .i64 mm))
    go_wp2
    exact bodyPost_ret (v := .agg #[.int .i64 kk, .string ss, .int .i64 mm]) (by simp [results, Tryd.results11, go_sem, r0, r1, r2]) rfl ⟨kk, mm, ss, rfl, by omega, HEND.out⟩
  | true =>
    go_wp2_with fail
    refine (pick_any (w.heap.size + 1) (0 + 1000 + 1 + 1) 3 _ (by omega) hr4).mono ?_
    rintro e w5 ⟨y, rfl, hy0, hy1, -, hr5, hg5, hs5⟩
    have hy2 := hy1 (by omega)
    obtain ⟨y1, rfl⟩ := Int.eq_ofNat_of_zero_le hy0
    have CB5 := Lib.hid (CB4.out.grown hg5 (by intro e; simp only [Option.some.injEq] at e; omega))
    have RB5 := Lib.hid (RB4.out.grown hg5 (by intro e; simp only [Option.some.injEq] at e; omega))
    have HB5 := Lib.hid (HB4.out.trans (grown_below hg5 HB4.out.size (by omega)))
    clear hg5 hs5 hr4 CB4 RB4 HB4 hy1
    have hy3 : y1 = 0 ∨ y1 = 1 ∨ y1 = 2 := by omega
    clear hy2
    rcases hy3 with rfl | rfl | rfl

    · go_wp2_with fail
      refine (pick_any (w.heap.size + 1) (0 + 1000 + 1 + 1 + 1) 11 _ (by omega) hr5).mono ?_
      rintro e w6 ⟨z, rfl, hz0, hz1, -, hr6, hg6, hs6⟩
      have hz2 := hz1 (by omega)
      obtain ⟨z1, rfl⟩ := Int.eq_ofNat_of_zero_le hz0
      have CB6 := Lib.hid (BlkC.grown CB5.out hg6 (by intro e; simp only [Option.some.injEq] at e; omega))
      have RB6 := Lib.hid (BlkC.grown RB5.out hg6 (by intro e; simp only [Option.some.injEq] at e; omega))
      have HB6 := Lib.hid (Below.trans HB5.out (grown_below hg6 (Below.size HB5.out) (by omega)))
      have hCw : w.heap.size ≤ w3.heap.size := by omega
      clear hg6 hs6 hz1 CB5 RB5 HB5
      obtain ⟨c0, c1, c2, f0, f1, f2⟩ := CB6.out.all
      obtain ⟨r0, r1, r2, y0, y1, y2⟩ := RB6.out.all
      have HEND := Lib.hid ((((HB6.out.setCell (p := ⟨w3.heap.size, 0, none⟩) hCw (.int .i64 (z1 : Int))).setCell (p := ⟨w.heap.size, 0, none⟩) (Nat.le_refl _) (.int .i64 (z1 : Int))).setCell (p := ⟨w.heap.size, 1, none⟩) (Nat.le_refl _) (.string ss)).setCell (p := ⟨w.heap.size, 2, none⟩) (Nat.le_refl _) (.int .i64 mm))
      go_wp2
      exact bodyPost_ret (v := .agg #[.int .i64 (z1 : Int), .string ss, .int .i64 mm]) (by simp [results, Tryd.results11, go_sem, r0, r1, r2]) rfl ⟨_, _, _, rfl, by omega, HEND.out⟩
    · have hr5' := hr5.kept (World.grownBy_alloc w5 (.cells #[.string ⟨#[]⟩, .string ⟨#[97, 46, 98]⟩, .string ⟨#[45, 49]⟩, .string ⟨#[49, 47, 51]⟩, .string ⟨#[48, 46, 49, 48]⟩, .string ⟨#[116, 114, 117, 101]⟩, .string ⟨#[43]⟩, .string ⟨#[33]⟩, .string ⟨#[61]⟩, .string ⟨#[1]⟩, .string ⟨#[97, 97, 97, 97, 97, 97, 97, 97, 97, 97, 98, 98, 98, 98, 98, 98, 98, 98, 98, 98, 99, 99, 99, 99, 99, 99, 99, 99, 99, 99, 100, 100, 100, 100, 100, 100, 100, 100, 100, 100, 101, 101, 101, 101, 101, 101, 101, 101, 101, 101, 102, 102, 102, 102, 102, 102, 102, 102, 102, 102, 103]⟩] 9) none) (by simp)
      go_wp2_with fail
      refine (pick_any (w.heap.size + 1) (0 + 1000 + 1 + 1 + 1) 11 _ (by omega) hr5').mono ?_
      rintro e w6 ⟨z, rfl, hz0, hz1, -, hr6, hg6, hs6⟩
      have hz2 := hz1 (by omega)
      obtain ⟨z1, rfl⟩ := Int.eq_ofNat_of_zero_le hz0
      obtain ⟨t, ht, hlit⟩ := lit_w11 z1 (by omega)
      have hcell9 := lit_cell hr5.lt hg6 hlit
      have CB6 := Lib.hid (BlkC.grown (CB5.out.alloc _) hg6 (by intro e; simp only [Option.some.injEq] at e; omega))
      have RB6 := Lib.hid (BlkC.grown (RB5.out.alloc _) hg6 (by intro e; simp only [Option.some.injEq] at e; omega))
      have HB6 := Lib.hid (Below.trans (HB5.out.alloc HB5.out.size _) (grown_below hg6 (Below.size (HB5.out.alloc HB5.out.size _)) (by omega)))
      have hCw : w.heap.size ≤ w3.heap.size := by omega
      clear hg6 hs6 hz1 CB5 RB5 HB5 hlit
      obtain ⟨c0, c1, c2, f0, f1, f2⟩ := CB6.out.all
      obtain ⟨r0, r1, r2, y0, y1, y2⟩ := RB6.out.all
      have HEND := Lib.hid ((((HB6.out.setCell (p := ⟨w3.heap.size, 1, none⟩) hCw (.string t)).setCell (p := ⟨w.heap.size, 0, none⟩) (Nat.le_refl _) (.int .i64 kk)).setCell (p := ⟨w.heap.size, 1, none⟩) (Nat.le_refl _) (.string t)).setCell (p := ⟨w.heap.size, 2, none⟩) (Nat.le_refl _) (.int .i64 mm))
      go_wp2
      exact bodyPost_ret (v := .agg #[.int .i64 kk, .string t, .int .i64 mm]) (by simp [results, Tryd.results11, go_sem, r0, r1, r2]) rfl ⟨_, _, _, rfl, by omega, HEND.out⟩
    · go_wp2_with fail
      refine (pick_any (w.heap.size + 1) (0 + 1000 + 1 + 1 + 1) 11 _ (by omega) hr5).mono ?_
      rintro e w6 ⟨z, rfl, hz0, hz1, -, hr6, hg6, hs6⟩
      have hz2 := hz1 (by omega)
      obtain ⟨z1, rfl⟩ := Int.eq_ofNat_of_zero_le hz0
      have CB6 := Lib.hid (BlkC.grown CB5.out hg6 (by intro e; simp only [Option.some.injEq] at e; omega))
      have RB6 := Lib.hid (BlkC.grown RB5.out hg6 (by intro e; simp only [Option.some.injEq] at e; omega))
      have HB6 := Lib.hid (Below.trans HB5.out (grown_below hg6 (Below.size HB5.out) (by omega)))
      have hCw : w.heap.size ≤ w3.heap.size := by omega
      clear hg6 hs6 hz1 CB5 RB5 HB5
      obtain ⟨c0, c1, c2, f0, f1, f2⟩ := CB6.out.all
      obtain ⟨r0, r1, r2, y0, y1, y2⟩ := RB6.out.all
      have HEND := Lib.hid ((((HB6.out.setCell (p := ⟨w3.heap.size, 2, none⟩) hCw (.int .i64 ((z1 : Int) - 1))).setCell (p := ⟨w.heap.size, 0, none⟩) (Nat.le_refl _) (.int .i64 kk)).setCell (p := ⟨w.heap.size, 1, none⟩) (Nat.le_refl _) (.string ss)).setCell (p := ⟨w.heap.size, 2, none⟩) (Nat.le_refl _) (.int .i64 ((z1 : Int) - 1)))
      go_wp2
      exact bodyPost_ret (v := .agg #[.int .i64 kk, .string ss, .int .i64 ((z1 : Int) - 1)]) (by simp [results, Tryd.results11, go_sem, r0, r1, r2]) rfl ⟨_, _, _, rfl, by omega, HEND.out⟩

end Go.Proofs.YtcnhefbbdklajaaDoor
