/-
  Drawn fractions: spec.l20Fraction.
-/
import Derived.Test.YtpgbfagacpondaaDoorOpen
import Derived.Test.YtpgbfagacpondaaDoorFrac
import Derived.Deep.RegionWith
import Derived.Deep.DeepCutAuto
import Derived.RegionTactic
import Derived.BigRegion
namespace Go.Proofs.YtpgbfagacpondaaDoor
open Go.RowKit
set_option linter.unusedVariables false

theorem Rdm.dr {w : World} {R p : Nat} (h : Rdm w R p) : Rdm w.drew R p := by
  obtain ⟨q, hq, h⟩ := h; exact ⟨q, hq, h.drewN 1⟩
theorem Rdm.al {w : World} {R p : Nat} (h : Rdm w R p) (o : Obj) : Rdm (w.alloc o) R p := h.kept (World.grownBy_alloc w o none) (by simp)

theorem lit6a (m : Nat) (h : m < 6) : ∃ k : Nat, k < 4 ∧ (#[Value.int .i64 0, .int .i64 0, .int .i64 0, .int .i64 1, .int .i64 2, .int .i64 3] : Array Value)[m]? = some (.int .i64 (k : Int)) := by
  match m, h with
  | 0, _ => exact ⟨0, by omega, rfl⟩
  | 1, _ => exact ⟨0, by omega, rfl⟩
  | 2, _ => exact ⟨0, by omega, rfl⟩
  | 3, _ => exact ⟨1, by omega, rfl⟩
  | 4, _ => exact ⟨2, by omega, rfl⟩
  | 5, _ => exact ⟨3, by omega, rfl⟩
theorem lit4a (a b : Int) (ha : -12 ≤ a ∧ a ≤ 12) (hb : 0 ≤ b ∧ b ≤ 1000000) (m : Nat) (h : m < 4) : ∃ v : Int, -1000000000 ≤ v ∧ v ≤ 1000000000 ∧ (#[Value.int .i64 a, .int .i64 b, .int .i64 1000000000, .int .i64 (-1000000000)] : Array Value)[m]? = some (.int .i64 v) := by
  match m, h with
  | 0, _ => exact ⟨_, by omega, by omega, rfl⟩
  | 1, _ => exact ⟨_, by omega, by omega, rfl⟩
  | 2, _ => exact ⟨_, by omega, by omega, rfl⟩
  | 3, _ => exact ⟨_, by omega, by omega, rfl⟩
theorem lit6b (m : Nat) (h : m < 6) : ∃ v : Int, 1 ≤ v ∧ v ≤ 1000000 ∧ (#[Value.int .i64 2, .int .i64 4, .int .i64 10, .int .i64 100, .int .i64 1000, .int .i64 1000000] : Array Value)[m]? = some (.int .i64 v) := by
  match m, h with
  | 0, _ => exact ⟨_, by omega, by omega, rfl⟩
  | 1, _ => exact ⟨_, by omega, by omega, rfl⟩
  | 2, _ => exact ⟨_, by omega, by omega, rfl⟩
  | 3, _ => exact ⟨_, by omega, by omega, rfl⟩
  | 4, _ => exact ⟨_, by omega, by omega, rfl⟩
  | 5, _ => exact ⟨_, by omega, by omega, rfl⟩

theorem lit4b (m v : Int) (hm0 : 0 ≤ m) (hm1 : m < 9) (hv0 : 1 ≤ v) (hv1 : v ≤ 1000000) (j : Nat) (h : j < 4) : ∃ x : Int, 1 ≤ x ∧ x ≤ 1000000 ∧ (#[Value.int .i64 1, .int .i64 (IntKind.i64.wrap (1 + m)), .int .i64 v, .int .i64 3] : Array Value)[j]? = some (.int .i64 x) := by
  rw [show IntKind.i64.wrap (1 + m) = 1 + m from IntWalk.i64_in _ (by omega)]
  match j, h with
  | 0, _ => exact ⟨_, by omega, by omega, rfl⟩
  | 1, _ => exact ⟨_, by omega, by omega, rfl⟩
  | 2, _ => exact ⟨_, by omega, by omega, rfl⟩
  | 3, _ => exact ⟨_, by omega, by omega, rfl⟩
/-- The six bottoms lie in block b. -/
def Row6 (w : World) (b : Nat) : Prop := ∀ (m : Nat) (v : Value), (#[Value.int .i64 2, .int .i64 4, .int .i64 10, .int .i64 100, .int .i64 1000, .int .i64 1000000] : Array Value)[m]? = some v → w.cell? ⟨b, m, none⟩ = some v
theorem row6_new {w w' : World} {R : Nat} {t : TypeId} (hR : R < w.heap.size) (hg : (w.alloc (.cells #[.int .i64 2, .int .i64 4, .int .i64 10, .int .i64 100, .int .i64 1000, .int .i64 1000000] t)).grownBy w' (some R)) : Row6 w' w.heap.size := fun _ _ hv => lit_cell hR hg hv
theorem row6_newd {w w' : World} {R : Nat} {t : TypeId} (hR : R < w.heap.size) (hg : (w.alloc (.cells #[.int .i64 2, .int .i64 4, .int .i64 10, .int .i64 100, .int .i64 1000, .int .i64 1000000] t)).drew.grownBy w' (some R)) : Row6 w' w.heap.size :=
  fun _ _ hv => lit_cell hR ⟨hg.os, hg.tape, hg.output, hg.size, hg.block⟩ hv
theorem cell_keep {w w' : World} {R b o : Nat} {v : Value} (h : w.cell? ⟨b, o, none⟩ = some v) (hR : R < b) (hg : w.grownBy w' (some R)) : w'.cell? ⟨b, o, none⟩ = some v :=
  hg.cell h (by intro e; simp only [Option.some.injEq] at e; omega)
theorem World.alloc_size (w : World) (o : Obj) : (w.alloc o).heap.size = w.heap.size + 1 := by simp
theorem alloc_lt {w : World} {o : Obj} {R : Nat} (h : R < w.heap.size) : R < (w.alloc o).heap.size := by simp; omega
theorem grown_far {w w' : World} {R b o : Nat} (hb : b < w.heap.size) (hR : R ≠ b) (hg : w.grownBy w' (some R)) : w'.cell? ⟨b, o, none⟩ = w.cell? ⟨b, o, none⟩ ∧ w'.frozen? ⟨b, o, none⟩ = w.frozen? ⟨b, o, none⟩ :=
  ⟨World.cell?_of_block (w := w) (hg.block b hb (by intro e; simp only [Option.some.injEq] at e; omega)), World.frozen?_of_block (w := w) (hg.block b hb (by intro e; simp only [Option.some.injEq] at e; omega))⟩
theorem grown_set {w w' : World} {R b o : Nat} {u : Value} (hb : w.heap.size ≤ b) (hg : w.grownBy w' (some R)) : w.grownBy (w'.setCell ⟨b, o, none⟩ u) (some R) :=
  ⟨hg.os, hg.tape, hg.output, by simpa [World.setCell] using hg.size, fun i hi hn => by rw [Below.heap_setCell _ _ _ _ (by show i ≠ b; omega)]; exact hg.block i hi hn⟩
theorem Rdm.set {w : World} {R p b o : Nat} {u : Value} (h : Rdm w R p) (hb : R < b) : Rdm (w.setCell ⟨b, o, none⟩ u) R p :=
  h.kept (grown_setCell (World.grownBy.refl w (some b)) o u) (by intro k hk; simp only [Option.some.injEq] at hk; omega)
/-- Two blocks of a fraction each: N, the answer, and B. -/
def Two (w' : World) (N B : Nat) (x y : Int) : Prop :=
  N < B ∧ B < w'.heap.size ∧ w'.cell? ⟨N, 0, none⟩ = some (.int .i64 0) ∧ w'.cell? ⟨N, 1, none⟩ = some (.int .i64 0) ∧ w'.frozen? ⟨N, 0, none⟩ = false ∧ w'.frozen? ⟨N, 1, none⟩ = false ∧
  w'.cell? ⟨B, 0, none⟩ = some (.int .i64 x) ∧ w'.cell? ⟨B, 1, none⟩ = some (.int .i64 y) ∧ w'.frozen? ⟨B, 0, none⟩ = false ∧ w'.frozen? ⟨B, 1, none⟩ = false
theorem Two.keep {w w' : World} {N B R : Nat} {x y : Int} (h : Two w N B x y) (hR : R < N) (hg : w.grownBy w' (some R)) : Two w' N B x y := by
  obtain ⟨h0, h1, h2, h3, h4, h5, h6, h7, h8, h9⟩ := h
  have hs := hg.size
  refine ⟨h0, by omega, ?_, ?_, ?_, ?_, ?_, ?_, ?_, ?_⟩
  · rw [(grown_far (by omega) (by omega) hg).1]; exact h2
  · rw [(grown_far (by omega) (by omega) hg).1]; exact h3
  · rw [(grown_far (by omega) (by omega) hg).2]; exact h4
  · rw [(grown_far (by omega) (by omega) hg).2]; exact h5
  · rw [(grown_far (by omega) (by omega) hg).1]; exact h6
  · rw [(grown_far (by omega) (by omega) hg).1]; exact h7
  · rw [(grown_far (by omega) (by omega) hg).2]; exact h8
  · rw [(grown_far (by omega) (by omega) hg).2]; exact h9
/-- What a drawn fraction is. -/
def Fracs (R p : Nat) (w : World) (e : Ending) (w' : World) : Prop :=
  ∃ t b : Int, e = .returned (.agg #[.int .i64 t, .int .i64 b]) ∧ Rdm w' R (p + 8) ∧ w.grownBy w' (some R)
/-- The bottom has been drawn. -/
def Bottoms (w : World) (R p : Nat) (s6 : Value) (wx : World) : Prop :=
  ∃ b : Int, s6 = .int .i64 b ∧ 1 ≤ b ∧ b ≤ 1000000 ∧ Rdm wx R (p + 6) ∧ w.grownBy wx (some R)

set_option maxRecDepth 100000 in
set_option maxHeartbeats 4000000 in
theorem fraction_any (R p : Nat) (n : Int) (w : World) (hp : p < 1073741824) (hn0 : 0 ≤ n) (hn1 : n ≤ 1000) (h : Rdm w R p) :
    Calls Tryd.prog 20 #[.pointer (some ⟨R, 0, none⟩), .int .i64 n] w (Fracs R p w) := by
  have hR := h.lt
  go_enter Tryd.func20, Tryd.ntmps20
  go_wp2_with fail
  refine (pick_any R p 24 _ (by omega) (h.al _)).mono ?_
  rintro e w1 ⟨m1, rfl, hm10, hm11, -, hr1, hg1, hs1⟩
  have hm1 := hm11 (by omega)
  have HG1 := Lib.hid hg1; have HS1 := Lib.hid hs1
  clear hm11 hg1 hs1 h
  go_wp2_with fail
  refine (pick_any R (p + 1) 256 _ (by omega) hr1).mono ?_
  rintro e w2 ⟨m2, rfl, hm20, hm21, -, hr2, hg2, hs2⟩
  have hm2 := hm21 (by omega)
  have HG2 := Lib.hid (grown_trans HG1.out hg2); have HS2 := Lib.hid (hs2.trans HS1.out)
  clear hm21 hg2 hs2 hr1 HG1 HS1
  go_wp2_with fail
  refine (pick_any R (p + 2) 6 _ (by omega) ((hr2.al _).al _)).mono ?_
  rintro e w3 ⟨m3, rfl, hm30, hm31, -, hr3, hg3, hs3⟩
  have hm3 := hm31 (by omega)
  obtain ⟨j3, rfl⟩ := Int.eq_ofNat_of_zero_le hm30
  obtain ⟨k3, hk3, hlit⟩ := lit6a j3 (by omega)
  obtain ⟨v3, hv0, hv1, hlit2⟩ := lit4a (m1 - 12) (m2 * 999) (by omega) (by omega) k3 hk3
  have hR2 := hr2.lt
  have hcell : w3.cell? ⟨w2.heap.size + 1, j3, none⟩ = some (.int .i64 (k3 : Int)) := by
    have hq := lit_cell (w := w2.alloc (.cells #[.int .i64 (m1 - 12), .int .i64 (m2 * 999), .int .i64 1000000000, .int .i64 (-1000000000)] 3)) (by simp; omega) hg3 hlit
    simpa using hq
  have hcell2 : w3.cell? ⟨w2.heap.size, k3, none⟩ = some (.int .i64 v3) := by
    refine hg3.cell ?_ (by intro e; simp only [Option.some.injEq] at e; omega)
    rw [World.cell?_of_block (w := w2.alloc (.cells #[.int .i64 (m1 - 12), .int .i64 (m2 * 999), .int .i64 1000000000, .int .i64 (-1000000000)] 3)) (Below.heap_alloc _ _ _ (by simp))]
    simp only [World.cell?, heap_alloc_new]
    simpa using hlit2
  have HG3 := Lib.hid (grown_trans (grown_alloc (grown_alloc HG2.out _) _) hg3)
  clear hm31 hg3 hs3 hlit hlit2 HG2 hr2
  go_upto_region 2 with fail
  go_cut [6] (Bottoms (w.alloc (.cells #[.int .i64 0, .int .i64 0] 25)) R p)
  case first =>
    go_region_with (first
      | (go_at_call 31; ((with_reducible refine (pick_any R (p + 3) 9 _ (by omega) ?_).mono ?_); (focus (first | exact hr3 | exact hr3.dr | exact hr3.al _ | exact (hr3.al _).dr)); rintro e w4 ⟨m4, rfl, hm40, hm41, -, hr4, hg4, hs4⟩; have hm4 := hm41 (by omega); clear hm41; have HG4 : Hid (World.grownBy (w.alloc (.cells #[.int .i64 0, .int .i64 0] 25)) w4 (some R)) := (by first | exact grown_trans HG3.out hg4 | exact grown_trans (grown_drew HG3.out) hg4 | exact grown_trans (grown_alloc HG3.out _) hg4 | exact grown_trans (grown_drew (grown_alloc HG3.out _)) hg4 | exact grown_trans (grown_alloc (grown_alloc HG3.out _) _) hg4); (first | (have Q4 := row6_new hr3.lt hg4) | (have Q4 := row6_newd hr3.lt hg4) | skip); clear hs4))
      | (go_at_call 31; ((with_reducible refine (pick_any R (p + 4) 6 _ (by omega) ?_).mono ?_); (focus (first | exact hr4 | exact hr4.al _)); rintro e w5 ⟨m5, rfl, hm50, hm51, -, hr5, hg5, hs5⟩; have hm5 := hm51 (by omega); clear hm51; have HG5 : Hid (World.grownBy (w.alloc (.cells #[.int .i64 0, .int .i64 0] 25)) w5 (some R)) := (by first | exact grown_trans HG4.out hg5 | exact grown_trans (grown_drew HG4.out) hg5 | exact grown_trans (grown_alloc HG4.out _) hg5 | exact grown_trans (grown_drew (grown_alloc HG4.out _)) hg5 | exact grown_trans (grown_alloc (grown_alloc HG4.out _) _) hg5); obtain ⟨j5, hj5⟩ := Int.eq_ofNat_of_zero_le hm50; subst hj5; obtain ⟨v5, v50, v51, hl5⟩ := lit6b j5 (by omega); (first | (have c5 := cell_keep (Q4 _ _ hl5) hr3.lt hg5) | (have c5 := lit_cell hr4.lt hg5 hl5) | skip); clear hs5))
      | (go_at_call 31; ((with_reducible refine (pick_any R (p + 5) 4 _ (by omega) ?_).mono ?_); (focus (first | exact hr5 | exact hr5.al _ | exact (hr5.al _).al _)); rintro e w6 ⟨m6, rfl, hm60, hm61, -, hr6, hg6, hs6⟩; have hm6 := hm61 (by omega); clear hm61; have HG6 : Hid (World.grownBy (w.alloc (.cells #[.int .i64 0, .int .i64 0] 25)) w6 (some R)) := (by first | exact grown_trans HG5.out hg6 | exact grown_trans (grown_drew HG5.out) hg6 | exact grown_trans (grown_alloc HG5.out _) hg6 | exact grown_trans (grown_drew (grown_alloc HG5.out _)) hg6 | exact grown_trans (grown_alloc (grown_alloc HG5.out _) _) hg6); obtain ⟨j6, hj6⟩ := Int.eq_ofNat_of_zero_le hm60; subst hj6; obtain ⟨v6, v60, v61, hl6⟩ := lit4b m4 v5 hm40 hm4 v50 v51 j6 (by omega); (first | (have c6 := cell_keep c5 hr3.lt hg6) | (have c6 := cell_keep c5 hr4.lt hg6) | (have c6 := lit_cell hr5.lt hg6 hl5) | skip); (first | (have d6 := lit_cell hr5.lt hg6 hl6) | (have d6 := lit_cell (alloc_lt hr5.lt) hg6 hl6; simp only [World.alloc_size] at d6) | skip); clear hs6)))
    all_goals (go_wp2_with fail; go_meet)
    all_goals first
      | exact ⟨v6, rfl, v60, v61, hr6, HG6.out⟩
      | exact ⟨v6, rfl, v60, v61, hr6.al _, grown_alloc HG6.out _⟩
      | exact ⟨v6, rfl, v60, v61, (hr6.al _).al _, grown_alloc (grown_alloc HG6.out _) _⟩
  case rest =>
    obtain ⟨b, rfl, hb0, hb1, hr, hg⟩ := hcut
    have HG := Lib.hid (grown_trans (World.grownBy_alloc w _ (some R)) hg)
    have hsz := hg.size
    have n0 : wc.cell? ⟨w.heap.size, 0, none⟩ = some (.int .i64 0) := by rw [(grown_far (by simp) (by omega) hg).1]; simp [go_sem]
    have n1 : wc.cell? ⟨w.heap.size, 1, none⟩ = some (.int .i64 0) := by rw [(grown_far (by simp) (by omega) hg).1]; simp [go_sem]
    have n2 : wc.frozen? ⟨w.heap.size, 0, none⟩ = false := by rw [(grown_far (by simp) (by omega) hg).2]; simp [go_sem]
    have n3 : wc.frozen? ⟨w.heap.size, 1, none⟩ = false := by rw [(grown_far (by simp) (by omega) hg).2]; simp [go_sem]
    have hN : w.heap.size < wc.heap.size := by simp at hsz; omega
    clear hg hsz
    go_wp2_with fail
    refine (gcd_spec v3 b _ (by omega) (by omega)).mono ?_
    rintro e w' ⟨rfl, rfl⟩
    have hgp := gcd_pos' v3 b hb0
    have hgl : Int.gcd v3 b ≤ b.natAbs := Int.gcd_le_natAbs_right _ (by omega)
    generalize Int.gcd v3 b = g at hgp hgl ⊢
    have hg0 : ((g : Int) == 0) = false := by simp; omega
    have t1 : (v3.tdiv g).natAbs ≤ v3.natAbs := by rw [Int.natAbs_tdiv]; exact Nat.div_le_self _ _
    have t2 : (b.tdiv g).natAbs ≤ b.natAbs := by rw [Int.natAbs_tdiv]; exact Nat.div_le_self _ _
    go_wp2
    go_region
    go_wp2_with fail
    refine (odd_any R (p + 6) n _ (by omega) (by omega) (by omega) (hr.al _).dr).mono ?_
    rintro e w7 ⟨od, rfl, -, hr7, hg7, hs7⟩
    generalize v3.tdiv g = x at *
    generalize b.tdiv g = y at *
    have hT : Two w7 w.heap.size wc.heap.size x y := by
      refine Two.keep ?_ hR hg7
      refine ⟨hN, by simp, ?_, ?_, ?_, ?_, by simp [go_sem], by simp [go_sem], by simp [go_sem], by simp [go_sem]⟩
      · simpa [go_sem, hN, Nat.ne_of_lt hN] using n0
      · simpa [go_sem, hN, Nat.ne_of_lt hN] using n1
      · simpa [go_sem, hN, Nat.ne_of_lt hN] using n2
      · simpa [go_sem, hN, Nat.ne_of_lt hN] using n3
    have HG7 := Lib.hid (grown_trans (grown_drew (grown_alloc HG.out _)) hg7)
    have HT := Lib.hid hT
    clear hg7 hs7 hT n0 n1 n2 n3 HG t1 t2
    cases od with
    | false =>
      obtain ⟨-, z1, z2, z3, z4, z5, z6, z7, z8, z9⟩ := HT.out
      go_wp2
      exact bodyPost_ret (v := .agg #[.int .i64 x, .int .i64 y]) (by simp [results, Tryd.results20, go_sem, z2, z3]) rfl ⟨x, y, rfl, ((hr7.mono (by omega)).set hR).set hR, grown_set (Nat.le_refl _) (grown_set (Nat.le_refl _) HG7.out)⟩
    | true =>
      go_wp2_with fail
      refine (pick_any R (p + 7) 6 _ (by omega) ((hr7.mono (by omega)).al _)).mono ?_
      rintro e w8 ⟨m8, rfl, hm80, hm81, -, hr8, hg8, hs8⟩
      have hm8 := hm81 (by omega)
      obtain ⟨j8, rfl⟩ := Int.eq_ofNat_of_zero_le hm80
      have HT8 := Lib.hid (HT.out.keep hR (grown_trans (World.grownBy_alloc _ _ (some R)) hg8))
      have HG8 := Lib.hid (grown_trans (grown_alloc HG7.out _) hg8)
      have hR7 := hr7.lt
      have ne1 : w.heap.size ≠ wc.heap.size := by omega
      have ne2 : wc.heap.size ≠ w.heap.size := by omega
      have hj : j8 = 0 ∨ j8 = 1 ∨ j8 = 2 ∨ j8 = 3 ∨ j8 = 4 ∨ j8 = 5 := by omega
      clear hm81 hs8 HT HG7 hr7
      rcases hj with rfl | rfl | rfl | rfl | rfl | rfl
      · have c0 := lit_cell (m := 0) hR7 hg8 rfl
        have c1 := lit_cell (m := 1) hR7 hg8 rfl
        clear hg8
        obtain ⟨-, z1, z2, z3, z4, z5, z6, z7, z8, z9⟩ := HT8.out
        go_wp2
        exact bodyPost_ret (v := .agg #[.int .i64 2, .int .i64 4]) (by simp [results, Tryd.results20, go_sem, z2, z3]) rfl ⟨2, 4, rfl, ((((hr8.mono (by omega)).set (by omega)).set (by omega)).set hR).set hR, grown_set (Nat.le_refl _) (grown_set (Nat.le_refl _) (grown_set (by omega) (grown_set (by omega) HG8.out)))⟩
      · have c0 := lit_cell (m := 2) hR7 hg8 rfl
        have c1 := lit_cell (m := 3) hR7 hg8 rfl
        clear hg8
        obtain ⟨-, z1, z2, z3, z4, z5, z6, z7, z8, z9⟩ := HT8.out
        go_wp2
        exact bodyPost_ret (v := .agg #[.int .i64 1, .int .i64 0]) (by simp [results, Tryd.results20, go_sem, z2, z3]) rfl ⟨1, 0, rfl, ((((hr8.mono (by omega)).set (by omega)).set (by omega)).set hR).set hR, grown_set (Nat.le_refl _) (grown_set (Nat.le_refl _) (grown_set (by omega) (grown_set (by omega) HG8.out)))⟩
      · have c0 := lit_cell (m := 4) hR7 hg8 rfl
        have c1 := lit_cell (m := 5) hR7 hg8 rfl
        clear hg8
        obtain ⟨-, z1, z2, z3, z4, z5, z6, z7, z8, z9⟩ := HT8.out
        go_wp2
        exact bodyPost_ret (v := .agg #[.int .i64 1000000001, .int .i64 1]) (by simp [results, Tryd.results20, go_sem, z2, z3]) rfl ⟨1000000001, 1, rfl, ((((hr8.mono (by omega)).set (by omega)).set (by omega)).set hR).set hR, grown_set (Nat.le_refl _) (grown_set (Nat.le_refl _) (grown_set (by omega) (grown_set (by omega) HG8.out)))⟩
      · have c0 := lit_cell (m := 6) hR7 hg8 rfl
        have c1 := lit_cell (m := 7) hR7 hg8 rfl
        clear hg8
        obtain ⟨-, z1, z2, z3, z4, z5, z6, z7, z8, z9⟩ := HT8.out
        go_wp2
        exact bodyPost_ret (v := .agg #[.int .i64 1, .int .i64 1000001]) (by simp [results, Tryd.results20, go_sem, z2, z3]) rfl ⟨1, 1000001, rfl, ((((hr8.mono (by omega)).set (by omega)).set (by omega)).set hR).set hR, grown_set (Nat.le_refl _) (grown_set (Nat.le_refl _) (grown_set (by omega) (grown_set (by omega) HG8.out)))⟩
      · have c0 := lit_cell (m := 8) hR7 hg8 rfl
        have c1 := lit_cell (m := 9) hR7 hg8 rfl
        clear hg8
        obtain ⟨-, z1, z2, z3, z4, z5, z6, z7, z8, z9⟩ := HT8.out
        go_wp2
        exact bodyPost_ret (v := .agg #[.int .i64 1, .int .i64 (-1)]) (by simp [results, Tryd.results20, go_sem, z2, z3]) rfl ⟨1, (-1), rfl, ((((hr8.mono (by omega)).set (by omega)).set (by omega)).set hR).set hR, grown_set (Nat.le_refl _) (grown_set (Nat.le_refl _) (grown_set (by omega) (grown_set (by omega) HG8.out)))⟩
      · have c0 := lit_cell (m := 10) hR7 hg8 rfl
        have c1 := lit_cell (m := 11) hR7 hg8 rfl
        clear hg8
        obtain ⟨-, z1, z2, z3, z4, z5, z6, z7, z8, z9⟩ := HT8.out
        go_wp2
        exact bodyPost_ret (v := .agg #[.int .i64 0, .int .i64 0]) (by simp [results, Tryd.results20, go_sem, z2, z3]) rfl ⟨0, 0, rfl, ((((hr8.mono (by omega)).set (by omega)).set (by omega)).set hR).set hR, grown_set (Nat.le_refl _) (grown_set (Nat.le_refl _) (grown_set (by omega) (grown_set (by omega) HG8.out)))⟩

end Go.Proofs.YtpgbfagacpondaaDoor
