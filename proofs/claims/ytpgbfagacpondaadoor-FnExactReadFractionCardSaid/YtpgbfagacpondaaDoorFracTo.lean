/-
  laws.toFraction, laws.eqFraction.
-/
import Derived.Test.YtpgbfagacpondaaDoorFracHeld
namespace Go.Proofs.YtpgbfagacpondaaDoor
open Go.RowKit
set_option linter.unusedVariables false

set_option maxHeartbeats 1000000 in
theorem toF (t b : Int) (w : World) :
    Calls Tryd.prog 8 #[.agg #[.int .i64 t, .int .i64 b]] w fun e w' => e = .returned (.agg #[.int .i64 t, .int .i64 b]) ∧ Below w.heap.size w w' := by
  go_enter Tryd.func8, Tryd.ntmps8
  go_wp2
  exact bodyPost_ret (v := .agg #[.int .i64 t, .int .i64 b]) (by simp [results, Tryd.results8, go_sem]) rfl ⟨rfl, ((((Below.refl _ w).alloc (Nat.le_refl _) _).alloc (by simp) _).alloc (by first | (simp; done) | (simp; omega)) _)⟩

set_option maxHeartbeats 1000000 in
theorem eqF_same (t b : Int) (w : World) :
    Calls Tryd.prog 15 #[.agg #[.int .i64 t, .int .i64 b], .agg #[.int .i64 t, .int .i64 b]] w fun e w' => e = .returned (.bool true) ∧ Below w.heap.size w w' := by
  go_enter Tryd.func15, Tryd.ntmps15
  go_wp2
  go_ret
  exact ⟨rfl, (((Below.refl _ w).alloc (Nat.le_refl _) _).alloc (by simp) _)⟩

theorem keptC {W w1 : World} (hb : Below W.heap.size W w1) {p : Addr} {v : Value} (h : W.cell? p = some v) : w1.cell? p = some v := by
  rw [hb.cell (World.block_lt_of_cell? W _ h)]; exact h
theorem swapC {w3 : World} {o o' : Obj} {p : Addr} {v : Value} (hp : p.block < w3.heap.size) (h : (w3.alloc o).cell? p = some v) : (w3.alloc o').cell? p = some v := by
  rw [World.cell?_of_block (w := w3) (Below.heap_alloc _ _ _ hp)] at h ⊢; exact h
theorem swap4C {w3 : World} {o o' : Obj} {N : Nat} {v0 v1 v2 v3 : Value} (hn : N + 1 < w3.heap.size) (h0 : (w3.alloc o).cell? ⟨N, 0, none⟩ = some v0) (h1 : (w3.alloc o).cell? ⟨N, 1, none⟩ = some v1) (h2 : (w3.alloc o).cell? ⟨N + 1, 0, none⟩ = some v2) (h3 : (w3.alloc o).cell? ⟨N + 1, 1, none⟩ = some v3) :
    (w3.alloc o').cell? ⟨N, 0, none⟩ = some v0 ∧ (w3.alloc o').cell? ⟨N, 1, none⟩ = some v1 ∧ (w3.alloc o').cell? ⟨N + 1, 0, none⟩ = some v2 ∧ (w3.alloc o').cell? ⟨N + 1, 1, none⟩ = some v3 :=
  ⟨swapC (by show N < _; omega) h0, swapC (by show N < _; omega) h1, swapC hn h2, swapC hn h3⟩
theorem keptRC {W w1 : World} (hb : Below W.heap.size W w1) {p4 p5 : Addr} {v4 v5 : Value} (h4 : W.cell? p4 = some v4) (h5 : W.cell? p5 = some v5) (h6 : W.frozen? p4 = false) (h7 : W.frozen? p5 = false) :
    w1.cell? p4 = some v4 ∧ w1.cell? p5 = some v5 ∧ w1.frozen? p4 = false ∧ w1.frozen? p5 = false :=
  ⟨keptC hb h4, keptC hb h5, by rw [hb.frozen (World.block_lt_of_cell? W _ h4)]; exact h6, by rw [hb.frozen (World.block_lt_of_cell? W _ h5)]; exact h7⟩
theorem keptRK {G : Prop} {W w1 : World} (hb : Below W.heap.size W w1) {p4 p5 : Addr} {v4 v5 : Value} (h4 : W.cell? p4 = some v4) (h5 : W.cell? p5 = some v5) (h6 : W.frozen? p4 = false) (h7 : W.frozen? p5 = false)
    (k : w1.cell? p4 = some v4 ∧ w1.cell? p5 = some v5 ∧ w1.frozen? p4 = false ∧ w1.frozen? p5 = false → G) : G := k (keptRC hb h4 h5 h6 h7)
/-- Behind the first statement of an exact law: the arguments, and the answer in a block of its own. -/
def Cut1 (aT aB bT bB rT rB : Int) (ok : Bool) (w : World) (s5 s6 : Value) (wx : World) : Prop :=
  ∃ g : Nat, s5 = .pointer (some ⟨g, 0, none⟩) ∧ s6 = .bool ok ∧ w.heap.size + 1 < g ∧ wx.cell? ⟨g, 0, none⟩ = some (.int .i64 rT) ∧ wx.cell? ⟨g, 1, none⟩ = some (.int .i64 rB) ∧
    wx.cell? ⟨w.heap.size, 0, none⟩ = some (.int .i64 aT) ∧ wx.cell? ⟨w.heap.size, 1, none⟩ = some (.int .i64 aB) ∧ wx.cell? ⟨w.heap.size + 1, 0, none⟩ = some (.int .i64 bT) ∧ wx.cell? ⟨w.heap.size + 1, 1, none⟩ = some (.int .i64 bB) ∧ Below w.heap.size w wx
theorem bel_0 {N : Nat} {w W w1 : World} (h : Below N w W) (hN : N ≤ W.heap.size) (hb : Below W.heap.size W w1) : Below N w w1 := h.trans (hb.mono hN)
theorem bel_d {N : Nat} {w W w1 : World} (h : Below N w W) (hN : N ≤ W.heap.size) (hb : Below W.drew.heap.size W.drew w1) : Below N w w1 := h.drew.trans (hb.mono hN)
theorem bel_a {N : Nat} {w W w1 : World} {o : Obj} (h : Below N w W) (hN : N ≤ W.heap.size) (hb : Below (W.alloc o).heap.size (W.alloc o) w1) : Below N w w1 := (h.alloc hN o).trans (hb.mono (by simp; omega))
theorem bel_ad {N : Nat} {w W w1 : World} {o : Obj} (h : Below N w W) (hN : N ≤ W.heap.size) (hb : Below (W.alloc o).drew.heap.size (W.alloc o).drew w1) : Below N w w1 := (h.alloc hN o).drew.trans (hb.mono (by show N ≤ (W.alloc o).heap.size; simp; omega))
theorem bel_2 (w : World) (a b : Obj) : Below w.heap.size w ((w.alloc a).alloc b) ∧ w.heap.size ≤ ((w.alloc a).alloc b).heap.size :=
  ⟨((Below.refl _ w).alloc (Nat.le_refl _) _).alloc (by simp) _, by simp; omega⟩
/-- Behind the second one: its answer in a block of its own. -/
def Cut2 (rT rB : Int) (ok : Bool) (w : World) (s7 s8 : Value) (wx : World) : Prop :=
  ∃ g : Nat, s7 = .pointer (some ⟨g, 0, none⟩) ∧ s8 = .bool ok ∧ wx.cell? ⟨g, 0, none⟩ = some (.int .i64 rT) ∧ wx.cell? ⟨g, 1, none⟩ = some (.int .i64 rB) ∧ Below w.heap.size w wx
theorem cut2_new {rT rB : Int} {ok : Bool} {w w3 : World} {t : TypeId} (hb : Below w.heap.size w w3) :
    Cut2 rT rB ok w (.pointer (some ⟨w3.heap.size, 0, none⟩)) (.bool ok) (w3.alloc (.cells #[.int .i64 rT, .int .i64 rB] t)) :=
  ⟨w3.heap.size, rfl, rfl, by simp [go_sem], by simp [go_sem], hb.alloc hb.size _⟩
theorem cut2_old {rT rB : Int} {ok : Bool} {w w3 : World} {g : Nat} {u v : Value} (hn : w.heap.size ≤ g) (hb : Below w.heap.size w w3) (c0 : w3.cell? ⟨g, 0, none⟩ = some u) (c1 : w3.cell? ⟨g, 1, none⟩ = some v) :
    Cut2 rT rB ok w (.pointer (some ⟨g, 0, none⟩)) (.bool ok) ((w3.setCell ⟨g, 0, none⟩ (.int .i64 rT)).setCell ⟨g, 1, none⟩ (.int .i64 rB)) :=
  ⟨g, rfl, rfl, by simp [go_sem, c0], by simp [go_sem, c1], (hb.setCell (by show _ ≤ g; omega) _).setCell (by show _ ≤ g; omega) _⟩
theorem cut1_new {aT aB bT bB rT rB : Int} {ok : Bool} {w w3 : World} {t : TypeId} (hn : w.heap.size + 1 < w3.heap.size) (hb : Below w.heap.size w w3)
    (h0 : (w3.alloc (.cells #[.int .i64 rT, .int .i64 rB] t)).cell? ⟨w.heap.size, 0, none⟩ = some (.int .i64 aT)) (h1 : (w3.alloc (.cells #[.int .i64 rT, .int .i64 rB] t)).cell? ⟨w.heap.size, 1, none⟩ = some (.int .i64 aB))
    (h2 : (w3.alloc (.cells #[.int .i64 rT, .int .i64 rB] t)).cell? ⟨w.heap.size + 1, 0, none⟩ = some (.int .i64 bT)) (h3 : (w3.alloc (.cells #[.int .i64 rT, .int .i64 rB] t)).cell? ⟨w.heap.size + 1, 1, none⟩ = some (.int .i64 bB)) :
    Cut1 aT aB bT bB rT rB ok w (.pointer (some ⟨w3.heap.size, 0, none⟩)) (.bool ok) (w3.alloc (.cells #[.int .i64 rT, .int .i64 rB] t)) :=
  ⟨w3.heap.size, rfl, rfl, hn, by simp [go_sem], by simp [go_sem], h0, h1, h2, h3, hb.alloc (by omega) _⟩
theorem cut1_old {aT aB bT bB rT rB : Int} {ok : Bool} {w w3 : World} {g : Nat} {u v : Value} (hn : w.heap.size + 1 < g) (hb : Below w.heap.size w w3)
    (c0 : w3.cell? ⟨g, 0, none⟩ = some u) (c1 : w3.cell? ⟨g, 1, none⟩ = some v)
    (h0 : ((w3.setCell ⟨g, 0, none⟩ (.int .i64 rT)).setCell ⟨g, 1, none⟩ (.int .i64 rB)).cell? ⟨w.heap.size, 0, none⟩ = some (.int .i64 aT)) (h1 : ((w3.setCell ⟨g, 0, none⟩ (.int .i64 rT)).setCell ⟨g, 1, none⟩ (.int .i64 rB)).cell? ⟨w.heap.size, 1, none⟩ = some (.int .i64 aB))
    (h2 : ((w3.setCell ⟨g, 0, none⟩ (.int .i64 rT)).setCell ⟨g, 1, none⟩ (.int .i64 rB)).cell? ⟨w.heap.size + 1, 0, none⟩ = some (.int .i64 bT)) (h3 : ((w3.setCell ⟨g, 0, none⟩ (.int .i64 rT)).setCell ⟨g, 1, none⟩ (.int .i64 rB)).cell? ⟨w.heap.size + 1, 1, none⟩ = some (.int .i64 bB)) :
    Cut1 aT aB bT bB rT rB ok w (.pointer (some ⟨g, 0, none⟩)) (.bool ok) ((w3.setCell ⟨g, 0, none⟩ (.int .i64 rT)).setCell ⟨g, 1, none⟩ (.int .i64 rB)) :=
  ⟨g, rfl, rfl, hn, by simp [go_sem, c0], by simp [go_sem, c1], h0, h1, h2, h3, (hb.setCell (by show _ ≤ g; omega) _).setCell (by show _ ≤ g; omega) _⟩
theorem ne_new {n m : Nat} (h : n + 1 < m) : n ≠ m ∧ n + 1 ≠ m ∧ m ≠ n ∧ m ≠ n + 1 := by omega
theorem kept4C {W w1 : World} (hb : Below W.heap.size W w1) {p0 p1 p2 p3 : Addr} {v0 v1 v2 v3 : Value} (h0 : W.cell? p0 = some v0) (h1 : W.cell? p1 = some v1) (h2 : W.cell? p2 = some v2) (h3 : W.cell? p3 = some v3) :
    w1.cell? p0 = some v0 ∧ w1.cell? p1 = some v1 ∧ w1.cell? p2 = some v2 ∧ w1.cell? p3 = some v3 :=
  ⟨keptC hb h0, keptC hb h1, keptC hb h2, keptC hb h3⟩

end Go.Proofs.YtpgbfagacpondaaDoor
