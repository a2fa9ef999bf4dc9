/-
  Several texts of the proof in one file: Read, Open, Alive, FracDraw, DrawValue.
-/
import Derived.Test.YtpcaciogglllbaaGreatDoorRows
import Derived.WalkKit
import Derived.WalkSpells
import Derived.Lib.Hide
import Derived.IntWalk
import Derived.BigQuiet
import Derived.Deep.QuietTactic
import Derived.Test.YtpcaciogglllbaaGreatDoorBaseC
import Derived.Test.YtpcaciogglllbaaGreatDoorBaseA
import Derived.Deep.RegionWith
import Derived.Deep.DeepCutAuto
import Derived.RegionTactic
import Derived.BigRegion
import Derived.Test.YtpcaciogglllbaaGreatDoorBaseE
/-
  The reader of codes (spec.l20Rd): pick, odd, and the open call.
-/
namespace Go.Proofs.YtpcaciogglllbaaGreatDoor
open Go.RowKit
set_option linter.unusedVariables false

theorem grown_trans {a b c : World} {R : Option Nat} (h : a.grownBy b R) (k : b.grownBy c R) : a.grownBy c R :=
  ⟨k.os.trans h.os, k.tape.trans h.tape, k.output.trans h.output, Nat.le_trans h.size k.size, fun i hi hn => (k.block i (Nat.lt_of_lt_of_le hi h.size) hn).trans (h.block i hi hn)⟩
theorem grown_drew {a b : World} {R : Option Nat} (h : a.grownBy b R) : a.grownBy b.drew R := ⟨h.os, h.tape, h.output, h.size, h.block⟩
theorem grown_alloc {a b : World} {R : Option Nat} (h : a.grownBy b R) (o : Obj) : a.grownBy (b.alloc o) R := grown_trans h (World.grownBy_alloc b o R)
theorem grown_setCell {a b : World} {R : Nat} (h : a.grownBy b (some R)) (off : Nat) (u : Value) : a.grownBy (b.setCell ⟨R, off, none⟩ u) (some R) :=
  grown_trans h ⟨rfl, rfl, rfl, by simp [World.setCell], fun k _ hn => Below.heap_setCell _ _ _ _ (fun e => hn (by simp [e]))⟩
theorem grown_below {a b : World} {R : Nat} (h : a.grownBy b (some R)) {B : Nat} (hB : B ≤ a.heap.size) (hR : B ≤ R) : Below B a b :=
  ⟨h.os, h.tape, h.output, h.size, fun k hk => h.block k (by omega) (by intro e; cases e; omega)⟩

/-- The codes' bytes: a slice of at most 2000 bytes, below the reader's block. -/
def Codes (w : World) (R : Nat) (ao : Option Addr) (n : Nat) : Prop :=
  n ≤ 2000 ∧ (n = 0 ∨ ∃ b off, ao = some ⟨b, off, none⟩ ∧ b < R ∧ ∀ j, j < n → ∃ z : Int, 0 ≤ z ∧ z ≤ 255 ∧ w.cell? ⟨b, off + j, none⟩ = some (.int .u8 z))

/-- The reader lies in block R and has been asked p times. -/
def Rd (w : World) (R p : Nat) : Prop :=
  ∃ ao n cap, w.heap[R]? = some (.cells #[.slice ao n cap, .int .i64 p] 106 (0, 0)) ∧ Codes w R ao n

theorem xor_i64 (a b : Nat) (ha : a < 4611686018427387904) (hb : b < 4611686018427387904) : bits .xor .i64 (a : Int) (b : Int) = ((a ^^^ b : Nat) : Int) := by
  have hx : a ^^^ b < 2 ^ 62 := Nat.xor_lt_two_pow (by omega) (by omega)
  have h1 : (BitVec.ofInt 64 (a : Int)).toNat = a := by
    rw [BitVec.ofInt_natCast, BitVec.toNat_ofNat]; exact Nat.mod_eq_of_lt (by omega)
  have h2 : (BitVec.ofInt 64 (b : Int)).toNat = b := by
    rw [BitVec.ofInt_natCast, BitVec.toNat_ofNat]; exact Nat.mod_eq_of_lt (by omega)
  show IntKind.i64.wrap ((BitVec.ofInt 64 (a : Int) ^^^ BitVec.ofInt 64 (b : Int)).toNat : Int) = _
  rw [BitVec.toNat_xor, h1, h2]
  simp [IntKind.wrap, IntKind.bits, IntKind.signed]
  omega

/-- What pick leaves. -/
def Picked (R p : Nat) (n : Int) (w : World) (e : Ending) (w' : World) : Prop :=
  ∃ m : Int, e = .returned (.int .i64 m) ∧ 0 ≤ m ∧ (1 ≤ n → m < n) ∧ (n < 1 → m = 0) ∧ Rd w' R (p + 1) ∧ w.grownBy w' (some R) ∧ w'.heap.size = w.heap.size

theorem mod_picked (x n : Int) (hx : 0 ≤ x) (hn : 1 ≤ n) : 0 ≤ x % n ∧ (1 ≤ n → x % n < n) ∧ (n < 1 → x % n = 0) :=
  ⟨Int.emod_nonneg _ (by omega), fun _ => Int.emod_lt_of_pos _ (by omega), fun h => by omega⟩

theorem Rd.cells {w : World} {R p : Nat} {ao : Option Addr} {n cap : Nat} (h : w.heap[R]? = some (.cells #[.slice ao n cap, .int .i64 p] 106 (0, 0))) :
    w.cell? ⟨R, 0, none⟩ = some (.slice ao n cap) ∧ w.cell? ⟨R, 1, none⟩ = some (.int .i64 p) ∧ w.frozen? ⟨R, 1, none⟩ = false := by
  refine ⟨?_, ?_, ?_⟩ <;> simp [World.cell?, World.frozen?, h]

theorem Codes.mono {w w' : World} {R : Nat} {ao : Option Addr} {n : Nat} (hc : Codes w R ao n) (hR : R ≤ w.heap.size) (hg : w.grownBy w' (some R)) : Codes w' R ao n := by
  obtain ⟨h1, h2⟩ := hc
  refine ⟨h1, ?_⟩
  rcases h2 with h2 | ⟨b, off, ha, hb, hj⟩
  · exact .inl h2
  · refine .inr ⟨b, off, ha, hb, fun j hjn => ?_⟩
    obtain ⟨z, z0, z1, hz⟩ := hj j hjn
    exact ⟨z, z0, z1, hg.cell hz (by intro e; simp only [Option.some.injEq] at e; omega)⟩

theorem Rd.step {w : World} {R p : Nat} {ao : Option Addr} {n cap : Nat} (h : w.heap[R]? = some (.cells #[.slice ao n cap, .int .i64 p] 106 (0, 0))) (hc : Codes w R ao n) :
    Rd (w.setCell ⟨R, 1, none⟩ (.int .i64 ((p : Int) + 1))) R (p + 1) ∧ w.grownBy (w.setCell ⟨R, 1, none⟩ (.int .i64 ((p : Int) + 1))) (some R) ∧ (w.setCell ⟨R, 1, none⟩ (.int .i64 ((p : Int) + 1))).heap.size = w.heap.size := by
  have hR : R < w.heap.size := by
    by_cases hk : R < w.heap.size
    · exact hk
    · rw [Array.getElem?_eq_none (by omega)] at h; cases h
  have hg : w.grownBy (w.setCell ⟨R, 1, none⟩ (.int .i64 ((p : Int) + 1))) (some R) := grown_setCell (World.grownBy.refl _ _) _ _
  refine ⟨⟨ao, n, cap, ?_, hc.mono (by omega) hg⟩, hg, by simp [World.setCell]⟩
  simp [World.setCell, Array.getElem?_modify, h]


theorem heap_drewN (w : World) (n : Nat) : (w.drewN n).heap = w.heap := by
  induction n with
  | zero => rfl
  | succ n ih => exact ih
theorem grown_drewN {a b : World} {R : Option Nat} (h : a.grownBy b R) (n : Nat) : a.grownBy (b.drewN n) R := by
  induction n with
  | zero => exact h
  | succ n ih => exact grown_drew ih
theorem Rd.drewN {w : World} {R p : Nat} (h : Rd w R p) (n : Nat) : Rd (w.drewN n) R p := by
  obtain ⟨ao, k, cap, hc, h1, h2⟩ := h
  refine ⟨ao, k, cap, by rw [heap_drewN]; exact hc, h1, ?_⟩
  rcases h2 with h2 | ⟨b, off, ha, hb, hj⟩
  · exact .inl h2
  · refine .inr ⟨b, off, ha, hb, fun j hjn => ?_⟩
    obtain ⟨z, z0, z1, hz⟩ := hj j hjn
    exact ⟨z, z0, z1, by rw [World.cell?_of_block (w := w) (by rw [heap_drewN])]; exact hz⟩
theorem xor_tmod (X n : Int) (h0 : 0 ≤ X) (h1 : X < 4611686018427387904) (hn : 1 ≤ n) : 0 ≤ (bits .xor .i64 X (X / 64)).tmod n ∧ (bits .xor .i64 X (X / 64)).tmod n < n := by
  obtain ⟨x, rfl⟩ := Int.eq_ofNat_of_zero_le h0
  have hd : ((x : Int) / 64) = ((x / 64 : Nat) : Int) := by omega
  rw [hd, xor_i64 _ _ (by omega) (by omega)]
  generalize (x ^^^ x / 64) = a
  exact ⟨Int.tmod_nonneg _ (by omega), Int.tmod_lt_of_pos _ (by omega)⟩

set_option maxRecDepth 100000 in
set_option maxHeartbeats 1000000 in
theorem pick_none (R p len cap : Nat) (ao : Option Addr) (n : Int) (w : World) (hp : p < 2147483648) (h : n < 1 ∨ (len : Int) = 0)
   (hc : w.heap[R]? = some (.cells #[.slice ao len cap, .int .i64 p] 106 (0, 0))) (hC : Codes w R ao len) :
    Calls Tryz.prog 51 #[.pointer (some ⟨R, 0, none⟩), .int .i64 n] w (Picked R p n w) := by
  have HS := Lib.hid (Rd.step hc hC)
  obtain ⟨c0, c1, f1⟩ := Rd.cells hc
  clear hc hC
  by_cases hn : n < 1
  · have hb : decide (n < 1) = true := by simpa using hn
    clear h
    go_enter Tryz.func51, Tryz.ntmps51
    go_wp2
    all_goals go_ret
    all_goals exact ⟨0, rfl, by omega, by omega, by omega, HS.out.1, HS.out.2.1, HS.out.2.2⟩
  · have h0 : ((len : Int) == 0) = true := by simp; omega
    have hb : decide (n < 1) = false := by simpa using hn
    clear h
    go_enter Tryz.func51, Tryz.ntmps51
    go_wp2
    all_goals go_ret
    all_goals exact ⟨0, rfl, by omega, by omega, by omega, HS.out.1, HS.out.2.1, HS.out.2.2⟩

set_option maxRecDepth 100000 in
set_option maxHeartbeats 1000000 in
theorem pick_in (R p b off len cap : Nat) (n : Int) (w : World) (hp : p < 2147483648) (hl : len ≤ 2000) (hn : 1 ≤ n)
   (hc : w.heap[R]? = some (.cells #[.slice (some ⟨b, off, none⟩) len cap, .int .i64 p] 106 (0, 0))) (hC : Codes w R (some ⟨b, off, none⟩) len) (hb : b < R)
   (hlt : p < len) (z : Int) (hz0 : 0 ≤ z) (hz1 : z ≤ 255) (hz : w.cell? ⟨b, off + p, none⟩ = some (.int .u8 z)) :
    Calls Tryz.prog 51 #[.pointer (some ⟨R, 0, none⟩), .int .i64 n] w (Picked R p n w) := by
  have HS := Lib.hid (Rd.step hc hC)
  obtain ⟨c0, c1, f1⟩ := Rd.cells hc
  clear hc hC
  have h0 : ((len : Int) == 0) = false := by simp; omega
  have hb1 : decide (n < 1) = false := by simp; omega
  go_enter Tryz.func51, Tryz.ntmps51
  go_wp2
  go_ret
  exact ⟨z % n, rfl, (mod_picked z n hz0 hn).1, (mod_picked z n hz0 hn).2.1, (mod_picked z n hz0 hn).2.2, HS.out.1, HS.out.2.1, HS.out.2.2⟩

set_option maxRecDepth 100000 in
set_option maxHeartbeats 2000000 in
theorem pick_past (R p b off len cap : Nat) (n : Int) (w : World) (hp : p < 2147483648) (hl : len ≤ 2000) (hl0 : 0 < len) (hn : 1 ≤ n)
   (hc : w.heap[R]? = some (.cells #[.slice (some ⟨b, off, none⟩) len cap, .int .i64 p] 106 (0, 0))) (hC : Codes w R (some ⟨b, off, none⟩) len) (hb : b < R)
   (hlt : ¬ p < len) (z : Int) (hz0 : 0 ≤ z) (hz1 : z ≤ 255) (hz : w.cell? ⟨b, off + p % len, none⟩ = some (.int .u8 z))
   (y : Int) (hy0 : 0 ≤ y) (hy1 : y ≤ 255) (hy : w.cell? ⟨b, off + (p * 7 + 3) % len, none⟩ = some (.int .u8 y)) :
    Calls Tryz.prog 51 #[.pointer (some ⟨R, 0, none⟩), .int .i64 n] w (Picked R p n w) := by
  have HS := Lib.hid (Rd.step hc hC)
  obtain ⟨c0, c1, f1⟩ := Rd.cells hc
  clear hc hC
  have h0 : ((len : Int) == 0) = false := by simp; omega
  have hb1 : decide (n < 1) = false := by simp; omega
  obtain ⟨u, hu⟩ : ∃ u, p % len = u := ⟨_, rfl⟩
  obtain ⟨v, hv⟩ : ∃ v, (p * 7 + 3) % len = v := ⟨_, rfl⟩
  have hul : u < len := by rw [← hu]; exact Nat.mod_lt _ hl0
  have hvl : v < len := by rw [← hv]; exact Nat.mod_lt _ hl0
  have e1 : (p : Int).tmod len = (u : Int) := by rw [← hu, Int.tmod_eq_emod_of_nonneg (by omega), Int.natCast_emod]
  have e2 : ((p : Int) * 7 + 3).tmod len = (v : Int) := by
    rw [← hv, show ((p : Int) * 7 + 3) = ((p * 7 + 3 : Nat) : Int) from by omega, Int.tmod_eq_emod_of_nonneg (by omega), Int.natCast_emod]
  rw [hu] at hz; rw [hv] at hy; clear hu hv
  have q0 : 0 ≤ (p : Int).tdiv len := Int.tdiv_nonneg (by omega) (by omega)
  have q1 : (p : Int).tdiv len ≤ p := Int.tdiv_le_self _ (by omega)
  generalize hq : (p : Int).tdiv len = q at q0 q1
  have r1 : IntKind.i64.wrap (z * 131) = z * 131 := IntWalk.i64_in _ (by omega)
  have r2 : IntKind.i64.wrap ((p : Int) * 7) = (p : Int) * 7 := IntWalk.i64_in _ (by omega)
  have r3 : IntKind.i64.wrap ((p : Int) * 7 + 3) = (p : Int) * 7 + 3 := IntWalk.i64_in _ (by omega)
  go_enter Tryz.func51, Tryz.ntmps51
  go_wp2
  go_quiet (fail)
  go_wp2
  go_ret
  have hX := xor_tmod (z * 131 + y * 1117 + p * 29 + q * 53) n (by omega) (by omega) hn
  exact ⟨_, rfl, hX.1, fun _ => hX.2, by omega, HS.out.1.drewN _, grown_drewN HS.out.2.1 _, (heap_drewN _ _).symm ▸ HS.out.2.2⟩

/-- The reader has been asked at most p times. -/
def Rdm (w : World) (R p : Nat) : Prop := ∃ q, q ≤ p ∧ Rd w R q
theorem Rdm.mono {w : World} {R p q : Nat} (h : Rdm w R p) (hpq : p ≤ q) : Rdm w R q := by
  obtain ⟨k, hk, h⟩ := h; exact ⟨k, by omega, h⟩
theorem Rd.lt {w : World} {R p : Nat} (h : Rd w R p) : R < w.heap.size := by
  obtain ⟨ao, k, cap, hc, _⟩ := h
  by_cases hk : R < w.heap.size
  · exact hk
  · rw [Array.getElem?_eq_none (by omega)] at hc; cases hc
theorem Rdm.lt {w : World} {R p : Nat} (h : Rdm w R p) : R < w.heap.size := by
  obtain ⟨k, hk, h⟩ := h; exact h.lt
/-- What happens elsewhere does not matter to the reader. -/
theorem Rdm.kept {w w' : World} {R p : Nat} {row : Option Nat} (h : Rdm w R p) (hg : w.grownBy w' row) (hn : ∀ k, row = some k → R < k) : Rdm w' R p := by
  have hlt := h.lt
  obtain ⟨q, hq, ao, k, cap, hc, h1, h2⟩ := h
  refine ⟨q, hq, ao, k, cap, by rw [hg.block R hlt (by intro e; have := hn R e.symm; omega)]; exact hc, h1, ?_⟩
  rcases h2 with h2 | ⟨b, off, ha, hb, hj⟩
  · exact .inl h2
  · refine .inr ⟨b, off, ha, hb, fun j hjn => ?_⟩
    obtain ⟨z, z0, z1, hz⟩ := hj j hjn
    exact ⟨z, z0, z1, hg.cell hz (by intro e; have := hn b e.symm; omega)⟩

/-- What pick leaves. -/
def Picks (R p : Nat) (n : Int) (w : World) (e : Ending) (w' : World) : Prop :=
  ∃ m : Int, e = .returned (.int .i64 m) ∧ 0 ≤ m ∧ (1 ≤ n → m < n) ∧ (n < 1 → m = 0) ∧ Rdm w' R (p + 1) ∧ w.grownBy w' (some R) ∧ w'.heap.size = w.heap.size

theorem pick_any (R p : Nat) (n : Int) (w : World) (hp : p < 2147483648) (h : Rdm w R p) :
    Calls Tryz.prog 51 #[.pointer (some ⟨R, 0, none⟩), .int .i64 n] w (Picks R p n w) := by
  obtain ⟨q, hq, ao, k, cap, hc, h1, h2⟩ := h
  have fin : ∀ e w', Picked R q n w e w' → Picks R p n w e w' := by
    rintro e w' ⟨m, he, hm, hm1, hm2, hr, hg, hs⟩
    exact ⟨m, he, hm, hm1, hm2, ⟨q + 1, by omega, hr⟩, hg, hs⟩
  by_cases hn : n < 1
  · exact (pick_none R q k cap ao n w (by omega) (.inl hn) hc ⟨h1, h2⟩).mono fin
  rcases h2 with h2 | ⟨b, off, rfl, hb, hj⟩
  · exact (pick_none R q k cap ao n w (by omega) (.inr (by omega)) hc ⟨h1, .inl h2⟩).mono fin
  have hC : Codes w R (some ⟨b, off, none⟩) k := ⟨h1, .inr ⟨b, off, rfl, hb, hj⟩⟩
  by_cases hk : k = 0
  · exact (pick_none R q k cap _ n w (by omega) (.inr (by omega)) hc hC).mono fin
  by_cases hlt : q < k
  · obtain ⟨z, z0, z1, hz⟩ := hj q hlt
    exact (pick_in R q b off k cap n w (by omega) h1 (by omega) hc hC hb hlt z z0 z1 hz).mono fin
  · obtain ⟨z, z0, z1, hz⟩ := hj (q % k) (Nat.mod_lt _ (by omega))
    obtain ⟨y, y0, y1, hy⟩ := hj ((q * 7 + 3) % k) (Nat.mod_lt _ (by omega))
    exact (pick_past R q b off k cap n w (by omega) h1 (by omega) (by omega) hc hC hb hlt z z0 z1 hz y y0 y1 hy).mono fin

/-- What odd leaves. -/
def Odds (R p : Nat) (n : Int) (w : World) (e : Ending) (w' : World) : Prop :=
  ∃ b : Bool, e = .returned (.bool b) ∧ (n < 1 → b = false) ∧ Rdm w' R (p + 1) ∧ w.grownBy w' (some R) ∧ w'.heap.size = w.heap.size

set_option maxHeartbeats 1000000 in
theorem odd_any (R p : Nat) (n : Int) (w : World) (hp : p < 2147483648) (hn0 : -2147483648 ≤ n) (hn1 : n ≤ 2147483648) (h : Rdm w R p) :
    Calls Tryz.prog 79 #[.pointer (some ⟨R, 0, none⟩), .int .i64 n] w (Odds R p n w) := by
  by_cases hn : 0 < n
  · go_enter Tryz.func79, Tryz.ntmps79
    go_wp2_with fail
    refine (pick_any R p n _ hp h).mono ?_
    rintro e w' ⟨m, rfl, hm, hm1, hm2, hr, hg, hs⟩
    have HG := Lib.hid hg; have HS := Lib.hid hs
    clear hg hs hm1 hm2 h
    go_wp2
    go_ret
    exact ⟨_, rfl, by omega, hr, HG.out, HS.out⟩
  · go_enter Tryz.func79, Tryz.ntmps79
    go_wp2
    go_ret
    exact ⟨_, rfl, fun _ => rfl, h.mono (by omega), World.grownBy.refl _ _, rfl⟩

end Go.Proofs.YtpcaciogglllbaaGreatDoor

/-
  A code that came in: spec.l20Open.
-/
namespace Go.Proofs.YtpcaciogglllbaaGreatDoor
open Go.RowKit
set_option linter.unusedVariables false

/-- A slice of bytes that came in. -/
def CodeRow (w : World) (a : Option Addr) (len cap : Nat) : Prop :=
  len ≤ cap ∧ cap ≤ maxLen ∧ (len = 0 ∨ ∃ b off, a = some ⟨b, off, none⟩ ∧ b < w.heap.size ∧ ∀ j, j < len → ∃ z : Int, 0 ≤ z ∧ z ≤ 255 ∧ w.cell? ⟨b, off + j, none⟩ = some (.int .u8 z))

theorem CodeRow.mono {w w' : World} {a : Option Addr} {len cap : Nat} (h : CodeRow w a len cap) (hb : Below w.heap.size w w') : CodeRow w' a len cap := by
  obtain ⟨h1, h2, h3⟩ := h
  refine ⟨h1, h2, ?_⟩
  rcases h3 with h3 | ⟨b, off, ha, hlt, hj⟩
  · exact .inl h3
  · refine .inr ⟨b, off, ha, Nat.lt_of_lt_of_le hlt hb.size, fun j hjn => ?_⟩
    obtain ⟨z, z0, z1, hz⟩ := hj j hjn
    exact ⟨z, z0, z1, by rw [hb.cell (by exact hlt)]; exact hz⟩

theorem add_plain (b off j : Nat) : (⟨b, off, none⟩ : Addr).add j = ⟨b, off + j, none⟩ := by
  unfold Addr.add; split <;> simp_all
theorem plain_of_cell {w : World} {x : Addr} {v : Value} (h : w.cell? x = some v) : x.spot = none ∧ x.block < w.heap.size := by
  unfold World.cell? at h
  split at h
  · rename_i c e fr hh
    refine ⟨?_, ?_⟩
    · cases hs : x.spot with
      | none => rfl
      | some s => rw [hs] at h; simp at h
    · by_cases hk : x.block < w.heap.size
      · exact hk
      · rw [Array.getElem?_eq_none (by omega)] at hh; cases hh
  · cases h

theorem CodeRow.of {w : World} {a : Option Addr} {len cap : Nat} {zs : List Int}
    (h : (a = none ∧ len = 0 ∧ cap = 0 ∧ zs = []) ∨ ∃ x, a = some x ∧ len ≤ cap ∧ cap ≤ maxLen ∧ zs.length = cap ∧ (∀ i, i < zs.length → w.cell? (x.add i) = some (.int .u8 (zs.getD i 0))) ∧ ∀ n ∈ zs, (Lit.int .u8 n).wf = true) :
    CodeRow w a len cap := by
  rcases h with ⟨rfl, rfl, rfl, rfl⟩ | ⟨x, rfl, hl, hm, hz, hc, hw⟩
  · exact ⟨Nat.le_refl _, by unfold maxLen; omega, .inl rfl⟩
  · refine ⟨hl, hm, ?_⟩
    by_cases h0 : len = 0
    · exact .inl h0
    obtain ⟨b, off, spot⟩ := x
    have hc0 := plain_of_cell (hc 0 (by omega))
    have hsp : spot = none := by have := hc0.1; unfold Addr.add at this; split at this <;> simp_all
    subst hsp
    have hlt : b < w.heap.size := by have := hc0.2; rw [add_plain] at this; exact this
    refine .inr ⟨b, off, rfl, hlt, fun j hj => ?_⟩
    have hcj := hc j (by omega)
    rw [add_plain] at hcj
    have hmem : zs.getD j 0 ∈ zs := by rw [List.getD_eq_getElem?_getD, List.getElem?_eq_getElem (by omega)]; exact List.getElem_mem _
    have hwf := hw _ hmem
    have hx : 0 ≤ zs.getD j 0 ∧ zs.getD j 0 ≤ 255 := by simpa [Lit.wf, IntKind.min, IntKind.max, IntKind.signed, IntKind.bits] using hwf
    exact ⟨_, hx.1, hx.2, hcj⟩

def CodeCells (w : World) (a : Option Addr) (len : Nat) : Prop :=
  len = 0 ∨ ∃ b off, a = some ⟨b, off, none⟩ ∧ b < w.heap.size ∧ ∀ j, j < len → ∃ z : Int, 0 ≤ z ∧ z ≤ 255 ∧ w.cell? ⟨b, off + j, none⟩ = some (.int .u8 z)
theorem cut_codes {w : World} {a : Option Addr} {len k : Nat} (hk : k ≤ len) (h : CodeCells w a len) : CodeCells w a k := by
  rcases h with h | ⟨b, off, ha, hlt, hj⟩
  · exact .inl (by omega)
  · exact .inr ⟨b, off, ha, hlt, fun j hjn => hj j (by omega)⟩
theorem Rd.new (w : World) (a : Option Addr) (len cap : Nat) (hl : len ≤ 2000) (h : CodeCells w a len) :
    Rd (w.alloc (.cells #[.slice a len cap, .int .i64 0] 106)) w.heap.size 0 := by
  refine ⟨a, len, cap, heap_alloc_new _ _, hl, ?_⟩
  rcases h with h | ⟨b, off, ha, hlt, hj⟩
  · exact .inl h
  · refine .inr ⟨b, off, ha, hlt, fun j hjn => ?_⟩
    obtain ⟨z, z0, z1, hz⟩ := hj j hjn
    exact ⟨z, z0, z1, (World.grownBy_alloc w _ none).cell hz (by simp)⟩

set_option maxHeartbeats 1000000 in
theorem open_codes (a : Option Addr) (len cap : Nat) (w : World) (h : CodeRow w a len cap) :
    Calls Tryz.prog 50 #[.slice a len cap] w fun e w' => e = .returned (.pointer (some ⟨w.heap.size, 0, none⟩)) ∧ Rdm w' w.heap.size 0 ∧ Below w.heap.size w w' ∧ w'.heap.size = w.heap.size + 1 := by
  obtain ⟨h1, h2, h3⟩ := h
  unfold maxLen at h2
  have H3 := Lib.hid h3; clear h3
  by_cases hl : len ≤ 2000
  · go_enter Tryz.func50, Tryz.ntmps50
    go_wp2
    go_ret
    exact ⟨rfl, ⟨0, Nat.le_refl _, Rd.new _ _ _ _ hl H3.out⟩, (Below.refl _ _).alloc (Nat.le_refl _) _, by simp⟩
  · go_enter Tryz.func50, Tryz.ntmps50
    go_wp2
    go_ret
    exact ⟨rfl, ⟨0, Nat.le_refl _, Rd.new _ _ _ _ (Nat.le_refl _) (cut_codes (by omega) H3.out)⟩, (Below.refl _ _).alloc (Nat.le_refl _) _, by simp⟩

theorem lit_cell {w w' : World} {R : Nat} {C : Array Value} {t : TypeId} {m : Nat} {v : Value} (hR : R < w.heap.size) (hg : (w.alloc (.cells C t)).grownBy w' (some R)) (hv : C[m]? = some v) : w'.cell? ⟨w.heap.size, m, none⟩ = some v := by
  refine hg.cell ?_ (by intro e; simp only [Option.some.injEq] at e; omega)
  simp only [World.cell?, heap_alloc_new]
  simpa using hv

end Go.Proofs.YtpcaciogglllbaaGreatDoor

/-
  laws.alive returns true.
-/
namespace Go.Proofs.YtpcaciogglllbaaGreatDoor
open Go.RowKit
set_option linter.unusedVariables false

theorem alive_any (w : World) : Calls Tryz.prog 27 #[] w fun e w' => e = .returned (.bool true) ∧ w = w' := by
  go_enter Tryz.func27, Tryz.ntmps27
  go_wp2_with fail
  refine (textValid_impl _ _ (by decide)).mono ?_
  rintro e w' ⟨rfl, rfl⟩
  go_wp2
  go_ret
  exact ⟨ret_bool (by decide), rfl⟩

end Go.Proofs.YtpcaciogglllbaaGreatDoor

/-
  Drawn fractions: spec.l20Fraction.
-/
namespace Go.Proofs.YtpcaciogglllbaaGreatDoor
open Go.RowKit
set_option linter.unusedVariables false

theorem Rdm.dr {w : World} {R p : Nat} (h : Rdm w R p) : Rdm w.drew R p := by
  obtain ⟨q, hq, h⟩ := h; exact ⟨q, hq, h.drewN 1⟩
theorem Rdm.al {w : World} {R p : Nat} (h : Rdm w R p) (o : Obj) : Rdm (w.alloc o) R p := h.kept (World.grownBy_alloc w o none) (by simp)

theorem lit6a (m : Nat) (h : m < 6) : ∃ k : Nat, k < 4 ∧ (#[Value.int .i64 0, .int .i64 0, .int .i64 0, .int .i64 1, .int .i64 2, .int .i64 3] : Array Value)[m]? = some (.int .i64 (k : Int)) := by
  match m, h with
  | 0, _ => exact ⟨0, by omega, rfl⟩
  | 1, _ => exact ⟨0, by omega, rfl⟩
  | 2, _ => exact ⟨0, by omega, rfl⟩
  | 3, _ => exact ⟨1, by omega, rfl⟩
  | 4, _ => exact ⟨2, by omega, rfl⟩
  | 5, _ => exact ⟨3, by omega, rfl⟩
theorem lit4a (a b : Int) (ha : -12 ≤ a ∧ a ≤ 12) (hb : 0 ≤ b ∧ b ≤ 1000000) (m : Nat) (h : m < 4) : ∃ v : Int, -1000000000 ≤ v ∧ v ≤ 1000000000 ∧ (#[Value.int .i64 a, .int .i64 b, .int .i64 1000000000, .int .i64 (-1000000000)] : Array Value)[m]? = some (.int .i64 v) := by
  match m, h with
  | 0, _ => exact ⟨_, by omega, by omega, rfl⟩
  | 1, _ => exact ⟨_, by omega, by omega, rfl⟩
  | 2, _ => exact ⟨_, by omega, by omega, rfl⟩
  | 3, _ => exact ⟨_, by omega, by omega, rfl⟩
theorem lit6b (m : Nat) (h : m < 6) : ∃ v : Int, 1 ≤ v ∧ v ≤ 1000000 ∧ (#[Value.int .i64 2, .int .i64 4, .int .i64 10, .int .i64 100, .int .i64 1000, .int .i64 1000000] : Array Value)[m]? = some (.int .i64 v) := by
  match m, h with
  | 0, _ => exact ⟨_, by omega, by omega, rfl⟩
  | 1, _ => exact ⟨_, by omega, by omega, rfl⟩
  | 2, _ => exact ⟨_, by omega, by omega, rfl⟩
  | 3, _ => exact ⟨_, by omega, by omega, rfl⟩
  | 4, _ => exact ⟨_, by omega, by omega, rfl⟩
  | 5, _ => exact ⟨_, by omega, by omega, rfl⟩

theorem lit4b (m v : Int) (hm0 : 0 ≤ m) (hm1 : m < 9) (hv0 : 1 ≤ v) (hv1 : v ≤ 1000000) (j : Nat) (h : j < 4) : ∃ x : Int, 1 ≤ x ∧ x ≤ 1000000 ∧ (#[Value.int .i64 1, .int .i64 (IntKind.i64.wrap (1 + m)), .int .i64 v, .int .i64 3] : Array Value)[j]? = some (.int .i64 x) := by
  rw [show IntKind.i64.wrap (1 + m) = 1 + m from IntWalk.i64_in _ (by omega)]
  match j, h with
  | 0, _ => exact ⟨_, by omega, by omega, rfl⟩
  | 1, _ => exact ⟨_, by omega, by omega, rfl⟩
  | 2, _ => exact ⟨_, by omega, by omega, rfl⟩
  | 3, _ => exact ⟨_, by omega, by omega, rfl⟩
/-- The six bottoms lie in block b. -/
def Row6 (w : World) (b : Nat) : Prop := ∀ (m : Nat) (v : Value), (#[Value.int .i64 2, .int .i64 4, .int .i64 10, .int .i64 100, .int .i64 1000, .int .i64 1000000] : Array Value)[m]? = some v → w.cell? ⟨b, m, none⟩ = some v
theorem row6_new {w w' : World} {R : Nat} {t : TypeId} (hR : R < w.heap.size) (hg : (w.alloc (.cells #[.int .i64 2, .int .i64 4, .int .i64 10, .int .i64 100, .int .i64 1000, .int .i64 1000000] t)).grownBy w' (some R)) : Row6 w' w.heap.size := fun _ _ hv => lit_cell hR hg hv
theorem row6_newd {w w' : World} {R : Nat} {t : TypeId} (hR : R < w.heap.size) (hg : (w.alloc (.cells #[.int .i64 2, .int .i64 4, .int .i64 10, .int .i64 100, .int .i64 1000, .int .i64 1000000] t)).drew.grownBy w' (some R)) : Row6 w' w.heap.size :=
  fun _ _ hv => lit_cell hR ⟨hg.os, hg.tape, hg.output, hg.size, hg.block⟩ hv
theorem cell_keep {w w' : World} {R b o : Nat} {v : Value} (h : w.cell? ⟨b, o, none⟩ = some v) (hR : R < b) (hg : w.grownBy w' (some R)) : w'.cell? ⟨b, o, none⟩ = some v :=
  hg.cell h (by intro e; simp only [Option.some.injEq] at e; omega)
theorem World.alloc_size (w : World) (o : Obj) : (w.alloc o).heap.size = w.heap.size + 1 := by simp
theorem alloc_lt {w : World} {o : Obj} {R : Nat} (h : R < w.heap.size) : R < (w.alloc o).heap.size := by simp; omega
theorem grown_far {w w' : World} {R b o : Nat} (hb : b < w.heap.size) (hR : R ≠ b) (hg : w.grownBy w' (some R)) : w'.cell? ⟨b, o, none⟩ = w.cell? ⟨b, o, none⟩ ∧ w'.frozen? ⟨b, o, none⟩ = w.frozen? ⟨b, o, none⟩ :=
  ⟨World.cell?_of_block (w := w) (hg.block b hb (by intro e; simp only [Option.some.injEq] at e; omega)), World.frozen?_of_block (w := w) (hg.block b hb (by intro e; simp only [Option.some.injEq] at e; omega))⟩
theorem grown_set {w w' : World} {R b o : Nat} {u : Value} (hb : w.heap.size ≤ b) (hg : w.grownBy w' (some R)) : w.grownBy (w'.setCell ⟨b, o, none⟩ u) (some R) :=
  ⟨hg.os, hg.tape, hg.output, by simpa [World.setCell] using hg.size, fun i hi hn => by rw [Below.heap_setCell _ _ _ _ (by show i ≠ b; omega)]; exact hg.block i hi hn⟩
theorem Rdm.set {w : World} {R p b o : Nat} {u : Value} (h : Rdm w R p) (hb : R < b) : Rdm (w.setCell ⟨b, o, none⟩ u) R p :=
  h.kept (grown_setCell (World.grownBy.refl w (some b)) o u) (by intro k hk; simp only [Option.some.injEq] at hk; omega)
/-- Two blocks of a fraction each: N, the answer, and B. -/
def Two (w' : World) (N B : Nat) (x y : Int) : Prop :=
  N < B ∧ B < w'.heap.size ∧ w'.cell? ⟨N, 0, none⟩ = some (.int .i64 0) ∧ w'.cell? ⟨N, 1, none⟩ = some (.int .i64 0) ∧ w'.frozen? ⟨N, 0, none⟩ = false ∧ w'.frozen? ⟨N, 1, none⟩ = false ∧
  w'.cell? ⟨B, 0, none⟩ = some (.int .i64 x) ∧ w'.cell? ⟨B, 1, none⟩ = some (.int .i64 y) ∧ w'.frozen? ⟨B, 0, none⟩ = false ∧ w'.frozen? ⟨B, 1, none⟩ = false
theorem Two.keep {w w' : World} {N B R : Nat} {x y : Int} (h : Two w N B x y) (hR : R < N) (hg : w.grownBy w' (some R)) : Two w' N B x y := by
  obtain ⟨h0, h1, h2, h3, h4, h5, h6, h7, h8, h9⟩ := h
  have hs := hg.size
  refine ⟨h0, by omega, ?_, ?_, ?_, ?_, ?_, ?_, ?_, ?_⟩
  · rw [(grown_far (by omega) (by omega) hg).1]; exact h2
  · rw [(grown_far (by omega) (by omega) hg).1]; exact h3
  · rw [(grown_far (by omega) (by omega) hg).2]; exact h4
  · rw [(grown_far (by omega) (by omega) hg).2]; exact h5
  · rw [(grown_far (by omega) (by omega) hg).1]; exact h6
  · rw [(grown_far (by omega) (by omega) hg).1]; exact h7
  · rw [(grown_far (by omega) (by omega) hg).2]; exact h8
  · rw [(grown_far (by omega) (by omega) hg).2]; exact h9
/-- What a drawn fraction is. -/
def Fracs (R p : Nat) (w : World) (e : Ending) (w' : World) : Prop :=
  ∃ t b : Int, e = .returned (.agg #[.int .i64 t, .int .i64 b]) ∧ Rdm w' R (p + 8) ∧ w.grownBy w' (some R)
/-- The bottom has been drawn. -/
def Bottoms (w : World) (R p : Nat) (s6 : Value) (wx : World) : Prop :=
  ∃ b : Int, s6 = .int .i64 b ∧ 1 ≤ b ∧ b ≤ 1000000 ∧ Rdm wx R (p + 6) ∧ w.grownBy wx (some R)

set_option maxRecDepth 100000 in
set_option maxHeartbeats 4000000 in
theorem fraction_any (R p : Nat) (n : Int) (w : World) (hp : p < 1073741824) (hn0 : 0 ≤ n) (hn1 : n ≤ 1000) (h : Rdm w R p) :
    Calls Tryz.prog 115 #[.pointer (some ⟨R, 0, none⟩), .int .i64 n] w (Fracs R p w) := by
  have hR := h.lt
  go_enter Tryz.func115, Tryz.ntmps115
  go_wp2_with fail
  refine (pick_any R p 24 _ (by omega) (h.al _)).mono ?_
  rintro e w1 ⟨m1, rfl, hm10, hm11, -, hr1, hg1, hs1⟩
  have hm1 := hm11 (by omega)
  have HG1 := Lib.hid hg1; have HS1 := Lib.hid hs1
  clear hm11 hg1 hs1 h
  go_wp2_with fail
  refine (pick_any R (p + 1) 256 _ (by omega) hr1).mono ?_
  rintro e w2 ⟨m2, rfl, hm20, hm21, -, hr2, hg2, hs2⟩
  have hm2 := hm21 (by omega)
  have HG2 := Lib.hid (grown_trans HG1.out hg2); have HS2 := Lib.hid (hs2.trans HS1.out)
  clear hm21 hg2 hs2 hr1 HG1 HS1
  go_wp2_with fail
  refine (pick_any R (p + 2) 6 _ (by omega) ((hr2.al _).al _)).mono ?_
  rintro e w3 ⟨m3, rfl, hm30, hm31, -, hr3, hg3, hs3⟩
  have hm3 := hm31 (by omega)
  obtain ⟨j3, rfl⟩ := Int.eq_ofNat_of_zero_le hm30
  obtain ⟨k3, hk3, hlit⟩ := lit6a j3 (by omega)
  obtain ⟨v3, hv0, hv1, hlit2⟩ := lit4a (m1 - 12) (m2 * 999) (by omega) (by omega) k3 hk3
  have hR2 := hr2.lt
  have hcell : w3.cell? ⟨w2.heap.size + 1, j3, none⟩ = some (.int .i64 (k3 : Int)) := by
    have hq := lit_cell (w := w2.alloc (.cells #[.int .i64 (m1 - 12), .int .i64 (m2 * 999), .int .i64 1000000000, .int .i64 (-1000000000)] 3)) (by simp; omega) hg3 hlit
    simpa using hq
  have hcell2 : w3.cell? ⟨w2.heap.size, k3, none⟩ = some (.int .i64 v3) := by
    refine hg3.cell ?_ (by intro e; simp only [Option.some.injEq] at e; omega)
    rw [World.cell?_of_block (w := w2.alloc (.cells #[.int .i64 (m1 - 12), .int .i64 (m2 * 999), .int .i64 1000000000, .int .i64 (-1000000000)] 3)) (Below.heap_alloc _ _ _ (by simp))]
    simp only [World.cell?, heap_alloc_new]
    simpa using hlit2
  have HG3 := Lib.hid (grown_trans (grown_alloc (grown_alloc HG2.out _) _) hg3)
  clear hm31 hg3 hs3 hlit hlit2 HG2 hr2
  go_upto_region 2 with fail
  go_cut [6] (Bottoms (w.alloc (.cells #[.int .i64 0, .int .i64 0] 94)) R p)
  case first =>
    go_region_with (first
      | (go_at_call 51; ((with_reducible refine (pick_any R (p + 3) 9 _ (by omega) ?_).mono ?_); (focus (first | exact hr3 | exact hr3.dr | exact hr3.al _ | exact (hr3.al _).dr)); rintro e w4 ⟨m4, rfl, hm40, hm41, -, hr4, hg4, hs4⟩; have hm4 := hm41 (by omega); clear hm41; have HG4 : Hid (World.grownBy (w.alloc (.cells #[.int .i64 0, .int .i64 0] 94)) w4 (some R)) := (by first | exact grown_trans HG3.out hg4 | exact grown_trans (grown_drew HG3.out) hg4 | exact grown_trans (grown_alloc HG3.out _) hg4 | exact grown_trans (grown_drew (grown_alloc HG3.out _)) hg4 | exact grown_trans (grown_alloc (grown_alloc HG3.out _) _) hg4); (first | (have Q4 := row6_new hr3.lt hg4) | (have Q4 := row6_newd hr3.lt hg4) | skip); clear hs4))
      | (go_at_call 51; ((with_reducible refine (pick_any R (p + 4) 6 _ (by omega) ?_).mono ?_); (focus (first | exact hr4 | exact hr4.al _)); rintro e w5 ⟨m5, rfl, hm50, hm51, -, hr5, hg5, hs5⟩; have hm5 := hm51 (by omega); clear hm51; have HG5 : Hid (World.grownBy (w.alloc (.cells #[.int .i64 0, .int .i64 0] 94)) w5 (some R)) := (by first | exact grown_trans HG4.out hg5 | exact grown_trans (grown_drew HG4.out) hg5 | exact grown_trans (grown_alloc HG4.out _) hg5 | exact grown_trans (grown_drew (grown_alloc HG4.out _)) hg5 | exact grown_trans (grown_alloc (grown_alloc HG4.out _) _) hg5); obtain ⟨j5, hj5⟩ := Int.eq_ofNat_of_zero_le hm50; subst hj5; obtain ⟨v5, v50, v51, hl5⟩ := lit6b j5 (by omega); (first | (have c5 := cell_keep (Q4 _ _ hl5) hr3.lt hg5) | (have c5 := lit_cell hr4.lt hg5 hl5) | skip); clear hs5))
      | (go_at_call 51; ((with_reducible refine (pick_any R (p + 5) 4 _ (by omega) ?_).mono ?_); (focus (first | exact hr5 | exact hr5.al _ | exact (hr5.al _).al _)); rintro e w6 ⟨m6, rfl, hm60, hm61, -, hr6, hg6, hs6⟩; have hm6 := hm61 (by omega); clear hm61; have HG6 : Hid (World.grownBy (w.alloc (.cells #[.int .i64 0, .int .i64 0] 94)) w6 (some R)) := (by first | exact grown_trans HG5.out hg6 | exact grown_trans (grown_drew HG5.out) hg6 | exact grown_trans (grown_alloc HG5.out _) hg6 | exact grown_trans (grown_drew (grown_alloc HG5.out _)) hg6 | exact grown_trans (grown_alloc (grown_alloc HG5.out _) _) hg6); obtain ⟨j6, hj6⟩ := Int.eq_ofNat_of_zero_le hm60; subst hj6; obtain ⟨v6, v60, v61, hl6⟩ := lit4b m4 v5 hm40 hm4 v50 v51 j6 (by omega); (first | (have c6 := cell_keep c5 hr3.lt hg6) | (have c6 := cell_keep c5 hr4.lt hg6) | (have c6 := lit_cell hr5.lt hg6 hl5) | skip); (first | (have d6 := lit_cell hr5.lt hg6 hl6) | (have d6 := lit_cell (alloc_lt hr5.lt) hg6 hl6; simp only [World.alloc_size] at d6) | skip); clear hs6)))
    all_goals (go_wp2_with fail; go_meet)
    all_goals first
      | exact ⟨v6, rfl, v60, v61, hr6, HG6.out⟩
      | exact ⟨v6, rfl, v60, v61, hr6.al _, grown_alloc HG6.out _⟩
      | exact ⟨v6, rfl, v60, v61, (hr6.al _).al _, grown_alloc (grown_alloc HG6.out _) _⟩
  case rest =>
    obtain ⟨b, rfl, hb0, hb1, hr, hg⟩ := hcut
    have HG := Lib.hid (grown_trans (World.grownBy_alloc w _ (some R)) hg)
    have hsz := hg.size
    have n0 : wc.cell? ⟨w.heap.size, 0, none⟩ = some (.int .i64 0) := by rw [(grown_far (by simp) (by omega) hg).1]; simp [go_sem]
    have n1 : wc.cell? ⟨w.heap.size, 1, none⟩ = some (.int .i64 0) := by rw [(grown_far (by simp) (by omega) hg).1]; simp [go_sem]
    have n2 : wc.frozen? ⟨w.heap.size, 0, none⟩ = false := by rw [(grown_far (by simp) (by omega) hg).2]; simp [go_sem]
    have n3 : wc.frozen? ⟨w.heap.size, 1, none⟩ = false := by rw [(grown_far (by simp) (by omega) hg).2]; simp [go_sem]
    have hN : w.heap.size < wc.heap.size := by simp at hsz; omega
    clear hg hsz
    go_wp2_with fail
    refine (gcd_spec v3 b _ (by omega) (by omega)).mono ?_
    rintro e w' ⟨rfl, rfl⟩
    have hgp := gcd_pos' v3 b hb0
    have hgl : Int.gcd v3 b ≤ b.natAbs := Int.gcd_le_natAbs_right _ (by omega)
    generalize Int.gcd v3 b = g at hgp hgl ⊢
    have hg0 : ((g : Int) == 0) = false := by simp; omega
    have t1 : (v3.tdiv g).natAbs ≤ v3.natAbs := by rw [Int.natAbs_tdiv]; exact Nat.div_le_self _ _
    have t2 : (b.tdiv g).natAbs ≤ b.natAbs := by rw [Int.natAbs_tdiv]; exact Nat.div_le_self _ _
    go_wp2
    go_region
    go_wp2_with fail
    refine (odd_any R (p + 6) n _ (by omega) (by omega) (by omega) (hr.al _).dr).mono ?_
    rintro e w7 ⟨od, rfl, -, hr7, hg7, hs7⟩
    generalize v3.tdiv g = x at *
    generalize b.tdiv g = y at *
    have hT : Two w7 w.heap.size wc.heap.size x y := by
      refine Two.keep ?_ hR hg7
      refine ⟨hN, by simp, ?_, ?_, ?_, ?_, by simp [go_sem], by simp [go_sem], by simp [go_sem], by simp [go_sem]⟩
      · simpa [go_sem, hN, Nat.ne_of_lt hN] using n0
      · simpa [go_sem, hN, Nat.ne_of_lt hN] using n1
      · simpa [go_sem, hN, Nat.ne_of_lt hN] using n2
      · simpa [go_sem, hN, Nat.ne_of_lt hN] using n3
    have HG7 := Lib.hid (grown_trans (grown_drew (grown_alloc HG.out _)) hg7)
    have HT := Lib.hid hT
    clear hg7 hs7 hT n0 n1 n2 n3 HG t1 t2
    cases od with
    | false =>
      obtain ⟨-, z1, z2, z3, z4, z5, z6, z7, z8, z9⟩ := HT.out
      go_wp2
      exact bodyPost_ret (v := .agg #[.int .i64 x, .int .i64 y]) (by simp [results, Tryz.results115, go_sem, z2, z3]) rfl ⟨x, y, rfl, ((hr7.mono (by omega)).set hR).set hR, grown_set (Nat.le_refl _) (grown_set (Nat.le_refl _) HG7.out)⟩
    | true =>
      go_wp2_with fail
      refine (pick_any R (p + 7) 6 _ (by omega) ((hr7.mono (by omega)).al _)).mono ?_
      rintro e w8 ⟨m8, rfl, hm80, hm81, -, hr8, hg8, hs8⟩
      have hm8 := hm81 (by omega)
      obtain ⟨j8, rfl⟩ := Int.eq_ofNat_of_zero_le hm80
      have HT8 := Lib.hid (HT.out.keep hR (grown_trans (World.grownBy_alloc _ _ (some R)) hg8))
      have HG8 := Lib.hid (grown_trans (grown_alloc HG7.out _) hg8)
      have hR7 := hr7.lt
      have ne1 : w.heap.size ≠ wc.heap.size := by omega
      have ne2 : wc.heap.size ≠ w.heap.size := by omega
      have hj : j8 = 0 ∨ j8 = 1 ∨ j8 = 2 ∨ j8 = 3 ∨ j8 = 4 ∨ j8 = 5 := by omega
      clear hm81 hs8 HT HG7 hr7
      rcases hj with rfl | rfl | rfl | rfl | rfl | rfl
      · have c0 := lit_cell (m := 0) hR7 hg8 rfl
        have c1 := lit_cell (m := 1) hR7 hg8 rfl
        clear hg8
        obtain ⟨-, z1, z2, z3, z4, z5, z6, z7, z8, z9⟩ := HT8.out
        go_wp2
        exact bodyPost_ret (v := .agg #[.int .i64 2, .int .i64 4]) (by simp [results, Tryz.results115, go_sem, z2, z3]) rfl ⟨2, 4, rfl, ((((hr8.mono (by omega)).set (by omega)).set (by omega)).set hR).set hR, grown_set (Nat.le_refl _) (grown_set (Nat.le_refl _) (grown_set (by omega) (grown_set (by omega) HG8.out)))⟩
      · have c0 := lit_cell (m := 2) hR7 hg8 rfl
        have c1 := lit_cell (m := 3) hR7 hg8 rfl
        clear hg8
        obtain ⟨-, z1, z2, z3, z4, z5, z6, z7, z8, z9⟩ := HT8.out
        go_wp2
        exact bodyPost_ret (v := .agg #[.int .i64 1, .int .i64 0]) (by simp [results, Tryz.results115, go_sem, z2, z3]) rfl ⟨1, 0, rfl, ((((hr8.mono (by omega)).set (by omega)).set (by omega)).set hR).set hR, grown_set (Nat.le_refl _) (grown_set (Nat.le_refl _) (grown_set (by omega) (grown_set (by omega) HG8.out)))⟩
      · have c0 := lit_cell (m := 4) hR7 hg8 rfl
        have c1 := lit_cell (m := 5) hR7 hg8 rfl
        clear hg8
        obtain ⟨-, z1, z2, z3, z4, z5, z6, z7, z8, z9⟩ := HT8.out
        go_wp2
        exact bodyPost_ret (v := .agg #[.int .i64 1000000001, .int .i64 1]) (by simp [results, Tryz.results115, go_sem, z2, z3]) rfl ⟨1000000001, 1, rfl, ((((hr8.mono (by omega)).set (by omega)).set (by omega)).set hR).set hR, grown_set (Nat.le_refl _) (grown_set (Nat.le_refl _) (grown_set (by omega) (grown_set (by omega) HG8.out)))⟩
      · have c0 := lit_cell (m := 6) hR7 hg8 rfl
        have c1 := lit_cell (m := 7) hR7 hg8 rfl
        clear hg8
        obtain ⟨-, z1, z2, z3, z4, z5, z6, z7, z8, z9⟩ := HT8.out
        go_wp2
        exact bodyPost_ret (v := .agg #[.int .i64 1, .int .i64 1000001]) (by simp [results, Tryz.results115, go_sem, z2, z3]) rfl ⟨1, 1000001, rfl, ((((hr8.mono (by omega)).set (by omega)).set (by omega)).set hR).set hR, grown_set (Nat.le_refl _) (grown_set (Nat.le_refl _) (grown_set (by omega) (grown_set (by omega) HG8.out)))⟩
      · have c0 := lit_cell (m := 8) hR7 hg8 rfl
        have c1 := lit_cell (m := 9) hR7 hg8 rfl
        clear hg8
        obtain ⟨-, z1, z2, z3, z4, z5, z6, z7, z8, z9⟩ := HT8.out
        go_wp2
        exact bodyPost_ret (v := .agg #[.int .i64 1, .int .i64 (-1)]) (by simp [results, Tryz.results115, go_sem, z2, z3]) rfl ⟨1, (-1), rfl, ((((hr8.mono (by omega)).set (by omega)).set (by omega)).set hR).set hR, grown_set (Nat.le_refl _) (grown_set (Nat.le_refl _) (grown_set (by omega) (grown_set (by omega) HG8.out)))⟩
      · have c0 := lit_cell (m := 10) hR7 hg8 rfl
        have c1 := lit_cell (m := 11) hR7 hg8 rfl
        clear hg8
        obtain ⟨-, z1, z2, z3, z4, z5, z6, z7, z8, z9⟩ := HT8.out
        go_wp2
        exact bodyPost_ret (v := .agg #[.int .i64 0, .int .i64 0]) (by simp [results, Tryz.results115, go_sem, z2, z3]) rfl ⟨0, 0, rfl, ((((hr8.mono (by omega)).set (by omega)).set (by omega)).set hR).set hR, grown_set (Nat.le_refl _) (grown_set (Nat.le_refl _) (grown_set (by omega) (grown_set (by omega) HG8.out)))⟩

end Go.Proofs.YtpcaciogglllbaaGreatDoor

/-
  Drawn values, often bent: spec.l20Value.
-/
namespace Go.Proofs.YtpcaciogglllbaaGreatDoor
open Go.RowKit
set_option linter.unusedVariables false

/-- How many cells have parts. -/
def nmC (l : List Cl) : Nat := l.countP fun c => decide (0 < c.2.2)
theorem nmC_append (a b : List Cl) : nmC (a ++ b) = nmC a + nmC b := List.countP_append
theorem nmC_one (c : Cl) : nmC [c] ≤ 1 := by unfold nmC; rw [List.countP_cons, List.countP_nil]; split <;> omega
theorem nmC_leaf (c : Cl) (h : c.2.2 ≤ 0) : nmC [c] = 0 := by unfold nmC; rw [List.countP_cons, List.countP_nil, if_neg (by simp; omega)]
/-- How often a drawn value asks the code at most, and how many cells it has at most. -/
def kv : Nat → Nat
  | 0 => 20
  | d + 1 => 20 + 3 * kv d
def cv : Nat → Nat
  | 0 => 1
  | d + 1 => if d = 0 then 1 else 1 + 3 * cv d
theorem kv_pos (d : Nat) : 20 ≤ kv d := by cases d <;> simp [kv]
theorem cv_le (d : Nat) (h : d ≤ 5) : cv d ≤ 400 := by
  have : d = 0 ∨ d = 1 ∨ d = 2 ∨ d = 3 ∨ d = 4 ∨ d = 5 := by omega
  rcases this with rfl | rfl | rfl | rfl | rfl | rfl <;> decide
theorem cv_pos (d : Nat) : 1 ≤ cv d := by
  cases d with
  | zero => simp [cv]
  | succ d => rw [cv]; split <;> omega
/-- What a drawn value is. -/
def ValD (R p K C : Nat) (n : Int) (w : World) (e : Ending) (w' : World) : Prop :=
  ∃ (v : Value) (l : List Cl), e = .returned v ∧ w'.ownsRow w.heap.size 44 3 v l.length (flatC l) ∧ (∀ c ∈ l, c.2.1.size ≤ 60) ∧ 1 ≤ l.length ∧ (l.length ≤ C + 1 ∧ (n < 1 → l.length ≤ C) ∧ 3 * nmC l + 1 ≤ C) ∧ Rdm w' R (p + K) ∧ w.grownBy w' (some R)
theorem RowC_litV (w : World) (k m : Int) (s : ByteArray) : RowC (w.alloc (.cells #[.int .i64 k, .string s, .int .i64 m] 44)) (.slice (some ⟨w.heap.size, 0, none⟩) 1 1) [(k, s, m)] := by
  refine ⟨some ⟨w.heap.size, 0, none⟩, 1, rfl, by simp, by unfold maxLen; omega, .inr ⟨w.heap.size, 0, rfl, by simp, fun j hj => ?_⟩⟩
  obtain rfl : j = 0 := by simpa using hj
  exact ⟨(cell_of_row (w.alloc (.cells #[.int .i64 k, .string s, .int .i64 m] 44)) w.heap.size 0 _ _ (0, 0) (heap_alloc_new w _)).trans rfl, (cell_of_row (w.alloc (.cells #[.int .i64 k, .string s, .int .i64 m] 44)) w.heap.size 1 _ _ (0, 0) (heap_alloc_new w _)).trans rfl, (cell_of_row (w.alloc (.cells #[.int .i64 k, .string s, .int .i64 m] 44)) w.heap.size 2 _ _ (0, 0) (heap_alloc_new w _)).trans rfl⟩
theorem grown_ownV {w a b : World} {R : Nat} {row : Option Nat} (h : w.grownBy a (some R)) (hg : a.grownBy b row) (hr : ∀ q, row = some q → w.heap.size ≤ q) : w.grownBy b (some R) :=
  ⟨hg.os.trans h.os, hg.tape.trans h.tape, hg.output.trans h.output, Nat.le_trans h.size hg.size, fun k hk hn => by
    rw [hg.block k (by have := h.size; omega) (fun e => by have := hr k e.symm; omega)]
    exact h.block k hk hn⟩
theorem grown_setc {w a : World} {R g : Nat} (h : w.grownBy a (some R)) (hg : w.heap.size ≤ g) (j : Nat) (u : Value) : w.grownBy (a.setCell ⟨g, j, none⟩ u) (some R) :=
  ⟨h.os, h.tape, h.output, by have := h.size; simpa [World.setCell] using this, fun k hk hn => by rw [Below.heap_setCell _ _ _ _ (show k ≠ g by omega)]; exact h.block k hk hn⟩
theorem grown_belowV {w a b : World} {R : Nat} (h : w.grownBy a (some R)) (hb : Below a.heap.size a b) : w.grownBy b (some R) :=
  ⟨hb.os.trans h.os, hb.tape.trans h.tape, hb.output.trans h.output, Nat.le_trans h.size hb.size, fun k hk hn => by
    rw [hb.block k (by have := h.size; omega)]; exact h.block k hk hn⟩
theorem Rdm.setc {w : World} {R p g : Nat} (h : Rdm w R p) (hg : R < g) (j : Nat) (u : Value) : Rdm (w.setCell ⟨g, j, none⟩ u) R p :=
  h.kept (row := some g) ⟨rfl, rfl, rfl, by simp [World.setCell], fun k hk hn => Below.heap_setCell _ _ _ _ (fun e => hn (by rw [e]))⟩ (fun k hk => by cases hk; exact hg)
theorem Rdm.below {w a : World} {R p : Nat} (h : Rdm w R p) (hb : Below w.heap.size w a) : Rdm a R p :=
  h.kept (row := none) ⟨hb.os, hb.tape, hb.output, hb.size, fun i hi _ => hb.block i hi⟩ (by simp)
theorem own_some {w : World} {base n : Nat} {T : TypeId} {v : Value} {xs : List Value} (h : w.ownsRow base T 3 v n xs) (hn : 1 ≤ n) : ∃ g cap, v = .slice (some ⟨g, 0, none⟩) n cap := by
  rcases h.2 with ⟨-, h0⟩ | ⟨g, cap, cur, rfl, -⟩
  · omega
  · exact ⟨g, cap, rfl⟩
theorem own_shapeV {w : World} {base n : Nat} {T : TypeId} {v : Value} {xs : List Value} (h : w.ownsRow base T 3 v n xs) : ∃ a c, v = .slice a n c := by
  rcases h.2 with ⟨rfl, h0⟩ | ⟨g, cap, cur, rfl, -⟩
  · exact ⟨none, 0, by rw [h0]⟩
  · exact ⟨_, _, rfl⟩
theorem flatC_consV (a : Cl) (t : List Cl) : flatC (a :: t) = .int .i64 a.1 :: .string a.2.1 :: .int .i64 a.2.2 :: flatC t := by simp [flatC]
/-- The first cell's word is another one. -/
theorem bend_word {wb : World} {base g n c : Nat} {l : List Cl} (h : wb.ownsRow base 44 3 (.slice (some ⟨g, 0, none⟩) n c) n (flatC l)) (hn : n = l.length) (hl : 1 ≤ l.length) (hs : ∀ d ∈ l, d.2.1.size ≤ 60) :
    (wb.setCell ⟨g, 1, none⟩ (.string ⟨#[49, 47, 50]⟩)).ownsRow base 44 3 (.slice (some ⟨g, 0, none⟩) n c) (l.set 0 ((l[0]'hl).1, ⟨#[49, 47, 50]⟩, (l[0]'hl).2.2)).length (flatC (l.set 0 ((l[0]'hl).1, ⟨#[49, 47, 50]⟩, (l[0]'hl).2.2))) ∧
    (∀ d ∈ l.set 0 ((l[0]'hl).1, ⟨#[49, 47, 50]⟩, (l[0]'hl).2.2), d.2.1.size ≤ 60) ∧ (l.set 0 ((l[0]'hl).1, ⟨#[49, 47, 50]⟩, (l[0]'hl).2.2)).length = l.length ∧ nmC (l.set 0 ((l[0]'hl).1, ⟨#[49, 47, 50]⟩, (l[0]'hl).2.2)) ≤ nmC l := by
  subst hn
  cases l with
  | nil => simp at hl
  | cons a t =>
    have h1 := (h.stored 1 (.string ⟨#[49, 47, 50]⟩)).1
    rw [flatC_consV] at h1
    refine ⟨by rw [List.set_cons_zero, flatC_consV]; simpa using h1, ?_, by simp, ?_⟩
    · intro d hd
      rw [List.set_cons_zero] at hd
      rcases List.mem_cons.mp hd with rfl | hd
      · show (⟨#[49, 47, 50]⟩ : ByteArray).size ≤ 60
        decide
      · exact hs d (by simp [hd])
    · simp only [List.set_cons_zero, List.getElem_cons_zero, nmC, List.countP_cons]; exact Nat.le_refl _
/-- The first cell is another one. -/
theorem bend_cell {wb : World} {base g n c : Nat} {l : List Cl} (h : wb.ownsRow base 44 3 (.slice (some ⟨g, 0, none⟩) n c) n (flatC l)) (hn : n = l.length) (hl : 1 ≤ l.length) (hs : ∀ d ∈ l, d.2.1.size ≤ 60) :
    (((wb.setCell ⟨g, 0, none⟩ (.int .i64 4)).setCell ⟨g, 1, none⟩ (.string ⟨#[97]⟩)).setCell ⟨g, 2, none⟩ (.int .i64 0)).ownsRow base 44 3 (.slice (some ⟨g, 0, none⟩) n c) (l.set 0 (4, ⟨#[97]⟩, 0)).length (flatC (l.set 0 (4, ⟨#[97]⟩, 0))) ∧
    (∀ d ∈ l.set 0 (4, ⟨#[97]⟩, 0), d.2.1.size ≤ 60) ∧ (l.set 0 (4, ⟨#[97]⟩, 0)).length = l.length ∧ nmC (l.set 0 (4, ⟨#[97]⟩, 0)) ≤ nmC l := by
  subst hn
  cases l with
  | nil => simp at hl
  | cons a t =>
    have h1 := (((h.stored 0 (.int .i64 4)).1.stored 1 (.string ⟨#[97]⟩)).1.stored 2 (.int .i64 0)).1
    rw [flatC_consV] at h1
    refine ⟨by rw [List.set_cons_zero, flatC_consV]; simpa using h1, ?_, by simp, ?_⟩
    · intro d hd
      rw [List.set_cons_zero] at hd
      rcases List.mem_cons.mp hd with rfl | hd
      · show (⟨#[97]⟩ : ByteArray).size ≤ 60
        decide
      · exact hs d (by simp [hd])
    · simp only [List.set_cons_zero, nmC, List.countP_cons]; simp
/-- One cell more. -/
theorem bend_more {w8 : World} {base : Nat} {v : Value} {l : List Cl} (h : w8.ownsRow base 44 3 v (l.length + [((3 : Int), (⟨#[116, 114, 117, 101]⟩ : ByteArray), (0 : Int))].length) (flatC l ++ flatC [(3, ⟨#[116, 114, 117, 101]⟩, 0)])) (hs : ∀ d ∈ l, d.2.1.size ≤ 60) :
    w8.ownsRow base 44 3 v (l ++ [((3 : Int), (⟨#[116, 114, 117, 101]⟩ : ByteArray), (0 : Int))]).length (flatC (l ++ [(3, ⟨#[116, 114, 117, 101]⟩, 0)])) ∧
    (∀ d ∈ l ++ [((3 : Int), (⟨#[116, 114, 117, 101]⟩ : ByteArray), (0 : Int))], d.2.1.size ≤ 60) ∧ (l ++ [((3 : Int), (⟨#[116, 114, 117, 101]⟩ : ByteArray), (0 : Int))]).length = l.length + 1 ∧ nmC (l ++ [((3 : Int), (⟨#[116, 114, 117, 101]⟩ : ByteArray), (0 : Int))]) ≤ nmC l := by
  refine ⟨by rw [flatC_append, List.length_append]; exact h, ?_, by simp, by rw [nmC_append, nmC_leaf _ (Int.le_refl 0)]; omega⟩
  intro d hd
  rw [List.mem_append, List.mem_singleton] at hd
  rcases hd with hd | rfl
  · exact hs d hd
  · show (⟨#[116, 114, 117, 101]⟩ : ByteArray).size ≤ 60
    decide
theorem val_txt (m : Nat) (h : m < 4) : ∃ t : ByteArray, t.size ≤ 60 ∧ (#[Value.string ⟨#[]⟩, .string ⟨#[97]⟩, .string ⟨#[65, 98]⟩, .string ⟨#[122, 122]⟩] : Array Value)[m]? = some (.string t) := by
  match m, h with
  | 0, _ => exact ⟨_, by decide, rfl⟩
  | 1, _ => exact ⟨_, by decide, rfl⟩
  | 2, _ => exact ⟨_, by decide, rfl⟩
  | 3, _ => exact ⟨_, by decide, rfl⟩
theorem val_tru (m : Nat) (h : m < 2) : ∃ t : ByteArray, t.size ≤ 60 ∧ (#[Value.string ⟨#[116, 114, 117, 101]⟩, .string ⟨#[102, 97, 108, 115, 101]⟩] : Array Value)[m]? = some (.string t) := by
  match m, h with
  | 0, _ => exact ⟨_, by decide, rfl⟩
  | 1, _ => exact ⟨_, by decide, rfl⟩
theorem val_knd (m : Nat) (h : m < 5) : ∃ t : Nat, t ≤ 3 ∧ (#[Value.int .i64 0, .int .i64 0, .int .i64 1, .int .i64 2, .int .i64 3] : Array Value)[m]? = some (.int .i64 (t : Int)) := by
  match m, h with
  | 0, _ => exact ⟨0, by decide, rfl⟩
  | 1, _ => exact ⟨0, by decide, rfl⟩
  | 2, _ => exact ⟨1, by decide, rfl⟩
  | 3, _ => exact ⟨2, by decide, rfl⟩
  | 4, _ => exact ⟨3, by decide, rfl⟩
/-- A drawn value of a depth. -/
def ValAny (deep : Nat) : Prop := ∀ (R p : Nat) (n : Int) (w : World), p + kv deep < 1073741824 → 0 ≤ n → n ≤ 1000 → Rdm w R p →
  Calls Tryz.prog 78 #[.pointer (some ⟨R, 0, none⟩), .int .i64 (deep : Int), .int .i64 n] w (ValD R p (kv deep) (cv deep) n w)

set_option maxRecDepth 100000 in
set_option maxHeartbeats 8000000 in
theorem value_step (d : Nat) (hd5 : d ≤ 5) (ih : 1 ≤ d → ValAny d) : ValAny (d + 1) := by
  intro R p n w hp hn0 hn1 h
  have HLT := Lib.hid h.lt
  have HKV := Lib.hid (show kv (d + 1) = 20 + 3 * kv d from rfl)
  have hcp := cv_pos (d + 1)
  have HCP := Lib.hid hcp
  obtain ⟨i0, hi, hz0, hz1, hz2⟩ := info_parts infoC
  have hp20 : p + 20 < 1073741824 := by have := HKV.out; omega
  clear hcp
  go_enter Tryz.func78, Tryz.ntmps78
  go_wp2_with fail
  refine (pick_any R p 5 _ (by omega) ((h.kept (World.grownBy_alloc w (.cells #[] 44) none) (by simp)).kept (World.grownBy_alloc (w.alloc (.cells #[] 44)) _ none) (by simp))).mono ?_
  rintro e w1 ⟨j, rfl, hj0, hj1, -, hr1, hg1, hs1⟩
  have hj2 := hj1 (by omega)
  obtain ⟨j1, rfl⟩ := Int.eq_ofNat_of_zero_le hj0
  obtain ⟨k, hk, hlit⟩ := val_knd j1 (by omega)
  have hcell : w1.cell? ⟨w.heap.size + 1, j1, none⟩ = some (.int .i64 (k : Int)) := by
    have hq := lit_cell (w := w.alloc (.cells #[] 44)) (by have := HLT.out; simp; omega) hg1 hlit
    simpa using hq
  have HG1 := Lib.hid (grown_trans (grown_alloc (World.grownBy_alloc w (.cells #[] 44) (some R)) _) hg1)
  clear hj1 hg1 hs1 hlit
  have hk4 : k = 0 ∨ k = 1 ∨ k = 2 ∨ k = 3 := by omega
  clear hk
  rcases hk4 with rfl | rfl | rfl | rfl
  · go_wp2_with fail
    refine (fraction_any R (p + 1) 0 _ (by omega) (by omega) (by omega) hr1).mono ?_
    rintro e w2 ⟨ft, fb, rfl, hr2, hg2⟩
    have HG2 := Lib.hid (grown_trans HG1.out hg2)
    clear hg2 hcell
    go_wp2_with fail
    refine (fractionText_spec ft fb _).mono ?_
    rintro e w9 ⟨rfl, hb9⟩
    have hr9 := hr2.below hb9
    have HG9 := Lib.hid (grown_belowV HG2.out hb9)
    have ht : (⟨(textF ft fb).toArray⟩ : ByteArray).size ≤ 60 := by
      have := textF_len60 ft fb
      show (textF ft fb).toArray.size ≤ 60
      simpa using this
    generalize (⟨(textF ft fb).toArray⟩ : ByteArray) = t at ht ⊢
    clear hb9 hr2 HG2
    go_wp2_with fail
    obtain ⟨lx, hlx⟩ : ∃ l : List Cl, l = [((1 : Int), t, (0 : Int))] := ⟨_, rfl⟩
    have hl1 : 1 ≤ lx.length := by rw [hlx]; exact Nat.le_refl _
    have HSH := Lib.hid (show ∀ c ∈ lx, c.2.1.size ≤ 60 from fun c hc => by rw [hlx, List.mem_singleton] at hc; subst hc; exact ht)
    have hlc : lx.length = 1 := by rw [hlx]; rfl
    have hnm : nmC lx = 0 := by rw [hlx]; exact nmC_leaf _ (Int.le_refl 0)
    have HO := Lib.hid (show (w9.alloc (.cells #[.int .i64 1, .string t, .int .i64 0] 44)).ownsRow w.heap.size 44 3 (.slice (some ⟨w9.heap.size, 0, none⟩) 1 1) lx.length (flatC lx) by rw [hlx]; exact World.ownsRow_lit (base := w.heap.size) w9 #[.int .i64 1, .string t, .int .i64 0] 1 HG9.out.size (by unfold maxLen; omega) rfl)
    have HR := Lib.hid (hr9.kept (World.grownBy_alloc w9 (.cells #[.int .i64 1, .string t, .int .i64 0] 44) none) (by simp))
    have HG := Lib.hid (grown_alloc HG9.out (.cells #[.int .i64 1, .string t, .int .i64 0] 44))
    clear hlx hr9
    generalize w9.alloc (.cells #[.int .i64 1, .string t, .int .i64 0] 44) = wz at HO HR HG ⊢
    generalize w9.heap.size = gx at HO ⊢
    go_wp2_with fail
    refine (odd_any R (p + 1 + 8) n _ (by omega) (by omega) (by omega) HR.out).mono ?_
    rintro e wa ⟨bo, rfl, hbo, hra, hga, -⟩
    have HBO := Lib.hid hbo; clear hbo
    have HOA := Lib.hid (HO.out.kept hga (.inr (by intro he; have := (HO.out.lt _ he).1; have := HLT.out; omega)))
    have HRA := Lib.hid hra; have HGA := Lib.hid (grown_trans HG.out hga)
    clear hra hga
    cases bo with
    | false =>
      go_wp2
      go_ret
      exact ⟨_, lx, rfl, HOA.out, HSH.out, hl1, ⟨by have h2 := (show lx.length ≤ cv (d + 1) ∧ 3 * nmC lx + 1 ≤ cv (d + 1) from by have := HCP.out; omega); omega, fun _ => by have h2 := (show lx.length ≤ cv (d + 1) ∧ 3 * nmC lx + 1 ≤ cv (d + 1) from by have := HCP.out; omega); omega, by have h2 := (show lx.length ≤ cv (d + 1) ∧ 3 * nmC lx + 1 ≤ cv (d + 1) from by have := HCP.out; omega); omega⟩, HRA.out.mono (by have := HKV.out; omega), HGA.out⟩
    | true =>
      go_wp2_with fail
      refine (pick_any R (p + 1 + 8 + 1) 3 _ (by omega) HRA.out).mono ?_
      rintro e wb ⟨m, rfl, hm0, hm1, -, hrb, hgb, -⟩
      have hm2 := hm1 (by omega)
      have HOB := Lib.hid (HOA.out.kept hgb (.inr (by intro he; have := (HOA.out.lt _ he).1; have := HLT.out; omega)))
      have HRB := Lib.hid (hrb.mono (show _ ≤ p + 1 + 8 + 1 + 1 by omega)); have HGB := Lib.hid (grown_trans HGA.out hgb)
      clear hrb hgb hm1
      have h3 : m = 0 ∨ m = 1 ∨ m = 2 := by omega
      clear hm0 hm2
      have HON := Lib.hid (show wb.ownsRow w.heap.size 44 3 (.slice (some ⟨gx, 0, none⟩) 1 1) 1 (flatC lx) from (by have h := HOB.out; rw [hlc] at h; exact h))
      have hgw := (HOB.out.lt gx rfl).1
      have hgR : R < gx := by have := HLT.out; omega
      have hcc : ∀ j, j < 3 → ∃ u, wb.cell? ⟨gx, j, none⟩ = some u := fun j hj => by
        rw [HON.out.cellAt j (by omega), List.getElem?_eq_getElem (by have := HON.out.1; omega)]; exact ⟨_, rfl⟩
      obtain ⟨y0, e0⟩ := hcc 0 (by omega)
      obtain ⟨y1, e1⟩ := hcc 1 (by omega)
      obtain ⟨y2, e2⟩ := hcc 2 (by omega)
      have z0 := HON.out.frozenAt 0
      have z1 := HON.out.frozenAt 1
      have z2 := HON.out.frozenAt 2
      clear hcc
      rcases h3 with rfl | rfl | rfl
      · have HB1 := Lib.hid (bend_word HON.out hlc.symm hl1 HSH.out)
        have HRX := Lib.hid (HRB.out.setc hgR 1 (.string ⟨#[49, 47, 50]⟩))
        have HGX := Lib.hid (grown_setc HGB.out hgw 1 (.string ⟨#[49, 47, 50]⟩))
        go_wp2
        go_ret
        exact ⟨_, _, rfl, HB1.out.1, HB1.out.2.1, by have := HB1.out.2.2.1; omega, ⟨by have h1 := HB1.out.2.2; have h2 := (show lx.length ≤ cv (d + 1) ∧ 3 * nmC lx + 1 ≤ cv (d + 1) from by have := HCP.out; omega); omega, fun hn => (by have := HBO.out hn; cases this), by have h1 := HB1.out.2.2; have h2 := (show lx.length ≤ cv (d + 1) ∧ 3 * nmC lx + 1 ≤ cv (d + 1) from by have := HCP.out; omega); omega⟩, HRX.out.mono (by have := HKV.out; omega), HGX.out⟩
      · have HB1 := Lib.hid (bend_cell HON.out hlc.symm hl1 HSH.out)
        have HRX := Lib.hid (((HRB.out.setc hgR 0 (.int .i64 4)).setc hgR 1 (.string ⟨#[97]⟩)).setc hgR 2 (.int .i64 0))
        have HGX := Lib.hid (grown_setc (grown_setc (grown_setc HGB.out hgw 0 (.int .i64 4)) hgw 1 (.string ⟨#[97]⟩)) hgw 2 (.int .i64 0))
        go_wp2
        go_ret
        exact ⟨_, _, rfl, HB1.out.1, HB1.out.2.1, by have := HB1.out.2.2.1; omega, ⟨by have h1 := HB1.out.2.2; have h2 := (show lx.length ≤ cv (d + 1) ∧ 3 * nmC lx + 1 ≤ cv (d + 1) from by have := HCP.out; omega); omega, fun hn => (by have := HBO.out hn; cases this), by have h1 := HB1.out.2.2; have h2 := (show lx.length ≤ cv (d + 1) ∧ 3 * nmC lx + 1 ≤ cv (d + 1) from by have := HCP.out; omega); omega⟩, HRX.out.mono (by have := HKV.out; omega), HGX.out⟩
      · have hbw : w.heap.size ≤ wb.heap.size := HGB.out.size
        go_wp2_with (at_builtin; go_loud (refine append_rowC rfl _ _ 26 rfl w.heap.size 44 i0 (.agg #[.int .i64 0, .string ByteArray.empty, .int .i64 0]) 32 Tryz.underlying26 hi hz0 hz1 hz2 (by decide) (.slice (some ⟨gx, 0, none⟩) 1 1) lx.length (flatC lx) rfl (HOB.out.alloc _) _ [(3, ⟨#[116, 114, 117, 101]⟩, 0)] rfl (RowC_litV _ _ _ _) (by unfold maxLen; simp; omega) (by simp; omega) (by simp; omega) ?_; intro v8 w8 hown8 hgrow8; have HB1 := Lib.hid (bend_more hown8 HSH.out); have HRX := Lib.hid ((HRB.out.kept (World.grownBy_alloc wb (.cells #[.int .i64 3, .string ⟨#[116, 114, 117, 101]⟩, .int .i64 0] 44) none) (by simp)).kept hgrow8 (fun k hk => (by have hk' : gx = k := (by simpa [Value.ownBlock] using hk); omega))); have HGX := Lib.hid (grown_ownV (grown_alloc HGB.out (.cells #[.int .i64 3, .string ⟨#[116, 114, 117, 101]⟩, .int .i64 0] 44)) hgrow8 (fun x hx => (HOB.out.lt x hx).1)); clear hown8 hgrow8))
        go_wp2
        go_ret
        exact ⟨_, _, rfl, HB1.out.1, HB1.out.2.1, by have := HB1.out.2.2.1; omega, ⟨by have h1 := HB1.out.2.2; have h2 := (show lx.length ≤ cv (d + 1) ∧ 3 * nmC lx + 1 ≤ cv (d + 1) from by have := HCP.out; omega); omega, fun hn => (by have := HBO.out hn; cases this), by have h1 := HB1.out.2.2; have h2 := (show lx.length ≤ cv (d + 1) ∧ 3 * nmC lx + 1 ≤ cv (d + 1) from by have := HCP.out; omega); omega⟩, HRX.out.mono (by have := HKV.out; omega), HGX.out⟩
  · go_wp2_with fail
    refine (pick_any R (p + 1) 4 _ (by omega) (hr1.kept (World.grownBy_alloc w1 _ none) (by simp))).mono ?_
    rintro e w9 ⟨i, rfl, hi0, hi1, -, hr9, hg9, -⟩
    have hi2 := hi1 (by omega)
    obtain ⟨i1, rfl⟩ := Int.eq_ofNat_of_zero_le hi0
    obtain ⟨t, ht, hlit⟩ := val_txt i1 (by omega)
    have hcell9 := lit_cell hr1.lt hg9 hlit
    have HG9 := Lib.hid (grown_trans (grown_alloc HG1.out _) hg9)
    clear hi1 hg9 hlit
    go_wp2_with fail
    clear hcell9 hcell
    obtain ⟨lx, hlx⟩ : ∃ l : List Cl, l = [((2 : Int), t, (0 : Int))] := ⟨_, rfl⟩
    have hl1 : 1 ≤ lx.length := by rw [hlx]; exact Nat.le_refl _
    have HSH := Lib.hid (show ∀ c ∈ lx, c.2.1.size ≤ 60 from fun c hc => by rw [hlx, List.mem_singleton] at hc; subst hc; exact ht)
    have hlc : lx.length = 1 := by rw [hlx]; rfl
    have hnm : nmC lx = 0 := by rw [hlx]; exact nmC_leaf _ (Int.le_refl 0)
    have HO := Lib.hid (show (w9.alloc (.cells #[.int .i64 2, .string t, .int .i64 0] 44)).ownsRow w.heap.size 44 3 (.slice (some ⟨w9.heap.size, 0, none⟩) 1 1) lx.length (flatC lx) by rw [hlx]; exact World.ownsRow_lit (base := w.heap.size) w9 #[.int .i64 2, .string t, .int .i64 0] 1 HG9.out.size (by unfold maxLen; omega) rfl)
    have HR := Lib.hid (hr9.kept (World.grownBy_alloc w9 (.cells #[.int .i64 2, .string t, .int .i64 0] 44) none) (by simp))
    have HG := Lib.hid (grown_alloc HG9.out (.cells #[.int .i64 2, .string t, .int .i64 0] 44))
    clear hlx hr9
    generalize w9.alloc (.cells #[.int .i64 2, .string t, .int .i64 0] 44) = wz at HO HR HG ⊢
    generalize w9.heap.size = gx at HO ⊢
    go_wp2_with fail
    refine (odd_any R (p + 1 + 1) n _ (by omega) (by omega) (by omega) HR.out).mono ?_
    rintro e wa ⟨bo, rfl, hbo, hra, hga, -⟩
    have HBO := Lib.hid hbo; clear hbo
    have HOA := Lib.hid (HO.out.kept hga (.inr (by intro he; have := (HO.out.lt _ he).1; have := HLT.out; omega)))
    have HRA := Lib.hid hra; have HGA := Lib.hid (grown_trans HG.out hga)
    clear hra hga
    cases bo with
    | false =>
      go_wp2
      go_ret
      exact ⟨_, lx, rfl, HOA.out, HSH.out, hl1, ⟨by have h2 := (show lx.length ≤ cv (d + 1) ∧ 3 * nmC lx + 1 ≤ cv (d + 1) from by have := HCP.out; omega); omega, fun _ => by have h2 := (show lx.length ≤ cv (d + 1) ∧ 3 * nmC lx + 1 ≤ cv (d + 1) from by have := HCP.out; omega); omega, by have h2 := (show lx.length ≤ cv (d + 1) ∧ 3 * nmC lx + 1 ≤ cv (d + 1) from by have := HCP.out; omega); omega⟩, HRA.out.mono (by have := HKV.out; omega), HGA.out⟩
    | true =>
      go_wp2_with fail
      refine (pick_any R (p + 1 + 1 + 1) 3 _ (by omega) HRA.out).mono ?_
      rintro e wb ⟨m, rfl, hm0, hm1, -, hrb, hgb, -⟩
      have hm2 := hm1 (by omega)
      have HOB := Lib.hid (HOA.out.kept hgb (.inr (by intro he; have := (HOA.out.lt _ he).1; have := HLT.out; omega)))
      have HRB := Lib.hid (hrb.mono (show _ ≤ p + 1 + 1 + 1 + 1 by omega)); have HGB := Lib.hid (grown_trans HGA.out hgb)
      clear hrb hgb hm1
      have h3 : m = 0 ∨ m = 1 ∨ m = 2 := by omega
      clear hm0 hm2
      have HON := Lib.hid (show wb.ownsRow w.heap.size 44 3 (.slice (some ⟨gx, 0, none⟩) 1 1) 1 (flatC lx) from (by have h := HOB.out; rw [hlc] at h; exact h))
      have hgw := (HOB.out.lt gx rfl).1
      have hgR : R < gx := by have := HLT.out; omega
      have hcc : ∀ j, j < 3 → ∃ u, wb.cell? ⟨gx, j, none⟩ = some u := fun j hj => by
        rw [HON.out.cellAt j (by omega), List.getElem?_eq_getElem (by have := HON.out.1; omega)]; exact ⟨_, rfl⟩
      obtain ⟨y0, e0⟩ := hcc 0 (by omega)
      obtain ⟨y1, e1⟩ := hcc 1 (by omega)
      obtain ⟨y2, e2⟩ := hcc 2 (by omega)
      have z0 := HON.out.frozenAt 0
      have z1 := HON.out.frozenAt 1
      have z2 := HON.out.frozenAt 2
      clear hcc
      rcases h3 with rfl | rfl | rfl
      · have HB1 := Lib.hid (bend_word HON.out hlc.symm hl1 HSH.out)
        have HRX := Lib.hid (HRB.out.setc hgR 1 (.string ⟨#[49, 47, 50]⟩))
        have HGX := Lib.hid (grown_setc HGB.out hgw 1 (.string ⟨#[49, 47, 50]⟩))
        go_wp2
        go_ret
        exact ⟨_, _, rfl, HB1.out.1, HB1.out.2.1, by have := HB1.out.2.2.1; omega, ⟨by have h1 := HB1.out.2.2; have h2 := (show lx.length ≤ cv (d + 1) ∧ 3 * nmC lx + 1 ≤ cv (d + 1) from by have := HCP.out; omega); omega, fun hn => (by have := HBO.out hn; cases this), by have h1 := HB1.out.2.2; have h2 := (show lx.length ≤ cv (d + 1) ∧ 3 * nmC lx + 1 ≤ cv (d + 1) from by have := HCP.out; omega); omega⟩, HRX.out.mono (by have := HKV.out; omega), HGX.out⟩
      · have HB1 := Lib.hid (bend_cell HON.out hlc.symm hl1 HSH.out)
        have HRX := Lib.hid (((HRB.out.setc hgR 0 (.int .i64 4)).setc hgR 1 (.string ⟨#[97]⟩)).setc hgR 2 (.int .i64 0))
        have HGX := Lib.hid (grown_setc (grown_setc (grown_setc HGB.out hgw 0 (.int .i64 4)) hgw 1 (.string ⟨#[97]⟩)) hgw 2 (.int .i64 0))
        go_wp2
        go_ret
        exact ⟨_, _, rfl, HB1.out.1, HB1.out.2.1, by have := HB1.out.2.2.1; omega, ⟨by have h1 := HB1.out.2.2; have h2 := (show lx.length ≤ cv (d + 1) ∧ 3 * nmC lx + 1 ≤ cv (d + 1) from by have := HCP.out; omega); omega, fun hn => (by have := HBO.out hn; cases this), by have h1 := HB1.out.2.2; have h2 := (show lx.length ≤ cv (d + 1) ∧ 3 * nmC lx + 1 ≤ cv (d + 1) from by have := HCP.out; omega); omega⟩, HRX.out.mono (by have := HKV.out; omega), HGX.out⟩
      · have hbw : w.heap.size ≤ wb.heap.size := HGB.out.size
        go_wp2_with (at_builtin; go_loud (refine append_rowC rfl _ _ 26 rfl w.heap.size 44 i0 (.agg #[.int .i64 0, .string ByteArray.empty, .int .i64 0]) 32 Tryz.underlying26 hi hz0 hz1 hz2 (by decide) (.slice (some ⟨gx, 0, none⟩) 1 1) lx.length (flatC lx) rfl (HOB.out.alloc _) _ [(3, ⟨#[116, 114, 117, 101]⟩, 0)] rfl (RowC_litV _ _ _ _) (by unfold maxLen; simp; omega) (by simp; omega) (by simp; omega) ?_; intro v8 w8 hown8 hgrow8; have HB1 := Lib.hid (bend_more hown8 HSH.out); have HRX := Lib.hid ((HRB.out.kept (World.grownBy_alloc wb (.cells #[.int .i64 3, .string ⟨#[116, 114, 117, 101]⟩, .int .i64 0] 44) none) (by simp)).kept hgrow8 (fun k hk => (by have hk' : gx = k := (by simpa [Value.ownBlock] using hk); omega))); have HGX := Lib.hid (grown_ownV (grown_alloc HGB.out (.cells #[.int .i64 3, .string ⟨#[116, 114, 117, 101]⟩, .int .i64 0] 44)) hgrow8 (fun x hx => (HOB.out.lt x hx).1)); clear hown8 hgrow8))
        go_wp2
        go_ret
        exact ⟨_, _, rfl, HB1.out.1, HB1.out.2.1, by have := HB1.out.2.2.1; omega, ⟨by have h1 := HB1.out.2.2; have h2 := (show lx.length ≤ cv (d + 1) ∧ 3 * nmC lx + 1 ≤ cv (d + 1) from by have := HCP.out; omega); omega, fun hn => (by have := HBO.out hn; cases this), by have h1 := HB1.out.2.2; have h2 := (show lx.length ≤ cv (d + 1) ∧ 3 * nmC lx + 1 ≤ cv (d + 1) from by have := HCP.out; omega); omega⟩, HRX.out.mono (by have := HKV.out; omega), HGX.out⟩
  · go_wp2_with fail
    refine (pick_any R (p + 1) 2 _ (by omega) (hr1.kept (World.grownBy_alloc w1 _ none) (by simp))).mono ?_
    rintro e w9 ⟨i, rfl, hi0, hi1, -, hr9, hg9, -⟩
    have hi2 := hi1 (by omega)
    obtain ⟨i1, rfl⟩ := Int.eq_ofNat_of_zero_le hi0
    obtain ⟨t, ht, hlit⟩ := val_tru i1 (by omega)
    have hcell9 := lit_cell hr1.lt hg9 hlit
    have HG9 := Lib.hid (grown_trans (grown_alloc HG1.out _) hg9)
    clear hi1 hg9 hlit
    go_wp2_with fail
    clear hcell9 hcell
    obtain ⟨lx, hlx⟩ : ∃ l : List Cl, l = [((3 : Int), t, (0 : Int))] := ⟨_, rfl⟩
    have hl1 : 1 ≤ lx.length := by rw [hlx]; exact Nat.le_refl _
    have HSH := Lib.hid (show ∀ c ∈ lx, c.2.1.size ≤ 60 from fun c hc => by rw [hlx, List.mem_singleton] at hc; subst hc; exact ht)
    have hlc : lx.length = 1 := by rw [hlx]; rfl
    have hnm : nmC lx = 0 := by rw [hlx]; exact nmC_leaf _ (Int.le_refl 0)
    have HO := Lib.hid (show (w9.alloc (.cells #[.int .i64 3, .string t, .int .i64 0] 44)).ownsRow w.heap.size 44 3 (.slice (some ⟨w9.heap.size, 0, none⟩) 1 1) lx.length (flatC lx) by rw [hlx]; exact World.ownsRow_lit (base := w.heap.size) w9 #[.int .i64 3, .string t, .int .i64 0] 1 HG9.out.size (by unfold maxLen; omega) rfl)
    have HR := Lib.hid (hr9.kept (World.grownBy_alloc w9 (.cells #[.int .i64 3, .string t, .int .i64 0] 44) none) (by simp))
    have HG := Lib.hid (grown_alloc HG9.out (.cells #[.int .i64 3, .string t, .int .i64 0] 44))
    clear hlx hr9
    generalize w9.alloc (.cells #[.int .i64 3, .string t, .int .i64 0] 44) = wz at HO HR HG ⊢
    generalize w9.heap.size = gx at HO ⊢
    go_wp2_with fail
    refine (odd_any R (p + 1 + 1) n _ (by omega) (by omega) (by omega) HR.out).mono ?_
    rintro e wa ⟨bo, rfl, hbo, hra, hga, -⟩
    have HBO := Lib.hid hbo; clear hbo
    have HOA := Lib.hid (HO.out.kept hga (.inr (by intro he; have := (HO.out.lt _ he).1; have := HLT.out; omega)))
    have HRA := Lib.hid hra; have HGA := Lib.hid (grown_trans HG.out hga)
    clear hra hga
    cases bo with
    | false =>
      go_wp2
      go_ret
      exact ⟨_, lx, rfl, HOA.out, HSH.out, hl1, ⟨by have h2 := (show lx.length ≤ cv (d + 1) ∧ 3 * nmC lx + 1 ≤ cv (d + 1) from by have := HCP.out; omega); omega, fun _ => by have h2 := (show lx.length ≤ cv (d + 1) ∧ 3 * nmC lx + 1 ≤ cv (d + 1) from by have := HCP.out; omega); omega, by have h2 := (show lx.length ≤ cv (d + 1) ∧ 3 * nmC lx + 1 ≤ cv (d + 1) from by have := HCP.out; omega); omega⟩, HRA.out.mono (by have := HKV.out; omega), HGA.out⟩
    | true =>
      go_wp2_with fail
      refine (pick_any R (p + 1 + 1 + 1) 3 _ (by omega) HRA.out).mono ?_
      rintro e wb ⟨m, rfl, hm0, hm1, -, hrb, hgb, -⟩
      have hm2 := hm1 (by omega)
      have HOB := Lib.hid (HOA.out.kept hgb (.inr (by intro he; have := (HOA.out.lt _ he).1; have := HLT.out; omega)))
      have HRB := Lib.hid (hrb.mono (show _ ≤ p + 1 + 1 + 1 + 1 by omega)); have HGB := Lib.hid (grown_trans HGA.out hgb)
      clear hrb hgb hm1
      have h3 : m = 0 ∨ m = 1 ∨ m = 2 := by omega
      clear hm0 hm2
      have HON := Lib.hid (show wb.ownsRow w.heap.size 44 3 (.slice (some ⟨gx, 0, none⟩) 1 1) 1 (flatC lx) from (by have h := HOB.out; rw [hlc] at h; exact h))
      have hgw := (HOB.out.lt gx rfl).1
      have hgR : R < gx := by have := HLT.out; omega
      have hcc : ∀ j, j < 3 → ∃ u, wb.cell? ⟨gx, j, none⟩ = some u := fun j hj => by
        rw [HON.out.cellAt j (by omega), List.getElem?_eq_getElem (by have := HON.out.1; omega)]; exact ⟨_, rfl⟩
      obtain ⟨y0, e0⟩ := hcc 0 (by omega)
      obtain ⟨y1, e1⟩ := hcc 1 (by omega)
      obtain ⟨y2, e2⟩ := hcc 2 (by omega)
      have z0 := HON.out.frozenAt 0
      have z1 := HON.out.frozenAt 1
      have z2 := HON.out.frozenAt 2
      clear hcc
      rcases h3 with rfl | rfl | rfl
      · have HB1 := Lib.hid (bend_word HON.out hlc.symm hl1 HSH.out)
        have HRX := Lib.hid (HRB.out.setc hgR 1 (.string ⟨#[49, 47, 50]⟩))
        have HGX := Lib.hid (grown_setc HGB.out hgw 1 (.string ⟨#[49, 47, 50]⟩))
        go_wp2
        go_ret
        exact ⟨_, _, rfl, HB1.out.1, HB1.out.2.1, by have := HB1.out.2.2.1; omega, ⟨by have h1 := HB1.out.2.2; have h2 := (show lx.length ≤ cv (d + 1) ∧ 3 * nmC lx + 1 ≤ cv (d + 1) from by have := HCP.out; omega); omega, fun hn => (by have := HBO.out hn; cases this), by have h1 := HB1.out.2.2; have h2 := (show lx.length ≤ cv (d + 1) ∧ 3 * nmC lx + 1 ≤ cv (d + 1) from by have := HCP.out; omega); omega⟩, HRX.out.mono (by have := HKV.out; omega), HGX.out⟩
      · have HB1 := Lib.hid (bend_cell HON.out hlc.symm hl1 HSH.out)
        have HRX := Lib.hid (((HRB.out.setc hgR 0 (.int .i64 4)).setc hgR 1 (.string ⟨#[97]⟩)).setc hgR 2 (.int .i64 0))
        have HGX := Lib.hid (grown_setc (grown_setc (grown_setc HGB.out hgw 0 (.int .i64 4)) hgw 1 (.string ⟨#[97]⟩)) hgw 2 (.int .i64 0))
        go_wp2
        go_ret
        exact ⟨_, _, rfl, HB1.out.1, HB1.out.2.1, by have := HB1.out.2.2.1; omega, ⟨by have h1 := HB1.out.2.2; have h2 := (show lx.length ≤ cv (d + 1) ∧ 3 * nmC lx + 1 ≤ cv (d + 1) from by have := HCP.out; omega); omega, fun hn => (by have := HBO.out hn; cases this), by have h1 := HB1.out.2.2; have h2 := (show lx.length ≤ cv (d + 1) ∧ 3 * nmC lx + 1 ≤ cv (d + 1) from by have := HCP.out; omega); omega⟩, HRX.out.mono (by have := HKV.out; omega), HGX.out⟩
      · have hbw : w.heap.size ≤ wb.heap.size := HGB.out.size
        go_wp2_with (at_builtin; go_loud (refine append_rowC rfl _ _ 26 rfl w.heap.size 44 i0 (.agg #[.int .i64 0, .string ByteArray.empty, .int .i64 0]) 32 Tryz.underlying26 hi hz0 hz1 hz2 (by decide) (.slice (some ⟨gx, 0, none⟩) 1 1) lx.length (flatC lx) rfl (HOB.out.alloc _) _ [(3, ⟨#[116, 114, 117, 101]⟩, 0)] rfl (RowC_litV _ _ _ _) (by unfold maxLen; simp; omega) (by simp; omega) (by simp; omega) ?_; intro v8 w8 hown8 hgrow8; have HB1 := Lib.hid (bend_more hown8 HSH.out); have HRX := Lib.hid ((HRB.out.kept (World.grownBy_alloc wb (.cells #[.int .i64 3, .string ⟨#[116, 114, 117, 101]⟩, .int .i64 0] 44) none) (by simp)).kept hgrow8 (fun k hk => (by have hk' : gx = k := (by simpa [Value.ownBlock] using hk); omega))); have HGX := Lib.hid (grown_ownV (grown_alloc HGB.out (.cells #[.int .i64 3, .string ⟨#[116, 114, 117, 101]⟩, .int .i64 0] 44)) hgrow8 (fun x hx => (HOB.out.lt x hx).1)); clear hown8 hgrow8))
        go_wp2
        go_ret
        exact ⟨_, _, rfl, HB1.out.1, HB1.out.2.1, by have := HB1.out.2.2.1; omega, ⟨by have h1 := HB1.out.2.2; have h2 := (show lx.length ≤ cv (d + 1) ∧ 3 * nmC lx + 1 ≤ cv (d + 1) from by have := HCP.out; omega); omega, fun hn => (by have := HBO.out hn; cases this), by have h1 := HB1.out.2.2; have h2 := (show lx.length ≤ cv (d + 1) ∧ 3 * nmC lx + 1 ≤ cv (d + 1) from by have := HCP.out; omega); omega⟩, HRX.out.mono (by have := HKV.out; omega), HGX.out⟩
  · go_wp2_with fail
    refine (pick_any R (p + 1) 4 _ (by omega) hr1).mono ?_
    rintro e w9 ⟨i, rfl, hi0, hi1, -, hr9, hg9, -⟩
    have hi2 := hi1 (by omega)
    obtain ⟨i1, rfl⟩ := Int.eq_ofNat_of_zero_le hi0
    have HG9 := Lib.hid (grown_trans HG1.out hg9)
    clear hi1 hg9 hcell
    obtain ⟨kd, hkd⟩ : ∃ kd, kv d = kd := ⟨_, rfl⟩
    obtain ⟨cd, hcd⟩ : ∃ cd, cv d = cd := ⟨_, rfl⟩
    have hcd1 : 1 ≤ cd := by rw [← hcd]; exact cv_pos d
    have hcd9 : cd ≤ 400 := by rw [← hcd]; exact cv_le d hd5
    have HKD := Lib.hid hkd; have HCD := Lib.hid hcd
    have HKV2 := Lib.hid (show kv (d + 1) = 20 + 3 * kd by rw [← hkd]; rfl)
    clear hkd hcd
    by_cases hd0 : d = 0
    · have hdd : (d : Int) + 1 ≤ 1 := by omega
      have HCV := Lib.hid (show cv (d + 1) = 1 by rw [cv, if_pos hd0])
      have HD0 := Lib.hid hd0; clear hd0
      go_wp2_with fail
      have ht : (⟨#[]⟩ : ByteArray).size ≤ 60 := by decide
      obtain ⟨lx, hlx⟩ : ∃ l : List Cl, l = [((5 : Int), ⟨#[]⟩, (0 : Int))] := ⟨_, rfl⟩
      have hl1 : 1 ≤ lx.length := by rw [hlx]; exact Nat.le_refl _
      have HSH := Lib.hid (show ∀ c ∈ lx, c.2.1.size ≤ 60 from fun c hc => by rw [hlx, List.mem_singleton] at hc; subst hc; exact ht)
      have hlc : lx.length = 1 := by rw [hlx]; rfl
      have hnm : nmC lx = 0 := by rw [hlx]; exact nmC_leaf _ (Int.le_refl 0)
      have HO := Lib.hid (show (w9.alloc (.cells #[.int .i64 5, .string ⟨#[]⟩, .int .i64 0] 44)).ownsRow w.heap.size 44 3 (.slice (some ⟨w9.heap.size, 0, none⟩) 1 1) lx.length (flatC lx) by rw [hlx]; exact World.ownsRow_lit (base := w.heap.size) w9 #[.int .i64 5, .string ⟨#[]⟩, .int .i64 0] 1 HG9.out.size (by unfold maxLen; omega) rfl)
      have HR := Lib.hid (hr9.kept (World.grownBy_alloc w9 (.cells #[.int .i64 5, .string ⟨#[]⟩, .int .i64 0] 44) none) (by simp))
      have HG := Lib.hid (grown_alloc HG9.out (.cells #[.int .i64 5, .string ⟨#[]⟩, .int .i64 0] 44))
      clear hlx hr9
      generalize w9.alloc (.cells #[.int .i64 5, .string ⟨#[]⟩, .int .i64 0] 44) = wz at HO HR HG ⊢
      generalize w9.heap.size = gx at HO ⊢
      refine wp_loop_rounds 1 ?_
      rw [rounds_succ]
      go_wp2_with fail
      refine (odd_any R (p + 1 + 1) n _ (by omega) (by omega) (by omega) HR.out).mono ?_
      rintro e wa ⟨bo, rfl, hbo, hra, hga, -⟩
      have HBO := Lib.hid hbo; clear hbo
      have HOA := Lib.hid (HO.out.kept hga (.inr (by intro he; have := (HO.out.lt _ he).1; have := HLT.out; omega)))
      have HRA := Lib.hid hra; have HGA := Lib.hid (grown_trans HG.out hga)
      clear hra hga
      cases bo with
      | false =>
        go_wp2
        go_ret
        exact ⟨_, lx, rfl, HOA.out, HSH.out, hl1, ⟨by have h2 := (show lx.length ≤ cv (d + 1) ∧ 3 * nmC lx + 1 ≤ cv (d + 1) from by have := HCP.out; omega); omega, fun _ => by have h2 := (show lx.length ≤ cv (d + 1) ∧ 3 * nmC lx + 1 ≤ cv (d + 1) from by have := HCP.out; omega); omega, by have h2 := (show lx.length ≤ cv (d + 1) ∧ 3 * nmC lx + 1 ≤ cv (d + 1) from by have := HCP.out; omega); omega⟩, HRA.out.mono (by have := HKV.out; omega), HGA.out⟩
      | true =>
        go_wp2_with fail
        refine (pick_any R (p + 1 + 1 + 1) 3 _ (by omega) HRA.out).mono ?_
        rintro e wb ⟨m, rfl, hm0, hm1, -, hrb, hgb, -⟩
        have hm2 := hm1 (by omega)
        have HOB := Lib.hid (HOA.out.kept hgb (.inr (by intro he; have := (HOA.out.lt _ he).1; have := HLT.out; omega)))
        have HRB := Lib.hid (hrb.mono (show _ ≤ p + 1 + 1 + 1 + 1 by omega)); have HGB := Lib.hid (grown_trans HGA.out hgb)
        clear hrb hgb hm1
        have h3 : m = 0 ∨ m = 1 ∨ m = 2 := by omega
        clear hm0 hm2
        have HON := Lib.hid (show wb.ownsRow w.heap.size 44 3 (.slice (some ⟨gx, 0, none⟩) 1 1) 1 (flatC lx) from (by have h := HOB.out; rw [hlc] at h; exact h))
        have hgw := (HOB.out.lt gx rfl).1
        have hgR : R < gx := by have := HLT.out; omega
        have hcc : ∀ j, j < 3 → ∃ u, wb.cell? ⟨gx, j, none⟩ = some u := fun j hj => by
          rw [HON.out.cellAt j (by omega), List.getElem?_eq_getElem (by have := HON.out.1; omega)]; exact ⟨_, rfl⟩
        obtain ⟨y0, e0⟩ := hcc 0 (by omega)
        obtain ⟨y1, e1⟩ := hcc 1 (by omega)
        obtain ⟨y2, e2⟩ := hcc 2 (by omega)
        have z0 := HON.out.frozenAt 0
        have z1 := HON.out.frozenAt 1
        have z2 := HON.out.frozenAt 2
        clear hcc
        rcases h3 with rfl | rfl | rfl
        · have HB1 := Lib.hid (bend_word HON.out hlc.symm hl1 HSH.out)
          have HRX := Lib.hid (HRB.out.setc hgR 1 (.string ⟨#[49, 47, 50]⟩))
          have HGX := Lib.hid (grown_setc HGB.out hgw 1 (.string ⟨#[49, 47, 50]⟩))
          go_wp2
          go_ret
          exact ⟨_, _, rfl, HB1.out.1, HB1.out.2.1, by have := HB1.out.2.2.1; omega, ⟨by have h1 := HB1.out.2.2; have h2 := (show lx.length ≤ cv (d + 1) ∧ 3 * nmC lx + 1 ≤ cv (d + 1) from by have := HCP.out; omega); omega, fun hn => (by have := HBO.out hn; cases this), by have h1 := HB1.out.2.2; have h2 := (show lx.length ≤ cv (d + 1) ∧ 3 * nmC lx + 1 ≤ cv (d + 1) from by have := HCP.out; omega); omega⟩, HRX.out.mono (by have := HKV.out; omega), HGX.out⟩
        · have HB1 := Lib.hid (bend_cell HON.out hlc.symm hl1 HSH.out)
          have HRX := Lib.hid (((HRB.out.setc hgR 0 (.int .i64 4)).setc hgR 1 (.string ⟨#[97]⟩)).setc hgR 2 (.int .i64 0))
          have HGX := Lib.hid (grown_setc (grown_setc (grown_setc HGB.out hgw 0 (.int .i64 4)) hgw 1 (.string ⟨#[97]⟩)) hgw 2 (.int .i64 0))
          go_wp2
          go_ret
          exact ⟨_, _, rfl, HB1.out.1, HB1.out.2.1, by have := HB1.out.2.2.1; omega, ⟨by have h1 := HB1.out.2.2; have h2 := (show lx.length ≤ cv (d + 1) ∧ 3 * nmC lx + 1 ≤ cv (d + 1) from by have := HCP.out; omega); omega, fun hn => (by have := HBO.out hn; cases this), by have h1 := HB1.out.2.2; have h2 := (show lx.length ≤ cv (d + 1) ∧ 3 * nmC lx + 1 ≤ cv (d + 1) from by have := HCP.out; omega); omega⟩, HRX.out.mono (by have := HKV.out; omega), HGX.out⟩
        · have hbw : w.heap.size ≤ wb.heap.size := HGB.out.size
          go_wp2_with (at_builtin; go_loud (refine append_rowC rfl _ _ 26 rfl w.heap.size 44 i0 (.agg #[.int .i64 0, .string ByteArray.empty, .int .i64 0]) 32 Tryz.underlying26 hi hz0 hz1 hz2 (by decide) (.slice (some ⟨gx, 0, none⟩) 1 1) lx.length (flatC lx) rfl (HOB.out.alloc _) _ [(3, ⟨#[116, 114, 117, 101]⟩, 0)] rfl (RowC_litV _ _ _ _) (by unfold maxLen; simp; omega) (by simp; omega) (by simp; omega) ?_; intro v8 w8 hown8 hgrow8; have HB1 := Lib.hid (bend_more hown8 HSH.out); have HRX := Lib.hid ((HRB.out.kept (World.grownBy_alloc wb (.cells #[.int .i64 3, .string ⟨#[116, 114, 117, 101]⟩, .int .i64 0] 44) none) (by simp)).kept hgrow8 (fun k hk => (by have hk' : gx = k := (by simpa [Value.ownBlock] using hk); omega))); have HGX := Lib.hid (grown_ownV (grown_alloc HGB.out (.cells #[.int .i64 3, .string ⟨#[116, 114, 117, 101]⟩, .int .i64 0] 44)) hgrow8 (fun x hx => (HOB.out.lt x hx).1)); clear hown8 hgrow8))
          go_wp2
          go_ret
          exact ⟨_, _, rfl, HB1.out.1, HB1.out.2.1, by have := HB1.out.2.2.1; omega, ⟨by have h1 := HB1.out.2.2; have h2 := (show lx.length ≤ cv (d + 1) ∧ 3 * nmC lx + 1 ≤ cv (d + 1) from by have := HCP.out; omega); omega, fun hn => (by have := HBO.out hn; cases this), by have h1 := HB1.out.2.2; have h2 := (show lx.length ≤ cv (d + 1) ∧ 3 * nmC lx + 1 ≤ cv (d + 1) from by have := HCP.out; omega); omega⟩, HRX.out.mono (by have := HKV.out; omega), HGX.out⟩
    · have hdd : ¬ ((d : Int) + 1 ≤ 1) := by omega
      have HCV := Lib.hid (show cv (d + 1) = 1 + 3 * cd by rw [cv, if_neg hd0, HCD.out])
      have HD0 := Lib.hid (show 1 ≤ d by omega); clear hd0
      go_wp2_with fail
      obtain ⟨hd, hhd⟩ : ∃ hd : Cl, hd = (5, ⟨#[]⟩, (i1 : Int)) := ⟨_, rfl⟩
      have HO0 := Lib.hid (show (w9.alloc (.cells #[.int .i64 5, .string ⟨#[]⟩, .int .i64 (i1 : Int)] 44)).ownsRow w.heap.size 44 3 (.slice (some ⟨w9.heap.size, 0, none⟩) 1 1) [hd].length (flatC [hd]) by rw [hhd]; exact World.ownsRow_lit (base := w.heap.size) w9 #[.int .i64 5, .string ⟨#[]⟩, .int .i64 (i1 : Int)] 1 HG9.out.size (by unfold maxLen; omega) rfl)
      have HR0 := Lib.hid (hr9.kept (World.grownBy_alloc w9 (.cells #[.int .i64 5, .string ⟨#[]⟩, .int .i64 (i1 : Int)] 44) none) (by simp))
      have HG0 := Lib.hid (grown_alloc HG9.out (.cells #[.int .i64 5, .string ⟨#[]⟩, .int .i64 (i1 : Int)] 44))
      have HS0 := Lib.hid (show ∀ c ∈ [hd], c.2.1.size ≤ 60 from fun c hc => by
        rw [List.mem_singleton, hhd] at hc; subst hc
        show (⟨#[]⟩ : ByteArray).size ≤ 60
        decide)
      have HNM := Lib.hid (nmC_one hd)
      have HIH := Lib.hid (ih HD0.out)
      have hM3 : i1 ≤ 3 := by omega
      have HDM := Lib.hid (show (d : Int) + 1 - 1 = (d : Int) by omega)
      clear hhd hr9 HG9 ih
      go_loopw [7, 9] (fun out i wr => ∃ (k : Nat) (lx : List Cl), k ≤ i1 ∧ i = .int .i64 (k : Int) ∧ wr.ownsRow w.heap.size 44 3 out lx.length (flatC lx) ∧ (∀ c ∈ lx, c.2.1.size ≤ 60) ∧ 1 ≤ lx.length ∧ lx.length ≤ 1 + k * cd ∧ 3 * nmC lx ≤ 3 + k * (cd - 1) ∧ Rdm wr R (p + 2 + k * kd) ∧ w.grownBy wr (some R)) (fun _ i _ => i1 - (intOf i).toNat)
      case atStart => exact ⟨0, [hd], Nat.zero_le _, rfl, HO0.out, HS0.out, Nat.le_refl _, by simp, by have := HNM.out; omega, HR0.out.mono (by omega), HG0.out⟩
      case round =>
        obtain ⟨k, lx, hk, rfl, hown, hsh, hl1, hlc, hnm, hr, hg⟩ := hrel
        have HO := Lib.hid hown; have HSH := Lib.hid hsh; have HR := Lib.hid hr; have HG := Lib.hid hg
        clear hown hsh hr hg
        have hkc : k * cd ≤ 3 * cd := Nat.mul_le_mul_right _ (by omega)
        have hkk : k * kd ≤ 3 * kd := Nat.mul_le_mul_right _ (by omega)
        have hkn : k * (cd - 1) ≤ 3 * (cd - 1) := Nat.mul_le_mul_right _ (by omega)
        have HS1 := Lib.hid (show (k + 1) * cd = k * cd + cd from Nat.succ_mul k cd); have HS2 := Lib.hid (show (k + 1) * kd = k * kd + kd from Nat.succ_mul k kd); have HS3 := Lib.hid (show (k + 1) * (cd - 1) = k * (cd - 1) + (cd - 1) from Nat.succ_mul k (cd - 1))
        by_cases hlt : k < i1
        · have hltI : (k : Int) < (i1 : Int) := by omega
          have hkk1 : (k + 1) * kd ≤ 3 * kd := Nat.mul_le_mul_right _ (by omega)
          have hb1 : p + 2 + k * kd + kd < 1073741824 := by have := HS2.out; have := HKV2.out; omega
          go_wp2_with fail
          refine (HIH.out R (p + 2 + k * kd) 0 _ (by rw [HKD.out]; exact hb1) (by omega) (by omega) HR.out).mono ?_
          rintro e w5 ⟨v5, l5, rfl, ho5, hsh5, h15, ⟨-, hc5, hn5⟩, hr5, hg5⟩
          replace hc5 := hc5 (by omega)
          rw [HKD.out] at hr5; rw [HCD.out] at hc5 hn5
          have HO5 := Lib.hid (HO.out.kept hg5 (.inr (by intro he; have := (HO.out.lt _ he).1; have := HLT.out; omega)))
          have HG5 := Lib.hid (grown_trans HG.out hg5)
          have HP5 := Lib.hid ho5; have HSH5 := Lib.hid hsh5; have HR5 := Lib.hid hr5
          obtain ⟨ao5, co5, rfl⟩ := own_shapeV ho5
          clear ho5 hsh5 hr5 hg5
          have hll : lx.length + l5.length ≤ 2000 := by omega
          go_wp2_with (at_builtin; refine append_rows rfl _ _ 26 rfl w.heap.size 44 i0 (.agg #[.int .i64 0, .string ByteArray.empty, .int .i64 0]) 3 32 Tryz.underlying26 hi hz0 hz1 hz2 rfl (by decide) _ _ _ rfl HO5.out _ _ _ _ rfl HP5.out (flatC_one _) (by unfold maxLen; omega) (by omega) HG5.out.size ?_; intro v6 w6 hown6 hgrow6; have HO6 := Lib.hid hown6; have HG6 := Lib.hid (grown_ownV HG5.out hgrow6 (fun x hx => (HO5.out.lt x hx).1)); have HR6 := Lib.hid (HR5.out.kept hgrow6 (fun x hx => (by have := (HO5.out.lt x hx).1; have := HLT.out; omega))); clear hown6 hgrow6)
          go_roundw
          case rel => exact ⟨k + 1, lx ++ l5, by omega, by go_num, by rw [List.length_append, flatC_append]; exact HO6.out, (fun c hc => by rw [List.mem_append] at hc; exact hc.elim (HSH.out c) (HSH5.out c)), by rw [List.length_append]; omega, by rw [List.length_append]; have := HS1.out; omega, by rw [nmC_append]; have := HS3.out; omega, HR6.out.mono (by have := HS2.out; omega), HG6.out⟩
          case measure => simp [intOf]; omega
        · obtain rfl : k = i1 := by omega
          have hltI : ¬ (k : Int) < (k : Int) := by omega
          obtain ⟨gx, c7, rfl⟩ := own_some HO.out hl1
          have hlen7 : lx.length ≤ 2000 := by omega
          have hqq : p + 2 + k * kd + 2 < 1073741824 := by have := HKV2.out; omega
          go_wp2_with fail
          refine (odd_any R (p + 2 + k * kd) n _ (by omega) (by omega) (by omega) HR.out).mono ?_
          rintro e wa ⟨bo, rfl, hbo, hra, hga, -⟩
          have HBO := Lib.hid hbo; clear hbo
          have HOA := Lib.hid (HO.out.kept hga (.inr (by intro he; have := (HO.out.lt _ he).1; have := HLT.out; omega)))
          have HRA := Lib.hid hra; have HGA := Lib.hid (grown_trans HG.out hga)
          clear hra hga
          cases bo with
          | false =>
            go_wp2
            go_ret
            exact ⟨_, lx, rfl, HOA.out, HSH.out, hl1, ⟨by have h2 := (show lx.length ≤ cv (d + 1) ∧ 3 * nmC lx + 1 ≤ cv (d + 1) from by have := HCV.out; omega); omega, fun _ => by have h2 := (show lx.length ≤ cv (d + 1) ∧ 3 * nmC lx + 1 ≤ cv (d + 1) from by have := HCV.out; omega); omega, by have h2 := (show lx.length ≤ cv (d + 1) ∧ 3 * nmC lx + 1 ≤ cv (d + 1) from by have := HCV.out; omega); omega⟩, HRA.out.mono (by have := HKV2.out; omega), HGA.out⟩
          | true =>
            go_wp2_with fail
            refine (pick_any R (p + 2 + k * kd + 1) 3 _ (by omega) HRA.out).mono ?_
            rintro e wb ⟨m, rfl, hm0, hm1, -, hrb, hgb, -⟩
            have hm2 := hm1 (by omega)
            have HOB := Lib.hid (HOA.out.kept hgb (.inr (by intro he; have := (HOA.out.lt _ he).1; have := HLT.out; omega)))
            have HRB := Lib.hid (hrb.mono (show _ ≤ p + 2 + k * kd + 1 + 1 by omega)); have HGB := Lib.hid (grown_trans HGA.out hgb)
            clear hrb hgb hm1
            have h3 : m = 0 ∨ m = 1 ∨ m = 2 := by omega
            clear hm0 hm2
            have HON := Lib.hid (show wb.ownsRow w.heap.size 44 3 (.slice (some ⟨gx, 0, none⟩) lx.length c7) lx.length (flatC lx) from HOB.out)
            have hgw := (HOB.out.lt gx rfl).1
            have hgR : R < gx := by have := HLT.out; omega
            have hcc : ∀ j, j < 3 → ∃ u, wb.cell? ⟨gx, j, none⟩ = some u := fun j hj => by
              rw [HON.out.cellAt j (by omega), List.getElem?_eq_getElem (by have := HON.out.1; omega)]; exact ⟨_, rfl⟩
            obtain ⟨y0, e0⟩ := hcc 0 (by omega)
            obtain ⟨y1, e1⟩ := hcc 1 (by omega)
            obtain ⟨y2, e2⟩ := hcc 2 (by omega)
            have z0 := HON.out.frozenAt 0
            have z1 := HON.out.frozenAt 1
            have z2 := HON.out.frozenAt 2
            clear hcc
            rcases h3 with rfl | rfl | rfl
            · have HB1 := Lib.hid (bend_word HON.out rfl hl1 HSH.out)
              have HRX := Lib.hid (HRB.out.setc hgR 1 (.string ⟨#[49, 47, 50]⟩))
              have HGX := Lib.hid (grown_setc HGB.out hgw 1 (.string ⟨#[49, 47, 50]⟩))
              go_wp2
              go_ret
              exact ⟨_, _, rfl, HB1.out.1, HB1.out.2.1, by have := HB1.out.2.2.1; omega, ⟨by have h1 := HB1.out.2.2; have h2 := (show lx.length ≤ cv (d + 1) ∧ 3 * nmC lx + 1 ≤ cv (d + 1) from by have := HCV.out; omega); omega, fun hn => (by have := HBO.out hn; cases this), by have h1 := HB1.out.2.2; have h2 := (show lx.length ≤ cv (d + 1) ∧ 3 * nmC lx + 1 ≤ cv (d + 1) from by have := HCV.out; omega); omega⟩, HRX.out.mono (by have := HKV2.out; omega), HGX.out⟩
            · have HB1 := Lib.hid (bend_cell HON.out rfl hl1 HSH.out)
              have HRX := Lib.hid (((HRB.out.setc hgR 0 (.int .i64 4)).setc hgR 1 (.string ⟨#[97]⟩)).setc hgR 2 (.int .i64 0))
              have HGX := Lib.hid (grown_setc (grown_setc (grown_setc HGB.out hgw 0 (.int .i64 4)) hgw 1 (.string ⟨#[97]⟩)) hgw 2 (.int .i64 0))
              go_wp2
              go_ret
              exact ⟨_, _, rfl, HB1.out.1, HB1.out.2.1, by have := HB1.out.2.2.1; omega, ⟨by have h1 := HB1.out.2.2; have h2 := (show lx.length ≤ cv (d + 1) ∧ 3 * nmC lx + 1 ≤ cv (d + 1) from by have := HCV.out; omega); omega, fun hn => (by have := HBO.out hn; cases this), by have h1 := HB1.out.2.2; have h2 := (show lx.length ≤ cv (d + 1) ∧ 3 * nmC lx + 1 ≤ cv (d + 1) from by have := HCV.out; omega); omega⟩, HRX.out.mono (by have := HKV2.out; omega), HGX.out⟩
            · have hbw : w.heap.size ≤ wb.heap.size := HGB.out.size
              go_wp2_with (at_builtin; go_loud (refine append_rowC rfl _ _ 26 rfl w.heap.size 44 i0 (.agg #[.int .i64 0, .string ByteArray.empty, .int .i64 0]) 32 Tryz.underlying26 hi hz0 hz1 hz2 (by decide) (.slice (some ⟨gx, 0, none⟩) lx.length c7) lx.length (flatC lx) rfl (HOB.out.alloc _) _ [(3, ⟨#[116, 114, 117, 101]⟩, 0)] rfl (RowC_litV _ _ _ _) (by unfold maxLen; simp; omega) (by simp; omega) (by simp; omega) ?_; intro v8 w8 hown8 hgrow8; have HB1 := Lib.hid (bend_more hown8 HSH.out); have HRX := Lib.hid ((HRB.out.kept (World.grownBy_alloc wb (.cells #[.int .i64 3, .string ⟨#[116, 114, 117, 101]⟩, .int .i64 0] 44) none) (by simp)).kept hgrow8 (fun k hk => (by have hk' : gx = k := (by simpa [Value.ownBlock] using hk); omega))); have HGX := Lib.hid (grown_ownV (grown_alloc HGB.out (.cells #[.int .i64 3, .string ⟨#[116, 114, 117, 101]⟩, .int .i64 0] 44)) hgrow8 (fun x hx => (HOB.out.lt x hx).1)); clear hown8 hgrow8))
              go_wp2
              go_ret
              exact ⟨_, _, rfl, HB1.out.1, HB1.out.2.1, by have := HB1.out.2.2.1; omega, ⟨by have h1 := HB1.out.2.2; have h2 := (show lx.length ≤ cv (d + 1) ∧ 3 * nmC lx + 1 ≤ cv (d + 1) from by have := HCV.out; omega); omega, fun hn => (by have := HBO.out hn; cases this), by have h1 := HB1.out.2.2; have h2 := (show lx.length ≤ cv (d + 1) ∧ 3 * nmC lx + 1 ≤ cv (d + 1) from by have := HCV.out; omega); omega⟩, HRX.out.mono (by have := HKV2.out; omega), HGX.out⟩

theorem value_all : ∀ d, d ≤ 5 → ValAny (d + 1)
  | 0, h => value_step 0 h (fun h => absurd h (by omega))
  | d + 1, h => value_step (d + 1) h (fun _ => value_all d (by omega))

end Go.Proofs.YtpcaciogglllbaaGreatDoor
