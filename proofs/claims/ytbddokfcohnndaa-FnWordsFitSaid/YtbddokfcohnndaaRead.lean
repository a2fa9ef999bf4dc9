/-
  The reader of codes (spec.l20Rd): pick, odd, and the open call.
-/
import Derived.Test.YtbddokfcohnndaaRows
import Derived.WalkKit
import Derived.WalkSpells
import Derived.Lib.Hide
import Derived.IntWalk
import Derived.BigQuiet
import Derived.Deep.QuietTactic
namespace Go.Proofs.Ytbddokfcohnndaa
open Go.RowKit
set_option linter.unusedVariables false

theorem grown_trans {a b c : World} {R : Option Nat} (h : a.grownBy b R) (k : b.grownBy c R) : a.grownBy c R :=
  ⟨k.os.trans h.os, k.tape.trans h.tape, k.output.trans h.output, Nat.le_trans h.size k.size, fun i hi hn => (k.block i (Nat.lt_of_lt_of_le hi h.size) hn).trans (h.block i hi hn)⟩
theorem grown_drew {a b : World} {R : Option Nat} (h : a.grownBy b R) : a.grownBy b.drew R := ⟨h.os, h.tape, h.output, h.size, h.block⟩
theorem grown_alloc {a b : World} {R : Option Nat} (h : a.grownBy b R) (o : Obj) : a.grownBy (b.alloc o) R := grown_trans h (World.grownBy_alloc b o R)
theorem grown_setCell {a b : World} {R : Nat} (h : a.grownBy b (some R)) (off : Nat) (u : Value) : a.grownBy (b.setCell ⟨R, off, none⟩ u) (some R) :=
  grown_trans h ⟨rfl, rfl, rfl, by simp [World.setCell], fun k _ hn => Below.heap_setCell _ _ _ _ (fun e => hn (by simp [e]))⟩
theorem grown_below {a b : World} {R : Nat} (h : a.grownBy b (some R)) {B : Nat} (hB : B ≤ a.heap.size) (hR : B ≤ R) : Below B a b :=
  ⟨h.os, h.tape, h.output, h.size, fun k hk => h.block k (by omega) (by intro e; cases e; omega)⟩

/-- The codes' bytes: a slice of at most 2000 bytes, below the reader's block. -/
def Codes (w : World) (R : Nat) (ao : Option Addr) (n : Nat) : Prop :=
  n ≤ 2000 ∧ (n = 0 ∨ ∃ b off, ao = some ⟨b, off, none⟩ ∧ b < R ∧ ∀ j, j < n → ∃ z : Int, 0 ≤ z ∧ z ≤ 255 ∧ w.cell? ⟨b, off + j, none⟩ = some (.int .u8 z))

/-- The reader lies in block R and has been asked p times. -/
def Rd (w : World) (R p : Nat) : Prop :=
  ∃ ao n cap, w.heap[R]? = some (.cells #[.slice ao n cap, .int .i64 p] 60 (0, 0)) ∧ Codes w R ao n

theorem xor_i64 (a b : Nat) (ha : a < 4611686018427387904) (hb : b < 4611686018427387904) : bits .xor .i64 (a : Int) (b : Int) = ((a ^^^ b : Nat) : Int) := by
  have hx : a ^^^ b < 2 ^ 62 := Nat.xor_lt_two_pow (by omega) (by omega)
  have h1 : (BitVec.ofInt 64 (a : Int)).toNat = a := by
    rw [BitVec.ofInt_natCast, BitVec.toNat_ofNat]; exact Nat.mod_eq_of_lt (by omega)
  have h2 : (BitVec.ofInt 64 (b : Int)).toNat = b := by
    rw [BitVec.ofInt_natCast, BitVec.toNat_ofNat]; exact Nat.mod_eq_of_lt (by omega)
  show IntKind.i64.wrap ((BitVec.ofInt 64 (a : Int) ^^^ BitVec.ofInt 64 (b : Int)).toNat : Int) = _
  rw [BitVec.toNat_xor, h1, h2]
  simp [IntKind.wrap, IntKind.bits, IntKind.signed]
  omega

/-- What pick leaves. -/
def Picked (R p : Nat) (n : Int) (w : World) (e : Ending) (w' : World) : Prop :=
  ∃ m : Int, e = .returned (.int .i64 m) ∧ 0 ≤ m ∧ (1 ≤ n → m < n) ∧ (n < 1 → m = 0) ∧ Rd w' R (p + 1) ∧ w.grownBy w' (some R) ∧ w'.heap.size = w.heap.size

theorem mod_picked (x n : Int) (hx : 0 ≤ x) (hn : 1 ≤ n) : 0 ≤ x % n ∧ (1 ≤ n → x % n < n) ∧ (n < 1 → x % n = 0) :=
  ⟨Int.emod_nonneg _ (by omega), fun _ => Int.emod_lt_of_pos _ (by omega), fun h => by omega⟩

theorem Rd.cells {w : World} {R p : Nat} {ao : Option Addr} {n cap : Nat} (h : w.heap[R]? = some (.cells #[.slice ao n cap, .int .i64 p] 60 (0, 0))) :
    w.cell? ⟨R, 0, none⟩ = some (.slice ao n cap) ∧ w.cell? ⟨R, 1, none⟩ = some (.int .i64 p) ∧ w.frozen? ⟨R, 1, none⟩ = false := by
  refine ⟨?_, ?_, ?_⟩ <;> simp [World.cell?, World.frozen?, h]

theorem Codes.mono {w w' : World} {R : Nat} {ao : Option Addr} {n : Nat} (hc : Codes w R ao n) (hR : R ≤ w.heap.size) (hg : w.grownBy w' (some R)) : Codes w' R ao n := by
  obtain ⟨h1, h2⟩ := hc
  refine ⟨h1, ?_⟩
  rcases h2 with h2 | ⟨b, off, ha, hb, hj⟩
  · exact .inl h2
  · refine .inr ⟨b, off, ha, hb, fun j hjn => ?_⟩
    obtain ⟨z, z0, z1, hz⟩ := hj j hjn
    exact ⟨z, z0, z1, hg.cell hz (by intro e; simp only [Option.some.injEq] at e; omega)⟩

theorem Rd.step {w : World} {R p : Nat} {ao : Option Addr} {n cap : Nat} (h : w.heap[R]? = some (.cells #[.slice ao n cap, .int .i64 p] 60 (0, 0))) (hc : Codes w R ao n) :
    Rd (w.setCell ⟨R, 1, none⟩ (.int .i64 ((p : Int) + 1))) R (p + 1) ∧ w.grownBy (w.setCell ⟨R, 1, none⟩ (.int .i64 ((p : Int) + 1))) (some R) ∧ (w.setCell ⟨R, 1, none⟩ (.int .i64 ((p : Int) + 1))).heap.size = w.heap.size := by
  have hR : R < w.heap.size := by
    by_cases hk : R < w.heap.size
    · exact hk
    · rw [Array.getElem?_eq_none (by omega)] at h; cases h
  have hg : w.grownBy (w.setCell ⟨R, 1, none⟩ (.int .i64 ((p : Int) + 1))) (some R) := grown_setCell (World.grownBy.refl _ _) _ _
  refine ⟨⟨ao, n, cap, ?_, hc.mono (by omega) hg⟩, hg, by simp [World.setCell]⟩
  simp [World.setCell, Array.getElem?_modify, h]


theorem heap_drewN (w : World) (n : Nat) : (w.drewN n).heap = w.heap := by
  induction n with
  | zero => rfl
  | succ n ih => exact ih
theorem grown_drewN {a b : World} {R : Option Nat} (h : a.grownBy b R) (n : Nat) : a.grownBy (b.drewN n) R := by
  induction n with
  | zero => exact h
  | succ n ih => exact grown_drew ih
theorem Rd.drewN {w : World} {R p : Nat} (h : Rd w R p) (n : Nat) : Rd (w.drewN n) R p := by
  obtain ⟨ao, k, cap, hc, h1, h2⟩ := h
  refine ⟨ao, k, cap, by rw [heap_drewN]; exact hc, h1, ?_⟩
  rcases h2 with h2 | ⟨b, off, ha, hb, hj⟩
  · exact .inl h2
  · refine .inr ⟨b, off, ha, hb, fun j hjn => ?_⟩
    obtain ⟨z, z0, z1, hz⟩ := hj j hjn
    exact ⟨z, z0, z1, by rw [World.cell?_of_block (w := w) (by rw [heap_drewN])]; exact hz⟩
theorem xor_tmod (X n : Int) (h0 : 0 ≤ X) (h1 : X < 4611686018427387904) (hn : 1 ≤ n) : 0 ≤ (bits .xor .i64 X (X / 64)).tmod n ∧ (bits .xor .i64 X (X / 64)).tmod n < n := by
  obtain ⟨x, rfl⟩ := Int.eq_ofNat_of_zero_le h0
  have hd : ((x : Int) / 64) = ((x / 64 : Nat) : Int) := by omega
  rw [hd, xor_i64 _ _ (by omega) (by omega)]
  generalize (x ^^^ x / 64) = a
  exact ⟨Int.tmod_nonneg _ (by omega), Int.tmod_lt_of_pos _ (by omega)⟩

set_option maxRecDepth 100000 in
set_option maxHeartbeats 1000000 in
theorem pick_none (R p len cap : Nat) (ao : Option Addr) (n : Int) (w : World) (hp : p < 2147483648) (h : n < 1 ∨ (len : Int) = 0)
   (hc : w.heap[R]? = some (.cells #[.slice ao len cap, .int .i64 p] 60 (0, 0))) (hC : Codes w R ao len) :
    Calls Try.prog 46 #[.pointer (some ⟨R, 0, none⟩), .int .i64 n] w (Picked R p n w) := by
  have HS := Lib.hid (Rd.step hc hC)
  obtain ⟨c0, c1, f1⟩ := Rd.cells hc
  clear hc hC
  by_cases hn : n < 1
  · have hb : decide (n < 1) = true := by simpa using hn
    clear h
    go_enter Try.func46, Try.ntmps46
    go_wp2
    all_goals go_ret
    all_goals exact ⟨0, rfl, by omega, by omega, by omega, HS.out.1, HS.out.2.1, HS.out.2.2⟩
  · have h0 : ((len : Int) == 0) = true := by simp; omega
    have hb : decide (n < 1) = false := by simpa using hn
    clear h
    go_enter Try.func46, Try.ntmps46
    go_wp2
    all_goals go_ret
    all_goals exact ⟨0, rfl, by omega, by omega, by omega, HS.out.1, HS.out.2.1, HS.out.2.2⟩

set_option maxRecDepth 100000 in
set_option maxHeartbeats 1000000 in
theorem pick_in (R p b off len cap : Nat) (n : Int) (w : World) (hp : p < 2147483648) (hl : len ≤ 2000) (hn : 1 ≤ n)
   (hc : w.heap[R]? = some (.cells #[.slice (some ⟨b, off, none⟩) len cap, .int .i64 p] 60 (0, 0))) (hC : Codes w R (some ⟨b, off, none⟩) len) (hb : b < R)
   (hlt : p < len) (z : Int) (hz0 : 0 ≤ z) (hz1 : z ≤ 255) (hz : w.cell? ⟨b, off + p, none⟩ = some (.int .u8 z)) :
    Calls Try.prog 46 #[.pointer (some ⟨R, 0, none⟩), .int .i64 n] w (Picked R p n w) := by
  have HS := Lib.hid (Rd.step hc hC)
  obtain ⟨c0, c1, f1⟩ := Rd.cells hc
  clear hc hC
  have h0 : ((len : Int) == 0) = false := by simp; omega
  have hb1 : decide (n < 1) = false := by simp; omega
  go_enter Try.func46, Try.ntmps46
  go_wp2
  go_ret
  exact ⟨z % n, rfl, (mod_picked z n hz0 hn).1, (mod_picked z n hz0 hn).2.1, (mod_picked z n hz0 hn).2.2, HS.out.1, HS.out.2.1, HS.out.2.2⟩

set_option maxRecDepth 100000 in
set_option maxHeartbeats 2000000 in
theorem pick_past (R p b off len cap : Nat) (n : Int) (w : World) (hp : p < 2147483648) (hl : len ≤ 2000) (hl0 : 0 < len) (hn : 1 ≤ n)
   (hc : w.heap[R]? = some (.cells #[.slice (some ⟨b, off, none⟩) len cap, .int .i64 p] 60 (0, 0))) (hC : Codes w R (some ⟨b, off, none⟩) len) (hb : b < R)
   (hlt : ¬ p < len) (z : Int) (hz0 : 0 ≤ z) (hz1 : z ≤ 255) (hz : w.cell? ⟨b, off + p % len, none⟩ = some (.int .u8 z))
   (y : Int) (hy0 : 0 ≤ y) (hy1 : y ≤ 255) (hy : w.cell? ⟨b, off + (p * 7 + 3) % len, none⟩ = some (.int .u8 y)) :
    Calls Try.prog 46 #[.pointer (some ⟨R, 0, none⟩), .int .i64 n] w (Picked R p n w) := by
  have HS := Lib.hid (Rd.step hc hC)
  obtain ⟨c0, c1, f1⟩ := Rd.cells hc
  clear hc hC
  have h0 : ((len : Int) == 0) = false := by simp; omega
  have hb1 : decide (n < 1) = false := by simp; omega
  obtain ⟨u, hu⟩ : ∃ u, p % len = u := ⟨_, rfl⟩
  obtain ⟨v, hv⟩ : ∃ v, (p * 7 + 3) % len = v := ⟨_, rfl⟩
  have hul : u < len := by rw [← hu]; exact Nat.mod_lt _ hl0
  have hvl : v < len := by rw [← hv]; exact Nat.mod_lt _ hl0
  have e1 : (p : Int).tmod len = (u : Int) := by rw [← hu, Int.tmod_eq_emod_of_nonneg (by omega), Int.natCast_emod]
  have e2 : ((p : Int) * 7 + 3).tmod len = (v : Int) := by
    rw [← hv, show ((p : Int) * 7 + 3) = ((p * 7 + 3 : Nat) : Int) from by omega, Int.tmod_eq_emod_of_nonneg (by omega), Int.natCast_emod]
  rw [hu] at hz; rw [hv] at hy; clear hu hv
  have q0 : 0 ≤ (p : Int).tdiv len := Int.tdiv_nonneg (by omega) (by omega)
  have q1 : (p : Int).tdiv len ≤ p := Int.tdiv_le_self _ (by omega)
  generalize hq : (p : Int).tdiv len = q at q0 q1
  have r1 : IntKind.i64.wrap (z * 131) = z * 131 := IntWalk.i64_in _ (by omega)
  have r2 : IntKind.i64.wrap ((p : Int) * 7) = (p : Int) * 7 := IntWalk.i64_in _ (by omega)
  have r3 : IntKind.i64.wrap ((p : Int) * 7 + 3) = (p : Int) * 7 + 3 := IntWalk.i64_in _ (by omega)
  go_enter Try.func46, Try.ntmps46
  go_wp2
  go_quiet (fail)
  go_wp2
  go_ret
  have hX := xor_tmod (z * 131 + y * 1117 + p * 29 + q * 53) n (by omega) (by omega) hn
  exact ⟨_, rfl, hX.1, fun _ => hX.2, by omega, HS.out.1.drewN _, grown_drewN HS.out.2.1 _, (heap_drewN _ _).symm ▸ HS.out.2.2⟩

/-- The reader has been asked at most p times. -/
def Rdm (w : World) (R p : Nat) : Prop := ∃ q, q ≤ p ∧ Rd w R q
theorem Rdm.mono {w : World} {R p q : Nat} (h : Rdm w R p) (hpq : p ≤ q) : Rdm w R q := by
  obtain ⟨k, hk, h⟩ := h; exact ⟨k, by omega, h⟩
theorem Rd.lt {w : World} {R p : Nat} (h : Rd w R p) : R < w.heap.size := by
  obtain ⟨ao, k, cap, hc, _⟩ := h
  by_cases hk : R < w.heap.size
  · exact hk
  · rw [Array.getElem?_eq_none (by omega)] at hc; cases hc
theorem Rdm.lt {w : World} {R p : Nat} (h : Rdm w R p) : R < w.heap.size := by
  obtain ⟨k, hk, h⟩ := h; exact h.lt
/-- What happens elsewhere does not matter to the reader. -/
theorem Rdm.kept {w w' : World} {R p : Nat} {row : Option Nat} (h : Rdm w R p) (hg : w.grownBy w' row) (hn : ∀ k, row = some k → R < k) : Rdm w' R p := by
  have hlt := h.lt
  obtain ⟨q, hq, ao, k, cap, hc, h1, h2⟩ := h
  refine ⟨q, hq, ao, k, cap, by rw [hg.block R hlt (by intro e; have := hn R e.symm; omega)]; exact hc, h1, ?_⟩
  rcases h2 with h2 | ⟨b, off, ha, hb, hj⟩
  · exact .inl h2
  · refine .inr ⟨b, off, ha, hb, fun j hjn => ?_⟩
    obtain ⟨z, z0, z1, hz⟩ := hj j hjn
    exact ⟨z, z0, z1, hg.cell hz (by intro e; have := hn b e.symm; omega)⟩

/-- What pick leaves. -/
def Picks (R p : Nat) (n : Int) (w : World) (e : Ending) (w' : World) : Prop :=
  ∃ m : Int, e = .returned (.int .i64 m) ∧ 0 ≤ m ∧ (1 ≤ n → m < n) ∧ (n < 1 → m = 0) ∧ Rdm w' R (p + 1) ∧ w.grownBy w' (some R) ∧ w'.heap.size = w.heap.size

theorem pick_any (R p : Nat) (n : Int) (w : World) (hp : p < 2147483648) (h : Rdm w R p) :
    Calls Try.prog 46 #[.pointer (some ⟨R, 0, none⟩), .int .i64 n] w (Picks R p n w) := by
  obtain ⟨q, hq, ao, k, cap, hc, h1, h2⟩ := h
  have fin : ∀ e w', Picked R q n w e w' → Picks R p n w e w' := by
    rintro e w' ⟨m, he, hm, hm1, hm2, hr, hg, hs⟩
    exact ⟨m, he, hm, hm1, hm2, ⟨q + 1, by omega, hr⟩, hg, hs⟩
  by_cases hn : n < 1
  · exact (pick_none R q k cap ao n w (by omega) (.inl hn) hc ⟨h1, h2⟩).mono fin
  rcases h2 with h2 | ⟨b, off, rfl, hb, hj⟩
  · exact (pick_none R q k cap ao n w (by omega) (.inr (by omega)) hc ⟨h1, .inl h2⟩).mono fin
  have hC : Codes w R (some ⟨b, off, none⟩) k := ⟨h1, .inr ⟨b, off, rfl, hb, hj⟩⟩
  by_cases hk : k = 0
  · exact (pick_none R q k cap _ n w (by omega) (.inr (by omega)) hc hC).mono fin
  by_cases hlt : q < k
  · obtain ⟨z, z0, z1, hz⟩ := hj q hlt
    exact (pick_in R q b off k cap n w (by omega) h1 (by omega) hc hC hb hlt z z0 z1 hz).mono fin
  · obtain ⟨z, z0, z1, hz⟩ := hj (q % k) (Nat.mod_lt _ (by omega))
    obtain ⟨y, y0, y1, hy⟩ := hj ((q * 7 + 3) % k) (Nat.mod_lt _ (by omega))
    exact (pick_past R q b off k cap n w (by omega) h1 (by omega) (by omega) hc hC hb hlt z z0 z1 hz y y0 y1 hy).mono fin

/-- What odd leaves. -/
def Odds (R p : Nat) (n : Int) (w : World) (e : Ending) (w' : World) : Prop :=
  ∃ b : Bool, e = .returned (.bool b) ∧ (n < 1 → b = false) ∧ Rdm w' R (p + 1) ∧ w.grownBy w' (some R) ∧ w'.heap.size = w.heap.size

set_option maxHeartbeats 1000000 in
theorem odd_any (R p : Nat) (n : Int) (w : World) (hp : p < 2147483648) (hn0 : -2147483648 ≤ n) (hn1 : n ≤ 2147483648) (h : Rdm w R p) :
    Calls Try.prog 45 #[.pointer (some ⟨R, 0, none⟩), .int .i64 n] w (Odds R p n w) := by
  by_cases hn : 0 < n
  · go_enter Try.func45, Try.ntmps45
    go_wp2_with fail
    refine (pick_any R p n _ hp h).mono ?_
    rintro e w' ⟨m, rfl, hm, hm1, hm2, hr, hg, hs⟩
    have HG := Lib.hid hg; have HS := Lib.hid hs
    clear hg hs hm1 hm2 h
    go_wp2
    go_ret
    exact ⟨_, rfl, by omega, hr, HG.out, HS.out⟩
  · go_enter Try.func45, Try.ntmps45
    go_wp2
    go_ret
    exact ⟨_, rfl, fun _ => rfl, h.mono (by omega), World.grownBy.refl _ _, rfl⟩

end Go.Proofs.Ytbddokfcohnndaa
