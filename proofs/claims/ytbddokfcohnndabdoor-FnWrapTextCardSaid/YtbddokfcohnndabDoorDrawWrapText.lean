/-
  spec.DrawWrapText returns a short text and a width.
-/
import Derived.Test.YtbddokfcohnndabDoorDrawWrapped
import Derived.Test.YtbddokfcohnndabDoorDrawNote
import Derived.Deep.RegionHeld3
import Derived.Deep.DrawnRows
namespace Go.Proofs.YtbddokfcohnndabDoor
open Go.RowKit
set_option linter.unusedVariables false

theorem own_some {w : World} {base : Nat} {e : TypeId} {a : Option Addr} {n c : Nat} {xs : List Value} (h : w.ownsRow base e 1 (.slice a n c) n xs) (hn : 0 < n) : ∃ g, a = some ⟨g, 0, none⟩ := by
  rcases h.2 with ⟨hv, h0⟩ | ⟨g, cap, cur, hv, _⟩
  · omega
  · injection hv with e1; exact ⟨g, e1⟩
theorem lit2s (m : Nat) (h : m < 2) : ∃ t : ByteArray, t.size ≤ 2 ∧ (#[Value.string ⟨#[32]⟩, .string ⟨#[32, 32]⟩] : Array Value)[m]? = some (.string t) := by
  match m, h with
  | 0, _ => exact ⟨_, by decide, rfl⟩
  | 1, _ => exact ⟨_, by decide, rfl⟩
theorem lit3n (x : Int) (h0 : 0 ≤ x) (h1 : x ≤ 41) (m : Nat) (h : m < 3) : ∃ y : Int, 0 ≤ y ∧ y ≤ 41 ∧ (#[Value.int .i64 x, .int .i64 0, .int .i64 1] : Array Value)[m]? = some (.int .i64 y) := by
  match m, h with
  | 0, _ => exact ⟨x, h0, h1, rfl⟩
  | 1, _ => exact ⟨0, by omega, by omega, rfl⟩
  | 2, _ => exact ⟨1, by omega, by omega, rfl⟩

theorem Rdm.dr1 {w : World} {R p : Nat} (h : Rdm w R p) : Rdm w.drew R p := by
  obtain ⟨q, hq, h⟩ := h; exact ⟨q, hq, h.drewN 1⟩
theorem Rdm.al1 {w : World} {R p : Nat} (h : Rdm w R p) (o : Obj) : Rdm (w.alloc o) R p := h.kept (World.grownBy_alloc w o none) (by simp)
theorem lit_celld {w w' : World} {R : Nat} {C : Array Value} {t : TypeId} {m : Nat} {v : Value} (hR : R < w.heap.size) (hg : (w.alloc (.cells C t)).drew.grownBy w' (some R)) (hv : C[m]? = some v) : w'.cell? ⟨w.heap.size, m, none⟩ = some v :=
  lit_cell hR ⟨hg.os, hg.tape, hg.output, hg.size, hg.block⟩ hv

/-- What a law is told of a drawn text and a width. -/
def DrawnT (w : World) (e : Ending) (w' : World) : Prop :=
  ∃ (s : ByteArray) (x : Int), e = .returned (.tuple #[.string s, .int .i64 x]) ∧ s.size ≤ 2000 ∧ 0 ≤ x ∧ x ≤ 41 ∧ Below w.heap.size w w'

set_option maxRecDepth 100000 in
set_option maxHeartbeats 8000000 in
theorem drawWrapText_any (a : Option Addr) (len cap : Nat) (w : World) (h : CodeRow w a len cap) :
    Calls Tryd.prog 10 #[.slice a len cap] w (DrawnT w) := by
  go_enter Tryd.func10, Tryd.ntmps10
  go_wp2_with fail
  refine (open_codes a len cap _ h).mono ?_
  rintro e w1 ⟨rfl, hr1, hb1, hs1⟩
  have HB1 := Lib.hid hb1
  clear hb1 hs1 h
  go_wp2_with fail
  refine (wrapped_any w.heap.size 0 0 _ (by omega) (by omega) (by omega) hr1).mono ?_
  rintro e w2 ⟨L, x, v, rfl, hL, hx0, hx1, hS⟩
  obtain ⟨a2, c2, rfl⟩ := own_shape hS.own
  have S := Lib.hid hS
  clear hS hr1
  have hRw1 := S.out.lt
  go_wp2_with fail
  go_loopw [7, 8] (fun o k wr => ∃ (q : Nat) (acc : ByteArray), k = .int .i64 (q : Int) ∧ o = .string acc ∧ q ≤ L.length ∧ acc.size ≤ 23 * q ∧ WsD w.heap.size (40 + q) w1 wr (.slice a2 L.length c2) L) (fun _ k _ => L.length - (intOf k).toNat)
  case atStart => exact ⟨0, _, rfl, rfl, Nat.zero_le _, by decide, S.out⟩
  case round =>
    clear S
    obtain ⟨q, acc, rfl, rfl, hq, hac, hS⟩ := hrel
    have S := Lib.hid hS
    clear hS
    by_cases hlt : q < L.length
    · obtain ⟨g, rfl⟩ := own_some S.out.own (by omega)
      have ht := S.out.sz _ (List.getElem_mem hlt)
      have HC := Lib.hid (fun (wx : World) p' (h : WsD w.heap.size p' w1 wx (.slice (some ⟨g, 0, none⟩) L.length c2) L) => show wx.cell? ⟨g, q, none⟩ = some (.string L[q]) by
        rw [h.own.cellAt q (by omega)]; simp [strs, hlt])
      generalize L[q] = t at ht HC
      by_cases h0 : 0 < q
      · go_wp2_with fail
        refine (pick_any w.heap.size (40 + q) 4 _ (by omega) (S.out.al _).rd).mono ?_
        rintro e w3 ⟨j, rfl, hj0, hj1, -, hr3, hg3, hs3⟩
        have hj2 := hj1 (by omega)
        obtain ⟨j1, rfl⟩ := Int.eq_ofNat_of_zero_le hj0
        obtain ⟨t2, ht2, hlit⟩ := lit2s (j1 / 3) (by omega)
        have hcell := lit_cell S.out.rd.lt hg3 hlit
        have S3 := Lib.hid ((S.out.al _).to hr3 hg3)
        have hd3 := HC.out _ _ S3.out
        clear hj1 hg3 hs3 hlit hr3
        go_wp2
        go_roundw
        case rel => exact ⟨q + 1, _, by go_num, rfl, by omega, by rw [ByteArray.size_append, ByteArray.size_append]; omega, S3.out⟩
        case measure => simp [intOf]; omega
      · have hd3 := HC.out _ _ S.out
        obtain rfl : q = 0 := by omega
        go_wp2
        go_roundw
        case rel => exact ⟨1, _, by go_num, rfl, by omega, by rw [ByteArray.size_append]; omega, S.out.mono (by omega)⟩
        case measure => simp [intOf]; omega
    · have hqe : q = L.length := by omega
      have HA := Lib.hid (show acc.size ≤ 2000 by omega)
      have S2 := Lib.hid (S.out.mono (show 40 + q ≤ 61 by omega))
      clear S hqe hac
      go_wp2_with fail
      refine (odd_any w.heap.size 61 9 _ (by omega) (by omega) (by omega) S2.out.rd).mono ?_
      rintro e w3 ⟨od, rfl, -, hr3, hg3, hs3⟩
      have HG3 := Lib.hid (grown_trans S2.out.gr hg3)
      clear hg3 hs3 S2
      cases od with
      | false =>
        go_wp2
        exact bodyPost_ret (v := .tuple #[.string acc, .int .i64 x]) (by simp [results, Tryd.results10, go_sem]) rfl ⟨acc, x, rfl, HA.out, hx0, hx1, HB1.out.trans (grown_below HG3.out HB1.out.size (Nat.le_refl _))⟩
      | true =>
        have hRA := hr3.lt
        have HLI := Lib.hid (lit3n x hx0 hx1)
        go_wp2_with fail
        go_region_with
          (first
            | (go_at_call 24; ((with_reducible refine (note_any w.heap.size 62 2 _ (by omega) (by omega) (by omega) ?_).mono ?_); (focus (first | exact hr3 | exact hr3.dr1 | exact hr3.al1 _ | exact (hr3.al1 _).dr1)); rintro e w4 ⟨s4, rfl, hz4, hr4, hg4⟩; have hRB := hr4.lt; have HG4 : Hid (World.grownBy w1 w4 (some w.heap.size)) := (by first | exact grown_trans HG3.out hg4 | exact grown_trans (grown_drew HG3.out) hg4 | exact grown_trans (grown_alloc HG3.out _) hg4 | exact grown_trans (grown_drew (grown_alloc HG3.out _)) hg4)))
            | (go_at_call 22; ((with_reducible refine (pick_any w.heap.size (62 + 2) 3 _ (by omega) ?_).mono ?_); (focus (first | exact hr4 | exact hr4.dr1 | exact hr4.al1 _ | exact (hr4.al1 _).dr1)); rintro e w5 ⟨m5, rfl, hm50, hm51, -, hr5, hg5, hs5⟩; have hm5 := hm51 (by omega); clear hm51; obtain ⟨j5, hj5⟩ := Int.eq_ofNat_of_zero_le hm50; subst hj5; obtain ⟨y, hy0, hy1, hlit⟩ := HLI.out j5 (by omega); (first | (have c5 := lit_cell hRA (grown_trans hg4 hg5) hlit) | (have c5 := lit_celld hRA (grown_trans hg4 hg5) hlit) | (have c5 := lit_cell hRB hg5 hlit) | (have c5 := lit_celld hRB hg5 hlit) | skip); have HG5 : Hid (World.grownBy w1 w5 (some w.heap.size)) := (by first | exact grown_trans HG4.out hg5 | exact grown_trans (grown_drew HG4.out) hg5 | exact grown_trans (grown_alloc HG4.out _) hg5 | exact grown_trans (grown_drew (grown_alloc HG4.out _)) hg5))))
        all_goals
          clear hg4 hg5 hs5 hlit
          go_wp2
          first
            | exact bodyPost_ret (v := .tuple #[.string s4, .int .i64 y]) (by simp [results, Tryd.results10, go_sem]) rfl ⟨s4, y, rfl, Nat.le_trans hz4 (by omega), hy0, hy1, HB1.out.trans (grown_below HG5.out HB1.out.size (Nat.le_refl _))⟩
            | exact bodyPost_ret (v := .tuple #[.string s4, .int .i64 y]) (by simp [results, Tryd.results10, go_sem]) rfl ⟨s4, y, rfl, Nat.le_trans hz4 (by omega), hy0, hy1, HB1.out.trans (grown_below (grown_alloc HG5.out _) HB1.out.size (Nat.le_refl _))⟩
            | exact bodyPost_ret (v := .tuple #[.string s4, .int .i64 y]) (by simp [results, Tryd.results10, go_sem]) rfl ⟨s4, y, rfl, Nat.le_trans hz4 (by omega), hy0, hy1, HB1.out.trans (grown_below (grown_drew HG5.out) HB1.out.size (Nat.le_refl _))⟩
            | exact bodyPost_ret (v := .tuple #[.string s4, .int .i64 y]) (by simp [results, Tryd.results10, go_sem]) rfl ⟨s4, y, rfl, Nat.le_trans hz4 (by omega), hy0, hy1, HB1.out.trans (grown_below (grown_drew (grown_alloc HG5.out _)) HB1.out.size (Nat.le_refl _))⟩
            | fail "an end is not known"

end Go.Proofs.YtbddokfcohnndabDoor
