/-
  spec.DrawUnquoteText returns a short text.
-/
import Derived.Test.YtffpaabpicdpeaaDrawV
import Derived.Test.YtffpaabpicdpeaaQuoteSpec
import Derived.Deep.RegionHeld3
import Derived.Deep.DrawnRows
namespace Go.Proofs.Ytffpaabpicdpeaa
open Go.RowKit
set_option linter.unusedVariables false
attribute [local go_sem ↓] Go.wp_at_zero Go.wp_at_succ

def DrawnU (w : World) (e : Ending) (w' : World) : Prop :=
  ∃ s : ByteArray, e = .returned (.string s) ∧ s.size ≤ 100 ∧ Below w.heap.size w w'
theorem Rdm.dr1 {w : World} {R p : Nat} (h : Rdm w R p) : Rdm w.drew R p := by
  obtain ⟨q, hq, h⟩ := h; exact ⟨q, hq, h.drewN 1⟩
theorem Rdm.al1 {w : World} {R p : Nat} (h : Rdm w R p) (o : Obj) : Rdm (w.alloc o) R p := h.kept (World.grownBy_alloc w o none) (by simp)
theorem lit_celld {w w' : World} {R : Nat} {C : Array Value} {t : TypeId} {m : Nat} {v : Value} (hR : R < w.heap.size) (hg : (w.alloc (.cells C t)).drew.grownBy w' (some R)) (hv : C[m]? = some v) : w'.cell? ⟨w.heap.size, m, none⟩ = some v :=
  lit_cell hR ⟨hg.os, hg.tape, hg.output, hg.size, hg.block⟩ hv
theorem quoteT_two {s : ByteArray} (hs : s.size ≤ 8) (h : okL s.data.toList = true) : 2 ≤ (quoteT s).size ∧ (quoteT s).size ≤ 18 := by
  have ht : textB s = true := by unfold textB; rw [h, decide_eq_true (by omega)]; rfl
  have e : (quoteT s).size = (quoteL s.data.toList).length := by unfold quoteT; rw [if_pos ht]; show (quoteL s.data.toList).toArray.size = _; simp
  have h2 := (quoteI_len s.data.toList).2
  rw [show s.data.toList.length = s.size by rw [Array.length_toList]; rfl] at h2
  rw [e]
  simp only [quoteL, List.length_cons, List.length_append, List.length_nil]
  omega
theorem unq10 (x : ByteArray) (hx : x.size ≤ 18) (m : Nat) (h : m < 10) : ∃ t : ByteArray, t.size ≤ 19 ∧ (#[Value.string ⟨#[]⟩, .string ⟨#[34]⟩, .string ⟨#[34, 34, 34]⟩, .string ⟨#[34, 92, 34]⟩, .string ⟨#[34, 92, 113, 34]⟩, .string ⟨#[120]⟩, .string (x ++ ⟨#[34]⟩), .string (x.extract 1 x.size), .string ⟨#[34, 10, 34]⟩, .string ⟨#[34, 97, 92, 92, 34]⟩] : Array Value)[m]? = some (.string t) := by
  match m, h with
  | 0, _ => exact ⟨⟨#[]⟩, by show (0 : Nat) ≤ 19; omega, rfl⟩
  | 1, _ => exact ⟨⟨#[34]⟩, by show (1 : Nat) ≤ 19; omega, rfl⟩
  | 2, _ => exact ⟨⟨#[34, 34, 34]⟩, by show (3 : Nat) ≤ 19; omega, rfl⟩
  | 3, _ => exact ⟨⟨#[34, 92, 34]⟩, by show (3 : Nat) ≤ 19; omega, rfl⟩
  | 4, _ => exact ⟨⟨#[34, 92, 113, 34]⟩, by show (4 : Nat) ≤ 19; omega, rfl⟩
  | 5, _ => exact ⟨⟨#[120]⟩, by show (1 : Nat) ≤ 19; omega, rfl⟩
  | 6, _ => exact ⟨x ++ ⟨#[34]⟩, by rw [ByteArray.size_append]; show x.size + 1 ≤ 19; omega, rfl⟩
  | 7, _ => exact ⟨x.extract 1 x.size, by rw [ByteArray.size_extract]; omega, rfl⟩
  | 8, _ => exact ⟨⟨#[34, 10, 34]⟩, by show (3 : Nat) ≤ 19; omega, rfl⟩
  | 9, _ => exact ⟨⟨#[34, 97, 92, 92, 34]⟩, by show (5 : Nat) ≤ 19; omega, rfl⟩

set_option maxRecDepth 100000 in
set_option maxHeartbeats 8000000 in
theorem drawUnquoteText_any (a : Option Addr) (len cap : Nat) (w : World) (h : CodeRow w a len cap) :
    Calls Try.prog 14 #[.slice a len cap] w (DrawnU w) := by
  go_enter Try.func14, Try.ntmps14
  go_wp2_with fail
  refine (open_codes a len cap _ h).mono ?_
  rintro e w1 ⟨rfl, hr1, hb1, hs1⟩
  have HB := Lib.hid hb1; have HS := Lib.hid hs1
  clear hb1 hs1 h
  go_wp2_with fail
  refine (plainV_any w.heap.size 0 _ (by omega) hr1).mono ?_
  rintro e w2 ⟨s0, rfl, hz0, hk0, hr2, hg2⟩
  have HG2 := Lib.hid hg2; clear hg2 hr1
  obtain ⟨y1, y2⟩ := quoteT_two hz0 hk0
  have CQ := Lib.hid (fun w' => quoteText_spec s0 w' (by unfold maxLen; omega))
  clear hk0
  generalize quoteT s0 = s at CQ y1 y2
  go_wp2_with fail
  refine (CQ.out _).mono ?_
  rintro e w' ⟨rfl, rfl⟩
  clear CQ hz0
  go_wp2_with fail
  refine (odd_any w.heap.size (0 + 11) 3 _ (by omega) (by omega) (by omega) hr2).mono ?_
  rintro e w3 ⟨od, rfl, -, hr3, hg3, hs3⟩
  have HG3 := Lib.hid (grown_trans HG2.out hg3)
  clear hg3 hs3 hr2 HG2
  cases od with
  | false =>
    go_wp2
    go_ret
    exact ⟨s, rfl, by omega, HB.out.trans (grown_below HG3.out (by have := HS.out; omega) (Nat.le_refl _))⟩
  | true =>
    have HL := Lib.hid (unq10 s y2)
    have hRA := hr3.lt
    have z1 : (1 : Int) ≤ (s.size : Int) := by omega
    go_wp2_with fail
    go_region_with
      ((go_at_call 29; ((with_reducible refine (pick_any w.heap.size (0 + 11 + 1) 10 _ (by omega) ?_).mono ?_); (focus (first | exact hr3 | exact hr3.dr1 | exact hr3.al1 _ | exact (hr3.al1 _).dr1)); rintro e w4 ⟨m4, rfl, hm40, hm41, -, hr4, hg4, hs4⟩; have hm4 := hm41 (by omega); clear hm41; obtain ⟨j4, hj4⟩ := Int.eq_ofNat_of_zero_le hm40; subst hj4; obtain ⟨t, ht, hlit⟩ := HL.out j4 (by omega); (first | (have c4 := lit_cell hRA hg4 hlit) | (have c4 := lit_celld hRA hg4 hlit) | skip); have HG4 : Hid (World.grownBy w1 w4 (some w.heap.size)) := (by first | exact grown_trans HG3.out hg4 | exact grown_trans (grown_drew HG3.out) hg4 | exact grown_trans (grown_alloc HG3.out _) hg4 | exact grown_trans (grown_drew (grown_alloc HG3.out _)) hg4))))
    all_goals
      clear hg4 hs4 hlit
      go_wp2
      go_ret
      first
        | exact ⟨t, rfl, by omega, HB.out.trans (grown_below HG4.out (by have := HS.out; omega) (Nat.le_refl _))⟩
        | exact ⟨t, rfl, by omega, HB.out.trans (grown_below (grown_alloc HG4.out _) (by have := HS.out; omega) (Nat.le_refl _))⟩
        | exact ⟨t, rfl, by omega, HB.out.trans (grown_below (grown_drew HG4.out) (by have := HS.out; omega) (Nat.le_refl _))⟩
        | exact ⟨t, rfl, by omega, HB.out.trans (grown_below (grown_drew (grown_alloc HG4.out _)) (by have := HS.out; omega) (Nat.le_refl _))⟩

end Go.Proofs.Ytffpaabpicdpeaa
