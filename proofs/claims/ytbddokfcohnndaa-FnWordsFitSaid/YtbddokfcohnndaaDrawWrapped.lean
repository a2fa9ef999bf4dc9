/-
  Drawn words and a width: spec.l20Wrapped.
-/
import Derived.Test.YtbddokfcohnndaaOpen
import Derived.Test.YtbddokfcohnndaaStrs
import Derived.Test.YtbddokfcohnndaaOwnK
import Derived.Deep.AppendLies
import Derived.Laws.AppendOwn
import Derived.Maps.AppendAt
namespace Go.Proofs.Ytbddokfcohnndaa
open Go.RowKit
set_option linter.unusedVariables false

theorem lit6w (m : Nat) (h : m < 6) : ∃ t : ByteArray, t.size ≤ 21 ∧ (#[Value.string ⟨#[97]⟩, .string ⟨#[116, 111]⟩, .string ⟨#[116, 104, 101]⟩, .string ⟨#[119, 111, 114, 100]⟩, .string ⟨#[108, 105, 110, 101, 115]⟩, .string ⟨#[98, 101, 116, 116, 101, 114]⟩] : Array Value)[m]? = some (.string t) := by
  match m, h with
  | 0, _ => exact ⟨_, by decide, rfl⟩
  | 1, _ => exact ⟨_, by decide, rfl⟩
  | 2, _ => exact ⟨_, by decide, rfl⟩
  | 3, _ => exact ⟨_, by decide, rfl⟩
  | 4, _ => exact ⟨_, by decide, rfl⟩
  | 5, _ => exact ⟨_, by decide, rfl⟩
theorem lit3w (m : Nat) (h : m < 3) : ∃ t : ByteArray, t.size ≤ 21 ∧ (#[Value.string ⟨#[]⟩, .string ⟨#[97, 32, 98]⟩, .string ⟨#[10]⟩] : Array Value)[m]? = some (.string t) := by
  match m, h with
  | 0, _ => exact ⟨_, by decide, rfl⟩
  | 1, _ => exact ⟨_, by decide, rfl⟩
  | 2, _ => exact ⟨_, by decide, rfl⟩
theorem lit3i (m : Nat) (h : m < 3) : ∃ x : Int, 0 ≤ x ∧ x ≤ 41 ∧ (#[Value.int .i64 0, .int .i64 41, .int .i64 3] : Array Value)[m]? = some (.int .i64 x) := by
  match m, h with
  | 0, _ => exact ⟨0, by omega, by omega, rfl⟩
  | 1, _ => exact ⟨41, by omega, by omega, rfl⟩
  | 2, _ => exact ⟨3, by omega, by omega, rfl⟩
theorem grown_ownT {w a b : World} {R : Nat} {row : Option Nat} (h : w.grownBy a (some R)) (hg : a.grownBy b row) (hr : ∀ q, row = some q → w.heap.size ≤ q) : w.grownBy b (some R) :=
  ⟨hg.os.trans h.os, hg.tape.trans h.tape, hg.output.trans h.output, Nat.le_trans h.size hg.size, fun i hi hn => (hg.block i (Nat.lt_of_lt_of_le hi h.size) (fun e => by have := hr i e.symm; omega)).trans (h.block i hi hn)⟩

/-- How long a slice is. -/
def lenW : Value → Nat
  | .slice _ n _ => n
  | _ => 0

/-- Words that are being drawn. -/
structure WsD (R p : Nat) (w wr : World) (v : Value) (L : List ByteArray) : Prop where
  own : wr.ownsRow w.heap.size 9 1 v L.length (strs L)
  rd : Rdm wr R p
  gr : w.grownBy wr (some R)
  sz : ∀ t ∈ L, t.size ≤ 21
  lt : R < w.heap.size
theorem WsD.far {R p : Nat} {w wr : World} {v : Value} {L : List ByteArray} (h : WsD R p w wr v L) : v.ownBlock ≠ some R := fun e => by have h1 := (h.own.lt R e).1; have := h.lt; omega
theorem WsD.to {R p p' : Nat} {w wr w1 : World} {v : Value} {L : List ByteArray} (h : WsD R p w wr v L) (hr : Rdm w1 R p') (hg : wr.grownBy w1 (some R)) : WsD R p' w w1 v L :=
  ⟨h.own.kept hg (.inr h.far), hr, grown_trans h.gr hg, h.sz, h.lt⟩
theorem WsD.al {R p : Nat} {w wr : World} {v : Value} {L : List ByteArray} (h : WsD R p w wr v L) (o : Obj) : WsD R p w (wr.alloc o) v L :=
  ⟨h.own.alloc o, h.rd.kept (World.grownBy_alloc wr o none) (by simp), grown_alloc h.gr o, h.sz, h.lt⟩
theorem WsD.app {R p : Nat} {w wr w1 : World} {v v' : Value} {L : List ByteArray} {t : ByteArray} (h : WsD R p w wr v L) (ht : t.size ≤ 21) (hown : w1.ownsRow w.heap.size 9 1 v' (L.length + 1) (strs L ++ [.string t])) (hg : wr.grownBy w1 v.ownBlock) : WsD R p w w1 v' (L ++ [t]) := by
  refine ⟨by rw [List.length_append, strs_append]; exact hown, h.rd.kept hg (fun q hq => by have h1 := (h.own.lt q hq).1; have := h.lt; omega), grown_ownT h.gr hg (fun q hq => (h.own.lt q hq).1), fun x hx => ?_, h.lt⟩
  rcases List.mem_append.mp hx with hx | hx
  · exact h.sz x hx
  · simp only [List.mem_singleton] at hx; subst hx; exact ht
theorem WsD.mono {R p p' : Nat} {w wr : World} {v : Value} {L : List ByteArray} (h : WsD R p w wr v L) (hp : p ≤ p') : WsD R p' w wr v L := ⟨h.own, h.rd.mono hp, h.gr, h.sz, h.lt⟩
/-- What is drawn. -/
def WrD (R p : Nat) (w : World) (e : Ending) (w' : World) : Prop :=
  ∃ (L : List ByteArray) (x : Int) (v : Value), e = .returned (.tuple #[v, .int .i64 x]) ∧ L.length ≤ 21 ∧ 0 ≤ x ∧ x ≤ 41 ∧ WsD R (p + 40) w w' v L

set_option maxRecDepth 100000 in
set_option maxHeartbeats 8000000 in
theorem wrapped_any (R p : Nat) (n : Int) (w : World) (hp : p < 1073741824) (hn0 : 0 ≤ n) (hn1 : n ≤ 1000) (h : Rdm w R p) :
    Calls Try.prog 42 #[.pointer (some ⟨R, 0, none⟩), .int .i64 n] w (WrD R p w) := by
  obtain ⟨i0, hi, hz0, hz1, hz2⟩ := info_parts infoStr
  have S0 := Lib.hid (show WsD R p w (w.alloc (.cells #[] 9)) (.slice (some ⟨w.heap.size, 0, none⟩) 0 0) [] from
    ⟨World.ownsRow_lit (base := w.heap.size) (size := 1) (e := 9) w #[] 0 (Nat.le_refl _) (by unfold maxLen; omega) rfl, h.kept (World.grownBy_alloc w _ none) (by simp), World.grownBy_alloc w _ _, (fun t ht => by cases ht), h.lt⟩)
  clear h
  go_enter Try.func42, Try.ntmps42
  go_wp2_with fail
  refine (pick_any R p 8 _ (by omega) S0.out.rd).mono ?_
  rintro e w1 ⟨m, rfl, hm0, hm1, -, hr1, hg1, hs1⟩
  have hm2 := hm1 (by omega)
  obtain ⟨k1, rfl⟩ := Int.eq_ofNat_of_zero_le hm0
  have S1 := Lib.hid (S0.out.to hr1 hg1)
  clear hm1 hg1 hs1 hr1 S0
  go_wp2_with fail
  go_loopw [6, 7] (fun v k wr => ∃ (L : List ByteArray) (m : Nat), k = .int .i64 m ∧ L.length + m ≤ 7 ∧ WsD R (p + 1 + (7 - m)) w wr v L) (fun _ k _ => (intOf k).toNat)
  case atStart => exact ⟨[], k1, rfl, by simp; omega, S1.out.mono (by omega)⟩
  case round =>
    clear S1
    obtain ⟨L, m, rfl, hLm, hS⟩ := hrel
    obtain ⟨ag, ac, rfl⟩ := own_shape hS.own
    have S := Lib.hid hS
    clear hS
    by_cases h0 : 0 < m
    · go_wp2_with fail
      refine (pick_any R (p + 1 + (7 - m)) 6 _ (by omega) (S.out.al _).rd).mono ?_
      rintro e w3 ⟨j, rfl, hj0, hj1, -, hr3, hg3, hs3⟩
      have hj2 := hj1 (by omega)
      obtain ⟨j1, rfl⟩ := Int.eq_ofNat_of_zero_le hj0
      obtain ⟨t, ht, hlit⟩ := lit6w j1 (by omega)
      have hcell := lit_cell S.out.rd.lt hg3 hlit
      have S3 := Lib.hid ((S.out.al _).to hr3 hg3)
      clear hj1 hg3 hs3 hlit hr3
      go_wp2_with (at_builtin; refine wpList_append_own _ rfl _ _ 22 rfl w.heap.size 9 i0 (.string ByteArray.empty) 1 16 Try.underlying22 hi hz0 hz1 hz2 rfl (by decide) _ _ _ rfl (S3.out.own.alloc _) ⟨w3.heap.size, 0, none⟩ 1 1 [.string t] rfl rfl (cell_one_new _ _ _) (str_oneCell _) (by unfold maxLen; omega) (by omega) (by simp; exact Nat.le_succ_of_le S3.out.gr.size) ?_; intro v' w4 hown' hgrow hnil; have S4 := Lib.hid ((S3.out.al _).app ht hown' hgrow); clear hown' hgrow hnil)
      go_roundw
      case rel => exact ⟨L ++ [t], m - 1, by go_num, by simp; omega, S4.out.mono (by omega)⟩
      case measure => simp [intOf]; omega
    · have hL7 : L.length ≤ 7 := by omega
      go_wp2_with fail
      refine (pick_any R (p + 8) 8 _ (by omega) (S.out.mono (show _ ≤ p + 8 by omega)).rd).mono ?_
      rintro e w3 ⟨j, rfl, hj0, hj1, -, hr3, hg3, hs3⟩
      have hj2 := hj1 (by omega)
      have S3 := Lib.hid (S.out.to hr3 hg3)
      clear hj1 hg3 hs3 hr3 S hLm h0
      go_wp2_with fail
      refine (odd_any R (p + 9) n _ (by omega) (by omega) (by omega) S3.out.rd).mono ?_
      rintro e w4 ⟨bb, rfl, -, hr4, hg4, hs4⟩
      have S4 := Lib.hid (S3.out.to hr4 hg4)
      clear hg4 hs4 hr4 S3
      cases bb with
      | false =>
        go_wp2
        exact bodyPost_ret (v := .tuple #[.slice ag L.length ac, .int .i64 (6 + j)]) (by simp [results, Try.results42, go_sem]) rfl ⟨L, _, _, rfl, by omega, by omega, by omega, S4.out.mono (by omega)⟩
      | true =>
        go_wp2_with fail
        refine (pick_any R (p + 10) 4 _ (by omega) S4.out.rd).mono ?_
        rintro e w5 ⟨q, rfl, hq0, hq1, -, hr5, hg5, hs5⟩
        have hq2 := hq1 (by omega)
        have S5 := Lib.hid (S4.out.to hr5 hg5)
        clear hq1 hg5 hs5 hr5 S4
        by_cases q0 : q = 0
        · subst q0
          go_wp2_with fail
          refine (pick_any R (p + 11) 3 _ (by omega) (S5.out.al _).rd).mono ?_
          rintro e w6 ⟨k, rfl, hk0, hk1, -, hr6, hg6, hs6⟩
          have hk2 := hk1 (by omega)
          obtain ⟨j6, rfl⟩ := Int.eq_ofNat_of_zero_le hk0
          obtain ⟨x, hx0, hx1, hlit⟩ := lit3i j6 (by omega)
          have hcell := lit_cell S5.out.rd.lt hg6 hlit
          have S6 := Lib.hid ((S5.out.al _).to hr6 hg6)
          clear hk1 hg6 hs6 hlit hr6 S5
          go_wp2
          exact bodyPost_ret (v := .tuple #[.slice ag L.length ac, .int .i64 x]) (by simp [results, Try.results42, go_sem]) rfl ⟨L, _, _, rfl, by omega, hx0, hx1, S6.out.mono (by omega)⟩
        · by_cases q1 : q = 1
          · subst q1
            go_wp2_with fail
            refine (pick_any R (p + 11) 3 _ (by omega) (S5.out.al _).rd).mono ?_
            rintro e w6 ⟨k, rfl, hk0, hk1, -, hr6, hg6, hs6⟩
            have hk2 := hk1 (by omega)
            obtain ⟨j6, rfl⟩ := Int.eq_ofNat_of_zero_le hk0
            obtain ⟨t, ht, hlit⟩ := lit3w j6 (by omega)
            have hcell := lit_cell S5.out.rd.lt hg6 hlit
            have S6 := Lib.hid ((S5.out.al _).to hr6 hg6)
            clear hk1 hg6 hs6 hlit hr6 S5
            go_wp2_with (at_builtin; refine wpList_append_own _ rfl _ _ 22 rfl w.heap.size 9 i0 (.string ByteArray.empty) 1 16 Try.underlying22 hi hz0 hz1 hz2 rfl (by decide) _ _ _ rfl (S6.out.own.alloc _) ⟨w6.heap.size, 0, none⟩ 1 1 [.string t] rfl rfl (cell_one_new _ _ _) (str_oneCell _) (by unfold maxLen; omega) (by omega) (by simp; exact Nat.le_succ_of_le S6.out.gr.size) ?_; intro v' w7 hown' hgrow hnil; have S7 := Lib.hid ((S6.out.al _).app ht hown' hgrow); obtain ⟨a7, c7, rfl⟩ := own_shape S7.out.own; clear hown' hgrow hnil)
            exact bodyPost_ret (v := .tuple #[.slice a7 (L ++ [t]).length c7, .int .i64 (6 + j)]) (by simp [results, Try.results42, go_sem]) rfl ⟨L ++ [t], _, _, rfl, by simp; omega, by omega, by omega, S7.out.mono (by omega)⟩
          · by_cases q2 : q = 2
            · subst q2
              obtain ⟨t, hT, ht⟩ : ∃ t : ByteArray, t = ⟨#[97, 118, 101, 114, 121, 118, 101, 114, 121, 118, 101, 114, 121, 108, 111, 110, 103, 119, 111, 114, 100]⟩ ∧ t.size ≤ 21 := ⟨_, rfl, by decide⟩
              have HT := Lib.hid hT
              clear hT
              go_wp2_with (at_builtin; rw [← HT.out]; refine wpList_append_own _ rfl _ _ 22 rfl w.heap.size 9 i0 (.string ByteArray.empty) 1 16 Try.underlying22 hi hz0 hz1 hz2 rfl (by decide) _ _ _ rfl (S5.out.own.alloc _) ⟨w5.heap.size, 0, none⟩ 1 1 [.string t] rfl rfl (cell_one_new _ _ _) (str_oneCell _) (by unfold maxLen; omega) (by omega) (by simp; exact Nat.le_succ_of_le S5.out.gr.size) ?_; intro v' w7 hown' hgrow hnil; have S7 := Lib.hid ((S5.out.al _).app ht hown' hgrow); obtain ⟨a7, c7, rfl⟩ := own_shape S7.out.own; clear hown' hgrow hnil)
              exact bodyPost_ret (v := .tuple #[.slice a7 (L ++ [t]).length c7, .int .i64 (6 + j)]) (by simp [results, Try.results42, go_sem]) rfl ⟨L ++ [t], _, _, rfl, by simp; omega, by omega, by omega, S7.out.mono (by omega)⟩
            · have e0 : (q == (0 : Int)) = false := beq_eq_false_iff_ne.mpr q0
              have e1 : (q == (1 : Int)) = false := beq_eq_false_iff_ne.mpr q1
              have e2 : (q == (2 : Int)) = false := beq_eq_false_iff_ne.mpr q2
              obtain ⟨t, hT, ht⟩ : ∃ t : ByteArray, t = ⟨#[97]⟩ ∧ t.size ≤ 21 := ⟨_, rfl, by decide⟩
              have HT := Lib.hid hT
              clear hT
              go_wp2_with fail
              go_loopw [6] (fun v wr => ∃ (M : List ByteArray), M.length ≤ 21 ∧ (∃ a c, v = .slice a M.length c) ∧ WsD R (p + 11) w wr v M) (fun v _ => 22 - lenW v)
              case atStart => exact ⟨L, by omega, ⟨_, _, rfl⟩, S5.out.mono (by omega)⟩
              case round =>
                clear S5
                obtain ⟨M, hM, ⟨am, cm, rfl⟩, hS⟩ := hrel
                have S := Lib.hid hS
                clear hS
                by_cases hl : M.length ≤ 20
                · go_wp2_with (at_builtin; rw [← HT.out]; refine wpList_append_own _ rfl _ _ 22 rfl w.heap.size 9 i0 (.string ByteArray.empty) 1 16 Try.underlying22 hi hz0 hz1 hz2 rfl (by decide) _ _ _ rfl (S.out.own.alloc _) ⟨wr.heap.size, 0, none⟩ 1 1 [.string t] rfl rfl (cell_one_new _ _ _) (str_oneCell _) (by unfold maxLen; omega) (by omega) (by simp; exact Nat.le_succ_of_le S.out.gr.size) ?_; intro v' w7 hown' hgrow hnil; have S7 := Lib.hid ((S.out.al _).app ht hown' hgrow); obtain ⟨a7, c7, rfl⟩ := own_shape S7.out.own; clear hown' hgrow hnil)
                  go_roundw
                  case rel => exact ⟨M ++ [t], by simp; omega, ⟨a7, c7, by rw [List.length_append]; rfl⟩, by have h7 := S7.out; rw [show (M ++ [t]).length = M.length + 1 by simp] at h7; exact h7⟩
                  case measure => simp [lenW]; omega
                · go_wp2
                  exact bodyPost_ret (v := .tuple #[.slice am M.length cm, .int .i64 (6 + j)]) (by simp [results, Try.results42, go_sem]) rfl ⟨M, _, _, rfl, hM, by omega, by omega, S.out.mono (by omega)⟩

/-- What a law is told of drawn words and a width. -/
def DrawnW (w : World) (e : Ending) (w' : World) : Prop :=
  ∃ (L : List ByteArray) (x : Int) (v : Value), e = .returned (.tuple #[v, .int .i64 x]) ∧ L.length ≤ 21 ∧ (∀ t ∈ L, t.size ≤ 21) ∧ 0 ≤ x ∧ x ≤ 41 ∧ w'.ownsRow w.heap.size 9 1 v L.length (strs L) ∧ Below w.heap.size w w'

end Go.Proofs.Ytbddokfcohnndaa
