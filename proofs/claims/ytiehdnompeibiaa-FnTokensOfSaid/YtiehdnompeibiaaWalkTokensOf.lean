/-
  The walk of laws.FnTokensOf.
-/
import Derived.Test.YtiehdnompeibiaaWordsAgain
import Derived.Test.YtiehdnompeibiaaAlive
import Derived.Test.YtiehdnompeibiaaDrawTokensOf
import Derived.BigQuiet
namespace Go.Proofs.Ytiehdnompeibiaa
open Go.RowKit
set_option linter.unusedVariables false

theorem spaces_at {l : List UInt8} (h : spaces l = true) (j : Nat) (hj : j < l.length) : ((l[j].toNat : Nat) : Int) = 32 := by
  simp only [spaces, List.all_eq_true] at h
  have := h l[j] (List.getElem_mem hj)
  simpa using this
/-- What the loop finds at a token. -/
theorem cover_at (s : ByteArray) (a k : Nat) (T : List (Int × Nat × Nat)) (ha : a ≤ s.size) (hk : k < T.length) (h : Cover a (s.data.toList.drop a) (T.drop k)) :
    a ≤ T[k].2.1 ∧ T[k].2.1 < T[k].2.2 ∧ T[k].2.2 ≤ s.size ∧ (∀ q, a ≤ q → q < T[k].2.1 → ∀ (hq : q < s.size), (s[q].toNat : Int) = 32) ∧
    endM (0, 0, []) 0 (s.extract T[k].2.1 T[k].2.2).data.toList = (0, T[k].2.2 - T[k].2.1, [(T[k].1, 0, T[k].2.2 - T[k].2.1)]) ∧ Cover T[k].2.2 (s.data.toList.drop T[k].2.2) (T.drop (k + 1)) := by
  have hl : s.data.toList.length = s.size := by rw [Array.length_toList]; rfl
  have hm : T.drop k = T[k] :: T.drop (k + 1) := List.drop_eq_getElem_cons hk
  rw [hm] at h
  have hin := cover_in _ _ _ h T[k] List.mem_cons_self
  have hal := cover_alone _ _ _ h T[k] List.mem_cons_self
  generalize T[k] = x at *
  obtain ⟨kk, f, t⟩ := x
  obtain ⟨j, n, h1, h2, h3, h4, h5, h6⟩ := h
  simp only at hin hal ⊢
  rw [List.length_drop] at hin h3
  refine ⟨by omega, by omega, by omega, ?_, ?_, ?_⟩
  · intro q hq1 hq2 hq
    have hs := spaces_at h4 (q - a) (by rw [List.length_take, List.length_drop]; omega)
    rw [List.getElem_take, List.getElem_drop] at hs
    have e : s[q] = s.data.toList[a + (q - a)]'(by omega) := by
      show s.data.toList[q]'(by omega) = _
      congr 1; omega
    rw [e]; exact hs
  · rw [ext_list]
    rw [List.drop_drop, show a + (f - a) = f by omega] at hal
    exact hal
  · rw [List.drop_drop] at h6
    rw [show a + j + n = t by omega, show a + (j + n) = t by omega] at h6
    exact h6
theorem alone_tok (s : ByteArray) (f t : Nat) (k : Int) (hs : okT s = true) (ht : t ≤ s.size) (h : endM (0, 0, []) 0 (s.extract f t).data.toList = (0, t - f, [(k, 0, t - f)])) : okT (s.extract f t) = true ∧ toksT (s.extract f t) = [(k, 0, t - f)] := by
  obtain ⟨p1, p2, p3⟩ := okT_parts hs
  have hr : resB (0, 0, []) 0 (s.extract f t).data.toList = true := by rw [resB, h]; rfl
  have hok : okT (s.extract f t) = true := okT_of (by rw [ByteArray.size_extract]; omega) (by rw [ext_list]; exact plainL_sub p2 fun y hy => List.mem_of_mem_drop (List.mem_of_mem_take hy)) hr
  exact ⟨hok, by rw [toksT, if_pos hok, resL, if_pos hr, h]⟩
theorem one_row {w : World} {base : Nat} {v : Value} {k : Int} {f t : Nat} (h : w.ownsRow base 33 3 v 1 (flatT [(k, f, t)])) : ∃ g cap, v = .slice (some ⟨g, 0, none⟩) 1 cap ∧ w.cell? ⟨g, 0, none⟩ = some (.int .i64 k) ∧ 1 ≤ cap ∧ cap ≤ maxLen := by
  rcases h.2 with ⟨_, h0⟩ | ⟨g, cap, cur, rfl, _, _, hc, hm, _⟩
  · omega
  · exact ⟨g, cap, rfl, by rw [h.cellAt 0 (by omega)]; rfl, hc, hm⟩

set_option maxRecDepth 100000 in
set_option maxHeartbeats 8000000 in
theorem fnTokensOf_core (a0 : Option Addr) (len0 cap0 : Nat) (w : World) (hrow : CodeRow w a0 len0 cap0) :
    Calls Try.prog 6 #[.slice a0 len0 cap0] w fun e w' => e = .returned (.bool true) ∧ Below w.heap.size w w' := by
  have hcap := hrow.1; have hmx := hrow.2.1
  unfold maxLen at hmx
  by_cases hl : len0 ≤ 1048576
  · go_enter Try.func6, Try.ntmps6
    go_wp2_with fail
    refine (drawTokensOf_any a0 len0 cap0 _ hrow).mono ?_
    rintro e w1 ⟨s, rfl, hs, hb1⟩
    have HB1 := Lib.hid hb1
    clear hb1 hrow
    have hsm : s.size ≤ maxLen := by unfold maxLen; omega
    have HSM := Lib.hid hsm; clear hsm
    have hts := toksT_small s
    go_wp2_with fail
    refine (tokensOf_impl s _ HSM.out).mono ?_
    rintro e w2 ⟨v2, rfl, hown2, hb2⟩
    have R2 := Lib.hid (RowT.of_own hown2)
    have B2 := Lib.hid (HB1.out.trans (hb2.mono HB1.out.size))
    clear hown2 hb2 HB1
    go_wp2_with fail
    refine (tokensOf_spec s _ HSM.out).mono ?_
    rintro e w3 ⟨v3, rfl, hown3, hb3⟩
    have R3 := RowT.of_own hown3
    have B3 := Lib.hid (B2.out.trans (hb3.mono B2.out.size))
    have R23 := R2.out.mono hb3
    clear hown3 hb3 B2 R2
    obtain ⟨-, a2, c2, rfl, l2, m2, r2⟩ := R23
    obtain ⟨-, a3, c3, rfl, l3, m3, r3⟩ := R3
    unfold maxLen at m2 m3
    have RX := Lib.hid r2; have RY := Lib.hid r3
    clear r2 r3
    cases hok : okT s with
    | false =>
      have HT := Lib.hid (show (toksT s).length = 0 by rw [toksT, hok]; rfl)
      clear hok
      rw [HT.out]
      go_wp2_with fail
      refine (alive_any _).mono ?_
      rintro e w' ⟨rfl, rfl⟩
      go_wp2
      go_ret
      exact ⟨rfl, B3.out⟩
    | true =>
      have HOK := Lib.hid hok
      have HC := Lib.hid (show Cover 0 s.data.toList (toksT s) by rw [toksT, if_pos hok]; exact res_cover (okT_parts hok).2.2)
      clear hok
      generalize toksT s = T at *
      go_wp2_with fail
      go_loopw [8, 9] (fun p i wr => ∃ (k a : Nat), k ≤ T.length ∧ a ≤ s.size ∧ i = .int .i64 (k : Int) ∧ p = .int .i64 (a : Int) ∧ Cover a (s.data.toList.drop a) (T.drop k) ∧ Below w3.heap.size w3 wr) (fun _ i _ => T.length - (intOf i).toNat)
      case atStart => exact ⟨0, 0, Nat.zero_le _, Nat.zero_le _, rfl, rfl, HC.out, Below.refl _ _⟩
      case round =>
        obtain ⟨k, a, hk, ha, rfl, rfl, hcov, hb⟩ := hrel
        have HB := Lib.hid hb; clear hb
        by_cases hlt : k < T.length
        · obtain ⟨y1, y2, y3, y4, y5, y6⟩ := cover_at s a k T ha hlt hcov
          obtain ⟨b1, hA1, lt1, cc1⟩ := RX.out.resolve_left (by omega)
          obtain ⟨b2, hA2, lt2, cc2⟩ := RY.out.resolve_left (by omega)
          subst hA1 hA2
          obtain ⟨f0, f1, f2⟩ := flatT_at T k hlt
          have d0 := (HB.out.cell (p := ⟨b1, k * 3, none⟩) lt1).trans (cc1 _ _ f0)
          have d1 := (HB.out.cell (p := ⟨b1, k * 3 + 1, none⟩) lt1).trans (cc1 _ _ f1)
          have d2 := (HB.out.cell (p := ⟨b1, k * 3 + 2, none⟩) lt1).trans (cc1 _ _ f2)
          have g0 := (HB.out.cell (p := ⟨b2, k * 3, none⟩) lt2).trans (cc2 _ _ f0)
          have g1 := (HB.out.cell (p := ⟨b2, k * 3 + 1, none⟩) lt2).trans (cc2 _ _ f1)
          have g2 := (HB.out.cell (p := ⟨b2, k * 3 + 2, none⟩) lt2).trans (cc2 _ _ f2)
          have hw1 : b1 < wr.heap.size := by have := HB.out.size; omega
          clear cc1 cc2 f0 f1 f2 hcov
          have HY4 := Lib.hid y4; have HY6 := Lib.hid y6
          have HAL := Lib.hid (alone_tok s T[k].2.1 T[k].2.2 T[k].1 HOK.out y3 y5)
          clear y4 y5 y6
          generalize T[k] = x at *
          obtain ⟨x1, x2, x3⟩ := x
          simp only at y1 y2 y3 d0 d1 d2 g0 g1 g2 HY4 HY6 HAL
          have bk0 : (0 : Int) ≤ (k : Int) := by omega
          have bk1 : (k : Int) < (T.length : Int) := by omega
          have t1 : decide ((x2 : Int) < (a : Int)) = false := decide_eq_false (by omega)
          have t1' : decide (x2 < a) = false := decide_eq_false (by omega)
          have t2 : decide ((x3 : Int) ≤ (x2 : Int)) = false := decide_eq_false (by omega)
          have t2' : decide (x3 ≤ x2) = false := decide_eq_false (by omega)
          have t3 : decide ((s.size : Int) < (x3 : Int)) = false := decide_eq_false (by omega)
          have t3' : decide (s.size < x3) = false := decide_eq_false (by omega)
          go_wp2_with fail
          go_quiet (fail)
          clear t1 t1' t2 t2' t3 t3'
          have e0 : (wr.drewN nq).cell? ⟨b1, k * 3, none⟩ = some (.int .i64 x1) := d0
          have e1 : (wr.drewN nq).cell? ⟨b1, k * 3 + 1, none⟩ = some (.int .i64 (x2 : Int)) := d1
          have e2 : (wr.drewN nq).cell? ⟨b1, k * 3 + 2, none⟩ = some (.int .i64 (x3 : Int)) := d2
          have HBq := Lib.hid (show Below w3.heap.size w3 (wr.drewN nq) from HB.out.trans ⟨rfl, rfl, rfl, Nat.le_refl _, fun _ _ => rfl⟩)
          have hwq : b1 < (wr.drewN nq).heap.size := hw1
          clear d0 d1 d2 g0 g1 g2 HB hw1
          generalize wr.drewN nq = wq at *
          go_wp2_with fail
          go_loop [10] (fun i => ∃ q : Nat, a ≤ q ∧ q ≤ x2 ∧ i = .int .i64 (q : Int)) (fun i => x2 - (intOf i).toNat)
          case atStart => exact ⟨a, Nat.le_refl _, y1, rfl⟩
          case round =>
            obtain ⟨q, hq1, hq2, rfl⟩ := hrel
            by_cases hqx : q < x2
            · have hqs : q < s.size := by omega
              have h32 := HY4.out q hq1 hqx hqs
              have n32 : ((s[q].toNat : Int) != 32) = false := by rw [h32]; rfl
              clear h32
              go_wp2
              go_round
              case rel => exact ⟨q + 1, by omega, by omega, by go_num⟩
              case measure => simp [intOf]; omega
            · have hxm : (s.extract x2 x3).size ≤ maxLen := by rw [ByteArray.size_extract]; unfold maxLen; omega
              have HXM := Lib.hid hxm; clear hxm
              have bk2 : (x2 : Int) ≤ (x3 : Int) := by omega
              have bk3 : (x3 : Int) ≤ (s.size : Int) := by omega
              have bk4 : (0 : Int) ≤ (x2 : Int) := by omega
              go_wp2_with fail
              go_region_held3 (fun w' => w'.cell? ⟨b1, k * 3 + 1, none⟩ = some (.int .i64 (x2 : Int)) ∧ w'.cell? ⟨b1, k * 3 + 2, none⟩ = some (.int .i64 (x3 : Int)))
                (first
                  | go_keep
                  | (go_split_ands
                     refine ⟨?_, ?_⟩
                     · (rw [hb5.cell (by exact hwq)]; assumption)
                     · (rw [hb5.cell (by exact hwq)]; assumption)))
                ((go_at_call 16; refine (tokensOf_impl _ _ (by exact HXM.out)).mono ?_; rintro e w5 ⟨v5, rfl, hown5, hb5⟩; rw [HAL.out.1]))
              rw [HAL.out.2] at hown5
              obtain ⟨g5, c5, rfl, p0, p1, p2⟩ := one_row hown5
              unfold maxLen at p2
              have o0 : w5.cell? ⟨b1, k * 3, none⟩ = some (.int .i64 x1) := (hb5.cell (by exact hwq)).trans e0
              have o2 : w5.cell? ⟨b1, k * 3 + 2, none⟩ = some (.int .i64 (x3 : Int)) := (hb5.cell (by exact hwq)).trans e2
              have HB5 := Lib.hid (HBq.out.drew.trans (hb5.mono HBq.out.size))
              clear hown5 hb5 e0 e1 e2
              go_wp2_with fail
              go_quiet (fail)
              go_wp2
              go_roundw
              case rel => exact ⟨k + 1, x3, by omega, by omega, by go_num, rfl, HY6.out, HB5.out.trans ⟨rfl, rfl, rfl, Nat.le_refl _, fun _ _ => rfl⟩⟩
              case measure => simp [intOf]; omega
        · obtain rfl : k = T.length := by omega
          rw [List.drop_length] at hcov
          have HSP := Lib.hid (show spaces (s.data.toList.drop a) = true from hcov)
          have HBE := Lib.hid (B3.out.trans (HB.out.mono B3.out.size))
          clear hcov
          go_wp2_with fail
          go_loop [13] (fun i => ∃ q : Nat, a ≤ q ∧ q ≤ s.size ∧ i = .int .i64 (q : Int)) (fun i => s.size - (intOf i).toNat)
          case atStart => exact ⟨a, Nat.le_refl _, ha, rfl⟩
          case round =>
            obtain ⟨q, hq1, hq2, rfl⟩ := hrel
            by_cases hqx : q < s.size
            · have h32 : (s[q].toNat : Int) = 32 := by
                have hlen : s.data.toList.length = s.size := by rw [Array.length_toList]; rfl
                have hs := spaces_at HSP.out (q - a) (by rw [List.length_drop]; omega)
                rw [List.getElem_drop] at hs
                have e : s[q] = s.data.toList[a + (q - a)]'(by omega) := by
                  show s.data.toList[q]'(by omega) = _
                  congr 1; omega
                rw [e]; exact hs
              have n32 : ((s[q].toNat : Int) != 32) = false := by rw [h32]; rfl
              clear h32
              go_wp2
              go_round
              case rel => exact ⟨q + 1, by omega, by omega, by go_num⟩
              case measure => simp [intOf]; omega
            · go_wp2
              go_ret
              exact ⟨rfl, HBE.out⟩
  · go_enter Try.func6, Try.ntmps6
    go_wp2
    go_ret
    exact ⟨rfl, Below.refl _ _⟩

end Go.Proofs.Ytiehdnompeibiaa
