/-
  spec.DrawWrapCost returns drawn words, a width and lines.
-/
import Derived.Test.YtbddokfcohnndaaDrawWrapped
import Derived.Test.YtbddokfcohnndaaWrapGS
import Derived.Test.YtbddokfcohnndaaWrapLen
import Derived.Test.YtbddokfcohnndaaWrapFew
namespace Go.Proofs.Ytbddokfcohnndaa
open Go.RowKit
set_option linter.unusedVariables false

/-- What the law is told of drawn words, a width and lines. -/
def DrawnWC (w : World) (e : Ending) (w' : World) : Prop :=
  ∃ (L : List ByteArray) (x : Int) (v : Value) (P : List Nat) (u : Value), e = .returned (.tuple #[v, .int .i64 x, u]) ∧ L.length ≤ 21 ∧ (∀ t ∈ L, t.size ≤ 21) ∧ 0 ≤ x ∧ x ≤ 41 ∧ P.length ≤ 22 ∧ (∀ n ∈ P, n ≤ 200) ∧ w'.ownsRow w.heap.size 9 1 v L.length (strs L) ∧ w'.ownsRow w.heap.size 3 1 u P.length (ints P) ∧ Below w.heap.size w w'
/-- What stands while the lines are bent. -/
structure BendW (base R : Nat) (w wr : World) (v u : Value) (L : List ByteArray) (P : List Nat) : Prop where
  ws : wr.ownsRow base 9 1 v L.length (strs L)
  ls : wr.ownsRow base 3 1 u P.length (ints P)
  far : ∀ q, u.ownBlock = some q → v.ownBlock ≠ some q ∧ R < q
  be : Below w.heap.size w wr
  lo : w.heap.size ≤ base ∧ base ≤ wr.heap.size ∧ R < base ∧ w.heap.size ≤ R
  few : ∀ n ∈ P, n ≤ 200
theorem glB_few (L : List ByteArray) (x : Int) : ∀ n ∈ glB L x, n ≤ 100 := by
  intro n hn
  unfold glB at hn
  by_cases hf : fitB L x = true
  · rw [if_pos hf] at hn
    obtain ⟨m, rfl, h1, h2, h3⟩ := fit_S hf
    obtain ⟨c, hc⟩ := gl_ok _ _ rfl h3
    obtain ⟨-, h4, -⟩ := costR_sum _ _ _ _ hc
    have h5 := mem_sum hn
    have h6 := fit_len hf
    rw [szW_len] at h4
    omega
  · rw [if_neg hf] at hn; simp at hn
/-- Something was drawn. -/
theorem BendW.to {base R : Nat} {w wr w1 : World} {v u : Value} {L : List ByteArray} {P : List Nat} (h : BendW base R w wr v u L P) (hg : wr.grownBy w1 (some R)) : BendW base R w w1 v u L P := by
  have hr : ∀ {z : Value} {e : TypeId} {n : Nat} {xs : List Value}, wr.ownsRow base e 1 z n xs → w1.ownsRow base e 1 z n xs := fun ho => ho.kept hg (.inr (fun e => by have h1 := (ho.lt R e).1; have h2 := h.lo; omega))
  exact ⟨hr h.ws, hr h.ls, h.far, h.be.trans (grown_below hg h.be.size h.lo.2.2.2), ⟨h.lo.1, Nat.le_trans h.lo.2.1 hg.size, h.lo.2.2⟩, h.few⟩
theorem BendW.al {base R : Nat} {w wr : World} {v u : Value} {L : List ByteArray} {P : List Nat} (h : BendW base R w wr v u L P) (o : Obj) : BendW base R w (wr.alloc o) v u L P :=
  ⟨h.ws.alloc o, h.ls.alloc o, h.far, h.be.alloc h.be.size o, ⟨h.lo.1, by rw [show (wr.alloc o).heap.size = wr.heap.size + 1 by simp]; have := h.lo.2.1; omega, h.lo.2.2⟩, h.few⟩
/-- A line more. -/
theorem BendW.app {base R gg cap : Nat} {w wr w1 : World} {v u : Value} {L : List ByteArray} {P : List Nat} (m : Nat) (h : BendW base R w wr v u L P) (hm : m ≤ 100) (hown : w1.ownsRow base 3 1 (.slice (some ⟨gg, 0, none⟩) (P.length + 1) cap) (P.length + 1) (ints P ++ [.int .i64 (m : Int)])) (hg : wr.grownBy w1 u.ownBlock) (hat : u.ownBlock = some gg ∨ gg = wr.heap.size) : BendW base R w w1 v (.slice (some ⟨gg, 0, none⟩) (P.length + 1) cap) L (P ++ [m]) := by
  refine ⟨h.ws.kept hg ?_, by rw [List.length_append, ints_snoc]; exact hown, fun q hq => ?_, h.be.grown hg h.be.size (fun q hq => Nat.le_trans h.lo.1 (h.ls.lt q hq).1), ⟨h.lo.1, Nat.le_trans h.lo.2.1 hg.size, h.lo.2.2⟩, fun n hn => ?_⟩
  · cases hu : u.ownBlock with
    | none =>
      cases hv : v.ownBlock with
      | none => exact .inl rfl
      | some y => exact .inr (by simp)
    | some y => exact .inr (h.far y hu).1
  · simp only [Value.ownBlock, Option.some.injEq] at hq
    subst hq
    rcases hat with hat | hat
    · exact h.far _ hat
    · refine ⟨fun e => ?_, ?_⟩
      · have := (h.ws.lt _ e).2; omega
      · have := h.lo; omega
  · rcases List.mem_append.mp hn with hn | hn
    · exact h.few n hn
    · simp only [List.mem_singleton] at hn; omega
/-- A number is put in its place. -/
theorem BendW.put {base R g c n0 : Nat} {w wr : World} {v : Value} {L : List ByteArray} {P : List Nat} (k m : Nat) (hn0 : P.length = n0) (h : BendW base R w wr v (.slice (some ⟨g, 0, none⟩) n0 c) L P) (hm : m ≤ 200) : BendW base R w (wr.setCell ⟨g, k, none⟩ (.int .i64 (m : Int))) v (.slice (some ⟨g, 0, none⟩) n0 c) L (P.set k m) := by
  subst hn0
  have s1 := h.ls.stored k (.int .i64 (m : Int))
  have hf := h.far g rfl
  have hlt := h.ls.lt g rfl
  refine ⟨h.ws.kept s1.2 (.inr hf.1), ?_, h.far, h.be.setCell (p := ⟨g, k, none⟩) (show w.heap.size ≤ g by have := h.lo; omega) _, ⟨h.lo.1, by simpa [World.setCell] using h.lo.2.1, h.lo.2.2⟩, fun n hn => ?_⟩
  · have e : ints (P.set k m) = (ints P).set k (.int .i64 (m : Int)) := by simp [ints, List.map_set]
    rw [e, List.length_set]; exact s1.1
  · rcases List.mem_or_eq_of_mem_set hn with hn | hn
    · exact h.few n hn
    · omega

/-- The lines begin anew. -/
theorem BendW.new {base R : Nat} {w wr : World} {v u : Value} {L : List ByteArray} {P : List Nat} (h : BendW base R w wr v u L P) : BendW base R w (wr.alloc (.cells #[] 3)) v (.slice (some ⟨wr.heap.size, 0, none⟩) 0 0) L [] := by
  have h2 := h.al (.cells #[] 3)
  refine ⟨h2.ws, World.ownsRow_lit (base := base) (size := 1) (e := 3) wr #[] 0 h.lo.2.1 (by unfold maxLen; omega) rfl, fun q hq => ?_, h2.be, h2.lo, fun n hn => by cases hn⟩
  simp only [Value.ownBlock, Option.some.injEq] at hq
  subst hq
  refine ⟨fun e => ?_, ?_⟩
  · have := (h.ws.lt _ e).2; omega
  · have := h.lo; omega

set_option maxRecDepth 100000 in
set_option maxHeartbeats 8000000 in
theorem drawWrapCost_any (a : Option Addr) (len cap : Nat) (w : World) (h : CodeRow w a len cap) :
    Calls Try.prog 30 #[.slice a len cap] w (DrawnWC w) := by
  obtain ⟨i0, hi, hz0, hz1, hz2⟩ := info_parts infoI
  go_enter Try.func30, Try.ntmps30
  go_wp2_with fail
  refine (open_codes a len cap _ h).mono ?_
  rintro e w1 ⟨rfl, hr1, hb1, hs1⟩
  have HB1 := Lib.hid hb1
  have HS1 := Lib.hid hs1
  clear hb1 hs1 h
  go_wp2_with fail
  refine (wrapped_any w.heap.size 0 9 _ (by omega) (by omega) (by omega) hr1).mono ?_
  rintro e w2 ⟨L, x, v, rfl, hL, hx0, hx1, hS⟩
  obtain ⟨a2, c2, rfl⟩ := own_shape hS.own
  have S := Lib.hid hS
  have Z := Lib.hid (few_sized hS.sz)
  clear hS hr1
  go_wp2_with fail
  refine (wrapGreedy_spec _ L x _ (RowOf.of_own S.out.own) Z.out).mono ?_
  rintro e w3 ⟨u, rfl, hown3, hb3⟩
  have hp20 := glB_len L x
  have BW := Lib.hid (show BendW w1.heap.size w.heap.size w w3 (.slice a2 L.length c2) u L (glB L x) from
    ⟨own_belowS S.out.own hb3, own_base hown3 (fun g hg => Nat.le_trans S.out.gr.size (hown3.lt g hg).1), fun q hq => ⟨fun e => by have h1 := (hown3.lt q hq).1; have h2 := (S.out.own.lt q e).2; omega, by have h1 := (hown3.lt q hq).1; have h2 := S.out.gr.size; have h3 := HS1.out; omega⟩,
      (HB1.out.trans (grown_below S.out.gr HB1.out.size (Nat.le_refl _))).trans (hb3.mono (Nat.le_trans HB1.out.size S.out.gr.size)), ⟨HB1.out.size, Nat.le_trans S.out.gr.size hb3.size, by have := HS1.out; omega, Nat.le_refl _⟩, fun n hn => Nat.le_trans (glB_few L x n hn) (by omega)⟩)
  have FEW := Lib.hid (glB_few L x)
  have RD := Lib.hid (show Rdm w3 w.heap.size 40 from S.out.rd.kept (row := none) ⟨hb3.os, hb3.tape, hb3.output, hb3.size, fun i hi _ => hb3.block i hi⟩ (by simp))
  have SZ := Lib.hid S.out.sz
  generalize glB L x = P at hp20 hown3 BW FEW
  obtain ⟨ag, ac, rfl⟩ := own_shape hown3
  clear hown3 hb3 S
  go_wp2_with fail
  refine (odd_any w.heap.size 40 2 _ (by omega) (by omega) (by omega) RD.out).mono ?_
  rintro e w4 ⟨b, rfl, -, hr4, hg4, hs4⟩
  have BW4 := Lib.hid (BW.out.to hg4)
  clear hg4 hs4 BW RD
  have FIN := Lib.hid (fun (W : World) (u : Value) (Q : List Nat) (hB : BendW w1.heap.size w.heap.size w W (.slice a2 L.length c2) u L Q) (hq : Q.length ≤ 22) => show DrawnWC w (.returned (.tuple #[.slice a2 L.length c2, .int .i64 x, u])) W from
    ⟨L, x, _, Q, u, rfl, hL, SZ.out, hx0, hx1, hq, hB.few, own_base hB.ws (fun g hg => Nat.le_trans hB.lo.1 (hB.ws.lt g hg).1), own_base hB.ls (fun g hg => Nat.le_trans hB.lo.1 (hB.ls.lt g hg).1), hB.be⟩)
  by_cases hbl : b = true ∧ 0 < P.length
  case neg =>
    cases b with
    | false =>
      go_wp2
      exact bodyPost_ret (v := .tuple #[.slice a2 L.length c2, .int .i64 x, .slice ag P.length ac]) (by simp [results, Try.results30, go_sem]) rfl (FIN.out _ _ P BW4.out (by omega))
    | true =>
      have hp0 : ¬ 0 < P.length := fun h => hbl ⟨rfl, h⟩
      go_wp2
      exact bodyPost_ret (v := .tuple #[.slice a2 L.length c2, .int .i64 x, .slice ag P.length ac]) (by simp [results, Try.results30, go_sem]) rfl (FIN.out _ _ P BW4.out (by omega))
  case pos =>
    obtain ⟨rfl, hp0⟩ := hbl
    obtain ⟨g, rfl⟩ : ∃ g, ag = some ⟨g, 0, none⟩ := by
      rcases BW4.out.ls.2 with ⟨hv, h0⟩ | ⟨g, cp, cur, hv, _⟩
      · omega
      · injection hv with e1; exact ⟨g, e1⟩
    go_wp2_with fail
    refine (pick_any w.heap.size 41 4 _ (by omega) hr4).mono ?_
    rintro e w5 ⟨q, rfl, hq0, hq1, -, hr5, hg5, hs5⟩
    have hq2 := hq1 (by omega)
    have BW5 := Lib.hid (BW4.out.to hg5)
    clear hq1 hg5 hs5 BW4 hr4
    by_cases q0 : q = 0
    · subst q0
      have BN := Lib.hid BW5.out.new
      go_wp2_with fail
      go_loopw [8, 9] (fun u k wr => ∃ (j g c : Nat) (Q : List Nat), j ≤ L.length ∧ k = .int .i64 (j : Int) ∧ Q.length = j ∧ u = .slice (some ⟨g, 0, none⟩) Q.length c ∧ BendW w1.heap.size w.heap.size w wr (.slice a2 L.length c2) u L Q) (fun _ k _ => L.length - (intOf k).toNat)
      case atStart => exact ⟨0, _, _, [], Nat.zero_le _, rfl, rfl, rfl, BN.out⟩
      case round =>
        clear BN BW5
        obtain ⟨j, g', c', Q, hj, rfl, hQ, rfl, hB⟩ := hrel
        have BW6 := Lib.hid hB
        clear hB
        have HQ := Lib.hid hQ
        have hQ21 : Q.length ≤ 21 := by omega
        by_cases hlt : j < L.length
        · clear hQ
          go_wp2_with (at_builtin; refine wpList_append_lies _ rfl _ _ 27 rfl w1.heap.size 3 i0 (.int .i64 0) 1 8 Try.underlying27 hi hz0 hz1 hz2 rfl (by decide) (.slice (some ⟨g', 0, none⟩) Q.length c') Q.length _ rfl (BW6.out.ls.alloc _) ⟨wr.heap.size, 0, none⟩ 1 1 [.int .i64 (1 : Int)] rfl rfl (World.news_of_block (cs := #[.int .i64 (1 : Int)]) (t := 3) (fr := (0, 0)) (heap_alloc_new wr _)) (by simp [Value.oneCell']) (by omega) (by unfold maxLen; omega) (by omega) (by simp; exact Nat.le_succ_of_le BW6.out.lo.2.1) (wr.heap.size + 1) (by simp) ?_; intro gg cap' w7 hown' hgrow hat hlt2; have BW7 := Lib.hid ((BW6.out.al _).app 1 (by omega) hown' hgrow (by simpa using hat)); clear hown' hgrow hat hlt2)
          go_roundw
          case rel => exact ⟨j + 1, gg, cap', Q ++ [1], by omega, by go_num, by have := HQ.out; simp; omega, by rw [List.length_append]; rfl, BW7.out⟩
          case measure => simp [intOf]; omega
        · clear hQ
          go_wp2
          exact bodyPost_ret (v := .tuple #[.slice a2 L.length c2, .int .i64 x, .slice (some ⟨g', 0, none⟩) Q.length c']) (by simp [results, Try.results30, go_sem]) rfl (FIN.out _ _ Q BW6.out (by omega))
    · by_cases q1 : q = 1
      · subst q1
        go_wp2_with (at_builtin; refine wpList_append_lies _ rfl _ _ 27 rfl w1.heap.size 3 i0 (.int .i64 0) 1 8 Try.underlying27 hi hz0 hz1 hz2 rfl (by decide) (.slice (some ⟨g, 0, none⟩) P.length ac) P.length _ rfl (BW5.out.ls.alloc _) ⟨w5.heap.size, 0, none⟩ 1 1 [.int .i64 (1 : Int)] rfl rfl (World.news_of_block (cs := #[.int .i64 (1 : Int)]) (t := 3) (fr := (0, 0)) (heap_alloc_new w5 _)) (by simp [Value.oneCell']) (by omega) (by unfold maxLen; omega) (by omega) (by simp; exact Nat.le_succ_of_le BW5.out.lo.2.1) (w5.heap.size + 1) (by simp) ?_; intro gg cap' w7 hown' hgrow hat hlt2; have BW7 := Lib.hid ((BW5.out.al _).app 1 (by omega) hown' hgrow (by simpa using hat)); clear hown' hgrow hat hlt2)
        exact bodyPost_ret (v := .tuple #[.slice a2 L.length c2, .int .i64 x, .slice (some ⟨gg, 0, none⟩) (P.length + 1) cap']) (by simp [results, Try.results30, go_sem]) rfl (FIN.out _ _ (P ++ [1]) BW7.out (by simp; omega))
      · by_cases q2 : q = 2
        · subst q2
          go_wp2_with fail
          refine (pick_any w.heap.size 42 (P.length : Int) _ (by omega) hr5).mono ?_
          rintro e w6 ⟨k, rfl, hk0, hk1, -, hr6, hg6, hs6⟩
          have hk2 := hk1 (by omega)
          obtain ⟨k', rfl⟩ := Int.eq_ofNat_of_zero_le hk0
          have BW6 := Lib.hid (BW5.out.to hg6)
          clear hk1 hg6 hs6 BW5 hr5
          go_wp2_with fail
          refine (pick_any w.heap.size 43 4 _ (by omega) hr6).mono ?_
          rintro e w7 ⟨m, rfl, hm0, hm1, -, hr7, hg7, hs7⟩
          have hm2 := hm1 (by omega)
          obtain ⟨m', rfl⟩ := Int.eq_ofNat_of_zero_le hm0
          have BW7 := Lib.hid (BW6.out.to hg7)
          clear hm1 hg7 hs7 BW6 hr6 hr7
          obtain ⟨ou, hou⟩ : ∃ u, (ints P)[k']? = some u := ⟨_, List.getElem?_eq_getElem (by rw [ints_length]; omega)⟩
          have d0 := (BW7.out.ls.cellAt k' (by omega)).trans hou
          have f0 := BW7.out.ls.frozenAt k'
          have BW8 := Lib.hid (BW7.out.put k' m' rfl (by omega))
          clear hou
          go_wp2
          exact bodyPost_ret (v := .tuple #[.slice a2 L.length c2, .int .i64 x, .slice (some ⟨g, 0, none⟩) P.length ac]) (by simp [results, Try.results30, go_sem]) rfl (FIN.out _ _ _ BW8.out (by simp; omega))
        · have e0 : (q == (0 : Int)) = false := beq_eq_false_iff_ne.mpr q0
          have e1 : (q == (1 : Int)) = false := beq_eq_false_iff_ne.mpr q1
          have e2 : (q == (2 : Int)) = false := beq_eq_false_iff_ne.mpr q2
          have d0 : w5.cell? ⟨g, 0, none⟩ = some (.int .i64 (P[0] : Int)) := (BW5.out.ls.cellAt 0 (by omega)).trans (ints_at P 0 hp0)
          have f0 := BW5.out.ls.frozenAt 0
          have hp00 : P[0] ≤ 100 := FEW.out _ (List.getElem_mem hp0)
          have HW1 := Lib.hid (fun m (hm : m ≤ 200) => BW5.out.put 0 m rfl hm)
          have FN := Lib.hid (FIN.out _ _ P BW5.out (by omega))
          by_cases hp2 : 1 < P.length
          · have d1 : w5.cell? ⟨g, 1, none⟩ = some (.int .i64 (P[1] : Int)) := (BW5.out.ls.cellAt 1 (by omega)).trans (ints_at P 1 hp2)
            have f1 := BW5.out.ls.frozenAt 1
            have hp11 : P[1] ≤ 100 := FEW.out _ (List.getElem_mem hp2)
            generalize P[0] = y0 at d0 hp00
            generalize P[1] = y1 at d1 hp11
            by_cases hy : 1 < y0
            · obtain ⟨z, rfl⟩ : ∃ z, y0 = z + 1 := ⟨y0 - 1, by omega⟩
              have B1' := Lib.hid (HW1.out z (by omega))
              have B2 := Lib.hid (B1'.out.put 1 (y1 + 1) (by simp) (by omega))
              go_wp2
              exact bodyPost_ret (v := .tuple #[.slice a2 L.length c2, .int .i64 x, .slice (some ⟨g, 0, none⟩) P.length ac]) (by simp [results, Try.results30, go_sem]) rfl (FIN.out _ _ _ B2.out (by simp; omega))
            · go_wp2
              exact bodyPost_ret (v := .tuple #[.slice a2 L.length c2, .int .i64 x, .slice (some ⟨g, 0, none⟩) P.length ac]) (by simp [results, Try.results30, go_sem]) rfl FN.out
          · generalize P[0] = y0 at d0 hp00
            go_wp2
            exact bodyPost_ret (v := .tuple #[.slice a2 L.length c2, .int .i64 x, .slice (some ⟨g, 0, none⟩) P.length ac]) (by simp [results, Try.results30, go_sem]) rfl FN.out

end Go.Proofs.Ytbddokfcohnndaa
