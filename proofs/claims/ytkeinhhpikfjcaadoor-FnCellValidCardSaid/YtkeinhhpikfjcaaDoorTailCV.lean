/-
  FnCellValid's draw and walk, in one text (RowSub, Alive, DrawExpr1, DrawCellV1, WalkCellV1).
-/
import Derived.Test.YtkeinhhpikfjcaaDoorCellRow
import Derived.Test.YtkeinhhpikfjcaaDoorTexts
import Derived.Test.YtkeinhhpikfjcaaDoorDrawCells1
import Derived.Deep.Onto
import Derived.Test.YtkeinhhpikfjcaaDoorCellI
import Derived.Test.YtkeinhhpikfjcaaDoorCellS
namespace Go.Proofs.YtkeinhhpikfjcaaDoor
open Go.RowKit
set_option linter.unusedVariables false

theorem RowC.sub {w : World} {b o cap : Nat} {l : List Cl} (h : RowC w (.slice (some ⟨b, o, none⟩) l.length cap) l) (i j : Nat) (hij : i ≤ j) (hj : j ≤ l.length) :
    RowC w (.slice (some ⟨b, o + i * 3, none⟩) (j - i) (cap - i)) ((l.take j).drop i) := by
  obtain ⟨ao, cap', hv, h1, h2, h3⟩ := h
  simp only [Value.slice.injEq] at hv
  obtain ⟨rfl, -, rfl⟩ := hv
  have hlen : ((l.take j).drop i).length = j - i := by rw [List.length_drop, List.length_take]; omega
  refine ⟨_, _, by rw [hlen], by rw [hlen]; omega, by unfold maxLen at h2 ⊢; omega, ?_⟩
  rcases h3 with rfl | ⟨b', o', hA, hlt, hc⟩
  · left; simp
  · simp only [Option.some.injEq, Addr.mk.injEq, and_true] at hA
    obtain ⟨rfl, rfl⟩ := hA
    refine .inr ⟨_, _, rfl, hlt, fun k hk => ?_⟩
    rw [hlen] at hk
    obtain ⟨c0, c1, c2⟩ := hc (i + k) (by omega)
    have e : ((l.take j).drop i)[k] = l[i + k]'(by omega) := by rw [List.getElem_drop, List.getElem_take]
    rw [e]
    have q : o + i * 3 + k * 3 = o + (i + k) * 3 := by omega
    exact ⟨by rw [q]; exact c0, by rw [q]; exact c1, by rw [q]; exact c2⟩

end Go.Proofs.YtkeinhhpikfjcaaDoor

namespace Go.Proofs.YtkeinhhpikfjcaaDoor
open Go.RowKit
set_option linter.unusedVariables false

theorem alive_any (w : World) : Calls Tryd.prog 8 #[] w fun e w' => e = .returned (.bool true) ∧ w = w' := by
  go_enter Tryd.func8, Tryd.ntmps8
  go_wp2_with fail
  refine (textValid_impl _ _ (by decide)).mono ?_
  rintro e w' ⟨rfl, rfl⟩
  go_wp2
  go_ret
  exact ⟨ret_bool (by decide), rfl⟩

end Go.Proofs.YtkeinhhpikfjcaaDoor

namespace Go.Proofs.YtkeinhhpikfjcaaDoor
open Go.RowKit
set_option linter.unusedVariables false

theorem flatC_cons (a : Cl) (t : List Cl) : flatC (a :: t) = .int .i64 a.1 :: .string a.2.1 :: .int .i64 a.2.2 :: flatC t := by simp [flatC]
theorem flatC_set0 (l : List Cl) : ∀ (k : Nat) (h : k < l.length) (x : Int), (flatC l).set (k * 3) (.int .i64 x) = flatC (l.set k (x, l[k].2.1, l[k].2.2)) := by
  induction l with
  | nil => intro k h; simp at h
  | cons a t ih =>
    intro k h x
    cases k with
    | zero => simp only [flatC_cons, List.set_cons_zero, List.getElem_cons_zero, Nat.zero_mul]
    | succ k =>
      have hk : k < t.length := by simpa using h
      simp only [flatC_cons, show (k + 1) * 3 = (k * 3) + 1 + 1 + 1 by omega, List.set_cons_succ, List.getElem_cons_succ, ih k hk x]
theorem flatC_set1 (l : List Cl) : ∀ (k : Nat) (h : k < l.length) (x : ByteArray), (flatC l).set (k * 3 + 1) (.string x) = flatC (l.set k (l[k].1, x, l[k].2.2)) := by
  induction l with
  | nil => intro k h; simp at h
  | cons a t ih =>
    intro k h x
    cases k with
    | zero => simp only [flatC_cons, List.set_cons_zero, List.getElem_cons_zero, Nat.zero_mul, Nat.zero_add, List.set_cons_succ]
    | succ k =>
      have hk : k < t.length := by simpa using h
      simp only [flatC_cons, show (k + 1) * 3 + 1 = (k * 3 + 1) + 1 + 1 + 1 by omega, List.set_cons_succ, List.getElem_cons_succ, ih k hk x]
theorem flatC_set2 (l : List Cl) : ∀ (k : Nat) (h : k < l.length) (x : Int), (flatC l).set (k * 3 + 2) (.int .i64 x) = flatC (l.set k (l[k].1, l[k].2.1, x)) := by
  induction l with
  | nil => intro k h; simp at h
  | cons a t ih =>
    intro k h x
    cases k with
    | zero => simp only [flatC_cons, List.set_cons_zero, List.getElem_cons_zero, Nat.zero_mul, Nat.zero_add, List.set_cons_succ]
    | succ k =>
      have hk : k < t.length := by simpa using h
      simp only [flatC_cons, show (k + 1) * 3 + 2 = (k * 3 + 2) + 1 + 1 + 1 by omega, List.set_cons_succ, List.getElem_cons_succ, ih k hk x]
theorem short_set {l : List Cl} (h : ∀ c ∈ l, c.2.1.size ≤ 60) (k : Nat) (c : Cl) (hc : c.2.1.size ≤ 60) : ∀ d ∈ l.set k c, d.2.1.size ≤ 60 := by
  intro d hd
  rcases List.mem_or_eq_of_mem_set hd with hd | rfl
  · exact h d hd
  · exact hc
theorem short_cons {l : List Cl} (h : ∀ c ∈ l, c.2.1.size ≤ 60) (c : Cl) (hc : c.2.1.size ≤ 60) : ∀ d ∈ c :: l, d.2.1.size ≤ 60 := by
  intro d hd
  rw [List.mem_cons] at hd
  rcases hd with rfl | hd
  · exact hc
  · exact h d hd
/-- What a drawn, perhaps bent, expression is. -/
def RowK (R : Nat) (w : World) (v : Value) (l : List Cl) : Prop := ∀ w', w.grownBy w' (some R) → RowC w' v l
theorem RowK.row {R : Nat} {w : World} {v : Value} {l : List Cl} (h : RowK R w v l) : RowC w v l := h w (World.grownBy.refl _ _)
theorem RowK.of_own {R b m : Nat} {w : World} {v : Value} {l : List Cl} (h : w.ownsRow b 24 3 v m (flatC l)) (hb : R < b) : RowK R w v l := fun w' hg =>
  (RowC.of_own (h.kept hg (.inr (by intro he; have := (h.lt _ he).1; omega)))).1
def ExprD (R p : Nat) (n : Int) (w : World) (e : Ending) (w' : World) : Prop :=
  ∃ (v : Value) (l : List Cl), e = .returned v ∧ RowK R w' v l ∧ (∀ c ∈ l, c.2.1.size ≤ 60) ∧ l.length ≤ 60 ∧ (n < 1 → 1 ≤ l.length) ∧ Rdm w' R (p + 1000) ∧ w.grownBy w' (some R)
theorem ExprD.of_own {R p q b m : Nat} {n : Int} {w w' : World} {v : Value} {l : List Cl} (h : w'.ownsRow b 24 3 v m (flatC l)) (hRb : R < b) (hs : ∀ c ∈ l, c.2.1.size ≤ 60) (hl : l.length ≤ 60) (hn : 1 ≤ l.length) (hr : Rdm w' R q) (hq : q ≤ p + 1000) (hg : w.grownBy w' (some R)) :
    ExprD R p n w (.returned v) w' := ⟨v, l, rfl, RowK.of_own h hRb, hs, hl, fun _ => hn, hr.mono hq, hg⟩
theorem three (m : Nat) (h : m < 3) : ∃ t : Int, (#[Value.int .i64 (-1), .int .i64 4, .int .i64 9] : Array Value)[m]? = some (.int .i64 t) := by
  match m, h with
  | 0, _ => exact ⟨_, rfl⟩
  | 1, _ => exact ⟨_, rfl⟩
  | 2, _ => exact ⟨_, rfl⟩
theorem slice_form {w : World} {b m : Nat} {v : Value} {l : List Cl} (h : w.ownsRow b 24 3 v m (flatC l)) (hl : 1 ≤ l.length) : ∃ g cap, v = .slice (some ⟨g, 0, none⟩) l.length cap ∧ m = l.length ∧ b ≤ g ∧ g < w.heap.size ∧ l.length ≤ cap ∧ cap ≤ maxLen := by
  have hm := (RowC.of_own h).2
  subst hm
  rcases h.2 with ⟨rfl, h0⟩ | ⟨g, cap, cur, rfl, hb, hh, h1, h2, _⟩
  · omega
  · exact ⟨g, cap, rfl, rfl, hb, (h.lt g rfl).2, h1, h2⟩

set_option maxRecDepth 100000 in
set_option maxHeartbeats 8000000 in
theorem expr_any (R p : Nat) (n : Int) (w : World) (hp : p < 100000000) (hn0 : 0 ≤ n) (hn1 : n ≤ 1000) (h : Rdm w R p) :
    Calls Tryd.prog 12 #[.pointer (some ⟨R, 0, none⟩), .int .i64 n] w (ExprD R p n w) := by
  obtain ⟨i0, hi, hz0, hz1, hz2⟩ := info_parts infoC
  have HLT := Lib.hid h.lt
  go_enter Tryd.func12, Tryd.ntmps12
  go_wp2_with fail
  refine (pick_any R p 4 _ (by omega) h).mono ?_
  rintro e w1 ⟨i, rfl, hi0, hi1, -, hr1, hg1, hs1⟩
  have hi2 := hi1 (by omega)
  obtain ⟨i1, rfl⟩ := Int.eq_ofNat_of_zero_le hi0
  have HG1 := Lib.hid hg1
  have HDE := Lib.hid (show 1 + (i1 : Int) = ((1 + i1 : Nat) : Int) by omega)
  have hd4 : 1 + i1 = 1 ∨ 1 + i1 = 2 ∨ 1 + i1 = 3 ∨ 1 + i1 = 4 := by omega
  have hkp : kp (1 + i1) ≤ 968 := by rcases hd4 with h | h | h | h <;> rw [h] <;> decide
  have hcb : cb (1 + i1) ≤ 40 := by rcases hd4 with h | h | h | h <;> rw [h] <;> decide
  clear hi1 hg1 hs1 h hd4
  go_wp2_with fail
  rw [HDE.out]
  refine (cells_any (1 + i1) R (p + 1) _ (by omega) (by omega) hr1).mono ?_
  rintro e w2 ⟨v, l, rfl, hown, hsh, hl1, hlc, hr2, hg2⟩
  obtain ⟨g, cap, rfl, -, hbg, hgl, hcap, hcm⟩ := slice_form hown hl1
  unfold maxLen at hcm
  have hl40 : l.length ≤ 40 := by omega
  have hR : w.heap.size ≤ w1.heap.size := HG1.out.size
  have HO := Lib.hid (hown.mono hR); have HSH := Lib.hid hsh
  have HG2 := Lib.hid (grown_trans HG1.out hg2)
  have hr2' : Rdm w2 R (p + 970) := hr2.mono (by omega)
  have hgw : w.heap.size ≤ g := by omega
  have hRg : R < g := by have := HLT.out; omega
  clear hown hsh hlc hr2 hg2 hr1 HG1 hbg hkp hcb
  go_wp2_with fail
  refine (odd_any R (p + 970) n _ (by omega) (by omega) (by omega) hr2').mono ?_
  rintro e w3 ⟨b, rfl, hbn, hr3, hg3, hs3⟩
  have HO3 := Lib.hid (HO.out.kept hg3 (.inr (by simp [Value.ownBlock]; omega)))
  have HG3 := Lib.hid (grown_trans HG2.out hg3)
  clear hg3 hs3 hr2' HO HG2
  cases b with
  | false =>
    go_wp2
    go_ret
    exact ExprD.of_own HO3.out HLT.out HSH.out (by omega) hl1 hr3 (by omega) HG3.out
  | true =>
    have hn : ¬ n < 1 := fun h => by have := hbn h; cases this
    clear hbn
    go_wp2_with fail
    refine (pick_any R (p + 970 + 1) 6 _ (by omega) hr3).mono ?_
    rintro e w4 ⟨y, rfl, hy0, hy1, -, hr4, hg4, hs4⟩
    have hy2 := hy1 (by omega)
    obtain ⟨y1, rfl⟩ := Int.eq_ofNat_of_zero_le hy0
    have HO4 := Lib.hid (HO3.out.kept hg4 (.inr (by simp [Value.ownBlock]; omega)))
    have HG4 := Lib.hid (grown_trans HG3.out hg4)
    have HR4 := Lib.hid (hr4.mono (show _ ≤ p + 972 by omega))
    clear hy1 hg4 hs4 hr3 HO3 HG3 hr4
    have hy6 : y1 = 0 ∨ y1 = 1 ∨ y1 = 2 ∨ y1 = 3 ∨ y1 = 4 ∨ y1 = 5 := by omega
    clear hy2
    rcases hy6 with rfl | rfl | rfl | rfl | rfl | rfl
    · go_wp2_with (at_builtin; refine wpList_append_own _ rfl _ _ 35 rfl w.heap.size 24 i0 (.agg #[.int .i64 0, .string ByteArray.empty, .int .i64 0]) 3 32 Tryd.underlying35 hi hz0 hz1 hz2 rfl (by decide) _ _ _ rfl (HO4.out.alloc _) ⟨w4.heap.size, 0, none⟩ 1 1 [.int .i64 1, .string ⟨#[49]⟩, .int .i64 0] rfl rfl (World.news_of_block (cs := #[.int .i64 1, .string ⟨#[49]⟩, .int .i64 0]) (t := 24) (fr := (0, 0)) (heap_alloc_new w4 _)) (by simp [Value.oneCell']) (by unfold maxLen; omega) (by omega) (by have := HG4.out.size; simp; omega) ?_; intro v6 w6 hown6 hgrow6 hnil6; have HO6 := Lib.hid hown6; have HG6 := Lib.hid (grown_own (grown_alloc HG4.out _) hgrow6 (fun q hq => (HO4.out.lt q hq).1)); have HR6 := Lib.hid ((HR4.out.kept (World.grownBy_alloc w4 _ none) (by simp)).kept hgrow6 (fun q hq => by have := (HO4.out.lt q hq).1; have := HLT.out; omega)); clear hown6 hgrow6 hnil6)
      go_ret
      refine ExprD.of_own (l := l ++ [(1, ⟨#[49]⟩, 0)]) (m := l.length + 1) (b := w.heap.size) ?_ HLT.out ?_ ?_ ?_ HR6.out (by omega) HG6.out
      · rw [flatC_append]; exact HO6.out
      · intro c hc
        rw [List.mem_append, List.mem_singleton] at hc
        rcases hc with hc | rfl
        · exact HSH.out c hc
        · decide
      · rw [List.length_append, List.length_singleton]; omega
      · rw [List.length_append, List.length_singleton]; omega
    · have HRC := Lib.hid (RowK.of_own HO4.out HLT.out)
      by_cases hc1 : cap = 1
      · subst hc1
        have hll : l.length = 1 := by omega
        go_wp2
        go_ret
        refine ⟨_, [], rfl, ?_, fun c hc => by simp at hc, by simp, fun h => by omega, HR4.out.mono (by omega), HG4.out⟩
        exact fun _ _ => ⟨_, 0, rfl, Nat.le_refl _, by unfold maxLen; omega, .inl rfl⟩
      · have hcc : ¬ (cap : Int) = 1 := by omega
        have HSB := Lib.hid (fun w' hg => (HRC.out w' hg).sub 1 l.length hl1 (Nat.le_refl _))
        go_wp2
        go_ret
        refine ⟨_, (l.take l.length).drop 1, rfl, ?_, fun c hc => HSH.out c (List.mem_of_mem_take (List.mem_of_mem_drop hc)), by rw [List.length_drop, List.length_take]; omega, fun h => by omega, HR4.out.mono (by omega), HG4.out⟩
        exact HSB.out
    · go_wp2_with fail
      refine (pick_any R (p + 972) (l.length : Int) _ (by omega) HR4.out).mono ?_
      rintro e w5 ⟨x, rfl, hx0, hx1, -, hr5, hg5, hs5⟩
      have hx2 := hx1 (by omega)
      obtain ⟨k, rfl⟩ := Int.eq_ofNat_of_zero_le hx0
      have hkl : k < l.length := by omega
      have HO5 := Lib.hid (HO4.out.kept hg5 (.inr (by simp [Value.ownBlock]; omega)))
      have HG5 := Lib.hid (grown_trans HG4.out hg5)
      clear hx1 hg5 hs5 HO4 HG4
      go_wp2_with fail
      refine (pick_any R (p + 972 + 1) 11 _ (by omega) hr5).mono ?_
      rintro e w6 ⟨t, rfl, -, -, -, hr6, hg6, hs6⟩
      have HO6 := Lib.hid (HO5.out.kept hg6 (.inr (by simp [Value.ownBlock]; omega)))
      have HG6 := Lib.hid (grown_trans HG5.out hg6)
      clear hg6 hs6 HO5 HG5
      obtain ⟨u, hu⟩ : ∃ u, w6.cell? ⟨g, k * 3, none⟩ = some u := by
        rw [HO6.out.cellAt (k * 3) (by omega), List.getElem?_eq_getElem (by rw [flatC_length]; omega)]; exact ⟨_, rfl⟩
      have hfz := HO6.out.frozenAt (k * 3)
      have HS := Lib.hid (HO6.out.stored (k * 3) (.int .i64 t))
      have HNW := Lib.hid (flatC_set0 l k hkl t)
      go_wp2
      go_ret
      refine ExprD.of_own (l := l.set k (t, l[k].2.1, l[k].2.2)) (m := l.length) (b := w.heap.size) ?_ HLT.out ?_ ?_ ?_ (hr6.kept HS.out.2 (by intro q hq; simp only [Option.some.injEq] at hq; omega)) (by omega) (grown_own HG6.out HS.out.2 (by intro q hq; simp only [Option.some.injEq] at hq; omega))
      · rw [← HNW.out]; exact HS.out.1
      · exact short_set HSH.out k _ (show l[k].2.1.size ≤ 60 from HSH.out _ (List.getElem_mem hkl))
      · rw [List.length_set]; omega
      · rw [List.length_set]; omega
    · go_wp2_with fail
      refine (pick_any R (p + 972) (l.length : Int) _ (by omega) HR4.out).mono ?_
      rintro e w5 ⟨x, rfl, hx0, hx1, -, hr5, hg5, hs5⟩
      have hx2 := hx1 (by omega)
      obtain ⟨k, rfl⟩ := Int.eq_ofNat_of_zero_le hx0
      have hkl : k < l.length := by omega
      have HO5 := Lib.hid (HO4.out.kept hg5 (.inr (by simp [Value.ownBlock]; omega)))
      have HG5 := Lib.hid (grown_trans HG4.out hg5)
      clear hx1 hg5 hs5 HO4 HG4
      have hr5' := hr5.kept (World.grownBy_alloc w5 (.cells #[.int .i64 (-1), .int .i64 4, .int .i64 9] 3) none) (by simp)
      go_wp2_with fail
      refine (pick_any R (p + 972 + 1) 3 _ (by omega) hr5').mono ?_
      rintro e w6 ⟨z, rfl, hz0', hz1', -, hr6, hg6, hs6⟩
      have hz2' := hz1' (by omega)
      obtain ⟨z1, rfl⟩ := Int.eq_ofNat_of_zero_le hz0'
      obtain ⟨t, hlit⟩ := three z1 (by omega)
      have hcell9 := lit_cell hr5.lt hg6 hlit
      have HO6 := Lib.hid ((HO5.out.alloc _).kept hg6 (.inr (by simp [Value.ownBlock]; omega)))
      have HG6 := Lib.hid (grown_trans (grown_alloc HG5.out _) hg6)
      clear hz1' hg6 hs6 HO5 HG5 hlit
      obtain ⟨u, hu⟩ : ∃ u, w6.cell? ⟨g, k * 3 + 2, none⟩ = some u := by
        rw [HO6.out.cellAt (k * 3 + 2) (by omega), List.getElem?_eq_getElem (by rw [flatC_length]; omega)]; exact ⟨_, rfl⟩
      have hfz := HO6.out.frozenAt (k * 3 + 2)
      have HS := Lib.hid (HO6.out.stored (k * 3 + 2) (.int .i64 t))
      have HNW := Lib.hid (flatC_set2 l k hkl t)
      go_wp2
      go_ret
      refine ExprD.of_own (l := l.set k (l[k].1, l[k].2.1, t)) (m := l.length) (b := w.heap.size) ?_ HLT.out ?_ ?_ ?_ (hr6.kept HS.out.2 (by intro q hq; simp only [Option.some.injEq] at hq; omega)) (by omega) (grown_own HG6.out HS.out.2 (by intro q hq; simp only [Option.some.injEq] at hq; omega))
      · rw [← HNW.out]; exact HS.out.1
      · exact short_set HSH.out k _ (show l[k].2.1.size ≤ 60 from HSH.out _ (List.getElem_mem hkl))
      · rw [List.length_set]; omega
      · rw [List.length_set]; omega
    · go_wp2_with fail
      go_loopw [5, 6] (fun out i wr => ∃ (k : Nat) (l' : List Cl), k ≤ 12 ∧ i = .int .i64 (k : Int) ∧ wr.ownsRow w.heap.size 24 3 out l'.length (flatC l') ∧ (∀ c ∈ l', c.2.1.size ≤ 60) ∧ 1 ≤ l'.length ∧ l'.length ≤ 40 + k ∧ Rdm wr R (p + 972) ∧ w.grownBy wr (some R)) (fun _ i _ => 12 - (intOf i).toNat)
      case atStart => exact ⟨0, l, Nat.zero_le _, rfl, HO4.out, HSH.out, hl1, by omega, HR4.out, HG4.out⟩
      case round =>
        obtain ⟨k, l', hk, rfl, hown, hsh, hl1', hlc, hr, hg⟩ := hrel
        have HO := Lib.hid hown; have HSH' := Lib.hid hsh; have HR := Lib.hid hr; have HG := Lib.hid hg
        clear hown hsh hr hg
        by_cases hlt : k < 12
        · have HLIT := Lib.hid (World.ownsRow_lit (base := w.heap.size) (e := 24) (size := 3) wr #[.int .i64 7, .string ⟨#[33]⟩, .int .i64 1] 1 HG.out.size (by unfold maxLen; omega) rfl)
          have HOA := Lib.hid (HO.out.alloc (.cells #[.int .i64 7, .string ⟨#[33]⟩, .int .i64 1] 24))
          have hws : w.heap.size ≤ wr.heap.size := HG.out.size
          go_wp2_with (at_builtin; refine append_rows rfl _ _ 35 rfl w.heap.size 24 i0 (.agg #[.int .i64 0, .string ByteArray.empty, .int .i64 0]) 3 32 Tryd.underlying35 hi hz0 hz1 hz2 rfl (by decide) _ _ _ rfl HLIT.out _ _ _ _ rfl HOA.out (flatC_one _) (by unfold maxLen; omega) (by omega) (by simp; omega) ?_; intro v6 w6 hown6 hgrow6)
          have HO6 := Lib.hid hown6
          have HG6 := Lib.hid (grown_own (grown_alloc HG.out _) hgrow6 (fun q hq => (HLIT.out.lt q hq).1))
          have HR6 := Lib.hid ((HR.out.kept (World.grownBy_alloc wr _ none) (by simp)).kept hgrow6 (fun q hq => by have := (HLIT.out.lt q hq).1; have := HLT.out; omega))
          clear hown6 hgrow6
          go_roundw
          case rel => exact ⟨k + 1, (7, ⟨#[33]⟩, 1) :: l', by omega, by go_num, by rw [List.length_cons, flatC_cons, Nat.add_comm]; exact HO6.out, short_cons HSH'.out _ (show (⟨#[33]⟩ : ByteArray).size ≤ 60 by decide), by rw [List.length_cons]; omega, by rw [List.length_cons]; omega, HR6.out, HG6.out⟩
          case measure => simp [intOf]; omega
        · go_wp2
          go_ret
          exact ExprD.of_own HO.out HLT.out HSH'.out (by omega) hl1' HR.out (by omega) HG.out
    · go_wp2_with fail
      refine (pick_any R (p + 972) (l.length : Int) _ (by omega) HR4.out).mono ?_
      rintro e w5 ⟨x, rfl, hx0, hx1, -, hr5, hg5, hs5⟩
      have hx2 := hx1 (by omega)
      obtain ⟨k, rfl⟩ := Int.eq_ofNat_of_zero_le hx0
      have hkl : k < l.length := by omega
      have HO5 := Lib.hid (HO4.out.kept hg5 (.inr (by simp [Value.ownBlock]; omega)))
      have HG5 := Lib.hid (grown_trans HG4.out hg5)
      clear hx1 hg5 hs5 HO4 HG4
      obtain ⟨u, hu⟩ : ∃ u, w5.cell? ⟨g, k * 3 + 1, none⟩ = some u := by
        rw [HO5.out.cellAt (k * 3 + 1) (by omega), List.getElem?_eq_getElem (by rw [flatC_length]; omega)]; exact ⟨_, rfl⟩
      have hfz := HO5.out.frozenAt (k * 3 + 1)
      have HS := Lib.hid (HO5.out.stored (k * 3 + 1) (.string ⟨#[63]⟩))
      have HNW := Lib.hid (flatC_set1 l k hkl ⟨#[63]⟩)
      go_wp2
      go_ret
      refine ExprD.of_own (l := l.set k (l[k].1, ⟨#[63]⟩, l[k].2.2)) (m := l.length) (b := w.heap.size) ?_ HLT.out ?_ ?_ ?_ (hr5.kept HS.out.2 (by intro q hq; simp only [Option.some.injEq] at hq; omega)) (by omega) (grown_own HG5.out HS.out.2 (by intro q hq; simp only [Option.some.injEq] at hq; omega))
      · rw [← HNW.out]; exact HS.out.1
      · exact short_set HSH.out k _ (by show (⟨#[63]⟩ : ByteArray).size ≤ 60; decide)
      · rw [List.length_set]; omega
      · rw [List.length_set]; omega

end Go.Proofs.YtkeinhhpikfjcaaDoor

namespace Go.Proofs.YtkeinhhpikfjcaaDoor
open Go.RowKit
set_option linter.unusedVariables false

/-- A block of a cell, known whole. -/
def BlkC (w : World) (g : Nat) (cs : Array Value) : Prop := w.heap[g]? = some (.cells cs 24 (0, 0))
section
variable {w w' : World} {g : Nat} {cs : Array Value}
theorem BlkC.lt (h : BlkC w g cs) : g < w.heap.size := by
  rcases Nat.lt_or_ge g w.heap.size with hlt | hge
  · exact hlt
  · unfold BlkC at h; rw [Array.getElem?_eq_none hge] at h; cases h
theorem BlkC.cell (h : BlkC w g cs) (i : Nat) : w.cell? ⟨g, i, none⟩ = cs[i]? := cell_of_row w g i cs _ (0, 0) h
theorem BlkC.frozen (h : BlkC w g cs) (i : Nat) : w.frozen? ⟨g, i, none⟩ = false := by
  unfold BlkC at h
  simp [World.frozen?, h]
theorem BlkC.new (w : World) (cs : Array Value) : BlkC (w.alloc (.cells cs 24)) w.heap.size cs := heap_alloc_new w _
theorem BlkC.alloc (h : BlkC w g cs) (o : Obj) : BlkC (w.alloc o) g cs := (Below.heap_alloc w o g h.lt).trans h
theorem BlkC.grown {row : Option Nat} (h : BlkC w g cs) (hb : w.grownBy w' row) (hg : some g ≠ row) : BlkC w' g cs := (hb.block g h.lt hg).trans h
theorem BlkC.below (h : BlkC w g cs) (hb : Below w.heap.size w w') : BlkC w' g cs := (hb.block g h.lt).trans h
theorem BlkC.set_ (h : BlkC w g cs) (i : Nat) (u : Value) : BlkC (w.setCell ⟨g, i, none⟩ u) g (cs.setIfInBounds i u) := by
  unfold BlkC at h ⊢
  simp [World.setCell, Array.getElem?_modify, h]
theorem BlkC.far (h : BlkC w g cs) {f : Nat} (i : Nat) (u : Value) (hf : f ≠ g) : BlkC (w.setCell ⟨f, i, none⟩ u) g cs :=
  (Below.heap_setCell _ _ _ _ (fun e => hf e.symm)).trans h
theorem BlkC.all {k m : Int} {s : ByteArray} (h : BlkC w g #[.int .i64 k, .string s, .int .i64 m]) :
    w.cell? ⟨g, 0, none⟩ = some (.int .i64 k) ∧ w.cell? ⟨g, 1, none⟩ = some (.string s) ∧ w.cell? ⟨g, 2, none⟩ = some (.int .i64 m) ∧ w.frozen? ⟨g, 0, none⟩ = false ∧ w.frozen? ⟨g, 1, none⟩ = false ∧ w.frozen? ⟨g, 2, none⟩ = false :=
  ⟨h.cell 0, h.cell 1, h.cell 2, h.frozen 0, h.frozen 1, h.frozen 2⟩
end

theorem lit_w11 (m : Nat) (h : m < 11) : ∃ t : ByteArray, t.size ≤ 61 ∧ (#[Value.string ⟨#[]⟩, .string ⟨#[97, 46, 98]⟩, .string ⟨#[45, 49]⟩, .string ⟨#[49, 47, 51]⟩, .string ⟨#[48, 46, 49, 48]⟩, .string ⟨#[116, 114, 117, 101]⟩, .string ⟨#[43]⟩, .string ⟨#[33]⟩, .string ⟨#[61]⟩, .string ⟨#[1]⟩, .string ⟨#[97, 97, 97, 97, 97, 97, 97, 97, 97, 97, 98, 98, 98, 98, 98, 98, 98, 98, 98, 98, 99, 99, 99, 99, 99, 99, 99, 99, 99, 99, 100, 100, 100, 100, 100, 100, 100, 100, 100, 100, 101, 101, 101, 101, 101, 101, 101, 101, 101, 101, 102, 102, 102, 102, 102, 102, 102, 102, 102, 102, 103]⟩] : Array Value)[m]? = some (.string t) := by
  match m, h with
  | 0, _ => exact ⟨_, by decide, rfl⟩
  | 1, _ => exact ⟨_, by decide, rfl⟩
  | 2, _ => exact ⟨_, by decide, rfl⟩
  | 3, _ => exact ⟨_, by decide, rfl⟩
  | 4, _ => exact ⟨_, by decide, rfl⟩
  | 5, _ => exact ⟨_, by decide, rfl⟩
  | 6, _ => exact ⟨_, by decide, rfl⟩
  | 7, _ => exact ⟨_, by decide, rfl⟩
  | 8, _ => exact ⟨_, by decide, rfl⟩
  | 9, _ => exact ⟨_, by decide, rfl⟩
  | 10, _ => exact ⟨_, by decide, rfl⟩


/-- What a drawn cell is. -/
def DrawnC (w : World) (e : Ending) (w' : World) : Prop :=
  ∃ (k m : Int) (s : ByteArray), e = .returned (.agg #[.int .i64 k, .string s, .int .i64 m]) ∧ s.size ≤ 61 ∧ Below w.heap.size w w'

set_option maxRecDepth 100000 in
set_option maxHeartbeats 8000000 in
theorem drawCellValid_any (a : Option Addr) (len cap : Nat) (w : World) (h : CodeRow w a len cap) :
    Calls Tryd.prog 5 #[.slice a len cap] w (DrawnC w) := by
  go_enter Tryd.func5, Tryd.ntmps5
  go_wp2_with fail
  refine (open_codes a len cap _ (h.mono ((Below.refl _ w).alloc (Nat.le_refl _) _))).mono ?_
  rintro e w1 ⟨rfl, hr1, hb1, hs1⟩
  have RB1 := Lib.hid ((BlkC.new w #[.int .i64 0, .string ⟨#[]⟩, .int .i64 0]).below hb1)
  have HB1 := Lib.hid (((Below.refl w.heap.size w).alloc (Nat.le_refl _) (.cells #[.int .i64 0, .string ⟨#[]⟩, .int .i64 0] 24)).trans (hb1.mono (by simp)))
  have hss : (w.alloc (.cells #[.int .i64 0, .string ⟨#[]⟩, .int .i64 0] 24)).heap.size = w.heap.size + 1 := by simp
  rw [hss] at hr1 hs1
  clear hb1 h hss
  go_wp2_with fail
  refine (expr_any (w.heap.size + 1) 0 0 _ (by omega) (by omega) (by omega) hr1).mono ?_
  rintro e w2 ⟨v, l, rfl, hrow, hsh, hl60, hl1, hr2, hg2⟩
  have hl1' := hl1 (by omega)
  have RB2 := Lib.hid (RB1.out.grown hg2 (by intro e; simp only [Option.some.injEq] at e; omega))
  have HB2 := Lib.hid (HB1.out.trans (grown_below hg2 HB1.out.size (by omega)))
  clear hl1 hg2 hr1 RB1 HB1 hs1
  have HRW := Lib.hid hrow
  obtain ⟨ao, cp, rfl, q1, q2, q3⟩ := hrow.row
  unfold maxLen at q2
  have HSH := Lib.hid hsh
  clear q3 hsh hrow
  go_wp2_with fail
  refine (pick_any (w.heap.size + 1) (0 + 1000) (l.length : Int) _ (by omega) hr2).mono ?_
  rintro e w3 ⟨x, rfl, hx0, hx1, -, hr3, hg3, hs3⟩
  have hx2 := hx1 (by omega)
  obtain ⟨k, rfl⟩ := Int.eq_ofNat_of_zero_le hx0
  have hkl : k < l.length := by omega
  have RB3 := Lib.hid (RB2.out.grown hg3 (by intro e; simp only [Option.some.injEq] at e; omega))
  have HB3 := Lib.hid (HB2.out.trans (grown_below hg3 HB2.out.size (by omega)))
  obtain ⟨ao', cp', hv, -, -, hq⟩ := HRW.out w3 hg3
  simp only [Value.slice.injEq] at hv
  obtain ⟨rfl, -, rfl⟩ := hv
  obtain ⟨b, off, rfl, hbl, hcc⟩ := hq.resolve_left (by rintro rfl; simp at hkl)
  obtain ⟨c0, c1, c2⟩ := hcc k hkl
  have hsk : l[k].2.1.size ≤ 60 := HSH.out _ (List.getElem_mem hkl)
  generalize l[k].1 = kk at c0
  generalize l[k].2.1 = ss at c1 hsk
  generalize l[k].2.2 = mm at c2
  have CB3 := Lib.hid (BlkC.new w3 #[.int .i64 kk, .string ss, .int .i64 mm])
  have RB3' := Lib.hid (RB3.out.alloc (.cells #[.int .i64 kk, .string ss, .int .i64 mm] 24))
  have HB3' := Lib.hid (HB3.out.alloc HB3.out.size (.cells #[.int .i64 kk, .string ss, .int .i64 mm] 24))
  have hr3' := hr3.kept (World.grownBy_alloc w3 (.cells #[.int .i64 kk, .string ss, .int .i64 mm] 24) none) (by simp)
  have hcR : w.heap.size + 1 < w3.heap.size := hr3.lt
  clear hx1 hg3 hs3 hr2 RB2 HB2 hcc HRW hr3 RB3 HB3
  go_wp2_with fail
  refine (odd_any (w.heap.size + 1) (0 + 1000 + 1) 2 _ (by omega) (by omega) (by omega) hr3').mono ?_
  rintro e w4 ⟨bo, rfl, -, hr4, hg4, hs4⟩
  have CB4 := Lib.hid (CB3.out.grown hg4 (by intro e; simp only [Option.some.injEq] at e; omega))
  have RB4 := Lib.hid (RB3'.out.grown hg4 (by intro e; simp only [Option.some.injEq] at e; omega))
  have HB4 := Lib.hid (HB3'.out.trans (grown_below hg4 HB3'.out.size (by omega)))
  clear hg4 hs4 hr3' CB3 RB3' HB3' c0 c1 c2 hbl
  have n1 : ¬ w3.heap.size = w.heap.size := by omega
  have n2 : ¬ w.heap.size = w3.heap.size := by omega
  cases bo with
  | false =>
    obtain ⟨c0, c1, c2, f0, f1, f2⟩ := CB4.out.all
    obtain ⟨r0, r1, r2, z0, z1, z2⟩ := RB4.out.all
    have HEND := Lib.hid (((HB4.out.setCell (p := ⟨w.heap.size, 0, none⟩) (Nat.le_refl _) (.int .i64 kk)).setCell (p := ⟨w.heap.size, 1, none⟩) (Nat.le_refl _) (.string ss)).setCell (p := ⟨w.heap.size, 2, none⟩) (Nat.le_refl _) (.int .i64 mm))
    go_wp2
    exact bodyPost_ret (v := .agg #[.int .i64 kk, .string ss, .int .i64 mm]) (by simp [results, Tryd.results5, go_sem, r0, r1, r2]) rfl ⟨kk, mm, ss, rfl, by omega, HEND.out⟩
  | true =>
    go_wp2_with fail
    refine (pick_any (w.heap.size + 1) (0 + 1000 + 1 + 1) 3 _ (by omega) hr4).mono ?_
    rintro e w5 ⟨y, rfl, hy0, hy1, -, hr5, hg5, hs5⟩
    have hy2 := hy1 (by omega)
    obtain ⟨y1, rfl⟩ := Int.eq_ofNat_of_zero_le hy0
    have CB5 := Lib.hid (CB4.out.grown hg5 (by intro e; simp only [Option.some.injEq] at e; omega))
    have RB5 := Lib.hid (RB4.out.grown hg5 (by intro e; simp only [Option.some.injEq] at e; omega))
    have HB5 := Lib.hid (HB4.out.trans (grown_below hg5 HB4.out.size (by omega)))
    clear hg5 hs5 hr4 CB4 RB4 HB4 hy1
    have hy3 : y1 = 0 ∨ y1 = 1 ∨ y1 = 2 := by omega
    clear hy2
    rcases hy3 with rfl | rfl | rfl

    · go_wp2_with fail
      refine (pick_any (w.heap.size + 1) (0 + 1000 + 1 + 1 + 1) 11 _ (by omega) hr5).mono ?_
      rintro e w6 ⟨z, rfl, hz0, hz1, -, hr6, hg6, hs6⟩
      have hz2 := hz1 (by omega)
      obtain ⟨z1, rfl⟩ := Int.eq_ofNat_of_zero_le hz0
      have CB6 := Lib.hid (BlkC.grown CB5.out hg6 (by intro e; simp only [Option.some.injEq] at e; omega))
      have RB6 := Lib.hid (BlkC.grown RB5.out hg6 (by intro e; simp only [Option.some.injEq] at e; omega))
      have HB6 := Lib.hid (Below.trans HB5.out (grown_below hg6 (Below.size HB5.out) (by omega)))
      have hCw : w.heap.size ≤ w3.heap.size := by omega
      clear hg6 hs6 hz1 CB5 RB5 HB5
      obtain ⟨c0, c1, c2, f0, f1, f2⟩ := CB6.out.all
      obtain ⟨r0, r1, r2, y0, y1, y2⟩ := RB6.out.all
      have HEND := Lib.hid ((((HB6.out.setCell (p := ⟨w3.heap.size, 0, none⟩) hCw (.int .i64 (z1 : Int))).setCell (p := ⟨w.heap.size, 0, none⟩) (Nat.le_refl _) (.int .i64 (z1 : Int))).setCell (p := ⟨w.heap.size, 1, none⟩) (Nat.le_refl _) (.string ss)).setCell (p := ⟨w.heap.size, 2, none⟩) (Nat.le_refl _) (.int .i64 mm))
      go_wp2
      exact bodyPost_ret (v := .agg #[.int .i64 (z1 : Int), .string ss, .int .i64 mm]) (by simp [results, Tryd.results5, go_sem, r0, r1, r2]) rfl ⟨_, _, _, rfl, by omega, HEND.out⟩
    · have hr5' := hr5.kept (World.grownBy_alloc w5 (.cells #[.string ⟨#[]⟩, .string ⟨#[97, 46, 98]⟩, .string ⟨#[45, 49]⟩, .string ⟨#[49, 47, 51]⟩, .string ⟨#[48, 46, 49, 48]⟩, .string ⟨#[116, 114, 117, 101]⟩, .string ⟨#[43]⟩, .string ⟨#[33]⟩, .string ⟨#[61]⟩, .string ⟨#[1]⟩, .string ⟨#[97, 97, 97, 97, 97, 97, 97, 97, 97, 97, 98, 98, 98, 98, 98, 98, 98, 98, 98, 98, 99, 99, 99, 99, 99, 99, 99, 99, 99, 99, 100, 100, 100, 100, 100, 100, 100, 100, 100, 100, 101, 101, 101, 101, 101, 101, 101, 101, 101, 101, 102, 102, 102, 102, 102, 102, 102, 102, 102, 102, 103]⟩] 9) none) (by simp)
      go_wp2_with fail
      refine (pick_any (w.heap.size + 1) (0 + 1000 + 1 + 1 + 1) 11 _ (by omega) hr5').mono ?_
      rintro e w6 ⟨z, rfl, hz0, hz1, -, hr6, hg6, hs6⟩
      have hz2 := hz1 (by omega)
      obtain ⟨z1, rfl⟩ := Int.eq_ofNat_of_zero_le hz0
      obtain ⟨t, ht, hlit⟩ := lit_w11 z1 (by omega)
      have hcell9 := lit_cell hr5.lt hg6 hlit
      have CB6 := Lib.hid (BlkC.grown (CB5.out.alloc _) hg6 (by intro e; simp only [Option.some.injEq] at e; omega))
      have RB6 := Lib.hid (BlkC.grown (RB5.out.alloc _) hg6 (by intro e; simp only [Option.some.injEq] at e; omega))
      have HB6 := Lib.hid (Below.trans (HB5.out.alloc HB5.out.size _) (grown_below hg6 (Below.size (HB5.out.alloc HB5.out.size _)) (by omega)))
      have hCw : w.heap.size ≤ w3.heap.size := by omega
      clear hg6 hs6 hz1 CB5 RB5 HB5 hlit
      obtain ⟨c0, c1, c2, f0, f1, f2⟩ := CB6.out.all
      obtain ⟨r0, r1, r2, y0, y1, y2⟩ := RB6.out.all
      have HEND := Lib.hid ((((HB6.out.setCell (p := ⟨w3.heap.size, 1, none⟩) hCw (.string t)).setCell (p := ⟨w.heap.size, 0, none⟩) (Nat.le_refl _) (.int .i64 kk)).setCell (p := ⟨w.heap.size, 1, none⟩) (Nat.le_refl _) (.string t)).setCell (p := ⟨w.heap.size, 2, none⟩) (Nat.le_refl _) (.int .i64 mm))
      go_wp2
      exact bodyPost_ret (v := .agg #[.int .i64 kk, .string t, .int .i64 mm]) (by simp [results, Tryd.results5, go_sem, r0, r1, r2]) rfl ⟨_, _, _, rfl, by omega, HEND.out⟩
    · go_wp2_with fail
      refine (pick_any (w.heap.size + 1) (0 + 1000 + 1 + 1 + 1) 11 _ (by omega) hr5).mono ?_
      rintro e w6 ⟨z, rfl, hz0, hz1, -, hr6, hg6, hs6⟩
      have hz2 := hz1 (by omega)
      obtain ⟨z1, rfl⟩ := Int.eq_ofNat_of_zero_le hz0
      have CB6 := Lib.hid (BlkC.grown CB5.out hg6 (by intro e; simp only [Option.some.injEq] at e; omega))
      have RB6 := Lib.hid (BlkC.grown RB5.out hg6 (by intro e; simp only [Option.some.injEq] at e; omega))
      have HB6 := Lib.hid (Below.trans HB5.out (grown_below hg6 (Below.size HB5.out) (by omega)))
      have hCw : w.heap.size ≤ w3.heap.size := by omega
      clear hg6 hs6 hz1 CB5 RB5 HB5
      obtain ⟨c0, c1, c2, f0, f1, f2⟩ := CB6.out.all
      obtain ⟨r0, r1, r2, y0, y1, y2⟩ := RB6.out.all
      have HEND := Lib.hid ((((HB6.out.setCell (p := ⟨w3.heap.size, 2, none⟩) hCw (.int .i64 ((z1 : Int) - 1))).setCell (p := ⟨w.heap.size, 0, none⟩) (Nat.le_refl _) (.int .i64 kk)).setCell (p := ⟨w.heap.size, 1, none⟩) (Nat.le_refl _) (.string ss)).setCell (p := ⟨w.heap.size, 2, none⟩) (Nat.le_refl _) (.int .i64 ((z1 : Int) - 1)))
      go_wp2
      exact bodyPost_ret (v := .agg #[.int .i64 kk, .string ss, .int .i64 ((z1 : Int) - 1)]) (by simp [results, Tryd.results5, go_sem, r0, r1, r2]) rfl ⟨_, _, _, rfl, by omega, HEND.out⟩

end Go.Proofs.YtkeinhhpikfjcaaDoor

namespace Go.Proofs.YtkeinhhpikfjcaaDoor
open Go.RowKit
set_option linter.unusedVariables false

theorem cell_ten (s : ByteArray) : cellB 10 s 0 = false := by simp [cellB, wordB]
theorem cell_parts (s : ByteArray) : cellB 1 s 1 = false := by simp [cellB, manyB]

set_option maxRecDepth 100000 in
set_option maxHeartbeats 4000000 in
theorem fnCellValid_core (a0 : Option Addr) (len0 cap0 : Nat) (w : World) (hrow : CodeRow w a0 len0 cap0) (htab : Tab w) :
    Calls Tryd.prog 3 #[.slice a0 len0 cap0] w fun e w' => e = .returned (.bool true) ∧ Below w.heap.size w w' := by
  have hcap := hrow.1; have hmx := hrow.2.1
  unfold maxLen at hmx
  by_cases hl : len0 ≤ 1048576
  · go_enter Tryd.func3, Tryd.ntmps3
    go_wp2_with fail
    refine (drawCellValid_any a0 len0 cap0 _ hrow).mono ?_
    rintro e w1 ⟨k, m, s, rfl, hs, hb⟩
    have HB := Lib.hid (hb.alloc hb.size (.cells #[.int .i64 k, .string s, .int .i64 m] 24))
    have CB1 := Lib.hid (BlkC.new w1 #[.int .i64 k, .string s, .int .i64 m])
    clear hb hrow
    go_wp2_with fail
    refine (cellValid_impl k m s _ (by unfold maxLen; omega) (htab.keep HB.out)).mono ?_
    rintro e w2 ⟨rfl, hb2⟩
    have HB2 := Lib.hid (HB.out.trans (hb2.mono HB.out.size))
    have CB2 := Lib.hid (CB1.out.below hb2)
    obtain ⟨c0, c1, c2, -, -, -⟩ := CB2.out.all
    clear hb2 CB1 HB
    go_wp2_with fail
    refine (cellValid_spec k m s _ (by omega)).mono ?_
    rintro e w3 ⟨rfl, hb3⟩
    have HB3 := Lib.hid (HB2.out.trans (hb3.mono HB2.out.size))
    have CB3 := Lib.hid (CB2.out.below hb3)
    obtain ⟨d0, d1, d2, -, -, -⟩ := CB3.out.all
    clear hb3 CB2 HB2 c0 c1 c2
    generalize cellB k s m = ok
    cases ok
    all_goals
      go_wp2_with fail
      refine (cellValid_impl 10 0 s _ (by unfold maxLen; omega) (htab.keep HB3.out)).mono ?_
      rintro e w4 ⟨rfl, hb4⟩
      rw [cell_ten]
      have HB4 := Lib.hid (HB3.out.trans (hb4.mono HB3.out.size)); clear hb4
      go_wp2_with fail
      refine (cellValid_impl 1 1 _ _ (by decide) (htab.keep HB4.out)).mono ?_
      rintro e w5 ⟨rfl, hb5⟩
      rw [cell_parts]
      have HB5 := Lib.hid (HB4.out.trans (hb5.mono HB4.out.size)); clear hb5
      go_wp2_with fail
      refine (alive_any _).mono ?_
      rintro e w' ⟨rfl, rfl⟩
      go_wp2
      go_ret
      exact ⟨rfl, HB5.out⟩
  · go_enter Tryd.func3, Tryd.ntmps3
    go_wp2
    go_ret
    exact ⟨rfl, Below.refl _ _⟩

end Go.Proofs.YtkeinhhpikfjcaaDoor
