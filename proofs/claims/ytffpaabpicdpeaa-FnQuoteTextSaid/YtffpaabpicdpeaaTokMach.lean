/-
  The machine of tokens: impl's end and step, by their contracts.
-/
import Derived.Test.YtffpaabpicdpeaaTokBytes
import Derived.Below
import Derived.Laws.OwnMore
import Derived.Deep.Draws
import Derived.Laws.Rows
import Derived.Deep.AppendLies
import Derived.Deep.RegionHeld3
import Derived.RegionTactic
import Derived.Deep.RegionLaw
import Derived.Deep.DrawnRows
import Derived.OwnWalk
namespace Go.Proofs.Ytffpaabpicdpeaa
open Go.RowKit
set_option linter.unusedVariables false

/-- A block that is known whole. -/
def BlkM (w : World) (g : Nat) (t : TypeId) (cs : Array Value) : Prop := w.heap[g]? = some (.cells cs t (0, 0))
section
variable {w w' : World} {g : Nat} {t : TypeId} {cs : Array Value}
theorem BlkM.lt (h : BlkM w g t cs) : g < w.heap.size := by
  rcases Nat.lt_or_ge g w.heap.size with hlt | hge
  · exact hlt
  · unfold BlkM at h; rw [Array.getElem?_eq_none hge] at h; cases h
theorem BlkM.cell (h : BlkM w g t cs) (i : Nat) : w.cell? ⟨g, i, none⟩ = cs[i]? := cell_of_row w g i cs t (0, 0) h
theorem BlkM.frozen (h : BlkM w g t cs) (i : Nat) : w.frozen? ⟨g, i, none⟩ = false := by
  unfold BlkM at h
  simp [World.frozen?, h]
theorem BlkM.new (w : World) (t : TypeId) (cs : Array Value) : BlkM (w.alloc (.cells cs t)) w.heap.size t cs := heap_alloc_new w _
theorem BlkM.drew (h : BlkM w g t cs) : BlkM w.drew g t cs := h
theorem BlkM.alloc (h : BlkM w g t cs) (o : Obj) : BlkM (w.alloc o) g t cs := (Below.heap_alloc w o g h.lt).trans h
theorem BlkM.set_ (h : BlkM w g t cs) (i : Nat) (u : Value) : BlkM (w.setCell ⟨g, i, none⟩ u) g t (cs.setIfInBounds i u) := by
  unfold BlkM at h ⊢
  simp [World.setCell, Array.getElem?_modify, h]
theorem BlkM.grown {row : Option Nat} (h : BlkM w g t cs) (hb : w.grownBy w' row) (hg : some g ≠ row) : BlkM w' g t cs := (hb.block g h.lt hg).trans h
theorem own_blkM_ne {base : Nat} {e : TypeId} {size n : Nat} {v : Value} {xs : List Value} (h : w.ownsRow base e size v n xs) (hg : BlkM w g t cs) (hne : e ≠ t) : v.ownBlock ≠ some g := by
  rcases h.2 with ⟨rfl, _⟩ | ⟨g', cap, cur, rfl, _, hh, _⟩
  · simp [Value.ownBlock]
  · intro he
    have : g' = g := by simpa [Value.ownBlock] using he
    subst this
    unfold BlkM at hg
    rw [hh] at hg
    injection hg with hg
    injection hg with _ ht
    exact hne ht
end

/-- Tokens, as cells. -/
def flatT (l : List (Int × Nat × Nat)) : List Value := l.flatMap fun t => [.int .i64 t.1, .int .i64 (t.2.1 : Int), .int .i64 (t.2.2 : Int)]
theorem flatT_snoc (l : List (Int × Nat × Nat)) (k : Int) (f t : Nat) : flatT (l ++ [(k, f, t)]) = flatT l ++ [.int .i64 k, .int .i64 (f : Int), .int .i64 (t : Int)] := by simp [flatT]
theorem flatT_length (l : List (Int × Nat × Nat)) : (flatT l).length = l.length * 3 := by
  induction l with
  | nil => rfl
  | cons a t ih => simp only [flatT, List.flatMap_cons, List.length_append, List.length_cons, List.length_nil] at ih ⊢; omega

/-- The machine lies in block M, whose tokens are a row of the call's own, from block B on. -/
def Mach (B : Nat) (w : World) (M : Nat) (m : Int × Nat × List (Int × Nat × Nat)) : Prop :=
  ∃ v, BlkM w M 51 #[.int .i64 m.1, .int .i64 (m.2.1 : Int), v] ∧ w.ownsRow B 33 3 v m.2.2.length (flatT m.2.2) ∧ B ≤ M

theorem infoTok : (Try.prog.info? 33).map (fun i => (i.zero, i.size, i.bytes)) = some (some (.agg #[.int .i64 0, .int .i64 0, .int .i64 0]), 3, 24) := by kernel_rfl

theorem Mach.lt {B M : Nat} {w : World} {m : Int × Nat × List (Int × Nat × Nat)} (h : Mach B w M m) : B ≤ M ∧ M < w.heap.size := by
  obtain ⟨v, h1, h2, h3⟩ := h; exact ⟨h3, h1.lt⟩
theorem Mach.cells {B M : Nat} {w : World} {st : Int} {f : Nat} {acc : List (Int × Nat × Nat)} (h : Mach B w M (st, f, acc)) : w.cell? ⟨M, 0, none⟩ = some (.int .i64 st) ∧ w.frozen? ⟨M, 0, none⟩ = false ∧ w.cell? ⟨M, 1, none⟩ = some (.int .i64 (f : Int)) ∧ w.frozen? ⟨M, 1, none⟩ = false := by
  obtain ⟨v, h1, h2, h3⟩ := h
  exact ⟨h1.cell 0, h1.frozen 0, h1.cell 1, h1.frozen 1⟩
/-- Its number fields are set. -/
theorem Mach.set0 {B M : Nat} {w : World} {st : Int} {f : Nat} {acc : List (Int × Nat × Nat)} (h : Mach B w M (st, f, acc)) (x : Int) : Mach B (w.setCell ⟨M, 0, none⟩ (.int .i64 x)) M (x, f, acc) := by
  obtain ⟨v, h1, h2, h3⟩ := h
  refine ⟨v, h1.set_ 0 _, ?_, h3⟩
  refine h2.kept (row := some M) ⟨rfl, rfl, rfl, by simp [World.setCell], fun k _ hn => Below.heap_setCell _ _ _ _ (fun e => hn (by simp [e]))⟩ (.inr ?_)
  exact own_blkM_ne h2 h1 (by decide)
theorem Mach.set1 {B M : Nat} {w : World} {st : Int} {f : Nat} {acc : List (Int × Nat × Nat)} (h : Mach B w M (st, f, acc)) (x : Nat) : Mach B (w.setCell ⟨M, 1, none⟩ (.int .i64 (x : Int))) M (st, x, acc) := by
  obtain ⟨v, h1, h2, h3⟩ := h
  refine ⟨v, h1.set_ 1 _, ?_, h3⟩
  refine h2.kept (row := some M) ⟨rfl, rfl, rfl, by simp [World.setCell], fun k _ hn => Below.heap_setCell _ _ _ _ (fun e => hn (by simp [e]))⟩ (.inr ?_)
  exact own_blkM_ne h2 h1 (by decide)

set_option maxRecDepth 100000 in
set_option maxHeartbeats 2000000 in
theorem end_no (B M at0 f : Nat) (st : Int) (acc : List (Int × Nat × Nat)) (w : World) (h : Mach B w M (st, f, acc)) (h0 : 0 ≤ st) (h1 : st ≤ 11) (hk : kI st = 0) :
    Calls Try.prog 37 #[.pointer (some ⟨M, 0, none⟩), .int .i64 (at0 : Int)] w fun e w' => e = .returned (.bool false) ∧ w = w' := by
  obtain ⟨c0, f0, c1, f1⟩ := h.cells
  have HK := Lib.hid hk; clear hk
  go_enter Try.func37, Try.ntmps37
  go_wp2_with fail
  refine (kind_any st _ h0 h1).mono ?_
  rintro e w' ⟨rfl, rfl⟩
  rw [HK.out]
  go_wp2
  go_ret
  exact ⟨rfl, rfl⟩

set_option maxRecDepth 100000 in
set_option maxHeartbeats 4000000 in
theorem end_yes (B M at0 f : Nat) (st : Int) (acc : List (Int × Nat × Nat)) (w : World) (h : Mach B w M (st, f, acc)) (h0 : 0 ≤ st) (h1 : st ≤ 11) (hk : kI st ≠ 0) (hlen : acc.length ≤ 100000) :
    Calls Try.prog 37 #[.pointer (some ⟨M, 0, none⟩), .int .i64 (at0 : Int)] w fun e w' => e = .returned (.bool true) ∧ Mach B w' M (st, f, acc ++ [(kI st, f, at0)]) ∧ Below B w w' := by
  obtain ⟨i0, hi, hz0, hz1, hz2⟩ := info_parts infoTok
  obtain ⟨v, hb, hown, hBM⟩ := h
  have c0 : w.cell? ⟨M, 0, none⟩ = some (.int .i64 st) := hb.cell 0
  have c1 : w.cell? ⟨M, 1, none⟩ = some (.int .i64 (f : Int)) := hb.cell 1
  have c2 : w.cell? ⟨M, 2, none⟩ = some v := hb.cell 2
  have f2 : w.frozen? ⟨M, 2, none⟩ = false := hb.frozen 2
  have hM := hb.lt
  have NE := Lib.hid (own_blkM_ne hown hb (by decide))
  have HBK := Lib.hid hb; clear hb
  have hkz : (kI st == 0) = false := beq_eq_false_iff_ne.mpr hk
  clear hk
  obtain ⟨av, cv, hv⟩ : ∃ a c, v = .slice a acc.length c := by
    rcases hown.2 with ⟨rfl, h0⟩ | ⟨g', cap, cur, rfl, _⟩
    · exact ⟨none, 0, by rw [h0]⟩
    · exact ⟨_, _, rfl⟩
  subst hv
  go_enter Try.func37, Try.ntmps37
  go_wp2_with fail
  refine (kind_any st _ h0 h1).mono ?_
  rintro e w' ⟨rfl, rfl⟩
  generalize hkk : kI st = kk at *
  have HKK := Lib.hid hkk; clear hkk
  go_wp2_with fail
  go_region_law
    ((refine step_append_lies _ (by rfl) _ _ _ (by rfl) B 33 i0 _ 3 24 Try.underlying29 hi hz0 hz1 hz2 rfl (by omega) (.slice av acc.length cv) acc.length _ (by rfl) ((hown.alloc _).drew)
        ⟨w.heap.size, 0, none⟩ 1 1 [.int .i64 kk, .int .i64 (f : Int), .int .i64 (at0 : Int)] (by rfl) (by rfl) (World.news_of_block (cs := #[.int .i64 kk, .int .i64 (f : Int), .int .i64 (at0 : Int)]) (t := 33) (fr := (0, 0)) (heap_alloc_new w _)) (by simp [Value.oneCell'])
        (by omega) (by unfold maxLen; omega) (by omega) (by simp; omega) (w.heap.size + 1) (by simp) ?_; intro gg cap' w2 hown' hgrow hat hlt'; have hfz : w2.frozen? ⟨M, 2, none⟩ = false := ((hgrow.frozen_far _ (by simp; omega) (fun hq => NE.out hq.symm)).trans (((World.grownBy_alloc w _ none).frozen_far ⟨M, 2, none⟩ hM (by simp)).trans f2)); have hc2 : w2.cell? ⟨M, 2, none⟩ = some (.slice av acc.length cv) := ((hgrow.cell_far _ (by simp; omega) (fun hq => NE.out hq.symm)).trans (((World.grownBy_alloc w _ none).cell_far ⟨M, 2, none⟩ hM (by simp)).trans c2))))
  all_goals
    have K2 := Lib.hid (BlkM.grown ((HBK.out.alloc _).drew) hgrow (fun hq => NE.out hq.symm))
    have HO := Lib.hid hown'; have HG := Lib.hid hgrow
    clear hown' hgrow hat
    go_wp2
    go_ret
    refine ⟨rfl, ⟨_, K2.out.set_ 2 _, ?_, hBM⟩, ?_⟩
    · have h2 := HO.out.kept (row := some M) (w' := w2.setCell ⟨M, 2, none⟩ (.slice (some ⟨gg, 0, none⟩) (acc.length + 1) cap')) ⟨rfl, rfl, rfl, by simp [World.setCell], fun k _ hn => Below.heap_setCell _ _ _ _ (fun e => hn (by simp [e]))⟩ (.inr (own_blkM_ne HO.out K2.out (by decide)))
      simp only [flatT_snoc, List.length_append, List.length_cons, List.length_nil]
      rw [HKK.out]
      exact h2
    · exact ((((Below.refl B w).alloc (by omega) _).drew).grown HG.out (by simp; omega) (fun q hq => (hown.lt q hq).1)).setCell hBM _

set_option maxRecDepth 100000 in
set_option maxHeartbeats 4000000 in
theorem step_any (B M at0 : Nat) (n : Int) (m : Int × Nat × List (Int × Nat × Nat)) (w : World) (h : Mach B w M m) (h0 : 0 ≤ m.1) (h1 : m.1 ≤ 11) (hn0 : 0 ≤ n) (hn1 : n ≤ 255) (hlen : m.2.2.length ≤ 100000) :
    Calls Try.prog 27 #[.pointer (some ⟨M, 0, none⟩), .int .i64 (at0 : Int), .int .u8 n] w fun e w' => e = .returned (.tuple #[]) ∧ Mach B w' M (stepM m at0 n) ∧ Below B w w' := by
  obtain ⟨st, f, acc⟩ := m
  simp only at h0 h1 hlen
  obtain ⟨c0, f0, c1, f1⟩ := h.cells
  have hBM := h.lt.1
  cases hb : nB st n with
  | true =>
    have HB := Lib.hid hb
    have HS := Lib.hid (show stepM (st, f, acc) at0 n = (nS st n, f, acc) by simp [stepM, hb]); clear hb
    have HM := Lib.hid (h.set0 (nS st n)); clear h
    go_enter Try.func27, Try.ntmps27
    go_wp2_with fail
    refine (next_any st n _ h0 h1 hn0 hn1).mono ?_
    rintro e w' ⟨rfl, rfl⟩
    rw [HB.out]
    generalize nS st n = s1 at *
    go_wp2
    refine bodyPost_ret (results_none rfl _ _ _) rfl ?_
    exact ⟨rfl, by rw [HS.out]; exact HM.out, (Below.refl B w).setCell hBM _⟩
  | false =>
    have HB := Lib.hid hb
    by_cases hz : st = 0
    · subst hz
      have HS := Lib.hid (show stepM (0, f, acc) at0 n = (firstI n, at0, acc) from step_zero f at0 acc n); clear hb
      have HM := Lib.hid ((h.set0 (firstI n)).set1 at0); clear h
      go_enter Try.func27, Try.ntmps27
      go_wp2_with fail
      refine (next_any 0 n _ h0 h1 hn0 hn1).mono ?_
      rintro e w' ⟨rfl, rfl⟩
      rw [HB.out]
      generalize nS 0 n = s1
      go_wp2_with fail
      refine (firstState_any n _ hn0 hn1).mono ?_
      rintro e w' ⟨rfl, rfl⟩
      generalize firstI n = s2 at *
      go_wp2
      go_end0
      exact ⟨rfl, by rw [HS.out]; exact HM.out, ((Below.refl B w).setCell hBM _).setCell hBM _⟩
    · have hz' : (st != 0) = true := bne_iff_ne.mpr hz
      by_cases hk : kI st = 0
      · have HS := Lib.hid (show stepM (st, f, acc) at0 n = (11, f, acc) by simp [stepM, hb, hz, hk])
        have HM := Lib.hid (h.set0 11)
        have HH := Lib.hid h
        have HK := Lib.hid hk
        clear hb hk h hz
        go_enter Try.func27, Try.ntmps27
        go_wp2_with fail
        refine (next_any st n _ h0 h1 hn0 hn1).mono ?_
        rintro e w' ⟨rfl, rfl⟩
        rw [HB.out]
        generalize nS st n = s1
        go_wp2_with fail
        refine (end_no B M at0 f st acc _ HH.out h0 h1 HK.out).mono ?_
        rintro e w' ⟨rfl, rfl⟩
        go_wp2
        refine bodyPost_ret (results_none rfl _ _ _) rfl ?_
        exact ⟨rfl, by rw [HS.out]; exact HM.out, (Below.refl B w).setCell hBM _⟩
      · have HS := Lib.hid (show stepM (st, f, acc) at0 n = (firstI n, at0, acc ++ [(kI st, f, at0)]) by simp [stepM, hb, hz, hk])
        have HH := Lib.hid h
        have HK := Lib.hid hk
        clear hb hk h hz
        go_enter Try.func27, Try.ntmps27
        go_wp2_with fail
        refine (next_any st n _ h0 h1 hn0 hn1).mono ?_
        rintro e w' ⟨rfl, rfl⟩
        rw [HB.out]
        generalize nS st n = s1
        go_wp2_with fail
        refine (end_yes B M at0 f st acc _ HH.out h0 h1 HK.out hlen).mono ?_
        rintro e w1 ⟨rfl, hm1, hb1⟩
        have HM := Lib.hid ((hm1.set0 (firstI n)).set1 at0)
        have HB1 := Lib.hid hb1
        obtain ⟨d0, g0, d1, g1⟩ := hm1.cells
        clear hm1 hb1 c0 f0 c1 f1
        go_wp2_with fail
        refine (firstState_any n _ hn0 hn1).mono ?_
        rintro e w' ⟨rfl, rfl⟩
        generalize firstI n = s2 at *
        go_wp2
        go_end0
        exact ⟨rfl, by rw [HS.out]; exact HM.out, (HB1.out.setCell hBM _).setCell hBM _⟩

end Go.Proofs.Ytffpaabpicdpeaa
