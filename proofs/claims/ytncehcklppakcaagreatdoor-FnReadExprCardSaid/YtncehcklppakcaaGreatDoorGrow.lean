/-
  impl.growNode, by its contract: the tree of an expression, or none.
-/
import Derived.Test.YtncehcklppakcaaGreatDoorTree
import Derived.Test.YtncehcklppakcaaGreatDoorCellW
import Derived.Deep.Draws
import Derived.Deep.AppendLies
import Derived.Deep.RegionHeld3
import Derived.RegionTactic
import Derived.Deep.RegionLaw
import Derived.Deep.DrawnRows
namespace Go.Proofs.YtncehcklppakcaaGreatDoor
open Go.RowKit
set_option linter.unusedVariables false

theorem infoPtr : (Tryz.prog.info? 49).map (fun i => (i.zero, i.size, i.bytes)) = some (some (.pointer none), 1, 8) := by kernel_rfl

/-- What growNode leaves. -/
def Grown (am : List Nat) (f : Nat) (w : World) (e : Ending) (w' : World) : Prop :=
  Below w.heap.size w w' ∧ ((∃ N t d, e = .returned (.pointer (some ⟨N, 0, none⟩)) ∧ TrS w' am (fun b => w.heap.size ≤ b ∧ b < w'.heap.size) [N] f t d) ∨ (e = .returned (.pointer none) ∧ ¬ ∃ t d, Exs am 1 f t d))
/-- What its loop keeps. -/
def GInv (am : List Nat) (w : World) (f k g : Nat) (wr : World) : Prop :=
  ∃ (v : Value) (ps : List Nat) (d : Nat), BlkN wr w.heap.size #[.int .i64 (f : Int), .int .i64 (g : Int), v] ∧ wr.ownsRow (w.heap.size + 1) 49 1 v k (ptrs ps) ∧ TrS wr am (fun b => w.heap.size < b ∧ b < wr.heap.size ∧ v.ownBlock ≠ some b) ps (f + 1) g d ∧ Below w.heap.size w wr
theorem GInv.exs {am : List Nat} {w wr : World} {f k g : Nat} (h : GInv am w f k g wr) : ∃ d, Exs am k (f + 1) g d := by
  obtain ⟨v, ps, d, -, ho, ht, -⟩ := h
  have hl : ps.length = k := by have := ho.1; rw [ptrs_length] at this; omega
  exact ⟨d, hl ▸ ht.exs⟩
theorem GInv.start (am : List Nat) (w : World) (f : Nat) : GInv am w f 0 (f + 1) (w.alloc (.cells #[.int .i64 (f : Int), .int .i64 ((f + 1 : Nat) : Int), .slice none 0 0] 93)) :=
  ⟨_, [], 0, BlkN.new _ _, World.ownsRow_nil _ _ _ _, .nil _, (Below.refl _ _).alloc (Nat.le_refl _) _⟩
theorem GInv.done {am : List Nat} {w wr : World} {f m g : Nat} (h : GInv am w f m g wr) (hm : am[f]? = some m) : Grown am f w (.returned (.pointer (some ⟨w.heap.size, 0, none⟩))) wr := by
  obtain ⟨v, ps, d, hb, ho, ht, hB⟩ := h
  refine ⟨hB, .inl ⟨w.heap.size, g, d + 1, rfl, ?_⟩⟩
  exact TrS.one hm ⟨Nat.le_refl _, hb.lt⟩ hb (ho.mono (Nat.zero_le _)) (fun r hr => ⟨by have := (ho.lt r hr).1; omega, (ho.lt r hr).2⟩) (ht.keep (fun _ _ _ => rfl) (fun b hb _ => ⟨by omega, hb.2.1⟩))
theorem GInv.fail {am : List Nat} {w wr w1 : World} {f k m g : Nat} (h : GInv am w f k g wr) (hm : am[f]? = some m) (hk : k < m) (hB : Below wr.heap.size wr w1) (hno : ¬ ∃ t d, Exs am 1 g t d) : Grown am f w (.returned (.pointer none)) w1 := by
  obtain ⟨d, hx⟩ := h.exs
  obtain ⟨v, ps, d', hb, ho, ht, hBw⟩ := h
  exact ⟨hBw.trans (hB.mono hBw.size), .inr ⟨rfl, exs_none_of hm (exs_stop hx hk hno)⟩⟩

theorem GInv.next {am : List Nat} {w wr w1 w2 : World} {f k g t N1 d d1 gg cap' : Nat} {vv : Value} {ps : List Nat}
    (hbel : Below w.heap.size w wr) (hb : BlkN wr w.heap.size #[.int .i64 (f : Int), .int .i64 (g : Int), vv]) (ho : wr.ownsRow (w.heap.size + 1) 49 1 vv k (ptrs ps))
    (ht : TrS wr am (fun b => w.heap.size < b ∧ b < wr.heap.size ∧ vv.ownBlock ≠ some b) ps (f + 1) g d) (hb1 : Below wr.heap.size wr w1) (ht1 : TrS w1 am (fun b => wr.heap.size ≤ b ∧ b < w1.heap.size) [N1] g t d1)
    (o : Obj) (hgrow : (w1.alloc o).grownBy w2 vv.ownBlock) (hat : vv.ownBlock = some gg ∨ gg = w1.heap.size + 1)
    (hown' : w2.ownsRow (w.heap.size + 1) 49 1 (.slice (some ⟨gg, 0, none⟩) (k + 1) cap') (k + 1) (ptrs ps ++ [.pointer (some ⟨N1, 0, none⟩)])) (hk2 : BlkN w2 w.heap.size #[.int .i64 (f : Int), .int .i64 (g : Int), vv]) :
    GInv am w f (k + 1) t ((w2.setCell ⟨w.heap.size, 2, none⟩ (.slice (some ⟨gg, 0, none⟩) (k + 1) cap')).setCell ⟨w.heap.size, 1, none⟩ (.int .i64 (t : Int))) := by
  have hs1 := hb1.size
  have hs2 : w1.heap.size + 1 ≤ w2.heap.size := by have := hgrow.size; simpa using this
  have hNlt := hb.lt
  have hgg : w.heap.size + 1 ≤ gg ∧ gg < w2.heap.size := hown'.lt gg rfl
  have hol : ∀ r, vv.ownBlock = some r → r < wr.heap.size := fun r hr => (ho.lt r hr).2
  have hsz : ((w2.setCell ⟨w.heap.size, 2, none⟩ (.slice (some ⟨gg, 0, none⟩) (k + 1) cap')).setCell ⟨w.heap.size, 1, none⟩ (.int .i64 (t : Int))).heap.size = w2.heap.size := by simp [World.setCell]
  have hset : ∀ b, b ≠ w.heap.size → ((w2.setCell ⟨w.heap.size, 2, none⟩ (.slice (some ⟨gg, 0, none⟩) (k + 1) cap')).setCell ⟨w.heap.size, 1, none⟩ (.int .i64 (t : Int))).heap[b]? = w2.heap[b]? := fun b hbn => by
    rw [Below.heap_setCell _ _ _ _ hbn, Below.heap_setCell _ _ _ _ hbn]
  refine ⟨.slice (some ⟨gg, 0, none⟩) (k + 1) cap', ps ++ [N1], max d d1, ?_, ?_, ?_, ?_⟩
  · have := (hk2.set_ 2 (.slice (some ⟨gg, 0, none⟩) (k + 1) cap')).set_ 1 (.int .i64 (t : Int))
    exact this
  · rw [ptrs_snoc]
    refine hown'.kept (row := some w.heap.size) ⟨rfl, rfl, rfl, by rw [hsz]; exact Nat.le_refl _, fun b _ hn => hset b (fun e => hn (by rw [e]))⟩ (.inr ?_)
    intro he
    have he : gg = w.heap.size := by simpa [Value.ownBlock] using he
    omega
  · refine TrS.app (ht.keep ?_ ?_) (ht1.keep ?_ ?_)
    · rintro b ⟨h1, h2, h3⟩ -
      rw [hset b (by omega), hgrow.block b (by simp; omega) (fun e => h3 e.symm), Below.heap_alloc _ _ _ (by omega), hb1.block b h2]
    · rintro b ⟨h1, h2, h3⟩ -
      refine ⟨h1, by rw [hsz]; omega, fun he => ?_⟩
      have he : gg = b := by simpa [Value.ownBlock] using he
      subst he
      rcases hat with h | h
      · exact h3 h
      · omega
    · rintro b ⟨h1, h2⟩ -
      rw [hset b (by omega), hgrow.block b (by simp; omega) (fun e => by have := hol b e.symm; omega), Below.heap_alloc _ _ _ (by omega)]
    · rintro b ⟨h1, h2⟩ -
      refine ⟨by omega, by rw [hsz]; omega, fun he => ?_⟩
      have he : gg = b := by simpa [Value.ownBlock] using he
      subst he
      rcases hat with h | h
      · have := hol _ h; omega
      · omega
  · exact ((((hbel.trans (hb1.mono hbel.size)).alloc (by have := hbel.size; omega) _).grown hgrow (by simp; have := hbel.size; omega) (fun r hr => by have := (ho.lt r hr).1; omega)).setCell (Nat.le_refl _) _).setCell (Nat.le_refl _) _

set_option maxRecDepth 100000 in
set_option maxHeartbeats 4000000 in
theorem grow_end (v : Value) (l : List Cl) (w : World) (hr : RowC w v l) :
    Calls Tryz.prog 79 #[v, .int .i64 (l.length : Int)] w (Grown (amL l) l.length w) := by
  have hno : ¬ ∃ t d, Exs (amL l) 1 l.length t d := by
    rintro ⟨t, d, h⟩
    have := h.le; rw [amL_length] at this; have h2 := this.2 (by omega); omega
  have HN := Lib.hid hno; clear hno
  obtain ⟨ao, cap, rfl, h1, h2, h3⟩ := hr
  unfold maxLen at h2
  have H3 := Lib.hid h3; clear h3
  go_enter Tryz.func79, Tryz.ntmps79
  go_wp2
  go_ret
  exact ⟨Below.refl _ _, .inr ⟨rfl, HN.out⟩⟩

set_option maxRecDepth 100000 in
set_option maxHeartbeats 4000000 in
theorem grow_any (v : Value) (l : List Cl) (h60 : l.length ≤ 60) (hok : l.all okM = true) (j : Nat) : ∀ (f : Nat) (w : World), f ≤ l.length → l.length - f ≤ j → RowC w v l →
    Calls Tryz.prog 79 #[v, .int .i64 (f : Int)] w (Grown (amL l) f w) := by
  induction j with
  | zero =>
    intro f w hf hj hr
    obtain rfl : f = l.length := by omega
    exact grow_end v l w hr
  | succ j ih =>
    intro f w hf hj hr
    by_cases hfl : f = l.length
    · subst hfl; exact grow_end v l w hr
    · have hlt : f < l.length := by omega
      obtain ⟨i0, hi, hz0, hz1, hz2⟩ := info_parts infoPtr
      have HR := Lib.hid hr
      obtain ⟨ao, cap, rfl, h1, h2, h3⟩ := hr
      unfold maxLen at h2
      rcases h3 with h3 | ⟨b, o, rfl, hbl, hc⟩
      · subst h3; simp at hlt
      · obtain ⟨c0, c1, c2⟩ := hc f hlt
        have hmb := okM_many (okM_all hok f hlt)
        have HAM := Lib.hid (amL_at l f hlt)
        have hne : ((f : Int) == (l.length : Int)) = false := beq_eq_false_iff_ne.mpr (by omega)
        have hne2 : (f == l.length) = false := beq_eq_false_iff_ne.mpr (by omega)
        generalize hM : l[f].2.2 = M at c2 hmb HAM
        have HMM := Lib.hid hM; clear hM
        obtain ⟨m, rfl⟩ := Int.eq_ofNat_of_zero_le hmb.1
        have hm8 : m ≤ 8 := by omega
        have HAM2 : Hid ((amL l)[f]? = some m) := Lib.hid (by have := HAM.out; simpa using this)
        have HIH := Lib.hid ih
        have HNE := Lib.hid hfl
        clear hc hmb HAM ih hfl HMM c0 c1 hok
        go_enter Tryz.func79, Tryz.ntmps79
        go_wp2
        have HST := Lib.hid (GInv.start (amL l) w f)
        go_loopw [6, 21] (fun _ i wr => ∃ k g : Nat, k ≤ m ∧ i = .int .i64 (k : Int) ∧ GInv (amL l) w f k g wr) (fun _ i _ => m - (intOf i).toNat)
        case atStart => exact ⟨0, f + 1, Nat.zero_le _, rfl, by have := HST.out; rwa [show ((f + 1 : Nat) : Int) = (f : Int) + 1 by omega] at this⟩
        case round =>
          obtain ⟨k, g, hk, rfl, hG⟩ := hrel
          have HG := Lib.hid hG
          by_cases hkm : k < m
          · obtain ⟨dx, hx⟩ := hG.exs
            have hxl := hx.le
            rw [amL_length] at hxl
            have hgl : g ≤ l.length := by
              by_cases hk0 : k = 0
              · subst hk0; cases hx; omega
              · exact hxl.2 hk0
            have hgf : f < g := by omega
            clear hx hxl
            obtain ⟨vv, ps, d, hb, hown, ht, hB⟩ := hG
            have e0 : wr.cell? ⟨w.heap.size, 1, none⟩ = some (.int .i64 (g : Int)) := hb.cell 1
            have HB := Lib.hid hb; have HO := Lib.hid hown; have HT := Lib.hid ht; have HBel := Lib.hid hB
            clear hb hown ht hB
            go_wp2_with fail
            refine (HIH.out g _ hgl (by omega) (HR.out.mono HBel.out)).mono ?_
            rintro e w1 ⟨hb1, ⟨N1, t, d1, rfl, ht1⟩ | ⟨rfl, hno⟩⟩
            · obtain ⟨m1, d1', v1, qs1, -, hS1, hN1, -⟩ := ht1.inv
              have cN1 : w1.cell? ⟨N1, 1, none⟩ = some (.int .i64 (t : Int)) := hN1.cell 1
              have hN1lt : w.heap.size < N1 := by have := HB.out.lt; omega
              have hgb1 : wr.grownBy w1 none := ⟨hb1.os, hb1.tape, hb1.output, hb1.size, fun i hi _ => hb1.block i hi⟩
              have own1 := HO.out.kept hgb1 (by cases hv : vv.ownBlock <;> simp)
              have K1 := HB.out.keep hb1
              have hM := K1.lt
              have c1 : w1.cell? ⟨w.heap.size, 1, none⟩ = some (.int .i64 (g : Int)) := K1.cell 1
              have c2 : w1.cell? ⟨w.heap.size, 2, none⟩ = some vv := K1.cell 2
              have f1 : w1.frozen? ⟨w.heap.size, 1, none⟩ = false := K1.frozen 1
              have f2 : w1.frozen? ⟨w.heap.size, 2, none⟩ = false := K1.frozen 2
              have hne : vv.ownBlock ≠ some w.heap.size := fun he => by have := (own1.lt _ he).1; omega
              have NE := Lib.hid hne
              have HK1 := Lib.hid K1; have HN1 := Lib.hid hN1
              have HT1 := Lib.hid ht1; have HB1 := Lib.hid hb1
              clear hgb1 K1 hne hb1 ht1 hN1 hS1 e0
              obtain ⟨av, cv, hv⟩ : ∃ a c, vv = .slice a k c := by
                rcases own1.2 with ⟨rfl, h0⟩ | ⟨g', cap', cur, rfl, _⟩
                · exact ⟨none, 0, by rw [h0]⟩
                · exact ⟨_, _, rfl⟩
              subst hv
              have hfar : ∀ r, (Value.slice av k cv).ownBlock = some r → r < N1 := fun r hr => by have h1 := HT1.out.inv; obtain ⟨_, _, _, _, -, hS, -⟩ := h1; have h2 := (HO.out.lt r hr).2; omega
              have hNr : (Value.slice av k cv).ownBlock ≠ some N1 := fun he => by have := hfar _ he; omega
              have hn1 : ¬ N1 = w.heap.size := by omega
              have hn2 : ¬ w.heap.size = N1 := by omega
              have NR := Lib.hid hNr; have FAR := Lib.hid hfar; clear hfar hNr
              go_wp2_with (at_builtin; refine wpList_append_lies _ rfl _ _ 91 rfl (w.heap.size + 1) 49 i0 (.pointer none) 1 8 Tryz.underlying91 hi hz0 hz1 hz2 rfl (by decide) (.slice av k cv) k _ rfl (own1.alloc _) ⟨w1.heap.size, 0, none⟩ 1 1 [.pointer (some ⟨N1, 0, none⟩)] rfl rfl (World.news_of_block (cs := #[.pointer (some ⟨N1, 0, none⟩)]) (t := 49) (fr := (0, 0)) (heap_alloc_new w1 _)) (by simp [Value.oneCell']) (by omega) (by unfold maxLen; omega) (by omega) (by simp; omega) (w1.heap.size + 1) (by simp) ?_; intro gg cap' w2 hown' hgrow hat hlt'; have hfz : w2.frozen? ⟨w.heap.size, 2, none⟩ = false := ((hgrow.frozen_far _ (by simp; omega) (fun hq => NE.out hq.symm)).trans (((World.grownBy_alloc w1 _ none).frozen_far ⟨w.heap.size, 2, none⟩ hM (by simp)).trans f2)); have K2 := BlkN.grown (HK1.out.alloc _) hgrow (fun hq => NE.out hq.symm); have M2 := BlkN.grown (HN1.out.alloc _) hgrow (fun hq => NR.out hq.symm); have hc2 : w2.cell? ⟨w.heap.size, 2, none⟩ = some (.slice av k cv) := K2.cell 2; have hc1 : w2.cell? ⟨w.heap.size, 1, none⟩ = some (.int .i64 (g : Int)) := K2.cell 1; have hf1 : w2.frozen? ⟨w.heap.size, 1, none⟩ = false := K2.frozen 1; have hcn : w2.cell? ⟨N1, 1, none⟩ = some (.int .i64 (t : Int)) := M2.cell 1; have KK2 := Lib.hid K2; have HO2 := Lib.hid hown'; have HG2 := Lib.hid hgrow; have HAT := Lib.hid hat; clear K2 M2 hown' hgrow hat)
              go_roundw
              case rel => exact ⟨k + 1, t, by omega, by go_num, GInv.next HBel.out HB.out HO.out HT.out HB1.out HT1.out _ HG2.out HAT.out HO2.out KK2.out⟩
              case measure => simp [intOf]; omega
            · have HF := Lib.hid (HG.out.fail HAM2.out hkm hb1 hno)
              clear hno hb1
              go_wp2
              go_ret
              exact HF.out
          · obtain rfl : k = m := by omega
            have HD := Lib.hid (HG.out.done HAM2.out)
            go_wp2
            go_ret
            exact HD.out

end Go.Proofs.YtncehcklppakcaaGreatDoor
