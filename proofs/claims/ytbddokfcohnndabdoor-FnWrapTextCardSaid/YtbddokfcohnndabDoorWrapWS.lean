/-
  spec.WrapLines, by its contract.
-/
import Derived.Test.YtbddokfcohnndabDoorWrapLS
import Derived.Test.YtbddokfcohnndabDoorWrapFS
import Derived.Test.YtbddokfcohnndabDoorInts
import Derived.Test.YtbddokfcohnndabDoorOwnK
import Derived.Test.YtbddokfcohnndabDoorIntsZ
import Derived.Test.YtbddokfcohnndabDoorWrapWL
namespace Go.Proofs.YtbddokfcohnndabDoor
open Go.RowKit
set_option linter.unusedVariables false

theorem intsZ_set (B : List Int) (k : Nat) (z : Int) : (intsZ B).set k (.int .i64 z) = intsZ (B.set k z) := by simp [intsZ, List.map_set]
theorem bestC_le {w : Nat} {S : List Nat} (hf : FitS w S) (h40 : w ≤ 40) : bestC w S ≤ 1600 * S.length := by
  have h1 := costR_le (by omega) _ _ _ _ (best_ok hf).1
  have h2 := (best_len hf).1
  simp only at h1
  exact Nat.le_trans h1 (Nat.mul_le_mul_left _ h2)

/-- What the tables from the back hold from place a on. -/
def BackOk (n : Nat) (S : List Nat) (a : Nat) (B T : List Int) : Prop :=
  B.length = S.length + 1 ∧ T.length = S.length + 1 ∧ ∀ k, a ≤ k → k ≤ S.length → B[k]? = some (bestC n (S.drop k) : Int) ∧ (k < S.length → ∃ t : Nat, 1 ≤ t ∧ k + t ≤ S.length ∧ T[k]? = some (t : Int) ∧ bestL n (S.drop k) = t :: bestL n (S.drop (k + t)))
/-- What is known of place p when lines of fewer than m words were tried. -/
def BackTry (n : Nat) (S : List Nat) (p m : Nat) (B T : List Int) : Prop :=
  (m = 1 ∧ B[p]? = some (-1)) ∨ ∃ t : Nat, 1 ≤ t ∧ t < m ∧ B[p]? = some ((lineC n (S.drop p) t + bestC n (S.drop (p + t)) : Nat) : Int) ∧ T[p]? = some (t : Int) ∧
    ∀ t', 1 ≤ t' → t' < m → lineC n (S.drop p) t + bestC n (S.drop (p + t)) < lineC n (S.drop p) t' + bestC n (S.drop (p + t')) ∨ (lineC n (S.drop p) t + bestC n (S.drop (p + t)) = lineC n (S.drop p) t' + bestC n (S.drop (p + t')) ∧ t' ≤ t)
theorem back_start (n : Nat) (S : List Nat) : BackOk n S S.length (List.replicate (S.length + 1) 0) (List.replicate (S.length + 1) 0) := by
  refine ⟨by simp, by simp, fun k h1 h2 => ?_⟩
  obtain rfl : k = S.length := by omega
  refine ⟨?_, fun h => by omega⟩
  rw [List.drop_length, (best_nil n).2]; simp
theorem back_done {n : Nat} {S : List Nat} {p m : Nat} {B T : List Int} (hf : FitS n S) (hb : BackOk n S (p + 1) B T) (ht : BackTry n S p m B T) (hp : p < S.length) (hm : m = fuA n (S.drop p) + 1) : BackOk n S p B T := by
  have hf1 := (hf.drop p).pos (by intro h; have := congrArg List.length h; rw [List.length_drop, List.length_nil] at this; omega)
  have hfl := fu_le n (S.drop p)
  rw [List.length_drop] at hfl
  refine ⟨hb.1, hb.2.1, fun k h1 h2 => ?_⟩
  by_cases e : k = p
  · subst e
    rcases ht with ⟨h, -⟩ | ⟨t, t1, t2, t3, t4, t5⟩
    · omega
    · have := bst_step (hf.drop k) t1 (by omega) (fun t' h h' => by rw [List.drop_drop, List.drop_drop]; exact t5 t' h (by omega))
      rw [List.drop_drop] at this
      exact ⟨by rw [t3, this.2], fun _ => ⟨t, t1, by omega, t4, this.1⟩⟩
  · exact hb.2.2 k (by omega) h2
theorem back_first {n : Nat} {S : List Nat} {p : Nat} {B T : List Int} (hb : BackOk n S (p + 1) B T) (hp : p < S.length) : BackOk n S (p + 1) (B.set p (-1)) T ∧ BackTry n S p 1 (B.set p (-1)) T := by
  refine ⟨⟨by rw [List.length_set]; exact hb.1, hb.2.1, fun k h1 h2 => ?_⟩, .inl ⟨rfl, ?_⟩⟩
  · rw [List.getElem?_set_ne (by omega)]; exact hb.2.2 k h1 h2
  · rw [List.getElem?_set_self (by rw [hb.1]; omega)]
theorem back_put {n : Nat} {S : List Nat} {p m : Nat} {B T : List Int} (hb : BackOk n S (p + 1) B T) (ht : BackTry n S p m B T) (hp : p < S.length) (hm1 : 1 ≤ m)
    (hle : ∀ z : Int, B[p]? = some z → z < 0 ∨ ((lineC n (S.drop p) m + bestC n (S.drop (p + m)) : Nat) : Int) ≤ z) :
    BackOk n S (p + 1) (B.set p ((lineC n (S.drop p) m + bestC n (S.drop (p + m)) : Nat) : Int)) (T.set p (m : Int)) ∧ BackTry n S p (m + 1) (B.set p ((lineC n (S.drop p) m + bestC n (S.drop (p + m)) : Nat) : Int)) (T.set p (m : Int)) := by
  refine ⟨⟨by rw [List.length_set]; exact hb.1, by rw [List.length_set]; exact hb.2.1, fun k h1 h2 => ?_⟩, .inr ⟨m, hm1, by omega, ?_, ?_, fun t' h h' => ?_⟩⟩
  · rw [List.getElem?_set_ne (by omega), List.getElem?_set_ne (by omega)]; exact hb.2.2 k h1 h2
  · rw [List.getElem?_set_self (by rw [hb.1]; omega)]
  · rw [List.getElem?_set_self (by rw [hb.2.1]; omega)]
  · by_cases e : t' = m
    · subst e; exact .inr ⟨rfl, Nat.le_refl _⟩
    · rcases ht with ⟨h1, -⟩ | ⟨t, t1, t2, t3, t4, t5⟩
      · omega
      · have h3 := hle _ t3
        have h4 := t5 t' h (by omega)
        omega
theorem back_skip {n : Nat} {S : List Nat} {p m : Nat} {B T : List Int} (ht : BackTry n S p m B T) {z : Int} (hz : B[p]? = some z) (h0 : ¬ z < 0) (hlt : ¬ ((lineC n (S.drop p) m + bestC n (S.drop (p + m)) : Nat) : Int) ≤ z) : BackTry n S p (m + 1) B T := by
  rcases ht with ⟨h1, h2⟩ | ⟨t, t1, t2, t3, t4, t5⟩
  · rw [h2] at hz; injection hz with hz; omega
  · rw [t3] at hz; injection hz with hz
    refine .inr ⟨t, t1, by omega, t3, t4, fun t' h h' => ?_⟩
    by_cases e : t' = m
    · subst e; left; omega
    · exact t5 t' h (by omega)
theorem back_val {n : Nat} {S : List Nat} {p m : Nat} {B T : List Int} (hf : FitS n S) (h40 : n ≤ 40) (hl : S.length ≤ 20) (ht : BackTry n S p m B T) : ∃ z : Int, B[p]? = some z ∧ -1 ≤ z ∧ z ≤ 40000 := by
  rcases ht with ⟨h1, h2⟩ | ⟨t, t1, t2, t3, t4, t5⟩
  · exact ⟨_, h2, by omega, by omega⟩
  · have h1 := lineC_le (S := S.drop p) t1 (w := n) (by omega)
    have h2 := bestC_le (hf.drop (p + t)) h40
    rw [List.length_drop] at h2
    exact ⟨_, t3, by omega, by omega⟩

/-- Both tables are written at one place. -/
theorem back_store {w wx : World} {g1 g2 N c0 : Nat} {u0 : Value} {B T : List Int} {p : Nat} {b m : Int} (h12 : ¬ g1 = g2) (hb1 : w.heap.size ≤ g1) (hb2 : w.heap.size ≤ g2)
    (hob : wx.ownsRow w.heap.size 3 1 (.slice (some ⟨g1, 0, none⟩) N c0) N (intsZ B)) (hot : wx.ownsRow w.heap.size 3 1 (.slice (some ⟨g2, 0, none⟩) N c0) N (intsZ T)) (hoo : wx.ownsRow w.heap.size 3 1 u0 0 []) (hn1 : u0.ownBlock ≠ some g1) (hn2 : u0.ownBlock ≠ some g2) (hb : Below w.heap.size w wx) :
    ((wx.setCell ⟨g1, p, none⟩ (.int .i64 b)).setCell ⟨g2, p, none⟩ (.int .i64 m)).ownsRow w.heap.size 3 1 (.slice (some ⟨g1, 0, none⟩) N c0) N (intsZ (B.set p b)) ∧
    ((wx.setCell ⟨g1, p, none⟩ (.int .i64 b)).setCell ⟨g2, p, none⟩ (.int .i64 m)).ownsRow w.heap.size 3 1 (.slice (some ⟨g2, 0, none⟩) N c0) N (intsZ (T.set p m)) ∧
    ((wx.setCell ⟨g1, p, none⟩ (.int .i64 b)).setCell ⟨g2, p, none⟩ (.int .i64 m)).ownsRow w.heap.size 3 1 u0 0 [] ∧
    Below w.heap.size w ((wx.setCell ⟨g1, p, none⟩ (.int .i64 b)).setCell ⟨g2, p, none⟩ (.int .i64 m)) := by
  have s1 := hob.stored p (.int .i64 b)
  rw [intsZ_set] at s1
  have t1 := hot.kept s1.2 (.inr (by simp [Value.ownBlock]; omega))
  have o1 := hoo.kept s1.2 (.inr hn1)
  have s2 := t1.stored p (.int .i64 m)
  rw [intsZ_set] at s2
  exact ⟨s1.1.kept s2.2 (.inr (by simp [Value.ownBlock]; omega)), s2.1, o1.kept s2.2 (.inr hn2), (hb.setCell (p := ⟨g1, p, none⟩) hb1 _).setCell (p := ⟨g2, p, none⟩) hb2 _⟩

set_option maxRecDepth 100000 in
set_option maxHeartbeats 8000000 in
theorem wrapLines_spec (v : Value) (L : List ByteArray) (x : Int) (w : World) (h : RowOf w v (strs L)) (hz : Sized L) :
    Calls Tryd.prog 14 #[v, .int .i64 x] w (NewInts (wlB L x) w) := by
  obtain ⟨i0, hi, hz0, hz1, hz2⟩ := info_parts infoI
  have HC := Lib.hid (fun w' hr' => wordsFit_spec v L x w' hr' hz)
  have HR := Lib.hid h
  have HL0 := Lib.hid (World.ownsRow_lit (base := w.heap.size) (size := 1) (e := 3) w #[] 0 (Nat.le_refl _) (by unfold maxLen; omega) rfl)
  have HB0 := Lib.hid ((Below.refl w.heap.size w).alloc (Nat.le_refl _) (.cells #[] 3))
  obtain ⟨ao, cap, rfl, h1, h2, h3⟩ := h
  simp only [strs_length] at h1 HC HR ⊢
  unfold maxLen at h2
  clear h3 hz
  cases hf : fitB L x with
  | false =>
    have HD := Lib.hid (show wlB L x = [] by rw [wlB, hf]; rfl)
    rw [hf] at HC
    clear hf
    go_enter Tryd.func14, Tryd.ntmps14
    go_wp2_with fail
    refine (HC.out _ (HR.out.mono HB0.out)).mono ?_
    rintro e w' ⟨rfl, rfl⟩
    go_wp2
    go_ret
    exact ⟨_, rfl, by rw [HD.out]; exact HL0.out, HB0.out⟩
  | true =>
    have HD := Lib.hid (show wlB L x = bestL x.toNat (szW L) by rw [wlB, hf]; rfl)
    rw [hf] at HC
    have hl := fit_len hf
    have HZ := Lib.hid (show ∀ s ∈ L, s.size ≤ 40 from fun s hs => by obtain ⟨k, hk, rfl⟩ := List.mem_iff_getElem.mp hs; exact (fit_sz hf hk).2)
    obtain ⟨n, rfl, hn1, hn40, hfs⟩ := fit_S hf
    rw [Int.toNat_natCast] at HD
    have HFS := Lib.hid hfs
    have hby : i0.bytes * (L.length + 1) ≤ 281474976710656 := by rw [hz2]; omega
    have HLI := Lib.hid (show (L.length : Int) + 1 = ((L.length + 1 : Nat) : Int) by omega)
    have HM := Lib.hid (show (madeCells (Value.int .i64 0).cells ((L.length + 1) * 1)).toList = intsZ (List.replicate (L.length + 1) 0) by
      apply List.ext_getElem?
      intro k
      by_cases hk : k < L.length + 1 <;> simp [madeCells, intsZ, Value.cells, Nat.mod_one, hk])
    clear hf hfs
    go_enter Tryd.func14, Tryd.ntmps14
    go_wp2_with fail
    refine (HC.out _ (HR.out.mono HB0.out)).mono ?_
    rintro e w' ⟨rfl, rfl⟩
    go_wp2_with (first | (at_make; refine wpList_make_full _ rfl _ _ 33 rfl w.heap.size 3 i0 (.int .i64 0) 1 Tryd.underlying33 hi hz0 hz1 .i64 .i64 ((L.length : Int) + 1) ((L.length : Int) + 1) (L.length + 1) rfl rfl HLI.out HLI.out hby (by unfold maxLen; omega) (by simp) ?_; intro w1 hown1 hgrow1; rw [HM.out] at hown1; have HO1 := Lib.hid hown1; have HB1 := Lib.hid (HB0.out.grown hgrow1 (by simp) (by simp)); have HS1 := Lib.hid (show w.heap.size + 1 < w1.heap.size by have := (hown1.lt _ rfl).2; simpa using this); have HL1 := Lib.hid (HL0.out.kept hgrow1 (.inr (by simp [Value.ownBlock]))); clear hown1 hgrow1) | (at_make; refine wpList_make_full _ rfl _ _ 33 rfl w.heap.size 3 i0 (.int .i64 0) 1 Tryd.underlying33 hi hz0 hz1 .i64 .i64 ((L.length : Int) + 1) ((L.length : Int) + 1) (L.length + 1) rfl rfl HLI.out HLI.out hby (by unfold maxLen; omega) HB1.out.size ?_; intro w2 hown2 hgrow2; rw [HM.out] at hown2; have HO2 := Lib.hid hown2; have HB2 := Lib.hid (HB1.out.grown hgrow2 HB1.out.size (by simp)); have HL2 := Lib.hid (HL1.out.kept hgrow2 (.inr (by simp [Value.ownBlock]))); have HP2 := Lib.hid (HO1.out.kept hgrow2 (.inr (by simp [Value.ownBlock]))); clear hown2 hgrow2))
    have hsz1 : w.heap.size + 1 < w1.heap.size := HS1.out
    have HP3 := Lib.hid (show w2.ownsRow w.heap.size 3 1 (.slice (some ⟨w.heap.size + 1, 0, none⟩) (L.length + 1) (L.length + 1)) (L.length + 1) (intsZ (List.replicate (L.length + 1) 0)) by
      have := HP2.out
      rwa [show (w.alloc (Obj.cells #[] 3)).heap.size = w.heap.size + 1 by simp] at this)
    have HSL := Lib.hid (szW_len L)
    have HST := Lib.hid (show BackOk n (szW L) L.length (List.replicate (L.length + 1) 0) (List.replicate (L.length + 1) 0) by have := back_start n (szW L); rwa [szW_len] at this)
    clear hby HP2 HO1 HL1 HB1 HM HL0
    go_loopw [9, 10, 11, 12] (fun i _ _ _ wr => ∃ (a : Nat) (z : Int) (B T : List Int), a ≤ L.length ∧ i = .int .i64 z ∧ z = (a : Int) - 1 ∧ wr.ownsRow w.heap.size 3 1 (.slice (some ⟨w.heap.size + 1, 0, none⟩) (L.length + 1) (L.length + 1)) (L.length + 1) (intsZ B) ∧ wr.ownsRow w.heap.size 3 1 (.slice (some ⟨w1.heap.size, 0, none⟩) (L.length + 1) (L.length + 1)) (L.length + 1) (intsZ T) ∧ wr.ownsRow w.heap.size 3 1 (.slice (some ⟨w.heap.size, 0, none⟩) 0 0) 0 [] ∧ Below w.heap.size w wr ∧ BackOk n (szW L) a B T) (fun i _ _ _ _ => (intOf i + 1).toNat)
    case atStart => exact ⟨L.length, _, _, _, Nat.le_refl _, rfl, rfl, HP3.out, HO2.out, HL2.out, HB2.out, HST.out⟩
    case round =>
      obtain ⟨a, z, B, T, ha, rfl, hz, hob, hot, hoo, hb, hok⟩ := hrel
      have HB := Lib.hid hb; have HOT := Lib.hid hot; have HOO := Lib.hid hoo; have HOB := Lib.hid hob; have HOK := Lib.hid hok
      clear hb hot hoo hob hok
      by_cases ha0 : a = 0
      · subst ha0
        have hg : ¬ (0 : Int) ≤ z := by omega
        have HOK0 := Lib.hid HOK.out.2.2
        clear hz HOB HOK
        go_wp2_with fail
        go_loopw [5, 13] (fun a i wx => ∃ (p : Nat) (ls : List Nat), p ≤ L.length ∧ ls.length ≤ p ∧ i = .int .i64 (p : Int) ∧ wx.ownsRow w.heap.size 3 1 a ls.length (ints ls) ∧ a.ownBlock ≠ some w1.heap.size ∧ w1.heap.size < wx.heap.size ∧ wx.ownsRow w.heap.size 3 1 (.slice (some ⟨w1.heap.size, 0, none⟩) (L.length + 1) (L.length + 1)) (L.length + 1) (intsZ T) ∧ Below w.heap.size w wx ∧ bestL n (szW L) = ls ++ bestL n ((szW L).drop p)) (fun _ i _ => L.length - (intOf i).toNat)
        case atStart => exact ⟨0, [], Nat.zero_le _, Nat.le_refl _, rfl, HOO.out, by simp [Value.ownBlock]; omega, (HOT.out.lt _ rfl).2, HOT.out, HB.out, rfl⟩
        case round =>
          clear HOT HOO HB
          obtain ⟨p, ls, hp, hlp, rfl, hown, hne, hlt1, hot, hb, he⟩ := hrel
          obtain ⟨aa, ac, rfl⟩ := own_shape hown
          have HOW := Lib.hid hown; have HB := Lib.hid hb; have HE := Lib.hid he; have HOT := Lib.hid hot; have HNB := Lib.hid hne; have HLT := Lib.hid hlt1
          clear hown hb he hot hne hlt1
          by_cases hlt : p < L.length
          · obtain ⟨t, t1, t2, t3, t4⟩ := (HOK0.out p (by omega) (by rw [HSL.out]; omega)).2 (by rw [HSL.out]; exact hlt)
            rw [HSL.out] at t2
            have dt : wr.cell? ⟨w1.heap.size, p, none⟩ = some (.int .i64 (t : Int)) := by
              rw [HOT.out.cellAt p (by omega), intsZ, List.getElem?_map, t3]; rfl
            have HNE := Lib.hid (show bestL n (szW L) = (ls ++ [t]) ++ bestL n ((szW L).drop (p + t)) by rw [HE.out, t4, List.append_assoc]; rfl)
            have HT3 := Lib.hid t3
            clear t3 t4 HE
            go_wp2_with (at_builtin; refine wpList_append_lies _ rfl _ _ 33 rfl w.heap.size 3 i0 (.int .i64 0) 1 8 Tryd.underlying33 hi hz0 hz1 hz2 rfl (by decide) (.slice aa ls.length ac) ls.length _ rfl (HOW.out.alloc _) ⟨wr.heap.size, 0, none⟩ 1 1 [.int .i64 (t : Int)] rfl rfl (World.news_of_block (cs := #[.int .i64 (t : Int)]) (t := 3) (fr := (0, 0)) (heap_alloc_new wr _)) (by simp [Value.oneCell']) (by omega) (by unfold maxLen; omega) (by omega) (by simp; exact Nat.le_succ_of_le HB.out.size) (wr.heap.size + 1) (by simp) ?_; intro gg cap' w2' hown' hgrow hat hlt2; have HB2 := Lib.hid ((HB.out.alloc HB.out.size _).grown hgrow (by have := HB.out.size; simp; omega) (fun q hq => (HOW.out.lt q hq).1)); have HO2' := Lib.hid hown'; have HOT2 := Lib.hid ((HOT.out.alloc _).kept hgrow (.inr (fun e => HNB.out e.symm))); have HNB2 := Lib.hid (show gg ≠ w1.heap.size from fun e => hat.elim (fun h => HNB.out (h.trans (congrArg some e))) (fun h => by have := HLT.out; omega)); have dt2 : w2'.cell? ⟨w1.heap.size, p, none⟩ = some (.int .i64 (t : Int)) := (by rw [HOT2.out.cellAt p (by omega), intsZ, List.getElem?_map, HT3.out]; rfl); have HS2 := Lib.hid (show w1.heap.size < w2'.heap.size by have h1 := hgrow.size; have h2 := HLT.out; simp at h1; omega); clear hown' hgrow hat hlt2)
            go_roundw
            case rel => exact ⟨p + t, ls ++ [t], by omega, by rw [List.length_append]; simp; omega, by go_num, by rw [List.length_append, ints_snoc]; exact HO2'.out, by intro e; simp only [Value.ownBlock, Option.some.injEq] at e; exact HNB2.out e, HS2.out, HOT2.out, HB2.out, HNE.out⟩
            case measure => simp [intOf]; omega
          · have hpl : p = L.length := by omega
            have HG := Lib.hid (show bestL n (szW L) = ls by rw [HE.out, List.drop_eq_nil_of_le (by rw [szW_len]; omega), (best_nil n).1, List.append_nil])
            clear hpl
            go_wp2
            go_ret
            exact ⟨_, rfl, by rw [HD.out, HG.out]; exact HOW.out, HB.out⟩
      · obtain ⟨p, rfl⟩ : ∃ p, a = p + 1 := ⟨a - 1, by omega⟩
        obtain rfl : z = (p : Int) := by omega
        clear hz
        have hp : p < L.length := by omega
        obtain ⟨ob, hobp⟩ : ∃ u, (intsZ B)[p]? = some u := ⟨_, List.getElem?_eq_getElem (by rw [intsZ_length, HOK.out.1, HSL.out]; omega)⟩
        have d0 := (HOB.out.cellAt p (by omega)).trans hobp
        have f0 := HOB.out.frozenAt p
        have S1 := HOB.out.stored p (.int .i64 (-1))
        rw [intsZ_set] at S1
        have HOB1 := Lib.hid S1.1
        have HOT1 := Lib.hid (HOT.out.kept S1.2 (.inr (by simp [Value.ownBlock]; omega)))
        have HOO1 := Lib.hid (HOO.out.kept S1.2 (.inr (by simp [Value.ownBlock])))
        have HB1 := Lib.hid (HB.out.setCell (p := ⟨w.heap.size + 1, p, none⟩) (by simp) (.int .i64 (-1)))
        have HFI := Lib.hid (back_first HOK.out (by rw [HSL.out]; exact hp))
        clear S1 hobp ha0
        have hfl : fuA n ((szW L).drop p) ≤ L.length - p := by have := fu_le n ((szW L).drop p); rwa [List.length_drop, szW_len] at this
        have HDN := Lib.hid (fun m B T (h1 : BackOk n (szW L) (p + 1) B T) h2 => back_done (m := m) HFS.out h1 h2 (by rw [HSL.out]; exact hp))
        obtain ⟨f, hf⟩ : ∃ f, f = fuA n ((szW L).drop p) := ⟨_, rfl⟩
        rw [← hf] at hfl HDN
        have HF := Lib.hid hf
        clear hf
        go_wp2_with fail
        go_loopw [10, 11, 12] (fun i _ _ wx => ∃ (m : Nat) (B T : List Int), 1 ≤ m ∧ m ≤ f + 1 ∧ i = .int .i64 (m : Int) ∧ wx.ownsRow w.heap.size 3 1 (.slice (some ⟨w.heap.size + 1, 0, none⟩) (L.length + 1) (L.length + 1)) (L.length + 1) (intsZ B) ∧ wx.ownsRow w.heap.size 3 1 (.slice (some ⟨w1.heap.size, 0, none⟩) (L.length + 1) (L.length + 1)) (L.length + 1) (intsZ T) ∧ wx.ownsRow w.heap.size 3 1 (.slice (some ⟨w.heap.size, 0, none⟩) 0 0) 0 [] ∧ Below w.heap.size w wx ∧ BackOk n (szW L) (p + 1) B T ∧ BackTry n (szW L) p m B T) (fun i _ _ _ => f + 1 - (intOf i).toNat)
        case atStart => exact ⟨1, _, _, Nat.le_refl _, by omega, rfl, HOB1.out, HOT1.out, HOO1.out, HB1.out, HFI.out.1, HFI.out.2⟩
        case round =>
          clear HOB HOT HOO HB HOK HOB1 HOT1 HOO1 HB1 HFI d0 f0 B T
          obtain ⟨m, B, T, hm1, hmf, rfl, hob, hot, hoo, hb, hok, htr⟩ := hrel
          have HB := Lib.hid hb; have HOT := Lib.hid hot; have HOO := Lib.hid hoo; have HOB := Lib.hid hob; have HOK := Lib.hid hok; have HTR := Lib.hid htr
          clear hb hot hoo hob hok htr
          by_cases hml : p + m ≤ L.length
          · have HLE := Lib.hid (l15Length_any _ L p m wr (HR.out.mono HB.out) HZ.out hl hml)
            rw [show ((p + m : Nat) : Int) = (p : Int) + m by omega] at HLE
            have hsl := slen_le (L := L.drop p) (k := m) (fun s hs => HZ.out s (List.mem_of_mem_drop hs))
            have hs0 := slen_pos (S := (szW L).drop p) (m := m) (by omega)
            rw [szW_drop] at hsl
            have HFU := Lib.hid (show m ≤ f ↔ slen ((szW L).drop p) m ≤ n by
              rw [HF.out, fu_iff, List.length_drop, HSL.out]
              constructor
              · rintro ⟨h1, h2⟩; exact h2.resolve_left (by omega)
              · intro h; exact ⟨by omega, .inr h⟩)
            have HLC := Lib.hid (show lineC n ((szW L).drop p) m = if m = L.length - p then 0 else ((n : Int) - slen ((szW L).drop p) m).toNat * ((n : Int) - slen ((szW L).drop p) m).toNat by unfold lineC; rw [List.length_drop, szW_len])
            generalize slen ((szW L).drop p) m = y at HLE hsl hs0 HFU HLC
            by_cases hy : y ≤ n
            · have hmf2 := HFU.out.mpr hy
              have hC1 := bestC_le (HFS.out.drop (p + m)) hn40
              rw [List.length_drop, HSL.out] at hC1
              obtain ⟨C, hC⟩ : ∃ C : Int, C = (bestC n ((szW L).drop (p + m)) : Int) := ⟨_, rfl⟩
              have hC0 : 0 ≤ C := by omega
              have hC2 : C ≤ 32000 := by omega
              have dm : wr.cell? ⟨w.heap.size + 1, p + m, none⟩ = some (.int .i64 C) := by
                rw [HOB.out.cellAt (p + m) (by omega), intsZ, List.getElem?_map, (HOK.out.2.2 (p + m) (by omega) (by rw [HSL.out]; exact hml)).1, hC]; rfl
              obtain ⟨z, hz, hz1, hz2⟩ := back_val HFS.out hn40 (by rw [HSL.out]; exact hl) HTR.out
              have dz : wr.cell? ⟨w.heap.size + 1, p, none⟩ = some (.int .i64 z) := by
                rw [HOB.out.cellAt p (by omega), intsZ, List.getElem?_map, hz]; rfl
              have fz := HOB.out.frozenAt p
              obtain ⟨ot, hott⟩ : ∃ u, (intsZ T)[p]? = some u := ⟨_, List.getElem?_eq_getElem (by rw [intsZ_length, HOK.out.2.1, HSL.out]; omega)⟩
              have dt := (HOT.out.cellAt p (by omega)).trans hott
              have ft := HOT.out.frozenAt p
              obtain ⟨d, hd⟩ := Int.eq_ofNat_of_zero_le (show 0 ≤ (n : Int) - y by omega)
              have hd40 : d ≤ 40 := by omega
              have hdd : d * d ≤ 1600 := Nat.mul_le_mul hd40 hd40
              rw [hd, Int.toNat_natCast] at HLC
              have HZV := Lib.hid hz; have HCV := Lib.hid hC
              clear hz hC hott hC1
              by_cases hq : p + m < L.length
              case' pos =>
                have hwr : IntKind.i64.wrap (((n : Int) - y) * ((n : Int) - y)) = ((d * d : Nat) : Int) := by rw [hd, ← Int.natCast_mul, IntWalk.i64_in _ (by omega)]
                obtain ⟨cst, hcst⟩ : ∃ cst : Int, C + ((d * d : Nat) : Int) = cst := ⟨_, rfl⟩
                have HCS := Lib.hid (show C + (d : Int) * (d : Int) = cst by rw [← hcst, Int.natCast_mul])
                have hcb : 0 ≤ cst ∧ cst ≤ 40000 := by omega
                have HK := Lib.hid (show cst = ((lineC n ((szW L).drop p) m + bestC n ((szW L).drop (p + m)) : Nat) : Int) by
                  rw [← hcst, HLC.out, if_neg (by omega), HCV.out]; omega)
              case' neg =>
                obtain ⟨cst, rfl⟩ : ∃ cst : Int, cst = C := ⟨_, rfl⟩
                have hcb : 0 ≤ cst ∧ cst ≤ 40000 := by omega
                have HK := Lib.hid (show cst = ((lineC n ((szW L).drop p) m + bestC n ((szW L).drop (p + m)) : Nat) : Int) by
                  rw [HCV.out, HLC.out, if_pos (by omega)]; omega)
              all_goals
                by_cases hz0 : z < 0
                case' pos =>
                  have HPUT := Lib.hid (back_put HOK.out HTR.out (by rw [HSL.out]; exact hp) hm1 (fun z' h => by rw [HZV.out] at h; injection h with h; exact .inl (by omega)))
                case' neg =>
                  by_cases hcz : cst ≤ z
                  case' pos =>
                    have HPUT := Lib.hid (back_put HOK.out HTR.out (by rw [HSL.out]; exact hp) hm1 (fun z' h => by rw [HZV.out] at h; injection h with h; exact .inr (by rw [← HK.out]; omega)))
                  case' neg =>
                    have HSKIP := Lib.hid (back_skip HTR.out HZV.out hz0 (by rw [← HK.out]; exact hcz))
                    go_wp2_with fail
                    refine HLE.out.mono ?_
                    rintro e w' ⟨rfl, rfl⟩
                    go_wp2_with fail
                    refine HLE.out.mono ?_
                    rintro e w' ⟨rfl, rfl⟩
                    go_wp2
                    go_roundw
                    case rel => exact ⟨m + 1, B, T, by omega, by omega, by go_num, HOB.out, HOT.out, HOO.out, HB.out, HOK.out, HSKIP.out⟩
                    case measure => simp [intOf]; omega
              all_goals
                have HST := Lib.hid (back_store (p := p) (b := cst) (m := (m : Int)) (by omega) (by omega) (by omega) HOB.out HOT.out HOO.out (by simp [Value.ownBlock]) (by simp [Value.ownBlock]; omega) HB.out)
                rw [← HK.out] at HPUT
                go_wp2_with fail
                refine HLE.out.mono ?_
                rintro e w' ⟨rfl, rfl⟩
                go_wp2_with fail
                refine HLE.out.mono ?_
                rintro e w' ⟨rfl, rfl⟩
                go_wp2
                go_roundw
                case rel => (first | rw [HCS.out] | skip); exact ⟨m + 1, _, _, by omega, by omega, by go_num, HST.out.1, HST.out.2.1, HST.out.2.2.1, HST.out.2.2.2, HPUT.out.1, HPUT.out.2⟩
                case measure => simp [intOf]; omega
            · have hme : m = f + 1 := by
                by_cases h' : m ≤ f
                · exact absurd (HFU.out.mp h') hy
                · omega
              have HFIN := Lib.hid (HDN.out m B T HOK.out HTR.out hme)
              clear hme
              go_wp2_with fail
              refine HLE.out.mono ?_
              rintro e w' ⟨rfl, rfl⟩
              go_wp2
              go_roundw
              case rel => exact ⟨p, _, B, T, by omega, rfl, by go_num, HOB.out, HOT.out, HOO.out, HB.out, HFIN.out⟩
              case measure => simp [intOf]
          · have hme : m = f + 1 := by omega
            have HFIN := Lib.hid (HDN.out m B T HOK.out HTR.out hme)
            clear hme
            go_wp2
            go_roundw
            case rel => exact ⟨p, _, B, T, by omega, rfl, by go_num, HOB.out, HOT.out, HOO.out, HB.out, HFIN.out⟩
            case measure => simp [intOf]

end Go.Proofs.YtbddokfcohnndabDoor
