/-
  impl's exprTree, ExprValid, ExprDepth, by their contracts.
-/
import Derived.Test.YtfmjbmhgceebaaaGreatDoorGrow
import Derived.Test.YtfmjbmhgceebaaaGreatDoorDepth
import Derived.Test.YtfmjbmhgceebaaaGreatDoorCellI
namespace Go.Proofs.YtfmjbmhgceebaaaGreatDoor
open Go.RowKit
set_option linter.unusedVariables false

theorem okE_len {l : List Cl} (h : ¬ l.length ≤ 60) : okE l = false := by
  rw [Bool.eq_false_iff]; intro h'; exact h ((okE_iff l).mp h').1
theorem okE_cell {l : List Cl} (h : ¬ l.all okC = true) : okE l = false := by
  rw [Bool.eq_false_iff]; intro h'; exact h ((okE_iff l).mp h').2.1
theorem okE_of {l : List Cl} {t d : Nat} (hx : Exs (amL l) 1 0 t d) (h60 : l.length ≤ 60) (hok : l.all okC = true) : okE l = true ↔ t = l.length ∧ d ≤ 12 := by
  rw [okE_iff]
  constructor
  · rintro ⟨-, -, d', hd, hx'⟩
    obtain ⟨rfl, rfl⟩ := hx.uniq hx'
    exact ⟨rfl, hd⟩
  · rintro ⟨rfl, hd⟩
    exact ⟨h60, hok, d, hd, hx⟩
theorem okE_none {l : List Cl} (h : ¬ ∃ t d, Exs (amL l) 1 0 t d) : okE l = false := by
  rw [Bool.eq_false_iff]; intro h'
  obtain ⟨-, -, d, -, hx⟩ := (okE_iff l).mp h'
  exact h ⟨_, d, hx⟩

/-- What exprTree leaves. -/
def Tree (l : List Cl) (w : World) (e : Ending) (w' : World) : Prop :=
  Below w.heap.size w w' ∧ ((∃ N d, e = .returned (.pointer (some ⟨N, 0, none⟩)) ∧ okE l = true ∧ d ≤ 12 ∧ TrS w' (amL l) (fun b => w.heap.size ≤ b ∧ b < w'.heap.size) [N] 0 l.length d) ∨ (e = .returned (.pointer none) ∧ okE l = false))

theorem all_take {l : List Cl} {k : Nat} (h : k < l.length) : (l.take (k + 1)).all okC = ((l.take k).all okC && okC l[k]) := by
  rw [List.take_succ_eq_append_getElem h, List.all_append]; simp

set_option maxRecDepth 100000 in
set_option maxHeartbeats 4000000 in
theorem exprTree_any (v : Value) (l : List Cl) (w : World) (hr : RowC w v l) (hz : SizedC l) (htab : Tab w) :
    Calls Tryz.prog 33 #[v] w (Tree l w) := by
  have HR := Lib.hid hr
  obtain ⟨ao, cap, rfl, h1, h2, h3⟩ := hr
  unfold maxLen at h2
  have H3 := Lib.hid h3; have HZ := Lib.hid hz; clear h3 hz
  by_cases h60 : l.length ≤ 60
  · go_enter Tryz.func33, Tryz.ntmps33
    go_wp2
    go_loopw [11] (fun i wr => ∃ k : Nat, k ≤ l.length ∧ i = .int .i64 (k : Int) ∧ (l.take k).all okC = true ∧ Below w.heap.size w wr) (fun i _ => l.length - (intOf i).toNat)
    case atStart => exact ⟨0, Nat.zero_le _, rfl, rfl, Below.refl _ _⟩
    case round =>
      obtain ⟨k, hk, rfl, hok, hb⟩ := hrel
      have HOK := Lib.hid hok; have HB := Lib.hid hb; clear hok hb
      by_cases hlt : k < l.length
      · obtain ⟨b, o, rfl, hbl, cc⟩ := H3.out.resolve_left (by rintro rfl; simp at hlt)
        obtain ⟨c0, c1, c2⟩ := cc k hlt
        have d0 : wr.cell? ⟨b, o + k * 3, none⟩ = some (.int .i64 l[k].1) := (HB.out.cell (p := ⟨b, _, none⟩) hbl).trans c0
        have d1 : wr.cell? ⟨b, o + k * 3 + 1, none⟩ = some (.string l[k].2.1) := (HB.out.cell (p := ⟨b, _, none⟩) hbl).trans c1
        have d2 : wr.cell? ⟨b, o + k * 3 + 2, none⟩ = some (.int .i64 l[k].2.2) := (HB.out.cell (p := ⟨b, _, none⟩) hbl).trans c2
        have hzk : l[k].2.1.size ≤ maxLen := HZ.out _ (List.getElem_mem _)
        have HT := Lib.hid (all_take hlt)
        have HC := Lib.hid (show okC l[k] = cellB l[k].1 l[k].2.1 l[k].2.2 from rfl)
        generalize l[k].1 = kk at d0 HC
        generalize l[k].2.1 = ss at d1 HC hzk
        generalize l[k].2.2 = mm at d2 HC
        have HZK := Lib.hid hzk
        clear cc c0 c1 c2 hzk
        go_wp2_with fail
        refine (cellValid_impl kk mm ss _ HZK.out ((htab.keep HB.out).al _)).mono ?_
        rintro e w1 ⟨rfl, hb1⟩
        have HB1 := Lib.hid ((HB.out.alloc HB.out.size _).trans (hb1.mono (by have := HB.out.size; simp; omega))); clear hb1
        cases hcb : cellB kk ss mm with
        | true =>
          have HN := Lib.hid (show (l.take (k + 1)).all okC = true by rw [HT.out, HOK.out, HC.out, hcb]; rfl)
          clear hcb
          go_wp2
          go_roundw
          case rel => exact ⟨k + 1, by omega, by go_num, HN.out, HB1.out⟩
          case measure => simp [intOf]; omega
        | false =>
          have HN := Lib.hid (okE_cell (l := l) (fun h => by
            have := okC_all h k hlt
            rw [HC.out, hcb] at this; cases this))
          clear hcb
          go_wp2
          go_ret
          exact ⟨HB1.out, .inr ⟨rfl, HN.out⟩⟩
      · obtain rfl : k = l.length := by omega
        have HAL := Lib.hid (show l.all okC = true by have := HOK.out; rwa [List.take_of_length_le (Nat.le_refl _)] at this)
        go_wp2_with fail
        refine (grow_any _ l h60 HAL.out l.length 0 _ (Nat.zero_le _) (by omega) (HR.out.mono HB.out)).mono ?_
        rintro e w1 ⟨hb1, ⟨N, t, d, rfl, ht⟩ | ⟨rfl, hno⟩⟩
        · have HB1 := Lib.hid (HB.out.trans (hb1.mono HB.out.size))
          have HX := Lib.hid (okE_of ht.exs h60 HAL.out)
          obtain ⟨m1, e1, v1, qs1, -, -, hN1, -⟩ := ht.inv
          have d1 : w1.cell? ⟨N, 1, none⟩ = some (.int .i64 (t : Int)) := hN1.cell 1
          have HT := Lib.hid ht
          have HTK := Lib.hid (ht.keep (S' := fun b => w.heap.size ≤ b ∧ b < w1.heap.size) (fun _ _ _ => rfl) (fun b hb _ => ⟨by have := HB.out.size; omega, hb.2⟩))
          have hdep := ht.exs.dep
          have hle := ht.exs.le.2 (by simp)
          rw [amL_length] at hle
          clear hb1 ht hN1
          have ham : (amL l).length ≤ 60 := by rw [amL_length]; exact h60
          by_cases htl : t = l.length
          · subst htl
            by_cases hd : d ≤ 12
            · have HK := Lib.hid (HX.out.mpr ⟨rfl, hd⟩)
              have hd' : decide (12 < d) = false := decide_eq_false (by omega)
              go_wp2_with fail
              refine (depth_any (amL l) ham _ _ l.length N 0 l.length d HT.out (by omega)).mono ?_
              rintro e w' ⟨rfl, rfl⟩
              go_wp2
              go_ret
              exact ⟨HB1.out, .inl ⟨N, d, rfl, HK.out, hd, HTK.out⟩⟩
            · have HK := Lib.hid (show okE l = false by rw [Bool.eq_false_iff]; exact fun h => hd (HX.out.mp h).2)
              go_wp2_with fail
              refine (depth_any (amL l) ham _ _ l.length N 0 l.length d HT.out (by omega)).mono ?_
              rintro e w' ⟨rfl, rfl⟩
              go_wp2
              go_ret
              exact ⟨HB1.out, .inr ⟨rfl, HK.out⟩⟩
          · have HK := Lib.hid (show okE l = false by rw [Bool.eq_false_iff]; exact fun h => htl (HX.out.mp h).1)
            have hne : ((t : Int) != (l.length : Int)) = true := bne_iff_ne.mpr (by omega)
            go_wp2
            go_ret
            exact ⟨HB1.out, .inr ⟨rfl, HK.out⟩⟩
        · have HK := Lib.hid (okE_none hno)
          have HB1 := Lib.hid (HB.out.trans (hb1.mono HB.out.size))
          clear hno hb1
          go_wp2
          go_ret
          exact ⟨HB1.out, .inr ⟨rfl, HK.out⟩⟩
  · have HN := Lib.hid (okE_len h60)
    go_enter Tryz.func33, Tryz.ntmps33
    go_wp2
    go_ret
    exact ⟨Below.refl _ _, .inr ⟨rfl, HN.out⟩⟩

set_option maxRecDepth 100000 in
set_option maxHeartbeats 4000000 in
theorem exprValid_impl (v : Value) (l : List Cl) (w : World) (hr : RowC w v l) (hz : SizedC l) (htab : Tab w) :
    Calls Tryz.prog 22 #[v] w fun e w' => e = .returned (.bool (okE l)) ∧ Below w.heap.size w w' := by
  have HC := Lib.hid (exprTree_any v l w hr hz htab)
  obtain ⟨ao, cap, rfl, h1, h2, h3⟩ := hr
  unfold maxLen at h2
  clear h3 hz
  go_enter Tryz.func22, Tryz.ntmps22
  go_wp2_with fail
  refine HC.out.mono ?_
  rintro e w1 ⟨hb1, ⟨N, d, rfl, hok, hd, ht⟩ | ⟨rfl, hno⟩⟩
  · have HOK := Lib.hid hok; have HB := Lib.hid hb1
    clear hok hb1 ht
    go_wp2
    go_ret
    exact ⟨ret_b HOK.out.symm, HB.out⟩
  · have HOK := Lib.hid hno; have HB := Lib.hid hb1
    clear hno hb1
    go_wp2
    go_ret
    exact ⟨ret_b HOK.out.symm, HB.out⟩

/-- The depth that is answered. -/
noncomputable def depI (l : List Cl) : Int := if okE l = true then (depE (amL l) 0 : Int) else -1

set_option maxRecDepth 100000 in
set_option maxHeartbeats 4000000 in
theorem exprDepth_impl (v : Value) (l : List Cl) (w : World) (hr : RowC w v l) (hz : SizedC l) (htab : Tab w) :
    Calls Tryz.prog 26 #[v] w fun e w' => e = .returned (.int .i64 (depI l)) ∧ Below w.heap.size w w' := by
  have HC := Lib.hid (exprTree_any v l w hr hz htab)
  obtain ⟨ao, cap, rfl, h1, h2, h3⟩ := hr
  unfold maxLen at h2
  clear h3 hz
  go_enter Tryz.func26, Tryz.ntmps26
  go_wp2_with fail
  refine HC.out.mono ?_
  rintro e w1 ⟨hb1, ⟨N, d, rfl, hok, hd, ht⟩ | ⟨rfl, hno⟩⟩
  · have HD := Lib.hid (show depI l = (d : Int) by rw [depI, if_pos hok, ht.exs.depE])
    have h60 := ((okE_iff l).mp hok).1
    have HB := Lib.hid hb1; have HT := Lib.hid ht
    clear hok hb1 ht
    go_wp2_with fail
    refine (depth_any (amL l) (by rw [amL_length]; exact h60) _ _ l.length N 0 l.length d HT.out (by omega)).mono ?_
    rintro e w' ⟨rfl, rfl⟩
    go_wp2
    go_ret
    exact ⟨ret_i HD.out.symm, HB.out⟩
  · have HD := Lib.hid (show depI l = -1 by rw [depI, hno]; rfl)
    have HB := Lib.hid hb1
    clear hno hb1
    go_wp2
    go_ret
    exact ⟨ret_i HD.out.symm, HB.out⟩

end Go.Proofs.YtfmjbmhgceebaaaGreatDoor
