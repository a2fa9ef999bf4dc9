/-
  spec.TidyItems, by its contract.
-/
import Derived.Test.YtbmobgahokehmaaGreatDoorDocS
import Derived.Test.YtbmobgahokehmaaGreatDoorTidyTree
import Derived.Test.YtbmobgahokehmaaGreatDoorPushI
namespace Go.Proofs.YtbmobgahokehmaaGreatDoor
open Go.RowKit
set_option linter.unusedVariables false

theorem own_pre4 {w : World} {base g n p c : Nat} {e : TypeId} {xs : List Value} (h : w.ownsRow base e 4 (.slice (some ⟨g, 0, none⟩) n c) n xs) (hp : p ≤ n) : w.ownsRow base e 4 (.slice (some ⟨g, 0, none⟩) p c) p (xs.take (p * 4)) := by
  obtain ⟨h1, h2⟩ := h
  rcases h2 with ⟨h2, -⟩ | ⟨g', c', cur, h2, h3, h4, h5, h6, h7, h8⟩
  · cases h2
  · injection h2 with e1 e2 e3
    injection e1 with e1; injection e1 with e1
    subst e1; subst e3
    refine ⟨by rw [List.length_take]; omega, .inr ⟨g, c, cur, rfl, h3, h4, by omega, h6, h7, ?_⟩⟩
    rw [← h8, List.take_take]
    congr 1
    omega
theorem snoc_of {α : Type} {l : List α} {M : Nat} (h : l.length = M + 1) : ∃ x, l = l.dropLast ++ [x] := by
  have hne : l ≠ [] := by intro e; rw [e] at h; simp at h
  exact ⟨l.getLast hne, (List.dropLast_concat_getLast hne).symm⟩
theorem OwnI.pre {w : World} {base g c M n : Nat} {us : List Value} {O : List It} (h : OwnI w base (.slice (some ⟨g, 0, none⟩) n c) us O) (hn : n = O.length) (hM : O.length = M + 1) : OwnI w base (.slice (some ⟨g, 0, none⟩) M c) us.dropLast O.dropLast := by
  subst hn
  have hl := h.len
  obtain ⟨x, hx⟩ := snoc_of hM
  obtain ⟨u, hu⟩ := snoc_of (hl.trans hM)
  have hd1 : O.dropLast.length = M := by rw [List.length_dropLast]; omega
  have hd2 : us.dropLast.length = M := by rw [List.length_dropLast]; omega
  refine ⟨?_, by omega, ?_, ?_, ?_⟩
  · have e : (itF O us).take (M * 4) = itF O.dropLast us.dropLast := by
      conv => lhs; rw [hx, hu, itF_append _ _ _ _ (by omega)]
      exact List.take_left' (by rw [itF_length _ _ (by omega)]; omega)
    rw [hd1, ← e]
    exact own_pre4 h.row (by omega)
  · intro k hk hk'
    have := h.each k (by omega) (by omega)
    rw [List.getElem_dropLast, List.getElem_dropLast]
    exact this
  · intro k hk b hb
    rw [List.getElem_dropLast] at hb
    exact h.far k (by omega) b hb
  · intro i j hi hj b h1 h2
    rw [List.getElem_dropLast] at h1 h2
    exact h.apart i j (by omega) (by omega) b h1 h2
theorem ownX {w : World} {base n m c : Nat} {a : Option Addr} {us : List Value} {O : List It} (h : OwnI w base (.slice a n c) us O) (hn : n = m) : OwnI w base (.slice a m c) us O := by subst hn; exact h
theorem OwnI.rowX {w : World} {base n c : Nat} {a : Option Addr} {us : List Value} {O : List It} (h : OwnI w base (.slice a n c) us O) (hn : O.length = n) : w.ownsRow base 25 4 (.slice a n c) n (itF O us) := by subst hn; exact h.row
theorem OwnI.pushX {wr w1 w2 : World} {base gg c n ac : Nat} {aa : Option Addr} {u : Value} {us : List Value} {env : List It} {i : It} (h : OwnI wr base (.slice aa n ac) us env) (hn : env.length = n) (hbase : base ≤ wr.heap.size) (hb1 : Below wr.heap.size wr w1) (hu : w1.ownsRow wr.heap.size 82 3 u i.2.2.1.length (flatC i.2.2.1))
    (o : Obj) (hgrow : (w1.alloc o).grownBy w2 (Value.slice aa n ac).ownBlock) (hrow : w2.ownsRow base 25 4 (.slice (some ⟨gg, 0, none⟩) (n + 1) c) (n + 1) (itF env us ++ [.int .i64 i.1, .string i.2.1, u, .string i.2.2.2])) (hat : (Value.slice aa n ac).ownBlock = some gg ∨ gg = w1.heap.size + 1) :
    OwnI w2 base (.slice (some ⟨gg, 0, none⟩) (n + 1) c) (us ++ [u]) (env ++ [i]) ∧ Below base wr w2 := by
  subst hn
  exact h.push hbase hb1 hu o hgrow hrow hat
theorem last_cell {w : World} {base n c M : Nat} {aa : Option Addr} {us : List Value} {O : List It} (h : OwnI w base (.slice aa n c) us O) (hn : O.length = n) (hM : n = M + 1) : ∃ g, aa = some ⟨g, 0, none⟩ ∧ w.cell? ⟨g, M * 4, none⟩ = some (.int .i64 (lastK O)) := by
  subst hn
  obtain ⟨g, rfl⟩ : ∃ g, aa = some ⟨g, 0, none⟩ := by
    rcases h.row.2 with ⟨h1, h2⟩ | ⟨g, cap, cur, h1, _⟩
    · omega
    · injection h1 with h1 _ _; exact ⟨g, h1⟩
  refine ⟨g, rfl, ?_⟩
  rw [h.row.cellAt _ (by omega)]
  have hl := h.len
  rw [(itF_at O us hl.symm M (by omega) (by omega)).1, lastK_at (by omega)]
  congr 3
  congr 1
  omega
theorem fold_take {l : List It} {k : Nat} (h : k < l.length) : (l.take (k + 1)).foldl tidyS [] = tidyS ((l.take k).foldl tidyS []) l[k] := by
  rw [List.take_succ_eq_append_getElem h, List.foldl_append]; rfl

/-- The copy of an item. -/
def CopyOK : Prop := ∀ (u : Value) (k : Int) (nm t : ByteArray) (l : List Cl) (w : World), RowC w u l → l.length ≤ 1048576 →
    Calls Tryz.prog 53 #[.agg #[.int .i64 k, .string nm, u, .string t]] w fun e w' => ∃ u', e = .returned (.agg #[.int .i64 k, .string nm, u', .string t]) ∧ w'.ownsRow w.heap.size 82 3 u' l.length (flatC l) ∧ Below w.heap.size w w'

set_option maxRecDepth 100000 in
set_option maxHeartbeats 8000000 in
theorem tidyItems_spec (hcopy : CopyOK) (v : Value) (l : List It) (w : World) (hr : RowIt w v l) (hz : ShortI l) (hl : l.length ≤ 1048576) :
    Calls Tryz.prog 25 #[v] w (NewI (tidyD l) w) := by
  obtain ⟨i0, hi, hz0, hz1, hz2⟩ := info_parts infoIt
  have HBA := Lib.hid ((Below.refl w.heap.size w).alloc (Nat.le_refl _) (.cells #[] 25))
  have HC := Lib.hid (documentValid_spec v l _ (hr.mono HBA.out) hz hl)
  have HLI := Lib.hid (lit_I w)
  have HR := Lib.hid hr; have HCO := Lib.hid hcopy
  obtain ⟨ao, cap, rfl, h1, h2, h3⟩ := hr
  unfold maxLen at h2
  have H3 := Lib.hid h3; have HZ := Lib.hid hz
  clear h3 hz hcopy
  cases hok : docB l with
  | false =>
    have HD := Lib.hid (show tidyD l = [] by unfold tidyD; rw [if_neg (by rw [hok]; simp)])
    rw [HD.out]
    go_enter Tryz.func25, Tryz.ntmps25
    go_wp2_with fail
    refine HC.out.mono ?_
    rintro e w1 ⟨rfl, hb1⟩
    rw [hok]
    have HO1 := Lib.hid (HLI.out.below hb1); have HB1 := Lib.hid (HBA.out.trans (hb1.mono HBA.out.size))
    clear hb1
    go_wp2
    go_ret
    exact ⟨_, [], rfl, HO1.out, HB1.out⟩
  | true =>
    have h30 := ((docB_iff l).mp hok).1
    have HD := Lib.hid (show tidyD l = tidyL l by unfold tidyD; rw [if_pos hok])
    rw [HD.out]
    go_enter Tryz.func25, Tryz.ntmps25
    go_wp2_with fail
    refine HC.out.mono ?_
    rintro e w1 ⟨rfl, hb1⟩
    rw [hok]
    have HO1 := Lib.hid (HLI.out.below hb1); have HB1 := Lib.hid (HBA.out.trans (hb1.mono HBA.out.size))
    clear hb1
    go_wp2_with fail
    go_loopw [3, 4, 5] (fun t i _ wr => ∃ (k : Nat) (us : List Value), k ≤ l.length ∧ i = .int .i64 (k : Int) ∧ OwnI wr w.heap.size t us ((l.take k).foldl tidyS []) ∧ Below w.heap.size w wr) (fun _ i _ _ => l.length - (intOf i).toNat)
    case atStart => exact ⟨0, [], Nat.zero_le _, rfl, HO1.out, HB1.out⟩
    case round =>
      obtain ⟨k, us, hk, rfl, hown, hbw⟩ := hrel
      by_cases hlt : k < l.length
      · obtain ⟨b, o, rfl, hbl, cc⟩ := H3.out.resolve_left (by rintro rfl; simp at hlt)
        obtain ⟨u, hu⟩ := cc k hlt
        obtain ⟨d0, d1, d2, d3, hru⟩ := hu.mono hbl hbw
        obtain ⟨z1, z2, z3, z4⟩ := HZ.out _ (List.getElem_mem hlt)
        have hnx := fold_take hlt
        have hOk : ((l.take k).foldl tidyS []).length ≤ 40 := by
          have h9 := fold_len (l.take k) []
          rw [List.length_take, List.length_nil] at h9; omega
        generalize l[k] = it at d0 d1 d2 d3 hru z3 hnx
        generalize (l.take k).foldl tidyS [] = O at hown hnx hOk
        have hszr := hbw.size
        obtain ⟨ik, inm, ics, int⟩ := it
        simp only at d0 d1 d2 d3 hru z3
        obtain ⟨au, cu, rfl⟩ : ∃ au cu, u = .slice au ics.length cu := by obtain ⟨au, cu, h, -⟩ := hru; exact ⟨au, cu, h⟩
        have HCP := Lib.hid (fun ww hh => HCO.out (.slice au ics.length cu) ik inm int ics ww hh z3)
        have HRA := Lib.hid hru; have HBW := Lib.hid hbw
        have HNX0 := Lib.hid hnx
        obtain ⟨n, hn⟩ : ∃ n, O.length = n := ⟨_, rfl⟩
        have HON := Lib.hid hn
        have hn40 : n ≤ 40 := by omega
        have hrow9 := hown.row
        rw [hn] at hrow9
        obtain ⟨aa, ac, rfl⟩ := own_shape hrow9
        have hac : ac ≤ 2 ^ 63 - 1 := by
          rcases hrow9.2 with ⟨g1, g2⟩ | ⟨g, cap, cur, g1, _, _, _, g4, _⟩
          · injection g1 with _ _ g3; omega
          · injection g1 with _ _ g3; unfold maxLen at g4; omega
        have HOW := Lib.hid hown
        have HT0 := Lib.hid (show ik = 1 → (O = [] ∨ lastK O = 1 ∨ lastK O = 4) → (l.take (k + 1)).foldl tidyS [] = O from fun h1 h2 => by rw [HNX0.out]; unfold tidyS; rw [if_pos ⟨h1, h2⟩])
        have HT1 := Lib.hid (show ¬ (ik = 1 ∧ (O = [] ∨ lastK O = 1 ∨ lastK O = 4)) → ¬ (ik = 5 ∧ lastK O = 1) → (l.take (k + 1)).foldl tidyS [] = O ++ [(ik, inm, ics, int)] from fun h1 h2 => by rw [HNX0.out]; unfold tidyS; rw [if_neg h1, if_neg h2])
        have HT2 := Lib.hid (show ik = 5 → lastK O = 1 → (l.take (k + 1)).foldl tidyS [] = O.dropLast ++ [(ik, inm, ics, int)] from fun h1 h2 => by rw [HNX0.out]; unfold tidyS; rw [if_neg (fun h => by have := h.1; simp only at this; omega), if_pos ⟨h1, h2⟩])
        have HLZ := Lib.hid (show n = 0 → O = [] ∧ lastK O = 0 from fun h => by have : O = [] := List.length_eq_zero_iff.mp (by omega); subst this; exact ⟨rfl, rfl⟩)
        have HLC := Lib.hid (fun M (hM : n = M + 1) => last_cell hown HON.out hM)
        clear cc hu hru z1 z2 z3 z4 hnx hOk hown hbw hn hrow9
        have hkc : ik = 1 ∨ ik = 5 ∨ (ik ≠ 1 ∧ ik ≠ 5) := by omega
        by_cases hn0 : n = 0
        · obtain ⟨hO, hL⟩ := HLZ.out hn0
          subst hn0
          have HL := Lib.hid hL; have HOO := Lib.hid hO
          rcases hkc with h1 | h5 | ⟨h1, h5⟩
          · have e1 : (ik == 1) = true := by rw [h1]; rfl
            have HNX := Lib.hid (HT0.out h1 (.inl hO))
            clear h1 hO hL HLC HLZ
            go_wp2
            go_roundw
            case rel => exact ⟨k + 1, us, by omega, by go_num, by rw [HNX.out]; exact HOW.out, HBW.out⟩
            case measure => simp [intOf]; omega
          · have e1 : (ik == 1) = false := by rw [h5]; rfl
            have e5 : (ik == 5) = true := by rw [h5]; rfl
            have HNX := Lib.hid (HT1.out (by omega) (by rw [hL]; omega))
            clear h5 hO hL HLC HLZ
            go_wp2_with fail
            refine (HCP.out wr HRA.out).mono ?_
            rintro e w1 ⟨u1, rfl, ho1, hb1⟩
            obtain ⟨a1, c1, rfl⟩ := own_shape ho1
            have HO1 := Lib.hid ho1; have HB1 := Lib.hid hb1
            have HRW := Lib.hid (own_belowS (HOW.out.rowX HON.out) hb1)
            have hs1 := hb1.size
            clear ho1 hb1
            go_wp2_with (
               at_builtin; refine wpList_append_lies _ rfl _ _ 30 rfl w.heap.size 25 i0 (.agg #[.int .i64 0, .string ByteArray.empty, .slice none 0 0, .string ByteArray.empty]) 4 64 Tryz.underlying30 hi hz0 hz1 hz2 rfl (by decide) (.slice aa 0 ac) 0 (itF O us) rfl (by exact (HRW.out.alloc _)) ⟨w1.heap.size, 0, none⟩ 1 1 [.int .i64 ik, .string inm, .slice a1 ics.length c1, .string int] rfl rfl (World.news_of_block (heap_alloc_new w1 _)) (by simp [Value.oneCell']) (by omega) (by unfold maxLen; omega) (by omega) (by simp; omega) (w1.heap.size + 1) (by simp) ?_; intro gg cap' w2 hown2 hgrow2 hat2 hlt2
               have hpp := HOW.out.pushX (i := (ik, inm, ics, int)) HON.out hszr HB1.out HO1.out _ hgrow2 hown2 hat2
               have HP2 := Lib.hid hpp.1
               have HB2 := Lib.hid (HBW.out.trans (hpp.2.mono (Nat.le_refl _)))
               clear hpp hown2 hgrow2 hat2 hlt2)
            go_roundw
            case rel => exact ⟨k + 1, us ++ [.slice a1 ics.length c1], by omega, by go_num, by rw [HNX.out]; exact HP2.out, HB2.out⟩
            case measure => simp [intOf]; omega
          · have e1 : (ik == 1) = false := beq_eq_false_iff_ne.mpr h1
            have e5 : (ik == 5) = false := beq_eq_false_iff_ne.mpr h5
            have HNX := Lib.hid (HT1.out (fun h => h1 h.1) (fun h => h5 h.1))
            clear h1 h5 hO hL HLC HLZ
            go_wp2_with fail
            refine (HCP.out wr HRA.out).mono ?_
            rintro e w1 ⟨u1, rfl, ho1, hb1⟩
            obtain ⟨a1, c1, rfl⟩ := own_shape ho1
            have HO1 := Lib.hid ho1; have HB1 := Lib.hid hb1
            have HRW := Lib.hid (own_belowS (HOW.out.rowX HON.out) hb1)
            have hs1 := hb1.size
            clear ho1 hb1
            go_wp2_with (
               at_builtin; refine wpList_append_lies _ rfl _ _ 30 rfl w.heap.size 25 i0 (.agg #[.int .i64 0, .string ByteArray.empty, .slice none 0 0, .string ByteArray.empty]) 4 64 Tryz.underlying30 hi hz0 hz1 hz2 rfl (by decide) (.slice aa 0 ac) 0 (itF O us) rfl (by exact (HRW.out.alloc _)) ⟨w1.heap.size, 0, none⟩ 1 1 [.int .i64 ik, .string inm, .slice a1 ics.length c1, .string int] rfl rfl (World.news_of_block (heap_alloc_new w1 _)) (by simp [Value.oneCell']) (by omega) (by unfold maxLen; omega) (by omega) (by simp; omega) (w1.heap.size + 1) (by simp) ?_; intro gg cap' w2 hown2 hgrow2 hat2 hlt2
               have hpp := HOW.out.pushX (i := (ik, inm, ics, int)) HON.out hszr HB1.out HO1.out _ hgrow2 hown2 hat2
               have HP2 := Lib.hid hpp.1
               have HB2 := Lib.hid (HBW.out.trans (hpp.2.mono (Nat.le_refl _)))
               clear hpp hown2 hgrow2 hat2 hlt2)
            go_roundw
            case rel => exact ⟨k + 1, us ++ [.slice a1 ics.length c1], by omega, by go_num, by rw [HNX.out]; exact HP2.out, HB2.out⟩
            case measure => simp [intOf]; omega
        · obtain ⟨M, hM⟩ : ∃ M, n = M + 1 := ⟨n - 1, by omega⟩
          obtain ⟨g, rfl, cl⟩ := HLC.out M hM
          have HOM := Lib.hid (show O.dropLast.length = M by rw [List.length_dropLast]; have := HON.out; omega)
          have HOD := Lib.hid (HOW.out.pre (M := M) HON.out.symm (by have := HON.out; omega))
          have en : ((n : Int) == 0) = false := beq_eq_false_iff_ne.mpr (by omega)
          have ep : decide (0 < (n : Int)) = true := decide_eq_true (by omega)
          have hnM : (n : Int) - 1 = (M : Int) := by omega
          have hMn : (M : Int) < (n : Int) := by omega
          have hMac : M ≤ ac := by
            rcases HOW.out.row.2 with ⟨g1, g2⟩ | ⟨g', cap, cur, g1, _, _, g3, _⟩
            · cases g1
            · injection g1 with _ _ g4; omega
          have HOE := Lib.hid (show O ≠ [] from fun h => by have := HON.out; rw [h] at this; simp at this; omega)
          have hM40 : M ≤ 40 := by omega
          generalize lastK O = LK at cl HT0 HT1 HT2
          clear hM HLC HLZ
          rcases hkc with h1 | h5 | ⟨h1, h5⟩
          · have e1 : (ik == 1) = true := by rw [h1]; rfl
            have e5 : (ik == 5) = false := by rw [h1]; rfl
            by_cases h11 : LK = 1
            · have HNX := Lib.hid (HT0.out h1 (.inr (.inl h11)))
              have el : (LK == 1) = true := by rw [h11]; rfl
              clear h1 h11
              go_wp2
              go_roundw
              case rel => exact ⟨k + 1, us, by omega, by go_num, by rw [HNX.out]; exact HOW.out, HBW.out⟩
              case measure => simp [intOf]; omega
            · by_cases h44 : LK = 4
              · have HNX := Lib.hid (HT0.out h1 (.inr (.inr h44)))
                have el : (LK == 1) = false := beq_eq_false_iff_ne.mpr h11
                have e4 : (LK == 4) = true := by rw [h44]; rfl
                clear h1 h11 h44
                go_wp2
                go_roundw
                case rel => exact ⟨k + 1, us, by omega, by go_num, by rw [HNX.out]; exact HOW.out, HBW.out⟩
                case measure => simp [intOf]; omega
              · have HNX := Lib.hid (HT1.out (fun h => by rcases h.2 with h | h | h; exact HOE.out h; exact h11 h; exact h44 h) (fun h => h11 h.2))
                have el : (LK == 1) = false := beq_eq_false_iff_ne.mpr h11
                have e4 : (LK == 4) = false := beq_eq_false_iff_ne.mpr h44
                clear h1 h11 h44
                go_wp2_with fail
                refine (HCP.out wr HRA.out).mono ?_
                rintro e w1 ⟨u1, rfl, ho1, hb1⟩
                obtain ⟨a1, c1, rfl⟩ := own_shape ho1
                have HO1 := Lib.hid ho1; have HB1 := Lib.hid hb1
                have HRW := Lib.hid (own_belowS (HOW.out.rowX HON.out) hb1)
                have hs1 := hb1.size
                clear ho1 hb1
                go_wp2_with (
                   at_builtin; refine wpList_append_lies _ rfl _ _ 30 rfl w.heap.size 25 i0 (.agg #[.int .i64 0, .string ByteArray.empty, .slice none 0 0, .string ByteArray.empty]) 4 64 Tryz.underlying30 hi hz0 hz1 hz2 rfl (by decide) (.slice (some ⟨g, 0, none⟩) n ac) n (itF O us) rfl (by exact (HRW.out.alloc _)) ⟨w1.heap.size, 0, none⟩ 1 1 [.int .i64 ik, .string inm, .slice a1 ics.length c1, .string int] rfl rfl (World.news_of_block (heap_alloc_new w1 _)) (by simp [Value.oneCell']) (by omega) (by unfold maxLen; omega) (by omega) (by simp; omega) (w1.heap.size + 1) (by simp) ?_; intro gg cap' w2 hown2 hgrow2 hat2 hlt2
                   have hpp := HOW.out.pushX (i := (ik, inm, ics, int)) HON.out hszr HB1.out HO1.out _ hgrow2 hown2 hat2
                   have HP2 := Lib.hid hpp.1
                   have HB2 := Lib.hid (HBW.out.trans (hpp.2.mono (Nat.le_refl _)))
                   clear hpp hown2 hgrow2 hat2 hlt2)
                go_roundw
                case rel => exact ⟨k + 1, us ++ [.slice a1 ics.length c1], by omega, by go_num, by rw [HNX.out]; exact HP2.out, HB2.out⟩
                case measure => simp [intOf]; omega
          · have e1 : (ik == 1) = false := by rw [h5]; rfl
            have e5 : (ik == 5) = true := by rw [h5]; rfl
            by_cases h11 : LK = 1
            · have HNX := Lib.hid (HT2.out h5 h11)
              have el : (LK == 1) = true := by rw [h11]; rfl
              clear h5 h11
              go_wp2_with fail
              refine (HCP.out wr HRA.out).mono ?_
              rintro e w1 ⟨u1, rfl, ho1, hb1⟩
              obtain ⟨a1, c1, rfl⟩ := own_shape ho1
              have HO1 := Lib.hid ho1; have HB1 := Lib.hid hb1
              have HRW := Lib.hid (own_belowS (HOD.out.rowX HOM.out) hb1)
              have hs1 := hb1.size
              clear ho1 hb1
              go_wp2_with (
                 at_builtin; refine wpList_append_lies _ rfl _ _ 30 rfl w.heap.size 25 i0 (.agg #[.int .i64 0, .string ByteArray.empty, .slice none 0 0, .string ByteArray.empty]) 4 64 Tryz.underlying30 hi hz0 hz1 hz2 rfl (by decide) (.slice (some ⟨g, 0, none⟩) M ac) M (itF O.dropLast us.dropLast) rfl (by exact (HRW.out.alloc _)) ⟨w1.heap.size, 0, none⟩ 1 1 [.int .i64 ik, .string inm, .slice a1 ics.length c1, .string int] rfl rfl (World.news_of_block (heap_alloc_new w1 _)) (by simp [Value.oneCell']) (by omega) (by unfold maxLen; omega) (by omega) (by simp; omega) (w1.heap.size + 1) (by simp) ?_; intro gg cap' w2 hown2 hgrow2 hat2 hlt2
                 have hpp := HOD.out.pushX (i := (ik, inm, ics, int)) HOM.out hszr HB1.out HO1.out _ hgrow2 hown2 hat2
                 have HP2 := Lib.hid hpp.1
                 have HB2 := Lib.hid (HBW.out.trans (hpp.2.mono (Nat.le_refl _)))
                 clear hpp hown2 hgrow2 hat2 hlt2)
              go_roundw
              case rel => exact ⟨k + 1, us.dropLast ++ [.slice a1 ics.length c1], by omega, by go_num, by rw [HNX.out]; exact HP2.out, HB2.out⟩
              case measure => simp [intOf]; omega
            · have HNX := Lib.hid (HT1.out (by omega) (fun h => h11 h.2))
              have el : (LK == 1) = false := beq_eq_false_iff_ne.mpr h11
              clear h5 h11
              go_wp2_with fail
              refine (HCP.out wr HRA.out).mono ?_
              rintro e w1 ⟨u1, rfl, ho1, hb1⟩
              obtain ⟨a1, c1, rfl⟩ := own_shape ho1
              have HO1 := Lib.hid ho1; have HB1 := Lib.hid hb1
              have HRW := Lib.hid (own_belowS (HOW.out.rowX HON.out) hb1)
              have hs1 := hb1.size
              clear ho1 hb1
              go_wp2_with (
                 at_builtin; refine wpList_append_lies _ rfl _ _ 30 rfl w.heap.size 25 i0 (.agg #[.int .i64 0, .string ByteArray.empty, .slice none 0 0, .string ByteArray.empty]) 4 64 Tryz.underlying30 hi hz0 hz1 hz2 rfl (by decide) (.slice (some ⟨g, 0, none⟩) n ac) n (itF O us) rfl (by exact (HRW.out.alloc _)) ⟨w1.heap.size, 0, none⟩ 1 1 [.int .i64 ik, .string inm, .slice a1 ics.length c1, .string int] rfl rfl (World.news_of_block (heap_alloc_new w1 _)) (by simp [Value.oneCell']) (by omega) (by unfold maxLen; omega) (by omega) (by simp; omega) (w1.heap.size + 1) (by simp) ?_; intro gg cap' w2 hown2 hgrow2 hat2 hlt2
                 have hpp := HOW.out.pushX (i := (ik, inm, ics, int)) HON.out hszr HB1.out HO1.out _ hgrow2 hown2 hat2
                 have HP2 := Lib.hid hpp.1
                 have HB2 := Lib.hid (HBW.out.trans (hpp.2.mono (Nat.le_refl _)))
                 clear hpp hown2 hgrow2 hat2 hlt2)
              go_roundw
              case rel => exact ⟨k + 1, us ++ [.slice a1 ics.length c1], by omega, by go_num, by rw [HNX.out]; exact HP2.out, HB2.out⟩
              case measure => simp [intOf]; omega
          · have e1 : (ik == 1) = false := beq_eq_false_iff_ne.mpr h1
            have e5 : (ik == 5) = false := beq_eq_false_iff_ne.mpr h5
            have HNX := Lib.hid (HT1.out (fun h => h1 h.1) (fun h => h5 h.1))
            clear h1 h5
            go_wp2_with fail
            refine (HCP.out wr HRA.out).mono ?_
            rintro e w1 ⟨u1, rfl, ho1, hb1⟩
            obtain ⟨a1, c1, rfl⟩ := own_shape ho1
            have HO1 := Lib.hid ho1; have HB1 := Lib.hid hb1
            have HRW := Lib.hid (own_belowS (HOW.out.rowX HON.out) hb1)
            have hs1 := hb1.size
            clear ho1 hb1
            go_wp2_with (
               at_builtin; refine wpList_append_lies _ rfl _ _ 30 rfl w.heap.size 25 i0 (.agg #[.int .i64 0, .string ByteArray.empty, .slice none 0 0, .string ByteArray.empty]) 4 64 Tryz.underlying30 hi hz0 hz1 hz2 rfl (by decide) (.slice (some ⟨g, 0, none⟩) n ac) n (itF O us) rfl (by exact (HRW.out.alloc _)) ⟨w1.heap.size, 0, none⟩ 1 1 [.int .i64 ik, .string inm, .slice a1 ics.length c1, .string int] rfl rfl (World.news_of_block (heap_alloc_new w1 _)) (by simp [Value.oneCell']) (by omega) (by unfold maxLen; omega) (by omega) (by simp; omega) (w1.heap.size + 1) (by simp) ?_; intro gg cap' w2 hown2 hgrow2 hat2 hlt2
               have hpp := HOW.out.pushX (i := (ik, inm, ics, int)) HON.out hszr HB1.out HO1.out _ hgrow2 hown2 hat2
               have HP2 := Lib.hid hpp.1
               have HB2 := Lib.hid (HBW.out.trans (hpp.2.mono (Nat.le_refl _)))
               clear hpp hown2 hgrow2 hat2 hlt2)
            go_roundw
            case rel => exact ⟨k + 1, us ++ [.slice a1 ics.length c1], by omega, by go_num, by rw [HNX.out]; exact HP2.out, HB2.out⟩
            case measure => simp [intOf]; omega
      · obtain rfl : k = l.length := by omega
        rw [List.take_of_length_le (Nat.le_refl _)] at hown
        have HTL := Lib.hid (show tidyL l = tidyE (l.foldl tidyS []) from rfl)
        have hO40 : (l.foldl tidyS []).length ≤ 40 := by
          have h9 := fold_len l []
          rw [List.length_nil] at h9; omega
        generalize l.foldl tidyS [] = O at hown HTL hO40
        obtain ⟨n, hn⟩ : ∃ n, O.length = n := ⟨_, rfl⟩
        have HON := Lib.hid hn
        have hn40 : n ≤ 40 := by omega
        have hrow9 := hown.row
        rw [hn] at hrow9
        obtain ⟨aa, ac, rfl⟩ := own_shape hrow9
        clear hrow9
        have HOW := Lib.hid hown; have HBW := Lib.hid hbw
        have HLC := Lib.hid (fun M (hM : n = M + 1) => last_cell hown HON.out hM)
        by_cases hn0 : n = 0
        · subst hn0
          have HF := Lib.hid (show tidyL l = O by
            rw [HTL.out]; have : O = [] := List.length_eq_zero_iff.mp hn
            subst this; rfl)
          clear hown hbw hn HLC
          go_wp2
          go_ret
          exact ⟨_, us, rfl, by rw [HF.out]; exact HOW.out, HBW.out⟩
        · obtain ⟨M, hM⟩ : ∃ M, n = M + 1 := ⟨n - 1, by omega⟩
          obtain ⟨g, rfl, cl⟩ := HLC.out M hM
          have HOD := Lib.hid (HOW.out.pre (M := M) HON.out.symm (by have := HON.out; omega))
          have ep : decide (0 < (n : Int)) = true := decide_eq_true (by omega)
          have hnM : (n : Int) - 1 = (M : Int) := by omega
          have hMn : (M : Int) < (n : Int) := by omega
          have hMac : M ≤ ac := by
            rcases HOW.out.row.2 with ⟨g1, g2⟩ | ⟨g', cap, cur, g1, _, _, g3, _⟩
            · cases g1
            · injection g1 with _ _ g4; omega
          have HTE := Lib.hid (show tidyL l = if lastK O = 1 then O.dropLast else O from HTL.out)
          generalize lastK O = LK at cl HTE
          clear hM HLC hown hbw hn hn0
          by_cases h11 : LK = 1
          · have el : (LK == 1) = true := by rw [h11]; rfl
            have HF := Lib.hid (show tidyL l = O.dropLast by rw [HTE.out, if_pos h11])
            clear h11
            go_wp2
            go_ret
            exact ⟨_, us.dropLast, rfl, by rw [HF.out]; exact HOD.out, HBW.out⟩
          · have el : (LK == 1) = false := beq_eq_false_iff_ne.mpr h11
            have HF := Lib.hid (show tidyL l = O by rw [HTE.out, if_neg h11])
            clear h11
            go_wp2
            go_ret
            exact ⟨_, us, rfl, by rw [HF.out]; exact HOW.out, HBW.out⟩

end Go.Proofs.YtbmobgahokehmaaGreatDoor
