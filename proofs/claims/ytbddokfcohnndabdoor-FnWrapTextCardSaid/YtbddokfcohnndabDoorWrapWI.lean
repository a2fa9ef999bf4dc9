/-
  impl.WrapLines, by its contract.
-/
import Derived.Test.YtbddokfcohnndabDoorWrapBt
import Derived.Test.YtbddokfcohnndabDoorWrapFI
import Derived.Test.YtbddokfcohnndabDoorWrapWL
namespace Go.Proofs.YtbddokfcohnndabDoor
open Go.RowKit
set_option linter.unusedVariables false

theorem infoW : (Tryd.prog.info? 53).map (fun i => (i.zero, i.size, i.bytes)) = some (some (.agg #[.slice none 0 0, .int .i64 0]), 2, 32) := by kernel_rfl

/-- The table from the front: a row of one's own; each line row lies elsewhere. -/
structure Wr (w : World) (base g N : Nat) (us : Nat → Value) (tb : Nat → List Nat × Nat) : Prop where
  row : ∃ xs, w.ownsRow base 53 2 (.slice (some ⟨g, 0, none⟩) N N) N xs ∧ ∀ j, j < N → xs[j * 2]? = some (us j) ∧ xs[j * 2 + 1]? = some (.int .i64 ((tb j).2 : Int))
  each : ∀ j, j < N → w.ownsRow base 3 1 (us j) (tb j).1.length (ints (tb j).1)
  far : ∀ j, j < N → (us j).ownBlock ≠ some g
  nil : ∀ j, j < N → (tb j).1 = [] → us j = .slice none 0 0
theorem Wr.below {w w' : World} {base g N : Nat} {us : Nat → Value} {tb : Nat → List Nat × Nat} (h : Wr w base g N us tb) (hb : Below w.heap.size w w') : Wr w' base g N us tb := by
  obtain ⟨xs, h1, h2⟩ := h.row
  exact ⟨⟨xs, own_belowS h1 hb, h2⟩, fun j hj => own_belowS (h.each j hj) hb, h.far, h.nil⟩
theorem Wr.cells {w : World} {base g N : Nat} {us : Nat → Value} {tb : Nat → List Nat × Nat} (h : Wr w base g N us tb) {j : Nat} (hj : j < N) :
    w.cell? ⟨g, j * 2, none⟩ = some (us j) ∧ w.cell? ⟨g, j * 2 + 1, none⟩ = some (.int .i64 ((tb j).2 : Int)) ∧ w.frozen? ⟨g, j * 2, none⟩ = false ∧ w.frozen? ⟨g, j * 2 + 1, none⟩ = false := by
  obtain ⟨xs, h1, h2⟩ := h.row
  exact ⟨(h1.cellAt (j * 2) (by omega)).trans (h2 j hj).1, (h1.cellAt (j * 2 + 1) (by omega)).trans (h2 j hj).2, h1.frozenAt _, h1.frozenAt _⟩
theorem Wr.lt {w : World} {base g N : Nat} {us : Nat → Value} {tb : Nat → List Nat × Nat} (h : Wr w base g N us tb) : base ≤ g ∧ g < w.heap.size := by
  obtain ⟨xs, h1, h2⟩ := h.row
  exact h1.lt g rfl
theorem Wr.store {w : World} {base g N : Nat} {us : Nat → Value} {tb : Nat → List Nat × Nat} (h : Wr w base g N us tb) {j : Nat} (hj : j < N) {u : Value} {p : List Nat × Nat} (hu : w.ownsRow base 3 1 u p.1.length (ints p.1)) (hfar : u.ownBlock ≠ some g) (hne : p.1 ≠ []) :
    Wr ((w.setCell ⟨g, j * 2, none⟩ u).setCell ⟨g, j * 2 + 1, none⟩ (.int .i64 (p.2 : Int))) base g N (fun i => if i = j then u else us i) (fun i => if i = j then p else tb i) := by
  obtain ⟨xs, h1, h2⟩ := h.row
  have s1 := h1.stored (j * 2) u
  have s2 := s1.1.stored (j * 2 + 1) (.int .i64 (p.2 : Int))
  have hx : xs.length = N * 2 := h1.1
  have keep : ∀ {v : Value} {L : List Nat}, w.ownsRow base 3 1 v L.length (ints L) → v.ownBlock ≠ some g → ((w.setCell ⟨g, j * 2, none⟩ u).setCell ⟨g, j * 2 + 1, none⟩ (.int .i64 (p.2 : Int))).ownsRow base 3 1 v L.length (ints L) := fun hv hf => (hv.kept s1.2 (.inr hf)).kept s2.2 (.inr hf)
  refine ⟨⟨_, s2.1, fun i hi => ?_⟩, fun i hi => ?_, fun i hi => ?_, fun i hi => ?_⟩
  · by_cases e : i = j
    · subst e
      simp only [if_true]
      rw [List.getElem?_set_ne (by omega), List.getElem?_set_self (by omega), List.getElem?_set_self (by rw [List.length_set]; omega)]
      exact ⟨rfl, rfl⟩
    · simp only [if_neg e]
      rw [List.getElem?_set_ne (by omega), List.getElem?_set_ne (by omega), List.getElem?_set_ne (by omega), List.getElem?_set_ne (by omega)]
      exact h2 i hi
  · by_cases e : i = j
    · simp only [if_pos e]; exact keep hu hfar
    · simp only [if_neg e]; exact keep (h.each i hi) (h.far i hi)
  · by_cases e : i = j
    · simp only [if_pos e]; exact hfar
    · simp only [if_neg e]; exact h.far i hi
  · by_cases e : i = j
    · simp only [if_pos e]; exact fun h0 => absurd h0 hne
    · simp only [if_neg e]; exact h.nil i hi
theorem Wr.congr {w : World} {base g N : Nat} {us : Nat → Value} {tb tb' : Nat → List Nat × Nat} (h : Wr w base g N us tb) (he : ∀ j, j < N → tb j = tb' j) : Wr w base g N us tb' := by
  obtain ⟨xs, h1, h2⟩ := h.row
  refine ⟨⟨xs, h1, fun j hj => ?_⟩, fun j hj => ?_, h.far, fun j hj => ?_⟩
  · rw [← he j hj]; exact h2 j hj
  · rw [← he j hj]; exact h.each j hj
  · rw [← he j hj]; exact h.nil j hj
theorem Wr.start {w : World} {base g N : Nat} (h : w.ownsRow base 53 2 (.slice (some ⟨g, 0, none⟩) N N) N (madeCells (Value.agg #[.slice none 0 0, .int .i64 0]).cells (N * 2)).toList) : Wr w base g N (fun _ => .slice none 0 0) (fun _ => ([], 0)) := by
  refine ⟨⟨_, h, fun j hj => ?_⟩, fun j hj => World.ownsRow_nil _ _ _ _, fun j hj => by simp [Value.ownBlock], fun j hj _ => rfl⟩
  have e0 : j * 2 % 2 = 0 := by omega
  have e1 : (j * 2 + 1) % 2 = 1 := by omega
  have l0 : j * 2 < N * 2 := by omega
  have l1 : j * 2 + 1 < N * 2 := by omega
  constructor <;> simp [madeCells, Value.cells, e0, e1, l0, l1]

theorem two_set {w : World} {G : Nat} {x y x0 y0 : Value} (h0 : w.cell? ⟨G, 0, none⟩ = some x0) (h1 : w.cell? ⟨G, 1, none⟩ = some y0) : ((w.setCell ⟨G, 0, none⟩ x).setCell ⟨G, 1, none⟩ y).cell? ⟨G, 0, none⟩ = some x ∧ ((w.setCell ⟨G, 0, none⟩ x).setCell ⟨G, 1, none⟩ y).cell? ⟨G, 1, none⟩ = some y := by
  constructor <;> simp [go_sem, h0, h1]

/-- The new way to wrap lies in a block G of its own. -/
structure MidW (wr W6 : World) (G : Nat) (u : Value) (n : Nat) (A : List Nat) (z : Int) : Prop where
  c0 : W6.cell? ⟨G, 0, none⟩ = some u
  c1 : W6.cell? ⟨G, 1, none⟩ = some (.int .i64 z)
  be : Below wr.heap.size wr W6
  ow : W6.ownsRow wr.heap.size 3 1 u n (ints A)
  lt : G < W6.heap.size
theorem midA {wr w5 : World} {u : Value} {n : Nat} {A : List Nat} {z : Int} (hb : Below wr.heap.size wr w5) (ho : w5.ownsRow wr.heap.size 3 1 u n (ints A)) : MidW wr (w5.alloc (.cells #[u, .int .i64 z] 53)) w5.heap.size u n A z := by
  obtain ⟨h0, h1, -⟩ := pair_new w5 u (.int .i64 z) 53
  exact ⟨h0, h1, hb.alloc hb.size _, ho.alloc _, by rw [sz_al]; omega⟩
theorem midB {wr w5 : World} {G : Nat} {u x0 y0 : Value} {n : Nat} {A : List Nat} {z : Int} (hb : Below wr.heap.size wr w5) (ho : w5.ownsRow wr.heap.size 3 1 u n (ints A)) (h0 : w5.cell? ⟨G, 0, none⟩ = some x0) (h1 : w5.cell? ⟨G, 1, none⟩ = some y0) (hG : wr.heap.size ≤ G) (hn : ∀ g, u.ownBlock = some g → g ≠ G) (hlt : G < w5.heap.size) : MidW wr ((w5.setCell ⟨G, 0, none⟩ u).setCell ⟨G, 1, none⟩ (.int .i64 z)) G u n A z := by
  obtain ⟨s0, s1⟩ := two_set (x := u) (y := .int .i64 z) h0 h1
  exact ⟨s0, s1, (hb.setCell (p := ⟨G, 0, none⟩) hG _).setCell (p := ⟨G, 1, none⟩) hG _, own_keep ho (fun g hg => by rw [Below.heap_setCell _ _ _ _ (hn g hg), Below.heap_setCell _ _ _ _ (hn g hg)]), by simpa [World.setCell] using hlt⟩

/-- The table in the middle of place k: lines of fewer than m words were tried. -/
def wtab (w : Int) (S : List Nat) (k m j : Nat) : List Nat × Nat := if j < k + m then tab w S (k + 1) j else tab w S k j
theorem wtab_one (w : Int) (S : List Nat) (k j : Nat) : wtab w S k 1 j = tab w S k j := by
  unfold wtab
  split
  · rw [tab, if_neg (by omega)]
  · rfl
theorem wtab_end {w : Int} {S : List Nat} {k m : Nat} (hm : m = fuA w (S.drop k) + 1) (j : Nat) : wtab w S k m j = tab w S (k + 1) j := by
  unfold wtab
  split
  · rfl
  · rw [tab, if_neg (by omega)]
theorem wtab_next {w : Int} {S : List Nat} {k m : Nat} (h1 : 1 ≤ m) (h2 : m ≤ fuA w (S.drop k)) (j : Nat) :
    wtab w S k (m + 1) j = if j = k + m then (if bett (cand w S (tab w S k k) k m) (wtab w S k m (k + m)) then cand w S (tab w S k k) k m else wtab w S k m (k + m)) else wtab w S k m j := by
  unfold wtab
  by_cases e : j = k + m
  · subst e
    rw [if_pos (by omega), if_pos rfl, tab, if_neg (show ¬ k + m < k + m by omega), if_pos ⟨by omega, by omega⟩, show k + m - k = m by omega]
  · rw [if_neg e]
    by_cases h : j < k + m
    · rw [if_pos (by omega), if_pos h]
    · rw [if_neg (by omega), if_neg h]
theorem wtab_k (w : Int) (S : List Nat) (k m : Nat) (h1 : 1 ≤ m) : wtab w S k m k = tab w S k k := by
  unfold wtab
  rw [if_pos (by omega)]; exact tab_old (k + 1) (by omega)
/-- Every entry is no more than its words allow. -/
theorem tab_bound {w : Int} {S : List Nat} (h40 : w ≤ 40) : ∀ k j, (tab w S k j).1.length ≤ k ∧ (tab w S k j).2 ≤ 1600 * k := by
  intro k
  induction k with
  | zero => intro j; exact ⟨Nat.le_refl _, Nat.le_refl _⟩
  | succ k ih =>
    intro j
    rw [tab]
    split
    · rename_i hj
      split
      · unfold cand
        have h1 := ih k
        have h2 := lineC_le (w := w) (S := S.drop k) (m := j - k) (by omega) h40
        simp only [List.length_append, List.length_cons, List.length_nil]
        exact ⟨by omega, by omega⟩
      · have := ih j; omega
    · have := ih j; omega
theorem wtab_bound {w : Int} {S : List Nat} (h40 : w ≤ 40) (k m j : Nat) (hk : k < 20) : (wtab w S k m j).1.length ≤ 20 ∧ (wtab w S k m j).2 ≤ 32000 := by
  unfold wtab
  split
  · have := tab_bound (S := S) h40 (k + 1) j; omega
  · have := tab_bound (S := S) h40 k j; omega

set_option maxRecDepth 100000 in
set_option maxHeartbeats 8000000 in
theorem wrapLines_impl (v : Value) (L : List ByteArray) (x : Int) (w : World) (h : RowOf w v (strs L)) (hz : Sized L) :
    Calls Tryd.prog 17 #[v, .int .i64 x] w (NewInts (wlB L x) w) := by
  obtain ⟨i0, hi, hz0, hz1, hz2⟩ := info_parts infoW
  have HC := Lib.hid (wordsFit_impl v L x w h hz)
  have HR := Lib.hid h
  obtain ⟨ao, cap, rfl, h1, h2, h3⟩ := h
  simp only [strs_length] at h1 HC HR ⊢
  unfold maxLen at h2
  have H3 := Lib.hid h3
  clear h3 hz
  cases hf : fitB L x with
  | false =>
    have HD := Lib.hid (show wlB L x = [] by rw [wlB, hf]; rfl)
    rw [hf] at HC
    clear hf
    go_enter Tryd.func17, Tryd.ntmps17
    go_wp2_with fail
    refine HC.out.mono ?_
    rintro e w' ⟨rfl, rfl⟩
    go_wp2
    go_ret
    exact ⟨_, rfl, by rw [HD.out]; exact World.ownsRow_nil _ _ _ _, Below.refl _ _⟩
  | true =>
    have HD := Lib.hid (show wlB L x = bestL x.toNat (szW L) by rw [wlB, hf]; rfl)
    rw [hf] at HC
    have hl := fit_len hf
    have HZ := Lib.hid (show ∀ s ∈ L, s.size ≤ 40 from fun s hs => by obtain ⟨k, hk, rfl⟩ := List.mem_iff_getElem.mp hs; exact (fit_sz hf hk).2)
    obtain ⟨n, rfl, hn1, hn40, hfs⟩ := fit_S hf
    rw [Int.toNat_natCast] at HD
    have HFS := Lib.hid hfs
    have HLI := Lib.hid (show (L.length : Int) + 1 = ((L.length + 1 : Nat) : Int) by omega)
    have hby : i0.bytes * (L.length + 1) ≤ 281474976710656 := by rw [hz2]; omega
    have HSL := Lib.hid (szW_len L)
    clear hf hfs
    go_enter Tryd.func17, Tryd.ntmps17
    go_wp2_with fail
    refine HC.out.mono ?_
    rintro e w' ⟨rfl, rfl⟩
    go_wp2_with (at_make; refine wpList_make_full _ rfl _ _ 51 rfl w.heap.size 53 i0 (.agg #[.slice none 0 0, .int .i64 0]) 2 Tryd.underlying51 hi hz0 hz1 .i64 .i64 ((L.length : Int) + 1) ((L.length : Int) + 1) (L.length + 1) rfl rfl HLI.out HLI.out hby (by unfold maxLen; omega) (Nat.le_refl _) ?_; intro w1 hown1 hgrow1; have HW1 := Lib.hid (Wr.start hown1); have HB1 := Lib.hid ((Below.refl w.heap.size w).grown hgrow1 (Nat.le_refl _) (by simp)); clear hown1 hgrow1)
    clear hby
    go_loopw [6, 7, 8, 9, 10, 21] (fun _ _ _ _ _ i wr => ∃ (k : Nat) (us : Nat → Value), k ≤ L.length ∧ i = .int .i64 (k : Int) ∧ Wr wr w.heap.size w.heap.size (L.length + 1) us (tab n (szW L) k) ∧ Below w.heap.size w wr) (fun _ _ _ _ _ i _ => L.length - (intOf i).toNat)
    case atStart => exact ⟨0, _, Nat.zero_le _, rfl, HW1.out, HB1.out⟩
    case round =>
      obtain ⟨k, us, hk, rfl, hW, hB⟩ := hrel
      have HW := Lib.hid hW; have HB := Lib.hid hB
      clear hW hB HW1 HB1
      by_cases hlt : k < L.length
      · obtain ⟨b, o, rfl, hbl, -⟩ := H3.out.resolve_left (by intro h; have h' := congrArg List.length h; rw [strs_length] at h'; simp only [List.length_nil] at h'; omega)
        have HRS := Lib.hid (RowOf.rest (k := k) (strs_length L) HR.out hk)
        rw [← strs_drop] at HRS
        have HZD := Lib.hid (show ∀ s ∈ L.drop k, s.size ≤ 40 from fun s hs => HZ.out s (List.mem_of_mem_drop hs))
        have hne : ¬ cap = k := by omega
        rw [if_neg hne] at HRS
        have hld : (L.drop k).length = L.length - k := List.length_drop
        have HFU := Lib.hid (fun wq (hb : Below w.heap.size w wq) => fullLine_any (some ⟨b, o + k, none⟩) (cap - k) (L.drop k) n wq (by rw [hld]; exact HRS.out.mono hb) HZD.out (by omega))
        rw [hld, szW_drop] at HFU
        have hfl : fuA n ((szW L).drop k) ≤ L.length - k := by have := fu_le n ((szW L).drop k); rwa [List.length_drop, szW_len] at this
        have HCO := Lib.hid (fun m wq (hb : Below w.heap.size w wq) (h0 : m ≠ 0) (hm : m ≤ fuA n ((szW L).drop k)) => lineCost_any (some ⟨b, o + k, none⟩) (cap - k) m (L.drop k) n wq (by rw [hld]; exact HRS.out.mono hb) HZD.out (by omega) (by omega) h0 (by rw [szW_drop]; exact hm))
        rw [hld, szW_drop] at HCO
        have HNX := Lib.hid (fun m (h1 : 1 ≤ m) (h2 : m ≤ fuA n ((szW L).drop k)) => wtab_next (w := n) (S := szW L) (k := k) h1 h2)
        have HEND := Lib.hid (wtab_end (w := n) (S := szW L) (k := k) rfl)
        have HLC := Lib.hid (fun m (h1 : 1 ≤ m) => lineC_le (w := n) (S := (szW L).drop k) (m := m) h1 (by omega))
        clear hld
        generalize fuA n ((szW L).drop k) = f at HFU hfl HCO HNX HEND
        go_wp2_with fail
        refine (HFU.out _ HB.out).mono ?_
        rintro e w' ⟨rfl, rfl⟩
        go_wp2_with fail
        go_loopw [9, 10] (fun i _ wx => ∃ (m : Nat) (us : Nat → Value), 1 ≤ m ∧ m ≤ f + 1 ∧ i = .int .i64 (m : Int) ∧ Wr wx w.heap.size w.heap.size (L.length + 1) us (wtab n (szW L) k m) ∧ Below w.heap.size w wx) (fun i _ _ => f + 1 - (intOf i).toNat)
        case atStart => exact ⟨1, us, Nat.le_refl _, by omega, rfl, HW.out.congr (fun j hj => (wtab_one _ _ _ _).symm), HB.out⟩
        case round =>
          clear HW HB us
          obtain ⟨m, us, hm1, hmf, rfl, hW, hB⟩ := hrel
          have HW := Lib.hid hW; have HB := Lib.hid hB
          clear hW hB
          by_cases hm : m ≤ f
          · have hbd := wtab_bound (S := szW L) (w := n) (by omega) k m k (by omega)
            have hbd2 := wtab_bound (S := szW L) (w := n) (by omega) k m (k + m) (by omega)
            have HLE := Lib.hid hbd.1
            have hnm := HNX.out m hm1 hm
            rw [← wtab_k n (szW L) k m hm1] at hnm
            unfold cand at hnm
            have HNM := Lib.hid hnm
            clear hnm
            have HWk := Lib.hid (HW.out.each k (by omega)); have HWj := Lib.hid (HW.out.each (k + m) (by omega))
            have HNk := Lib.hid (HW.out.nil k (by omega))
            have hck := HW.out.cells (j := k) (by omega); have hcj := HW.out.cells (j := k + m) (by omega)
            have HFk := Lib.hid (HW.out.far k (by omega))
            have hgl := HW.out.lt
            have HCm := Lib.hid (fun wq hb => HCO.out m wq hb (by omega) hm)
            have hlc := HLC.out m hm1
            generalize lineC n ((szW L).drop k) m = lc at HCm hlc HNM
            generalize wtab n (szW L) k m k = P at hbd HLE HWk HNk hck HNM
            generalize hQ : wtab n (szW L) k m (k + m) = Q at hbd2 HWj hcj HNM
            have HQE := Lib.hid hQ
            clear hQ
            obtain ⟨A, c⟩ := P
            obtain ⟨B, d⟩ := Q
            simp only at hbd hbd2 HLE HWk HNk hck HWj hcj HNM
            obtain ⟨c0, c1, -, -⟩ := hck
            obtain ⟨j0, j1, jf0, jf1⟩ := hcj
            have HKE := Lib.hid (show ∀ (W' : World), Below wr.heap.size wr W' → W'.cell? ⟨w.heap.size, k * 2, none⟩ = some (us k) ∧ W'.cell? ⟨w.heap.size, k * 2 + 1, none⟩ = some (.int .i64 (c : Int)) from fun W' hb => ⟨(hb.cell (p := ⟨w.heap.size, k * 2, none⟩) hgl.2).trans c0, (hb.cell (p := ⟨w.heap.size, k * 2 + 1, none⟩) hgl.2).trans c1⟩)
            have HCC := Lib.hid (fun (wq : World) (hb : Below wr.heap.size wr wq) => HCm.out wq (HB.out.trans (hb.mono HB.out.size)))
            have HLO := Lib.hid (fun (wq : World) (hb : Below wr.heap.size wr wq) => show Calls Tryd.prog 36 #[.agg #[us k, .int .i64 (c : Int)], .int .i64 (m : Int), .int .i64 (lc : Int)] wq fun e w' => ∃ v', e = .returned (.agg #[v', .int .i64 ((c + lc : Nat) : Int)]) ∧ w'.ownsRow wr.heap.size 3 1 v' (A.length + 1) (ints (A ++ [m])) ∧ Below wr.heap.size wr w' ∧ Below wq.heap.size wq w' ∧ (∀ g, v'.ownBlock = some g → wq.heap.size ≤ g) from
              (longer_any (us k) A c m lc wq (RowOf.of_own (own_belowS HWk.out hb)) HNk.out (by omega) (by omega) (by omega) (by omega)).mono fun e w' ⟨v', he, ho, hb'⟩ => ⟨v', he, own_base (by rw [List.length_append] at ho; exact ho) (fun g hg => Nat.le_trans hb.size (ho.lt g hg).1), hb.trans (hb'.mono hb.size), hb', fun g hg => (ho.lt g hg).1⟩)
            have HE0 := Lib.hid (Below.refl wr.heap.size wr)
            have HE1 := Lib.hid (show Below wr.heap.size wr wr.drew from HE0.out.drew)
            have HE2 := Lib.hid ((Below.refl wr.heap.size wr).alloc (Nat.le_refl _) (.cells #[.slice none 0 0, .int .i64 0] 53))
            have HE3 := Lib.hid (show Below wr.heap.size wr (wr.alloc (.cells #[.slice none 0 0, .int .i64 0] 53)).drew from HE2.out.drew)
            have hk0 : (0 : Int) ≤ (k : Int) := by omega
            have hk1 : (k : Int) < (L.length : Int) + 1 := by omega
            have HNA := Lib.hid (fun (w5 : World) (hb : Below (wr.alloc (.cells #[.slice none 0 0, .int .i64 0] 53)).drew.heap.size (wr.alloc (.cells #[.slice none 0 0, .int .i64 0] 53)).drew w5) => show w5.cell? ⟨wr.heap.size, 0, none⟩ = some (.slice none 0 0) ∧ w5.cell? ⟨wr.heap.size, 1, none⟩ = some (.int .i64 0) ∧ w5.frozen? ⟨wr.heap.size, 0, none⟩ = false ∧ w5.frozen? ⟨wr.heap.size, 1, none⟩ = false from
              have hlt : wr.heap.size < (wr.alloc (.cells #[.slice none 0 0, .int .i64 0] 53)).heap.size := by rw [sz_al]; omega
              have hp := pair_new wr (.slice none 0 0) (.int .i64 0) 53
              ⟨(hb.cell (p := ⟨wr.heap.size, 0, none⟩) hlt).trans hp.1, (hb.cell (p := ⟨wr.heap.size, 1, none⟩) hlt).trans hp.2.1, (hb.frozen (p := ⟨wr.heap.size, 0, none⟩) hlt).trans (hp.2.2 0), (hb.frozen (p := ⟨wr.heap.size, 1, none⟩) hlt).trans (hp.2.2 1)⟩)
            have HNB := Lib.hid (fun (w5 : World) (hb : Below (wr.alloc (.cells #[.slice none 0 0, .int .i64 0] 53)).heap.size (wr.alloc (.cells #[.slice none 0 0, .int .i64 0] 53)) w5) => show w5.cell? ⟨wr.heap.size, 0, none⟩ = some (.slice none 0 0) ∧ w5.cell? ⟨wr.heap.size, 1, none⟩ = some (.int .i64 0) ∧ w5.frozen? ⟨wr.heap.size, 0, none⟩ = false ∧ w5.frozen? ⟨wr.heap.size, 1, none⟩ = false from
              have hlt : wr.heap.size < (wr.alloc (.cells #[.slice none 0 0, .int .i64 0] 53)).heap.size := by rw [sz_al]; omega
              have hp := pair_new wr (.slice none 0 0) (.int .i64 0) 53
              ⟨(hb.cell (p := ⟨wr.heap.size, 0, none⟩) hlt).trans hp.1, (hb.cell (p := ⟨wr.heap.size, 1, none⟩) hlt).trans hp.2.1, (hb.frozen (p := ⟨wr.heap.size, 0, none⟩) hlt).trans (hp.2.2 0), (hb.frozen (p := ⟨wr.heap.size, 1, none⟩) hlt).trans (hp.2.2 1)⟩)
            have HWS := Lib.hid (show wr.heap.size < (wr.alloc (.cells #[.slice none 0 0, .int .i64 0] 53)).heap.size by rw [sz_al]; omega)
            have HSZ := Lib.hid (fun (u : Value) (h : ∀ g, u.ownBlock = some g → (wr.alloc (.cells #[.slice none 0 0, .int .i64 0] 53)).heap.size ≤ g) => show ∀ g, u.ownBlock = some g → g ≠ wr.heap.size from fun g hg e => by have h1 := h g hg; have h2 := HWS.out; omega)
            have HJ := Lib.hid (show _ ∧ _ ∧ _ ∧ _ from ⟨j0, j1, jf0, jf1⟩)
            have HGL := Lib.hid hgl
            have HBD2 := Lib.hid (show _ ∧ _ from ⟨hbd, hbd2⟩)
            obtain ⟨cd0, cd1⟩ := HKE.out _ HE1.out
            obtain ⟨ce0, ce1⟩ := HKE.out _ HE2.out
            obtain ⟨cf0, cf1⟩ := HKE.out _ HE3.out
            clear j0 j1 jf0 jf1 hgl hbd hbd2
            go_wp2_with fail
            go_region_with (first
                | (go_at_call 37; (with_reducible refine (HCC.out _ ?_).mono ?_); (focus (first | exact HE0.out | exact HE1.out | exact HE2.out | exact HE3.out)); rintro e w' ⟨rfl, rfl⟩)
                | (go_at_call 36; (with_reducible refine (HLO.out _ ?_).mono ?_); (focus (first | exact HE0.out | exact HE1.out | exact HE2.out | exact HE3.out)); rintro e w5 ⟨v5, rfl, ho5, hb5, hq5, hn5⟩; (first | (have hx := HNA.out w5 hq5; obtain ⟨q0, q1, qf0, qf1⟩ := hx; have HNG := Lib.hid (HSZ.out _ hn5); have HLG := Lib.hid (Nat.lt_of_lt_of_le HWS.out hq5.size)) | (have hx := HNB.out w5 hq5; obtain ⟨q0, q1, qf0, qf1⟩ := hx; have HNG := Lib.hid (HSZ.out _ hn5); have HLG := Lib.hid (Nat.lt_of_lt_of_le HWS.out hq5.size)) | skip); clear hq5; obtain ⟨a5, c5, rfl⟩ := own_shape ho5; have HO5 := Lib.hid ho5; have HB5 := Lib.hid hb5; have HN5 := Lib.hid hn5; clear ho5 hb5 hn5))
            all_goals
              first
                | (have FX := midB (z := (c : Int) + lc) HB5.out HO5.out q0 q1 (Nat.le_refl _) HNG.out HLG.out
                   generalize ((w5.setCell ⟨wr.heap.size, 0, none⟩ (.slice a5 (A.length + 1) c5)).setCell ⟨wr.heap.size, 1, none⟩ (.int .i64 ((c : Int) + lc))) = W6 at FX ⊢
                   obtain ⟨G, hG⟩ : ∃ G, G = wr.heap.size := ⟨_, rfl⟩
                   rw [← hG] at FX ⊢
                   clear hG)
                | (have FX := midA (z := (c : Int) + lc) HB5.out HO5.out
                   generalize (w5.alloc (.cells #[.slice a5 (A.length + 1) c5, .int .i64 ((c : Int) + lc)] 53)) = W6 at FX ⊢
                   generalize w5.heap.size = G at FX ⊢)
              have FH := Lib.hid FX
              clear FX
              obtain ⟨bb, hbb⟩ : ∃ bb, bett (A ++ [m], c + lc) (B, d) = bb := ⟨_, rfl⟩
              have hgl2 := HGL.out.2
              have HK7 := Lib.hid (show ∀ (W' : World), Below W6.heap.size W6 W' → W'.cell? ⟨G, 0, none⟩ = some (.slice a5 (A.length + 1) c5) ∧ W'.cell? ⟨G, 1, none⟩ = some (.int .i64 ((c : Int) + lc)) ∧ W'.cell? ⟨w.heap.size, (k + m) * 2, none⟩ = some (us (k + m)) ∧ W'.cell? ⟨w.heap.size, (k + m) * 2 + 1, none⟩ = some (.int .i64 (d : Int)) ∧ W'.frozen? ⟨w.heap.size, (k + m) * 2, none⟩ = false ∧ W'.frozen? ⟨w.heap.size, (k + m) * 2 + 1, none⟩ = false from fun W' hb =>
                have h6 : w.heap.size < W6.heap.size := Nat.lt_of_lt_of_le hgl2 FH.out.be.size
                ⟨(hb.cell (p := ⟨G, 0, none⟩) FH.out.lt).trans FH.out.c0, (hb.cell (p := ⟨G, 1, none⟩) FH.out.lt).trans FH.out.c1,
                  (hb.cell (p := ⟨w.heap.size, (k + m) * 2, none⟩) h6).trans ((FH.out.be.cell (p := ⟨w.heap.size, (k + m) * 2, none⟩) hgl2).trans HJ.out.1),
                  (hb.cell (p := ⟨w.heap.size, (k + m) * 2 + 1, none⟩) h6).trans ((FH.out.be.cell (p := ⟨w.heap.size, (k + m) * 2 + 1, none⟩) hgl2).trans HJ.out.2.1),
                  (hb.frozen (p := ⟨w.heap.size, (k + m) * 2, none⟩) h6).trans ((FH.out.be.frozen (p := ⟨w.heap.size, (k + m) * 2, none⟩) hgl2).trans HJ.out.2.2.1),
                  (hb.frozen (p := ⟨w.heap.size, (k + m) * 2 + 1, none⟩) h6).trans ((FH.out.be.frozen (p := ⟨w.heap.size, (k + m) * 2 + 1, none⟩) hgl2).trans HJ.out.2.2.2)⟩)
              have HBT := Lib.hid (fun (wq : World) (hb : Below W6.heap.size W6 wq) => show Calls Tryd.prog 38 #[.agg #[.slice a5 (A.length + 1) c5, .int .i64 ((c : Int) + lc)], .agg #[us (k + m), .int .i64 (d : Int)]] wq fun e w' => e = .returned (.bool bb) ∧ Below W6.heap.size W6 w' by
                have h0 := better_any (.slice a5 (A.length + 1) c5) (us (k + m)) (A ++ [m]) B (c + lc) d wq (RowOf.of_own (own_belowS FH.out.ow hb)) (RowOf.of_own (own_belowS (own_belowS HWj.out FH.out.be) hb)) (by have := HBD2.out.1; omega) (by have := HBD2.out.2; omega)
                rw [Int.natCast_add, hbb] at h0
                exact h0.mono fun e w' ⟨he, hb'⟩ => ⟨he, hb.trans (hb'.mono hb.size)⟩)
              have HBB := Lib.hid hbb
              have HR0 := Lib.hid (Below.refl W6.heap.size W6)
              have HR1 := Lib.hid (show Below W6.heap.size W6 W6.drew from HR0.out.drew)
              have hkm0 : (0 : Int) ≤ (k : Int) + m := by omega
              have hkm1 : (k : Int) + m < (L.length : Int) + 1 := by omega
              have hkmw : IntKind.i64.wrap ((k : Int) + m) = (k : Int) + m := IntWalk.i64_in _ (by omega)
              have hkmt : ((k : Int) + m).toNat = k + m := by omega
              obtain ⟨t0, t1, t2, t3, -, -⟩ := HK7.out _ HR0.out
              obtain ⟨v0, v1, v2, v3, -, -⟩ := HK7.out _ HR1.out
              clear hbb hgl2
              go_wp2_with fail
              go_region_held3 (fun W' => W'.cell? ⟨G, 0, none⟩ = some (.slice a5 (A.length + 1) c5) ∧ W'.cell? ⟨G, 1, none⟩ = some (.int .i64 ((c : Int) + lc)) ∧ W'.cell? ⟨w.heap.size, (k + m) * 2, none⟩ = some (us (k + m)) ∧ W'.cell? ⟨w.heap.size, (k + m) * 2 + 1, none⟩ = some (.int .i64 (d : Int)))
                (first | exact ⟨t0, t1, t2, t3⟩ | exact ⟨v0, v1, v2, v3⟩ | exact ⟨s0, s1, s2, s3⟩ | fail)
                (first
                  | (go_at_call 38; (with_reducible refine (HBT.out _ ?_).mono ?_); (focus (first | exact HR0.out | exact HR1.out)); rintro e w7 ⟨rfl, hb7⟩; have HB7 := Lib.hid hb7; clear hb7; obtain ⟨s0, s1, s2, s3, sf0, sf1⟩ := HK7.out _ HB7.out))
              clear t0 t1 t2 t3 v0 v1 v2 v3
              have HBW7 := Lib.hid (HB.out.trans ((FH.out.be.trans (HB7.out.mono FH.out.be.size)).mono HB.out.size))
              have HW7 := Lib.hid ((HW.out.below FH.out.be).below HB7.out)
              cases bb with
              | true =>
                have HST := Lib.hid (show Wr ((w7.setCell ⟨w.heap.size, (k + m) * 2, none⟩ (.slice a5 (A.length + 1) c5)).setCell ⟨w.heap.size, (k + m) * 2 + 1, none⟩ (.int .i64 ((c : Int) + lc))) w.heap.size w.heap.size (L.length + 1) (fun i => if i = k + m then .slice a5 (A.length + 1) c5 else us i) (wtab n (szW L) k (m + 1)) by
                  have h0 := Wr.store (j := k + m) (u := .slice a5 (A.length + 1) c5) (p := (A ++ [m], c + lc)) HW7.out (by omega) (own_base (by rw [List.length_append]; exact own_belowS FH.out.ow HB7.out) (fun g hg => Nat.le_trans HB.out.size (FH.out.ow.lt g hg).1)) (fun e => by have h1 := (FH.out.ow.lt _ e).1; have h2 := HGL.out.2; omega) (by simp)
                  rw [Int.natCast_add] at h0
                  refine h0.congr fun j hj => ?_
                  rw [HNM.out j, HBB.out]
                  rfl)
                go_wp2
                go_roundw
                case rel => exact ⟨m + 1, _, by omega, by omega, by go_num, HST.out, (HBW7.out.setCell (p := ⟨w.heap.size, (k + m) * 2, none⟩) (Nat.le_refl _) _).setCell (p := ⟨w.heap.size, (k + m) * 2 + 1, none⟩) (Nat.le_refl _) _⟩
                case measure => simp [intOf]; omega
              | false =>
                have HST := Lib.hid (show Wr w7 w.heap.size w.heap.size (L.length + 1) us (wtab n (szW L) k (m + 1)) from HW7.out.congr fun j hj => by
                  rw [HNM.out j, HBB.out]
                  by_cases e : j = k + m
                  · rw [if_pos e, e, HQE.out]; rfl
                  · rw [if_neg e])
                go_wp2
                go_roundw
                case rel => exact ⟨m + 1, us, by omega, by omega, by go_num, HST.out, HBW7.out⟩
                case measure => simp [intOf]; omega
          · have HFIN := Lib.hid (show Wr wr w.heap.size w.heap.size (L.length + 1) us (tab n (szW L) (k + 1)) from HW.out.congr fun j hj => by
              rw [show m = f + 1 by omega]; exact HEND.out j)
            go_wp2
            go_roundw
            case rel => exact ⟨k + 1, us, by omega, by go_num, HFIN.out, HB.out⟩
            case measure => simp [intOf]; omega
      · have hkl : k = L.length := by omega
        have HE := Lib.hid (show bestL n (szW L) = (tab n (szW L) k L.length).1 by unfold bestL; rw [hkl, HSL.out])
        obtain ⟨r0, r1, -, -⟩ := HW.out.cells (j := L.length) (by omega)
        have HO := Lib.hid (HW.out.each L.length (by omega))
        clear hkl
        go_wp2
        go_ret
        exact ⟨_, rfl, by rw [HD.out, HE.out]; exact HO.out, HB.out⟩

end Go.Proofs.YtbddokfcohnndabDoor
