/-
  laws.szCellSS, toCellSS, eqCellSS, markCellSS, heldCellSS, by their contracts.
-/
import Derived.Test.YtipmkbahlfkfoaaGreatDoorOwnM
import Derived.Test.YtipmkbahlfkfoaaGreatDoorBaseL
namespace Go.Proofs.YtipmkbahlfkfoaaGreatDoor
open Go.RowKit
set_option linter.unusedVariables false

theorem drewN1 (w : World) : Below w.heap.size w w.drew := ⟨rfl, rfl, rfl, Nat.le_refl _, fun _ _ => rfl⟩
/-- What is left of n behind rows of cells. -/
def SzSS (n : Int) (ls : List (List Cl)) (e : Ending) : Prop :=
  ∃ m : Int, e = .returned (.int .i64 m) ∧ (0 ≤ m → (ls.length : Int) + (lenSS ls : Int) ≤ n ∧ ∀ l ∈ ls, ∀ c ∈ l, (c.2.1.size : Int) ≤ n)

set_option maxRecDepth 100000 in
set_option maxHeartbeats 2000000 in
theorem szCellSS_any (v : Value) (ls : List (List Cl)) (n : Int) (w : World) (hr : RowLs w v ls) (hz : ∀ l ∈ ls, SizedC l) (hn0 : 0 ≤ n) (hn1 : n ≤ 1048576) :
    Calls Tryz.prog 11 #[v, .int .i64 n] w fun e w' => SzSS n ls e ∧ Below w.heap.size w w' := by
  obtain ⟨ao, cap, rfl, h1, h2, h3⟩ := hr
  unfold maxLen at h2
  have H3 := Lib.hid h3; have HZ := Lib.hid hz; clear h3 hz
  by_cases hl : (ls.length : Int) ≤ n
  · go_enter Tryz.func11, Tryz.ntmps11
    go_wp2
    go_loopw [1, 5] (fun a i wr => ∃ (k : Nat) (m : Int), k ≤ ls.length ∧ i = .int .i64 k ∧ a = .int .i64 m ∧ 0 ≤ m ∧ m + ((ls.length : Int) + (lenSS (ls.take k) : Int)) ≤ n ∧ (∀ l ∈ ls.take k, ∀ c ∈ l, (c.2.1.size : Int) ≤ n) ∧ Below w.heap.size w wr) (fun _ i _ => ls.length - (intOf i).toNat)
    case atStart => exact ⟨0, _, Nat.zero_le _, rfl, rfl, by omega, by simp [lenSS], fun c hc => by simp at hc, Below.refl _ _⟩
    case round =>
      obtain ⟨k, m, hk, rfl, rfl, hm0, hm1, hall, hb⟩ := hrel
      have HA := Lib.hid hall; have HB := Lib.hid hb; clear hall hb
      by_cases hlt : k < ls.length
      · obtain ⟨b, o, rfl, hbl, cc⟩ := H3.out.resolve_left (by rintro rfl; simp at hlt)
        obtain ⟨u, c0, hru⟩ := cc k hlt
        have d0 : wr.cell? ⟨b, o + k, none⟩ = some u := (HB.out.cell (p := ⟨b, _, none⟩) hbl).trans c0
        have HRU := Lib.hid (hru.mono HB.out)
        have HZK := Lib.hid (show SizedC ls[k] from HZ.out _ (List.getElem_mem _))
        have HTK := Lib.hid (lenSS_take ls k hlt)
        have HNX := Lib.hid (show (∀ c ∈ ls[k], (c.2.1.size : Int) ≤ n) → ∀ l ∈ ls.take (k + 1), ∀ c ∈ l, (c.2.1.size : Int) ≤ n by
          intro h l hc
          rw [List.take_succ_eq_append_getElem hlt, List.mem_append] at hc
          rcases hc with hc | hc
          · exact HA.out l hc
          · rw [List.mem_singleton] at hc; rw [hc]; exact h)
        clear cc c0 hru
        have hmn : m ≤ 1048576 := by omega
        have hmn2 : m ≤ n := by omega
        go_wp2_with fail
        refine (szCellS_left u ls[k] m _ HRU.out HZK.out hm0 hmn).mono ?_
        rintro e w1 ⟨⟨q, rfl, hq⟩, hb1⟩
        have HB1 := Lib.hid (HB.out.trans (hb1.mono HB.out.size)); clear hb1
        by_cases hr : 0 ≤ q
        · obtain ⟨q1, q2⟩ := hq hr
          have HN := Lib.hid (HNX.out (fun c hc => by have := q2 c hc; omega))
          have hq3 := HTK.out
          clear q2 hq
          go_wp2
          go_roundw
          case rel => exact ⟨k + 1, q, by omega, by go_num, rfl, hr, by omega, HN.out, HB1.out⟩
          case measure => simp [intOf]; omega
        · clear hq
          go_wp2
          go_ret
          exact ⟨⟨-1, rfl, by omega⟩, HB1.out⟩
      · obtain rfl : k = ls.length := by omega
        have HAL := Lib.hid (show ∀ l ∈ ls, ∀ c ∈ l, (c.2.1.size : Int) ≤ n by have := HA.out; rwa [List.take_of_length_le (Nat.le_refl _)] at this)
        rw [List.take_of_length_le (Nat.le_refl _)] at hm1
        go_wp2
        go_ret
        exact ⟨⟨m, rfl, fun _ => ⟨by omega, HAL.out⟩⟩, HB.out⟩
  · go_enter Tryz.func11, Tryz.ntmps11
    go_wp2
    go_ret
    exact ⟨⟨-1, rfl, by omega⟩, Below.refl _ _⟩

set_option maxRecDepth 100000 in
set_option maxHeartbeats 4000000 in
theorem eqCellSS_same (v1 v2 : Value) (ls : List (List Cl)) (w : World) (h1 : RowLs w v1 ls) (h2 : RowLs w v2 ls) :
    Calls Tryz.prog 16 #[v1, v2] w fun e w' => e = .returned (.bool true) ∧ Below w.heap.size w w' := by
  obtain ⟨a1, c1, rfl, l1, m1, r1⟩ := h1
  obtain ⟨a2, c2, rfl, l2, m2, r2⟩ := h2
  unfold maxLen at m1 m2
  have R1 := Lib.hid r1; have R2 := Lib.hid r2
  clear r1 r2
  go_enter Tryz.func16, Tryz.ntmps16
  go_wp2
  go_loopw [5] (fun i wr => ∃ k : Nat, k ≤ ls.length ∧ i = .int .i64 (k : Int) ∧ Below w.heap.size w wr) (fun i _ => ls.length - (intOf i).toNat)
  case atStart => exact ⟨0, Nat.zero_le _, rfl, Below.refl _ _⟩
  case round =>
    obtain ⟨k, hk, rfl, hb⟩ := hrel
    have HB := Lib.hid hb; clear hb
    by_cases hlt : k < ls.length
    · obtain ⟨b1, o1, rfl, lt1, cc1⟩ := R1.out.resolve_left (by rintro rfl; simp at hlt)
      obtain ⟨b2, o2, rfl, lt2, cc2⟩ := R2.out.resolve_left (by rintro rfl; simp at hlt)
      obtain ⟨u1, p1, x1⟩ := cc1 k hlt
      obtain ⟨u2, p2, x2⟩ := cc2 k hlt
      have d1 := (HB.out.cell (p := ⟨b1, _, none⟩) lt1).trans p1
      have d2 := (HB.out.cell (p := ⟨b2, _, none⟩) lt2).trans p2
      have X1 := Lib.hid (x1.mono HB.out); have X2 := Lib.hid (x2.mono HB.out)
      clear cc1 cc2 p1 p2 x1 x2
      have bk0 : (0 : Int) ≤ (k : Int) := by omega
      have bk1 : (k : Int) < (ls.length : Int) := by omega
      go_wp2_with fail
      go_region_with ((go_at_call 15; refine (eqCellS_same _ _ ls[k] _ (X1.out.mono (drewN1 wr)) (X2.out.mono (drewN1 wr))).mono ?_; rintro e w1 ⟨rfl, hb1⟩))
      all_goals
        have HB2 := Lib.hid (HB.out.trans (((drewN1 wr).trans hb1).mono HB.out.size))
        clear hb1
        (try go_wp2)
        go_roundw
        case rel => exact ⟨k + 1, by omega, by go_num, HB2.out⟩
        case measure => simp [intOf]; omega
    · obtain rfl : k = ls.length := by omega
      go_wp2
      go_ret
      exact ⟨rfl, HB.out⟩

/-- What marking rows keeps: all but the blocks of the rows. -/
structure MarkF (base : Nat) (us : List Value) (w w' : World) : Prop where
  below : Below base w w'
  size : w.heap.size ≤ w'.heap.size
  rest : ∀ b, b < w.heap.size → (∀ u ∈ us, u.ownBlock ≠ some b) → w'.heap[b]? = w.heap[b]?
theorem MarkF.refl (base : Nat) (us : List Value) (w : World) : MarkF base us w w := ⟨Below.refl _ _, Nat.le_refl _, fun _ _ _ => rfl⟩
theorem MarkF.next {base : Nat} {us : List Value} {w w' w2 : World} (h : MarkF base us w w') {u : Value} (hg : w'.grownBy w2 u.ownBlock) (hu : u ∈ us) (hb : ∀ x, u.ownBlock = some x → base ≤ x) (hB : base ≤ w.heap.size) : MarkF base us w w2 :=
  ⟨h.below.grown hg (Nat.le_trans hB h.size) hb, Nat.le_trans h.size hg.size, fun b hlt hb => by rw [hg.block b (by have := h.size; omega) (fun e => hb u hu e.symm), h.rest b hlt hb]⟩

set_option maxRecDepth 100000 in
set_option maxHeartbeats 4000000 in
theorem markCellSS_any (base m : Nat) (v : Value) (us : List Value) (ls : List (List Cl)) (w : World) (hm : m ≤ 1000000) (hn : lenSS ls ≤ 1048576) (hc : ls.length ≤ 1048576) (hB : base ≤ w.heap.size) (hown : OwnSS w base v us ls) :
    Calls Tryz.prog 17 #[v, .int .i64 (m : Int)] w fun e w' => e = .returned (.int .i64 ((m + lenSS ls * 3 : Nat) : Int)) ∧ OwnSS w' base v us (marksSS m ls) ∧ MarkF base us w w' := by
  have hml := marksSS_length m ls
  have hsh := own_shape hown.row
  obtain ⟨aa, ac, rfl⟩ := hsh
  have hcap : ac ≤ 2 ^ 63 - 1 := by
    rcases hown.row.2 with ⟨h1, h2⟩ | ⟨g, cap, cur, h1, _, _, _, h4, _⟩
    · injection h1 with _ _ h3; omega
    · injection h1 with _ _ h3; unfold maxLen at h4; omega
  have HO := Lib.hid hown
  have hul := hown.len
  have HUL := Lib.hid hul
  clear hown hml hul
  go_enter Tryz.func17, Tryz.ntmps17
  go_wp2
  go_loopw [1, 5] (fun a i wr => ∃ k : Nat, k ≤ ls.length ∧ i = .int .i64 (k : Int) ∧ a = .int .i64 ((m + lenSS (ls.take k) * 3 : Nat) : Int) ∧ OwnSS wr base (.slice aa ls.length ac) us (mkdSS m k ls) ∧ MarkF base us w wr) (fun _ i _ => ls.length - (intOf i).toNat)
  case atStart => exact ⟨0, Nat.zero_le _, rfl, by simp [lenSS], by rw [show mkdSS m 0 ls = ls by simp [mkdSS]]; exact HO.out, MarkF.refl _ _ _⟩
  case round =>
    obtain ⟨k, hk, rfl, rfl, hown, hf⟩ := hrel
    have HOR := Lib.hid hown; have HF := Lib.hid hf
    clear hown hf
    by_cases hlt : k < ls.length
    · have hku : k < us.length := by rw [HUL.out]; exact hlt
      have hrow := HOR.out.row
      rw [mkdSS_length] at hrow
      obtain ⟨g, rfl⟩ : ∃ g, aa = some ⟨g, 0, none⟩ := by
        rcases hrow.2 with ⟨h1, h2⟩ | ⟨g, cap, cur, h1, _⟩
        · omega
        · injection h1 with h1 _ _; exact ⟨g, h1⟩
      have d0 : wr.cell? ⟨g, k, none⟩ = some us[k] := by
        rw [hrow.cellAt k (by omega), List.getElem?_eq_getElem hku]
      have hme : k < (mkdSS m k ls).length := by rw [mkdSS_length]; exact hlt
      have heach := HOR.out.each k hku hme
      rw [mkdSS_at m k ls hlt] at heach
      have hkl := lenSS_in ls k hlt
      have hkt := lenSS_take ls k hlt
      have hk1 := lenSS_le ls k
      have hk2 := lenSS_le ls (k + 1)
      have HC := Lib.hid (markCellS_full base (m + lenSS (ls.take k) * 3) us[k] ls[k] wr (by omega) (by omega) heach)
      have HNX := Lib.hid (fun w' (hg : wr.grownBy w' us[k].ownBlock) (ho : w'.ownsRow base 39 3 us[k] (marksC (m + lenSS (ls.take k) * 3) ls[k].length).length (flatC (marksC (m + lenSS (ls.take k) * 3) ls[k].length))) =>
        (show OwnSS w' base (.slice (some ⟨g, 0, none⟩) ls.length ac) us (mkdSS m (k + 1) ls) by
          rw [← mkdSS_next m k ls hlt]
          exact HOR.out.mark k hku hme _ (by rw [marksC_length, mkdSS_at m k ls hlt]) hg ho))
      have HEB := Lib.hid (fun (x : Nat) (hx : us[k].ownBlock = some x) => (heach.lt x hx).1)
      have HMEM := Lib.hid (List.getElem_mem hku)
      have hE : m + lenSS (ls.take k) * 3 + ls[k].length * 3 = m + lenSS (ls.take (k + 1)) * 3 := by omega
      rw [hE] at HC
      clear hrow heach hme
      go_wp2_with fail
      refine HC.out.mono ?_
      rintro e w1 ⟨rfl, ho1, hg1⟩
      have HO1 := Lib.hid (HNX.out w1 hg1 (by rw [marksC_length]; exact ho1))
      have HF1 := Lib.hid (HF.out.next hg1 HMEM.out HEB.out hB)
      clear ho1 hg1
      generalize hM : ((m + lenSS (ls.take (k + 1)) * 3 : Nat) : Int) = M
      have HMM := Lib.hid hM
      clear hM hE
      go_wp2
      go_roundw
      case rel => exact ⟨k + 1, by omega, by go_num, by rw [HMM.out], HO1.out, HF1.out⟩
      case measure => simp [intOf]; omega
    · obtain rfl : k = ls.length := by omega
      have HA := Lib.hid (show mkdSS m ls.length ls = marksSS m ls by
        rw [mkdSS, List.drop_eq_nil_of_le (Nat.le_refl _), List.append_nil, List.take_of_length_le (by rw [marksSS_length]; exact Nat.le_refl _)])
      rw [List.take_of_length_le (Nat.le_refl _)]
      go_wp2
      go_ret
      exact ⟨rfl, by have := HOR.out; rwa [HA.out] at this, HF.out⟩

/-- What toCellSS's loop has: the first k rows. -/
def Filled (w : World) (B n : Nat) (us : List Value) (ls : List (List Cl)) (wr : World) (M : List Value) (k : Nat) : Prop :=
  us.length = k ∧ wr.ownsRow B 24 1 (.slice (some ⟨B, 0, none⟩) n n) n (us ++ M.drop k) ∧ Below w.heap.size w wr ∧ (∀ (j : Nat) (h : j < us.length) (h' : j < ls.length), wr.ownsRow (B + 1) 39 3 us[j] ls[j].length (flatC ls[j])) ∧
    ∀ (i j : Nat) (hi : i < us.length) (hj : j < us.length) (b : Nat), us[i].ownBlock = some b → us[j].ownBlock = some b → i = j
theorem Filled.next {w wr w1 : World} {B n k : Nat} {us : List Value} {ls : List (List Cl)} {M : List Value} {u : Value} (h : Filled w B n us ls wr M k) (hk : k < n) (hkl : k < ls.length) (hM : M.length = n) (hB : w.heap.size ≤ B) (hBl : B < wr.heap.size) (hb1 : Below wr.heap.size wr w1)
    (hu : w1.ownsRow wr.heap.size 39 3 u ls[k].length (flatC ls[k])) : Filled w B n (us ++ [u]) ls (w1.setCell ⟨B, k, none⟩ u) M (k + 1) := by
  obtain ⟨h1, h2, h3, h4, h5⟩ := h
  have hs1 := hb1.size
  have hset : ∀ b, b ≠ B → (w1.setCell ⟨B, k, none⟩ u).heap[b]? = w1.heap[b]? := fun b hbn => Below.heap_setCell _ _ _ _ hbn
  have hus : ∀ j (hj : j < us.length) b, us[j].ownBlock = some b → B + 1 ≤ b ∧ b < wr.heap.size := fun j hj b hb => (h4 j hj (by omega)).lt b hb
  have hu1 : ∀ b, u.ownBlock = some b → wr.heap.size ≤ b ∧ b < w1.heap.size := fun b hb => hu.lt b hb
  refine ⟨by simp [h1], ?_, (h3.trans (hb1.mono h3.size)).setCell hB _, ?_, ?_⟩
  · have e : (us ++ M.drop k).set k u = us ++ [u] ++ M.drop (k + 1) := by
      rw [List.set_append_right _ _ (by omega), h1, Nat.sub_self, List.drop_eq_getElem_cons (by omega), List.set_cons_zero, List.append_assoc]
      rfl
    rw [← e]
    exact ((own_belowS h2 hb1).stored k u).1
  · intro j hj hj'
    by_cases hlt : j < us.length
    · rw [List.getElem_append_left hlt]
      exact own_keep (h4 j hlt hj') (fun g hg => by rw [hset g (by have := hus j hlt g hg; omega), hb1.block g (hus j hlt g hg).2])
    · have : j = us.length := by simp at hj; omega
      subst this
      simp only [List.getElem_append_right (Nat.le_refl _), Nat.sub_self, List.getElem_cons_zero]
      subst h1
      exact own_base (own_keep hu (fun g hg => hset g (by have := hu1 g hg; omega))) (fun g hg => by have := hu1 g hg; omega)
  · intro i j hi hj b hbi hbj
    by_cases hli : i < us.length
    · rw [List.getElem_append_left hli] at hbi
      by_cases hlj : j < us.length
      · rw [List.getElem_append_left hlj] at hbj; exact h5 i j hli hlj b hbi hbj
      · have : j = us.length := by simp at hj; omega
        subst this
        simp only [List.getElem_append_right (Nat.le_refl _), Nat.sub_self, List.getElem_cons_zero] at hbj
        have := hus i hli b hbi; have := hu1 b hbj; omega
    · have : i = us.length := by simp at hi; omega
      subst this
      simp only [List.getElem_append_right (Nat.le_refl _), Nat.sub_self, List.getElem_cons_zero] at hbi
      by_cases hlj : j < us.length
      · rw [List.getElem_append_left hlj] at hbj
        have := hus j hlj b hbj; have := hu1 b hbi; omega
      · simp at hj; omega
theorem Filled.done {w wr : World} {B n : Nat} {us : List Value} {ls : List (List Cl)} {M : List Value} (h : Filled w B n us ls wr M n) (hM : M.length = n) (hn : ls.length = n) (hB : w.heap.size ≤ B) : OwnSS wr w.heap.size (.slice (some ⟨B, 0, none⟩) n n) us ls := by
  obtain ⟨h1, h2, h3, h4, h5⟩ := h
  rw [List.drop_eq_nil_of_le (by omega), List.append_nil] at h2
  refine ⟨by rw [hn]; exact own_base h2 (fun g hg => by have := (h2.lt g hg).1; omega), by omega, fun k hk hk' => own_base (h4 k hk hk') (fun g hg => by have := ((h4 k hk hk').lt g hg).1; omega), ?_, h5⟩
  intro k hk b hb he
  have : B = b := by simpa [Value.ownBlock] using he
  have := ((h4 k hk (by omega)).lt b hb).1
  omega

theorem infoCS1 : (Tryz.prog.info? 24).map (fun i => (i.zero, i.size, i.bytes)) = some (some (.slice none 0 0), 1, 24) := by kernel_rfl

set_option maxRecDepth 100000 in
set_option maxHeartbeats 4000000 in
theorem toCellSS_any (v : Value) (ls : List (List Cl)) (w : World) (hr : RowLs w v ls) (hl : ls.length ≤ 1048576) (hll : ∀ l ∈ ls, l.length ≤ 1048576) :
    Calls Tryz.prog 13 #[v] w (NewSS ls w) := by
  obtain ⟨i0, hi, hz0, hz1, hz2⟩ := info_parts infoCS1
  obtain ⟨ao, cap, rfl, h1, h2, h3⟩ := hr
  unfold maxLen at h2
  have H3 := Lib.hid h3; have HLL := Lib.hid hll; clear h3 hll
  have hby : i0.bytes * ls.length ≤ 281474976710656 := by rw [hz2]; omega
  go_enter Tryz.func13, Tryz.ntmps13
  go_wp2_with (at_make; refine wpList_make_full _ rfl _ _ 27 rfl w.heap.size 24 i0 (.slice none 0 0) 1 Tryz.underlying27 hi hz0 hz1 .i64 .i64 (ls.length : Int) (ls.length : Int) ls.length rfl rfl rfl rfl hby (by unfold maxLen; omega) (Nat.le_refl _) ?_; intro w1 hown1 hgrow1)
  have hM : (madeCells (Value.slice none 0 0).cells (ls.length * 1)).toList.length = ls.length := by have := hown1.1; omega
  generalize (madeCells (Value.slice none 0 0).cells (ls.length * 1)).toList = M at hown1 hM
  have B1 := Lib.hid ((Below.refl w.heap.size w).grown hgrow1 (Nat.le_refl _) (by simp))
  have HM := Lib.hid hM
  have O1 := Lib.hid hown1
  clear hgrow1 hM hown1 hby
  go_wp2_with fail
  go_loopw [4] (fun i wr => ∃ (k : Nat) (us : List Value), k ≤ ls.length ∧ i = .int .i64 (k : Int) ∧ Filled w w.heap.size ls.length us ls wr M k) (fun i _ => ls.length - (intOf i).toNat)
  case atStart => exact ⟨0, [], Nat.zero_le _, rfl, rfl, by simpa using O1.out, B1.out, fun j h => by simp at h, fun i j h => by simp at h⟩
  case round =>
    obtain ⟨k, us, hk, rfl, hf⟩ := hrel
    have HF := Lib.hid hf; clear hf
    by_cases hlt : k < ls.length
    · obtain ⟨b, o, rfl, hbl, cc⟩ := H3.out.resolve_left (by rintro rfl; simp at hlt)
      obtain ⟨u, c0, hru⟩ := cc k hlt
      obtain ⟨hul, hro, hbw, -, -⟩ := HF.out
      have d0 : wr.cell? ⟨b, o + k, none⟩ = some u := (hbw.cell (p := ⟨b, _, none⟩) hbl).trans c0
      have HRU := Lib.hid (hru.mono hbw)
      have hB := (hro.lt w.heap.size rfl).2
      have HRO := Lib.hid hro
      have HLK := Lib.hid (HLL.out _ (List.getElem_mem hlt))
      have HNX := Lib.hid (fun w1 u hb1 hu => HF.out.next (w1 := w1) (u := u) hlt hlt HM.out (Nat.le_refl _) hB hb1 hu)
      clear cc c0 hru hro hbw hul
      go_wp2_with fail
      refine (toCellS_any u ls[k] _ HRU.out HLK.out).mono ?_
      rintro e w2 ⟨v2, rfl, ho2, hb2⟩
      obtain ⟨a2, c2, rfl⟩ := own_shape ho2
      have HO2 := Lib.hid (own_belowS HRO.out hb2)
      obtain ⟨u3, g3⟩ : ∃ u, w2.cell? ⟨w.heap.size, k, none⟩ = some u := by
        rw [HO2.out.cellAt k (by omega), List.getElem?_eq_getElem (by have := HO2.out.1; omega)]; exact ⟨_, rfl⟩
      have z3 := HO2.out.frozenAt k
      have HN2 := Lib.hid (HNX.out w2 _ hb2 ho2)
      clear ho2 hb2 HNX
      go_wp2
      go_roundw
      case rel => exact ⟨k + 1, us ++ [.slice a2 ls[k].length c2], by omega, by go_num, HN2.out⟩
      case measure => simp [intOf]; omega
    · obtain rfl : k = ls.length := by omega
      have HD := Lib.hid (HF.out.done HM.out rfl (Nat.le_refl _))
      have HB := Lib.hid HF.out.2.2.1
      go_wp2
      go_ret
      exact ⟨_, us, rfl, HD.out, HB.out⟩

end Go.Proofs.YtipmkbahlfkfoaaGreatDoor
