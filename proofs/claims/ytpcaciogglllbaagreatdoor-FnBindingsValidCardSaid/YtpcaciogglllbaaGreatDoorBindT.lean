/-
  laws.toBinding, toBindingS, by their contracts.
-/
import Derived.Test.YtpcaciogglllbaaGreatDoorBindW
import Derived.Test.YtpcaciogglllbaaGreatDoorFr2
namespace Go.Proofs.YtpcaciogglllbaaGreatDoor
open Go.RowKit
set_option linter.unusedVariables false

/-- A binding in a block that may be written. -/
def Bn2 (w : World) (B : Nat) (x y : Value) : Prop := w.cell? ⟨B, 0, none⟩ = some x ∧ w.cell? ⟨B, 1, none⟩ = some y ∧ w.frozen? ⟨B, 0, none⟩ = false ∧ w.frozen? ⟨B, 1, none⟩ = false ∧ B < w.heap.size
theorem Bn2.keep {W w1 : World} {B : Nat} {x y : Value} (h : Bn2 W B x y) (hb : Below W.heap.size W w1) : Bn2 w1 B x y := by
  obtain ⟨h1, h2, h3, h4, h5⟩ := h
  obtain ⟨hc, hf⟩ := bcell hb
  have hs := hb.size
  exact ⟨(hc _ _ (by omega)).trans h1, (hc _ _ (by omega)).trans h2, (hf _ _ (by omega)).trans h3, (hf _ _ (by omega)).trans h4, by omega⟩
theorem Bn2.new (W : World) (x y : Value) (t : TypeId) : Bn2 (W.alloc (.cells #[x, y] t)) W.heap.size x y := by
  refine ⟨?_, ?_, ?_, ?_, ?_⟩ <;> simp [go_sem]
theorem Bn2.al {W : World} {B : Nat} {x y : Value} (h : Bn2 W B x y) (o : Obj) : Bn2 (W.alloc o) B x y := h.keep ((Below.refl _ W).alloc (Nat.le_refl _) _)

set_option maxRecDepth 100000 in
set_option maxHeartbeats 2000000 in
theorem toBinding_any (u : Value) (nm : ByteArray) (l : List Cl) (w : World) (hr : RowC w u l) (hl : l.length ≤ 1048576) :
    Calls Tryz.prog 43 #[.agg #[.string nm, u]] w fun e w' => ∃ u', e = .returned (.agg #[.string nm, u']) ∧ w'.ownsRow w.heap.size 44 3 u' l.length (flatC l) ∧ Below w.heap.size w w' := by
  have HB0 := Lib.hid ((((Below.refl w.heap.size w).alloc (Nat.le_refl _) (.cells #[.string nm, u] 60)).alloc (by simp) (.cells #[.string ByteArray.empty, .slice none 0 0] 46)).alloc (by simp; omega) (.cells #[.string nm, .slice none 0 0] 46))
  have HC := Lib.hid (toCellS_any u l _ (hr.mono HB0.out) hl)
  obtain ⟨ao, cap, rfl, -⟩ := hr
  go_enter Tryz.func43, Tryz.ntmps43
  go_wp2_with fail
  refine HC.out.mono ?_
  rintro e w2 ⟨v2, rfl, ho2, hb2⟩
  have hs2 := hb2.size
  have hs3 : w.heap.size + 3 ≤ w2.heap.size := by simpa using hs2
  obtain ⟨a2, c2, rfl⟩ := own_shape ho2
  obtain ⟨x0, x1, x2, x3, -⟩ : Bn2 w2 (w.heap.size + 1) (.string ByteArray.empty) (.slice none 0 0) := by
    have := ((Bn2.new (w.alloc (.cells #[.string nm, .slice ao l.length cap] 60)) (.string ByteArray.empty) (.slice none 0 0) 46).al (.cells #[.string nm, .slice none 0 0] 46)).keep hb2
    simpa using this
  obtain ⟨y0, y1, y2, y3, -⟩ : Bn2 w2 (w.heap.size + 1 + 1) (.string nm) (.slice none 0 0) := by
    have := (Bn2.new ((w.alloc (.cells #[.string nm, .slice ao l.length cap] 60)).alloc (.cells #[.string ByteArray.empty, .slice none 0 0] 46)) (.string nm) (.slice none 0 0) 46).keep hb2
    simpa using this
  have HB2 := Lib.hid (HB0.out.trans (hb2.mono (by simp; omega)))
  have hou : ∀ g, (Value.slice a2 l.length c2).ownBlock = some g → w.heap.size + 3 ≤ g := fun g hg => by have := (ho2.lt g hg).1; simpa using this
  have HOU := Lib.hid hou
  have HO2 := Lib.hid ho2
  have HBE := Lib.hid (((HB2.out.setCell (p := ⟨w.heap.size + 1 + 1, 1, none⟩) (by show w.heap.size ≤ w.heap.size + 1 + 1; omega) (.slice a2 l.length c2)).setCell (p := ⟨w.heap.size + 1, 0, none⟩) (by show w.heap.size ≤ w.heap.size + 1; omega) (.string nm)).setCell (p := ⟨w.heap.size + 1, 1, none⟩) (by show w.heap.size ≤ w.heap.size + 1; omega) (.slice a2 l.length c2))
  have HOE := Lib.hid (show (((w2.setCell ⟨w.heap.size + 1 + 1, 1, none⟩ (.slice a2 l.length c2)).setCell ⟨w.heap.size + 1, 0, none⟩ (.string nm)).setCell ⟨w.heap.size + 1, 1, none⟩ (.slice a2 l.length c2)).ownsRow w.heap.size 44 3 (.slice a2 l.length c2) l.length (flatC l) from
    own_base (own_keep HO2.out (fun g hg => by
      have := HOU.out g hg
      rw [Below.heap_setCell _ _ _ _ (show g ≠ w.heap.size + 1 by omega), Below.heap_setCell _ _ _ _ (show g ≠ w.heap.size + 1 by omega), Below.heap_setCell _ _ _ _ (show g ≠ w.heap.size + 1 + 1 by omega)])) (fun g hg => by have := HOU.out g hg; omega))
  clear ho2 hb2 hou hs2
  go_wp2
  exact bodyPost_ret (v := .agg #[.string nm, .slice a2 l.length c2]) (by simp [results, Tryz.results43, go_sem, x0, x1]) rfl ⟨_, rfl, HOE.out, HBE.out⟩

/-- What toBindingS's loop has: the first k bindings. -/
def FilledB (w : World) (B n : Nat) (us : List Value) (env : List Bd) (wr : World) (M : List Value) (k : Nat) : Prop :=
  us.length = k ∧ wr.ownsRow B 46 2 (.slice (some ⟨B, 0, none⟩) n n) n (bindF (env.take k) us ++ M.drop (k * 2)) ∧ Below w.heap.size w wr ∧ (∀ (j : Nat) (h : j < us.length) (h' : j < env.length), wr.ownsRow (B + 1) 44 3 us[j] env[j].2.length (flatC env[j].2)) ∧
    ∀ (i j : Nat) (hi : i < us.length) (hj : j < us.length) (b : Nat), us[i].ownBlock = some b → us[j].ownBlock = some b → i = j
theorem FilledB.next {w wr w1 : World} {B n k : Nat} {us : List Value} {env : List Bd} {M : List Value} {u : Value} (h : FilledB w B n us env wr M k) (hk : k < n) (hkl : k < env.length) (hM : M.length = n * 2) (hB : w.heap.size ≤ B) (hBl : B < wr.heap.size) (hb1 : Below wr.heap.size wr w1)
    (hu : w1.ownsRow wr.heap.size 44 3 u env[k].2.length (flatC env[k].2)) : FilledB w B n (us ++ [u]) env ((w1.setCell ⟨B, k * 2, none⟩ (.string env[k].1)).setCell ⟨B, k * 2 + 1, none⟩ u) M (k + 1) := by
  obtain ⟨h1, h2, h3, h4, h5⟩ := h
  have hs1 := hb1.size
  have hset : ∀ b, b ≠ B → ((w1.setCell ⟨B, k * 2, none⟩ (.string env[k].1)).setCell ⟨B, k * 2 + 1, none⟩ u).heap[b]? = w1.heap[b]? := fun b hbn => (Below.heap_setCell _ _ _ _ hbn).trans (Below.heap_setCell _ _ _ _ hbn)
  have hus : ∀ j (hj : j < us.length) b, us[j].ownBlock = some b → B + 1 ≤ b ∧ b < wr.heap.size := fun j hj b hb => (h4 j hj (by omega)).lt b hb
  have hu1 : ∀ b, u.ownBlock = some b → wr.heap.size ≤ b ∧ b < w1.heap.size := fun b hb => hu.lt b hb
  have htl : (env.take k).length = us.length := by rw [List.length_take]; omega
  have hfl : (bindF (env.take k) us).length = k * 2 := by rw [bindF_length _ _ htl, htl, h1]
  refine ⟨by simp [h1], ?_, ((h3.trans (hb1.mono h3.size)).setCell hB _).setCell hB _, ?_, ?_⟩
  · have e : ((bindF (env.take k) us ++ M.drop (k * 2)).set (k * 2) (.string env[k].1)).set (k * 2 + 1) u = bindF (env.take (k + 1)) (us ++ [u]) ++ M.drop ((k + 1) * 2) := by
      rw [List.set_append_right _ _ (by omega), hfl, Nat.sub_self, List.set_append_right _ _ (by omega), hfl, show k * 2 + 1 - k * 2 = 1 by omega, List.drop_eq_getElem_cons (by omega), List.set_cons_zero, List.drop_eq_getElem_cons (by omega), List.set_cons_succ, List.set_cons_zero,
        List.take_succ_eq_append_getElem hkl, bindF_append _ _ _ _ htl, show (k + 1) * 2 = k * 2 + 1 + 1 by omega, List.append_assoc]
      rfl
    rw [← e]
    exact ((((own_belowS h2 hb1).stored (k * 2) (.string env[k].1)).1).stored (k * 2 + 1) u).1
  · intro j hj hj'
    by_cases hlt : j < us.length
    · rw [List.getElem_append_left hlt]
      exact own_keep (h4 j hlt hj') (fun g hg => by rw [hset g (by have := hus j hlt g hg; omega), hb1.block g (hus j hlt g hg).2])
    · have : j = us.length := by simp at hj; omega
      subst this
      simp only [List.getElem_append_right (Nat.le_refl _), Nat.sub_self, List.getElem_cons_zero]
      subst h1
      exact own_base (own_keep hu (fun g hg => hset g (by have := hu1 g hg; omega))) (fun g hg => by have := hu1 g hg; omega)
  · intro i j hi hj b hbi hbj
    by_cases hli : i < us.length
    · rw [List.getElem_append_left hli] at hbi
      by_cases hlj : j < us.length
      · rw [List.getElem_append_left hlj] at hbj; exact h5 i j hli hlj b hbi hbj
      · have : j = us.length := by simp at hj; omega
        subst this
        simp only [List.getElem_append_right (Nat.le_refl _), Nat.sub_self, List.getElem_cons_zero] at hbj
        have := hus i hli b hbi; have := hu1 b hbj; omega
    · have : i = us.length := by simp at hi; omega
      subst this
      simp only [List.getElem_append_right (Nat.le_refl _), Nat.sub_self, List.getElem_cons_zero] at hbi
      by_cases hlj : j < us.length
      · rw [List.getElem_append_left hlj] at hbj
        have := hus j hlj b hbj; have := hu1 b hbi; omega
      · simp at hj; omega
theorem FilledB.done {w wr : World} {B n : Nat} {us : List Value} {env : List Bd} {M : List Value} (h : FilledB w B n us env wr M n) (hM : M.length = n * 2) (hn : env.length = n) (hB : w.heap.size ≤ B) : OwnB wr w.heap.size (.slice (some ⟨B, 0, none⟩) n n) us env := by
  obtain ⟨h1, h2, h3, h4, h5⟩ := h
  rw [List.drop_eq_nil_of_le (by omega), List.append_nil, List.take_of_length_le (by omega)] at h2
  refine ⟨by rw [hn]; exact own_base h2 (fun g hg => by have := (h2.lt g hg).1; omega), by omega, fun k hk hk' => own_base (h4 k hk hk') (fun g hg => by have := ((h4 k hk hk').lt g hg).1; omega), ?_, h5⟩
  intro k hk b hb he
  have : B = b := by simpa [Value.ownBlock] using he
  have := ((h4 k hk (by omega)).lt b hb).1
  omega

theorem infoBd : (Tryz.prog.info? 46).map (fun i => (i.zero, i.size, i.bytes)) = some (some (.agg #[.string ByteArray.empty, .slice none 0 0]), 2, 40) := by kernel_rfl

set_option maxRecDepth 100000 in
set_option maxHeartbeats 4000000 in
theorem toBindingS_any (v : Value) (env : List Bd) (w : World) (hr : RowB w v env) (hl : env.length ≤ 1048576) (hll : ∀ b ∈ env, b.2.length ≤ 1048576) :
    Calls Tryz.prog 16 #[v] w (NewB env w) := by
  obtain ⟨i0, hi, hz0, hz1, hz2⟩ := info_parts infoBd
  obtain ⟨ao, cap, rfl, h1, h2, h3⟩ := hr
  unfold maxLen at h2
  have H3 := Lib.hid h3; have HLL := Lib.hid hll; clear h3 hll
  have hby : i0.bytes * env.length ≤ 281474976710656 := by rw [hz2]; omega
  go_enter Tryz.func16, Tryz.ntmps16
  go_wp2_with (at_make; refine wpList_make_full _ rfl _ _ 30 rfl w.heap.size 46 i0 (.agg #[.string ByteArray.empty, .slice none 0 0]) 2 Tryz.underlying30 hi hz0 hz1 .i64 .i64 (env.length : Int) (env.length : Int) env.length rfl rfl rfl rfl hby (by unfold maxLen; omega) (Nat.le_refl _) ?_; intro w1 hown1 hgrow1)
  have hM : (madeCells (Value.agg #[.string ByteArray.empty, .slice none 0 0]).cells (env.length * 2)).toList.length = env.length * 2 := by have := hown1.1; omega
  generalize (madeCells (Value.agg #[.string ByteArray.empty, .slice none 0 0]).cells (env.length * 2)).toList = M at hown1 hM
  have B1 := Lib.hid ((Below.refl w.heap.size w).grown hgrow1 (Nat.le_refl _) (by simp))
  have HM := Lib.hid hM
  have O1 := Lib.hid hown1
  clear hgrow1 hM hown1 hby
  go_wp2_with fail
  go_loopw [4] (fun i wr => ∃ (k : Nat) (us : List Value), k ≤ env.length ∧ i = .int .i64 (k : Int) ∧ FilledB w w.heap.size env.length us env wr M k) (fun i _ => env.length - (intOf i).toNat)
  case atStart => exact ⟨0, [], Nat.zero_le _, rfl, rfl, by simpa [bindF] using O1.out, B1.out, fun j h => by simp at h, fun i j h => by simp at h⟩
  case round =>
    obtain ⟨k, us, hk, rfl, hf⟩ := hrel
    have HF := Lib.hid hf; clear hf
    by_cases hlt : k < env.length
    · obtain ⟨b, o, rfl, hbl, cc⟩ := H3.out.resolve_left (by rintro rfl; simp at hlt)
      obtain ⟨u, c0, c1, hru⟩ := cc k hlt
      obtain ⟨hul, hro, hbw, -, -⟩ := HF.out
      have d0 := (hbw.cell (p := ⟨b, _, none⟩) hbl).trans c0
      have d1 := (hbw.cell (p := ⟨b, _, none⟩) hbl).trans c1
      have HRU := Lib.hid (hru.mono hbw)
      have hB := (hro.lt w.heap.size rfl).2
      have HRO := Lib.hid hro
      have HLK := Lib.hid (HLL.out _ (List.getElem_mem hlt))
      have HNX := Lib.hid (fun w1 u hb1 hu => HF.out.next (w1 := w1) (u := u) hlt hlt HM.out (Nat.le_refl _) hB hb1 hu)
      clear cc c0 c1 hru hro hbw hul
      go_wp2_with fail
      refine (toBinding_any u env[k].1 env[k].2 _ HRU.out HLK.out).mono ?_
      rintro e w2 ⟨v2, rfl, ho2, hb2⟩
      obtain ⟨a2, c2, rfl⟩ := own_shape ho2
      have HO2 := Lib.hid (own_belowS HRO.out hb2)
      obtain ⟨u3, g3⟩ : ∃ u, w2.cell? ⟨w.heap.size, k * 2, none⟩ = some u := by
        rw [HO2.out.cellAt (k * 2) (by omega), List.getElem?_eq_getElem (by have := HO2.out.1; omega)]; exact ⟨_, rfl⟩
      obtain ⟨u4, g4⟩ : ∃ u, w2.cell? ⟨w.heap.size, k * 2 + 1, none⟩ = some u := by
        rw [HO2.out.cellAt (k * 2 + 1) (by omega), List.getElem?_eq_getElem (by have := HO2.out.1; omega)]; exact ⟨_, rfl⟩
      have z3 := HO2.out.frozenAt (k * 2)
      have z4 := HO2.out.frozenAt (k * 2 + 1)
      have HN2 := Lib.hid (HNX.out w2 _ hb2 ho2)
      clear ho2 hb2 HNX
      go_wp2
      go_roundw
      case rel => exact ⟨k + 1, us ++ [.slice a2 env[k].2.length c2], by omega, by go_num, HN2.out⟩
      case measure => simp [intOf]; omega
    · obtain rfl : k = env.length := by omega
      have HD := Lib.hid (HF.out.done HM.out rfl (Nat.le_refl _))
      have HB := Lib.hid HF.out.2.2.1
      go_wp2
      go_ret
      exact ⟨_, us, rfl, HD.out, HB.out⟩

end Go.Proofs.YtpcaciogglllbaaGreatDoor
