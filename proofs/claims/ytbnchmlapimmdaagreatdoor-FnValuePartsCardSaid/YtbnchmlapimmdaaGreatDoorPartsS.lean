/-
  spec.l8Parts, ValueParts, by their contracts.
-/
import Derived.Test.YtbnchmlapimmdaaGreatDoorValS
import Derived.Test.YtbnchmlapimmdaaGreatDoorCutL
import Derived.Test.YtbnchmlapimmdaaGreatDoorOwnSS
import Derived.Test.YtbnchmlapimmdaaGreatDoorRowSub
namespace Go.Proofs.YtbnchmlapimmdaaGreatDoor
open Go.RowKit
set_option linter.unusedVariables false

theorem infoCS : (Tryz.prog.info? 23).map (fun i => (i.zero, i.size, i.bytes)) = some (some (.slice none 0 0), 1, 24) := by kernel_rfl

/-- append of cells that are only read to a row of one's own, as a step of a region that draws its order. -/
theorem step_append_rowC {P : Program} {w : World} {ops : Array Oper} {o : Oper} {a : Act} {K : Act → World → Prop} {Q : Exit → Act → World → Prop} {E : Prop} (hgd : o.guard = none) (s x : Operand) (t : TypeId)
    (ho : o.op = .call { callee := .builtin .append, args := #[s, x], argTypes := #[t, t] })
    (base : Nat) (e : TypeId) (i : TypeInfo) (z : Value) (bytes : Nat) (ht : P.underlying t = some (.slice e)) (hi : P.info? e = some i) (hz : i.zero = some z)
    (hsize : i.size = 3) (hby : i.bytes = bytes) (hzs : z.cells.size = 3)
    (v : Value) (n : Nat) (xs : List Value) (hs : a.eval s = v) (hown : w.ownsRow base e 3 v n xs)
    (u : Value) (ys : List Cl) (hx : a.eval x = u) (hsrc : RowC w u ys)
    (h63 : n + ys.length ≤ maxLen) (hbytes : (n + ys.length) * bytes ≤ 140737488355328) (hbase : base ≤ w.heap.size)
    (h : ∀ v' w', w'.ownsRow base e 3 v' (n + ys.length) (xs ++ flatC ys) → w.grownBy w' v.ownBlock → K (a.put o.dst v') w') :
    if Region.wanted o (yielded ops a.tmps) = true then Oper.wp P o a w K Q else E := by
  have hw : Region.wanted o (yielded ops a.tmps) = true := by simp [Region.wanted, hgd]
  rw [if_pos hw]
  obtain ⟨ao, cap, rfl, h1, h2, h3⟩ := hsrc
  cases ao with
  | none =>
    have hy : ys = [] := by
      rcases h3 with h3 | ⟨b, o', hc, -⟩
      · exact h3
      · cases hc
    subst hy
    have hrun := run_append_nothing (P := P) (w := w) base t o.type e i 3 ht hi v n xs hown cap
    unfold Oper.wp
    simp only [List.length_nil] at hx
    simp [execOp, ho, resolve, invoke, builtin, hs, hx, hrun, Result.andThen]
    exact h v w (by simpa [flatC] using hown) (World.grownBy.refl _ _)
  | some ad =>
    refine wp_append_own w s x t ho base e i z 3 bytes ht hi hz hsize hby hzs (by decide) v n xs hs hown ad ys.length cap (flatC ys) hx (flatC_length ys) ?_ (flatC_one ys) h63 hbytes hbase (fun v' w' a1 a2 _ => h v' w' a1 a2)
    intro j y hj
    rcases h3 with rfl | ⟨b, o', hc, hbl, cc⟩
    · simp [flatC] at hj
    · injection hc with hc
      subst hc
      exact newsC cc j y hj
theorem drewP (w : World) : Below w.heap.size w w.drew := ⟨rfl, rfl, rfl, Nat.le_refl _, fun _ _ => rfl⟩
theorem cell_blockP {w w' : World} {b : Nat} (h : w'.heap[b]? = w.heap[b]?) {o : Nat} : w'.cell? ⟨b, o, none⟩ = w.cell? ⟨b, o, none⟩ := by
  simp only [World.cell?, h]

set_option maxRecDepth 100000 in
set_option maxHeartbeats 4000000 in
theorem l8Parts_any (v : Value) (l : List Cl) (w : World) (hr : RowC w v l) (hz : ShortC l) (h60 : l.length ≤ 60) (hok : l.all okM = true) (m t d : Nat) (hm : (amL l)[0]? = some m) (hx : Exs (amL l) m 1 t d) :
    Calls Tryz.prog 57 #[v, .int .i64 0] w (NewSS (cutL l 1 m) w) := by
  obtain ⟨i0, hi, hz0, hz1, hz2⟩ := info_parts infoC
  obtain ⟨j0, hj, hy0, hy1, hy2⟩ := info_parts infoCS
  have HR := Lib.hid hr; have HM := Lib.hid hm; have HX := Lib.hid hx; have HOK := Lib.hid hok
  have HCUT := Lib.hid (cutL_at hx)
  have hcl := cutL_length l m 1
  have hm8 : m ≤ 60 := by
    have := hx.le; rw [amL_length] at this
    by_cases h0 : m = 0
    · omega
    · have := this.2 h0; omega
  obtain ⟨ao, cap, rfl, h1, h2, h3⟩ := hr
  unfold maxLen at h2
  have hocc := h3
  clear h3 hz hm hx hok
  have HOCC := Lib.hid hocc
  clear hocc
  go_enter Tryz.func57, Tryz.ntmps57
  go_wp2_with fail
  refine (l5Kids_any _ l 0 m t d _ (HR.out.al _) h60 HOK.out HM.out HX.out).mono ?_
  rintro e w2 ⟨v2, rfl, ho2, hb2⟩
  obtain ⟨r2, hkl⟩ := RowI.of_own ho2
  have hlit : OwnSS w2 w.heap.size (.slice (some ⟨w.heap.size, 0, none⟩) 0 0) [] [] := by
    refine ⟨?_, rfl, fun k h => by simp at h, fun k h => by simp at h, fun i j h => by simp at h⟩
    have h0 := World.ownsRow_lit (e := 23) (size := 1) (base := w.heap.size) w #[] 0 (Nat.le_refl _) (by unfold maxLen; omega) rfl
    exact own_belowS (v := .slice (some ⟨w.heap.size, 0, none⟩) 0 0) (n := 0) (xs := []) h0 hb2
  have HLIT := Lib.hid hlit
  have HB2 := Lib.hid (((Below.refl w.heap.size w).alloc (Nat.le_refl _) (.cells #[] 23)).trans (hb2.mono (by simp)))
  have hs2 : w.heap.size + 1 ≤ w2.heap.size := by have := hb2.size; simpa using this
  have hk2 : (kidsL (amL l) 1 m = []) ∨ ∃ b2 cap2, v2 = .slice (some ⟨b2, 0, none⟩) m cap2 ∧ m ≤ cap2 ∧ cap2 ≤ maxLen ∧ w.heap.size < b2 ∧ b2 < w2.heap.size ∧ ∀ k (h : k < (kidsL (amL l) 1 m).length), w2.cell? ⟨b2, k, none⟩ = some (.int .i64 ((kidsL (amL l) 1 m)[k] : Int)) := by
    obtain ⟨ao2, cap2, rfl, q1, q2, q3⟩ := r2
    rcases q3 with q3 | ⟨b2, rfl, q4, q5⟩
    · exact .inl q3
    · refine .inr ⟨b2, cap2, by rw [kidsL_length], by rw [kidsL_length] at q1; exact q1, q2, ?_, q4, q5⟩
      have := (ho2.lt b2 rfl).1
      simp at this; omega
  have hv2 : ∃ ao2 cap2, v2 = .slice ao2 m cap2 := by
    obtain ⟨ao2, cap2, rfl, -⟩ := r2
    exact ⟨ao2, cap2, by rw [kidsL_length]⟩
  have HK2 := Lib.hid hk2
  obtain ⟨ao2, cap2, rfl⟩ := hv2
  clear hk2 hlit r2 ho2 hb2 hkl
  go_wp2_with fail
  go_loopw [5, 7] (fun a i wr => ∃ (k : Nat) (us : List Value), k ≤ m ∧ i = .int .i64 (k : Int) ∧ OwnSS wr w.heap.size a us ((cutL l 1 m).take k) ∧ Below w.heap.size w wr ∧ w2.heap.size ≤ wr.heap.size ∧ (∀ b, b ≠ w.heap.size → b < w2.heap.size → wr.heap[b]? = w2.heap[b]?) ∧ (∀ g, a.ownBlock = some g → g = w.heap.size ∨ w2.heap.size ≤ g)) (fun _ i _ => m - (intOf i).toNat)
  case atStart => exact ⟨0, [], Nat.zero_le _, rfl, by rw [List.take_zero]; exact HLIT.out, HB2.out, Nat.le_refl _, fun _ _ _ => rfl, fun g hg => .inl (by simpa [Value.ownBlock] using hg.symm)⟩
  case round =>
    obtain ⟨k, us, hk, rfl, hown, hb, hsz, hkeep, hgg⟩ := hrel
    have HO := Lib.hid hown; have HB := Lib.hid hb; have HKP := Lib.hid hkeep; have HGG := Lib.hid hgg
    clear hown hb hkeep hgg
    by_cases hlt : k < m
    · obtain ⟨b2, cap2', hv2, hc2, hc3, hbl2, hbs2, cc2⟩ := HK2.out.resolve_left (by intro h; have := congrArg List.length h; rw [kidsL_length] at this; simp at this; omega)
      simp only [Value.slice.injEq] at hv2
      obtain ⟨rfl, -, rfl⟩ := hv2
      unfold maxLen at hc3
      obtain ⟨g, g', e1, a1, a2, a3, a4, a5⟩ := HCUT.out k hlt
      have hkk : k < (kidsL (amL l) 1 m).length := by rw [kidsL_length]; exact hlt
      have d0 : wr.cell? ⟨b2, k, none⟩ = some (.int .i64 (g : Int)) := by
        rw [cell_blockP (HKP.out b2 (by omega) hbs2), cc2 k hkk]
        rw [List.getElem?_eq_getElem hkk, Option.some.injEq] at a1
        rw [a1]
      have hle := a2.le
      have hgl := hle.2 (by omega)
      rw [amL_length] at hgl
      have HEI := Lib.hid a2.endI
      have hgt : g ≤ g' := by omega
      have hlt3 : g < l.length := by omega
      obtain ⟨bb, oo, rfl, hbl, -⟩ := HOCC.out.resolve_left (by rintro rfl; simp at hlt3)
      have HRW := Lib.hid (HR.out.mono HB.out)
      have HSUB := Lib.hid (HRW.out.sub g g' hgt (by omega))
      have hbw2 : b2 < wr.heap.size := by omega
      have bk0 : (0 : Int) ≤ (k : Int) := by omega
      have bk1 : (k : Int) < (m : Int) := by omega
      have HEND := Lib.hid (show ∀ w', RowC w' (.slice (some ⟨bb, oo, none⟩) l.length cap) l → Calls Tryz.prog 70 #[.slice (some ⟨bb, oo, none⟩) l.length cap, .int .i64 (g : Int)] w' fun e w'' => e = .returned (.int .i64 (g' : Int)) ∧ w' = w'' from fun w' h => by
        have := l5End_any _ l g w' h h60 HOK.out (by omega)
        rw [HEI.out] at this; exact this)
      clear cc2 a1 a2
      have hcg : ¬ cap = g := by omega
      have hg0 : (0 : Int) ≤ (g : Int) := by omega
      have hg1 : (g : Int) ≤ (g' : Int) := by omega
      have hg2 : (g' : Int) ≤ (cap : Int) := by omega
      go_wp2_with fail
      have hcl2 : ((l.take g').drop g).length ≤ 60 := by rw [List.length_drop, List.length_take]; omega
      have hlk : ((cutL l 1 m).take k).length = k := by rw [List.length_take, hcl]; omega
      have HTK := Lib.hid (show (cutL l 1 m).take (k + 1) = (cutL l 1 m).take k ++ [(l.take g').drop g] by
        rw [List.take_add_one, a5, List.drop_take]; rfl)
      have hOR := HO.out.row
      rw [hlk] at hOR
      obtain ⟨aa, ac, rfl⟩ := own_shape hOR
      have HOR := Lib.hid hOR
      generalize (l.take g').drop g = sub at HSUB HTK hcl2
      have hbw : w.heap.size ≤ wr.heap.size := HB.out.size
      have HLK := Lib.hid hlk
      clear a5 hOR hlk
      go_region_law
        ((first
          | (refine step_append_rowC (by rfl) _ _ _ (by rfl) wr.heap.size 27 i0 (.agg #[.int .i64 0, .string ByteArray.empty, .int .i64 0]) 32 Tryz.underlying23 hi hz0 hz1 hz2 (by decide) _ 0 [] (by rfl) (World.ownsRow_lit (e := 27) (size := 3) (base := wr.heap.size) _ #[] 0 (Nat.le_refl _) (by unfold maxLen; omega) rfl) _ sub (by rfl) ((HSUB.out.mono (drewP wr)).sub_al _) (by unfold maxLen; omega) (by omega) (by simp) ?_; intro v5 w5 hown5 hgrow5; replace hown5 : w5.ownsRow wr.heap.size 27 3 v5 sub.length (flatC sub) := (by simpa using hown5); obtain ⟨a5, c5, rfl⟩ := own_shape hown5; have hb5 := ((drewP wr).alloc (Nat.le_refl _) (.cells #[] 27)).grown hgrow5 (by simp) (by simp [Value.ownBlock]); have hs5 := hb5.size; have hown6 := own_keep HOR.out (fun x hx => hb5.block x (HOR.out.lt x hx).2))
          | (refine step_append_lies _ (by rfl) _ _ _ (by rfl) w.heap.size 23 j0 (.slice none 0 0) 1 24 Tryz.underlying34 hj hy0 hy1 hy2 rfl (by decide) (.slice aa k ac) k us (by rfl) (hown6.alloc _) ⟨w5.heap.size, 0, none⟩ 1 1 [.slice a5 sub.length c5] (by rfl) rfl (World.news_of_block (heap_alloc_new w5 _)) (by simp [Value.oneCell']) (by omega) (by unfold maxLen; omega) (by omega) (by simp; omega) (w5.heap.size + 1) (by simp) ?_; intro gg cap' w6 hown' hgrow hat hlt')
          | (go_simp; go_wp2_with (go_at_call 70; ((with_reducible refine (HEND.out _ ?_).mono ?_); (focus (first | exact HRW.out.mono (drewP wr) | exact (HRW.out.mono (drewP wr)).sub_al _)); rintro e w' ⟨rfl, rfl⟩)))))
      all_goals
        have HN := Lib.hid (HO.out.push (gg := gg) hb5 hown5 _ hgrow (show w6.ownsRow w.heap.size 23 1 _ (((cutL l 1 m).take k).length + 1) _ by rw [HLK.out]; exact hown') rfl hat hbw)
        have HB6 := Lib.hid (((HB.out.trans (hb5.mono hbw)).alloc (by omega) (.cells #[.slice a5 sub.length c5] 23)).grown hgrow (by simp; omega) (fun x hx => (HOR.out.lt x hx).1))
        have hs6 : w2.heap.size ≤ w6.heap.size := by have := hgrow.size; simp at this; omega
        have HK6 := Lib.hid (show ∀ b, b ≠ w.heap.size → b < w2.heap.size → w6.heap[b]? = w2.heap[b]? from fun b hb1 hb2 => by
          rw [hgrow.block b (by simp; omega) (fun e => by have := HGG.out b e.symm; omega), Below.heap_alloc _ _ _ (by omega), hb5.block b (by omega), HKP.out b hb1 hb2])
        have HG6 := Lib.hid (show ∀ x, (Value.slice (some ⟨gg, 0, none⟩) (k + 1) cap').ownBlock = some x → x = w.heap.size ∨ w2.heap.size ≤ x from fun x hx => by
          have hx' : gg = x := by simpa [Value.ownBlock] using hx
          subst hx'
          rcases hat with hat | hat
          · exact HGG.out _ hat
          · right; omega)
        clear hown5 hgrow hown' hat hb5 hown6 hgrow5
        go_wp2
        go_roundw
        case rel => exact ⟨k + 1, us ++ [.slice a5 sub.length c5], by omega, by go_num, by rw [HTK.out]; exact HN.out, HB6.out, hs6, HK6.out, HG6.out⟩
        case measure => simp [intOf]; omega
    · obtain rfl : k = m := by omega
      have HA := Lib.hid (show (cutL l 1 k).take k = cutL l 1 k from List.take_of_length_le (by rw [hcl]; exact Nat.le_refl _))
      go_wp2
      go_ret
      exact ⟨_, us, rfl, by have := HO.out; rwa [HA.out] at this, HB.out⟩

set_option maxRecDepth 100000 in
set_option maxHeartbeats 4000000 in
theorem valueParts_spec (v : Value) (l : List Cl) (w : World) (hr : RowC w v l) (hz : ShortC l) (hl : l.length ≤ 1048576) :
    Calls Tryz.prog 26 #[v] w (NewSS (partsV l) w) := by
  have HC := Lib.hid (valueValid_spec v l w hr hz hl)
  have HR := Lib.hid hr; have HZ := Lib.hid hz
  obtain ⟨ao, cap, rfl, h1, h2, h3⟩ := hr
  unfold maxLen at h2
  have H3 := Lib.hid h3
  clear h3 hz
  have hlitE : ∀ w' : World, Below w.heap.size w w' → NewSS [] w (.returned (.slice (some ⟨w'.heap.size, 0, none⟩) 0 0)) (w'.alloc (.cells #[] 23)) := fun w' hb =>
    ⟨_, [], rfl, ⟨World.ownsRow_lit (e := 23) (size := 1) (base := w.heap.size) w' #[] 0 hb.size (by unfold maxLen; omega) rfl, rfl, fun k h => by simp at h, fun k h => by simp at h, fun i j h => by simp at h⟩, hb.alloc hb.size _⟩
  have HLE := Lib.hid hlitE; clear hlitE
  cases hok : okV l with
  | true =>
    obtain ⟨h60, hal, d, hd, hx⟩ := (okV_iff l).mp hok
    have hlen : 0 < l.length := by have := hx.le; omega
    obtain ⟨m, e, hm, hk, rfl⟩ := hx.inv
    have HM := Lib.hid hm; have HX := Lib.hid hk; have HAL := Lib.hid (allM_ofW (allV_W hal)); have HOK := Lib.hid hok
    obtain ⟨b, o, rfl, hbl, cc⟩ := H3.out.resolve_left (by rintro rfl; simp at hlen)
    obtain ⟨c0, c1, c2⟩ := cc 0 hlen
    rw [Nat.zero_mul, Nat.add_zero] at c0
    by_cases h5 : l[0].1 = 5
    · rw [h5] at c0
      have HP := Lib.hid (show partsV l = cutL l 1 m by
        have e0 : (amL l).getD 0 0 = m := by rw [List.getD_eq_getElem?_getD, hm]; rfl
        rw [partsV, if_pos ⟨hok, l[0], l.tail, by cases l with | nil => simp at hlen | cons a t => rfl, h5⟩, e0])
      clear hx hk hal hok hm cc c1 c2 h5 hd
      go_enter Tryz.func26, Tryz.ntmps26
      go_wp2_with fail
      refine HC.out.mono ?_
      rintro e w1 ⟨rfl, hb1⟩
      rw [HOK.out]
      have d0 : w1.cell? ⟨b, o, none⟩ = some (.int .i64 5) := (hb1.cell (p := ⟨b, o, none⟩) hbl).trans c0
      have HB := Lib.hid hb1; clear hb1 c0
      go_wp2_with fail
      refine (l8Parts_any _ l _ (HR.out.mono HB.out) HZ.out h60 HAL.out m l.length _ HM.out HX.out).mono ?_
      rintro e w2 ⟨v2, us, rfl, ho2, hb2⟩
      have HO2 := Lib.hid (show OwnSS w2 w.heap.size v2 us (partsV l) by
        rw [HP.out]
        exact ho2.lower HB.out.size)
      have HB2 := Lib.hid (HB.out.trans (hb2.mono HB.out.size))
      clear ho2 hb2
      go_wp2
      go_ret
      exact ⟨_, us, rfl, HO2.out, HB2.out⟩
    · have HP := Lib.hid (show partsV l = [] by
        rw [partsV, if_neg]
        rintro ⟨-, c, t, hl0, hc5⟩
        subst hl0
        exact h5 (by simpa using hc5))
      have hne : (l[0].1 != 5) = true := bne_iff_ne.mpr h5
      generalize l[0].1 = kk at c0 hne
      clear hx hk hal hok hm cc c1 c2 h5 hd
      go_enter Tryz.func26, Tryz.ntmps26
      go_wp2_with fail
      refine HC.out.mono ?_
      rintro e w1 ⟨rfl, hb1⟩
      rw [HOK.out]
      have d0 : w1.cell? ⟨b, o, none⟩ = some (.int .i64 kk) := (hb1.cell (p := ⟨b, o, none⟩) hbl).trans c0
      have HB := Lib.hid hb1; clear hb1 c0
      go_wp2
      go_ret
      rw [HP.out]
      exact HLE.out _ HB.out
  | false =>
    have HP := Lib.hid (show partsV l = [] by rw [partsV, if_neg]; rintro ⟨h, -⟩; rw [hok] at h; cases h)
    have HOK := Lib.hid hok
    clear hok
    go_enter Tryz.func26, Tryz.ntmps26
    go_wp2_with fail
    refine HC.out.mono ?_
    rintro e w1 ⟨rfl, hb1⟩
    rw [HOK.out]
    have HB := Lib.hid hb1; clear hb1
    go_wp2
    go_ret
    rw [HP.out]
    exact HLE.out _ HB.out

end Go.Proofs.YtbnchmlapimmdaaGreatDoor
