/-
  slices.MinFunc and slices.MaxFunc at fractions with CompareFractions, by their contracts.
-/
import Derived.Test.YtipmkbahlfkfoaaGreatDoorFracCmp
import Derived.Test.YtipmkbahlfkfoaaGreatDoorBaseG
import Derived.Deep.RegionHeld3
namespace Go.Proofs.YtipmkbahlfkfoaaGreatDoor
open Go.RowKit Go.Deep
set_option linter.unusedVariables false

/-- A fraction in a block of the call's own. -/
def Fr2 (w : World) (B : Nat) (x y : Int) : Prop := w.cell? ⟨B, 0, none⟩ = some (.int .i64 x) ∧ w.cell? ⟨B, 1, none⟩ = some (.int .i64 y) ∧ w.frozen? ⟨B, 0, none⟩ = false ∧ w.frozen? ⟨B, 1, none⟩ = false ∧ B < w.heap.size
theorem Fr2.keep {W w1 : World} {B : Nat} {x y : Int} (h : Fr2 W B x y) (hb : Below W.heap.size W w1) : Fr2 w1 B x y := by
  obtain ⟨h1, h2, h3, h4, h5⟩ := h
  obtain ⟨hc, hf⟩ := bcell hb
  have hs := hb.size
  exact ⟨(hc _ _ (by omega)).trans h1, (hc _ _ (by omega)).trans h2, (hf _ _ (by omega)).trans h3, (hf _ _ (by omega)).trans h4, by omega⟩
theorem Fr2.set {W : World} {B : Nat} {x y : Int} (h : Fr2 W B x y) (x' y' : Int) : Fr2 ((W.setCell ⟨B, 0, none⟩ (.int .i64 x')).setCell ⟨B, 1, none⟩ (.int .i64 y')) B x' y' := by
  obtain ⟨h1, h2, h3, h4, h5⟩ := h
  refine ⟨?_, ?_, ?_, ?_, ?_⟩ <;> simp [go_sem, h1, h2, h3, h4, h5]
theorem Fr2.far {W : World} {B C : Nat} {x y : Int} (h : Fr2 W B x y) (hne : B ≠ C) (x' y' : Int) : Fr2 ((W.setCell ⟨C, 0, none⟩ (.int .i64 x')).setCell ⟨C, 1, none⟩ (.int .i64 y')) B x y := by
  obtain ⟨h1, h2, h3, h4, h5⟩ := h
  exact ⟨by simp [go_sem, h1], by simp [go_sem, h2], by simp [go_sem, h3], by simp [go_sem, h4], by simp [go_sem, h5]⟩
theorem best_snoc (mn : Bool) (l : List Cl) : ∀ (ls : List (List Cl)) (b : List Cl), bestB mn b (ls ++ [l]) = if betB mn l (bestB mn b ls) = true then l else bestB mn b ls := by
  intro ls
  induction ls with
  | nil => intro b; rfl
  | cons a ls ih => intro b; rw [List.cons_append, bestB, ih]; rfl
theorem cmp_less (x y : Int) : decide (cmpI x y < 0) = decide (x < y) := by
  unfold cmpI; split
  · rename_i h; simp [h]
  · rename_i h; split <;> simp [h]
theorem cmp_more (x y : Int) : decide (0 < cmpI x y) = decide (y < x) := by
  unfold cmpI; split
  · rename_i h; rw [decide_eq_false, decide_eq_false] <;> omega
  · split
    · rename_i h; simp [h]
    · rename_i h; simp [h]
/-- A slice that reads as the numbers of values. -/
def RowF (w : World) (b o : Nat) (ls : List (List Cl)) : Prop := b < w.heap.size ∧ ∀ (k : Nat) (h : k < ls.length), w.cell? ⟨b, o + k * 2, none⟩ = some (.int .i64 (rdT (wdV ls[k]))) ∧ w.cell? ⟨b, o + k * 2 + 1, none⟩ = some (.int .i64 (rdB (wdV ls[k])))

set_option maxRecDepth 100000 in
set_option maxHeartbeats 4000000 in
theorem minF_any (b o cap : Nat) (v : List Cl) (vs : List (List Cl)) (w : World) (hl : vs.length ≤ 1048576) (hr : RowF w b o (v :: vs)) (hv : ∀ x ∈ v :: vs, vB (rdT (wdV x)) (rdB (wdV x)) = true) :
    Calls Tryz.prog 140 #[.slice (some ⟨b, o, none⟩) (vs.length + 1) cap, .func (.func 24) #[] #[]] w fun e w' =>
      e = .returned (.agg #[.int .i64 (rdT (wdV (bestB true v vs))), .int .i64 (rdB (wdV (bestB true v vs)))]) ∧ Below w.heap.size w w' := by
  obtain ⟨hbl, cc⟩ := hr
  have CC := Lib.hid cc; have HV := Lib.hid hv
  have c0 := (cc 0 (by simp)).1
  have c1 := (cc 0 (by simp)).2
  simp only [Nat.zero_mul, Nat.add_zero, List.getElem_cons_zero] at c0 c1
  have hpos : (0 : Int) < (vs.length : Int) + 1 := by omega
  clear cc hv
  go_enter Tryz.func140, Tryz.ntmps140
  go_wp2_with fail
  have F0 := Lib.hid (show Fr2 ((w.alloc (.cells #[.int .i64 0, .int .i64 0] 41)).alloc (.cells #[.int .i64 (rdT (wdV v)), .int .i64 (rdB (wdV v))] 41)) w.heap.size 0 0 by refine ⟨?_, ?_, ?_, ?_, ?_⟩ <;> simp [go_sem] <;> omega)
  have F1 := Lib.hid (show Fr2 ((w.alloc (.cells #[.int .i64 0, .int .i64 0] 41)).alloc (.cells #[.int .i64 (rdT (wdV v)), .int .i64 (rdB (wdV v))] 41)) (w.heap.size + 1) (rdT (wdV (bestB true v (vs.take (1 - 1))))) (rdB (wdV (bestB true v (vs.take (1 - 1))))) by rw [Nat.sub_self, List.take_zero, bestB]; refine ⟨?_, ?_, ?_, ?_, ?_⟩ <;> simp [go_sem])
  have B0 := Lib.hid (((Below.refl w.heap.size w).alloc (Nat.le_refl _) (.cells #[.int .i64 0, .int .i64 0] 41)).alloc (by simp) (.cells #[.int .i64 (rdT (wdV v)), .int .i64 (rdB (wdV v))] 41))
  go_loopw [6] (fun i wr => ∃ m : Nat, 1 ≤ m ∧ m ≤ vs.length + 1 ∧ i = .int .i64 (m : Int) ∧ Fr2 wr w.heap.size 0 0 ∧ Fr2 wr (w.heap.size + 1) (rdT (wdV (bestB true v (vs.take (m - 1))))) (rdB (wdV (bestB true v (vs.take (m - 1))))) ∧ Below w.heap.size w wr) (fun i _ => vs.length + 1 - (intOf i).toNat)
  case atStart => exact ⟨1, Nat.le_refl _, by omega, rfl, F0.out, F1.out, B0.out⟩
  case round =>
    obtain ⟨m, hm1, hm2, rfl, f0, f1, hb⟩ := hrel
    have HF0 := Lib.hid f0; have HB := Lib.hid hb
    by_cases hlt : m < vs.length + 1
    · have hlt' : m < (v :: vs).length := by simpa using hlt
      obtain ⟨x0, x1⟩ := CC.out m hlt'
      have d0 := (hb.cell (p := ⟨b, _, none⟩) hbl).trans x0
      have d1 := (hb.cell (p := ⟨b, _, none⟩) hbl).trans x1
      have hcm : bestB true v (vs.take (m - 1)) ∈ v :: vs := by
        rcases best_mem true (vs.take (m - 1)) v with h | h
        · rw [h]; exact List.mem_cons_self ..
        · exact List.mem_cons_of_mem _ (List.mem_of_mem_take h)
      have hvc := HV.out _ hcm
      have hvx := HV.out _ (List.getElem_mem hlt')
      have HNX := Lib.hid (show bestB true v (vs.take (m + 1 - 1)) = if betB true (v :: vs)[m] (bestB true v (vs.take (m - 1))) = true then (v :: vs)[m] else bestB true v (vs.take (m - 1)) by
        have e : vs.take (m + 1 - 1) = vs.take (m - 1) ++ [(v :: vs)[m]] := by
          obtain ⟨j, rfl⟩ : ∃ j, m = j + 1 := ⟨m - 1, by omega⟩
          rw [Nat.add_sub_cancel, Nat.add_sub_cancel, List.take_succ_eq_append_getElem (by omega)]; rfl
        rw [e, best_snoc])
      have HBT := Lib.hid (show betB true (v :: vs)[m] (bestB true v (vs.take (m - 1))) = decide (rdT (wdV (v :: vs)[m]) * rdB (wdV (bestB true v (vs.take (m - 1)))) < rdT (wdV (bestB true v (vs.take (m - 1)))) * rdB (wdV (v :: vs)[m])) from rfl)
      generalize (v :: vs)[m] = X at x0 x1 d0 d1 hvx HNX HBT
      generalize bestB true v (vs.take (m - 1)) = C at f1 hcm hvc HNX HBT
      have hcall := fun w' => cmp_impl (rdT (wdV X)) (rdB (wdV X)) (rdT (wdV C)) (rdB (wdV C)) w'
      rw [hvx, hvc, show cmpF (true && true) (rdT (wdV X) * rdB (wdV C)) (rdT (wdV C) * rdB (wdV X)) = cmpI (rdT (wdV X) * rdB (wdV C)) (rdT (wdV C) * rdB (wdV X)) from rfl] at hcall
      have HD := Lib.hid (cmp_less (rdT (wdV X) * rdB (wdV C)) (rdT (wdV C) * rdB (wdV X)))
      generalize cmpI (rdT (wdV X) * rdB (wdV C)) (rdT (wdV C) * rdB (wdV X)) = cv at hcall HD
      have HCALL := Lib.hid hcall
      have hd : decide (cv < 0) = betB true X C := by rw [HD.out, HBT.out]
      have HF1 := Lib.hid f1
      obtain ⟨e0, e1, e2, e3, e4⟩ := f1
      have hbw : b < wr.heap.size := Nat.lt_of_lt_of_le hbl hb.size
      clear f0 hb x0 x1 hcall hvx hvc hcm HD HBT e2 e3
      have bk0 : (0 : Int) ≤ (m : Int) := by omega
      have bk1 : (m : Int) < (vs.length : Int) + 1 := by omega
      cases hbt : betB true X C with
      | true =>
        rw [hbt] at hd
        have HNX2 := Lib.hid (HNX.out.trans (if_pos hbt))
        clear hbt HNX
        generalize hTX : rdT (wdV X) = TX at d0 HCALL
        generalize hBX : rdB (wdV X) = BX at d1 HCALL
        generalize rdT (wdV C) = TC at e0 HCALL HF1
        generalize rdB (wdV C) = BC at e1 HCALL HF1
        have HTX := Lib.hid hTX; have HBX := Lib.hid hBX; clear hTX hBX
        go_wp2_with fail
        go_region_held3 (fun w' => w'.cell? ⟨b, o + m * 2, none⟩ = some (.int .i64 TX) ∧ w'.cell? ⟨b, o + m * 2 + 1, none⟩ = some (.int .i64 BX) ∧ w'.cell? ⟨w.heap.size + 1, 0, none⟩ = some (.int .i64 TC) ∧ w'.cell? ⟨w.heap.size + 1, 1, none⟩ = some (.int .i64 BC))
          (first
            | go_keep
            | (go_split_ands
               refine ⟨?_, ?_, ?_, ?_⟩
               · (rw [hb1.cell (by exact hbw)]; assumption)
               · (rw [hb1.cell (by exact hbw)]; assumption)
               · (rw [hb1.cell (by exact e4)]; assumption)
               · (rw [hb1.cell (by exact e4)]; assumption)))
          ((go_at_call 24; refine (HCALL.out _).mono ?_; rintro e w1 ⟨rfl, hb1⟩))
        have hb1' : Below wr.heap.size wr w1 := (show Below wr.heap.size wr wr.drew from ⟨rfl, rfl, rfl, Nat.le_refl _, fun _ _ => rfl⟩).trans hb1
        have HF1b := Lib.hid ((HF1.out.keep (w1 := w1) hb1'))
        have HF0b := Lib.hid ((HF0.out.keep (w1 := w1) hb1'))
        have HB1 := Lib.hid (HB.out.drew.trans (hb1.mono HB.out.size))
        have HT := Lib.hid ((HF1b.out.set TX BX)); have HT0 := Lib.hid (HF0b.out.far (C := w.heap.size + 1) (by omega) TX BX)
        have HB2 := Lib.hid ((HB1.out.setCell (p := ⟨w.heap.size + 1, 0, none⟩) (by simp) (.int .i64 TX)).setCell (p := ⟨w.heap.size + 1, 1, none⟩) (by simp) (.int .i64 BX))
        have d0b : w1.cell? ⟨b, o + m * 2, none⟩ = some (.int .i64 TX) := (HB1.out.cell (p := ⟨b, _, none⟩) hbl).trans ((HB.out.cell (p := ⟨b, _, none⟩) hbl).symm.trans d0)
        have d1b : w1.cell? ⟨b, o + m * 2 + 1, none⟩ = some (.int .i64 BX) := (HB1.out.cell (p := ⟨b, _, none⟩) hbl).trans ((HB.out.cell (p := ⟨b, _, none⟩) hbl).symm.trans d1)
        obtain ⟨g0, g1, g2, g3, g4⟩ := HF1b.out
        clear hb1 hb1'
        go_wp2
        go_roundw
        case rel => exact ⟨m + 1, by omega, by omega, by go_num, HT0.out, by rw [HNX2.out, HTX.out, HBX.out]; exact HT.out, HB2.out⟩
        case measure => simp [intOf]; omega
      | false =>
        rw [hbt] at hd
        have HNX2 := Lib.hid (HNX.out.trans (if_neg (by rw [hbt]; decide)))
        clear hbt HNX
        generalize hTX : rdT (wdV X) = TX at d0 HCALL
        generalize hBX : rdB (wdV X) = BX at d1 HCALL
        generalize hTC : rdT (wdV C) = TC at e0 HCALL HF1
        generalize hBC : rdB (wdV C) = BC at e1 HCALL HF1
        have HTC := Lib.hid hTC; have HBC := Lib.hid hBC; clear hTC hBC
        clear hTX hBX
        go_wp2_with fail
        go_region_held3 (fun w' => w'.cell? ⟨b, o + m * 2, none⟩ = some (.int .i64 TX) ∧ w'.cell? ⟨b, o + m * 2 + 1, none⟩ = some (.int .i64 BX) ∧ w'.cell? ⟨w.heap.size + 1, 0, none⟩ = some (.int .i64 TC) ∧ w'.cell? ⟨w.heap.size + 1, 1, none⟩ = some (.int .i64 BC))
          (first
            | go_keep
            | (go_split_ands
               refine ⟨?_, ?_, ?_, ?_⟩
               · (rw [hb1.cell (by exact hbw)]; assumption)
               · (rw [hb1.cell (by exact hbw)]; assumption)
               · (rw [hb1.cell (by exact e4)]; assumption)
               · (rw [hb1.cell (by exact e4)]; assumption)))
          ((go_at_call 24; refine (HCALL.out _).mono ?_; rintro e w1 ⟨rfl, hb1⟩))
        have hb1' : Below wr.heap.size wr w1 := (show Below wr.heap.size wr wr.drew from ⟨rfl, rfl, rfl, Nat.le_refl _, fun _ _ => rfl⟩).trans hb1
        have HF1b := Lib.hid ((HF1.out.keep (w1 := w1) hb1'))
        have HF0b := Lib.hid ((HF0.out.keep (w1 := w1) hb1'))
        have HB1 := Lib.hid (HB.out.drew.trans (hb1.mono HB.out.size))
        clear hb1 hb1'
        go_wp2
        go_roundw
        case rel => exact ⟨m + 1, by omega, by omega, by go_num, HF0b.out, by rw [HNX2.out, HTC.out, HBC.out]; exact HF1b.out, HB1.out⟩
        case measure => simp [intOf]; omega
    · obtain rfl : m = vs.length + 1 := by omega
      rw [Nat.add_sub_cancel, List.take_of_length_le (Nat.le_refl _)] at f1
      obtain ⟨e0, e1, e2, e3, e4⟩ := f1
      obtain ⟨g0, g1, g2, g3, g4⟩ := f0
      have HB2 := Lib.hid ((HB.out.setCell (p := ⟨w.heap.size, 0, none⟩) (Nat.le_refl _) (.int .i64 (rdT (wdV (bestB true v vs))))).setCell (p := ⟨w.heap.size, 1, none⟩) (Nat.le_refl _) (.int .i64 (rdB (wdV (bestB true v vs)))))
      generalize hTX : rdT (wdV (bestB true v vs)) = TX at e0 HB2
      generalize hBX : rdB (wdV (bestB true v vs)) = BX at e1 HB2
      have HTX := Lib.hid hTX; have HBX := Lib.hid hBX; clear hTX hBX
      clear hb e2 e3
      go_wp2
      exact bodyPost_ret (v := .agg #[.int .i64 TX, .int .i64 BX]) (by simp [results, Tryz.results140, go_sem, g0, g1]) rfl ⟨by rw [HTX.out, HBX.out], HB2.out⟩

set_option maxRecDepth 100000 in
set_option maxHeartbeats 4000000 in
theorem maxF_any (b o cap : Nat) (v : List Cl) (vs : List (List Cl)) (w : World) (hl : vs.length ≤ 1048576) (hr : RowF w b o (v :: vs)) (hv : ∀ x ∈ v :: vs, vB (rdT (wdV x)) (rdB (wdV x)) = true) :
    Calls Tryz.prog 141 #[.slice (some ⟨b, o, none⟩) (vs.length + 1) cap, .func (.func 24) #[] #[]] w fun e w' =>
      e = .returned (.agg #[.int .i64 (rdT (wdV (bestB false v vs))), .int .i64 (rdB (wdV (bestB false v vs)))]) ∧ Below w.heap.size w w' := by
  obtain ⟨hbl, cc⟩ := hr
  have CC := Lib.hid cc; have HV := Lib.hid hv
  have c0 := (cc 0 (by simp)).1
  have c1 := (cc 0 (by simp)).2
  simp only [Nat.zero_mul, Nat.add_zero, List.getElem_cons_zero] at c0 c1
  have hpos : (0 : Int) < (vs.length : Int) + 1 := by omega
  clear cc hv
  go_enter Tryz.func141, Tryz.ntmps141
  go_wp2_with fail
  have F0 := Lib.hid (show Fr2 ((w.alloc (.cells #[.int .i64 0, .int .i64 0] 41)).alloc (.cells #[.int .i64 (rdT (wdV v)), .int .i64 (rdB (wdV v))] 41)) w.heap.size 0 0 by refine ⟨?_, ?_, ?_, ?_, ?_⟩ <;> simp [go_sem] <;> omega)
  have F1 := Lib.hid (show Fr2 ((w.alloc (.cells #[.int .i64 0, .int .i64 0] 41)).alloc (.cells #[.int .i64 (rdT (wdV v)), .int .i64 (rdB (wdV v))] 41)) (w.heap.size + 1) (rdT (wdV (bestB false v (vs.take (1 - 1))))) (rdB (wdV (bestB false v (vs.take (1 - 1))))) by rw [Nat.sub_self, List.take_zero, bestB]; refine ⟨?_, ?_, ?_, ?_, ?_⟩ <;> simp [go_sem])
  have B0 := Lib.hid (((Below.refl w.heap.size w).alloc (Nat.le_refl _) (.cells #[.int .i64 0, .int .i64 0] 41)).alloc (by simp) (.cells #[.int .i64 (rdT (wdV v)), .int .i64 (rdB (wdV v))] 41))
  go_loopw [6] (fun i wr => ∃ m : Nat, 1 ≤ m ∧ m ≤ vs.length + 1 ∧ i = .int .i64 (m : Int) ∧ Fr2 wr w.heap.size 0 0 ∧ Fr2 wr (w.heap.size + 1) (rdT (wdV (bestB false v (vs.take (m - 1))))) (rdB (wdV (bestB false v (vs.take (m - 1))))) ∧ Below w.heap.size w wr) (fun i _ => vs.length + 1 - (intOf i).toNat)
  case atStart => exact ⟨1, Nat.le_refl _, by omega, rfl, F0.out, F1.out, B0.out⟩
  case round =>
    obtain ⟨m, hm1, hm2, rfl, f0, f1, hb⟩ := hrel
    have HF0 := Lib.hid f0; have HB := Lib.hid hb
    by_cases hlt : m < vs.length + 1
    · have hlt' : m < (v :: vs).length := by simpa using hlt
      obtain ⟨x0, x1⟩ := CC.out m hlt'
      have d0 := (hb.cell (p := ⟨b, _, none⟩) hbl).trans x0
      have d1 := (hb.cell (p := ⟨b, _, none⟩) hbl).trans x1
      have hcm : bestB false v (vs.take (m - 1)) ∈ v :: vs := by
        rcases best_mem false (vs.take (m - 1)) v with h | h
        · rw [h]; exact List.mem_cons_self ..
        · exact List.mem_cons_of_mem _ (List.mem_of_mem_take h)
      have hvc := HV.out _ hcm
      have hvx := HV.out _ (List.getElem_mem hlt')
      have HNX := Lib.hid (show bestB false v (vs.take (m + 1 - 1)) = if betB false (v :: vs)[m] (bestB false v (vs.take (m - 1))) = true then (v :: vs)[m] else bestB false v (vs.take (m - 1)) by
        have e : vs.take (m + 1 - 1) = vs.take (m - 1) ++ [(v :: vs)[m]] := by
          obtain ⟨j, rfl⟩ : ∃ j, m = j + 1 := ⟨m - 1, by omega⟩
          rw [Nat.add_sub_cancel, Nat.add_sub_cancel, List.take_succ_eq_append_getElem (by omega)]; rfl
        rw [e, best_snoc])
      have HBT := Lib.hid (show betB false (v :: vs)[m] (bestB false v (vs.take (m - 1))) = decide (rdT (wdV (bestB false v (vs.take (m - 1)))) * rdB (wdV (v :: vs)[m]) < rdT (wdV (v :: vs)[m]) * rdB (wdV (bestB false v (vs.take (m - 1))))) from rfl)
      generalize (v :: vs)[m] = X at x0 x1 d0 d1 hvx HNX HBT
      generalize bestB false v (vs.take (m - 1)) = C at f1 hcm hvc HNX HBT
      have hcall := fun w' => cmp_impl (rdT (wdV X)) (rdB (wdV X)) (rdT (wdV C)) (rdB (wdV C)) w'
      rw [hvx, hvc, show cmpF (true && true) (rdT (wdV X) * rdB (wdV C)) (rdT (wdV C) * rdB (wdV X)) = cmpI (rdT (wdV X) * rdB (wdV C)) (rdT (wdV C) * rdB (wdV X)) from rfl] at hcall
      have HD := Lib.hid (cmp_more (rdT (wdV X) * rdB (wdV C)) (rdT (wdV C) * rdB (wdV X)))
      generalize cmpI (rdT (wdV X) * rdB (wdV C)) (rdT (wdV C) * rdB (wdV X)) = cv at hcall HD
      have HCALL := Lib.hid hcall
      have hd : decide (0 < cv) = betB false X C := by rw [HD.out, HBT.out]
      have HF1 := Lib.hid f1
      obtain ⟨e0, e1, e2, e3, e4⟩ := f1
      have hbw : b < wr.heap.size := Nat.lt_of_lt_of_le hbl hb.size
      clear f0 hb x0 x1 hcall hvx hvc hcm HD HBT e2 e3
      have bk0 : (0 : Int) ≤ (m : Int) := by omega
      have bk1 : (m : Int) < (vs.length : Int) + 1 := by omega
      cases hbt : betB false X C with
      | true =>
        rw [hbt] at hd
        have HNX2 := Lib.hid (HNX.out.trans (if_pos hbt))
        clear hbt HNX
        generalize hTX : rdT (wdV X) = TX at d0 HCALL
        generalize hBX : rdB (wdV X) = BX at d1 HCALL
        generalize rdT (wdV C) = TC at e0 HCALL HF1
        generalize rdB (wdV C) = BC at e1 HCALL HF1
        have HTX := Lib.hid hTX; have HBX := Lib.hid hBX; clear hTX hBX
        go_wp2_with fail
        go_region_held3 (fun w' => w'.cell? ⟨b, o + m * 2, none⟩ = some (.int .i64 TX) ∧ w'.cell? ⟨b, o + m * 2 + 1, none⟩ = some (.int .i64 BX) ∧ w'.cell? ⟨w.heap.size + 1, 0, none⟩ = some (.int .i64 TC) ∧ w'.cell? ⟨w.heap.size + 1, 1, none⟩ = some (.int .i64 BC))
          (first
            | go_keep
            | (go_split_ands
               refine ⟨?_, ?_, ?_, ?_⟩
               · (rw [hb1.cell (by exact hbw)]; assumption)
               · (rw [hb1.cell (by exact hbw)]; assumption)
               · (rw [hb1.cell (by exact e4)]; assumption)
               · (rw [hb1.cell (by exact e4)]; assumption)))
          ((go_at_call 24; refine (HCALL.out _).mono ?_; rintro e w1 ⟨rfl, hb1⟩))
        have hb1' : Below wr.heap.size wr w1 := (show Below wr.heap.size wr wr.drew from ⟨rfl, rfl, rfl, Nat.le_refl _, fun _ _ => rfl⟩).trans hb1
        have HF1b := Lib.hid ((HF1.out.keep (w1 := w1) hb1'))
        have HF0b := Lib.hid ((HF0.out.keep (w1 := w1) hb1'))
        have HB1 := Lib.hid (HB.out.drew.trans (hb1.mono HB.out.size))
        have HT := Lib.hid ((HF1b.out.set TX BX)); have HT0 := Lib.hid (HF0b.out.far (C := w.heap.size + 1) (by omega) TX BX)
        have HB2 := Lib.hid ((HB1.out.setCell (p := ⟨w.heap.size + 1, 0, none⟩) (by simp) (.int .i64 TX)).setCell (p := ⟨w.heap.size + 1, 1, none⟩) (by simp) (.int .i64 BX))
        have d0b : w1.cell? ⟨b, o + m * 2, none⟩ = some (.int .i64 TX) := (HB1.out.cell (p := ⟨b, _, none⟩) hbl).trans ((HB.out.cell (p := ⟨b, _, none⟩) hbl).symm.trans d0)
        have d1b : w1.cell? ⟨b, o + m * 2 + 1, none⟩ = some (.int .i64 BX) := (HB1.out.cell (p := ⟨b, _, none⟩) hbl).trans ((HB.out.cell (p := ⟨b, _, none⟩) hbl).symm.trans d1)
        obtain ⟨g0, g1, g2, g3, g4⟩ := HF1b.out
        clear hb1 hb1'
        go_wp2
        go_roundw
        case rel => exact ⟨m + 1, by omega, by omega, by go_num, HT0.out, by rw [HNX2.out, HTX.out, HBX.out]; exact HT.out, HB2.out⟩
        case measure => simp [intOf]; omega
      | false =>
        rw [hbt] at hd
        have HNX2 := Lib.hid (HNX.out.trans (if_neg (by rw [hbt]; decide)))
        clear hbt HNX
        generalize hTX : rdT (wdV X) = TX at d0 HCALL
        generalize hBX : rdB (wdV X) = BX at d1 HCALL
        generalize hTC : rdT (wdV C) = TC at e0 HCALL HF1
        generalize hBC : rdB (wdV C) = BC at e1 HCALL HF1
        have HTC := Lib.hid hTC; have HBC := Lib.hid hBC; clear hTC hBC
        clear hTX hBX
        go_wp2_with fail
        go_region_held3 (fun w' => w'.cell? ⟨b, o + m * 2, none⟩ = some (.int .i64 TX) ∧ w'.cell? ⟨b, o + m * 2 + 1, none⟩ = some (.int .i64 BX) ∧ w'.cell? ⟨w.heap.size + 1, 0, none⟩ = some (.int .i64 TC) ∧ w'.cell? ⟨w.heap.size + 1, 1, none⟩ = some (.int .i64 BC))
          (first
            | go_keep
            | (go_split_ands
               refine ⟨?_, ?_, ?_, ?_⟩
               · (rw [hb1.cell (by exact hbw)]; assumption)
               · (rw [hb1.cell (by exact hbw)]; assumption)
               · (rw [hb1.cell (by exact e4)]; assumption)
               · (rw [hb1.cell (by exact e4)]; assumption)))
          ((go_at_call 24; refine (HCALL.out _).mono ?_; rintro e w1 ⟨rfl, hb1⟩))
        have hb1' : Below wr.heap.size wr w1 := (show Below wr.heap.size wr wr.drew from ⟨rfl, rfl, rfl, Nat.le_refl _, fun _ _ => rfl⟩).trans hb1
        have HF1b := Lib.hid ((HF1.out.keep (w1 := w1) hb1'))
        have HF0b := Lib.hid ((HF0.out.keep (w1 := w1) hb1'))
        have HB1 := Lib.hid (HB.out.drew.trans (hb1.mono HB.out.size))
        clear hb1 hb1'
        go_wp2
        go_roundw
        case rel => exact ⟨m + 1, by omega, by omega, by go_num, HF0b.out, by rw [HNX2.out, HTC.out, HBC.out]; exact HF1b.out, HB1.out⟩
        case measure => simp [intOf]; omega
    · obtain rfl : m = vs.length + 1 := by omega
      rw [Nat.add_sub_cancel, List.take_of_length_le (Nat.le_refl _)] at f1
      obtain ⟨e0, e1, e2, e3, e4⟩ := f1
      obtain ⟨g0, g1, g2, g3, g4⟩ := f0
      have HB2 := Lib.hid ((HB.out.setCell (p := ⟨w.heap.size, 0, none⟩) (Nat.le_refl _) (.int .i64 (rdT (wdV (bestB false v vs))))).setCell (p := ⟨w.heap.size, 1, none⟩) (Nat.le_refl _) (.int .i64 (rdB (wdV (bestB false v vs)))))
      generalize hTX : rdT (wdV (bestB false v vs)) = TX at e0 HB2
      generalize hBX : rdB (wdV (bestB false v vs)) = BX at e1 HB2
      have HTX := Lib.hid hTX; have HBX := Lib.hid hBX; clear hTX hBX
      clear hb e2 e3
      go_wp2
      exact bodyPost_ret (v := .agg #[.int .i64 TX, .int .i64 BX]) (by simp [results, Tryz.results141, go_sem, g0, g1]) rfl ⟨by rw [HTX.out, HBX.out], HB2.out⟩

end Go.Proofs.YtipmkbahlfkfoaaGreatDoor
