/-
  Several texts of the proof in one file: SlicesM, FunN, FunM, FunR, FunJ, FunT, VCells, CallRes.
-/
import Derived.Test.YthillfgjpalpcaaGreatDoorGFr
import Derived.Test.YthillfgjpalpcaaGreatDoorGFun
import Derived.Deep.RegionHeld3
set_option linter.unusedVariables false
set_option maxHeartbeats 4000000
set_option maxRecDepth 100000
namespace Go.Proofs.YthillfgjpalpcaaGreatDoor
open Go.RowKit Go.Deep
theorem best_snoc (mn:Bool) (l:List Cl): ∀(ls:List (List Cl)) (b:List Cl),bestB mn b (ls++[l])=if betB mn l (bestB mn b ls)=true then l else bestB mn b ls:=by
 intro ls
 induction ls with
 |nil=>intro b;rfl
 |cons a ls ih=>intro b;rw [List.cons_append,bestB,ih];rfl
theorem cmp_less (x y:Int):decide (cmpI x y<0)=decide (x<y):=by
 unfold cmpI;split
 ·rename_i h;simp [h]
 ·rename_i h;split<;>simp [h]
theorem cmp_more (x y:Int):decide (0<cmpI x y)=decide (y<x):=by
 unfold cmpI;split
 ·rename_i h;rw [decide_eq_false,decide_eq_false]<;>omega
 ·split
  ·rename_i h;simp [h]
  ·rename_i h;simp [h]
def RowF (w:World) (b o:Nat) (ls:List (List Cl)):Prop:=b<w.heap.size∧ ∀(k:Nat) (h:k<ls.length),w.cell? ⟨b,o+k*2,none⟩=some (.int .i64 (rdT (wdV ls[k])))∧w.cell? ⟨b,o+k*2+1,none⟩=some (.int .i64 (rdB (wdV ls[k])))
theorem minF_any (b o cap : Nat) (v : List Cl) (vs : List (List Cl)) (w : World) (hl : vs.length ≤ 1048576) (hr : RowF w b o (v :: vs)) (hv : ∀ x ∈ v :: vs, vB (rdT (wdV x)) (rdB (wdV x)) = true) :
    Calls Tryz.prog 208 #[.slice (some ⟨b, o, none⟩) (vs.length + 1) cap, .func (.func 191) #[] #[]] w fun e w' =>
      e = .returned (.agg #[.int .i64 (rdT (wdV (bestB true v vs))), .int .i64 (rdB (wdV (bestB true v vs)))]) ∧ Below w.heap.size w w' := by
  obtain ⟨hbl, cc⟩ := hr
  have CC := zz cc; have HV := zz hv
  have c0 := (cc 0 (by simp)).1
  have c1 := (cc 0 (by simp)).2
  simp only [Nat.zero_mul, Nat.add_zero, List.getElem_cons_zero] at c0 c1
  have hpos : (0 : Int) < (vs.length : Int) + 1 := by omega
  clear cc hv
  go_enter Tryz.func208, Tryz.ntmps208
  go_wp2_with fail
  have F0 := zz (show Fr2 ((w.alloc (.cells #[.int .i64 0, .int .i64 0] 94)).alloc (.cells #[.int .i64 (rdT (wdV v)), .int .i64 (rdB (wdV v))] 94)) w.heap.size 0 0 by refine ⟨?_, ?_, ?_, ?_, ?_⟩ <;> simp [go_sem] <;> omega)
  have F1 := zz (show Fr2 ((w.alloc (.cells #[.int .i64 0, .int .i64 0] 94)).alloc (.cells #[.int .i64 (rdT (wdV v)), .int .i64 (rdB (wdV v))] 94)) (w.heap.size + 1) (rdT (wdV (bestB true v (vs.take (1 - 1))))) (rdB (wdV (bestB true v (vs.take (1 - 1))))) by rw [Nat.sub_self, List.take_zero, bestB]; refine ⟨?_, ?_, ?_, ?_, ?_⟩ <;> simp [go_sem])
  have B0 := zz (((Below.refl w.heap.size w).alloc (Nat.le_refl _) (.cells #[.int .i64 0, .int .i64 0] 94)).alloc (by simp) (.cells #[.int .i64 (rdT (wdV v)), .int .i64 (rdB (wdV v))] 94))
  go_loopw [6] (fun i wr => ∃ m : Nat, 1 ≤ m ∧ m ≤ vs.length + 1 ∧ i = .int .i64 (m : Int) ∧ Fr2 wr w.heap.size 0 0 ∧ Fr2 wr (w.heap.size + 1) (rdT (wdV (bestB true v (vs.take (m - 1))))) (rdB (wdV (bestB true v (vs.take (m - 1))))) ∧ Below w.heap.size w wr) (fun i _ => vs.length + 1 - (intOf i).toNat)
  case atStart => exact ⟨1, Nat.le_refl _, by omega, rfl, F0.out, F1.out, B0.out⟩
  case round =>
    obtain ⟨m, hm1, hm2, rfl, f0, f1, hb⟩ := hrel
    have HF0 := zz f0; have HB := zz hb
    by_cases hlt : m < vs.length + 1
    · have hlt' : m < (v :: vs).length := by simpa using hlt
      obtain ⟨x0, x1⟩ := CC.out m hlt'
      have d0 := (hb.cell (p := ⟨b, _, none⟩) hbl).trans x0
      have d1 := (hb.cell (p := ⟨b, _, none⟩) hbl).trans x1
      have hcm : bestB true v (vs.take (m - 1)) ∈ v :: vs := by
        rcases best_mem true (vs.take (m - 1)) v with h | h
        · rw [h]; exact List.mem_cons_self ..
        · exact List.mem_cons_of_mem _ (List.mem_of_mem_take h)
      have hvc := HV.out _ hcm
      have hvx := HV.out _ (List.getElem_mem hlt')
      have HNX := zz (show bestB true v (vs.take (m + 1 - 1)) = if betB true (v :: vs)[m] (bestB true v (vs.take (m - 1))) = true then (v :: vs)[m] else bestB true v (vs.take (m - 1)) by
        have e : vs.take (m + 1 - 1) = vs.take (m - 1) ++ [(v :: vs)[m]] := by
          obtain ⟨j, rfl⟩ : ∃ j, m = j + 1 := ⟨m - 1, by omega⟩
          rw [Nat.add_sub_cancel, Nat.add_sub_cancel, List.take_succ_eq_append_getElem (by omega)]; rfl
        rw [e, best_snoc])
      have HBT := zz (show betB true (v :: vs)[m] (bestB true v (vs.take (m - 1))) = decide (rdT (wdV (v :: vs)[m]) * rdB (wdV (bestB true v (vs.take (m - 1)))) < rdT (wdV (bestB true v (vs.take (m - 1)))) * rdB (wdV (v :: vs)[m])) from rfl)
      generalize (v :: vs)[m] = X at x0 x1 d0 d1 hvx HNX HBT
      generalize bestB true v (vs.take (m - 1)) = C at f1 hcm hvc HNX HBT
      have hcall := fun w' => cmp_impl (rdT (wdV X)) (rdB (wdV X)) (rdT (wdV C)) (rdB (wdV C)) w'
      rw [hvx, hvc, show cmpF (true && true) (rdT (wdV X) * rdB (wdV C)) (rdT (wdV C) * rdB (wdV X)) = cmpI (rdT (wdV X) * rdB (wdV C)) (rdT (wdV C) * rdB (wdV X)) from rfl] at hcall
      have HD := zz (cmp_less (rdT (wdV X) * rdB (wdV C)) (rdT (wdV C) * rdB (wdV X)))
      generalize cmpI (rdT (wdV X) * rdB (wdV C)) (rdT (wdV C) * rdB (wdV X)) = cv at hcall HD
      have HCALL := zz hcall
      have hd : decide (cv < 0) = betB true X C := by rw [HD.out, HBT.out]
      have HF1 := zz f1
      obtain ⟨e0, e1, e2, e3, e4⟩ := f1
      have hbw : b < wr.heap.size := Nat.lt_of_lt_of_le hbl hb.size
      clear f0 hb x0 x1 hcall hvx hvc hcm HD HBT e2 e3
      have bk0 : (0 : Int) ≤ (m : Int) := by omega
      have bk1 : (m : Int) < (vs.length : Int) + 1 := by omega
      cases hbt : betB true X C with
      | true =>
        rw [hbt] at hd
        have HNX2 := zz (HNX.out.trans (if_pos hbt))
        clear hbt HNX
        generalize hTX : rdT (wdV X) = TX at d0 HCALL
        generalize hBX : rdB (wdV X) = BX at d1 HCALL
        generalize rdT (wdV C) = TC at e0 HCALL HF1
        generalize rdB (wdV C) = BC at e1 HCALL HF1
        have HTX := zz hTX; have HBX := zz hBX; clear hTX hBX
        go_wp2_with fail
        go_region_held3 (fun w' => w'.cell? ⟨b, o + m * 2, none⟩ = some (.int .i64 TX) ∧ w'.cell? ⟨b, o + m * 2 + 1, none⟩ = some (.int .i64 BX) ∧ w'.cell? ⟨w.heap.size + 1, 0, none⟩ = some (.int .i64 TC) ∧ w'.cell? ⟨w.heap.size + 1, 1, none⟩ = some (.int .i64 BC))
          (first
            | go_keep
            | (go_split_ands
               refine ⟨?_, ?_, ?_, ?_⟩
               · (rw [hb1.cell (by exact hbw)]; assumption)
               · (rw [hb1.cell (by exact hbw)]; assumption)
               · (rw [hb1.cell (by exact e4)]; assumption)
               · (rw [hb1.cell (by exact e4)]; assumption)))
          ((go_at_call 191; refine (HCALL.out _).mono ?_; rintro e w1 ⟨rfl, hb1⟩))
        have hb1' : Below wr.heap.size wr w1 := (show Below wr.heap.size wr wr.drew from ⟨rfl, rfl, rfl, Nat.le_refl _, fun _ _ => rfl⟩).trans hb1
        have HF1b := zz ((HF1.out.keep (w1 := w1) hb1'))
        have HF0b := zz ((HF0.out.keep (w1 := w1) hb1'))
        have HB1 := zz (HB.out.drew.trans (hb1.mono HB.out.size))
        have HT := zz ((HF1b.out.set TX BX)); have HT0 := zz (HF0b.out.far (C := w.heap.size + 1) (by omega) TX BX)
        have HB2 := zz ((HB1.out.setCell (p := ⟨w.heap.size + 1, 0, none⟩) (by simp) (.int .i64 TX)).setCell (p := ⟨w.heap.size + 1, 1, none⟩) (by simp) (.int .i64 BX))
        have d0b : w1.cell? ⟨b, o + m * 2, none⟩ = some (.int .i64 TX) := (HB1.out.cell (p := ⟨b, _, none⟩) hbl).trans ((HB.out.cell (p := ⟨b, _, none⟩) hbl).symm.trans d0)
        have d1b : w1.cell? ⟨b, o + m * 2 + 1, none⟩ = some (.int .i64 BX) := (HB1.out.cell (p := ⟨b, _, none⟩) hbl).trans ((HB.out.cell (p := ⟨b, _, none⟩) hbl).symm.trans d1)
        obtain ⟨g0, g1, g2, g3, g4⟩ := HF1b.out
        clear hb1 hb1'
        go_wp2
        go_roundw
        case rel => exact ⟨m + 1, by omega, by omega, by go_num, HT0.out, by rw [HNX2.out, HTX.out, HBX.out]; exact HT.out, HB2.out⟩
        case measure => simp [intOf]; omega
      | false =>
        rw [hbt] at hd
        have HNX2 := zz (HNX.out.trans (if_neg (by rw [hbt]; decide)))
        clear hbt HNX
        generalize hTX : rdT (wdV X) = TX at d0 HCALL
        generalize hBX : rdB (wdV X) = BX at d1 HCALL
        generalize hTC : rdT (wdV C) = TC at e0 HCALL HF1
        generalize hBC : rdB (wdV C) = BC at e1 HCALL HF1
        have HTC := zz hTC; have HBC := zz hBC; clear hTC hBC
        clear hTX hBX
        go_wp2_with fail
        go_region_held3 (fun w' => w'.cell? ⟨b, o + m * 2, none⟩ = some (.int .i64 TX) ∧ w'.cell? ⟨b, o + m * 2 + 1, none⟩ = some (.int .i64 BX) ∧ w'.cell? ⟨w.heap.size + 1, 0, none⟩ = some (.int .i64 TC) ∧ w'.cell? ⟨w.heap.size + 1, 1, none⟩ = some (.int .i64 BC))
          (first
            | go_keep
            | (go_split_ands
               refine ⟨?_, ?_, ?_, ?_⟩
               · (rw [hb1.cell (by exact hbw)]; assumption)
               · (rw [hb1.cell (by exact hbw)]; assumption)
               · (rw [hb1.cell (by exact e4)]; assumption)
               · (rw [hb1.cell (by exact e4)]; assumption)))
          ((go_at_call 191; refine (HCALL.out _).mono ?_; rintro e w1 ⟨rfl, hb1⟩))
        have hb1' : Below wr.heap.size wr w1 := (show Below wr.heap.size wr wr.drew from ⟨rfl, rfl, rfl, Nat.le_refl _, fun _ _ => rfl⟩).trans hb1
        have HF1b := zz ((HF1.out.keep (w1 := w1) hb1'))
        have HF0b := zz ((HF0.out.keep (w1 := w1) hb1'))
        have HB1 := zz (HB.out.drew.trans (hb1.mono HB.out.size))
        clear hb1 hb1'
        go_wp2
        go_roundw
        case rel => exact ⟨m + 1, by omega, by omega, by go_num, HF0b.out, by rw [HNX2.out, HTC.out, HBC.out]; exact HF1b.out, HB1.out⟩
        case measure => simp [intOf]; omega
    · obtain rfl : m = vs.length + 1 := by omega
      rw [Nat.add_sub_cancel, List.take_of_length_le (Nat.le_refl _)] at f1
      obtain ⟨e0, e1, e2, e3, e4⟩ := f1
      obtain ⟨g0, g1, g2, g3, g4⟩ := f0
      have HB2 := zz ((HB.out.setCell (p := ⟨w.heap.size, 0, none⟩) (Nat.le_refl _) (.int .i64 (rdT (wdV (bestB true v vs))))).setCell (p := ⟨w.heap.size, 1, none⟩) (Nat.le_refl _) (.int .i64 (rdB (wdV (bestB true v vs)))))
      generalize hTX : rdT (wdV (bestB true v vs)) = TX at e0 HB2
      generalize hBX : rdB (wdV (bestB true v vs)) = BX at e1 HB2
      have HTX := zz hTX; have HBX := zz hBX; clear hTX hBX
      clear hb e2 e3
      go_wp2
      exact bodyPost_ret (v := .agg #[.int .i64 TX, .int .i64 BX]) (by simp [results, Tryz.results208, go_sem, g0, g1]) rfl ⟨by rw [HTX.out, HBX.out], HB2.out⟩
theorem maxF_any (b o cap : Nat) (v : List Cl) (vs : List (List Cl)) (w : World) (hl : vs.length ≤ 1048576) (hr : RowF w b o (v :: vs)) (hv : ∀ x ∈ v :: vs, vB (rdT (wdV x)) (rdB (wdV x)) = true) :
    Calls Tryz.prog 209 #[.slice (some ⟨b, o, none⟩) (vs.length + 1) cap, .func (.func 191) #[] #[]] w fun e w' =>
      e = .returned (.agg #[.int .i64 (rdT (wdV (bestB false v vs))), .int .i64 (rdB (wdV (bestB false v vs)))]) ∧ Below w.heap.size w w' := by
  obtain ⟨hbl, cc⟩ := hr
  have CC := zz cc; have HV := zz hv
  have c0 := (cc 0 (by simp)).1
  have c1 := (cc 0 (by simp)).2
  simp only [Nat.zero_mul, Nat.add_zero, List.getElem_cons_zero] at c0 c1
  have hpos : (0 : Int) < (vs.length : Int) + 1 := by omega
  clear cc hv
  go_enter Tryz.func209, Tryz.ntmps209
  go_wp2_with fail
  have F0 := zz (show Fr2 ((w.alloc (.cells #[.int .i64 0, .int .i64 0] 94)).alloc (.cells #[.int .i64 (rdT (wdV v)), .int .i64 (rdB (wdV v))] 94)) w.heap.size 0 0 by refine ⟨?_, ?_, ?_, ?_, ?_⟩ <;> simp [go_sem] <;> omega)
  have F1 := zz (show Fr2 ((w.alloc (.cells #[.int .i64 0, .int .i64 0] 94)).alloc (.cells #[.int .i64 (rdT (wdV v)), .int .i64 (rdB (wdV v))] 94)) (w.heap.size + 1) (rdT (wdV (bestB false v (vs.take (1 - 1))))) (rdB (wdV (bestB false v (vs.take (1 - 1))))) by rw [Nat.sub_self, List.take_zero, bestB]; refine ⟨?_, ?_, ?_, ?_, ?_⟩ <;> simp [go_sem])
  have B0 := zz (((Below.refl w.heap.size w).alloc (Nat.le_refl _) (.cells #[.int .i64 0, .int .i64 0] 94)).alloc (by simp) (.cells #[.int .i64 (rdT (wdV v)), .int .i64 (rdB (wdV v))] 94))
  go_loopw [6] (fun i wr => ∃ m : Nat, 1 ≤ m ∧ m ≤ vs.length + 1 ∧ i = .int .i64 (m : Int) ∧ Fr2 wr w.heap.size 0 0 ∧ Fr2 wr (w.heap.size + 1) (rdT (wdV (bestB false v (vs.take (m - 1))))) (rdB (wdV (bestB false v (vs.take (m - 1))))) ∧ Below w.heap.size w wr) (fun i _ => vs.length + 1 - (intOf i).toNat)
  case atStart => exact ⟨1, Nat.le_refl _, by omega, rfl, F0.out, F1.out, B0.out⟩
  case round =>
    obtain ⟨m, hm1, hm2, rfl, f0, f1, hb⟩ := hrel
    have HF0 := zz f0; have HB := zz hb
    by_cases hlt : m < vs.length + 1
    · have hlt' : m < (v :: vs).length := by simpa using hlt
      obtain ⟨x0, x1⟩ := CC.out m hlt'
      have d0 := (hb.cell (p := ⟨b, _, none⟩) hbl).trans x0
      have d1 := (hb.cell (p := ⟨b, _, none⟩) hbl).trans x1
      have hcm : bestB false v (vs.take (m - 1)) ∈ v :: vs := by
        rcases best_mem false (vs.take (m - 1)) v with h | h
        · rw [h]; exact List.mem_cons_self ..
        · exact List.mem_cons_of_mem _ (List.mem_of_mem_take h)
      have hvc := HV.out _ hcm
      have hvx := HV.out _ (List.getElem_mem hlt')
      have HNX := zz (show bestB false v (vs.take (m + 1 - 1)) = if betB false (v :: vs)[m] (bestB false v (vs.take (m - 1))) = true then (v :: vs)[m] else bestB false v (vs.take (m - 1)) by
        have e : vs.take (m + 1 - 1) = vs.take (m - 1) ++ [(v :: vs)[m]] := by
          obtain ⟨j, rfl⟩ : ∃ j, m = j + 1 := ⟨m - 1, by omega⟩
          rw [Nat.add_sub_cancel, Nat.add_sub_cancel, List.take_succ_eq_append_getElem (by omega)]; rfl
        rw [e, best_snoc])
      have HBT := zz (show betB false (v :: vs)[m] (bestB false v (vs.take (m - 1))) = decide (rdT (wdV (bestB false v (vs.take (m - 1)))) * rdB (wdV (v :: vs)[m]) < rdT (wdV (v :: vs)[m]) * rdB (wdV (bestB false v (vs.take (m - 1))))) from rfl)
      generalize (v :: vs)[m] = X at x0 x1 d0 d1 hvx HNX HBT
      generalize bestB false v (vs.take (m - 1)) = C at f1 hcm hvc HNX HBT
      have hcall := fun w' => cmp_impl (rdT (wdV X)) (rdB (wdV X)) (rdT (wdV C)) (rdB (wdV C)) w'
      rw [hvx, hvc, show cmpF (true && true) (rdT (wdV X) * rdB (wdV C)) (rdT (wdV C) * rdB (wdV X)) = cmpI (rdT (wdV X) * rdB (wdV C)) (rdT (wdV C) * rdB (wdV X)) from rfl] at hcall
      have HD := zz (cmp_more (rdT (wdV X) * rdB (wdV C)) (rdT (wdV C) * rdB (wdV X)))
      generalize cmpI (rdT (wdV X) * rdB (wdV C)) (rdT (wdV C) * rdB (wdV X)) = cv at hcall HD
      have HCALL := zz hcall
      have hd : decide (0 < cv) = betB false X C := by rw [HD.out, HBT.out]
      have HF1 := zz f1
      obtain ⟨e0, e1, e2, e3, e4⟩ := f1
      have hbw : b < wr.heap.size := Nat.lt_of_lt_of_le hbl hb.size
      clear f0 hb x0 x1 hcall hvx hvc hcm HD HBT e2 e3
      have bk0 : (0 : Int) ≤ (m : Int) := by omega
      have bk1 : (m : Int) < (vs.length : Int) + 1 := by omega
      cases hbt : betB false X C with
      | true =>
        rw [hbt] at hd
        have HNX2 := zz (HNX.out.trans (if_pos hbt))
        clear hbt HNX
        generalize hTX : rdT (wdV X) = TX at d0 HCALL
        generalize hBX : rdB (wdV X) = BX at d1 HCALL
        generalize rdT (wdV C) = TC at e0 HCALL HF1
        generalize rdB (wdV C) = BC at e1 HCALL HF1
        have HTX := zz hTX; have HBX := zz hBX; clear hTX hBX
        go_wp2_with fail
        go_region_held3 (fun w' => w'.cell? ⟨b, o + m * 2, none⟩ = some (.int .i64 TX) ∧ w'.cell? ⟨b, o + m * 2 + 1, none⟩ = some (.int .i64 BX) ∧ w'.cell? ⟨w.heap.size + 1, 0, none⟩ = some (.int .i64 TC) ∧ w'.cell? ⟨w.heap.size + 1, 1, none⟩ = some (.int .i64 BC))
          (first
            | go_keep
            | (go_split_ands
               refine ⟨?_, ?_, ?_, ?_⟩
               · (rw [hb1.cell (by exact hbw)]; assumption)
               · (rw [hb1.cell (by exact hbw)]; assumption)
               · (rw [hb1.cell (by exact e4)]; assumption)
               · (rw [hb1.cell (by exact e4)]; assumption)))
          ((go_at_call 191; refine (HCALL.out _).mono ?_; rintro e w1 ⟨rfl, hb1⟩))
        have hb1' : Below wr.heap.size wr w1 := (show Below wr.heap.size wr wr.drew from ⟨rfl, rfl, rfl, Nat.le_refl _, fun _ _ => rfl⟩).trans hb1
        have HF1b := zz ((HF1.out.keep (w1 := w1) hb1'))
        have HF0b := zz ((HF0.out.keep (w1 := w1) hb1'))
        have HB1 := zz (HB.out.drew.trans (hb1.mono HB.out.size))
        have HT := zz ((HF1b.out.set TX BX)); have HT0 := zz (HF0b.out.far (C := w.heap.size + 1) (by omega) TX BX)
        have HB2 := zz ((HB1.out.setCell (p := ⟨w.heap.size + 1, 0, none⟩) (by simp) (.int .i64 TX)).setCell (p := ⟨w.heap.size + 1, 1, none⟩) (by simp) (.int .i64 BX))
        have d0b : w1.cell? ⟨b, o + m * 2, none⟩ = some (.int .i64 TX) := (HB1.out.cell (p := ⟨b, _, none⟩) hbl).trans ((HB.out.cell (p := ⟨b, _, none⟩) hbl).symm.trans d0)
        have d1b : w1.cell? ⟨b, o + m * 2 + 1, none⟩ = some (.int .i64 BX) := (HB1.out.cell (p := ⟨b, _, none⟩) hbl).trans ((HB.out.cell (p := ⟨b, _, none⟩) hbl).symm.trans d1)
        obtain ⟨g0, g1, g2, g3, g4⟩ := HF1b.out
        clear hb1 hb1'
        go_wp2
        go_roundw
        case rel => exact ⟨m + 1, by omega, by omega, by go_num, HT0.out, by rw [HNX2.out, HTX.out, HBX.out]; exact HT.out, HB2.out⟩
        case measure => simp [intOf]; omega
      | false =>
        rw [hbt] at hd
        have HNX2 := zz (HNX.out.trans (if_neg (by rw [hbt]; decide)))
        clear hbt HNX
        generalize hTX : rdT (wdV X) = TX at d0 HCALL
        generalize hBX : rdB (wdV X) = BX at d1 HCALL
        generalize hTC : rdT (wdV C) = TC at e0 HCALL HF1
        generalize hBC : rdB (wdV C) = BC at e1 HCALL HF1
        have HTC := zz hTC; have HBC := zz hBC; clear hTC hBC
        clear hTX hBX
        go_wp2_with fail
        go_region_held3 (fun w' => w'.cell? ⟨b, o + m * 2, none⟩ = some (.int .i64 TX) ∧ w'.cell? ⟨b, o + m * 2 + 1, none⟩ = some (.int .i64 BX) ∧ w'.cell? ⟨w.heap.size + 1, 0, none⟩ = some (.int .i64 TC) ∧ w'.cell? ⟨w.heap.size + 1, 1, none⟩ = some (.int .i64 BC))
          (first
            | go_keep
            | (go_split_ands
               refine ⟨?_, ?_, ?_, ?_⟩
               · (rw [hb1.cell (by exact hbw)]; assumption)
               · (rw [hb1.cell (by exact hbw)]; assumption)
               · (rw [hb1.cell (by exact e4)]; assumption)
               · (rw [hb1.cell (by exact e4)]; assumption)))
          ((go_at_call 191; refine (HCALL.out _).mono ?_; rintro e w1 ⟨rfl, hb1⟩))
        have hb1' : Below wr.heap.size wr w1 := (show Below wr.heap.size wr wr.drew from ⟨rfl, rfl, rfl, Nat.le_refl _, fun _ _ => rfl⟩).trans hb1
        have HF1b := zz ((HF1.out.keep (w1 := w1) hb1'))
        have HF0b := zz ((HF0.out.keep (w1 := w1) hb1'))
        have HB1 := zz (HB.out.drew.trans (hb1.mono HB.out.size))
        clear hb1 hb1'
        go_wp2
        go_roundw
        case rel => exact ⟨m + 1, by omega, by omega, by go_num, HF0b.out, by rw [HNX2.out, HTC.out, HBC.out]; exact HF1b.out, HB1.out⟩
        case measure => simp [intOf]; omega
    · obtain rfl : m = vs.length + 1 := by omega
      rw [Nat.add_sub_cancel, List.take_of_length_le (Nat.le_refl _)] at f1
      obtain ⟨e0, e1, e2, e3, e4⟩ := f1
      obtain ⟨g0, g1, g2, g3, g4⟩ := f0
      have HB2 := zz ((HB.out.setCell (p := ⟨w.heap.size, 0, none⟩) (Nat.le_refl _) (.int .i64 (rdT (wdV (bestB false v vs))))).setCell (p := ⟨w.heap.size, 1, none⟩) (Nat.le_refl _) (.int .i64 (rdB (wdV (bestB false v vs)))))
      generalize hTX : rdT (wdV (bestB false v vs)) = TX at e0 HB2
      generalize hBX : rdB (wdV (bestB false v vs)) = BX at e1 HB2
      have HTX := zz hTX; have HBX := zz hBX; clear hTX hBX
      clear hb e2 e3
      go_wp2
      exact bodyPost_ret (v := .agg #[.int .i64 TX, .int .i64 BX]) (by simp [results, Tryz.results209, go_sem, g0, g1]) rfl ⟨by rw [HTX.out, HBX.out], HB2.out⟩
open Go.RowKit
theorem infoFr:(Tryz.prog.info? 94).map (fun i=>(i.zero,i.size,i.bytes))=some (some (.agg #[.int .i64 0, .int .i64 0]),2,16):=by kernel_rfl
noncomputable def flatN (ls:List (List Cl)):List Value:=ls.flatMap fun l=>[.int .i64 (rdT (wdV l)), .int .i64 (rdB (wdV l))]
theorem flatN_append (a b:List (List Cl)):flatN (a++b)=flatN a++flatN b:=by simp [flatN]
theorem flatN_at: ∀(ls:List (List Cl)) (k:Nat) (h:k<ls.length),(flatN ls)[k*2]? =some (.int .i64 (rdT (wdV ls[k])))∧(flatN ls)[k*2+1]? =some (.int .i64 (rdB (wdV ls[k]))):=by
 intro ls
 induction ls with
 |nil=>intro k h;simp at h
 |cons l ls ih=>
  intro k h
  have e:flatN (l::ls)= .int .i64 (rdT (wdV l)):: .int .i64 (rdB (wdV l))::flatN ls:=rfl
  cases k with
  |zero=>rw [e];exact ⟨rfl,rfl⟩
  |succ k=>
   rw [e,show (k+1)*2=k*2+1+1 by omega]
   simp only [List.getElem?_cons_succ,List.getElem_cons_succ]
   exact ih k (by simpa using h)
def DoesF (F:Value) (B:Nat) (W:World) (mn:Bool):Prop:=
 ∃K,F= .func (.func K) #[] #[]∧(∀args w,(callFunc K args).run Tryz.prog w= .ok (.enter K args) w)∧ ∀(b o cap:Nat) (v:List Cl) (vs:List (List Cl)) (w:World),Up B W w→vs.length≤1048576→RowF w b o (v::vs)→(∀x∈v::vs,vB (rdT (wdV x)) (rdB (wdV x))=true)→
  Calls Tryz.prog K #[.slice (some ⟨b,o,none⟩) (vs.length+1) cap] w fun e w'=>e= .returned (.agg #[.int .i64 (rdT (wdV (bestB mn v vs))), .int .i64 (rdB (wdV (bestB mn v vs)))])∧Below w.heap.size w w'
theorem DoesF.keep {F:Value} {B:Nat} {W W':World} {mn:Bool} (h:DoesF F B W mn) (hb:Up B W W'):DoesF F B W' mn:=by
 obtain ⟨K,h1,h2,h3⟩:=h
 exact ⟨K,h1,h2,fun b o cap v vs w a=>h3 b o cap v vs w (hb.trans a)⟩
theorem least_any (b o cap:Nat) (v:List Cl) (vs:List (List Cl)) (w:World) (hl:vs.length≤1048576) (hr:RowF w b o (v::vs)) (hv: ∀x∈v::vs,vB (rdT (wdV x)) (rdB (wdV x))=true):
  Calls Tryz.prog 182 #[.slice (some ⟨b,o,none⟩) (vs.length+1) cap] w fun e w'=>e= .returned (.agg #[.int .i64 (rdT (wdV (bestB true v vs))), .int .i64 (rdB (wdV (bestB true v vs)))])∧Below w.heap.size w w':=by
 have HB0:=zz ((Below.refl w.heap.size w).alloc (Nat.le_refl _) (.cells #[.int .i64 0, .int .i64 0] 94))
 have HC:=zz (minF_any b o cap v vs (w.alloc (.cells #[.int .i64 0, .int .i64 0] 94)) hl ⟨by have:=hr.1;simp;omega,fun k hk=>⟨(HB0.out.cell (p:=⟨b,_,none⟩) hr.1).trans (hr.2 k hk).1,(HB0.out.cell (p:=⟨b,_,none⟩) hr.1).trans (hr.2 k hk).2⟩⟩ hv)
 have F0:Hid (Fr2 (w.alloc (.cells #[.int .i64 0, .int .i64 0] 94)) w.heap.size 0 0):=zz (by refine ⟨?_, ?_, ?_, ?_, ?_⟩<;>simp [go_sem])
 clear hr hv
 generalize hTX:rdT (wdV (bestB true v vs))=TX at HC
 generalize hBX:rdB (wdV (bestB true v vs))=BX at HC
 go_enter Tryz.func182,Tryz.ntmps182
 go_wp2_with fail
 refine HC.out.mono ?_
 rintro e w1 ⟨rfl,hb1⟩
 have HF1:=zz (F0.out.keep hb1)
 have HB1:=zz (HB0.out.trans (hb1.mono HB0.out.size));clear hb1
 obtain ⟨g0,g1,g2,g3,g4⟩:=HF1.out
 have HB2:=zz ((HB1.out.setCell (p:=⟨w.heap.size,0,none⟩) (Nat.le_refl _) (.int .i64 TX)).setCell (p:=⟨w.heap.size,1,none⟩) (Nat.le_refl _) (.int .i64 BX))
 go_wp2
 exact bodyPost_ret (v:= .agg #[.int .i64 TX, .int .i64 BX]) (by simp [results,Tryz.results182,go_sem,g0,g1]) rfl ⟨rfl,HB2.out⟩
theorem greatest_any (b o cap:Nat) (v:List Cl) (vs:List (List Cl)) (w:World) (hl:vs.length≤1048576) (hr:RowF w b o (v::vs)) (hv: ∀x∈v::vs,vB (rdT (wdV x)) (rdB (wdV x))=true):
  Calls Tryz.prog 183 #[.slice (some ⟨b,o,none⟩) (vs.length+1) cap] w fun e w'=>e= .returned (.agg #[.int .i64 (rdT (wdV (bestB false v vs))), .int .i64 (rdB (wdV (bestB false v vs)))])∧Below w.heap.size w w':=by
 have HB0:=zz ((Below.refl w.heap.size w).alloc (Nat.le_refl _) (.cells #[.int .i64 0, .int .i64 0] 94))
 have HC:=zz (maxF_any b o cap v vs (w.alloc (.cells #[.int .i64 0, .int .i64 0] 94)) hl ⟨by have:=hr.1;simp;omega,fun k hk=>⟨(HB0.out.cell (p:=⟨b,_,none⟩) hr.1).trans (hr.2 k hk).1,(HB0.out.cell (p:=⟨b,_,none⟩) hr.1).trans (hr.2 k hk).2⟩⟩ hv)
 have F0:Hid (Fr2 (w.alloc (.cells #[.int .i64 0, .int .i64 0] 94)) w.heap.size 0 0):=zz (by refine ⟨?_, ?_, ?_, ?_, ?_⟩<;>simp [go_sem])
 clear hr hv
 generalize hTX:rdT (wdV (bestB false v vs))=TX at HC
 generalize hBX:rdB (wdV (bestB false v vs))=BX at HC
 go_enter Tryz.func183,Tryz.ntmps183
 go_wp2_with fail
 refine HC.out.mono ?_
 rintro e w1 ⟨rfl,hb1⟩
 have HF1:=zz (F0.out.keep hb1)
 have HB1:=zz (HB0.out.trans (hb1.mono HB0.out.size));clear hb1
 obtain ⟨g0,g1,g2,g3,g4⟩:=HF1.out
 have HB2:=zz ((HB1.out.setCell (p:=⟨w.heap.size,0,none⟩) (Nat.le_refl _) (.int .i64 TX)).setCell (p:=⟨w.heap.size,1,none⟩) (Nat.le_refl _) (.int .i64 BX))
 go_wp2
 exact bodyPost_ret (v:= .agg #[.int .i64 TX, .int .i64 BX]) (by simp [results,Tryz.results183,go_sem,g0,g1]) rfl ⟨rfl,HB2.out⟩
open Classical in
noncomputable def numR (mn:Bool) (ls:List (List Cl)):Option (List Cl):=match ls with|v::vs=>if∀x∈v::vs,kdV x=1 then some (bestB mn v vs) else none|_=>none
theorem ofNumbers1_any {S:Nat→Prop} (fb B:Nat) (F:Value) (mn:Bool) (v:Value) (us:List Value) (ls:List (List Cl)) (w:World) (hc:w.cell? ⟨fb,0,none⟩=some F) (hF:DoesF F B w mn) (hr:RowV w S v us) (hv:VlS w S us ls) (hok: ∀l∈ls,okV l=true) (hn:ls.length≤1048576) (htab:Tab w):
  Calls Tryz.prog 207 #[v, .pointer (some ⟨fb,0,none⟩)] w (Res S (numR mn ls) w):=by
 obtain ⟨j0,hj,hy0,hy1,hy2⟩:=info_parts infoFr
 have hfl:fb<w.heap.size:=World.block_lt_of_cell? w _ hc
 have HNO:=zz (show (∃q∈ls,kdV q≠1)→numR mn ls=none from fun ⟨q,h1,h2⟩=>by
  cases ls with
  |nil=>cases h1
  |cons a t=>exact if_neg (fun h=>h2 (h q h1)))
 have hlen:=hv.len
 have HV:=zz hv;have HOK:=zz hok;have HLEN:=zz hlen;have HN:=zz hn;have HT:=zz htab;have HFD:=zz hF;have HC:=zz hc
 obtain ⟨ao,cap,rfl,h1,h2,h3⟩:=hr
 have hus:us.length≤1048576:=by omega
 have H3:=zz h3
 have hcn:=conc_num
 clear hv htab hok h3 h2 h1 hlen hn hF hc
 go_enter Tryz.func207,Tryz.ntmps207
 go_wp2_with fail
 go_loopw [4,11] (fun a i wr=> ∃k:Nat,k≤us.length∧i= .int .i64 (k:Int)∧(∀q∈ls.take k,kdV q=1)∧wr.ownsRow w.heap.size 94 2 a k (flatN (ls.take k))∧Below w.heap.size w wr) (fun _ i _=>us.length-(intOf i).toNat)
 case atStart=>exact ⟨0,Nat.zero_le _,rfl,fun q h=>by simp at h,World.ownsRow_nil _ _ _ _,Below.refl _ _⟩
 case round=>
  obtain ⟨k,hk,rfl,hall,hown,hb⟩:=hrel
  have HALL:=zz hall;have HOR:=zz hown;have HB:=zz hb
  obtain ⟨aa,ac,rfl⟩:=own_shape hown
  clear hall hown hb
  by_cases hlt:k<us.length
  ·have hkp:k<ls.length:=by rw [←HLEN.out];exact hlt
   obtain ⟨b,o,rfl,-,hbl,cc⟩:=H3.out.resolve_left (by rintro rfl;simp at hlt)
   have d0:wr.cell? ⟨b,o+k,none⟩=some us[k]:=(HB.out.cell (p:=⟨b,_,none⟩) hbl).trans (cc k hlt)
   have hvk:=HV.out.at k hlt hkp
   obtain ⟨Tk,xk,hTk⟩:=hvk.iface
   rw [hTk] at hvk d0
   have HTK:=zz (show ls.take (k+1)=ls.take k++[ls[k]] from List.take_succ_eq_append_getElem hkp)
   have hin:ls[k]∈ls:=List.getElem_mem hkp
   have hokk:=HOK.out ls[k] hin
   have HIN:=zz hin
   generalize ls[k]=pk at hvk hokk HTK HIN
   clear cc hTk hin
   have hbs:=HB.out.size
   rcases hvk.asN hokk with ⟨hatk,hkd⟩|⟨sk,hatk,hsk,rfl⟩
   ·have HNN:=zz (HNO.out ⟨pk,HIN.out,hkd⟩)
    have HBA:=zz (HB.out.alloc hbs (.cells #[.int .i64 0, .int .i64 0] 154))
    clear hvk hokk hkd
    go_wp2
    go_ret
    exact Res.nil HBA.out HNN.out
   ·have HA2:=zz (show∀q∈ls.take (k+1),kdV q=1 from fun q hq=>by
     rw [HTK.out,List.mem_append,List.mem_singleton] at hq
     rcases hq with hq|rfl
     ·exact HALL.out q hq
     ·rfl)
    have HFA:=zz (show flatN (ls.take (k+1))=flatN (ls.take k)++[.int .i64 (rdT sk), .int .i64 (rdB sk)] by rw [HTK.out,flatN_append];rfl)
    generalize rdT sk=TS at hatk HFA
    generalize rdB sk=BS at hatk HFA
    have HBA:=zz ((HB.out.alloc hbs (.cells #[.int .i64 TS, .int .i64 BS] 154)).alloc (by simp;omega) (.cells #[.int .i64 TS, .int .i64 BS] 94))
    clear hvk hokk hsk HTK HIN
    go_wp2_with (at_builtin;refine wpList_append_lies _ rfl _ _ 167 rfl w.heap.size 94 j0 (.agg #[.int .i64 0, .int .i64 0]) 2 16 Tryz.underlying167 hj hy0 hy1 hy2 rfl (by decide) (.slice aa k ac) k _ rfl ((HOR.out.alloc _).alloc _) ⟨wr.heap.size+1,0,none⟩ 1 1 [.int .i64 TS, .int .i64 BS] rfl rfl (World.news_of_block (by have:=heap_alloc_new (wr.alloc (.cells #[.int .i64 TS, .int .i64 BS] 154)) (.cells #[.int .i64 TS, .int .i64 BS] 94);simpa using this)) (by simp [Value.oneCell']) (by omega) (by unfold maxLen;omega) (by omega) (by simp;omega) (wr.heap.size+1+1) (by simp) ?_;intro gg cap' w6 hown' hgrow hat2 hlt';have HO6:=zz (show w6.ownsRow w.heap.size 94 2 (.slice (some ⟨gg,0,none⟩) (k+1) cap') (k+1) (flatN (ls.take (k+1))) by rw [HFA.out];exact hown');have HB6:=zz (HBA.out.grown hgrow (by simp;omega) (fun x hx=>(HOR.out.lt x hx).1));clear hown' hgrow hat2)
    go_roundw
    case rel=>exact ⟨k+1,by omega,by go_num,HA2.out,HO6.out,HB6.out⟩
    case measure=>simp [intOf];omega
  ·obtain rfl:k=us.length:=by omega
   have htk:ls.take us.length=ls:=List.take_of_length_le (by rw [HLEN.out];exact Nat.le_refl _)
   rw [htk] at HALL HOR
   cases hls:ls with
   |nil=>
    subst hls
    have h0:us.length=0:=HLEN.out
    have hz:((us.length:Int)==0)=true:=by rw [h0];rfl
    clear H3 HOR HALL HNO htk
    go_wp2
    go_ret
    exact Res.nil HB.out rfl
   |cons q qs=>
    have hz:((us.length:Int)==0)=false:=by rw [beq_eq_false_iff_ne,HLEN.out,hls];simp;omega
    have hl2:us.length=qs.length+1:=by rw [HLEN.out,hls];rfl
    have HRES:=zz (show numR mn ls=some (bestB mn q qs) by rw [hls];exact if_pos (by rw [←hls];exact HALL.out))
    obtain ⟨g,hg,hgl,hcap⟩: ∃g,aa=some ⟨g,0,none⟩∧g<wr.heap.size∧us.length≤ac:=by
     rcases HOR.out.2 with ⟨h1,h2⟩|⟨g',cap',cur,h1,_,_,h3',h4,_⟩
     ·exact absurd h2 (by omega)
     ·injection h1 with h1 h2 h5'
      subst h1
      exact ⟨g',rfl,(HOR.out.lt g' rfl).2,by omega⟩
    subst hg
    have HRF:=zz (show RowF wr g 0 (q::qs) by
     have hrf:RowF wr g 0 ls:=by
      refine ⟨hgl,fun k hk=> ?_⟩
      obtain ⟨f0,f1⟩:=flatN_at ls k hk
      have hku:k<us.length:=by rw [HLEN.out];exact hk
      rw [Nat.zero_add,HOR.out.cellAt _ (by omega),HOR.out.cellAt _ (by omega)]
      exact ⟨f0,f1⟩
     rw [hls] at hrf;exact hrf)
    have hkq: ∀x∈q::qs,okV x=true∧kdV x=1:=fun x hx=>⟨HOK.out x (by rw [hls];exact hx),HALL.out x (by rw [hls];exact hx)⟩
    have hvB: ∀x∈q::qs,vB (rdT (wdV x)) (rdB (wdV x))=true:=fun x hx=>rd_valid _ (num_read (hkq x hx).1 (hkq x hx).2).1
    have HBEST:=zz (show okV (bestB mn q qs)=true∧ ∀w' S,VlS w' S [.iface 154 (.agg #[.int .i64 (rdT (wdV (bestB mn q qs))), .int .i64 (rdB (wdV (bestB mn q qs)))])] [bestB mn q qs] by
     have hm:bestB mn q qs∈q::qs:=by
      rcases best_mem mn qs q with h|h
      ·rw [h];exact List.mem_cons_self ..
      ·exact List.mem_cons_of_mem _ h
     refine ⟨(hkq _ hm).1,fun w' S=> ?_⟩
     rw [←hls] at hm
     obtain ⟨k,hk,hbk⟩:=List.mem_iff_getElem.mp hm
     have hvk:=HV.out.at k (by rw [HLEN.out];exact hk) hk
     obtain ⟨Tk,xk,hTk⟩:=hvk.iface
     rw [hTk,hbk] at hvk
     rcases hvk.asN (hkq _ (by rw [←hls];exact hm)).1 with ⟨_,h1⟩|⟨s,_,hs,he⟩
     ·exact absurd (hkq _ (by rw [←hls];exact hm)).2 h1
     ·rw [he];exact .num hs .nil)
    have hqs:qs.length≤1048576:=by omega
    obtain ⟨K,rfl,he,hcall⟩:=HFD.out
    have HK:=zz (hcall g 0 ac q qs wr (Up.of HB.out) hqs HRF.out hvB)
    have hc2:wr.cell? ⟨fb,0,none⟩=some (.func (.func K) #[] #[]):=(HB.out.cell (p:=⟨fb,_,none⟩) hfl).trans HC.out
    rw [hl2] at hz⊢
    generalize hTX:rdT (wdV (bestB mn q qs))=TX at HK HBEST
    generalize hBX:rdB (wdV (bestB mn q qs))=BX at HK HBEST
    clear hTX hBX H3 HOR HALL HNO htk hl2 hkq hvB hls hcall HC
    go_wp2_with fail
    refine HK.out.mono ?_
    rintro e w1 ⟨rfl,hb1⟩
    have HB1:=zz (HB.out.trans (hb1.mono HB.out.size));clear hb1
    go_wp2
    go_ret
    exact Res.val (S:=S) HB1.out (HBEST.out.2 _ _) (HT.out.keep HB1.out) HBEST.out.1 HRES.out
def MadeL (B:Nat) (R:List (List Cl)→Option (List Cl)) (w:World) (e:Ending) (w':World):Prop:= ∃F,e= .returned F∧DoesL F B w' R∧Below w.heap.size w w'
theorem enter_one1: ∀args w,(callFunc 198 args).run Tryz.prog w= .ok (.enter 198 args) w:=enters_of Tryz.func198 (by kernel_rfl) rfl
theorem enter_two1: ∀args w,(callFunc 213 args).run Tryz.prog w= .ok (.enter 213 args) w:=enters_of Tryz.func213 (by kernel_rfl) rfl
theorem enter_text1: ∀args w,(callFunc 199 args).run Tryz.prog w= .ok (.enter 199 args) w:=enters_of Tryz.func199 (by kernel_rfl) rfl
theorem enter_list1: ∀args w,(callFunc 210 args).run Tryz.prog w= .ok (.enter 210 args) w:=enters_of Tryz.func210 (by kernel_rfl) rfl
theorem enter_num1: ∀args w,(callFunc 207 args).run Tryz.prog w= .ok (.enter 207 args) w:=enters_of Tryz.func207 (by kernel_rfl) rfl
theorem ofOne_any (B:Nat) (F:Value) (R:List Cl→Option (List Cl)) (w:World) (hB:B<w.heap.size) (hF:DoesV F B w R):
  Calls Tryz.prog 176 #[F] w (MadeL B (oneL R) w):=by
 have HD:=zz hF
 obtain ⟨K,cb,rfl,-,-⟩:=hF
 have HBL:=zz ((Below.refl w.heap.size w).alloc (Nat.le_refl _) (.cells #[.func (.func K) #[] cb] 194))
 have c0:(w.alloc (.cells #[.func (.func K) #[] cb] 194)).cell? ⟨w.heap.size,0,none⟩=some (.func (.func K) #[] cb):=by simp [go_sem]
 have HDL:=zz (show DoesL (.func (.func 198) #[] #[.pointer (some ⟨w.heap.size,0,none⟩)]) B (w.alloc (.cells #[.func (.func K) #[] cb] 194)) (oneL R) from
  ⟨_,_,rfl,enter_one1,fun S w' v us ls hS hu ht hr hv hok hn=>ofOne1_any w.heap.size B _ R v us ls w' (hu.cell (by omega) c0) (HD.out.keep ((Up.of HBL.out).trans hu)) hS hr hv hok hn ht⟩)
 clear c0
 go_enter Tryz.func176,Tryz.ntmps176
 go_wp2
 go_ret
 exact ⟨_,rfl,HDL.out,HBL.out⟩
theorem ofTwo_any (B:Nat) (F:Value) (R:List Cl→List Cl→Option (List Cl)) (w:World) (hB:B<w.heap.size) (hF:DoesVV F B w R):
  Calls Tryz.prog 187 #[F] w (MadeL B (twoL R) w):=by
 have HD:=zz hF
 obtain ⟨K,rfl,-,-⟩:=hF
 have HBL:=zz ((Below.refl w.heap.size w).alloc (Nat.le_refl _) (.cells #[.func (.func K) #[] #[]] 202))
 have c0:(w.alloc (.cells #[.func (.func K) #[] #[]] 202)).cell? ⟨w.heap.size,0,none⟩=some (.func (.func K) #[] #[]):=by simp [go_sem]
 have HDL:=zz (show DoesL (.func (.func 213) #[] #[.pointer (some ⟨w.heap.size,0,none⟩)]) B (w.alloc (.cells #[.func (.func K) #[] #[]] 202)) (twoL R) from
  ⟨_,_,rfl,enter_two1,fun S w' v us ls hS hu ht hr hv hok hn=>ofTwo1_any w.heap.size B _ R v us ls w' (hu.cell (by omega) c0) (HD.out.keep ((Up.of HBL.out).trans hu)) hS hr hv hok hn ht⟩)
 clear c0
 go_enter Tryz.func187,Tryz.ntmps187
 go_wp2
 go_ret
 exact ⟨_,rfl,HDL.out,HBL.out⟩
theorem ofNumbers_any (B:Nat) (F:Value) (mn:Bool) (w:World) (hB:B<w.heap.size) (hF:DoesF F B w mn):
  Calls Tryz.prog 181 #[F] w (MadeL B (numR mn) w):=by
 have HD:=zz hF
 obtain ⟨K,rfl,-,-⟩:=hF
 have HBL:=zz ((Below.refl w.heap.size w).alloc (Nat.le_refl _) (.cells #[.func (.func K) #[] #[]] 198))
 have c0:(w.alloc (.cells #[.func (.func K) #[] #[]] 198)).cell? ⟨w.heap.size,0,none⟩=some (.func (.func K) #[] #[]):=by simp [go_sem]
 have HDL:=zz (show DoesL (.func (.func 207) #[] #[.pointer (some ⟨w.heap.size,0,none⟩)]) B (w.alloc (.cells #[.func (.func K) #[] #[]] 198)) (numR mn) from
  ⟨_,_,rfl,enter_num1,fun S w' v us ls _ hu ht hr hv hok hn=>ofNumbers1_any w.heap.size B _ mn v us ls w' (hu.cell (by omega) c0) (HD.out.keep ((Up.of HBL.out).trans hu)) hr hv hok hn ht⟩)
 clear c0
 go_enter Tryz.func181,Tryz.ntmps181
 go_wp2
 go_ret
 exact ⟨_,rfl,HDL.out,HBL.out⟩
theorem ofText_any (B:Nat) (F:Value) (f:ByteArray→ByteArray) (w:World) (hB:B<w.heap.size) (hF:DoesS F B w f):
  Calls Tryz.prog 178 #[F] w (MadeL B (oneL (textR f)) w):=by
 have HD:=zz hF
 obtain ⟨K,rfl,-,-⟩:=hF
 have HBL:=zz ((Below.refl w.heap.size w).alloc (Nat.le_refl _) (.cells #[.func (.func K) #[] #[]] 196))
 have c0:(w.alloc (.cells #[.func (.func K) #[] #[]] 196)).cell? ⟨w.heap.size,0,none⟩=some (.func (.func K) #[] #[]):=by simp [go_sem]
 have HO:=zz (ofOne_any B (.func (.func 199) #[] #[.pointer (some ⟨w.heap.size,0,none⟩)]) (textR f) (w.alloc (.cells #[.func (.func K) #[] #[]] 196)) (by simp;omega)
  ⟨_,_,rfl,enter_text1,fun S w' u p _ hu ht hv hok=>ofText1_any w.heap.size B _ f u p w' (hu.cell (by omega) c0) (HD.out.keep ((Up.of HBL.out).trans hu)) hv hok⟩)
 clear c0
 go_enter Tryz.func178,Tryz.ntmps178
 go_wp2_with fail
 refine HO.out.mono ?_
 rintro e w1 ⟨F1,rfl,hd,hb1⟩
 have HDL:=zz hd
 have HB1:=zz (HBL.out.trans (hb1.mono HBL.out.size));clear hb1 hd
 go_wp2
 go_ret
 exact ⟨_,rfl,HDL.out,HB1.out⟩
theorem ofList_any (B:Nat) (F:Value) (R:List Cl→Option (List Cl)) (w:World) (hB:B<w.heap.size) (hF:DoesP F B w R):
  Calls Tryz.prog 184 #[F] w (MadeL B (oneL (listR5 R)) w):=by
 have HD:=zz hF
 obtain ⟨K,rfl,-,-⟩:=hF
 have HBL:=zz ((Below.refl w.heap.size w).alloc (Nat.le_refl _) (.cells #[.func (.func K) #[] #[]] 200))
 have c0:(w.alloc (.cells #[.func (.func K) #[] #[]] 200)).cell? ⟨w.heap.size,0,none⟩=some (.func (.func K) #[] #[]):=by simp [go_sem]
 have HO:=zz (ofOne_any B (.func (.func 210) #[] #[.pointer (some ⟨w.heap.size,0,none⟩)]) (listR5 R) (w.alloc (.cells #[.func (.func K) #[] #[]] 200)) (by simp;omega)
  ⟨_,_,rfl,enter_list1,fun S w' u p hS hu ht hv hok=>ofList1_any w.heap.size B _ R u p w' (hu.cell (by omega) c0) (HD.out.keep ((Up.of HBL.out).trans hu)) hS hv hok ht⟩)
 clear c0
 go_enter Tryz.func184,Tryz.ntmps184
 go_wp2_with fail
 refine HO.out.mono ?_
 rintro e w1 ⟨F1,rfl,hd,hb1⟩
 have HDL:=zz hd
 have HB1:=zz (HBL.out.trans (hb1.mono HBL.out.size));clear hb1 hd
 go_wp2
 go_ret
 exact ⟨_,rfl,HDL.out,HB1.out⟩
theorem eqlNilN (c:Nat) (w:World):(binOp BinOp.eql 158 (.slice none 0 c) (.slice none 0 0)).run Tryz.prog w= .ok (.bool true) w:=by kernel_rfl
theorem VlS.rev {w:World} {S:Nat→Prop} {us:List Value} {ps:List (List Cl)} (h:VlS w S us ps):VlS w S us.reverse ps.reverse:=by
 induction h with
 |nil=>exact .nil
 |num h1 h2 ih=>rw [List.reverse_cons,List.reverse_cons];exact ih.app (.num h1 .nil)
 |text h1 h2 ih=>rw [List.reverse_cons,List.reverse_cons];exact ih.app (.text h1 .nil)
 |truth h2 ih=>rw [List.reverse_cons,List.reverse_cons];exact ih.app (.truth .nil)
 |list h1 h2 h3 i2 i3=>rw [List.reverse_cons,List.reverse_cons];exact i3.app (.list h1 h2 .nil)
theorem RowV.of_own {w:World} {base g n c:Nat} {us:List Value} (h:w.ownsRow base 70 1 (.slice (some ⟨g,0,none⟩) n c) n us) {S:Nat→Prop} (hS:Hi base S):RowV w S (.slice (some ⟨g,0,none⟩) n c) us∧n=us.length:=by
 have hl:n=us.length:=by have:=h.1;omega
 subst hl
 obtain ⟨hc1,hc2⟩:us.length≤c∧c≤maxLen:=by
  rcases h.2 with ⟨h1,_⟩|⟨g',cap,cur,h1,_,_,h3,h4,_⟩
  ·cases h1
  ·injection h1 with h1 h2 h5';subst h5';exact ⟨h3,h4⟩
 exact ⟨⟨_,c,rfl,hc1,hc2, .inr ⟨g,0,rfl,hS g (h.lt g rfl).1,(h.lt g rfl).2,fun k hk=>by rw [Nat.zero_add,h.cellAt k (by omega),List.getElem?_eq_getElem hk]⟩⟩,rfl⟩
theorem clone_none (ao:Option Addr) (cap:Nat) (w:World):
  Calls Tryz.prog 211 #[.slice ao 0 cap] w fun e w'=> ∃ao' c',e= .returned (.slice ao' 0 c')∧c'≤maxLen∧Below w.heap.size w w':=by
 cases ao with
 |none=>
  have hq:=fun w=>eqlNilN cap w
  go_enter Tryz.func211,Tryz.ntmps211
  go_wp2
  go_ret
  exact ⟨none,0,rfl,by unfold maxLen;omega,Below.refl _ _⟩
 |some a=>
  have hq:=fun w=>eqlNil a 0 cap w
  obtain ⟨j0,hj,hy0,hy1,hy2⟩:=info_parts infoVG
  have O0:=zz (show (w.alloc (.cells #[] 70)).ownsRow w.heap.size 70 1 (.slice (some ⟨w.heap.size,0,none⟩) 0 0) 0 [] from World.ownsRow_lit (e:=70) (size:=1) (base:=w.heap.size) w #[] 0 (Nat.le_refl _) (by unfold maxLen;omega) rfl)
  have HB:=zz ((Below.refl w.heap.size w).alloc (Nat.le_refl _) (.cells #[] 70))
  go_enter Tryz.func211,Tryz.ntmps211
  go_wp2_with (at_builtin;refine wpList_append_own _ rfl _ _ 158 rfl w.heap.size 70 j0 .nilIface 1 16 Tryz.underlying158 hj hy0 hy1 hy2 rfl (by decide) (.slice (some ⟨w.heap.size,0,none⟩) 0 0) 0 [] rfl O0.out a 0 cap [] rfl rfl (fun j u h=>by simp at h) (fun u h=>by cases h) (by unfold maxLen;omega) (by omega) (by simp) ?_;intro v' w6 hown' hgrow hat;have HO:=zz (show w6.ownsRow w.heap.size 70 1 v' 0 [] by simpa using hown');have HB6:=zz (HB.out.grown hgrow (by simp) (fun x hx=>by simp [Value.ownBlock] at hx;omega));clear hown' hgrow hat)
  obtain ⟨a6,c6,rfl⟩:=own_shape HO.out
  have hc6:c6≤maxLen:=by
   rcases HO.out.2 with ⟨h1,_⟩|⟨g',cap',cur,h1,_,_,h3,h4,_⟩
   ·injection h1 with h1 h2 h5';unfold maxLen;omega
   ·injection h1 with h1 h2 h5';omega
  go_wp2
  go_ret
  exact ⟨a6,c6,rfl,hc6,HB6.out⟩
theorem reversedList_any {S:Nat→Prop} (v:Value) (us:List Value) (ps:List (List Cl)) (w:World) (hS:Hi w.heap.size S) (hr:RowV w S v us) (hv:VlS w S us ps) (hok:okV (listV ps)=true) (htab:Tab w):
  Calls Tryz.prog 186 #[v] w (Res S (revR (listV ps)) w):=by
 have HS:=zz hS;clear hS
 obtain ⟨hps,hpv⟩:=okV_parts hv.exs hok
 have hto:=turned_ok hok (show kdV (listV ps)=5 from rfl)
 rw [hpv] at hto
 have HL:=zz (show revR (listV ps)=some (listV ps.reverse) by rw [revR,if_pos (show kdV (listV ps)=5 from rfl),hpv,lisO,if_pos hto])
 have HTO:=zz hto
 have hlen:=hv.len
 have hm:ps.length≤60:=by
  have:=okVC_many (okV_head (c:=(5,⟨#[]⟩,(ps.length:Int))) (t:=ps.flatten) hok)
  simp only at this;omega
 have HT:=zz htab;have HV:=zz hv
 obtain ⟨ao,cap,rfl,h1,h2,h3⟩:=hr
 unfold maxLen at h2
 have hcl:=conc_list
 clear htab hv hps hpv hto hok
 by_cases h0:us=[]
 ·subst h0
  obtain rfl:ps=[]:=List.length_eq_zero_iff.mp (by rw [←hlen];rfl)
  have HCL:=zz (clone_none ao cap w)
  clear h3 hlen h1
  go_enter Tryz.func186,Tryz.ntmps186
  go_wp2_with fail
  refine HCL.out.mono ?_
  rintro e w1 ⟨ao',c',rfl,hc',hb1⟩
  have HB1:=zz hb1;have HC':=zz hc';clear hb1 hc'
  go_wp2_with fail
  refine (reverse_none ao' c' w1).mono ?_
  rintro e w2 ⟨rfl,rfl⟩
  go_wp2
  go_ret
  exact Res.val (S:=S) HB1.out (.list (us':=[]) ⟨ao',c',rfl,Nat.zero_le _,HC'.out, .inl rfl⟩ .nil .nil) (HT.out.keep HB1.out) HTO.out HL.out
 ·obtain ⟨b,o,rfl,-,hbl,cc⟩:=h3.resolve_left h0
  have hl0:0<us.length:=List.length_pos_iff.mpr h0
  have HCL:=zz (clone_any b o cap us w h0 (by omega) HV.out.cell1 cc hbl)
  have hif: ∀u∈us,∃T x,u= .iface T x:=fun u hu=>by
   obtain ⟨k,hk,rfl⟩:=List.mem_iff_getElem.mp hu
   exact (HV.out.at k hk (by omega)).iface
  have HIF:=zz hif
  have hu8:us.length≤1000:=by omega
  clear cc hlen h1 h0 hif
  go_enter Tryz.func186,Tryz.ntmps186
  go_wp2_with fail
  refine HCL.out.mono ?_
  rintro e w1 ⟨g,c,rfl,ho1,hb1⟩
  have HB1:=zz hb1;have HO1:=zz ho1;clear hb1 ho1
  go_wp2_with fail
  refine (reverse_any w.heap.size g c us w1 hl0 hu8 HIF.out HO1.out).mono ?_
  rintro e w2 ⟨rfl,ho2,hb2⟩
  have HB2:=zz (HB1.out.trans hb2);have HO2:=zz (RowV.of_own ho2 HS.out).1;clear hb2 ho2
  have HV2:=zz ((HV.out.low HB2.out).rev)
  go_wp2
  go_ret
  exact Res.val (S:=S) HB2.out (.list HO2.out HV2.out .nil) (HT.out.keep HB2.out) HTO.out HL.out
theorem infoSJ:(Tryz.prog.info? 9).map (fun i=>(i.zero,i.size,i.bytes))=some (some (.string ByteArray.empty),1,16):=by kernel_rfl
open Classical in
noncomputable def joinR (p x:List Cl):Option (List Cl):=if kdV p=5∧kdV x=2∧ ∀q∈partsV p,kdV q=2 then texO (joinSep (wdV x) ((partsV p).map wdV)) else none
theorem foldl_join (sep:ByteArray): ∀(xs:List ByteArray) (a:ByteArray),(xs.foldl (fun a y=>a++sep++y) a).data.toList=a.data.toList++Lib.joinTail sep.data.toList (xs.map (·.data.toList)):=by
 intro xs
 induction xs with
 |nil=>intro a;simp [Lib.joinTail]
 |cons x xs ih=>intro a;rw [List.foldl_cons,ih];simp [Lib.joinTail]
theorem joinSep_is (sep:ByteArray) (xs:List ByteArray):(⟨(Lib.join (xs.map (·.data.toList)) sep.data.toList).toArray⟩:ByteArray)=joinSep sep xs:=by
 cases xs with
 |nil=>rfl
 |cons x xs=>
  rw [List.map_cons,Lib.join_cons,joinSep]
  apply ByteArray.ext
  apply Array.ext'
  rw [foldl_join]
theorem foldl_size (sep:ByteArray) (hs:sep.size≤60): ∀(xs:List ByteArray) (a:ByteArray),(∀x∈xs,x.size≤60)→(xs.foldl (fun a y=>a++sep++y) a).size≤a.size+120*xs.length:=by
 intro xs
 induction xs with
 |nil=>intro a _;simp
 |cons x xs ih=>
  intro a h
  rw [List.foldl_cons]
  have h1:=ih (a++sep++x) (fun y hy=>h y (List.mem_cons_of_mem _ hy))
  have h2:=h x (List.mem_cons_self ..)
  have h3:(a++sep++x).size=a.size+sep.size+x.size:=by simp
  rw [List.length_cons];omega
theorem joinSep_size (sep:ByteArray) (hs:sep.size≤60) (xs:List ByteArray) (h: ∀x∈xs,x.size≤60):(joinSep sep xs).size≤120*(xs.length+1):=by
 cases xs with
 |nil=>rw [joinSep];decide
 |cons x xs=>
  rw [joinSep]
  have h1:=foldl_size sep hs xs x (fun y hy=>h y (List.mem_cons_of_mem _ hy))
  have h2:=h x (List.mem_cons_self ..)
  rw [List.length_cons];omega
theorem join_none (ao:Option Addr) (c:Nat) (sep:ByteArray) (w:World):
  Calls Tryz.prog 216 #[.slice ao 0 c, .string sep] w fun e w'=>e= .returned (.string ⟨#[]⟩)∧w=w':=by
 go_enter Tryz.func216,Tryz.ntmps216
 go_wp2
 go_ret
 exact ⟨rfl,rfl⟩
theorem joinedTexts_any {S:Nat→Prop} (u u':Value) (p q:List Cl) (w:World) (hv:VlS w S [u] [p]) (hok:okV p=true) (hv':VlS w S [u'] [q]) (hok':okV q=true) (htab:Tab w):
  Calls Tryz.prog 189 #[u,u'] w (Res S (joinR p q) w):=by
 obtain ⟨T,x,rfl⟩:=hv.iface
 obtain ⟨T2,x2,rfl⟩:=hv'.iface
 rcases hv.asL hok with ⟨has,hkd⟩|⟨has,us,ps,hr,hvs,rfl⟩
 ·have HL:=zz (show joinR p q=none by rw [joinR,if_neg (fun h=>hkd h.1)])
  rcases hv'.asT hok' with ⟨hat,hkd2⟩|⟨s,hat,hs,rfl⟩
  ·clear hv hv' htab hok hok' hkd hkd2
   go_enter Tryz.func189,Tryz.ntmps189
   go_wp2
   go_ret
   exact Res.nil (Below.refl _ _) HL.out
  ·clear hv hv' htab hok hok' hkd hs
   go_enter Tryz.func189,Tryz.ntmps189
   go_wp2
   go_ret
   exact Res.nil (Below.refl _ _) HL.out
 ·rcases hv'.asT hok' with ⟨hat,hkd2⟩|⟨s,hat,hs,rfl⟩
  ·have HL:=zz (show joinR (listV ps) q=none by rw [joinR,if_neg (fun h=>hkd2 h.2.1)])
   clear hv hv' htab hok hok' hkd2 hr hvs
   go_enter Tryz.func189,Tryz.ntmps189
   go_wp2
   go_ret
   exact Res.nil (Below.refl _ _) HL.out
  ·obtain ⟨j0,hj,hy0,hy1,hy2⟩:=info_parts infoSJ
   obtain ⟨hps,hpv⟩:=okV_parts hvs.exs hok
   have hsz:s.size≤60:=by
    have:=okVC_word (okV_head hok');exact this
   have HSZ:=zz hsz
   have HNO:=zz (show (∃q∈ps,kdV q≠2)→joinR (listV ps) [(2,s,0)]=none from fun ⟨q,h1,h2⟩=>by
    rw [joinR,if_neg];rintro ⟨-,-,h⟩;rw [hpv] at h;exact h2 (h q h1))
   have HYES:=zz (show (∀q∈ps,kdV q=2)→joinR (listV ps) [(2,s,0)]=texO (joinSep s (ps.map wdV)) from fun h=>by
    rw [joinR,if_pos ⟨rfl,rfl,by rw [hpv];exact h⟩,hpv];rfl)
   have hlen:=hvs.len
   have hm:ps.length≤8:=by
    have:=okVC_many (okV_head (c:=(5,⟨#[]⟩,(ps.length:Int))) (t:=ps.flatten) hok)
    simp only at this;omega
   have HV:=zz hvs;have HPS:=zz hps;have HLEN:=zz hlen;have HM:=zz hm
   obtain ⟨ao,cap,rfl,h1,h2,h3⟩:=hr
   have hus:us.length≤8:=by omega
   have H3:=zz h3
   have hcl:=conc_text
   clear hv hv' htab hok hok' hps hpv h3 h2 h1 hvs hlen hm hs hsz
   go_enter Tryz.func189,Tryz.ntmps189
   go_wp2_with fail
   go_loopw [9,32] (fun a i wr=> ∃k:Nat,k≤us.length∧i= .int .i64 (k:Int)∧(∀q∈ps.take k,kdV q=2)∧wr.ownsRow w.heap.size 9 1 a k ((ps.take k).map (fun p=>Value.string (wdV p)))∧Below w.heap.size w wr) (fun _ i _=>us.length-(intOf i).toNat)
   case atStart=>exact ⟨0,Nat.zero_le _,rfl,fun q h=>by simp at h,World.ownsRow_nil _ _ _ _,Below.refl _ _⟩
   case round=>
    obtain ⟨k,hk,rfl,hall,hown,hb⟩:=hrel
    have HALL:=zz hall;have HOR:=zz hown;have HB:=zz hb
    obtain ⟨aa,ac,rfl⟩:=own_shape hown
    clear hall hown hb
    by_cases hlt:k<us.length
    ·have hkp:k<ps.length:=by rw [←HLEN.out];exact hlt
     obtain ⟨b,o,rfl,-,hbl,cc⟩:=H3.out.resolve_left (by rintro rfl;simp at hlt)
     have d0:wr.cell? ⟨b,o+k,none⟩=some us[k]:=(HB.out.cell (p:=⟨b,_,none⟩) hbl).trans (cc k hlt)
     have hvk:=HV.out.at k hlt hkp
     obtain ⟨Tk,xk,hTk⟩:=hvk.iface
     rw [hTk] at hvk d0
     have HTK:=zz (show ps.take (k+1)=ps.take k++[ps[k]] from List.take_succ_eq_append_getElem hkp)
     have hin:ps[k]∈ps:=List.getElem_mem hkp
     have hokk:=HPS.out ps[k] hin
     have HIN:=zz hin
     generalize ps[k]=pk at hvk hokk HTK HIN
     clear cc hTk hin
     rcases hvk.asT hokk with ⟨hatk,hkd⟩|⟨sk,hatk,hsk,rfl⟩
     ·have HN:=zz (HNO.out ⟨pk,HIN.out,hkd⟩)
      clear hvk hokk hkd
      go_wp2
      go_ret
      exact Res.nil HB.out HN.out
     ·have HA2:=zz (show∀q∈ps.take (k+1),kdV q=2 from fun q hq=>by
       rw [HTK.out,List.mem_append,List.mem_singleton] at hq
       rcases hq with hq|rfl
       ·exact HALL.out q hq
       ·rfl)
      have hbs:=HB.out.size
      have HBW:=zz (Below.mono ((Below.refl wr.heap.size wr)) hbs)
      clear hvk hokk hsk
      go_wp2_with (at_builtin;refine wpList_append_lies _ rfl _ _ 50 rfl w.heap.size 9 j0 (.string ByteArray.empty) 1 16 Tryz.underlying50 hj hy0 hy1 hy2 rfl (by decide) (.slice aa k ac) k _ rfl (HOR.out.alloc _) ⟨wr.heap.size,0,none⟩ 1 1 [.string sk] rfl rfl (World.news_of_block (heap_alloc_new wr _)) (by simp [Value.oneCell']) (by omega) (by unfold maxLen;omega) (by omega) (by simp;omega) (wr.heap.size+1) (by simp) ?_;intro gg cap' w6 hown' hgrow hat2 hlt';have HO6:=zz (show w6.ownsRow w.heap.size 9 1 (.slice (some ⟨gg,0,none⟩) (k+1) cap') (k+1) ((ps.take (k+1)).map (fun p=>Value.string (wdV p))) by rw [HTK.out,List.map_append];exact hown');have HB6:=zz ((HB.out.alloc hbs (.cells #[.string sk] 9)).grown hgrow (by simp;omega) (fun x hx=>(HOR.out.lt x hx).1));clear hown' hgrow hat2)
      go_roundw
      case rel=>exact ⟨k+1,by omega,by go_num,HA2.out,HO6.out,HB6.out⟩
      case measure=>simp [intOf];omega
    ·obtain rfl:k=us.length:=by omega
     have htk:ps.take us.length=ps:=List.take_of_length_le (by rw [HLEN.out];exact Nat.le_refl _)
     have HY:=zz (HYES.out (by have:=HALL.out;rwa [htk] at this))
     have HW60:=zz (show∀x∈ps.map wdV,x.size≤60 from fun x hx=>by
      obtain ⟨q,hq,rfl⟩:=List.mem_map.mp hx
      obtain ⟨c,t,rfl⟩:=okV_cons (HPS.out q hq)
      exact okVC_word (okV_head (HPS.out _ hq)))
     have HJS:=zz (joinSep_size s HSZ.out (ps.map wdV) HW60.out)
     have hpl:(ps.map wdV).length=us.length:=by rw [List.length_map,HLEN.out]
     by_cases h0:us.length=0
     ·have HE:=zz (show joinSep s (ps.map wdV)=⟨#[]⟩ by
       rw [List.length_eq_zero_iff.mp (hpl.trans h0)];rfl)
      rw [h0]
      have hj0:=fun w=>join_none aa ac s w
      rw [htk] at HOR
      clear H3 HALL HOR htk hpl
      go_wp2_with fail
      refine (hj0 _).mono ?_
      rintro e w' ⟨rfl,rfl⟩
      go_wp2
      go_ret
      exact Res.text HB.out ⟨#[]⟩ (by decide) (by rw [HY.out,HE.out])
     ·rw [htk] at HOR
      obtain ⟨g,hg,hgl,hcap⟩: ∃g,aa=some ⟨g,0,none⟩∧g<wr.heap.size∧us.length≤ac:=by
       rcases HOR.out.2 with ⟨h1,h2⟩|⟨g',cap',cur,h1,_,_,h3',h4,_⟩
       ·exact absurd h2 h0
       ·injection h1 with h1 h2 h5'
        subst h1
        exact ⟨g',rfl,(HOR.out.lt g' rfl).2,by omega⟩
      subst hg
      have HJ:=zz (Tryz.strings_Join g 0 ac (ps.map wdV) s wr (fun j y hy=>by
        have hjl:j<us.length:=by
         by_cases h:j<(ps.map wdV).length
         ·omega
         ·rw [List.getElem?_eq_none (by omega)] at hy;cases hy
        rw [Nat.zero_add,HOR.out.cellAt j (by omega)]
        rw [List.getElem?_map] at hy⊢
        cases hpj:ps[j]? with
        |none=>rw [hpj] at hy;cases hy
        |some q=>rw [hpj] at hy;simp only [Option.map_some,Option.some.injEq] at hy⊢;rw [hy]) hgl (by omega) (by omega)
       (by
        have h1:=congrArg ByteArray.size (joinSep_is s (ps.map wdV))
        have h2:(⟨(Lib.join ((ps.map wdV).map (·.data.toList)) s.data.toList).toArray⟩:ByteArray).size=(Lib.join ((ps.map wdV).map (·.data.toList)) s.data.toList).length:=by
         show (Lib.join ((ps.map wdV).map (·.data.toList)) s.data.toList).toArray.size=_
         simp
        have h3:=HJS.out
        omega))
      rw [joinSep_is,hpl] at HJ
      generalize joinSep s (ps.map wdV)=jj at HJ HY HJS
      have hjs:jj.size≤1048576:=by have:=HJS.out;omega
      clear H3 HALL HOR htk hpl
      go_wp2_with fail
      refine HJ.out.mono ?_
      rintro e w3 ⟨rfl,hb3⟩
      have HB3:=zz (HB.out.trans (hb3.mono HB.out.size));clear hb3
      go_wp2
      go_ret
      exact Res.text HB3.out jj hjs HY.out
noncomputable def tableF:List (ByteArray×(List (List Cl)→Option (List Cl))):=
 [(nmLength,oneL lenR),(nmUpper,oneL (textR (mapB upC))),(nmLower,oneL (textR (mapB loC))),(nmMin,numR true),(nmMax,numR false),(nmFirst,oneL (listR5 firstR)),(nmReverse,oneL (listR5 revR)),(nmContains,twoL conR),(nmJoin,twoL joinR)]
theorem table_all (ls:List (List Cl)): ∀q∈tableF,callF q.1 ls=q.2 ls:=by
 intro q hq
 simp only [tableF,List.mem_cons,List.not_mem_nil,or_false] at hq
 rcases hq with rfl|rfl|rfl|rfl|rfl|rfl|rfl|rfl|rfl
 ·rw [callF_len];match ls with
  |[]=>rfl
  |[v]=>rfl
  |a::b::r=>rfl
 ·rw [callF_up];match ls with
  |[]=>rfl
  |[v]=>rfl
  |a::b::r=>rfl
 ·rw [callF_lo];match ls with
  |[]=>rfl
  |[v]=>rfl
  |a::b::r=>rfl
 ·rw [callF_min];match ls with
  |[]=>rfl
  |v::vs=>simp only [numR]
 ·rw [callF_max];match ls with
  |[]=>rfl
  |v::vs=>simp only [numR]
 ·rw [callF_first];match ls with
  |[]=>rfl
  |[v]=>
   show (if kdV v=5 then (partsV v)[0]? else none)=(if kdV v=5 then (if kdV v=5 then (partsV v)[0]? else none) else none)
   split<;>rfl
  |a::b::r=>rfl
 ·rw [callF_rev];match ls with
  |[]=>rfl
  |[v]=>
   show (if kdV v=5 then lisO (partsV v).reverse else none)=(if kdV v=5 then (if kdV v=5 then lisO (partsV v).reverse else none) else none)
   split<;>rfl
  |a::b::r=>rfl
 ·rw [callF_conL];match ls with
  |[]=>rfl
  |[v]=>rfl
  |[v,x]=>rfl
  |a::b::c::r=>rfl
 ·rw [callF_join];match ls with
  |[]=>rfl
  |[v]=>rfl
  |[v,x]=>rfl
  |a::b::c::r=>rfl
theorem table_none {nm:ByteArray} (h: ∀q∈tableF,q.1≠nm) (ls:List (List Cl)):callF nm ls=none:=by
 have g: ∀s,s∈tableF.map (·.1)→nm≠s:=fun s hm e=>by
  obtain ⟨q,hq,rfl⟩:=List.mem_map.mp hm
  exact h q hq e.symm
 exact callF_other ⟨g nmLength (by simp [tableF]),g nmUpper (by simp [tableF]),g nmLower (by simp [tableF]),g nmMin (by simp [tableF]),g nmMax (by simp [tableF]),g nmFirst (by simp [tableF]),g nmReverse (by simp [tableF]),g nmContains (by simp [tableF]),g nmJoin (by simp [tableF])⟩
def FT (w wi:World) (es:List (ByteArray×Value×(List (List Cl)→Option (List Cl)))):Prop:=
 MapIs wi w.heap.size (es.map fun p=>(p.1,p.2.1))∧(∀p∈es,DoesL p.2.1 w.heap.size wi p.2.2)∧Below w.heap.size w wi
theorem FT.lt {w wi:World} {es:List (ByteArray×Value×(List (List Cl)→Option (List Cl)))} (h:FT w wi es):w.heap.size<wi.heap.size:=h.1.lt
theorem FT.call {w wi w':World} {es:List (ByteArray×Value×(List (List Cl)→Option (List Cl)))} (h:FT w wi es) (hb:Below wi.heap.size wi w'):FT w w' es:=
 ⟨h.1.keep hb,fun p hp=>(h.2.1 p hp).keep (Up.of hb),h.2.2.trans (hb.mono h.2.2.size)⟩
theorem FT.add {w wi w':World} {es:List (ByteArray×Value×(List (List Cl)→Option (List Cl)))} {nm:ByteArray} {F:Value} {R:List (List Cl)→Option (List Cl)} (h:FT w wi es) (hF:DoesL F w.heap.size wi R) (hm:MapIs w' w.heap.size ((es.map fun p=>(p.1,p.2.1))++[(nm,F)])) (hg:wi.grownBy w' (some w.heap.size)):
  FT w w' (es++[(nm,F,R)]):=by
 refine ⟨by rw [List.map_append];exact hm,fun p hp=> ?_,h.2.2.grown hg h.2.2.size (fun j hj=>by cases hj;exact Nat.le_refl _)⟩
 rw [List.mem_append,List.mem_singleton] at hp
 rcases hp with hp|rfl
 ·exact (h.2.1 p hp).keep (Up.grown hg)
 ·exact hF.keep (Up.grown hg)
theorem ns_small {es:List (ByteArray×Value×(List (List Cl)→Option (List Cl)))} (names:List ByteArray) (h:es.map (·.1)=names) (ha: ∀s∈names,s.size≤1000): ∀p∈es.map (fun p=>(p.1,p.2.1)),p.1.size≤maxLen:=by
 intro p hp
 obtain ⟨q,hq,rfl⟩:=List.mem_map.mp hp
 have:=ha q.1 (by rw [←h];exact List.mem_map.mpr ⟨q,hq,rfl⟩)
 unfold maxLen;show q.1.size≤_;omega
theorem ns_new {es:List (ByteArray×Value×(List (List Cl)→Option (List Cl)))} (names:List ByteArray) (h:es.map (·.1)=names) {key:ByteArray} (ha: ∀s∈names,s≠key): ∀p∈es.map (fun p=>(p.1,p.2.1)),p.1≠key:=by
 intro p hp
 obtain ⟨q,hq,rfl⟩:=List.mem_map.mp hp
 exact ha q.1 (by rw [←h];exact List.mem_map.mpr ⟨q,hq,rfl⟩)
theorem upper_b: ∀n:Nat,n<256→Lib.upperB (UInt8.ofNat n)=upC (UInt8.ofNat n):=by decide+kernel
theorem lower_b: ∀n:Nat,n<256→Lib.lowerB (UInt8.ofNat n)=loC (UInt8.ofNat n):=by decide+kernel
theorem upper_is (s:ByteArray):(⟨(Lib.toUpperA s.data.toList).toArray⟩:ByteArray)=mapB upC s:=by
 unfold mapB Lib.toUpperA
 congr 2
 refine List.map_congr_left fun c _=> ?_
 have h:=upper_b c.toNat c.toNat_lt
 rwa [UInt8.ofNat_toNat] at h
theorem lower_is (s:ByteArray):(⟨(Lib.toLowerA s.data.toList).toArray⟩:ByteArray)=mapB loC s:=by
 unfold mapB Lib.toLowerA
 congr 2
 refine List.map_congr_left fun c _=> ?_
 have h:=lower_b c.toNat c.toNat_lt
 rwa [UInt8.ofNat_toNat] at h
theorem plain_all: ∀n:Nat,n<256→okI ((UInt8.ofNat n).toNat:Int)=true→(UInt8.ofNat n).toNat<128:=by decide+kernel
theorem plain_ascii {s:ByteArray} (h:okC (2,s,0)=true):s.size≤60∧ ∀(j:Nat) (b:UInt8),s.data.toList[j]? =some b→b.toNat<128:=by
 obtain ⟨htb,hsz⟩:textB s=true∧s.size≤60:=by
  simpa [okC,cellB,wordB,manyB] using h
 refine ⟨hsz,fun j b hb=> ?_⟩
 rw [textB,Bool.and_eq_true,okL,List.all_eq_true] at htb
 have h1:=htb.2 b (List.mem_of_getElem? hb)
 have h2:=plain_all b.toNat b.toNat_lt
 rw [UInt8.ofNat_toNat] at h2
 exact h2 h1
theorem enter_len: ∀args w,(callFunc 177 args).run Tryz.prog w= .ok (.enter 177 args) w:=enters_of Tryz.func177 (by kernel_rfl) rfl
theorem enter_fst: ∀args w,(callFunc 185 args).run Tryz.prog w= .ok (.enter 185 args) w:=enters_of Tryz.func185 (by kernel_rfl) rfl
theorem enter_rvl: ∀args w,(callFunc 186 args).run Tryz.prog w= .ok (.enter 186 args) w:=enters_of Tryz.func186 (by kernel_rfl) rfl
theorem enter_cnp: ∀args w,(callFunc 188 args).run Tryz.prog w= .ok (.enter 188 args) w:=enters_of Tryz.func188 (by kernel_rfl) rfl
theorem enter_jnt: ∀args w,(callFunc 189 args).run Tryz.prog w= .ok (.enter 189 args) w:=enters_of Tryz.func189 (by kernel_rfl) rfl
theorem enter_lst: ∀args w,(callFunc 182 args).run Tryz.prog w= .ok (.enter 182 args) w:=enters_of Tryz.func182 (by kernel_rfl) rfl
theorem enter_grt: ∀args w,(callFunc 183 args).run Tryz.prog w= .ok (.enter 183 args) w:=enters_of Tryz.func183 (by kernel_rfl) rfl
theorem enter_upp: ∀args w,(callFunc 179 args).run Tryz.prog w= .ok (.enter 179 args) w:=enters_of Tryz.func179 (by kernel_rfl) rfl
theorem enter_low: ∀args w,(callFunc 180 args).run Tryz.prog w= .ok (.enter 180 args) w:=enters_of Tryz.func180 (by kernel_rfl) rfl
theorem does_len (B:Nat) (w:World):DoesV (.func (.func 177) #[] #[]) B w lenR:=⟨_,_,rfl,enter_len,fun S w' u p _ _ ht hv hok=>lengthOf_any u p w' hv hok ht⟩
theorem does_upper (B:Nat) (w:World):DoesS (.func (.func 179) #[] #[]) B w (mapB upC):=⟨_,rfl,enter_upp,mapB_size upC,fun w' s _ hs=>by
 obtain ⟨h1,h2⟩:=plain_ascii hs
 have h:=Tryz.strings_ToUpper_ascii s w' (by omega) h2
 rw [upper_is] at h;exact h⟩
theorem does_lower (B:Nat) (w:World):DoesS (.func (.func 180) #[] #[]) B w (mapB loC):=⟨_,rfl,enter_low,mapB_size loC,fun w' s _ hs=>by
 obtain ⟨h1,h2⟩:=plain_ascii hs
 have h:=Tryz.strings_ToLower_ascii s w' (by omega) h2
 rw [lower_is] at h;exact h⟩
theorem does_min (B:Nat) (w:World):DoesF (.func (.func 182) #[] #[]) B w true:=⟨_,rfl,enter_lst,fun b o cap v vs w' _ hl hr hv=>least_any b o cap v vs w' hl hr hv⟩
theorem does_max (B:Nat) (w:World):DoesF (.func (.func 183) #[] #[]) B w false:=⟨_,rfl,enter_grt,fun b o cap v vs w' _ hl hr hv=>greatest_any b o cap v vs w' hl hr hv⟩
theorem does_first (B:Nat) (w:World):DoesP (.func (.func 185) #[] #[]) B w firstR:=⟨_,rfl,enter_fst,fun S w' v us ps _ _ ht hr hv hok=>firstPart_any v us ps w' hr hv hok ht⟩
theorem does_rev (B:Nat) (w:World):DoesP (.func (.func 186) #[] #[]) B w revR:=⟨_,rfl,enter_rvl,fun S w' v us ps hS _ ht hr hv hok=>reversedList_any v us ps w' hS hr hv hok ht⟩
theorem does_con (B:Nat) (w:World):DoesVV (.func (.func 188) #[] #[]) B w conR:=⟨_,rfl,enter_cnp,fun S w' u p u' p' _ _ ht hv hok hv' hok'=>containsPart_any u u' p p' w' hv hok hv' hok' ht⟩
theorem does_join (B:Nat) (w:World):DoesVV (.func (.func 189) #[] #[]) B w joinR:=⟨_,rfl,enter_jnt,fun S w' u p u' p' _ _ ht hv hok hv' hok'=>joinedTexts_any u u' p p' w' hv hok hv' hok' ht⟩
def FunTab (w:World) (e:Ending) (w':World):Prop:= ∃es,e= .returned (.map (some w.heap.size))∧FT w w' es∧es.map (fun p=>(p.1,p.2.2))=tableF
theorem functions_any (w:World):
  Calls Tryz.prog 160 #[] w (FunTab w):=by
 have hmm:= @run_makeMap Tryz.prog
 have H0:=zz (show FT w (w.alloc (.map #[] 0)) [] from ⟨MapIs.made w,fun p hp=>(by cases hp),(Below.refl _ _).alloc (Nat.le_refl _) _⟩)
 go_enter Tryz.func160,Tryz.ntmps160
 go_wp2_with fail
 refine (ofOne_any w.heap.size _ lenR _ H0.out.lt (does_len _ _)).mono ?_
 rintro e w0a ⟨F0,rfl,hd,hb⟩
 have H0a:=zz (H0.out.call hb);have D0:=zz hd;clear hb hd H0
 go_wp2_with (refine wpList_ins _ rfl _ _ _ 180 rfl 9 178 Tryz.underlying9 Tryz.underlying180 w.heap.size _ rfl H0a.out.1 nmLength F0 rfl rfl (by unfold maxLen;decide) (ns_small [] rfl (by decide)) (ns_new [] rfl (by decide)) ?_;intro w0b hm hg;have H1:=zz (H0a.out.add D0.out hm hg);clear hm hg)
 refine (ofText_any w.heap.size _ (mapB upC) _ H1.out.lt (does_upper _ _)).mono ?_
 rintro e w1a ⟨F1,rfl,hd,hb⟩
 have H1a:=zz (H1.out.call hb);have D1:=zz hd;clear hb hd H1
 go_wp2_with (refine wpList_ins _ rfl _ _ _ 180 rfl 9 178 Tryz.underlying9 Tryz.underlying180 w.heap.size _ rfl H1a.out.1 nmUpper F1 rfl rfl (by unfold maxLen;decide) (ns_small [nmLength] rfl (by decide)) (ns_new [nmLength] rfl (by decide)) ?_;intro w1b hm hg;have H2:=zz (H1a.out.add D1.out hm hg);clear hm hg)
 refine (ofText_any w.heap.size _ (mapB loC) _ H2.out.lt (does_lower _ _)).mono ?_
 rintro e w2a ⟨F2,rfl,hd,hb⟩
 have H2a:=zz (H2.out.call hb);have D2:=zz hd;clear hb hd H2
 go_wp2_with (refine wpList_ins _ rfl _ _ _ 180 rfl 9 178 Tryz.underlying9 Tryz.underlying180 w.heap.size _ rfl H2a.out.1 nmLower F2 rfl rfl (by unfold maxLen;decide) (ns_small [nmLength,nmUpper] rfl (by decide)) (ns_new [nmLength,nmUpper] rfl (by decide)) ?_;intro w2b hm hg;have H3:=zz (H2a.out.add D2.out hm hg);clear hm hg)
 refine (ofNumbers_any w.heap.size _ true _ H3.out.lt (does_min _ _)).mono ?_
 rintro e w3a ⟨F3,rfl,hd,hb⟩
 have H3a:=zz (H3.out.call hb);have D3:=zz hd;clear hb hd H3
 go_wp2_with (refine wpList_ins _ rfl _ _ _ 180 rfl 9 178 Tryz.underlying9 Tryz.underlying180 w.heap.size _ rfl H3a.out.1 nmMin F3 rfl rfl (by unfold maxLen;decide) (ns_small [nmLength,nmUpper,nmLower] rfl (by decide)) (ns_new [nmLength,nmUpper,nmLower] rfl (by decide)) ?_;intro w3b hm hg;have H4:=zz (H3a.out.add D3.out hm hg);clear hm hg)
 refine (ofNumbers_any w.heap.size _ false _ H4.out.lt (does_max _ _)).mono ?_
 rintro e w4a ⟨F4,rfl,hd,hb⟩
 have H4a:=zz (H4.out.call hb);have D4:=zz hd;clear hb hd H4
 go_wp2_with (refine wpList_ins _ rfl _ _ _ 180 rfl 9 178 Tryz.underlying9 Tryz.underlying180 w.heap.size _ rfl H4a.out.1 nmMax F4 rfl rfl (by unfold maxLen;decide) (ns_small [nmLength,nmUpper,nmLower,nmMin] rfl (by decide)) (ns_new [nmLength,nmUpper,nmLower,nmMin] rfl (by decide)) ?_;intro w4b hm hg;have H5:=zz (H4a.out.add D4.out hm hg);clear hm hg)
 refine (ofList_any w.heap.size _ firstR _ H5.out.lt (does_first _ _)).mono ?_
 rintro e w5a ⟨F5,rfl,hd,hb⟩
 have H5a:=zz (H5.out.call hb);have D5:=zz hd;clear hb hd H5
 go_wp2_with (refine wpList_ins _ rfl _ _ _ 180 rfl 9 178 Tryz.underlying9 Tryz.underlying180 w.heap.size _ rfl H5a.out.1 nmFirst F5 rfl rfl (by unfold maxLen;decide) (ns_small [nmLength,nmUpper,nmLower,nmMin,nmMax] rfl (by decide)) (ns_new [nmLength,nmUpper,nmLower,nmMin,nmMax] rfl (by decide)) ?_;intro w5b hm hg;have H6:=zz (H5a.out.add D5.out hm hg);clear hm hg)
 refine (ofList_any w.heap.size _ revR _ H6.out.lt (does_rev _ _)).mono ?_
 rintro e w6a ⟨F6,rfl,hd,hb⟩
 have H6a:=zz (H6.out.call hb);have D6:=zz hd;clear hb hd H6
 go_wp2_with (refine wpList_ins _ rfl _ _ _ 180 rfl 9 178 Tryz.underlying9 Tryz.underlying180 w.heap.size _ rfl H6a.out.1 nmReverse F6 rfl rfl (by unfold maxLen;decide) (ns_small [nmLength,nmUpper,nmLower,nmMin,nmMax,nmFirst] rfl (by decide)) (ns_new [nmLength,nmUpper,nmLower,nmMin,nmMax,nmFirst] rfl (by decide)) ?_;intro w6b hm hg;have H7:=zz (H6a.out.add D6.out hm hg);clear hm hg)
 refine (ofTwo_any w.heap.size _ conR _ H7.out.lt (does_con _ _)).mono ?_
 rintro e w7a ⟨F7,rfl,hd,hb⟩
 have H7a:=zz (H7.out.call hb);have D7:=zz hd;clear hb hd H7
 go_wp2_with (refine wpList_ins _ rfl _ _ _ 180 rfl 9 178 Tryz.underlying9 Tryz.underlying180 w.heap.size _ rfl H7a.out.1 nmContains F7 rfl rfl (by unfold maxLen;decide) (ns_small [nmLength,nmUpper,nmLower,nmMin,nmMax,nmFirst,nmReverse] rfl (by decide)) (ns_new [nmLength,nmUpper,nmLower,nmMin,nmMax,nmFirst,nmReverse] rfl (by decide)) ?_;intro w7b hm hg;have H8:=zz (H7a.out.add D7.out hm hg);clear hm hg)
 refine (ofTwo_any w.heap.size _ joinR _ H8.out.lt (does_join _ _)).mono ?_
 rintro e w8a ⟨F8,rfl,hd,hb⟩
 have H8a:=zz (H8.out.call hb);have D8:=zz hd;clear hb hd H8
 go_wp2_with (refine wpList_ins _ rfl _ _ _ 180 rfl 9 178 Tryz.underlying9 Tryz.underlying180 w.heap.size _ rfl H8a.out.1 nmJoin F8 rfl rfl (by unfold maxLen;decide) (ns_small [nmLength,nmUpper,nmLower,nmMin,nmMax,nmFirst,nmReverse,nmContains] rfl (by decide)) (ns_new [nmLength,nmUpper,nmLower,nmMin,nmMax,nmFirst,nmReverse,nmContains] rfl (by decide)) ?_;intro w8b hm hg;have H9:=zz (H8a.out.add D8.out hm hg);clear hm hg)
 go_ret
 exact ⟨_,rfl,H9.out,rfl⟩
noncomputable def okR (r:List Cl):List Cl:=if okV r=true then r else []
theorem okR_yes {r:List Cl} (h:okV r=true):okR r=r:=if_pos h
theorem okR_no {r:List Cl} (h:okV r=false):okR r=[]:=if_neg (by rw [h];decide)
theorem valueCells_app (u:Value) (r:List Cl) (w:World) (happ:AppOK w u r) (hz:ShortC r) (hlen:r.length≤1000) (htab:Tab w):
  Calls Tryz.prog 77 #[u] w fun e w'=> ∃v,e= .returned (.tuple #[v, .bool (okV r)])∧w'.ownsRow w.heap.size 44 3 v (okR r).length (flatC (okR r))∧Below w.heap.size w w':=by
 obtain ⟨T,x',K,rfl,hm,heK,hK⟩:=happ
 have HK:=zz (hK w w.heap.size (.slice none 0 0) [] (Below.refl _ _) (Nat.le_refl _) (Nat.le_refl _) (World.ownsRow_nil _ _ _ _) (by simp;omega))
 have HZ:=zz hz
 clear hK hz
 cases hok:okV r with
 |true=>
  have HOK:=zz hok
  have HRR:=zz (okR_yes hok)
  clear hok
  go_enter Tryz.func77,Tryz.ntmps77
  go_wp2_with fail
  refine HK.out.mono ?_
  rintro e w1 ⟨v1,rfl,ho1,hb1,hs1⟩
  have HO1:=zz (show w1.ownsRow w.heap.size 44 3 v1 r.length (flatC r) by simpa using ho1)
  have HB1:=zz hb1
  clear ho1 hb1
  go_wp2_with fail
  refine (valueValid_impl v1 r _ (RowC.of_own HO1.out).1 HZ.out (htab.keep HB1.out)).mono ?_
  rintro e w2 ⟨rfl,hb2⟩
  rw [HOK.out]
  have HO2:=zz (own_belowA HO1.out hb2)
  have HB2:=zz (HB1.out.trans (hb2.mono HB1.out.size));clear hb2
  go_wp2
  exact bodyPost_ret (v:= .tuple #[v1, .bool true]) (by simp [results,Tryz.results77,go_sem]) rfl ⟨v1,rfl,by rw [HRR.out];exact HO2.out,HB2.out⟩
 |false=>
  have HOK:=zz hok
  have HRR:=zz (okR_no hok)
  clear hok
  go_enter Tryz.func77,Tryz.ntmps77
  go_wp2_with fail
  refine HK.out.mono ?_
  rintro e w1 ⟨v1,rfl,ho1,hb1,hs1⟩
  have HO1:=zz (show w1.ownsRow w.heap.size 44 3 v1 r.length (flatC r) by simpa using ho1)
  have HB1:=zz hb1
  clear ho1 hb1
  go_wp2_with fail
  refine (valueValid_impl v1 r _ (RowC.of_own HO1.out).1 HZ.out (htab.keep HB1.out)).mono ?_
  rintro e w2 ⟨rfl,hb2⟩
  rw [HOK.out]
  have HB2:=zz (HB1.out.trans (hb2.mono HB1.out.size));clear hb2
  go_wp2
  exact bodyPost_ret (v:= .tuple #[.slice none 0 0, .bool false]) (by simp [results,Tryz.results77,go_sem]) rfl ⟨_,rfl,by rw [HRR.out];exact World.ownsRow_nil _ _ _ _,HB2.out⟩
theorem eqlIf (T:TypeId) (x:Value) (w:World):(binOp BinOp.eql 70 (.iface T x) .nilIface).run Tryz.prog w= .ok (.bool false) w:=by kernel_rfl
theorem eqlNo (w:World):(binOp BinOp.eql 70 .nilIface .nilIface).run Tryz.prog w= .ok (.bool true) w:=by kernel_rfl
theorem newCB_nil (w w':World) (hb:Below w.heap.size w w'):NewCB [] false w (.returned (.tuple #[.slice none 0 0, .bool false])) w':=
 ⟨_,rfl,World.ownsRow_nil _ _ _ _,hb⟩
theorem callResult_any {S:Nat→Prop} (nm:ByteArray) (v:Value) (us:List Value) (ls:List (List Cl)) (w:World) (hnm:nm.size≤1048576) (hS:Hi w.heap.size S) (hrow:RowV w S v us) (hvs:VlS w S us ls) (hall: ∀l∈ls,okV l=true) (hl:ls.length≤1048576) (htab:Tab w):
  Calls Tryz.prog 141 #[.string nm,v] w (Res S (callF nm ls) w):=by
 have HROW:=zz hrow;have HVS:=zz hvs;have HALL:=zz hall;have HT:=zz htab;have HS:=zz hS
 have hzero: ∀w,(zeroValue 178).run Tryz.prog w= .ok .nilFunc w:=fun w=>by kernel_rfl
 obtain ⟨ao,cap,rfl,h1,h2,h3⟩:=hrow
 clear h3 hvs hall htab hS
 go_enter Tryz.func141,Tryz.ntmps141
 go_wp2_with fail
 refine (functions_any w).mono ?_
 rintro e w2 ⟨es,rfl,hft,htb⟩
 have HB2:=zz hft.2.2
 have hsmall: ∀p∈es.map (fun p=>(p.1,p.2.1)),p.1.size≤maxLen:=by
  refine ns_small (tableF.map (·.1)) ?_ ?_
  ·rw [←htb,List.map_map];exact List.map_congr_left fun p _=>rfl
  ·decide
 have hlook:=hft.1.look (P:=Tryz.prog) Tryz.underlying9 Tryz.underlying180 (hzero w2) nm (by unfold maxLen;omega) hsmall
 rcases hlook with ⟨F,hmem,hrun⟩|⟨hnone,hrun⟩
 ·obtain ⟨p,hp,hpe⟩:=List.mem_map.mp hmem
  injection hpe with hp1 hp2
  have hq:(p.1,p.2.2)∈tableF:=by rw [←htb];exact List.mem_map.mpr ⟨p,hp,rfl⟩
  have HCF:=zz (show callF nm ls=p.2.2 ls by rw [←hp1];exact table_all ls _ hq)
  have hdo:=hft.2.1 p hp
  rw [hp2] at hdo
  generalize p.2.2=R at hdo HCF
  obtain ⟨K,fb,rfl,heK,hcall⟩:=hdo
  have HK:=zz (hcall S w2 _ us ls (HS.out.mono hft.2.2.size) (Up.refl _ _) (HT.out.keep hft.2.2) (HROW.out.low hft.2.2) (HVS.out.low hft.2.2) HALL.out hl)
  clear hmem hft htb hsmall hcall hq hp hp1 hp2
  go_wp2_with fail
  refine HK.out.mono ?_
  intro e w3 hres
  obtain ⟨r,rfl,hres⟩:=hres.ret
  have HR:=zz (hres.from HB2.out)
  clear hres
  go_wp2
  go_ret
  rw [HCF.out]
  exact HR.out
 ·have hcn:callF nm ls=none:=by
   refine table_none (fun q hq he=> ?_) ls
   rw [←htb] at hq
   obtain ⟨p,hp,rfl⟩:=List.mem_map.mp hq
   exact hnone (p.1,p.2.1) (List.mem_map.mpr ⟨p,hp,rfl⟩) he
  have HN:=zz hcn
  clear hnone hft htb hsmall hcn
  go_wp2
  go_ret
  exact Res.nil HB2.out HN.out
end Go.Proofs.YthillfgjpalpcaaGreatDoor
