/-
  Several texts of the proof in one file: FracSpec, FracDivS.
-/
import Derived.Test.YthillfgjpalpcaaGreatDoorBaseA
set_option linter.unusedVariables false
set_option maxHeartbeats 4000000
set_option maxRecDepth 100000
namespace Go.Proofs.YthillfgjpalpcaaGreatDoor
open Go.RowKit
theorem add_spec (aT aB bT bB:Int) (w:World):
  Calls Tryz.prog 100 #[.agg #[.int .i64 aT, .int .i64 aB], .agg #[.int .i64 bT, .int .i64 bB]] w fun e w'=>e=fr (opT (vB aT aB&&vB bT bB) (aT*bB+bT*aB) (aB*bB)) (opB (vB aT aB&&vB bT bB) (aT*bB+bT*aB) (aB*bB)) (opOK (vB aT aB&&vB bT bB) (aT*bB+bT*aB) (aB*bB))∧Below w.heap.size w w':=by
 by_cases ha:vB aT aB=true
 ·by_cases hb:vB bT bB=true
  ·rw [ha,hb,show (true&&true)=true from rfl,(op_true _ _).1,(op_true _ _).2.1,(op_true _ _).2.2]
   obtain ⟨a1,a2,a3,a4⟩:=vB_bd ha
   obtain ⟨b1,b2,b3,b4⟩:=vB_bd hb
   have HA:=zz ha;have HB:=zz hb;clear ha hb
   have m1:=mul_15 a1 a2 b3 b4
   have m2:=mul_15 b1 b2 a3 a4
   have m3:=mul_12 a3 a4 b3 b4
   go_enter Tryz.func100,Tryz.ntmps100
   go_wp2_with fail
   refine (valid_spec _ _ _).mono ?_
   rintro e w1 ⟨rfl,hb1⟩
   have HH1:Hid (Held3 w1 w.heap.size aT aB bT bB):=Held3.keep (by refine ⟨?_, ?_, ?_, ?_, ?_, ?_, ?_, ?_, ?_⟩<;>simp [go_sem]) hb1
   have HB1:=zz (((((Below.refl _ w).alloc (Nat.le_refl _) _).alloc (by simp) _).alloc (by first|(simp;done)|(simp;omega)) _).trans (hb1.mono (by first|(simp;done)|(simp;omega))));clear hb1
   obtain ⟨z10,z11,z12,z13,z14,z15,z16,z17,z18⟩:=HH1.out
   rw [HA.out]
   go_wp2_with fail
   refine (valid_spec _ _ _).mono ?_
   rintro e w2 ⟨rfl,hb2⟩
   have HH2:=zz (HH1.out.keep hb2)
   have HB2:=zz (HB1.out.trans (hb2.mono HB1.out.size));clear hb2 HB1 HH1 z10 z11 z12 z13 z14 z15 z16 z17 z18
   obtain ⟨z20,z21,z22,z23,z24,z25,z26,z27,z28⟩:=HH2.out
   rw [HB.out]
   go_wp2_with fail
   refine (make_spec (aT*bB+bT*aB) (aB*bB) _ (by omega) (by omega) (by omega)).mono ?_
   rintro e w3 ⟨rfl,hb3⟩
   have HH3:=zz (HH2.out.keep hb3)
   have HB3:=zz (HB2.out.trans (hb3.mono HB2.out.size));clear hb3 HB2 HH2 z20 z21 z22 z23 z24 z25 z26 z27 z28
   obtain ⟨z30,z31,z32,z33,z34,z35,z36,z37,z38⟩:=HH3.out
   go_wp2
   exact bodyPost_ret (v:= .tuple #[.agg #[.int .i64 (mkT (aT*bB+bT*aB) (aB*bB)), .int .i64 (mkB (aT*bB+bT*aB) (aB*bB))], .bool (mkOK (aT*bB+bT*aB) (aB*bB))]) (by simp [results,Tryz.results100,go_sem,z35,z36]) rfl ⟨rfl,HB3.out.setCell (by first|(simp;done)|(simp;omega)) _|>.setCell (by first|(simp;done)|(simp;omega)) _⟩
  ·have hb':=Bool.eq_false_iff.mpr hb
   rw [ha,hb',show (true&&false)=false from rfl,(op_false _ _).1,(op_false _ _).2.1,(op_false _ _).2.2]
   have HA:=zz ha;have HB:=zz hb';clear ha hb hb'
   go_enter Tryz.func100,Tryz.ntmps100
   go_wp2_with fail
   refine (valid_spec _ _ _).mono ?_
   rintro e w1 ⟨rfl,hb1⟩
   have HH1:Hid (Held3 w1 w.heap.size aT aB bT bB):=Held3.keep (by refine ⟨?_, ?_, ?_, ?_, ?_, ?_, ?_, ?_, ?_⟩<;>simp [go_sem]) hb1
   have HB1:=zz (((((Below.refl _ w).alloc (Nat.le_refl _) _).alloc (by simp) _).alloc (by first|(simp;done)|(simp;omega)) _).trans (hb1.mono (by first|(simp;done)|(simp;omega))));clear hb1
   obtain ⟨z10,z11,z12,z13,z14,z15,z16,z17,z18⟩:=HH1.out
   rw [HA.out]
   go_wp2_with fail
   refine (valid_spec _ _ _).mono ?_
   rintro e w2 ⟨rfl,hb2⟩
   have HH2:=zz (HH1.out.keep hb2)
   have HB2:=zz (HB1.out.trans (hb2.mono HB1.out.size));clear hb2 HB1 HH1 z10 z11 z12 z13 z14 z15 z16 z17 z18
   obtain ⟨z20,z21,z22,z23,z24,z25,z26,z27,z28⟩:=HH2.out
   rw [HB.out]
   go_wp2
   exact bodyPost_ret (v:= .tuple #[.agg #[.int .i64 0, .int .i64 0], .bool false]) (by simp [results,Tryz.results100,go_sem,z25,z26]) rfl ⟨rfl,HB2.out.setCell (by first|(simp;done)|(simp;omega)) _|>.setCell (by first|(simp;done)|(simp;omega)) _⟩
 ·have ha':=Bool.eq_false_iff.mpr ha
  rw [ha',show (false&&vB bT bB)=false from rfl,(op_false _ _).1,(op_false _ _).2.1,(op_false _ _).2.2]
  have HA:=zz ha';clear ha ha'
  go_enter Tryz.func100,Tryz.ntmps100
  go_wp2_with fail
  refine (valid_spec _ _ _).mono ?_
  rintro e w1 ⟨rfl,hb1⟩
  have HH1:Hid (Held3 w1 w.heap.size aT aB bT bB):=Held3.keep (by refine ⟨?_, ?_, ?_, ?_, ?_, ?_, ?_, ?_, ?_⟩<;>simp [go_sem]) hb1
  have HB1:=zz (((((Below.refl _ w).alloc (Nat.le_refl _) _).alloc (by simp) _).alloc (by first|(simp;done)|(simp;omega)) _).trans (hb1.mono (by first|(simp;done)|(simp;omega))));clear hb1
  obtain ⟨z10,z11,z12,z13,z14,z15,z16,z17,z18⟩:=HH1.out
  rw [HA.out]
  go_wp2
  exact bodyPost_ret (v:= .tuple #[.agg #[.int .i64 0, .int .i64 0], .bool false]) (by simp [results,Tryz.results100,go_sem,z15,z16]) rfl ⟨rfl,HB1.out.setCell (by first|(simp;done)|(simp;omega)) _|>.setCell (by first|(simp;done)|(simp;omega)) _⟩
theorem mul_spec (aT aB bT bB:Int) (w:World):
  Calls Tryz.prog 101 #[.agg #[.int .i64 aT, .int .i64 aB], .agg #[.int .i64 bT, .int .i64 bB]] w fun e w'=>e=fr (opT (vB aT aB&&vB bT bB) (aT*bT) (aB*bB)) (opB (vB aT aB&&vB bT bB) (aT*bT) (aB*bB)) (opOK (vB aT aB&&vB bT bB) (aT*bT) (aB*bB))∧Below w.heap.size w w':=by
 by_cases ha:vB aT aB=true
 ·by_cases hb:vB bT bB=true
  ·rw [ha,hb,show (true&&true)=true from rfl,(op_true _ _).1,(op_true _ _).2.1,(op_true _ _).2.2]
   obtain ⟨a1,a2,a3,a4⟩:=vB_bd ha
   obtain ⟨b1,b2,b3,b4⟩:=vB_bd hb
   have HA:=zz ha;have HB:=zz hb;clear ha hb
   have m1:=mul_18 a1 a2 b1 b2
   have m3:=mul_12 a3 a4 b3 b4
   go_enter Tryz.func101,Tryz.ntmps101
   go_wp2_with fail
   refine (valid_spec _ _ _).mono ?_
   rintro e w1 ⟨rfl,hb1⟩
   have HH1:Hid (Held3 w1 w.heap.size aT aB bT bB):=Held3.keep (by refine ⟨?_, ?_, ?_, ?_, ?_, ?_, ?_, ?_, ?_⟩<;>simp [go_sem]) hb1
   have HB1:=zz (((((Below.refl _ w).alloc (Nat.le_refl _) _).alloc (by simp) _).alloc (by first|(simp;done)|(simp;omega)) _).trans (hb1.mono (by first|(simp;done)|(simp;omega))));clear hb1
   obtain ⟨z10,z11,z12,z13,z14,z15,z16,z17,z18⟩:=HH1.out
   rw [HA.out]
   go_wp2_with fail
   refine (valid_spec _ _ _).mono ?_
   rintro e w2 ⟨rfl,hb2⟩
   have HH2:=zz (HH1.out.keep hb2)
   have HB2:=zz (HB1.out.trans (hb2.mono HB1.out.size));clear hb2 HB1 HH1 z10 z11 z12 z13 z14 z15 z16 z17 z18
   obtain ⟨z20,z21,z22,z23,z24,z25,z26,z27,z28⟩:=HH2.out
   rw [HB.out]
   go_wp2_with fail
   refine (make_spec (aT*bT) (aB*bB) _ (by omega) (by omega) (by omega)).mono ?_
   rintro e w3 ⟨rfl,hb3⟩
   have HH3:=zz (HH2.out.keep hb3)
   have HB3:=zz (HB2.out.trans (hb3.mono HB2.out.size));clear hb3 HB2 HH2 z20 z21 z22 z23 z24 z25 z26 z27 z28
   obtain ⟨z30,z31,z32,z33,z34,z35,z36,z37,z38⟩:=HH3.out
   go_wp2
   exact bodyPost_ret (v:= .tuple #[.agg #[.int .i64 (mkT (aT*bT) (aB*bB)), .int .i64 (mkB (aT*bT) (aB*bB))], .bool (mkOK (aT*bT) (aB*bB))]) (by simp [results,Tryz.results101,go_sem,z35,z36]) rfl ⟨rfl,HB3.out.setCell (by first|(simp;done)|(simp;omega)) _|>.setCell (by first|(simp;done)|(simp;omega)) _⟩
  ·have hb':=Bool.eq_false_iff.mpr hb
   rw [ha,hb',show (true&&false)=false from rfl,(op_false _ _).1,(op_false _ _).2.1,(op_false _ _).2.2]
   have HA:=zz ha;have HB:=zz hb';clear ha hb hb'
   go_enter Tryz.func101,Tryz.ntmps101
   go_wp2_with fail
   refine (valid_spec _ _ _).mono ?_
   rintro e w1 ⟨rfl,hb1⟩
   have HH1:Hid (Held3 w1 w.heap.size aT aB bT bB):=Held3.keep (by refine ⟨?_, ?_, ?_, ?_, ?_, ?_, ?_, ?_, ?_⟩<;>simp [go_sem]) hb1
   have HB1:=zz (((((Below.refl _ w).alloc (Nat.le_refl _) _).alloc (by simp) _).alloc (by first|(simp;done)|(simp;omega)) _).trans (hb1.mono (by first|(simp;done)|(simp;omega))));clear hb1
   obtain ⟨z10,z11,z12,z13,z14,z15,z16,z17,z18⟩:=HH1.out
   rw [HA.out]
   go_wp2_with fail
   refine (valid_spec _ _ _).mono ?_
   rintro e w2 ⟨rfl,hb2⟩
   have HH2:=zz (HH1.out.keep hb2)
   have HB2:=zz (HB1.out.trans (hb2.mono HB1.out.size));clear hb2 HB1 HH1 z10 z11 z12 z13 z14 z15 z16 z17 z18
   obtain ⟨z20,z21,z22,z23,z24,z25,z26,z27,z28⟩:=HH2.out
   rw [HB.out]
   go_wp2
   exact bodyPost_ret (v:= .tuple #[.agg #[.int .i64 0, .int .i64 0], .bool false]) (by simp [results,Tryz.results101,go_sem,z25,z26]) rfl ⟨rfl,HB2.out.setCell (by first|(simp;done)|(simp;omega)) _|>.setCell (by first|(simp;done)|(simp;omega)) _⟩
 ·have ha':=Bool.eq_false_iff.mpr ha
  rw [ha',show (false&&vB bT bB)=false from rfl,(op_false _ _).1,(op_false _ _).2.1,(op_false _ _).2.2]
  have HA:=zz ha';clear ha ha'
  go_enter Tryz.func101,Tryz.ntmps101
  go_wp2_with fail
  refine (valid_spec _ _ _).mono ?_
  rintro e w1 ⟨rfl,hb1⟩
  have HH1:Hid (Held3 w1 w.heap.size aT aB bT bB):=Held3.keep (by refine ⟨?_, ?_, ?_, ?_, ?_, ?_, ?_, ?_, ?_⟩<;>simp [go_sem]) hb1
  have HB1:=zz (((((Below.refl _ w).alloc (Nat.le_refl _) _).alloc (by simp) _).alloc (by first|(simp;done)|(simp;omega)) _).trans (hb1.mono (by first|(simp;done)|(simp;omega))));clear hb1
  obtain ⟨z10,z11,z12,z13,z14,z15,z16,z17,z18⟩:=HH1.out
  rw [HA.out]
  go_wp2
  exact bodyPost_ret (v:= .tuple #[.agg #[.int .i64 0, .int .i64 0], .bool false]) (by simp [results,Tryz.results101,go_sem,z15,z16]) rfl ⟨rfl,HB1.out.setCell (by first|(simp;done)|(simp;omega)) _|>.setCell (by first|(simp;done)|(simp;omega)) _⟩
theorem div_spec_pos (aT aB bT bB:Int) (w:World) (hs: ¬bT<0):
  Calls Tryz.prog 102 #[.agg #[.int .i64 aT, .int .i64 aB], .agg #[.int .i64 bT, .int .i64 bB]] w fun e w'=>e=fr (opT (vB aT aB&&vB bT bB&&(bT !=0)) (aT*bB) (aB*bT)) (opB (vB aT aB&&vB bT bB&&(bT !=0)) (aT*bB) (aB*bT)) (opOK (vB aT aB&&vB bT bB&&(bT !=0)) (aT*bB) (aB*bT))∧Below w.heap.size w w':=by
 by_cases ha:vB aT aB=true
 ·by_cases hb:vB bT bB=true
  ·by_cases h0:bT=0
   ·have h0b:(bT==0)=true:=by simpa using h0
    have h0c:(bT !=0)=false:=by simpa using h0
    rw [ha,hb,h0c,show (true&&true&&false)=false from rfl,(op_false _ _).1,(op_false _ _).2.1,(op_false _ _).2.2]
    have HA:=zz ha;have HB:=zz hb;clear ha hb h0 h0c
    go_enter Tryz.func102,Tryz.ntmps102
    go_wp2_with fail
    refine (valid_spec _ _ _).mono ?_
    rintro e w1 ⟨rfl,hb1⟩
    have HH1:Hid (Held3 w1 w.heap.size aT aB bT bB):=Held3.keep (by refine ⟨?_, ?_, ?_, ?_, ?_, ?_, ?_, ?_, ?_⟩<;>simp [go_sem]) hb1
    have HB1:=zz (((((Below.refl _ w).alloc (Nat.le_refl _) _).alloc (by simp) _).alloc (by first|(simp;done)|(simp;omega)) _).trans (hb1.mono (by first|(simp;done)|(simp;omega))));clear hb1
    obtain ⟨z10,z11,z12,z13,z14,z15,z16,z17,z18⟩:=HH1.out
    rw [HA.out]
    go_wp2_with fail
    refine (valid_spec _ _ _).mono ?_
    rintro e w2 ⟨rfl,hb2⟩
    have HH2:=zz (HH1.out.keep hb2)
    have HB2:=zz (HB1.out.trans (hb2.mono HB1.out.size));clear hb2 HB1 HH1 z10 z11 z12 z13 z14 z15 z16 z17 z18
    obtain ⟨z20,z21,z22,z23,z24,z25,z26,z27,z28⟩:=HH2.out
    rw [HB.out]
    go_wp2
    exact bodyPost_ret (v:= .tuple #[.agg #[.int .i64 0, .int .i64 0], .bool false]) (by simp [results,Tryz.results102,go_sem,z25,z26]) rfl ⟨rfl,HB2.out.setCell (by first|(simp;done)|(simp;omega)) _|>.setCell (by first|(simp;done)|(simp;omega)) _⟩
   ·have h0b:(bT==0)=false:=by simpa using h0
    have h0c:(bT !=0)=true:=by simpa using h0
    rw [ha,hb,h0c,show (true&&true&&true)=true from rfl,(op_true _ _).1,(op_true _ _).2.1,(op_true _ _).2.2]
    clear h0c
    obtain ⟨a1,a2,a3,a4⟩:=vB_bd ha
    obtain ⟨b1,b2,b3,b4⟩:=vB_bd hb
    have HA:=zz ha;have HB:=zz hb;clear ha hb
    have m1:=mul_15 a1 a2 b3 b4
    have m2:=mul_bd aB bT 1000000 1000000000 1000000000000000 rfl (by omega) (by omega)
    have m3:0<aB*bT:=Int.mul_pos (by omega) (by omega)
    have m4:aB*bT≤1000000000000000:=by omega
    have m5: -1000000000000000≤aB*bT:=by omega
    clear m2
    go_enter Tryz.func102,Tryz.ntmps102
    go_wp2_with fail
    refine (valid_spec _ _ _).mono ?_
    rintro e w1 ⟨rfl,hb1⟩
    have HH1:Hid (Held3 w1 w.heap.size aT aB bT bB):=Held3.keep (by refine ⟨?_, ?_, ?_, ?_, ?_, ?_, ?_, ?_, ?_⟩<;>simp [go_sem]) hb1
    have HB1:=zz (((((Below.refl _ w).alloc (Nat.le_refl _) _).alloc (by simp) _).alloc (by first|(simp;done)|(simp;omega)) _).trans (hb1.mono (by first|(simp;done)|(simp;omega))));clear hb1
    obtain ⟨z10,z11,z12,z13,z14,z15,z16,z17,z18⟩:=HH1.out
    rw [HA.out]
    go_wp2_with fail
    refine (valid_spec _ _ _).mono ?_
    rintro e w2 ⟨rfl,hb2⟩
    have HH2:=zz (HH1.out.keep hb2)
    have HB2:=zz (HB1.out.trans (hb2.mono HB1.out.size));clear hb2 HB1 HH1 z10 z11 z12 z13 z14 z15 z16 z17 z18
    obtain ⟨z20,z21,z22,z23,z24,z25,z26,z27,z28⟩:=HH2.out
    rw [HB.out]
    go_wp2_with fail
    refine (make_spec (aT*bB) (aB*bT) _ (by omega) (by omega) (by omega)).mono ?_
    rintro e w3 ⟨rfl,hb3⟩
    have HH3:=zz (HH2.out.keep hb3)
    have HB3:=zz (HB2.out.trans (hb3.mono HB2.out.size));clear hb3 HB2 HH2 z20 z21 z22 z23 z24 z25 z26 z27 z28
    obtain ⟨z30,z31,z32,z33,z34,z35,z36,z37,z38⟩:=HH3.out
    go_wp2
    exact bodyPost_ret (v:= .tuple #[.agg #[.int .i64 (mkT (aT*bB) (aB*bT)), .int .i64 (mkB (aT*bB) (aB*bT))], .bool (mkOK (aT*bB) (aB*bT))]) (by simp [results,Tryz.results102,go_sem,z35,z36]) rfl ⟨rfl,HB3.out.setCell (by first|(simp;done)|(simp;omega)) _|>.setCell (by first|(simp;done)|(simp;omega)) _⟩
  ·have hb':=Bool.eq_false_iff.mpr hb
   rw [ha,hb',show (true&&false&&(bT !=0))=false from rfl,(op_false _ _).1,(op_false _ _).2.1,(op_false _ _).2.2]
   have HA:=zz ha;have HB:=zz hb';clear ha hb hb'
   go_enter Tryz.func102,Tryz.ntmps102
   go_wp2_with fail
   refine (valid_spec _ _ _).mono ?_
   rintro e w1 ⟨rfl,hb1⟩
   have HH1:Hid (Held3 w1 w.heap.size aT aB bT bB):=Held3.keep (by refine ⟨?_, ?_, ?_, ?_, ?_, ?_, ?_, ?_, ?_⟩<;>simp [go_sem]) hb1
   have HB1:=zz (((((Below.refl _ w).alloc (Nat.le_refl _) _).alloc (by simp) _).alloc (by first|(simp;done)|(simp;omega)) _).trans (hb1.mono (by first|(simp;done)|(simp;omega))));clear hb1
   obtain ⟨z10,z11,z12,z13,z14,z15,z16,z17,z18⟩:=HH1.out
   rw [HA.out]
   go_wp2_with fail
   refine (valid_spec _ _ _).mono ?_
   rintro e w2 ⟨rfl,hb2⟩
   have HH2:=zz (HH1.out.keep hb2)
   have HB2:=zz (HB1.out.trans (hb2.mono HB1.out.size));clear hb2 HB1 HH1 z10 z11 z12 z13 z14 z15 z16 z17 z18
   obtain ⟨z20,z21,z22,z23,z24,z25,z26,z27,z28⟩:=HH2.out
   rw [HB.out]
   go_wp2
   exact bodyPost_ret (v:= .tuple #[.agg #[.int .i64 0, .int .i64 0], .bool false]) (by simp [results,Tryz.results102,go_sem,z25,z26]) rfl ⟨rfl,HB2.out.setCell (by first|(simp;done)|(simp;omega)) _|>.setCell (by first|(simp;done)|(simp;omega)) _⟩
 ·have ha':=Bool.eq_false_iff.mpr ha
  rw [ha',show (false&&vB bT bB&&(bT !=0))=false from rfl,(op_false _ _).1,(op_false _ _).2.1,(op_false _ _).2.2]
  have HA:=zz ha';clear ha ha'
  go_enter Tryz.func102,Tryz.ntmps102
  go_wp2_with fail
  refine (valid_spec _ _ _).mono ?_
  rintro e w1 ⟨rfl,hb1⟩
  have HH1:Hid (Held3 w1 w.heap.size aT aB bT bB):=Held3.keep (by refine ⟨?_, ?_, ?_, ?_, ?_, ?_, ?_, ?_, ?_⟩<;>simp [go_sem]) hb1
  have HB1:=zz (((((Below.refl _ w).alloc (Nat.le_refl _) _).alloc (by simp) _).alloc (by first|(simp;done)|(simp;omega)) _).trans (hb1.mono (by first|(simp;done)|(simp;omega))));clear hb1
  obtain ⟨z10,z11,z12,z13,z14,z15,z16,z17,z18⟩:=HH1.out
  rw [HA.out]
  go_wp2
  exact bodyPost_ret (v:= .tuple #[.agg #[.int .i64 0, .int .i64 0], .bool false]) (by simp [results,Tryz.results102,go_sem,z15,z16]) rfl ⟨rfl,HB1.out.setCell (by first|(simp;done)|(simp;omega)) _|>.setCell (by first|(simp;done)|(simp;omega)) _⟩
theorem div_spec_neg (aT aB bT bB:Int) (w:World) (hs:bT<0):
  Calls Tryz.prog 102 #[.agg #[.int .i64 aT, .int .i64 aB], .agg #[.int .i64 bT, .int .i64 bB]] w fun e w'=>e=fr (opT (vB aT aB&&vB bT bB&&(bT !=0)) (-(aT*bB)) (-(aB*bT))) (opB (vB aT aB&&vB bT bB&&(bT !=0)) (-(aT*bB)) (-(aB*bT))) (opOK (vB aT aB&&vB bT bB&&(bT !=0)) (-(aT*bB)) (-(aB*bT)))∧Below w.heap.size w w':=by
 by_cases ha:vB aT aB=true
 ·by_cases hb:vB bT bB=true
  ·by_cases h0:bT=0
   ·have h0b:(bT==0)=true:=by simpa using h0
    have h0c:(bT !=0)=false:=by simpa using h0
    rw [ha,hb,h0c,show (true&&true&&false)=false from rfl,(op_false _ _).1,(op_false _ _).2.1,(op_false _ _).2.2]
    have HA:=zz ha;have HB:=zz hb;clear ha hb h0 h0c
    go_enter Tryz.func102,Tryz.ntmps102
    go_wp2_with fail
    refine (valid_spec _ _ _).mono ?_
    rintro e w1 ⟨rfl,hb1⟩
    have HH1:Hid (Held3 w1 w.heap.size aT aB bT bB):=Held3.keep (by refine ⟨?_, ?_, ?_, ?_, ?_, ?_, ?_, ?_, ?_⟩<;>simp [go_sem]) hb1
    have HB1:=zz (((((Below.refl _ w).alloc (Nat.le_refl _) _).alloc (by simp) _).alloc (by first|(simp;done)|(simp;omega)) _).trans (hb1.mono (by first|(simp;done)|(simp;omega))));clear hb1
    obtain ⟨z10,z11,z12,z13,z14,z15,z16,z17,z18⟩:=HH1.out
    rw [HA.out]
    go_wp2_with fail
    refine (valid_spec _ _ _).mono ?_
    rintro e w2 ⟨rfl,hb2⟩
    have HH2:=zz (HH1.out.keep hb2)
    have HB2:=zz (HB1.out.trans (hb2.mono HB1.out.size));clear hb2 HB1 HH1 z10 z11 z12 z13 z14 z15 z16 z17 z18
    obtain ⟨z20,z21,z22,z23,z24,z25,z26,z27,z28⟩:=HH2.out
    rw [HB.out]
    go_wp2
    exact bodyPost_ret (v:= .tuple #[.agg #[.int .i64 0, .int .i64 0], .bool false]) (by simp [results,Tryz.results102,go_sem,z25,z26]) rfl ⟨rfl,HB2.out.setCell (by first|(simp;done)|(simp;omega)) _|>.setCell (by first|(simp;done)|(simp;omega)) _⟩
   ·have h0b:(bT==0)=false:=by simpa using h0
    have h0c:(bT !=0)=true:=by simpa using h0
    rw [ha,hb,h0c,show (true&&true&&true)=true from rfl,(op_true _ _).1,(op_true _ _).2.1,(op_true _ _).2.2]
    clear h0c
    obtain ⟨a1,a2,a3,a4⟩:=vB_bd ha
    obtain ⟨b1,b2,b3,b4⟩:=vB_bd hb
    have HA:=zz ha;have HB:=zz hb;clear ha hb
    have m1:=mul_15 a1 a2 b3 b4
    have m2:=mul_bd aB bT 1000000 1000000000 1000000000000000 rfl (by omega) (by omega)
    have m3:aB*bT<0:=Int.mul_neg_of_pos_of_neg (by omega) hs
    have m4:aB*bT≤1000000000000000:=by omega
    have m5: -1000000000000000≤aB*bT:=by omega
    clear m2
    go_enter Tryz.func102,Tryz.ntmps102
    go_wp2_with fail
    refine (valid_spec _ _ _).mono ?_
    rintro e w1 ⟨rfl,hb1⟩
    have HH1:Hid (Held3 w1 w.heap.size aT aB bT bB):=Held3.keep (by refine ⟨?_, ?_, ?_, ?_, ?_, ?_, ?_, ?_, ?_⟩<;>simp [go_sem]) hb1
    have HB1:=zz (((((Below.refl _ w).alloc (Nat.le_refl _) _).alloc (by simp) _).alloc (by first|(simp;done)|(simp;omega)) _).trans (hb1.mono (by first|(simp;done)|(simp;omega))));clear hb1
    obtain ⟨z10,z11,z12,z13,z14,z15,z16,z17,z18⟩:=HH1.out
    rw [HA.out]
    go_wp2_with fail
    refine (valid_spec _ _ _).mono ?_
    rintro e w2 ⟨rfl,hb2⟩
    have HH2:=zz (HH1.out.keep hb2)
    have HB2:=zz (HB1.out.trans (hb2.mono HB1.out.size));clear hb2 HB1 HH1 z10 z11 z12 z13 z14 z15 z16 z17 z18
    obtain ⟨z20,z21,z22,z23,z24,z25,z26,z27,z28⟩:=HH2.out
    rw [HB.out]
    go_wp2_with fail
    refine (make_spec (-(aT*bB)) (-(aB*bT)) _ (by omega) (by omega) (by omega)).mono ?_
    rintro e w3 ⟨rfl,hb3⟩
    have HH3:=zz (HH2.out.keep hb3)
    have HB3:=zz (HB2.out.trans (hb3.mono HB2.out.size));clear hb3 HB2 HH2 z20 z21 z22 z23 z24 z25 z26 z27 z28
    obtain ⟨z30,z31,z32,z33,z34,z35,z36,z37,z38⟩:=HH3.out
    go_wp2
    exact bodyPost_ret (v:= .tuple #[.agg #[.int .i64 (mkT (-(aT*bB)) (-(aB*bT))), .int .i64 (mkB (-(aT*bB)) (-(aB*bT)))], .bool (mkOK (-(aT*bB)) (-(aB*bT)))]) (by simp [results,Tryz.results102,go_sem,z35,z36]) rfl ⟨rfl,HB3.out.setCell (by first|(simp;done)|(simp;omega)) _|>.setCell (by first|(simp;done)|(simp;omega)) _⟩
  ·have hb':=Bool.eq_false_iff.mpr hb
   rw [ha,hb',show (true&&false&&(bT !=0))=false from rfl,(op_false _ _).1,(op_false _ _).2.1,(op_false _ _).2.2]
   have HA:=zz ha;have HB:=zz hb';clear ha hb hb'
   go_enter Tryz.func102,Tryz.ntmps102
   go_wp2_with fail
   refine (valid_spec _ _ _).mono ?_
   rintro e w1 ⟨rfl,hb1⟩
   have HH1:Hid (Held3 w1 w.heap.size aT aB bT bB):=Held3.keep (by refine ⟨?_, ?_, ?_, ?_, ?_, ?_, ?_, ?_, ?_⟩<;>simp [go_sem]) hb1
   have HB1:=zz (((((Below.refl _ w).alloc (Nat.le_refl _) _).alloc (by simp) _).alloc (by first|(simp;done)|(simp;omega)) _).trans (hb1.mono (by first|(simp;done)|(simp;omega))));clear hb1
   obtain ⟨z10,z11,z12,z13,z14,z15,z16,z17,z18⟩:=HH1.out
   rw [HA.out]
   go_wp2_with fail
   refine (valid_spec _ _ _).mono ?_
   rintro e w2 ⟨rfl,hb2⟩
   have HH2:=zz (HH1.out.keep hb2)
   have HB2:=zz (HB1.out.trans (hb2.mono HB1.out.size));clear hb2 HB1 HH1 z10 z11 z12 z13 z14 z15 z16 z17 z18
   obtain ⟨z20,z21,z22,z23,z24,z25,z26,z27,z28⟩:=HH2.out
   rw [HB.out]
   go_wp2
   exact bodyPost_ret (v:= .tuple #[.agg #[.int .i64 0, .int .i64 0], .bool false]) (by simp [results,Tryz.results102,go_sem,z25,z26]) rfl ⟨rfl,HB2.out.setCell (by first|(simp;done)|(simp;omega)) _|>.setCell (by first|(simp;done)|(simp;omega)) _⟩
 ·have ha':=Bool.eq_false_iff.mpr ha
  rw [ha',show (false&&vB bT bB&&(bT !=0))=false from rfl,(op_false _ _).1,(op_false _ _).2.1,(op_false _ _).2.2]
  have HA:=zz ha';clear ha ha'
  go_enter Tryz.func102,Tryz.ntmps102
  go_wp2_with fail
  refine (valid_spec _ _ _).mono ?_
  rintro e w1 ⟨rfl,hb1⟩
  have HH1:Hid (Held3 w1 w.heap.size aT aB bT bB):=Held3.keep (by refine ⟨?_, ?_, ?_, ?_, ?_, ?_, ?_, ?_, ?_⟩<;>simp [go_sem]) hb1
  have HB1:=zz (((((Below.refl _ w).alloc (Nat.le_refl _) _).alloc (by simp) _).alloc (by first|(simp;done)|(simp;omega)) _).trans (hb1.mono (by first|(simp;done)|(simp;omega))));clear hb1
  obtain ⟨z10,z11,z12,z13,z14,z15,z16,z17,z18⟩:=HH1.out
  rw [HA.out]
  go_wp2
  exact bodyPost_ret (v:= .tuple #[.agg #[.int .i64 0, .int .i64 0], .bool false]) (by simp [results,Tryz.results102,go_sem,z15,z16]) rfl ⟨rfl,HB1.out.setCell (by first|(simp;done)|(simp;omega)) _|>.setCell (by first|(simp;done)|(simp;omega)) _⟩
theorem div_spec (aT aB bT bB:Int) (w:World):
  Calls Tryz.prog 102 #[.agg #[.int .i64 aT, .int .i64 aB], .agg #[.int .i64 bT, .int .i64 bB]] w fun e w'=>e=fr (opT (vB aT aB&&vB bT bB&&(bT !=0)) (divT aT bT bB) (divB aB bT)) (opB (vB aT aB&&vB bT bB&&(bT !=0)) (divT aT bT bB) (divB aB bT)) (opOK (vB aT aB&&vB bT bB&&(bT !=0)) (divT aT bT bB) (divB aB bT))∧Below w.heap.size w w':=by
 by_cases hs:bT<0
 ·rw [show divT aT bT bB= -(aT*bB) by simp [divT,hs],show divB aB bT= -(aB*bT) by simp [divB,hs]]
  exact div_spec_neg aT aB bT bB w hs
 ·rw [show divT aT bT bB=aT*bB by simp [divT,hs],show divB aB bT=aB*bT by simp [divB,hs]]
  exact div_spec_pos aT aB bT bB w hs
end Go.Proofs.YthillfgjpalpcaaGreatDoor
