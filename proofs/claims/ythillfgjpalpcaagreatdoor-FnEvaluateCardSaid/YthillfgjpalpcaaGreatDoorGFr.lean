/-
  Several texts of the proof in one file: FracImpl, FracDivI, FracCmp, Fr2.
-/
import Derived.Test.YthillfgjpalpcaaGreatDoorBaseA
import Derived.Deep.RegionHeld3
import Derived.WalkKit
import Derived.Below
set_option linter.unusedVariables false
set_option maxHeartbeats 4000000
set_option maxRecDepth 100000
namespace Go.Proofs.YthillfgjpalpcaaGreatDoor
open Go.RowKit
theorem plus_any (aT aB bT bB:Int) (w:World) (h1: -4611686018427387904≤aT*bB+bT*aB∧aT*bB+bT*aB≤4611686018427387904) (h2: -4611686018427387904≤aB*bB∧aB*bB≤4611686018427387904) (h3: -4611686018427387904≤aT*bB∧aT*bB≤4611686018427387904) (h4: -4611686018427387904≤bT*aB∧bT*aB≤4611686018427387904):
  Calls Tryz.prog 236 #[.agg #[.int .i64 aT, .int .i64 aB], .agg #[.int .i64 bT, .int .i64 bB]] w fun e w'=>e= .returned (.agg #[.int .i64 (aT*bB+bT*aB), .int .i64 (aB*bB)])∧Below w.heap.size w w':=by
 obtain ⟨h11,h12⟩:=h1;obtain ⟨h21,h22⟩:=h2;obtain ⟨h31,h32⟩:=h3;obtain ⟨h41,h42⟩:=h4
 go_enter Tryz.func236,Tryz.ntmps236
 go_wp2
 exact bodyPost_ret (v:= .agg #[.int .i64 (aT*bB+bT*aB), .int .i64 (aB*bB)]) (by simp [results,Tryz.results236,go_sem]) rfl ⟨rfl,((((Below.refl _ w).alloc (Nat.le_refl _) _).alloc (by simp) _).alloc (by first|(simp;done)|(simp;omega)) _)⟩
theorem times_any (aT aB bT bB:Int) (w:World) (h1: -4611686018427387904≤aT*bT∧aT*bT≤4611686018427387904) (h2: -4611686018427387904≤aB*bB∧aB*bB≤4611686018427387904):
  Calls Tryz.prog 237 #[.agg #[.int .i64 aT, .int .i64 aB], .agg #[.int .i64 bT, .int .i64 bB]] w fun e w'=>e= .returned (.agg #[.int .i64 (aT*bT), .int .i64 (aB*bB)])∧Below w.heap.size w w':=by
 obtain ⟨h11,h12⟩:=h1;obtain ⟨h21,h22⟩:=h2
 go_enter Tryz.func237,Tryz.ntmps237
 go_wp2
 exact bodyPost_ret (v:= .agg #[.int .i64 (aT*bT), .int .i64 (aB*bB)]) (by simp [results,Tryz.results237,go_sem]) rfl ⟨rfl,((((Below.refl _ w).alloc (Nat.le_refl _) _).alloc (by simp) _).alloc (by first|(simp;done)|(simp;omega)) _)⟩
theorem add_impl (aT aB bT bB:Int) (w:World):
  Calls Tryz.prog 218 #[.agg #[.int .i64 aT, .int .i64 aB], .agg #[.int .i64 bT, .int .i64 bB]] w fun e w'=>e=fr (opT (vB aT aB&&vB bT bB) (aT*bB+bT*aB) (aB*bB)) (opB (vB aT aB&&vB bT bB) (aT*bB+bT*aB) (aB*bB)) (opOK (vB aT aB&&vB bT bB) (aT*bB+bT*aB) (aB*bB))∧Below w.heap.size w w':=by
 by_cases ha:vB aT aB=true
 ·by_cases hb:vB bT bB=true
  ·rw [ha,hb,show (true&&true)=true from rfl,(op_true _ _).1,(op_true _ _).2.1,(op_true _ _).2.2]
   obtain ⟨a1,a2,a3,a4⟩:=vB_bd ha
   obtain ⟨b1,b2,b3,b4⟩:=vB_bd hb
   have HA:=zz ha;have HB:=zz hb;clear ha hb
   have m1:=mul_15 a1 a2 b3 b4
   have m2:=mul_15 b1 b2 a3 a4
   have m3:=mul_12 a3 a4 b3 b4
   go_enter Tryz.func218,Tryz.ntmps218
   go_wp2_with fail
   refine (valid_method _ _ _).mono ?_
   rintro e w1 ⟨rfl,hb1⟩
   have HH1:Hid (Held3 w1 w.heap.size aT aB bT bB):=Held3.keep (by refine ⟨?_, ?_, ?_, ?_, ?_, ?_, ?_, ?_, ?_⟩<;>simp [go_sem]) hb1
   have HB1:=zz (((((Below.refl _ w).alloc (Nat.le_refl _) _).alloc (by simp) _).alloc (by first|(simp;done)|(simp;omega)) _).trans (hb1.mono (by first|(simp;done)|(simp;omega))));clear hb1
   obtain ⟨z10,z11,z12,z13,z14,z15,z16,z17,z18⟩:=HH1.out
   rw [HA.out]
   go_wp2_with fail
   refine (valid_method _ _ _).mono ?_
   rintro e w2 ⟨rfl,hb2⟩
   have HH2:=zz (HH1.out.keep hb2)
   have HB2:=zz (HB1.out.trans (hb2.mono HB1.out.size));clear hb2 HB1 HH1 z10 z11 z12 z13 z14 z15 z16 z17 z18
   obtain ⟨z20,z21,z22,z23,z24,z25,z26,z27,z28⟩:=HH2.out
   rw [HB.out]
   go_wp2_with fail
   refine (plus_any _ _ _ _ _ (by omega) (by omega) (by omega) (by omega)).mono ?_
   rintro e w3 ⟨rfl,hb3⟩
   have HH3:=zz (HH2.out.keep hb3)
   have HB3:=zz (HB2.out.trans (hb3.mono HB2.out.size));clear hb3 HB2 HH2 z20 z21 z22 z23 z24 z25 z26 z27 z28
   obtain ⟨z30,z31,z32,z33,z34,z35,z36,z37,z38⟩:=HH3.out
   go_wp2_with fail
   refine (reduced_any (aT*bB+bT*aB) (aB*bB) _ (by omega) (by omega) (by omega)).mono ?_
   rintro e w4 ⟨rfl,hb4⟩
   have HH4:=zz (HH3.out.keep hb4)
   have HB4:=zz (HB3.out.trans (hb4.mono HB3.out.size));clear hb4 HB3 HH3 z30 z31 z32 z33 z34 z35 z36 z37 z38
   obtain ⟨z40,z41,z42,z43,z44,z45,z46,z47,z48⟩:=HH4.out
   go_wp2
   exact bodyPost_ret (v:= .tuple #[.agg #[.int .i64 (mkT (aT*bB+bT*aB) (aB*bB)), .int .i64 (mkB (aT*bB+bT*aB) (aB*bB))], .bool (mkOK (aT*bB+bT*aB) (aB*bB))]) (by simp [results,Tryz.results218,go_sem,z45,z46]) rfl ⟨rfl,HB4.out.setCell (by first|(simp;done)|(simp;omega)) _|>.setCell (by first|(simp;done)|(simp;omega)) _⟩
  ·have hb':=Bool.eq_false_iff.mpr hb
   rw [ha,hb',show (true&&false)=false from rfl,(op_false _ _).1,(op_false _ _).2.1,(op_false _ _).2.2]
   have HA:=zz ha;have HB:=zz hb';clear ha hb hb'
   go_enter Tryz.func218,Tryz.ntmps218
   go_wp2_with fail
   refine (valid_method _ _ _).mono ?_
   rintro e w1 ⟨rfl,hb1⟩
   have HH1:Hid (Held3 w1 w.heap.size aT aB bT bB):=Held3.keep (by refine ⟨?_, ?_, ?_, ?_, ?_, ?_, ?_, ?_, ?_⟩<;>simp [go_sem]) hb1
   have HB1:=zz (((((Below.refl _ w).alloc (Nat.le_refl _) _).alloc (by simp) _).alloc (by first|(simp;done)|(simp;omega)) _).trans (hb1.mono (by first|(simp;done)|(simp;omega))));clear hb1
   obtain ⟨z10,z11,z12,z13,z14,z15,z16,z17,z18⟩:=HH1.out
   rw [HA.out]
   go_wp2_with fail
   refine (valid_method _ _ _).mono ?_
   rintro e w2 ⟨rfl,hb2⟩
   have HH2:=zz (HH1.out.keep hb2)
   have HB2:=zz (HB1.out.trans (hb2.mono HB1.out.size));clear hb2 HB1 HH1 z10 z11 z12 z13 z14 z15 z16 z17 z18
   obtain ⟨z20,z21,z22,z23,z24,z25,z26,z27,z28⟩:=HH2.out
   rw [HB.out]
   go_wp2
   exact bodyPost_ret (v:= .tuple #[.agg #[.int .i64 0, .int .i64 0], .bool false]) (by simp [results,Tryz.results218,go_sem,z25,z26]) rfl ⟨rfl,HB2.out.setCell (by first|(simp;done)|(simp;omega)) _|>.setCell (by first|(simp;done)|(simp;omega)) _⟩
 ·have ha':=Bool.eq_false_iff.mpr ha
  rw [ha',show (false&&vB bT bB)=false from rfl,(op_false _ _).1,(op_false _ _).2.1,(op_false _ _).2.2]
  have HA:=zz ha';clear ha ha'
  go_enter Tryz.func218,Tryz.ntmps218
  go_wp2_with fail
  refine (valid_method _ _ _).mono ?_
  rintro e w1 ⟨rfl,hb1⟩
  have HH1:Hid (Held3 w1 w.heap.size aT aB bT bB):=Held3.keep (by refine ⟨?_, ?_, ?_, ?_, ?_, ?_, ?_, ?_, ?_⟩<;>simp [go_sem]) hb1
  have HB1:=zz (((((Below.refl _ w).alloc (Nat.le_refl _) _).alloc (by simp) _).alloc (by first|(simp;done)|(simp;omega)) _).trans (hb1.mono (by first|(simp;done)|(simp;omega))));clear hb1
  obtain ⟨z10,z11,z12,z13,z14,z15,z16,z17,z18⟩:=HH1.out
  rw [HA.out]
  go_wp2
  exact bodyPost_ret (v:= .tuple #[.agg #[.int .i64 0, .int .i64 0], .bool false]) (by simp [results,Tryz.results218,go_sem,z15,z16]) rfl ⟨rfl,HB1.out.setCell (by first|(simp;done)|(simp;omega)) _|>.setCell (by first|(simp;done)|(simp;omega)) _⟩
theorem mul_impl (aT aB bT bB:Int) (w:World):
  Calls Tryz.prog 219 #[.agg #[.int .i64 aT, .int .i64 aB], .agg #[.int .i64 bT, .int .i64 bB]] w fun e w'=>e=fr (opT (vB aT aB&&vB bT bB) (aT*bT) (aB*bB)) (opB (vB aT aB&&vB bT bB) (aT*bT) (aB*bB)) (opOK (vB aT aB&&vB bT bB) (aT*bT) (aB*bB))∧Below w.heap.size w w':=by
 by_cases ha:vB aT aB=true
 ·by_cases hb:vB bT bB=true
  ·rw [ha,hb,show (true&&true)=true from rfl,(op_true _ _).1,(op_true _ _).2.1,(op_true _ _).2.2]
   obtain ⟨a1,a2,a3,a4⟩:=vB_bd ha
   obtain ⟨b1,b2,b3,b4⟩:=vB_bd hb
   have HA:=zz ha;have HB:=zz hb;clear ha hb
   have m1:=mul_18 a1 a2 b1 b2
   have m3:=mul_12 a3 a4 b3 b4
   go_enter Tryz.func219,Tryz.ntmps219
   go_wp2_with fail
   refine (valid_method _ _ _).mono ?_
   rintro e w1 ⟨rfl,hb1⟩
   have HH1:Hid (Held3 w1 w.heap.size aT aB bT bB):=Held3.keep (by refine ⟨?_, ?_, ?_, ?_, ?_, ?_, ?_, ?_, ?_⟩<;>simp [go_sem]) hb1
   have HB1:=zz (((((Below.refl _ w).alloc (Nat.le_refl _) _).alloc (by simp) _).alloc (by first|(simp;done)|(simp;omega)) _).trans (hb1.mono (by first|(simp;done)|(simp;omega))));clear hb1
   obtain ⟨z10,z11,z12,z13,z14,z15,z16,z17,z18⟩:=HH1.out
   rw [HA.out]
   go_wp2_with fail
   refine (valid_method _ _ _).mono ?_
   rintro e w2 ⟨rfl,hb2⟩
   have HH2:=zz (HH1.out.keep hb2)
   have HB2:=zz (HB1.out.trans (hb2.mono HB1.out.size));clear hb2 HB1 HH1 z10 z11 z12 z13 z14 z15 z16 z17 z18
   obtain ⟨z20,z21,z22,z23,z24,z25,z26,z27,z28⟩:=HH2.out
   rw [HB.out]
   go_wp2_with fail
   refine (times_any _ _ _ _ _ (by omega) (by omega)).mono ?_
   rintro e w3 ⟨rfl,hb3⟩
   have HH3:=zz (HH2.out.keep hb3)
   have HB3:=zz (HB2.out.trans (hb3.mono HB2.out.size));clear hb3 HB2 HH2 z20 z21 z22 z23 z24 z25 z26 z27 z28
   obtain ⟨z30,z31,z32,z33,z34,z35,z36,z37,z38⟩:=HH3.out
   go_wp2_with fail
   refine (reduced_any (aT*bT) (aB*bB) _ (by omega) (by omega) (by omega)).mono ?_
   rintro e w4 ⟨rfl,hb4⟩
   have HH4:=zz (HH3.out.keep hb4)
   have HB4:=zz (HB3.out.trans (hb4.mono HB3.out.size));clear hb4 HB3 HH3 z30 z31 z32 z33 z34 z35 z36 z37 z38
   obtain ⟨z40,z41,z42,z43,z44,z45,z46,z47,z48⟩:=HH4.out
   go_wp2
   exact bodyPost_ret (v:= .tuple #[.agg #[.int .i64 (mkT (aT*bT) (aB*bB)), .int .i64 (mkB (aT*bT) (aB*bB))], .bool (mkOK (aT*bT) (aB*bB))]) (by simp [results,Tryz.results219,go_sem,z45,z46]) rfl ⟨rfl,HB4.out.setCell (by first|(simp;done)|(simp;omega)) _|>.setCell (by first|(simp;done)|(simp;omega)) _⟩
  ·have hb':=Bool.eq_false_iff.mpr hb
   rw [ha,hb',show (true&&false)=false from rfl,(op_false _ _).1,(op_false _ _).2.1,(op_false _ _).2.2]
   have HA:=zz ha;have HB:=zz hb';clear ha hb hb'
   go_enter Tryz.func219,Tryz.ntmps219
   go_wp2_with fail
   refine (valid_method _ _ _).mono ?_
   rintro e w1 ⟨rfl,hb1⟩
   have HH1:Hid (Held3 w1 w.heap.size aT aB bT bB):=Held3.keep (by refine ⟨?_, ?_, ?_, ?_, ?_, ?_, ?_, ?_, ?_⟩<;>simp [go_sem]) hb1
   have HB1:=zz (((((Below.refl _ w).alloc (Nat.le_refl _) _).alloc (by simp) _).alloc (by first|(simp;done)|(simp;omega)) _).trans (hb1.mono (by first|(simp;done)|(simp;omega))));clear hb1
   obtain ⟨z10,z11,z12,z13,z14,z15,z16,z17,z18⟩:=HH1.out
   rw [HA.out]
   go_wp2_with fail
   refine (valid_method _ _ _).mono ?_
   rintro e w2 ⟨rfl,hb2⟩
   have HH2:=zz (HH1.out.keep hb2)
   have HB2:=zz (HB1.out.trans (hb2.mono HB1.out.size));clear hb2 HB1 HH1 z10 z11 z12 z13 z14 z15 z16 z17 z18
   obtain ⟨z20,z21,z22,z23,z24,z25,z26,z27,z28⟩:=HH2.out
   rw [HB.out]
   go_wp2
   exact bodyPost_ret (v:= .tuple #[.agg #[.int .i64 0, .int .i64 0], .bool false]) (by simp [results,Tryz.results219,go_sem,z25,z26]) rfl ⟨rfl,HB2.out.setCell (by first|(simp;done)|(simp;omega)) _|>.setCell (by first|(simp;done)|(simp;omega)) _⟩
 ·have ha':=Bool.eq_false_iff.mpr ha
  rw [ha',show (false&&vB bT bB)=false from rfl,(op_false _ _).1,(op_false _ _).2.1,(op_false _ _).2.2]
  have HA:=zz ha';clear ha ha'
  go_enter Tryz.func219,Tryz.ntmps219
  go_wp2_with fail
  refine (valid_method _ _ _).mono ?_
  rintro e w1 ⟨rfl,hb1⟩
  have HH1:Hid (Held3 w1 w.heap.size aT aB bT bB):=Held3.keep (by refine ⟨?_, ?_, ?_, ?_, ?_, ?_, ?_, ?_, ?_⟩<;>simp [go_sem]) hb1
  have HB1:=zz (((((Below.refl _ w).alloc (Nat.le_refl _) _).alloc (by simp) _).alloc (by first|(simp;done)|(simp;omega)) _).trans (hb1.mono (by first|(simp;done)|(simp;omega))));clear hb1
  obtain ⟨z10,z11,z12,z13,z14,z15,z16,z17,z18⟩:=HH1.out
  rw [HA.out]
  go_wp2
  exact bodyPost_ret (v:= .tuple #[.agg #[.int .i64 0, .int .i64 0], .bool false]) (by simp [results,Tryz.results219,go_sem,z15,z16]) rfl ⟨rfl,HB1.out.setCell (by first|(simp;done)|(simp;omega)) _|>.setCell (by first|(simp;done)|(simp;omega)) _⟩
theorem inverse_pos (t b:Int) (w:World) (hs: ¬t<0) (ht: -1000000000≤t∧t≤1000000000) (hb:1≤b∧b≤1000000):
  Calls Tryz.prog 238 #[.agg #[.int .i64 t, .int .i64 b]] w fun e w'=>e= .returned (.agg #[.int .i64 b, .int .i64 t])∧Below w.heap.size w w':=by
 obtain ⟨h11,h12⟩:=ht;obtain ⟨h21,h22⟩:=hb
 go_enter Tryz.func238,Tryz.ntmps238
 go_wp2
 exact bodyPost_ret (v:= .agg #[.int .i64 b, .int .i64 t]) (by simp [results,Tryz.results238,go_sem]) rfl ⟨rfl,(((Below.refl _ w).alloc (Nat.le_refl _) _).alloc (by simp) _)⟩
theorem inverse_neg (t b:Int) (w:World) (hs:t<0) (ht: -1000000000≤t∧t≤1000000000) (hb:1≤b∧b≤1000000):
  Calls Tryz.prog 238 #[.agg #[.int .i64 t, .int .i64 b]] w fun e w'=>e= .returned (.agg #[.int .i64 (-b), .int .i64 (-t)])∧Below w.heap.size w w':=by
 obtain ⟨h11,h12⟩:=ht;obtain ⟨h21,h22⟩:=hb
 go_enter Tryz.func238,Tryz.ntmps238
 go_wp2
 exact bodyPost_ret (v:= .agg #[.int .i64 (-b), .int .i64 (-t)]) (by simp [results,Tryz.results238,go_sem]) rfl ⟨rfl,(((Below.refl _ w).alloc (Nat.le_refl _) _).alloc (by simp) _)⟩
theorem kept {W w1:World} (hb:Below W.heap.size W w1) {p:Addr} {v:Value} (h:W.cell? p=some v):w1.cell? p=some v:=by
 rw [hb.cell (World.block_lt_of_cell? W _ h)];exact h
theorem keptF {W w1:World} (hb:Below W.heap.size W w1) {p:Addr} {v:Value} (h:W.cell? p=some v) (hf:W.frozen? p=false):w1.frozen? p=false:=by
 rw [hb.frozen (World.block_lt_of_cell? W _ h)];exact hf
theorem kept4 {W w1:World} (hb:Below W.heap.size W w1) {p0 p1 p2 p3:Addr} {v0 v1 v2 v3:Value} (h0:W.cell? p0=some v0) (h1:W.cell? p1=some v1) (h2:W.cell? p2=some v2) (h3:W.cell? p3=some v3):
  w1.cell? p0=some v0∧w1.cell? p1=some v1∧w1.cell? p2=some v2∧w1.cell? p3=some v3:=
 ⟨kept hb h0,kept hb h1,kept hb h2,kept hb h3⟩
theorem keptR {W w1:World} (hb:Below W.heap.size W w1) {p4 p5:Addr} {v4 v5:Value} (h4:W.cell? p4=some v4) (h5:W.cell? p5=some v5) (h6:W.frozen? p4=false) (h7:W.frozen? p5=false):
  w1.cell? p4=some v4∧w1.cell? p5=some v5∧w1.frozen? p4=false∧w1.frozen? p5=false:=
 ⟨kept hb h4,kept hb h5,keptF hb h4 h6,keptF hb h5 h7⟩
theorem div_impl_pos (aT aB bT bB:Int) (w:World) (hs: ¬bT<0):
  Calls Tryz.prog 220 #[.agg #[.int .i64 aT, .int .i64 aB], .agg #[.int .i64 bT, .int .i64 bB]] w fun e w'=>e=fr (opT (vB aT aB&&vB bT bB&&(bT !=0)) (aT*bB) (aB*bT)) (opB (vB aT aB&&vB bT bB&&(bT !=0)) (aT*bB) (aB*bT)) (opOK (vB aT aB&&vB bT bB&&(bT !=0)) (aT*bB) (aB*bT))∧Below w.heap.size w w':=by
 by_cases ha:vB aT aB=true
 ·by_cases hb:vB bT bB=true
  ·by_cases h0:bT=0
   ·have h0b:(bT==0)=true:=by simpa using h0
    have h0c:(bT !=0)=false:=by simpa using h0
    rw [ha,hb,h0c,show (true&&true&&false)=false from rfl,(op_false _ _).1,(op_false _ _).2.1,(op_false _ _).2.2]
    have HA:=zz ha;have HB:=zz hb;clear ha hb h0 h0c
    go_enter Tryz.func220,Tryz.ntmps220
    go_wp2_with fail
    refine (valid_method _ _ _).mono ?_
    rintro e w1 ⟨rfl,hb1⟩
    have HH1:Hid (Held3 w1 w.heap.size aT aB bT bB):=Held3.keep (by refine ⟨?_, ?_, ?_, ?_, ?_, ?_, ?_, ?_, ?_⟩<;>simp [go_sem]) hb1
    have HB1:=zz (((((Below.refl _ w).alloc (Nat.le_refl _) _).alloc (by simp) _).alloc (by first|(simp;done)|(simp;omega)) _).trans (hb1.mono (by first|(simp;done)|(simp;omega))));clear hb1
    obtain ⟨z10,z11,z12,z13,z14,z15,z16,z17,z18⟩:=HH1.out
    rw [HA.out]
    go_wp2_with fail
    refine (valid_method _ _ _).mono ?_
    rintro e w2 ⟨rfl,hb2⟩
    have HH2:=zz (HH1.out.keep hb2)
    have HB2:=zz (HB1.out.trans (hb2.mono HB1.out.size));clear hb2 HB1 HH1 z10 z11 z12 z13 z14 z15 z16 z17 z18
    obtain ⟨z20,z21,z22,z23,z24,z25,z26,z27,z28⟩:=HH2.out
    rw [HB.out]
    go_wp2
    exact bodyPost_ret (v:= .tuple #[.agg #[.int .i64 0, .int .i64 0], .bool false]) (by simp [results,Tryz.results220,go_sem,z25,z26]) rfl ⟨rfl,HB2.out.setCell (by first|(simp;done)|(simp;omega)) _|>.setCell (by first|(simp;done)|(simp;omega)) _⟩
   ·have h0b:(bT==0)=false:=by simpa using h0
    have h0c:(bT !=0)=true:=by simpa using h0
    rw [ha,hb,h0c,show (true&&true&&true)=true from rfl,(op_true _ _).1,(op_true _ _).2.1,(op_true _ _).2.2]
    clear h0c
    obtain ⟨a1,a2,a3,a4⟩:=vB_bd ha
    obtain ⟨b1,b2,b3,b4⟩:=vB_bd hb
    have HA:=zz ha;have HB:=zz hb;clear ha hb
    have m1:=mul_15 a1 a2 b3 b4
    have m2:=mul_bd aB bT 1000000 1000000000 1000000000000000 rfl (by omega) (by omega)
    have m3:0<aB*bT:=Int.mul_pos (by omega) (by omega)
    have m4:aB*bT≤1000000000000000:=by omega
    have m5: -1000000000000000≤aB*bT:=by omega
    clear m2
    go_enter Tryz.func220,Tryz.ntmps220
    go_wp2_with fail
    refine (valid_method _ _ _).mono ?_
    rintro e w1 ⟨rfl,hb1⟩
    have HH1:Hid (Held3 w1 w.heap.size aT aB bT bB):=Held3.keep (by refine ⟨?_, ?_, ?_, ?_, ?_, ?_, ?_, ?_, ?_⟩<;>simp [go_sem]) hb1
    have HB1:=zz (((((Below.refl _ w).alloc (Nat.le_refl _) _).alloc (by simp) _).alloc (by first|(simp;done)|(simp;omega)) _).trans (hb1.mono (by first|(simp;done)|(simp;omega))));clear hb1
    obtain ⟨z10,z11,z12,z13,z14,z15,z16,z17,z18⟩:=HH1.out
    rw [HA.out]
    go_wp2_with fail
    refine (valid_method _ _ _).mono ?_
    rintro e w2 ⟨rfl,hb2⟩
    have HH2:=zz (HH1.out.keep hb2)
    have HB2:=zz (HB1.out.trans (hb2.mono HB1.out.size));clear hb2 HB1 HH1 z10 z11 z12 z13 z14 z15 z16 z17 z18
    obtain ⟨z20,z21,z22,z23,z24,z25,z26,z27,z28⟩:=HH2.out
    rw [HB.out]
    go_wp2_with fail
    have ne1:w.heap.size+1+1≠w.heap.size:=by omega
    have ne2:w.heap.size≠w.heap.size+1+1:=by omega
    go_region_held3 (fun w'=>w'.cell? ⟨w.heap.size,0,none⟩=some (.int .i64 aT)∧w'.cell? ⟨w.heap.size,1,none⟩=some (.int .i64 aB)∧w'.cell? ⟨w.heap.size+1,0,none⟩=some (.int .i64 bT)∧w'.cell? ⟨w.heap.size+1,1,none⟩=some (.int .i64 bB))
     (first
      |go_keep
      |(go_split_ands;exact kept4 hb5 (by assumption) (by assumption) (by assumption) (by assumption))
      |(go_split_ands;exact kept4 hb4 (by assumption) (by assumption) (by assumption) (by assumption))
      |(go_split_ands;exact kept4 hb3 (by assumption) (by assumption) (by assumption) (by assumption)))
     (first
      |(go_at_call 238;refine (inverse_pos _ _ _ (by omega) (by omega) (by omega)).mono ?_;rintro e w3 ⟨rfl,hb3⟩;obtain ⟨z35,z36,z37,z38⟩:=keptR hb3 (by exact z25) (by exact z26) (by exact z27) (by exact z28))
      |(go_at_call 237;refine (times_any _ _ _ _ _ (by omega) (by omega)).mono ?_;rintro e w4 ⟨rfl,hb4⟩;obtain ⟨z45,z46,z47,z48⟩:=keptR hb4 (by exact z35) (by exact z36) (by exact z37) (by exact z38))
      |(go_at_call 166;refine (reduced_any (aT*bB) (aB*bT) _ (by omega) (by omega) (by omega)).mono ?_;rintro e w5 ⟨rfl,hb5⟩;obtain ⟨z55,z56,z57,z58⟩:=keptR hb5 (by exact z45) (by exact z46) (by exact z47) (by exact z48)))
    have HB5:=zz (((HB2.out.drew.trans (hb3.mono HB2.out.size)).trans (hb4.mono (Nat.le_trans HB2.out.size hb3.size))).trans (hb5.mono (Nat.le_trans (Nat.le_trans HB2.out.size hb3.size) hb4.size)))
    clear hb3 hb4 hb5
    go_wp2
    exact bodyPost_ret (v:= .tuple #[.agg #[.int .i64 (mkT (aT*bB) (aB*bT)), .int .i64 (mkB (aT*bB) (aB*bT))], .bool (mkOK (aT*bB) (aB*bT))]) (by simp [results,Tryz.results220,go_sem,z55,z56]) rfl ⟨rfl,HB5.out.setCell (by first|(simp;done)|(simp;omega)) _|>.setCell (by first|(simp;done)|(simp;omega)) _⟩
  ·have hb':=Bool.eq_false_iff.mpr hb
   rw [ha,hb',show (true&&false&&(bT !=0))=false from rfl,(op_false _ _).1,(op_false _ _).2.1,(op_false _ _).2.2]
   have HA:=zz ha;have HB:=zz hb';clear ha hb hb'
   go_enter Tryz.func220,Tryz.ntmps220
   go_wp2_with fail
   refine (valid_method _ _ _).mono ?_
   rintro e w1 ⟨rfl,hb1⟩
   have HH1:Hid (Held3 w1 w.heap.size aT aB bT bB):=Held3.keep (by refine ⟨?_, ?_, ?_, ?_, ?_, ?_, ?_, ?_, ?_⟩<;>simp [go_sem]) hb1
   have HB1:=zz (((((Below.refl _ w).alloc (Nat.le_refl _) _).alloc (by simp) _).alloc (by first|(simp;done)|(simp;omega)) _).trans (hb1.mono (by first|(simp;done)|(simp;omega))));clear hb1
   obtain ⟨z10,z11,z12,z13,z14,z15,z16,z17,z18⟩:=HH1.out
   rw [HA.out]
   go_wp2_with fail
   refine (valid_method _ _ _).mono ?_
   rintro e w2 ⟨rfl,hb2⟩
   have HH2:=zz (HH1.out.keep hb2)
   have HB2:=zz (HB1.out.trans (hb2.mono HB1.out.size));clear hb2 HB1 HH1 z10 z11 z12 z13 z14 z15 z16 z17 z18
   obtain ⟨z20,z21,z22,z23,z24,z25,z26,z27,z28⟩:=HH2.out
   rw [HB.out]
   go_wp2
   exact bodyPost_ret (v:= .tuple #[.agg #[.int .i64 0, .int .i64 0], .bool false]) (by simp [results,Tryz.results220,go_sem,z25,z26]) rfl ⟨rfl,HB2.out.setCell (by first|(simp;done)|(simp;omega)) _|>.setCell (by first|(simp;done)|(simp;omega)) _⟩
 ·have ha':=Bool.eq_false_iff.mpr ha
  rw [ha',show (false&&vB bT bB&&(bT !=0))=false from rfl,(op_false _ _).1,(op_false _ _).2.1,(op_false _ _).2.2]
  have HA:=zz ha';clear ha ha'
  go_enter Tryz.func220,Tryz.ntmps220
  go_wp2_with fail
  refine (valid_method _ _ _).mono ?_
  rintro e w1 ⟨rfl,hb1⟩
  have HH1:Hid (Held3 w1 w.heap.size aT aB bT bB):=Held3.keep (by refine ⟨?_, ?_, ?_, ?_, ?_, ?_, ?_, ?_, ?_⟩<;>simp [go_sem]) hb1
  have HB1:=zz (((((Below.refl _ w).alloc (Nat.le_refl _) _).alloc (by simp) _).alloc (by first|(simp;done)|(simp;omega)) _).trans (hb1.mono (by first|(simp;done)|(simp;omega))));clear hb1
  obtain ⟨z10,z11,z12,z13,z14,z15,z16,z17,z18⟩:=HH1.out
  rw [HA.out]
  go_wp2
  exact bodyPost_ret (v:= .tuple #[.agg #[.int .i64 0, .int .i64 0], .bool false]) (by simp [results,Tryz.results220,go_sem,z15,z16]) rfl ⟨rfl,HB1.out.setCell (by first|(simp;done)|(simp;omega)) _|>.setCell (by first|(simp;done)|(simp;omega)) _⟩
theorem div_impl_neg (aT aB bT bB:Int) (w:World) (hs:bT<0):
  Calls Tryz.prog 220 #[.agg #[.int .i64 aT, .int .i64 aB], .agg #[.int .i64 bT, .int .i64 bB]] w fun e w'=>e=fr (opT (vB aT aB&&vB bT bB&&(bT !=0)) (-(aT*bB)) (-(aB*bT))) (opB (vB aT aB&&vB bT bB&&(bT !=0)) (-(aT*bB)) (-(aB*bT))) (opOK (vB aT aB&&vB bT bB&&(bT !=0)) (-(aT*bB)) (-(aB*bT)))∧Below w.heap.size w w':=by
 by_cases ha:vB aT aB=true
 ·by_cases hb:vB bT bB=true
  ·by_cases h0:bT=0
   ·have h0b:(bT==0)=true:=by simpa using h0
    have h0c:(bT !=0)=false:=by simpa using h0
    rw [ha,hb,h0c,show (true&&true&&false)=false from rfl,(op_false _ _).1,(op_false _ _).2.1,(op_false _ _).2.2]
    have HA:=zz ha;have HB:=zz hb;clear ha hb h0 h0c
    go_enter Tryz.func220,Tryz.ntmps220
    go_wp2_with fail
    refine (valid_method _ _ _).mono ?_
    rintro e w1 ⟨rfl,hb1⟩
    have HH1:Hid (Held3 w1 w.heap.size aT aB bT bB):=Held3.keep (by refine ⟨?_, ?_, ?_, ?_, ?_, ?_, ?_, ?_, ?_⟩<;>simp [go_sem]) hb1
    have HB1:=zz (((((Below.refl _ w).alloc (Nat.le_refl _) _).alloc (by simp) _).alloc (by first|(simp;done)|(simp;omega)) _).trans (hb1.mono (by first|(simp;done)|(simp;omega))));clear hb1
    obtain ⟨z10,z11,z12,z13,z14,z15,z16,z17,z18⟩:=HH1.out
    rw [HA.out]
    go_wp2_with fail
    refine (valid_method _ _ _).mono ?_
    rintro e w2 ⟨rfl,hb2⟩
    have HH2:=zz (HH1.out.keep hb2)
    have HB2:=zz (HB1.out.trans (hb2.mono HB1.out.size));clear hb2 HB1 HH1 z10 z11 z12 z13 z14 z15 z16 z17 z18
    obtain ⟨z20,z21,z22,z23,z24,z25,z26,z27,z28⟩:=HH2.out
    rw [HB.out]
    go_wp2
    exact bodyPost_ret (v:= .tuple #[.agg #[.int .i64 0, .int .i64 0], .bool false]) (by simp [results,Tryz.results220,go_sem,z25,z26]) rfl ⟨rfl,HB2.out.setCell (by first|(simp;done)|(simp;omega)) _|>.setCell (by first|(simp;done)|(simp;omega)) _⟩
   ·have h0b:(bT==0)=false:=by simpa using h0
    have h0c:(bT !=0)=true:=by simpa using h0
    rw [ha,hb,h0c,show (true&&true&&true)=true from rfl,(op_true _ _).1,(op_true _ _).2.1,(op_true _ _).2.2]
    clear h0c
    obtain ⟨a1,a2,a3,a4⟩:=vB_bd ha
    obtain ⟨b1,b2,b3,b4⟩:=vB_bd hb
    have HA:=zz ha;have HB:=zz hb;clear ha hb
    have m1:=mul_15 a1 a2 b3 b4
    have m2:=mul_bd aB bT 1000000 1000000000 1000000000000000 rfl (by omega) (by omega)
    have m3:aB*bT<0:=Int.mul_neg_of_pos_of_neg (by omega) hs
    have m4:aB*bT≤1000000000000000:=by omega
    have m5: -1000000000000000≤aB*bT:=by omega
    clear m2
    have n1:aT*(-bB)= -(aT*bB):=Int.mul_neg _ _
    have n2:aB*(-bT)= -(aB*bT):=Int.mul_neg _ _
    rw [←n1,←n2]
    have n3:=zz n1;have n4:=zz n2
    have m6: -1000000000000000≤aT*(-bB)∧aT*(-bB)≤1000000000000000:=by omega
    have m7:0<aB*(-bT)∧aB*(-bT)≤1000000000000000:=by omega
    clear n1 n2
    go_enter Tryz.func220,Tryz.ntmps220
    go_wp2_with fail
    refine (valid_method _ _ _).mono ?_
    rintro e w1 ⟨rfl,hb1⟩
    have HH1:Hid (Held3 w1 w.heap.size aT aB bT bB):=Held3.keep (by refine ⟨?_, ?_, ?_, ?_, ?_, ?_, ?_, ?_, ?_⟩<;>simp [go_sem]) hb1
    have HB1:=zz (((((Below.refl _ w).alloc (Nat.le_refl _) _).alloc (by simp) _).alloc (by first|(simp;done)|(simp;omega)) _).trans (hb1.mono (by first|(simp;done)|(simp;omega))));clear hb1
    obtain ⟨z10,z11,z12,z13,z14,z15,z16,z17,z18⟩:=HH1.out
    rw [HA.out]
    go_wp2_with fail
    refine (valid_method _ _ _).mono ?_
    rintro e w2 ⟨rfl,hb2⟩
    have HH2:=zz (HH1.out.keep hb2)
    have HB2:=zz (HB1.out.trans (hb2.mono HB1.out.size));clear hb2 HB1 HH1 z10 z11 z12 z13 z14 z15 z16 z17 z18
    obtain ⟨z20,z21,z22,z23,z24,z25,z26,z27,z28⟩:=HH2.out
    rw [HB.out]
    go_wp2_with fail
    have ne1:w.heap.size+1+1≠w.heap.size:=by omega
    have ne2:w.heap.size≠w.heap.size+1+1:=by omega
    go_region_held3 (fun w'=>w'.cell? ⟨w.heap.size,0,none⟩=some (.int .i64 aT)∧w'.cell? ⟨w.heap.size,1,none⟩=some (.int .i64 aB)∧w'.cell? ⟨w.heap.size+1,0,none⟩=some (.int .i64 bT)∧w'.cell? ⟨w.heap.size+1,1,none⟩=some (.int .i64 bB))
     (first
      |go_keep
      |(go_split_ands;exact kept4 hb5 (by assumption) (by assumption) (by assumption) (by assumption))
      |(go_split_ands;exact kept4 hb4 (by assumption) (by assumption) (by assumption) (by assumption))
      |(go_split_ands;exact kept4 hb3 (by assumption) (by assumption) (by assumption) (by assumption)))
     (first
      |(go_at_call 238;refine (inverse_neg _ _ _ (by omega) (by omega) (by omega)).mono ?_;rintro e w3 ⟨rfl,hb3⟩;obtain ⟨z35,z36,z37,z38⟩:=keptR hb3 (by exact z25) (by exact z26) (by exact z27) (by exact z28))
      |(go_at_call 237;refine (times_any _ _ _ _ _ (by omega) (by omega)).mono ?_;rintro e w4 ⟨rfl,hb4⟩;obtain ⟨z45,z46,z47,z48⟩:=keptR hb4 (by exact z35) (by exact z36) (by exact z37) (by exact z38))
      |(go_at_call 166;refine (reduced_any (aT*(-bB)) (aB*(-bT)) _ (by omega) (by omega) (by omega)).mono ?_;rintro e w5 ⟨rfl,hb5⟩;obtain ⟨z55,z56,z57,z58⟩:=keptR hb5 (by exact z45) (by exact z46) (by exact z47) (by exact z48)))
    have HB5:=zz (((HB2.out.drew.trans (hb3.mono HB2.out.size)).trans (hb4.mono (Nat.le_trans HB2.out.size hb3.size))).trans (hb5.mono (Nat.le_trans (Nat.le_trans HB2.out.size hb3.size) hb4.size)))
    clear hb3 hb4 hb5
    go_wp2
    exact bodyPost_ret (v:= .tuple #[.agg #[.int .i64 (mkT (aT*(-bB)) (aB*(-bT))), .int .i64 (mkB (aT*(-bB)) (aB*(-bT)))], .bool (mkOK (aT*(-bB)) (aB*(-bT)))]) (by simp [results,Tryz.results220,go_sem,z55,z56]) rfl ⟨rfl,HB5.out.setCell (by first|(simp;done)|(simp;omega)) _|>.setCell (by first|(simp;done)|(simp;omega)) _⟩
  ·have hb':=Bool.eq_false_iff.mpr hb
   rw [ha,hb',show (true&&false&&(bT !=0))=false from rfl,(op_false _ _).1,(op_false _ _).2.1,(op_false _ _).2.2]
   have HA:=zz ha;have HB:=zz hb';clear ha hb hb'
   go_enter Tryz.func220,Tryz.ntmps220
   go_wp2_with fail
   refine (valid_method _ _ _).mono ?_
   rintro e w1 ⟨rfl,hb1⟩
   have HH1:Hid (Held3 w1 w.heap.size aT aB bT bB):=Held3.keep (by refine ⟨?_, ?_, ?_, ?_, ?_, ?_, ?_, ?_, ?_⟩<;>simp [go_sem]) hb1
   have HB1:=zz (((((Below.refl _ w).alloc (Nat.le_refl _) _).alloc (by simp) _).alloc (by first|(simp;done)|(simp;omega)) _).trans (hb1.mono (by first|(simp;done)|(simp;omega))));clear hb1
   obtain ⟨z10,z11,z12,z13,z14,z15,z16,z17,z18⟩:=HH1.out
   rw [HA.out]
   go_wp2_with fail
   refine (valid_method _ _ _).mono ?_
   rintro e w2 ⟨rfl,hb2⟩
   have HH2:=zz (HH1.out.keep hb2)
   have HB2:=zz (HB1.out.trans (hb2.mono HB1.out.size));clear hb2 HB1 HH1 z10 z11 z12 z13 z14 z15 z16 z17 z18
   obtain ⟨z20,z21,z22,z23,z24,z25,z26,z27,z28⟩:=HH2.out
   rw [HB.out]
   go_wp2
   exact bodyPost_ret (v:= .tuple #[.agg #[.int .i64 0, .int .i64 0], .bool false]) (by simp [results,Tryz.results220,go_sem,z25,z26]) rfl ⟨rfl,HB2.out.setCell (by first|(simp;done)|(simp;omega)) _|>.setCell (by first|(simp;done)|(simp;omega)) _⟩
 ·have ha':=Bool.eq_false_iff.mpr ha
  rw [ha',show (false&&vB bT bB&&(bT !=0))=false from rfl,(op_false _ _).1,(op_false _ _).2.1,(op_false _ _).2.2]
  have HA:=zz ha';clear ha ha'
  go_enter Tryz.func220,Tryz.ntmps220
  go_wp2_with fail
  refine (valid_method _ _ _).mono ?_
  rintro e w1 ⟨rfl,hb1⟩
  have HH1:Hid (Held3 w1 w.heap.size aT aB bT bB):=Held3.keep (by refine ⟨?_, ?_, ?_, ?_, ?_, ?_, ?_, ?_, ?_⟩<;>simp [go_sem]) hb1
  have HB1:=zz (((((Below.refl _ w).alloc (Nat.le_refl _) _).alloc (by simp) _).alloc (by first|(simp;done)|(simp;omega)) _).trans (hb1.mono (by first|(simp;done)|(simp;omega))));clear hb1
  obtain ⟨z10,z11,z12,z13,z14,z15,z16,z17,z18⟩:=HH1.out
  rw [HA.out]
  go_wp2
  exact bodyPost_ret (v:= .tuple #[.agg #[.int .i64 0, .int .i64 0], .bool false]) (by simp [results,Tryz.results220,go_sem,z15,z16]) rfl ⟨rfl,HB1.out.setCell (by first|(simp;done)|(simp;omega)) _|>.setCell (by first|(simp;done)|(simp;omega)) _⟩
theorem div_impl (aT aB bT bB:Int) (w:World):
  Calls Tryz.prog 220 #[.agg #[.int .i64 aT, .int .i64 aB], .agg #[.int .i64 bT, .int .i64 bB]] w fun e w'=>e=fr (opT (vB aT aB&&vB bT bB&&(bT !=0)) (divT aT bT bB) (divB aB bT)) (opB (vB aT aB&&vB bT bB&&(bT !=0)) (divT aT bT bB) (divB aB bT)) (opOK (vB aT aB&&vB bT bB&&(bT !=0)) (divT aT bT bB) (divB aB bT))∧Below w.heap.size w w':=by
 by_cases hs:bT<0
 ·rw [show divT aT bT bB= -(aT*bB) by simp [divT,hs],show divB aB bT= -(aB*bT) by simp [divB,hs]]
  exact div_impl_neg aT aB bT bB w hs
 ·rw [show divT aT bT bB=aT*bB by simp [divT,hs],show divB aB bT=aB*bT by simp [divB,hs]]
  exact div_impl_pos aT aB bT bB w hs
def Held2 (w':World) (N:Nat) (aT aB bT bB:Int):Prop:=
 w'.cell? ⟨N,0,none⟩=some (.int .i64 aT)∧w'.cell? ⟨N,1,none⟩=some (.int .i64 aB)∧w'.cell? ⟨N+1,0,none⟩=some (.int .i64 bT)∧w'.cell? ⟨N+1,1,none⟩=some (.int .i64 bB)
theorem kept2 {W w1:World} (hb:Below W.heap.size W w1) {p:Addr} {v:Value} (h:W.cell? p=some v):w1.cell? p=some v:=by
 rw [hb.cell (World.block_lt_of_cell? W _ h)];exact h
theorem Held2.keep {W w1:World} {N:Nat} {aT aB bT bB:Int} (h:Held2 W N aT aB bT bB) (hb:Below W.heap.size W w1):Held2 w1 N aT aB bT bB:=
 ⟨kept2 hb h.1,kept2 hb h.2.1,kept2 hb h.2.2.1,kept2 hb h.2.2.2⟩
theorem compareI (x y:Int) (w:World):
  Calls Tryz.prog 217 #[.int .i64 x, .int .i64 y] w fun e w'=>e= .returned (.int .i64 (cmpI x y))∧w=w':=by
 by_cases l1:x<y
 ·have hq:cmpI x y= -1:=by simp [cmpI,l1]
  rw [hq];clear hq
  go_enter Tryz.func217,Tryz.ntmps217
  go_wp2
  go_ret
  exact ⟨rfl,rfl⟩
 ·by_cases l2:y<x
  ·have hq:cmpI x y=1:=by simp [cmpI,l1,l2]
   rw [hq];clear hq
   go_enter Tryz.func217,Tryz.ntmps217
   go_wp2
   go_ret
   exact ⟨rfl,rfl⟩
  ·have hq:cmpI x y=0:=by simp [cmpI,l1,l2]
   rw [hq];clear hq
   go_enter Tryz.func217,Tryz.ntmps217
   go_wp2
   go_ret
   exact ⟨rfl,rfl⟩
theorem cmp_spec (aT aB bT bB:Int) (w:World):
  Calls Tryz.prog 103 #[.agg #[.int .i64 aT, .int .i64 aB], .agg #[.int .i64 bT, .int .i64 bB]] w fun e w'=>e= .returned (.int .i64 (cmpF (vB aT aB&&vB bT bB) (aT*bB) (bT*aB)))∧Below w.heap.size w w':=by
 by_cases ha:vB aT aB=true
 ·by_cases hb:vB bT bB=true
  ·rw [ha,hb,show cmpF (true&&true) (aT*bB) (bT*aB)=cmpI (aT*bB) (bT*aB) from rfl]
   obtain ⟨a1,a2,a3,a4⟩:=vB_bd ha
   obtain ⟨b1,b2,b3,b4⟩:=vB_bd hb
   have HA:=zz ha;have HB:=zz hb;clear ha hb
   have m1:=mul_15 a1 a2 b3 b4
   have m2:=mul_15 b1 b2 a3 a4
   by_cases l1:aT*bB<bT*aB
   ·have hq:cmpI (aT*bB) (bT*aB)= -1:=by simp [cmpI,l1]
    rw [hq];clear hq
    go_enter Tryz.func103,Tryz.ntmps103
    go_wp2_with fail
    refine (valid_spec _ _ _).mono ?_
    rintro e w1 ⟨rfl,hb1⟩
    have HH1:Hid (Held2 w1 w.heap.size aT aB bT bB):=Held2.keep (by refine ⟨?_, ?_, ?_, ?_⟩<;>simp [go_sem]) hb1
    have HB1:=zz ((((Below.refl _ w).alloc (Nat.le_refl _) _).alloc (by simp) _).trans (hb1.mono (by first|(simp;done)|(simp;omega))));clear hb1
    obtain ⟨z11,z12,z13,z14⟩:=HH1.out
    rw [HA.out]
    go_wp2_with fail
    refine (valid_spec _ _ _).mono ?_
    rintro e w2 ⟨rfl,hb2⟩
    have HH2:=zz (HH1.out.keep hb2)
    have HB2:=zz (HB1.out.trans (hb2.mono HB1.out.size));clear hb2 HB1 HH1 z11 z12 z13 z14
    obtain ⟨z21,z22,z23,z24⟩:=HH2.out
    rw [HB.out]
    go_wp2
    go_ret
    exact ⟨rfl,HB2.out⟩
   ·by_cases l2:bT*aB<aT*bB
    ·have hq:cmpI (aT*bB) (bT*aB)=1:=by simp [cmpI,l1,l2]
     rw [hq];clear hq
     go_enter Tryz.func103,Tryz.ntmps103
     go_wp2_with fail
     refine (valid_spec _ _ _).mono ?_
     rintro e w1 ⟨rfl,hb1⟩
     have HH1:Hid (Held2 w1 w.heap.size aT aB bT bB):=Held2.keep (by refine ⟨?_, ?_, ?_, ?_⟩<;>simp [go_sem]) hb1
     have HB1:=zz ((((Below.refl _ w).alloc (Nat.le_refl _) _).alloc (by simp) _).trans (hb1.mono (by first|(simp;done)|(simp;omega))));clear hb1
     obtain ⟨z11,z12,z13,z14⟩:=HH1.out
     rw [HA.out]
     go_wp2_with fail
     refine (valid_spec _ _ _).mono ?_
     rintro e w2 ⟨rfl,hb2⟩
     have HH2:=zz (HH1.out.keep hb2)
     have HB2:=zz (HB1.out.trans (hb2.mono HB1.out.size));clear hb2 HB1 HH1 z11 z12 z13 z14
     obtain ⟨z21,z22,z23,z24⟩:=HH2.out
     rw [HB.out]
     go_wp2
     go_ret
     exact ⟨rfl,HB2.out⟩
    ·have hq:cmpI (aT*bB) (bT*aB)=0:=by simp [cmpI,l1,l2]
     rw [hq];clear hq
     go_enter Tryz.func103,Tryz.ntmps103
     go_wp2_with fail
     refine (valid_spec _ _ _).mono ?_
     rintro e w1 ⟨rfl,hb1⟩
     have HH1:Hid (Held2 w1 w.heap.size aT aB bT bB):=Held2.keep (by refine ⟨?_, ?_, ?_, ?_⟩<;>simp [go_sem]) hb1
     have HB1:=zz ((((Below.refl _ w).alloc (Nat.le_refl _) _).alloc (by simp) _).trans (hb1.mono (by first|(simp;done)|(simp;omega))));clear hb1
     obtain ⟨z11,z12,z13,z14⟩:=HH1.out
     rw [HA.out]
     go_wp2_with fail
     refine (valid_spec _ _ _).mono ?_
     rintro e w2 ⟨rfl,hb2⟩
     have HH2:=zz (HH1.out.keep hb2)
     have HB2:=zz (HB1.out.trans (hb2.mono HB1.out.size));clear hb2 HB1 HH1 z11 z12 z13 z14
     obtain ⟨z21,z22,z23,z24⟩:=HH2.out
     rw [HB.out]
     go_wp2
     go_ret
     exact ⟨rfl,HB2.out⟩
  ·have hb':=Bool.eq_false_iff.mpr hb
   rw [ha,hb',show cmpF (true&&false) (aT*bB) (bT*aB)=2 from rfl]
   have HA:=zz ha;have HB:=zz hb';clear ha hb hb'
   go_enter Tryz.func103,Tryz.ntmps103
   go_wp2_with fail
   refine (valid_spec _ _ _).mono ?_
   rintro e w1 ⟨rfl,hb1⟩
   have HH1:Hid (Held2 w1 w.heap.size aT aB bT bB):=Held2.keep (by refine ⟨?_, ?_, ?_, ?_⟩<;>simp [go_sem]) hb1
   have HB1:=zz ((((Below.refl _ w).alloc (Nat.le_refl _) _).alloc (by simp) _).trans (hb1.mono (by first|(simp;done)|(simp;omega))));clear hb1
   obtain ⟨z11,z12,z13,z14⟩:=HH1.out
   rw [HA.out]
   go_wp2_with fail
   refine (valid_spec _ _ _).mono ?_
   rintro e w2 ⟨rfl,hb2⟩
   have HH2:=zz (HH1.out.keep hb2)
   have HB2:=zz (HB1.out.trans (hb2.mono HB1.out.size));clear hb2 HB1 HH1 z11 z12 z13 z14
   obtain ⟨z21,z22,z23,z24⟩:=HH2.out
   rw [HB.out]
   go_wp2
   go_ret
   exact ⟨rfl,HB2.out⟩
 ·have ha':=Bool.eq_false_iff.mpr ha
  rw [ha',show cmpF (false&&vB bT bB) (aT*bB) (bT*aB)=2 from rfl]
  have HA:=zz ha';clear ha ha'
  go_enter Tryz.func103,Tryz.ntmps103
  go_wp2_with fail
  refine (valid_spec _ _ _).mono ?_
  rintro e w1 ⟨rfl,hb1⟩
  have HH1:Hid (Held2 w1 w.heap.size aT aB bT bB):=Held2.keep (by refine ⟨?_, ?_, ?_, ?_⟩<;>simp [go_sem]) hb1
  have HB1:=zz ((((Below.refl _ w).alloc (Nat.le_refl _) _).alloc (by simp) _).trans (hb1.mono (by first|(simp;done)|(simp;omega))));clear hb1
  obtain ⟨z11,z12,z13,z14⟩:=HH1.out
  rw [HA.out]
  go_wp2
  go_ret
  exact ⟨rfl,HB1.out⟩
theorem cmp_impl (aT aB bT bB:Int) (w:World):
  Calls Tryz.prog 191 #[.agg #[.int .i64 aT, .int .i64 aB], .agg #[.int .i64 bT, .int .i64 bB]] w fun e w'=>e= .returned (.int .i64 (cmpF (vB aT aB&&vB bT bB) (aT*bB) (bT*aB)))∧Below w.heap.size w w':=by
 by_cases ha:vB aT aB=true
 ·by_cases hb:vB bT bB=true
  ·rw [ha,hb,show cmpF (true&&true) (aT*bB) (bT*aB)=cmpI (aT*bB) (bT*aB) from rfl]
   obtain ⟨a1,a2,a3,a4⟩:=vB_bd ha
   obtain ⟨b1,b2,b3,b4⟩:=vB_bd hb
   have HA:=zz ha;have HB:=zz hb;clear ha hb
   have m1:=mul_15 a1 a2 b3 b4
   have m2:=mul_15 b1 b2 a3 a4
   go_enter Tryz.func191,Tryz.ntmps191
   go_wp2_with fail
   refine (valid_method _ _ _).mono ?_
   rintro e w1 ⟨rfl,hb1⟩
   have HH1:Hid (Held2 w1 w.heap.size aT aB bT bB):=Held2.keep (by refine ⟨?_, ?_, ?_, ?_⟩<;>simp [go_sem]) hb1
   have HB1:=zz ((((Below.refl _ w).alloc (Nat.le_refl _) _).alloc (by simp) _).trans (hb1.mono (by first|(simp;done)|(simp;omega))));clear hb1
   obtain ⟨z11,z12,z13,z14⟩:=HH1.out
   rw [HA.out]
   go_wp2_with fail
   refine (valid_method _ _ _).mono ?_
   rintro e w2 ⟨rfl,hb2⟩
   have HH2:=zz (HH1.out.keep hb2)
   have HB2:=zz (HB1.out.trans (hb2.mono HB1.out.size));clear hb2 HB1 HH1 z11 z12 z13 z14
   obtain ⟨z21,z22,z23,z24⟩:=HH2.out
   rw [HB.out]
   go_wp2_with fail
   refine (compareI _ _ _).mono ?_
   rintro e w' ⟨rfl,rfl⟩
   go_wp2
   go_ret
   exact ⟨rfl,HB2.out⟩
  ·have hb':=Bool.eq_false_iff.mpr hb
   rw [ha,hb',show cmpF (true&&false) (aT*bB) (bT*aB)=2 from rfl]
   have HA:=zz ha;have HB:=zz hb';clear ha hb hb'
   go_enter Tryz.func191,Tryz.ntmps191
   go_wp2_with fail
   refine (valid_method _ _ _).mono ?_
   rintro e w1 ⟨rfl,hb1⟩
   have HH1:Hid (Held2 w1 w.heap.size aT aB bT bB):=Held2.keep (by refine ⟨?_, ?_, ?_, ?_⟩<;>simp [go_sem]) hb1
   have HB1:=zz ((((Below.refl _ w).alloc (Nat.le_refl _) _).alloc (by simp) _).trans (hb1.mono (by first|(simp;done)|(simp;omega))));clear hb1
   obtain ⟨z11,z12,z13,z14⟩:=HH1.out
   rw [HA.out]
   go_wp2_with fail
   refine (valid_method _ _ _).mono ?_
   rintro e w2 ⟨rfl,hb2⟩
   have HH2:=zz (HH1.out.keep hb2)
   have HB2:=zz (HB1.out.trans (hb2.mono HB1.out.size));clear hb2 HB1 HH1 z11 z12 z13 z14
   obtain ⟨z21,z22,z23,z24⟩:=HH2.out
   rw [HB.out]
   go_wp2
   go_ret
   exact ⟨rfl,HB2.out⟩
 ·have ha':=Bool.eq_false_iff.mpr ha
  rw [ha',show cmpF (false&&vB bT bB) (aT*bB) (bT*aB)=2 from rfl]
  have HA:=zz ha';clear ha ha'
  go_enter Tryz.func191,Tryz.ntmps191
  go_wp2_with fail
  refine (valid_method _ _ _).mono ?_
  rintro e w1 ⟨rfl,hb1⟩
  have HH1:Hid (Held2 w1 w.heap.size aT aB bT bB):=Held2.keep (by refine ⟨?_, ?_, ?_, ?_⟩<;>simp [go_sem]) hb1
  have HB1:=zz ((((Below.refl _ w).alloc (Nat.le_refl _) _).alloc (by simp) _).trans (hb1.mono (by first|(simp;done)|(simp;omega))));clear hb1
  obtain ⟨z11,z12,z13,z14⟩:=HH1.out
  rw [HA.out]
  go_wp2
  go_ret
  exact ⟨rfl,HB1.out⟩
def Fr2 (w:World) (B:Nat) (x y:Int):Prop:=w.cell? ⟨B,0,none⟩=some (.int .i64 x)∧w.cell? ⟨B,1,none⟩=some (.int .i64 y)∧w.frozen? ⟨B,0,none⟩=false∧w.frozen? ⟨B,1,none⟩=false∧B<w.heap.size
theorem Fr2.keep {W w1:World} {B:Nat} {x y:Int} (h:Fr2 W B x y) (hb:Below W.heap.size W w1):Fr2 w1 B x y:=by
 obtain ⟨h1,h2,h3,h4,h5⟩:=h
 obtain ⟨hc,hf⟩:=bcell hb
 have hs:=hb.size
 exact ⟨(hc _ _ (by omega)).trans h1,(hc _ _ (by omega)).trans h2,(hf _ _ (by omega)).trans h3,(hf _ _ (by omega)).trans h4,by omega⟩
theorem Fr2.set {W:World} {B:Nat} {x y:Int} (h:Fr2 W B x y) (x' y':Int):Fr2 ((W.setCell ⟨B,0,none⟩ (.int .i64 x')).setCell ⟨B,1,none⟩ (.int .i64 y')) B x' y':=by
 obtain ⟨h1,h2,h3,h4,h5⟩:=h
 refine ⟨?_, ?_, ?_, ?_, ?_⟩<;>simp [go_sem,h1,h2,h3,h4,h5]
theorem Fr2.far {W:World} {B C:Nat} {x y:Int} (h:Fr2 W B x y) (hne:B≠C) (x' y':Int):Fr2 ((W.setCell ⟨C,0,none⟩ (.int .i64 x')).setCell ⟨C,1,none⟩ (.int .i64 y')) B x y:=by
 obtain ⟨h1,h2,h3,h4,h5⟩:=h
 exact ⟨by simp [go_sem,h1],by simp [go_sem,h2],by simp [go_sem,h3],by simp [go_sem,h4],by simp [go_sem,h5]⟩
theorem Fr2.setc {W:World} {B g:Nat} {x y:Int} (h:Fr2 W B x y) (hne:B≠g) (j:Nat) (u:Value):Fr2 (W.setCell ⟨g,j,none⟩ u) B x y:=by
 obtain ⟨h1,h2,h3,h4,h5⟩:=h
 have hb:=Below.heap_setCell W ⟨g,j,none⟩ u B hne
 have hc: ∀o,(W.setCell ⟨g,j,none⟩ u).cell? ⟨B,o,none⟩=W.cell? ⟨B,o,none⟩:=fun o=>by simp only [World.cell?,hb]
 have hf: ∀o,(W.setCell ⟨g,j,none⟩ u).frozen? ⟨B,o,none⟩=W.frozen? ⟨B,o,none⟩:=fun o=>by simp only [World.frozen?,hb]
 exact ⟨(hc 0).trans h1,(hc 1).trans h2,(hf 0).trans h3,(hf 1).trans h4,by simpa [World.setCell] using h5⟩
theorem Fr2.al {W:World} {B:Nat} {x y:Int} (h:Fr2 W B x y) (o:Obj):Fr2 (W.alloc o) B x y:=h.keep ((Below.refl _ W).alloc (Nat.le_refl _) _)
theorem Fr2.new (W:World) (x y:Int) (t:TypeId):Fr2 (W.alloc (.cells #[.int .i64 x, .int .i64 y] t)) W.heap.size x y:=by
 refine ⟨?_, ?_, ?_, ?_, ?_⟩<;>simp [go_sem]
end Go.Proofs.YthillfgjpalpcaaGreatDoor
