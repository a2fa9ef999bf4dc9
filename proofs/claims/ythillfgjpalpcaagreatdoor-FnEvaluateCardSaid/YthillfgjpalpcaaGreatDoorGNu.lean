/-
  Several texts of the proof in one file: NumI, ConcI.
-/
import Derived.Test.YthillfgjpalpcaaGreatDoorGEn
import Derived.Test.YthillfgjpalpcaaGreatDoorBin
import Derived.Laws.AppendOwnNone
set_option linter.unusedVariables false
set_option maxHeartbeats 4000000
set_option maxRecDepth 100000
namespace Go.Proofs.YthillfgjpalpcaaGreatDoor
open Go.RowKit
noncomputable def numK (k xt xb yt yb:Int):Option (List Cl):=
 if k=3 then numO (mkOK (xt*yb+yt*xb) (xb*yb)) (mkT (xt*yb+yt*xb) (xb*yb)) (mkB (xt*yb+yt*xb) (xb*yb))
 else if k=4 then numO (mkOK (xt*yb+ -yt*xb) (xb*yb)) (mkT (xt*yb+ -yt*xb) (xb*yb)) (mkB (xt*yb+ -yt*xb) (xb*yb))
 else if k=5 then numO (mkOK (xt*yt) (xb*yb)) (mkT (xt*yt) (xb*yb)) (mkB (xt*yt) (xb*yb))
 else if k=6 then numO (decide (yt≠0)&&mkOK (divT xt yt yb) (divB xb yt)) (mkT (divT xt yt yb) (divB xb yt)) (mkB (divT xt yt yb) (divB xb yt))
 else if k=7 then (if xb=1∧yb=1∧0<yt then some (numV (xt % yt) 1) else none)
 else some (truV (decide (k=8∧cmpI (xt*yb) (yt*xb)<0∨k=9∧cmpI (xt*yb) (yt*xb)≤0∨k=10∧0<cmpI (xt*yb) (yt*xb)∨k=11∧0≤cmpI (xt*yb) (yt*xb))))
theorem binK_numK {k:Int} {a b:List Cl} (hk:3≤k) (h1:kdV a=1) (h2:kdV b=1):binK k a b=numK k (aT a) (aB a) (aT b) (aB b):=binK_num hk h1 h2
theorem mk_vB {t b:Int} (h:mkOK t b=true):vB (mkT t b) (mkB t b)=true:=by rw [mkT,mkB,if_pos h,if_pos h];exact h
def CalD (o:Option (List Cl)) (w:World) (e:Ending) (w':World):Prop:= ∃T B ok,e=fr T B ok∧Below w.heap.size w w'∧o=numO ok T B∧(ok=true→vB T B=true)
theorem rest_no1 (xt xb yt yb:Int) (w:World) (v1:vB xt xb=true) (v2:vB yt yb=true) (hq: ¬xb=1):
  Calls Tryz.prog 221 #[.agg #[.int .i64 xt, .int .i64 xb], .agg #[.int .i64 yt, .int .i64 yb]] w fun e w'=>e=fr 0 0 false∧Below w.heap.size w w':=by
 obtain ⟨x1,x2,x3,x4⟩:=vB_bd v1
 obtain ⟨y1,y2,y3,y4⟩:=vB_bd v2
 clear v1 v2
 have q1:(xb !=1)=true:=bne_iff_ne.mpr hq
 go_enter Tryz.func221,Tryz.ntmps221
 go_wp2
 exact bodyPost_ret (v:= .tuple #[.agg #[.int .i64 0, .int .i64 0], .bool false]) (by simp [results,Tryz.results221,go_sem]) rfl ⟨rfl,(((Below.refl _ w).alloc (Nat.le_refl _) _).alloc (by simp) _).alloc (by first|(simp;done)|(simp;omega)) _⟩
theorem rest_no2 (xt yt yb:Int) (w:World) (v1:vB xt 1=true) (v2:vB yt yb=true) (hr: ¬yb=1):
  Calls Tryz.prog 221 #[.agg #[.int .i64 xt, .int .i64 1], .agg #[.int .i64 yt, .int .i64 yb]] w fun e w'=>e=fr 0 0 false∧Below w.heap.size w w':=by
 obtain ⟨x1,x2,x3,x4⟩:=vB_bd v1
 obtain ⟨y1,y2,y3,y4⟩:=vB_bd v2
 clear v1 v2
 have q2:(yb !=1)=true:=bne_iff_ne.mpr hr
 go_enter Tryz.func221,Tryz.ntmps221
 go_wp2
 exact bodyPost_ret (v:= .tuple #[.agg #[.int .i64 0, .int .i64 0], .bool false]) (by simp [results,Tryz.results221,go_sem]) rfl ⟨rfl,(((Below.refl _ w).alloc (Nat.le_refl _) _).alloc (by simp) _).alloc (by first|(simp;done)|(simp;omega)) _⟩
theorem rest_no3 (xt yt:Int) (w:World) (v1:vB xt 1=true) (v2:vB yt 1=true) (hs: ¬0<yt):
  Calls Tryz.prog 221 #[.agg #[.int .i64 xt, .int .i64 1], .agg #[.int .i64 yt, .int .i64 1]] w fun e w'=>e=fr 0 0 false∧Below w.heap.size w w':=by
 obtain ⟨x1,x2,x3,x4⟩:=vB_bd v1
 obtain ⟨y1,y2,y3,y4⟩:=vB_bd v2
 clear v1 v2
 have q3:yt≤0:=by omega
 go_enter Tryz.func221,Tryz.ntmps221
 go_wp2
 exact bodyPost_ret (v:= .tuple #[.agg #[.int .i64 0, .int .i64 0], .bool false]) (by simp [results,Tryz.results221,go_sem]) rfl ⟨rfl,(((Below.refl _ w).alloc (Nat.le_refl _) _).alloc (by simp) _).alloc (by first|(simp;done)|(simp;omega)) _⟩
theorem rest_neg (xt yt:Int) (w:World) (v1:vB xt 1=true) (v2:vB yt 1=true) (hs:0<yt) (hn:xt.tmod yt<0):
  Calls Tryz.prog 221 #[.agg #[.int .i64 xt, .int .i64 1], .agg #[.int .i64 yt, .int .i64 1]] w fun e w'=>e=fr (xt % yt) 1 true∧Below w.heap.size w w':=by
 obtain ⟨x1,x2,x3,x4⟩:=vB_bd v1
 obtain ⟨y1,y2,y3,y4⟩:=vB_bd v2
 clear v1 v2
 obtain ⟨m1,m2,m3,m4⟩:=tmod_mod (x:=xt) hs
 have M:=zz (m1 hn)
 have q3:(yt==0)=false:=beq_eq_false_iff_ne.mpr (by omega)
 have q4: ¬yt≤0:=by omega
 clear m1 m2
 rw [M.out]
 go_enter Tryz.func221,Tryz.ntmps221
 go_wp2
 exact bodyPost_ret (v:= .tuple #[.agg #[.int .i64 (xt.tmod yt+yt), .int .i64 1], .bool true]) (by simp [results,Tryz.results221,go_sem]) rfl ⟨rfl,(((Below.refl _ w).alloc (Nat.le_refl _) _).alloc (by simp) _).alloc (by first|(simp;done)|(simp;omega)) _⟩
theorem rest_pos (xt yt:Int) (w:World) (v1:vB xt 1=true) (v2:vB yt 1=true) (hs:0<yt) (hn: ¬xt.tmod yt<0):
  Calls Tryz.prog 221 #[.agg #[.int .i64 xt, .int .i64 1], .agg #[.int .i64 yt, .int .i64 1]] w fun e w'=>e=fr (xt % yt) 1 true∧Below w.heap.size w w':=by
 obtain ⟨x1,x2,x3,x4⟩:=vB_bd v1
 obtain ⟨y1,y2,y3,y4⟩:=vB_bd v2
 clear v1 v2
 obtain ⟨m1,m2,m3,m4⟩:=tmod_mod (x:=xt) hs
 have M:=zz (m2 hn)
 have q3:(yt==0)=false:=beq_eq_false_iff_ne.mpr (by omega)
 have q4: ¬yt≤0:=by omega
 clear m1 m2
 rw [M.out]
 go_enter Tryz.func221,Tryz.ntmps221
 go_wp2
 exact bodyPost_ret (v:= .tuple #[.agg #[.int .i64 (xt.tmod yt), .int .i64 1], .bool true]) (by simp [results,Tryz.results221,go_sem]) rfl ⟨rfl,(((Below.refl _ w).alloc (Nat.le_refl _) _).alloc (by simp) _).alloc (by first|(simp;done)|(simp;omega)) _⟩
theorem rest_any (xt xb yt yb:Int) (w:World) (v1:vB xt xb=true) (v2:vB yt yb=true):
  Calls Tryz.prog 221 #[.agg #[.int .i64 xt, .int .i64 xb], .agg #[.int .i64 yt, .int .i64 yb]] w (CalD (numK 7 xt xb yt yb) w):=by
 have e7:numK 7 xt xb yt yb=if xb=1∧yb=1∧0<yt then some (numV (xt % yt) 1) else none:=rfl
 rw [e7]
 by_cases hq:xb=1
 ·subst hq
  by_cases hr:yb=1
  ·subst hr
   by_cases hs:0<yt
   ·rw [if_pos ⟨rfl,rfl,hs⟩]
    obtain ⟨y1,y2,y3,y4⟩:=vB_bd v2
    have hv:vB (xt % yt) 1=true:=vB_one (by have:=Int.emod_nonneg xt (show yt≠0 by omega);omega) (by have:=Int.emod_lt_of_pos xt hs;omega)
    by_cases hn:xt.tmod yt<0
    ·exact (rest_neg xt yt w v1 v2 hs hn).mono fun e w' h=>⟨_,_,_,h.1,h.2,rfl,fun _=>hv⟩
    ·exact (rest_pos xt yt w v1 v2 hs hn).mono fun e w' h=>⟨_,_,_,h.1,h.2,rfl,fun _=>hv⟩
   ·rw [if_neg (fun h=>hs h.2.2)]
    exact (rest_no3 xt yt w v1 v2 hs).mono fun e w' h=>⟨_,_,_,h.1,h.2,rfl,fun h=>(by cases h)⟩
  ·rw [if_neg (fun h=>hr h.2.1)]
   exact (rest_no2 xt yt yb w v1 v2 hr).mono fun e w' h=>⟨_,_,_,h.1,h.2,rfl,fun h=>(by cases h)⟩
 ·rw [if_neg (fun h=>hq h.1)]
  exact (rest_no1 xt xb yt yb w v1 v2 hq).mono fun e w' h=>⟨_,_,_,h.1,h.2,rfl,fun h=>(by cases h)⟩
theorem add_cal (xt xb yt yb:Int) (w:World) (v1:vB xt xb=true) (v2:vB yt yb=true):
  Calls Tryz.prog 218 #[.agg #[.int .i64 xt, .int .i64 xb], .agg #[.int .i64 yt, .int .i64 yb]] w (CalD (numK 3 xt xb yt yb) w):=by
 refine (add_impl xt xb yt yb w).mono fun e w' h=> ?_
 rw [v1,v2,show (true&&true)=true from rfl,(op_true _ _).1,(op_true _ _).2.1,(op_true _ _).2.2] at h
 exact ⟨_,_,_,h.1,h.2,rfl,mk_vB⟩
theorem sub_cal (xt xb yt yb:Int) (w:World) (v1:vB xt xb=true) (v2:vB yt yb=true):
  Calls Tryz.prog 218 #[.agg #[.int .i64 xt, .int .i64 xb], .agg #[.int .i64 (-yt), .int .i64 yb]] w (CalD (numK 4 xt xb yt yb) w):=by
 refine (add_impl xt xb (-yt) yb w).mono fun e w' h=> ?_
 rw [v1,vBE_neg v2,show (true&&true)=true from rfl,(op_true _ _).1,(op_true _ _).2.1,(op_true _ _).2.2] at h
 exact ⟨_,_,_,h.1,h.2,rfl,mk_vB⟩
theorem mul_cal (xt xb yt yb:Int) (w:World) (v1:vB xt xb=true) (v2:vB yt yb=true):
  Calls Tryz.prog 219 #[.agg #[.int .i64 xt, .int .i64 xb], .agg #[.int .i64 yt, .int .i64 yb]] w (CalD (numK 5 xt xb yt yb) w):=by
 refine (mul_impl xt xb yt yb w).mono fun e w' h=> ?_
 rw [v1,v2,show (true&&true)=true from rfl,(op_true _ _).1,(op_true _ _).2.1,(op_true _ _).2.2] at h
 exact ⟨_,_,_,h.1,h.2,rfl,mk_vB⟩
theorem div_cal (xt xb yt yb:Int) (w:World) (v1:vB xt xb=true) (v2:vB yt yb=true):
  Calls Tryz.prog 220 #[.agg #[.int .i64 xt, .int .i64 xb], .agg #[.int .i64 yt, .int .i64 yb]] w (CalD (numK 6 xt xb yt yb) w):=by
 refine (div_impl xt xb yt yb w).mono fun e w' h=> ?_
 have e6:numK 6 xt xb yt yb=numO (decide (yt≠0)&&mkOK (divT xt yt yb) (divB xb yt)) (mkT (divT xt yt yb) (divB xb yt)) (mkB (divT xt yt yb) (divB xb yt)):=rfl
 rw [e6]
 by_cases h0:yt=0
 ·rw [v1,v2,show (yt !=0)=false by simp [h0],show (true&&true&&false)=false from rfl,(op_false _ _).1,(op_false _ _).2.1,(op_false _ _).2.2] at h
  exact ⟨_,_,_,h.1,h.2,by simp [numO,h0],fun h=>by cases h⟩
 ·rw [v1,v2,show (yt !=0)=true by simp [h0],show (true&&true&&true)=true from rfl,(op_true _ _).1,(op_true _ _).2.1,(op_true _ _).2.2] at h
  exact ⟨_,_,_,h.1,h.2,by rw [decide_eq_true h0,Bool.true_and],mk_vB⟩
theorem calculated_3 (s:ByteArray) (xt xb yt yb:Int) (w:World) (v1:vB xt xb=true) (v2:vB yt yb=true) (hs:s.toList=[43]):
  Calls Tryz.prog 192 #[.string s, .agg #[.int .i64 xt, .int .i64 xb], .agg #[.int .i64 yt, .int .i64 yb]] w (CalD (numK 3 xt xb yt yb) w):=by
 have e4: ¬s.toList=[45]:=by rw [hs];decide
 have e5: ¬s.toList=[42]:=by rw [hs];decide
 have e6: ¬s.toList=[47]:=by rw [hs];decide
 have e7: ¬s.toList=[37]:=by rw [hs];decide
 have HC:=zz (fun w'=>add_cal xt xb yt yb w' v1 v2)
 obtain ⟨b1,b2,b3,b4⟩:=vB_bd v2
 have HB0:=zz ((((Below.refl _ w).alloc (Nat.le_refl _) (.cells #[.int .i64 xt, .int .i64 xb] 94)).alloc (by simp) (.cells #[.int .i64 yt, .int .i64 yb] 94)).alloc (by simp;omega) (.cells #[.int .i64 0, .int .i64 0] 94))
 clear v1 v2
 go_enter Tryz.func192,Tryz.ntmps192
 go_wp2_with fail
 refine (HC.out _).mono ?_
 rintro e w1 ⟨T,B,ok,rfl,hb1,ho,hv⟩
 obtain ⟨y0,y1,y2,y3,y4,y5,y6,y7,y8⟩:Held3 w1 w.heap.size xt xb yt yb:=Held3.keep (by refine ⟨?_, ?_, ?_, ?_, ?_, ?_, ?_, ?_, ?_⟩<;>simp [go_sem]) hb1
 have HB1:=zz (HB0.out.trans (hb1.mono (by first|(simp;done)|(simp;omega))));have HO:=zz ho;have HV:=zz hv
 clear hb1 ho hv
 go_wp2
 exact bodyPost_ret (v:= .tuple #[.agg #[.int .i64 T, .int .i64 B], .bool ok]) (by simp [results,Tryz.results192,go_sem,y5,y6]) rfl ⟨T,B,ok,rfl,HB1.out.setCell (by first|(simp;done)|(simp;omega)) _|>.setCell (by first|(simp;done)|(simp;omega)) _,HO.out,HV.out⟩
theorem calculated_4 (s:ByteArray) (xt xb yt yb:Int) (w:World) (v1:vB xt xb=true) (v2:vB yt yb=true) (hs:s.toList=[45]):
  Calls Tryz.prog 192 #[.string s, .agg #[.int .i64 xt, .int .i64 xb], .agg #[.int .i64 yt, .int .i64 yb]] w (CalD (numK 4 xt xb yt yb) w):=by
 have e3: ¬s.toList=[43]:=by rw [hs];decide
 have e5: ¬s.toList=[42]:=by rw [hs];decide
 have e6: ¬s.toList=[47]:=by rw [hs];decide
 have e7: ¬s.toList=[37]:=by rw [hs];decide
 have HC:=zz (fun w'=>sub_cal xt xb yt yb w' v1 v2)
 obtain ⟨b1,b2,b3,b4⟩:=vB_bd v2
 have HB0:=zz ((((Below.refl _ w).alloc (Nat.le_refl _) (.cells #[.int .i64 xt, .int .i64 xb] 94)).alloc (by simp) (.cells #[.int .i64 yt, .int .i64 yb] 94)).alloc (by simp;omega) (.cells #[.int .i64 0, .int .i64 0] 94))
 clear v1 v2
 go_enter Tryz.func192,Tryz.ntmps192
 have ne1:w.heap.size+1+1≠w.heap.size:=by omega
 have ne2:w.heap.size≠w.heap.size+1+1:=by omega
 go_wp2_with fail
 obtain ⟨z20,z21,z22,z23,z24,z25,z26,z27,z28⟩:Held3 (((w.alloc (.cells #[.int .i64 xt, .int .i64 xb] 94)).alloc (.cells #[.int .i64 yt, .int .i64 yb] 94)).alloc (.cells #[.int .i64 0, .int .i64 0] 94)) w.heap.size xt xb yt yb:=(by refine ⟨?_, ?_, ?_, ?_, ?_, ?_, ?_, ?_, ?_⟩<;>simp [go_sem])
 generalize ((w.alloc (.cells #[.int .i64 xt, .int .i64 xb] 94)).alloc (.cells #[.int .i64 yt, .int .i64 yb] 94)).alloc (.cells #[.int .i64 0, .int .i64 0] 94)=w2 at HB0 z20 z21 z22 z23 z24 z25 z26 z27 z28⊢
 go_region_held3 (fun w'=>w'.cell? ⟨w.heap.size,0,none⟩=some (.int .i64 xt)∧w'.cell? ⟨w.heap.size,1,none⟩=some (.int .i64 xb)∧w'.cell? ⟨w.heap.size+1,0,none⟩=some (.int .i64 yt)∧w'.cell? ⟨w.heap.size+1,1,none⟩=some (.int .i64 yb))
  (first
   |go_keep
   |(go_split_ands;exact kept4 hb4 (by assumption) (by assumption) (by assumption) (by assumption))
   |(go_split_ands;exact kept4 hb3 (by assumption) (by assumption) (by assumption) (by assumption)))
  (first
   |(go_at_call 142;refine (opposite_any yt yb _ (by omega) (by omega)).mono ?_;rintro e w3 ⟨rfl,hb3⟩;obtain ⟨z35,z36,z37,z38⟩:=keptR hb3 (by exact z25) (by exact z26) (by exact z27) (by exact z28))
   |(go_at_call 218;refine (HC.out _).mono ?_;rintro e w4 ⟨T,B,ok,rfl,hb4,ho,hv⟩;obtain ⟨y5,y6,y7,y8⟩:=keptR hb4 (by exact z35) (by exact z36) (by exact z37) (by exact z38)))
 have HB1:=zz ((HB0.out.drew.trans (hb3.mono HB0.out.size)).trans (hb4.mono (Nat.le_trans HB0.out.size hb3.size)));have HO:=zz ho;have HV:=zz hv
 clear hb3 hb4 ho hv
 go_wp2
 exact bodyPost_ret (v:= .tuple #[.agg #[.int .i64 T, .int .i64 B], .bool ok]) (by simp [results,Tryz.results192,go_sem,y5,y6]) rfl ⟨T,B,ok,rfl,HB1.out.setCell (by first|(simp;done)|(simp;omega)) _|>.setCell (by first|(simp;done)|(simp;omega)) _,HO.out,HV.out⟩
theorem calculated_5 (s:ByteArray) (xt xb yt yb:Int) (w:World) (v1:vB xt xb=true) (v2:vB yt yb=true) (hs:s.toList=[42]):
  Calls Tryz.prog 192 #[.string s, .agg #[.int .i64 xt, .int .i64 xb], .agg #[.int .i64 yt, .int .i64 yb]] w (CalD (numK 5 xt xb yt yb) w):=by
 have e3: ¬s.toList=[43]:=by rw [hs];decide
 have e4: ¬s.toList=[45]:=by rw [hs];decide
 have e6: ¬s.toList=[47]:=by rw [hs];decide
 have e7: ¬s.toList=[37]:=by rw [hs];decide
 have HC:=zz (fun w'=>mul_cal xt xb yt yb w' v1 v2)
 obtain ⟨b1,b2,b3,b4⟩:=vB_bd v2
 have HB0:=zz ((((Below.refl _ w).alloc (Nat.le_refl _) (.cells #[.int .i64 xt, .int .i64 xb] 94)).alloc (by simp) (.cells #[.int .i64 yt, .int .i64 yb] 94)).alloc (by simp;omega) (.cells #[.int .i64 0, .int .i64 0] 94))
 clear v1 v2
 go_enter Tryz.func192,Tryz.ntmps192
 go_wp2_with fail
 refine (HC.out _).mono ?_
 rintro e w1 ⟨T,B,ok,rfl,hb1,ho,hv⟩
 obtain ⟨y0,y1,y2,y3,y4,y5,y6,y7,y8⟩:Held3 w1 w.heap.size xt xb yt yb:=Held3.keep (by refine ⟨?_, ?_, ?_, ?_, ?_, ?_, ?_, ?_, ?_⟩<;>simp [go_sem]) hb1
 have HB1:=zz (HB0.out.trans (hb1.mono (by first|(simp;done)|(simp;omega))));have HO:=zz ho;have HV:=zz hv
 clear hb1 ho hv
 go_wp2
 exact bodyPost_ret (v:= .tuple #[.agg #[.int .i64 T, .int .i64 B], .bool ok]) (by simp [results,Tryz.results192,go_sem,y5,y6]) rfl ⟨T,B,ok,rfl,HB1.out.setCell (by first|(simp;done)|(simp;omega)) _|>.setCell (by first|(simp;done)|(simp;omega)) _,HO.out,HV.out⟩
theorem calculated_6 (s:ByteArray) (xt xb yt yb:Int) (w:World) (v1:vB xt xb=true) (v2:vB yt yb=true) (hs:s.toList=[47]):
  Calls Tryz.prog 192 #[.string s, .agg #[.int .i64 xt, .int .i64 xb], .agg #[.int .i64 yt, .int .i64 yb]] w (CalD (numK 6 xt xb yt yb) w):=by
 have e3: ¬s.toList=[43]:=by rw [hs];decide
 have e4: ¬s.toList=[45]:=by rw [hs];decide
 have e5: ¬s.toList=[42]:=by rw [hs];decide
 have e7: ¬s.toList=[37]:=by rw [hs];decide
 have HC:=zz (fun w'=>div_cal xt xb yt yb w' v1 v2)
 obtain ⟨b1,b2,b3,b4⟩:=vB_bd v2
 have HB0:=zz ((((Below.refl _ w).alloc (Nat.le_refl _) (.cells #[.int .i64 xt, .int .i64 xb] 94)).alloc (by simp) (.cells #[.int .i64 yt, .int .i64 yb] 94)).alloc (by simp;omega) (.cells #[.int .i64 0, .int .i64 0] 94))
 clear v1 v2
 go_enter Tryz.func192,Tryz.ntmps192
 go_wp2_with fail
 refine (HC.out _).mono ?_
 rintro e w1 ⟨T,B,ok,rfl,hb1,ho,hv⟩
 obtain ⟨y0,y1,y2,y3,y4,y5,y6,y7,y8⟩:Held3 w1 w.heap.size xt xb yt yb:=Held3.keep (by refine ⟨?_, ?_, ?_, ?_, ?_, ?_, ?_, ?_, ?_⟩<;>simp [go_sem]) hb1
 have HB1:=zz (HB0.out.trans (hb1.mono (by first|(simp;done)|(simp;omega))));have HO:=zz ho;have HV:=zz hv
 clear hb1 ho hv
 go_wp2
 exact bodyPost_ret (v:= .tuple #[.agg #[.int .i64 T, .int .i64 B], .bool ok]) (by simp [results,Tryz.results192,go_sem,y5,y6]) rfl ⟨T,B,ok,rfl,HB1.out.setCell (by first|(simp;done)|(simp;omega)) _|>.setCell (by first|(simp;done)|(simp;omega)) _,HO.out,HV.out⟩
theorem calculated_7 (s:ByteArray) (xt xb yt yb:Int) (w:World) (v1:vB xt xb=true) (v2:vB yt yb=true) (hs:s.toList=[37]):
  Calls Tryz.prog 192 #[.string s, .agg #[.int .i64 xt, .int .i64 xb], .agg #[.int .i64 yt, .int .i64 yb]] w (CalD (numK 7 xt xb yt yb) w):=by
 have e3: ¬s.toList=[43]:=by rw [hs];decide
 have e4: ¬s.toList=[45]:=by rw [hs];decide
 have e5: ¬s.toList=[42]:=by rw [hs];decide
 have e6: ¬s.toList=[47]:=by rw [hs];decide
 have HC:=zz (fun w'=>rest_any xt xb yt yb w' v1 v2)
 obtain ⟨b1,b2,b3,b4⟩:=vB_bd v2
 have HB0:=zz ((((Below.refl _ w).alloc (Nat.le_refl _) (.cells #[.int .i64 xt, .int .i64 xb] 94)).alloc (by simp) (.cells #[.int .i64 yt, .int .i64 yb] 94)).alloc (by simp;omega) (.cells #[.int .i64 0, .int .i64 0] 94))
 clear v1 v2
 go_enter Tryz.func192,Tryz.ntmps192
 go_wp2_with fail
 refine (HC.out _).mono ?_
 rintro e w1 ⟨T,B,ok,rfl,hb1,ho,hv⟩
 obtain ⟨y0,y1,y2,y3,y4,y5,y6,y7,y8⟩:Held3 w1 w.heap.size xt xb yt yb:=Held3.keep (by refine ⟨?_, ?_, ?_, ?_, ?_, ?_, ?_, ?_, ?_⟩<;>simp [go_sem]) hb1
 have HB1:=zz (HB0.out.trans (hb1.mono (by first|(simp;done)|(simp;omega))));have HO:=zz ho;have HV:=zz hv
 clear hb1 ho hv
 go_wp2
 exact bodyPost_ret (v:= .tuple #[.agg #[.int .i64 T, .int .i64 B], .bool ok]) (by simp [results,Tryz.results192,go_sem,y5,y6]) rfl ⟨T,B,ok,rfl,HB1.out.setCell (by first|(simp;done)|(simp;omega)) _|>.setCell (by first|(simp;done)|(simp;omega)) _,HO.out,HV.out⟩
theorem number_8 {S:Nat→Prop} (s:ByteArray) (xt xb yt yb:Int) (w:World) (v1:vB xt xb=true) (v2:vB yt yb=true) (hs:s.toList=[60]) (htab:Tab w):
  Calls Tryz.prog 162 #[.string s, .agg #[.int .i64 xt, .int .i64 xb], .agg #[.int .i64 yt, .int .i64 yb]] w (Res S (numK 8 xt xb yt yb) w):=by
 have e9: ¬s.toList=[60,61]:=by rw [hs];decide
 have e10: ¬s.toList=[62]:=by rw [hs];decide
 have e11: ¬s.toList=[62,61]:=by rw [hs];decide
 have HC:=zz (fun w'=>cmp_impl xt xb yt yb w')
 rw [v1,v2,show (true&&true)=true from rfl,show cmpF true (xt*yb) (yt*xb)=cmpI (xt*yb) (yt*xb) from rfl] at HC
 have h3:=cmpI_3 (xt*yb) (yt*xb)
 have HN:=zz (show∀c,cmpI (xt*yb) (yt*xb)=c→numK 8 xt xb yt yb=some (truV (decide (c<0))) from fun c hc=>by subst hc;simp [numK])
 have HN:=zz (HN.out _ rfl)
 have HBX:=zz (((Below.refl w.heap.size w).alloc (Nat.le_refl _) (.cells #[.int .i64 xt, .int .i64 xb] 94)).alloc (by simp) (.cells #[.int .i64 yt, .int .i64 yb] 94))
 generalize cmpI (xt*yb) (yt*xb)=c at HC h3 HN
 have HT:=zz htab
 have htru:=conc_truth
 clear v1 v2 htab
 go_enter Tryz.func162,Tryz.ntmps162
 go_wp2_with fail
 refine (HC.out _).mono ?_
 rintro e w1 ⟨rfl,hb1⟩
 have HB1:=zz (HBX.out.trans (hb1.mono HBX.out.size));clear hb1
 rcases h3 with rfl|rfl|rfl
 ·go_wp2
  go_ret
  exact Res.tru HB1.out (HT.out.keep HB1.out) _ HN.out
 ·go_wp2
  go_ret
  exact Res.tru HB1.out (HT.out.keep HB1.out) _ HN.out
 ·go_wp2
  go_ret
  exact Res.tru HB1.out (HT.out.keep HB1.out) _ HN.out
theorem number_9 {S:Nat→Prop} (s:ByteArray) (xt xb yt yb:Int) (w:World) (v1:vB xt xb=true) (v2:vB yt yb=true) (hs:s.toList=[60,61]) (htab:Tab w):
  Calls Tryz.prog 162 #[.string s, .agg #[.int .i64 xt, .int .i64 xb], .agg #[.int .i64 yt, .int .i64 yb]] w (Res S (numK 9 xt xb yt yb) w):=by
 have e8: ¬s.toList=[60]:=by rw [hs];decide
 have e10: ¬s.toList=[62]:=by rw [hs];decide
 have e11: ¬s.toList=[62,61]:=by rw [hs];decide
 have HC:=zz (fun w'=>cmp_impl xt xb yt yb w')
 rw [v1,v2,show (true&&true)=true from rfl,show cmpF true (xt*yb) (yt*xb)=cmpI (xt*yb) (yt*xb) from rfl] at HC
 have h3:=cmpI_3 (xt*yb) (yt*xb)
 have HN:=zz (show∀c,cmpI (xt*yb) (yt*xb)=c→numK 9 xt xb yt yb=some (truV (decide (c≤0))) from fun c hc=>by subst hc;simp [numK])
 have HN:=zz (HN.out _ rfl)
 have HBX:=zz (((Below.refl w.heap.size w).alloc (Nat.le_refl _) (.cells #[.int .i64 xt, .int .i64 xb] 94)).alloc (by simp) (.cells #[.int .i64 yt, .int .i64 yb] 94))
 generalize cmpI (xt*yb) (yt*xb)=c at HC h3 HN
 have HT:=zz htab
 have htru:=conc_truth
 clear v1 v2 htab
 go_enter Tryz.func162,Tryz.ntmps162
 go_wp2_with fail
 refine (HC.out _).mono ?_
 rintro e w1 ⟨rfl,hb1⟩
 have HB1:=zz (HBX.out.trans (hb1.mono HBX.out.size));clear hb1
 rcases h3 with rfl|rfl|rfl
 ·go_wp2
  go_ret
  exact Res.tru HB1.out (HT.out.keep HB1.out) _ HN.out
 ·go_wp2
  go_ret
  exact Res.tru HB1.out (HT.out.keep HB1.out) _ HN.out
 ·go_wp2
  go_ret
  exact Res.tru HB1.out (HT.out.keep HB1.out) _ HN.out
theorem number_10 {S:Nat→Prop} (s:ByteArray) (xt xb yt yb:Int) (w:World) (v1:vB xt xb=true) (v2:vB yt yb=true) (hs:s.toList=[62]) (htab:Tab w):
  Calls Tryz.prog 162 #[.string s, .agg #[.int .i64 xt, .int .i64 xb], .agg #[.int .i64 yt, .int .i64 yb]] w (Res S (numK 10 xt xb yt yb) w):=by
 have e8: ¬s.toList=[60]:=by rw [hs];decide
 have e9: ¬s.toList=[60,61]:=by rw [hs];decide
 have e11: ¬s.toList=[62,61]:=by rw [hs];decide
 have HC:=zz (fun w'=>cmp_impl xt xb yt yb w')
 rw [v1,v2,show (true&&true)=true from rfl,show cmpF true (xt*yb) (yt*xb)=cmpI (xt*yb) (yt*xb) from rfl] at HC
 have h3:=cmpI_3 (xt*yb) (yt*xb)
 have HN:=zz (show∀c,cmpI (xt*yb) (yt*xb)=c→numK 10 xt xb yt yb=some (truV (decide (0<c))) from fun c hc=>by subst hc;simp [numK])
 have HN:=zz (HN.out _ rfl)
 have HBX:=zz (((Below.refl w.heap.size w).alloc (Nat.le_refl _) (.cells #[.int .i64 xt, .int .i64 xb] 94)).alloc (by simp) (.cells #[.int .i64 yt, .int .i64 yb] 94))
 generalize cmpI (xt*yb) (yt*xb)=c at HC h3 HN
 have HT:=zz htab
 have htru:=conc_truth
 clear v1 v2 htab
 go_enter Tryz.func162,Tryz.ntmps162
 go_wp2_with fail
 refine (HC.out _).mono ?_
 rintro e w1 ⟨rfl,hb1⟩
 have HB1:=zz (HBX.out.trans (hb1.mono HBX.out.size));clear hb1
 rcases h3 with rfl|rfl|rfl
 ·go_wp2
  go_ret
  exact Res.tru HB1.out (HT.out.keep HB1.out) _ HN.out
 ·go_wp2
  go_ret
  exact Res.tru HB1.out (HT.out.keep HB1.out) _ HN.out
 ·go_wp2
  go_ret
  exact Res.tru HB1.out (HT.out.keep HB1.out) _ HN.out
theorem number_11 {S:Nat→Prop} (s:ByteArray) (xt xb yt yb:Int) (w:World) (v1:vB xt xb=true) (v2:vB yt yb=true) (hs:s.toList=[62,61]) (htab:Tab w):
  Calls Tryz.prog 162 #[.string s, .agg #[.int .i64 xt, .int .i64 xb], .agg #[.int .i64 yt, .int .i64 yb]] w (Res S (numK 11 xt xb yt yb) w):=by
 have e8: ¬s.toList=[60]:=by rw [hs];decide
 have e9: ¬s.toList=[60,61]:=by rw [hs];decide
 have e10: ¬s.toList=[62]:=by rw [hs];decide
 have HC:=zz (fun w'=>cmp_impl xt xb yt yb w')
 rw [v1,v2,show (true&&true)=true from rfl,show cmpF true (xt*yb) (yt*xb)=cmpI (xt*yb) (yt*xb) from rfl] at HC
 have h3:=cmpI_3 (xt*yb) (yt*xb)
 have HN:=zz (show∀c,cmpI (xt*yb) (yt*xb)=c→numK 11 xt xb yt yb=some (truV (decide (0≤c))) from fun c hc=>by subst hc;simp [numK])
 have HN:=zz (HN.out _ rfl)
 have HBX:=zz (((Below.refl w.heap.size w).alloc (Nat.le_refl _) (.cells #[.int .i64 xt, .int .i64 xb] 94)).alloc (by simp) (.cells #[.int .i64 yt, .int .i64 yb] 94))
 generalize cmpI (xt*yb) (yt*xb)=c at HC h3 HN
 have HT:=zz htab
 have htru:=conc_truth
 clear v1 v2 htab
 go_enter Tryz.func162,Tryz.ntmps162
 go_wp2_with fail
 refine (HC.out _).mono ?_
 rintro e w1 ⟨rfl,hb1⟩
 have HB1:=zz (HBX.out.trans (hb1.mono HBX.out.size));clear hb1
 rcases h3 with rfl|rfl|rfl
 ·go_wp2
  go_ret
  exact Res.tru HB1.out (HT.out.keep HB1.out) _ HN.out
 ·go_wp2
  go_ret
  exact Res.tru HB1.out (HT.out.keep HB1.out) _ HN.out
 ·go_wp2
  go_ret
  exact Res.tru HB1.out (HT.out.keep HB1.out) _ HN.out
theorem number_cal {S:Nat→Prop} (k:Int) (s:ByteArray) (xt xb yt yb:Int) (w:World) (v1:vB xt xb=true) (v2:vB yt yb=true) (e8: ¬s.toList=[60]) (e9: ¬s.toList=[60,61]) (e10: ¬s.toList=[62]) (e11: ¬s.toList=[62,61]) (htab:Tab w)
  (hc: ∀w',Calls Tryz.prog 192 #[.string s, .agg #[.int .i64 xt, .int .i64 xb], .agg #[.int .i64 yt, .int .i64 yb]] w' (CalD (numK k xt xb yt yb) w')):
  Calls Tryz.prog 162 #[.string s, .agg #[.int .i64 xt, .int .i64 xb], .agg #[.int .i64 yt, .int .i64 yb]] w (Res S (numK k xt xb yt yb) w):=by
 have HC:=zz (fun w'=>cmp_impl xt xb yt yb w')
 have HBX:=zz (((Below.refl w.heap.size w).alloc (Nat.le_refl _) (.cells #[.int .i64 xt, .int .i64 xb] 94)).alloc (by simp) (.cells #[.int .i64 yt, .int .i64 yb] 94))
 generalize cmpF (vB xt xb&&vB yt yb) (xt*yb) (yt*xb)=c at HC
 have HCC:=zz hc
 have e8b:(s.toList==[60])=false:=beq_eq_false_iff_ne.mpr e8
 have e9b:(s.toList==[60,61])=false:=beq_eq_false_iff_ne.mpr e9
 have e10b:(s.toList==[62])=false:=beq_eq_false_iff_ne.mpr e10
 have e11b:(s.toList==[62,61])=false:=beq_eq_false_iff_ne.mpr e11
 have HT:=zz htab
 have hnum:=conc_num
 clear v1 v2 hc htab e8 e9 e10 e11
 go_enter Tryz.func162,Tryz.ntmps162
 go_wp2_with fail
 refine (HC.out _).mono ?_
 rintro e w1 ⟨rfl,hb1⟩
 have HB1:=zz (HBX.out.trans (hb1.mono HBX.out.size))
 obtain ⟨z0,z1,z2,z3⟩:Held2 w1 w.heap.size xt xb yt yb:=Held2.keep (by refine ⟨?_, ?_, ?_, ?_⟩<;>simp [go_sem]) hb1
 clear hb1
 go_wp2_with fail
 refine (HCC.out _).mono ?_
 rintro e w2 ⟨T,B,ok,rfl,hb2,ho,hv⟩
 have HB2:=zz (HB1.out.trans (hb2.mono HB1.out.size))
 cases ok with
 |false=>
  have HN:=zz (show numK k xt xb yt yb=none by rw [ho];rfl)
  clear hb2 ho hv
  go_wp2
  go_ret
  exact Res.nil (by first|exact HB2.out|exact HB2.out.alloc HB2.out.size _) HN.out
 |true=>
  have HN:=zz (show numK k xt xb yt yb=some (numV T B) by rw [ho];rfl)
  have HV:=zz (hv rfl)
  have HT2:=zz (HT.out.keep HB2.out)
  clear hb2 ho hv
  go_wp2
  go_ret
  first|exact Res.num HB2.out HT2.out HV.out HN.out|exact Res.num (HB2.out.alloc HB2.out.size _) (HT2.out.al _) HV.out HN.out
theorem number_any {S:Nat→Prop} (k:Int) (s:ByteArray) (xt xb yt yb:Int) (w:World) (v1:vB xt xb=true) (v2:vB yt yb=true) (hk:signW s.data.toList=k) (h3:3≤k) (h11:k≤11) (htab:Tab w):
  Calls Tryz.prog 162 #[.string s, .agg #[.int .i64 xt, .int .i64 xb], .agg #[.int .i64 yt, .int .i64 yb]] w (Res S (numK k xt xb yt yb) w):=by
 have hl:s.toList=s.data.toList:=ByteArray.toList_eq ..
 obtain ⟨w1,w2,w3,w4,w5,w6,w7,w8,w9,w10,w11⟩:=signW_is hk
 by_cases k3:k=3
 ·subst k3
  have hs:=hl.trans (w3 rfl)
  exact number_cal 3 s xt xb yt yb w v1 v2 (by rw [hs];decide) (by rw [hs];decide) (by rw [hs];decide) (by rw [hs];decide) htab (fun w'=>calculated_3 s xt xb yt yb w' v1 v2 hs)
 by_cases k4:k=4
 ·subst k4
  have hs:=hl.trans (w4 rfl)
  exact number_cal 4 s xt xb yt yb w v1 v2 (by rw [hs];decide) (by rw [hs];decide) (by rw [hs];decide) (by rw [hs];decide) htab (fun w'=>calculated_4 s xt xb yt yb w' v1 v2 hs)
 by_cases k5:k=5
 ·subst k5
  have hs:=hl.trans (w5 rfl)
  exact number_cal 5 s xt xb yt yb w v1 v2 (by rw [hs];decide) (by rw [hs];decide) (by rw [hs];decide) (by rw [hs];decide) htab (fun w'=>calculated_5 s xt xb yt yb w' v1 v2 hs)
 by_cases k6:k=6
 ·subst k6
  have hs:=hl.trans (w6 rfl)
  exact number_cal 6 s xt xb yt yb w v1 v2 (by rw [hs];decide) (by rw [hs];decide) (by rw [hs];decide) (by rw [hs];decide) htab (fun w'=>calculated_6 s xt xb yt yb w' v1 v2 hs)
 by_cases k7:k=7
 ·subst k7
  have hs:=hl.trans (w7 rfl)
  exact number_cal 7 s xt xb yt yb w v1 v2 (by rw [hs];decide) (by rw [hs];decide) (by rw [hs];decide) (by rw [hs];decide) htab (fun w'=>calculated_7 s xt xb yt yb w' v1 v2 hs)
 by_cases k8:k=8
 ·subst k8
  exact number_8 s xt xb yt yb w v1 v2 (hl.trans (w8 rfl)) htab
 by_cases k9:k=9
 ·subst k9
  exact number_9 s xt xb yt yb w v1 v2 (hl.trans (w9 rfl)) htab
 by_cases k10:k=10
 ·subst k10
  exact number_10 s xt xb yt yb w v1 v2 (hl.trans (w10 rfl)) htab
 obtain rfl:k=11:=by omega
 exact number_11 s xt xb yt yb w v1 v2 (hl.trans (w11 rfl)) htab
theorem grow_nil (n:Nat) (w:World) (hn:n≤1000):
  Calls Tryz.prog 193 #[.slice none 0 0, .int .i64 (n:Int)] w fun e w'=> ∃v,e= .returned v∧w'.ownsRow w.heap.size 70 1 v 0 []∧Below w.heap.size w w':=by
 by_cases h0:n=0
 ·subst h0
  go_enter Tryz.func193,Tryz.ntmps193
  go_wp2
  go_ret
  exact ⟨_,rfl,World.ownsRow_nil _ _ _ _,Below.refl _ _⟩
 ·have hpos:(0:Int)<(n:Int):=by omega
  have hbt:Tryz.t70.bytes=16:=rfl
  have hnc:Builtin.nextslicecap n 0=n:=nextslicecap_zero (by omega)
  have hfit: ¬281474976710656<Builtin.nextslicecap n 0*Tryz.t70.bytes:=by rw [hnc,hbt];omega
  have hfit2:(n:Int)*((Tryz.t70.bytes:Nat):Int)≤281474976710656:=by rw [hbt];omega
  have hcap:n≤grownCap w n 0 70:=grownCap_ge w n 0 _
  have hcm:grownCap w n 0 70≤maxLen:=grownCap_le_maxLen w n 0 _ (by unfold maxLen;omega)
  have hcap63:grownCap w n 0 70≤9223372036854775807:=by unfold maxLen at hcm;exact hcm
  have HC:=zz hcap;have HCM:=zz hcm
  unfold grownCap at hcap hcap63
  clear hbt hnc hcm
  go_enter Tryz.func193,Tryz.ntmps193
  go_wp2
  go_ret
  refine ⟨_,rfl,⟨by simp, .inr ⟨w.heap.size,_,_,rfl,Nat.le_refl _,heap_alloc_new w _,Nat.zero_le _,HCM.out, ?_,by simp⟩⟩,((Below.refl _ w).alloc (Nat.le_refl _) _).drew⟩
  have:=HC.out
  unfold grownCap at this
  simp [Builtin.zeroCells]
  omega
theorem run_append_noneV {P:Program} {w:World} (base:Nat) (t ty e:TypeId) (i:TypeInfo) (size:Nat) (ht:P.underlying t=some (.slice e)) (hi:P.info? e=some i)
  (v:Value) (n c:Nat) (xs:List Value) (hown:w.ownsRow base e size v n xs):
  (Builtin.append_ #[t,t] ty #[v, .slice none 0 c]).run P w= .ok v w:=by
 rcases hown.2 with ⟨rfl,rfl⟩|⟨g,cap,cur,rfl,_,_,hnc,_⟩
 ·simp [Builtin.append_,run_underlying ht,sizeOf,typeInfo,hi,Builtin.lenOf,Builtin.firstCells]
 ·simp [Builtin.append_,run_underlying ht,sizeOf,typeInfo,hi,Builtin.lenOf,Builtin.firstCells,hnc,storeCells]
theorem appendV {w:World} {ops:Array Oper} {rest:List Oper} {o:Oper} {a:Act} {Q:Exit→Act→World→Prop} (hgd:o.guard=none) (s x:Operand)
  (ho:o.op= .call {callee:= .builtin .append,args:= #[s,x],argTypes:= #[158,158]})
  (base:Nat) (v:Value) (n:Nat) (xs:List Value) (hs:a.eval s=v) (hown:w.ownsRow base 70 1 v n xs)
  (u:Value) (ys:List Value) (S:Nat→Prop) (hx:a.eval x=u) (hsrc:RowV w S u ys) (h1: ∀u∈ys,u.oneCell'=true)
  (h63:n+ys.length≤1000) (hbase:base≤w.heap.size)
  (h: ∀v' w',w'.ownsRow base 70 1 v' (n+ys.length) (xs++ys)→w.grownBy w' v.ownBlock→wpList Tryz.prog ops Q rest (a.put o.dst v') w'):wpList Tryz.prog ops Q (o::rest) a w:=by
 obtain ⟨i0,hi,hz0,hz1,hz2⟩:=info_parts infoV
 obtain ⟨ao,c,rfl,p1,p2,p3⟩:=hsrc
 by_cases h0:ys=[]
 ·subst h0
  cases ao with
  |none=>
   refine wpList_plain hgd fun K hK=> ?_
   have hrun:=run_append_noneV (P:=Tryz.prog) (w:=w) base 158 o.type 70 i0 1 Tryz.underlying158 hi v n c xs hown
   unfold Oper.wp
   simp [execOp,ho,resolve,invoke,builtin,hs,hx,hrun,Result.andThen]
   exact hK _ _ (h v w (by simpa using hown) (World.grownBy.refl _ _))
  |some ad=>
   exact wpList_append_own _ hgd s x 158 ho base 70 i0 .nilIface 1 16 Tryz.underlying158 hi hz0 hz1 hz2 rfl (by decide) v n xs hs hown ad 0 c [] hx rfl (fun j u hj=>by simp at hj) (fun u hu=>by cases hu) (by unfold maxLen;omega) (by omega) hbase (fun v' w' a1 a2 _=>h v' w' a1 a2)
 ·obtain ⟨b,off,rfl,-,hbl,cc⟩:=p3.resolve_left h0
  refine wpList_append_own _ hgd s x 158 ho base 70 i0 .nilIface 1 16 Tryz.underlying158 hi hz0 hz1 hz2 rfl (by decide) v n xs hs hown ⟨b,off,none⟩ ys.length c ys hx (by omega) ?_ h1 (by unfold maxLen;omega) (by omega) hbase (fun v' w' a1 a2 _=>h v' w' a1 a2)
  intro j y hj
  have hlt:j<ys.length:=by
   by_cases hk:j<ys.length
   ·exact hk
   ·rw [List.getElem?_eq_none (by omega)] at hj;cases hj
  rw [addr_add,cc j hlt,←hj,List.getElem?_eq_getElem hlt]
theorem concat_two {S:Nat→Prop} (v1 v2:Value) (us1 us2:List Value) (w:World) (g:Nat) (hS:Hi w.heap.size S) (h1:RowV w S v1 us1) (h2:RowV w S v2 us2) (hc1: ∀u∈us1,u.oneCell'=true) (hc2: ∀u∈us2,u.oneCell'=true) (hl1:us1.length≤100) (hl2:us2.length≤100)
  (g0:w.cell? ⟨g,0,none⟩=some v1) (g1:w.cell? ⟨g,1,none⟩=some v2):
  Calls Tryz.prog 163 #[.slice (some ⟨g,0,none⟩) 2 2] w fun e w'=> ∃v,e= .returned v∧w'.ownsRow w.heap.size 70 1 v (us1++us2).length (us1++us2)∧Below w.heap.size w w':=by
 obtain ⟨a1,c1,rfl,p1,q1,r1⟩:=h1
 obtain ⟨a2,c2,rfl,p2,q2,r2⟩:=h2
 obtain ⟨i0,hi,hz0,hz1,hz2⟩:=info_parts infoV
 have R1:=zz r1;have R2:=zz r2;have HC1:=zz hc1;have HC2:=zz hc2
 have hg:=World.block_lt_of_cell? w _ g0
 have Q1:=zz q1;have Q2:=zz q2
 unfold maxLen at q1 q2
 clear r1 r2 hc1 hc2
 have HG:=zz (fun w=>grow_nil (us1.length+us2.length) w (by omega))
 have HSUM:=zz (show ((us1.length:Int)+(us2.length:Int))=((us1.length+us2.length:Nat):Int) by omega)
 go_enter Tryz.func163,Tryz.ntmps163
 go_wp2_with fail
 refine wp_loop_rounds 3 ?_
 rw [rounds_succ]
 go_wp2_with fail
 rw [rounds_succ]
 go_wp2_with fail
 rw [rounds_succ]
 go_wp2_with fail
 rw [HSUM.out]
 refine (HG.out _).mono ?_
 rintro e w1 ⟨v,rfl,ho1,hb1⟩
 have HO1:=zz ho1;have HB1:=zz hb1
 have k0:w1.cell? ⟨g,0,none⟩=some (.slice a1 us1.length c1):=(hb1.cell (p:=⟨g,0,none⟩) hg).trans g0
 have k1:w1.cell? ⟨g,1,none⟩=some (.slice a2 us2.length c2):=(hb1.cell (p:=⟨g,1,none⟩) hg).trans g1
 have HVA:=zz (show∀w',Below w.heap.size w w'→RowV w' (fun _=>True) (.slice a1 us1.length c1) us1 from fun w' hb=>(RowV.any (⟨a1,c1,rfl,p1,Q1.out,R1.out⟩:RowV w S _ us1)).low hb)
 have HVB:=zz (show∀w',Below w.heap.size w w'→RowV w' (fun _=>True) (.slice a2 us2.length c2) us2 from fun w' hb=>(RowV.any (⟨a2,c2,rfl,p2,Q2.out,R2.out⟩:RowV w S _ us2)).low hb)
 clear ho1 hb1
 go_wp2_with fail
 refine wp_loop_rounds 3 ?_
 rw [rounds_succ]
 go_wp2_with (at_builtin;refine appendV rfl _ _ rfl w.heap.size _ 0 [] rfl HO1.out _ us1 (fun _=>True) rfl (HVA.out _ HB1.out) HC1.out (by omega) HB1.out.size ?_;intro v3 w3 hown3 hgrow3;have HO3:=zz (show w3.ownsRow w.heap.size 70 1 v3 us1.length us1 by simpa using hown3);have HB3:=zz (HB1.out.grown hgrow3 HB1.out.size (fun j hj=>(HO1.out.lt j hj).1));have j1:w3.cell? ⟨g,1,none⟩=some (.slice a2 us2.length c2):=(HB3.out.cell (p:=⟨g,1,none⟩) hg).trans g1;have j0:w3.cell? ⟨g,0,none⟩=some (.slice a1 us1.length c1):=(HB3.out.cell (p:=⟨g,0,none⟩) hg).trans g0;clear hown3 hgrow3)
 rw [rounds_succ]
 go_wp2_with (at_builtin;refine appendV rfl _ _ rfl w.heap.size _ us1.length us1 rfl HO3.out _ us2 (fun _=>True) rfl (HVB.out _ HB3.out) HC2.out (by omega) HB3.out.size ?_;intro v5 w5 hown5 hgrow5;have HO5:=zz (show w5.ownsRow w.heap.size 70 1 v5 (us1++us2).length (us1++us2) by rw [List.length_append];exact hown5);have HB5:=zz (HB3.out.grown hgrow5 HB3.out.size (fun j hj=>(HO3.out.lt j hj).1));clear hown5 hgrow5)
 rw [rounds_succ]
 go_wp2
 go_ret
 exact ⟨_,rfl,HO5.out,HB5.out⟩
end Go.Proofs.YthillfgjpalpcaaGreatDoor
