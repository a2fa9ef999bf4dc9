/-
  Part of the proof of FnReadItem.
-/
import Derived.Test.YthijkjnngfnfdaaGreatDoorQRas
set_option linter.unusedVariables false
set_option maxHeartbeats 8000000
set_option maxRecDepth 100000
namespace Go.Proofs.YthijkjnngfnfdaaGreatDoor
open Go.RowKit
theorem ahG (s:ByteArray):rdS s=[]∨SpOK s (rdS s):=by
 by_cases h: ∃c,SpOK s c
 ·obtain ⟨c,hc⟩:=h
  rw [qi hc];exact .inr hc
 ·exact .inl (tA (fun c hc=>h ⟨c,hc⟩))
theorem ol (s:ByteArray):dQ (rdS s)∧(rdS s).length≤60:=by
 rcases ahG s with h|h
 ·rw [h];exact ⟨fun c hc=>(by cases hc),by simp⟩
 ·exact ⟨wF h.1,h.some.1⟩
theorem bD:dQ []:=fun c hc=>by cases hc
theorem nl (m:List UInt8):(es m).length≤m.length:=by
 unfold es
 split
 ·rename_i k _
  have:=b6 (m.drop (k+1));rw [List.length_drop] at this;omega
 ·simp
theorem om (m:List UInt8):(dS m).length≤m.length:=by
 rw [wm];have h1:=b6 (js m);have h2:=(tI m).2
 omega
theorem wu (s:ByteArray) (l:List UInt8) (h:s=baL l) (w:World) (hl:l.length≤2097152):
  Calls Tryz.prog 57 #[.string s] w fun e w'=>e= .returned (.tuple #[.string (baL (dS l)), .string (baL (es l))])∧Below w.heap.size w w':=by
 subst h;exact xo l w hl
theorem tD (s:ByteArray) (l:List UInt8) (h:s=baL l) (w:World) (hl:l.length≤2097152):
  Calls Tryz.prog 54 #[.string s] w fun e w'=>e= .returned (.string (baL (aD l)))∧w=w':=by
 subst h;have:=lI (baL l) w (by rw [aN];unfold maxLen;omega);rw [bK] at this;exact this
theorem It4.off {W:World} {B B':Nat} {x0 x1 x2 x3:Value} (h:It4 W B x0 x1 x2 x3) (hn:B'≠B) (j:Nat) (y:Value):It4 (W.setCell ⟨B',j,none⟩ y) B x0 x1 x2 x3:=
 h.grown (row:=some B') ⟨rfl,rfl,rfl,by simp [World.setCell],fun b _ hb=>Below.heap_setCell _ _ _ _ (fun e=>hb (by rw [e]))⟩ (by intro e;injection e with e;exact hn e)
theorem It4.s2 {W:World} {B:Nat} {x0 x1 x2 x3:Value} (h:It4 W B x0 x1 x2 x3) (y:Value):It4 (W.setCell ⟨B,2,none⟩ y) B x0 x1 y x3:=by
 obtain ⟨⟨h1,h2,h3,h4⟩,⟨f1,f2,f3,f4⟩,h5⟩:=h;refine ⟨⟨?_, ?_, ?_, ?_⟩,⟨?_, ?_, ?_, ?_⟩, ?_⟩
 all_goals simp [go_sem, *]
theorem It4.s3 {W:World} {B:Nat} {x0 x1 x2 x3:Value} (h:It4 W B x0 x1 x2 x3) (y:Value):It4 (W.setCell ⟨B,3,none⟩ y) B x0 x1 x2 y:=by
 obtain ⟨⟨h1,h2,h3,h4⟩,⟨f1,f2,f3,f4⟩,h5⟩:=h;refine ⟨⟨?_, ?_, ?_, ?_⟩,⟨?_, ?_, ?_, ?_⟩, ?_⟩
 all_goals simp [go_sem, *]
structure SpIt (w X:World) (k:Int) (n:ByteArray) (v:Value) (x:List Cl) (t:ByteArray):Prop where
 b:Below w.heap.size w X
 z:It4 X w.heap.size (.int .i64 0) (.string ⟨#[]⟩) (.slice none 0 0) (.string ⟨#[]⟩)
 i:It4 X (w.heap.size+1) (.int .i64 k) (.string n) v (.string t)
 o:X.ownsRow (w.heap.size+2) 120 3 v x.length (ap x)
section
variable {w X:World} {k:Int} {n t:ByteArray} {v:Value} {x:List Cl}
theorem SpIt.row (h:SpIt w X k n v x t) (j:Nat) (y:Value) (B:Nat) (hB:B<w.heap.size+2):(X.setCell ⟨B,j,none⟩ y).ownsRow (w.heap.size+2) 120 3 v x.length (ap x):=
 dJ h.o (fun g hg=>Below.heap_setCell _ _ _ _ (fun e=>by have:=(h.o.lt g hg).1;dsimp only at e;omega))
theorem SpIt.setT (h:SpIt w X k n v x t) (t':ByteArray):SpIt w (X.setCell ⟨w.heap.size+1,3,none⟩ (.string t')) k n v x t':=
 ⟨h.b.setCell (p:=⟨w.heap.size+1,3,none⟩) (Nat.le_succ _) _,h.z.off (by omega) _ _,h.i.s3 _,h.row _ _ _ (by omega)⟩
theorem SpIt.setV (h:SpIt w X k n v x t) {v':Value} {x':List Cl} (ho:X.ownsRow (w.heap.size+2) 120 3 v' x'.length (ap x')):SpIt w (X.setCell ⟨w.heap.size+1,2,none⟩ v') k n v' x' t:=
 ⟨h.b.setCell (p:=⟨w.heap.size+1,2,none⟩) (Nat.le_succ _) _,h.z.off (by omega) _ _,h.i.s2 _,dJ ho (fun g hg=>Below.heap_setCell _ _ _ _ (fun e=>by have:=(ho.lt g hg).1;dsimp only at e;omega))⟩
theorem SpIt.keep (h:SpIt w X k n v x t) {Y:World} (hb:Below X.heap.size X Y):SpIt w Y k n v x t:=
 ⟨h.b.trans (hb.mono h.b.size),h.z.keep hb,h.i.keep hb,cY h.o hb⟩
theorem SpIt.base (h:SpIt w X k n v x t):w.heap.size+2≤X.heap.size:=h.i.2.2
theorem SpIt.start (w:World) (k:Int) (n t:ByteArray):SpIt w ((w.alloc (.cells #[.int .i64 0, .string ⟨#[]⟩, .slice none 0 0, .string ⟨#[]⟩] 25)).alloc (.cells #[.int .i64 k, .string n, .slice none 0 0, .string t] 25)) k n (.slice none 0 0) [] t:=by
 refine ⟨((Below.refl _ w).alloc (ain _) _).alloc (by simp) _,(It4.new w _ _ _ _ _).al _, ?_,World.ownsRow_nil _ _ _ _⟩;have:=It4.new (w.alloc (.cells #[.int .i64 0, .string ⟨#[]⟩, .slice none 0 0, .string ⟨#[]⟩] 25)) (.int .i64 k) (.string n) (.slice none 0 0) (.string t) 25
 simpa using this
end
theorem mc (s:ByteArray) (w:World) (hs:s.size≤2097152):
  Calls Tryz.prog 18 #[.string s] w (qt (aC rdS s) w):=by
 have hl:s.data.toList.length≤2097152:=by rw [Array.length_toList];exact hs
 have hlt:=b6 s.data.toList;have HRW:=aim (show aC rdS s=if aM (cV rdS (aD s.data.toList))=true then some (cV rdS (aD s.data.toList)) else none from rfl)
 go_enter Tryz.func18,Tryz.ntmps18
 go_wp2_with fail;refine (lI s _ (by unfold maxLen;omega)).mono ?_;rintro e w1 ⟨rfl,hw1⟩;subst hw1;generalize aD s.data.toList=l at*;have hz:=aN l
 by_cases c1:l=[]
 ·subst c1
  have HV:=aim (show cV rdS []=(1,⟨#[]⟩,[],⟨#[]⟩) by rw [cV,if_pos rfl]);have e0:(baL ([]:List UInt8)).toList=[]:=ByteArray.toList_eq _;have HI:=aim (SpIt.start w 1 ⟨#[]⟩ ⟨#[]⟩);have HIV:=(bw (1,⟨#[]⟩,[],⟨#[]⟩) (.slice none 0 0) _ (RowC.of_own HI.out.o).1 (by show (⟨#[]⟩:ByteArray).size≤maxLen;unfold maxLen;exact air _) bD (air _) (by show (⟨#[]⟩:ByteArray).size≤maxLen;unfold maxLen;exact air _));simp only at HIV;generalize hok:aM (1,⟨#[]⟩,[],⟨#[]⟩)=ok at HIV;have HOK:=aim hok;have HIV:=aim HIV;clear hok;go_wp2_with fail;refine HIV.out.mono ?_;rintro e w9 ⟨rfl,hb9⟩;have HI9:=aim (HI.out.keep hb9);clear hb9 HI HIV;obtain ⟨⟨z0,z1,z2,z3⟩,⟨y0,y1,y2,y3⟩,hzz⟩:=HI9.out.z;obtain ⟨⟨i0,i1,i2,i3⟩,⟨j0,j1,j2,j3⟩,hii⟩:=HI9.out.i;have HFIN:=aim (fun y0 y1 y2 y3=>du (y0:=y0) (y1:=y1) (y2:=y2) (y3:=y3) HI9.out.b (ba (base':=w.heap.size+1) HI9.out.o (fun g hg=>by have:=(HI9.out.o.lt g hg).1;omega)));have HFIZ:=aim (fun y0 y1 y2 y3=>du (y0:=y0) (y1:=y1) (y2:=y2) (y3:=y3) HI9.out.b (World.ownsRow_nil w9 (w.heap.size+1) 120 3))
  cases ok with
  |false=>
   have HR:=aim (show aC rdS s=none by rw [HRW.out,HV.out,HOK.out,if_neg (by simp)]);clear HI9;go_wp2;exact bodyPost_ret (v:= .tuple #[.agg #[.int .i64 0, .string ⟨#[]⟩, .slice none 0 0, .string ⟨#[]⟩], .bool false]) (by simp [results,Tryz.results18,go_sem,z0,z1,z2,z3]) rfl (by rw [HR.out];exact ⟨_,rfl,HFIZ.out _ _ _ _⟩)
  |true=>
   have HR:=aim (show aC rdS s=some (1,⟨#[]⟩,[],⟨#[]⟩) by rw [HRW.out,HV.out,HOK.out,if_pos rfl]);clear HI9;go_wp2;exact bodyPost_ret (v:= .tuple #[.agg #[.int .i64 1, .string ⟨#[]⟩,(.slice none 0 0), .string ⟨#[]⟩], .bool true]) (by simp [results,Tryz.results18,go_sem,z0,z1,z2,z3]) rfl (by rw [HR.out];exact ⟨_,rfl,HFIN.out _ _ _ _⟩)
 by_cases c2:l=[125]
 ·subst c2
  have HV:=aim (show cV rdS [125]=(5,⟨#[]⟩,[],⟨#[]⟩) by rw [cV,if_neg (by simp),if_pos rfl]);have e0:(baL ([125]:List UInt8)).toList=[125]:=ByteArray.toList_eq _;have HI:=aim (SpIt.start w 5 ⟨#[]⟩ ⟨#[]⟩);have HIV:=(bw (5,⟨#[]⟩,[],⟨#[]⟩) (.slice none 0 0) _ (RowC.of_own HI.out.o).1 (by show (⟨#[]⟩:ByteArray).size≤maxLen;unfold maxLen;exact air _) bD (air _) (by show (⟨#[]⟩:ByteArray).size≤maxLen;unfold maxLen;exact air _));simp only at HIV;generalize hok:aM (5,⟨#[]⟩,[],⟨#[]⟩)=ok at HIV;have HOK:=aim hok;have HIV:=aim HIV;clear hok;go_wp2_with fail;refine HIV.out.mono ?_;rintro e w9 ⟨rfl,hb9⟩;have HI9:=aim (HI.out.keep hb9);clear hb9 HI HIV;obtain ⟨⟨z0,z1,z2,z3⟩,⟨y0,y1,y2,y3⟩,hzz⟩:=HI9.out.z;obtain ⟨⟨i0,i1,i2,i3⟩,⟨j0,j1,j2,j3⟩,hii⟩:=HI9.out.i;have HFIN:=aim (fun y0 y1 y2 y3=>du (y0:=y0) (y1:=y1) (y2:=y2) (y3:=y3) HI9.out.b (ba (base':=w.heap.size+1) HI9.out.o (fun g hg=>by have:=(HI9.out.o.lt g hg).1;omega)));have HFIZ:=aim (fun y0 y1 y2 y3=>du (y0:=y0) (y1:=y1) (y2:=y2) (y3:=y3) HI9.out.b (World.ownsRow_nil w9 (w.heap.size+1) 120 3))
  cases ok with
  |false=>
   have HR:=aim (show aC rdS s=none by rw [HRW.out,HV.out,HOK.out,if_neg (by simp)]);clear HI9;go_wp2;exact bodyPost_ret (v:= .tuple #[.agg #[.int .i64 0, .string ⟨#[]⟩, .slice none 0 0, .string ⟨#[]⟩], .bool false]) (by simp [results,Tryz.results18,go_sem,z0,z1,z2,z3]) rfl (by rw [HR.out];exact ⟨_,rfl,HFIZ.out _ _ _ _⟩)
  |true=>
   have HR:=aim (show aC rdS s=some (5,⟨#[]⟩,[],⟨#[]⟩) by rw [HRW.out,HV.out,HOK.out,if_pos rfl]);clear HI9;go_wp2;exact bodyPost_ret (v:= .tuple #[.agg #[.int .i64 5, .string ⟨#[]⟩,(.slice none 0 0), .string ⟨#[]⟩], .bool true]) (by simp [results,Tryz.results18,go_sem,z0,z1,z2,z3]) rfl (by rw [HR.out];exact ⟨_,rfl,HFIN.out _ _ _ _⟩)
 have t1:((baL l).toList==[])=false:=by rw [beq_eq_false_iff_ne,ByteArray.toList_eq];exact c1
 have t2:((baL l).toList==[125])=false:=by rw [beq_eq_false_iff_ne,ByteArray.toList_eq];exact c2
 have hl0:0<l.length:=List.length_pos_iff.mpr c1
 have hh:l.head? =some (l[0]'hl0):=by rw [List.head?_eq_getElem?,List.getElem?_eq_getElem hl0]
 have hb0:=qf l 0 (by omega)
 by_cases c3:l[0]'hl0=35
 ·have HV:=aim (show cV rdS l=(2,⟨#[]⟩,[],baL (aD (l.drop 1))) by rw [cV,if_neg c1,if_neg c2,if_pos (by rw [hh,c3])])
  have t3:(((l[0]'hl0).toNat:Int)==35)=true:=by rw [c3];rfl
  have HD:=aim (show (baL l).extract 1 l.length=baL (l.drop 1) by rw [←aN l,hJ])
  have h1:(l.drop 1).length≤2097152:=by rw [List.length_drop];omega
  have hnt:(baL (aD (l.drop 1))).size≤maxLen:=by have:=b6 (l.drop 1);rw [aN];unfold maxLen;omega
  have HTA:=aim (fun W=>tD _ (l.drop 1) HD.out W h1);clear c1 c2 c3 hh;generalize baL (aD (l.drop 1))=nt at*;go_wp2_with fail;refine (HTA.out _).mono ?_;rintro e w1 ⟨rfl,hw1⟩;subst hw1;have HI:=aim (SpIt.start w 2 ⟨#[]⟩ nt);have HIV:=(bw (2,⟨#[]⟩,[],nt) (.slice none 0 0) _ (RowC.of_own HI.out.o).1 (by show (⟨#[]⟩:ByteArray).size≤maxLen;unfold maxLen;exact air _) bD (air _) hnt);simp only at HIV;generalize hok:aM (2,⟨#[]⟩,[],nt)=ok at HIV;have HOK:=aim hok;have HIV:=aim HIV;clear hok;go_wp2_with fail;refine HIV.out.mono ?_;rintro e w9 ⟨rfl,hb9⟩;have HI9:=aim (HI.out.keep hb9);clear hb9 HI HIV;obtain ⟨⟨z0,z1,z2,z3⟩,⟨y0,y1,y2,y3⟩,hzz⟩:=HI9.out.z;obtain ⟨⟨i0,i1,i2,i3⟩,⟨j0,j1,j2,j3⟩,hii⟩:=HI9.out.i;have HFIN:=aim (fun y0 y1 y2 y3=>du (y0:=y0) (y1:=y1) (y2:=y2) (y3:=y3) HI9.out.b (ba (base':=w.heap.size+1) HI9.out.o (fun g hg=>by have:=(HI9.out.o.lt g hg).1;omega)));have HFIZ:=aim (fun y0 y1 y2 y3=>du (y0:=y0) (y1:=y1) (y2:=y2) (y3:=y3) HI9.out.b (World.ownsRow_nil w9 (w.heap.size+1) 120 3))
  cases ok with
  |false=>
   have HR:=aim (show aC rdS s=none by rw [HRW.out,HV.out,HOK.out,if_neg (by simp)]);clear HI9;go_wp2;exact bodyPost_ret (v:= .tuple #[.agg #[.int .i64 0, .string ⟨#[]⟩, .slice none 0 0, .string ⟨#[]⟩], .bool false]) (by simp [results,Tryz.results18,go_sem,z0,z1,z2,z3]) rfl (by rw [HR.out];exact ⟨_,rfl,HFIZ.out _ _ _ _⟩)
  |true=>
   have HR:=aim (show aC rdS s=some (2,⟨#[]⟩,[],nt) by rw [HRW.out,HV.out,HOK.out,if_pos rfl]);clear HI9;go_wp2;exact bodyPost_ret (v:= .tuple #[.agg #[.int .i64 2, .string ⟨#[]⟩,(.slice none 0 0), .string nt], .bool true]) (by simp [results,Tryz.results18,go_sem,z0,z1,z2,z3]) rfl (by rw [HR.out];exact ⟨_,rfl,HFIN.out _ _ _ _⟩)
 have t3:(((l[0]'hl0).toNat:Int)==35)=false:=by
  rw [beq_eq_false_iff_ne];intro h;exact c3 (kR (c:=35) h)
 have hqn:(nmQ l).length≤2097152:=by rw [jt,List.length_drop];omega
 obtain ⟨q,HTQ,hq⟩: ∃q,Hid (aD (nmQ l)=q)∧q.length≤2097152:=⟨_,aim rfl,Nat.le_trans (b6 _) hqn⟩
 have HRD:=aim (show cV rdS l=if q=[123] then (4,baL (nmP l),[],⟨#[]⟩) else if q.head? =some 61 then (3,baL (nmP l),rdS (baL (dS (q.drop 1))),baL (es (q.drop 1))) else (0,baL (nmP l),[],⟨#[]⟩) by rw [cV,if_neg c1,if_neg c2,if_neg (by rw [hh];simpa using c3),HTQ.out])
 have hn0:(nmP l).length≤l.length:=by
  have:=congrArg List.length (iU l);rw [List.length_take] at this;omega
 obtain ⟨K,hn,HT,HQ,HIN,HOUT⟩: ∃K:Nat,K≤l.length∧Hid (nmP l=l.take K)∧Hid (nmQ l=l.drop K)∧Hid (∀k,k<K→ ∃h:k<l.length,kj l[k]=true)∧Hid (∀h:K<l.length,kj (l[K]'h)=false):=
  ⟨(nmP l).length,hn0,aim (iU l),aim (jt l),aim (agH l),aim (aes l)⟩
 clear c1 c2 c3 hh hn0;go_wp2_with fail
 go_loopw [6] (fun i wr=> ∃k:Nat,k≤K∧i= .int .i64 (k:Int)∧wr=(w.alloc (.cells #[.int .i64 0, .string ⟨#[]⟩, .slice none 0 0, .string ⟨#[]⟩] 25)).alloc (.cells #[.int .i64 0, .string ⟨#[]⟩, .slice none 0 0, .string ⟨#[]⟩] 25)) (fun i _=>K-(intOf i).toNat)
 case atStart=>exact ⟨0,air _,rfl,rfl⟩
 case round=>
  obtain ⟨k,hk,rfl,hwr⟩:=hrel;subst hwr;clear hb0 t1 t2 t3
  by_cases hlt:k<l.length
  ·have hltI:(k:Int)<(l.length:Int):=by omega
   have hks:k<(baL l).size:=by omega
   have hb:=qf l k hks
   have hu:((l[k]'hlt).toNat:Int)≤255:=by have:=(l[k]'hlt).toNat_lt;omega
   have HPI:=aim (show kj (l[k]'hlt)=(cA ((l[k]'hlt).toNat:Int)||cP ((l[k]'hlt).toNat:Int)||(((l[k]'hlt).toNat:Int)==95)) from rfl)
   by_cases hkK:k<K
   ·obtain ⟨hx,hnm⟩:=HIN.out k hkK
    rw [HPI.out] at hnm
    cases hlr:cA ((l[k]'hlt).toNat:Int) with
    |true=>
     clear hnm;go_wp2_with fail;refine (bm (((baL l)[k]'hks).toNat:Int) _ (by omega) (by rw [hb];exact hu)).mono ?_;rintro e w1 ⟨rfl,rfl⟩;go_wp2;go_roundw
     case rel=>exact ⟨k+1,by omega,by go_num,by trivial⟩
     case measure=>simp [intOf];omega
    |false=>
     go_wp2_with fail;refine (bm (((baL l)[k]'hks).toNat:Int) _ (by omega) (by rw [hb];exact hu)).mono ?_;rintro e w1 ⟨rfl,rfl⟩
     cases hdg:cP ((l[k]'hlt).toNat:Int) with
     |true=>
      clear hnm;go_wp2_with fail;refine (bH (((baL l)[k]'hks).toNat:Int) _ (by omega) (by rw [hb];exact hu)).mono ?_;rintro e w1 ⟨rfl,rfl⟩;go_wp2;go_roundw
      case rel=>exact ⟨k+1,by omega,by go_num,by trivial⟩
      case measure=>simp [intOf];omega
     |false=>
      have h95:(((l[k]'hlt).toNat:Int)==95)=true:=by rw [hlr,hdg] at hnm;simpa using hnm
      clear hnm;go_wp2_with fail;refine (bH (((baL l)[k]'hks).toNat:Int) _ (by omega) (by rw [hb];exact hu)).mono ?_;rintro e w1 ⟨rfl,rfl⟩;go_wp2;go_roundw
      case rel=>exact ⟨k+1,by omega,by go_num,by trivial⟩
      case measure=>simp [intOf];omega
   ·obtain rfl:k=K:=by omega
    have hnm:=HOUT.out hlt;rw [HPI.out] at hnm;simp only [Bool.or_eq_false_iff] at hnm;obtain ⟨⟨hlr,hdg⟩,h95⟩:=hnm;go_wp2_with fail;refine (bm (((baL l)[k]'hks).toNat:Int) _ (by omega) (by rw [hb];exact hu)).mono ?_;rintro e w1 ⟨rfl,rfl⟩;go_wp2_with fail;refine (bH (((baL l)[k]'hks).toNat:Int) _ (by omega) (by rw [hb];exact hu)).mono ?_;rintro e w1 ⟨rfl,rfl⟩;have HN:=aim (show baL (nmP l)=((baL l).extract 0 k) by rw [hH,HT.out]);have HD:=aim (show (baL l).extract k l.length=baL (nmQ l) by rw [←aN l,hJ,HQ.out])
    have hnm9:(((baL l).extract 0 k):ByteArray).size≤maxLen:=by rw [hH,aN,List.length_take];unfold maxLen;omega
    go_wp2_with fail;refine (tD _ (nmQ l) HD.out _ (by omega)).mono ?_;rintro e w1 ⟨he,hw1⟩;subst hw1;rw [HTQ.out] at he;subst he
    by_cases c4:q=[123]
    ·have HV:=aim (show cV rdS l=(4,((baL l).extract 0 k),[],⟨#[]⟩) by rw [HRD.out,if_pos c4,HN.out])
     subst c4;have e0:(baL ([123]:List UInt8)).toList=[123]:=ByteArray.toList_eq _;have HI:=aim (SpIt.start w 4 ((baL l).extract 0 k) ⟨#[]⟩);have HIV:=(bw (4,((baL l).extract 0 k),[],⟨#[]⟩) (.slice none 0 0) _ (RowC.of_own HI.out.o).1 hnm9 bD (air _) (by show (⟨#[]⟩:ByteArray).size≤maxLen;unfold maxLen;exact air _));simp only at HIV;generalize hok:aM (4,((baL l).extract 0 k),[],⟨#[]⟩)=ok at HIV;have HOK:=aim hok;have HIV:=aim HIV;clear hok;go_wp2_with fail;refine HIV.out.mono ?_;rintro e w9 ⟨rfl,hb9⟩;have HI9:=aim (HI.out.keep hb9);clear hb9 HI HIV;obtain ⟨⟨z0,z1,z2,z3⟩,⟨y0,y1,y2,y3⟩,hzz⟩:=HI9.out.z;obtain ⟨⟨i0,i1,i2,i3⟩,⟨j0,j1,j2,j3⟩,hii⟩:=HI9.out.i;have HFIN:=aim (fun y0 y1 y2 y3=>du (y0:=y0) (y1:=y1) (y2:=y2) (y3:=y3) HI9.out.b (ba (base':=w.heap.size+1) HI9.out.o (fun g hg=>by have:=(HI9.out.o.lt g hg).1;omega)));have HFIZ:=aim (fun y0 y1 y2 y3=>du (y0:=y0) (y1:=y1) (y2:=y2) (y3:=y3) HI9.out.b (World.ownsRow_nil w9 (w.heap.size+1) 120 3))
     cases ok with
     |false=>
      have HR:=aim (show aC rdS s=none by rw [HRW.out,HV.out,HOK.out,if_neg (by simp)]);clear HI9;go_wp2;exact bodyPost_ret (v:= .tuple #[.agg #[.int .i64 0, .string ⟨#[]⟩, .slice none 0 0, .string ⟨#[]⟩], .bool false]) (by simp [results,Tryz.results18,go_sem,z0,z1,z2,z3]) rfl (by rw [HR.out];exact ⟨_,rfl,HFIZ.out _ _ _ _⟩)
     |true=>
      have HR:=aim (show aC rdS s=some (4,((baL l).extract 0 k),[],⟨#[]⟩) by rw [HRW.out,HV.out,HOK.out,if_pos rfl]);clear HI9;go_wp2;exact bodyPost_ret (v:= .tuple #[.agg #[.int .i64 4, .string ((baL l).extract 0 k),(.slice none 0 0), .string ⟨#[]⟩], .bool true]) (by simp [results,Tryz.results18,go_sem,z0,z1,z2,z3]) rfl (by rw [HR.out];exact ⟨_,rfl,HFIN.out _ _ _ _⟩)
    have t4:((baL q).toList==[123])=false:=by rw [beq_eq_false_iff_ne,ByteArray.toList_eq];exact c4
    by_cases c6:q=[]
    ·have HV:=aim (show cV rdS l=(0,((baL l).extract 0 k),[],⟨#[]⟩) by rw [HRD.out,if_neg c4,if_neg (by rw [c6];simp),HN.out])
     subst c6;have e0:(baL ([]:List UInt8)).toList=[]:=ByteArray.toList_eq _;have HI:=aim (SpIt.start w 0 ((baL l).extract 0 k) ⟨#[]⟩);have HIV:=(bw (0,((baL l).extract 0 k),[],⟨#[]⟩) (.slice none 0 0) _ (RowC.of_own HI.out.o).1 hnm9 bD (air _) (by show (⟨#[]⟩:ByteArray).size≤maxLen;unfold maxLen;exact air _));simp only at HIV;generalize hok:aM (0,((baL l).extract 0 k),[],⟨#[]⟩)=ok at HIV;have HOK:=aim hok;have HIV:=aim HIV;clear hok;go_wp2_with fail;refine HIV.out.mono ?_;rintro e w9 ⟨rfl,hb9⟩;have HI9:=aim (HI.out.keep hb9);clear hb9 HI HIV;obtain ⟨⟨z0,z1,z2,z3⟩,⟨y0,y1,y2,y3⟩,hzz⟩:=HI9.out.z;obtain ⟨⟨i0,i1,i2,i3⟩,⟨j0,j1,j2,j3⟩,hii⟩:=HI9.out.i;have HFIN:=aim (fun y0 y1 y2 y3=>du (y0:=y0) (y1:=y1) (y2:=y2) (y3:=y3) HI9.out.b (ba (base':=w.heap.size+1) HI9.out.o (fun g hg=>by have:=(HI9.out.o.lt g hg).1;omega)));have HFIZ:=aim (fun y0 y1 y2 y3=>du (y0:=y0) (y1:=y1) (y2:=y2) (y3:=y3) HI9.out.b (World.ownsRow_nil w9 (w.heap.size+1) 120 3))
     cases ok with
     |false=>
      have HR:=aim (show aC rdS s=none by rw [HRW.out,HV.out,HOK.out,if_neg (by simp)]);clear HI9;go_wp2;exact bodyPost_ret (v:= .tuple #[.agg #[.int .i64 0, .string ⟨#[]⟩, .slice none 0 0, .string ⟨#[]⟩], .bool false]) (by simp [results,Tryz.results18,go_sem,z0,z1,z2,z3]) rfl (by rw [HR.out];exact ⟨_,rfl,HFIZ.out _ _ _ _⟩)
     |true=>
      have HR:=aim (show aC rdS s=some (0,((baL l).extract 0 k),[],⟨#[]⟩) by rw [HRW.out,HV.out,HOK.out,if_pos rfl]);clear HI9;go_wp2;exact bodyPost_ret (v:= .tuple #[.agg #[.int .i64 0, .string ((baL l).extract 0 k),(.slice none 0 0), .string ⟨#[]⟩], .bool true]) (by simp [results,Tryz.results18,go_sem,z0,z1,z2,z3]) rfl (by rw [HR.out];exact ⟨_,rfl,HFIN.out _ _ _ _⟩)
    have hq0:0<q.length:=List.length_pos_iff.mpr c6;have hqz:=aN q;have hqb:=qf q 0 (by omega)
    have t5:((baL q).toList==[])=false:=by rw [beq_eq_false_iff_ne,ByteArray.toList_eq];exact c6
    have t7:((baL q).toList !=[])=true:=by rw [bne,t5];rfl
    have hh:q.head? =some (q[0]'hq0):=by rw [List.head?_eq_getElem?,List.getElem?_eq_getElem hq0]
    have HC6:=aim c6;have HC4:=aim c4;clear c6 c4
    by_cases c5:q[0]'hq0=61
    ·have HV:=aim (show cV rdS l=(3,((baL l).extract 0 k),rdS (baL (dS (q.drop 1))),baL (es (q.drop 1))) by rw [HRD.out,if_neg HC4.out,if_pos (by rw [hh,c5]),HN.out])
     have t6:(((q[0]'hq0).toNat:Int)==61)=true:=by rw [c5];rfl
     have HDQ:=aim (show (baL q).extract 1 q.length=baL (q.drop 1) by rw [←aN q,hJ])
     have hq1:(q.drop 1).length≤2097152:=by rw [List.length_drop];omega
     have hb1:=nl (q.drop 1);have hc1:=om (q.drop 1);clear hh c5;go_wp2_with fail;refine (wu _ (q.drop 1) HDQ.out _ hq1).mono ?_;rintro e w5 ⟨rfl,hb5⟩;have HI5:=aim ((SpIt.start w 3 ((baL l).extract 0 k) ⟨#[]⟩).keep hb5);obtain ⟨⟨i0,i1,i2,i3⟩,⟨j0,j1,j2,j3⟩,hii⟩:=HI5.out.i;have HI6:=aim (HI5.out.setT (baL (es (q.drop 1))));clear hb5 hqb t6
     have hnt:(baL (es (q.drop 1))).size≤maxLen:=by rw [aN];unfold maxLen;omega
     have hsx:(baL (dS (q.drop 1))).size≤2097152:=by rw [aN];omega
     generalize baL (es (q.drop 1))=nt at*;generalize baL (dS (q.drop 1))=sx at*;go_wp2_with fail;refine (nv sx _ hsx).mono ?_;rintro e w7 ⟨hb7,hres⟩
     obtain ⟨v,ok,rfl,hown⟩: ∃(v:Value) (ok:Bool),e= .returned (.tuple #[v, .bool ok])∧w7.ownsRow (w.heap.size+2) 120 3 v (rdS sx).length (ap (rdS sx)):=by
      rcases hres with ⟨v,c,rfl,hc,ho,-⟩|⟨⟨v,rfl,ho⟩,hno⟩
      ·rw [qi hc];exact ⟨v,true,rfl,ba ho (fun g hg=>Nat.le_trans HI6.out.base (ho.lt g hg).1)⟩
      ·rw [tA hno];exact ⟨v,false,rfl,ba ho (fun g hg=>Nat.le_trans HI6.out.base (ho.lt g hg).1)⟩
     obtain ⟨va,vc,rfl⟩:=ai hown;have HSD:=aim (ol sx);have HI7:=aim (HI6.out.keep hb7);have HI:=aim (HI7.out.setV hown);clear i0 i1 i2 i3 j0 j1 j2 j3 hii;obtain ⟨⟨i0,i1,i2,i3⟩,⟨j0,j1,j2,j3⟩,hii⟩:=HI7.out.i;clear hb7 hres hown HI6 HI5 HI7;generalize rdS sx=R at*;have HIV:=(bw (3,((baL l).extract 0 k),R,nt) (.slice va R.length vc) _ (RowC.of_own HI.out.o).1 hnm9 HSD.out.1 (by have:=HSD.out.2;show R.length≤_;omega) hnt);simp only at HIV;generalize hok:aM (3,((baL l).extract 0 k),R,nt)=ok at HIV;have HOK:=aim hok;have HIV:=aim HIV;clear hok;go_wp2_with fail;refine HIV.out.mono ?_;rintro e w9 ⟨rfl,hb9⟩;have HI9:=aim (HI.out.keep hb9);clear hb9 HI HIV;obtain ⟨⟨z0,z1,z2,z3⟩,⟨y0,y1,y2,y3⟩,hzz⟩:=HI9.out.z;obtain ⟨⟨i0,i1,i2,i3⟩,⟨j0,j1,j2,j3⟩,hii⟩:=HI9.out.i;have HFIN:=aim (fun y0 y1 y2 y3=>du (y0:=y0) (y1:=y1) (y2:=y2) (y3:=y3) HI9.out.b (ba (base':=w.heap.size+1) HI9.out.o (fun g hg=>by have:=(HI9.out.o.lt g hg).1;omega)));have HFIZ:=aim (fun y0 y1 y2 y3=>du (y0:=y0) (y1:=y1) (y2:=y2) (y3:=y3) HI9.out.b (World.ownsRow_nil w9 (w.heap.size+1) 120 3))
     cases ok with
     |false=>
      have HR:=aim (show aC rdS s=none by rw [HRW.out,HV.out,HOK.out,if_neg (by simp)]);clear HI9;go_wp2;exact bodyPost_ret (v:= .tuple #[.agg #[.int .i64 0, .string ⟨#[]⟩, .slice none 0 0, .string ⟨#[]⟩], .bool false]) (by simp [results,Tryz.results18,go_sem,z0,z1,z2,z3]) rfl (by rw [HR.out];exact ⟨_,rfl,HFIZ.out _ _ _ _⟩)
     |true=>
      have HR:=aim (show aC rdS s=some (3,((baL l).extract 0 k),R,nt) by rw [HRW.out,HV.out,HOK.out,if_pos rfl]);clear HI9;go_wp2;exact bodyPost_ret (v:= .tuple #[.agg #[.int .i64 3, .string ((baL l).extract 0 k),(.slice va R.length vc), .string nt], .bool true]) (by simp [results,Tryz.results18,go_sem,z0,z1,z2,z3]) rfl (by rw [HR.out];exact ⟨_,rfl,HFIN.out _ _ _ _⟩)
    ·have HV:=aim (show cV rdS l=(0,((baL l).extract 0 k),[],⟨#[]⟩) by rw [HRD.out,if_neg HC4.out,if_neg (by rw [hh];simpa using c5),HN.out])
     have t6:(((q[0]'hq0).toNat:Int)==61)=false:=by
      rw [beq_eq_false_iff_ne];intro h;exact c5 (kR (c:=61) h)
     have HI:=aim (SpIt.start w 0 ((baL l).extract 0 k) ⟨#[]⟩);clear hh c5;have HIV:=(bw (0,((baL l).extract 0 k),[],⟨#[]⟩) (.slice none 0 0) _ (RowC.of_own HI.out.o).1 hnm9 bD (air _) (by show (⟨#[]⟩:ByteArray).size≤maxLen;unfold maxLen;exact air _));simp only at HIV;generalize hok:aM (0,((baL l).extract 0 k),[],⟨#[]⟩)=ok at HIV;have HOK:=aim hok;have HIV:=aim HIV;clear hok;go_wp2_with fail;refine HIV.out.mono ?_;rintro e w9 ⟨rfl,hb9⟩;have HI9:=aim (HI.out.keep hb9);clear hb9 HI HIV;obtain ⟨⟨z0,z1,z2,z3⟩,⟨y0,y1,y2,y3⟩,hzz⟩:=HI9.out.z;obtain ⟨⟨i0,i1,i2,i3⟩,⟨j0,j1,j2,j3⟩,hii⟩:=HI9.out.i;have HFIN:=aim (fun y0 y1 y2 y3=>du (y0:=y0) (y1:=y1) (y2:=y2) (y3:=y3) HI9.out.b (ba (base':=w.heap.size+1) HI9.out.o (fun g hg=>by have:=(HI9.out.o.lt g hg).1;omega)));have HFIZ:=aim (fun y0 y1 y2 y3=>du (y0:=y0) (y1:=y1) (y2:=y2) (y3:=y3) HI9.out.b (World.ownsRow_nil w9 (w.heap.size+1) 120 3))
     cases ok with
     |false=>
      have HR:=aim (show aC rdS s=none by rw [HRW.out,HV.out,HOK.out,if_neg (by simp)]);clear HI9;go_wp2;exact bodyPost_ret (v:= .tuple #[.agg #[.int .i64 0, .string ⟨#[]⟩, .slice none 0 0, .string ⟨#[]⟩], .bool false]) (by simp [results,Tryz.results18,go_sem,z0,z1,z2,z3]) rfl (by rw [HR.out];exact ⟨_,rfl,HFIZ.out _ _ _ _⟩)
     |true=>
      have HR:=aim (show aC rdS s=some (0,((baL l).extract 0 k),[],⟨#[]⟩) by rw [HRW.out,HV.out,HOK.out,if_pos rfl]);clear HI9;go_wp2;exact bodyPost_ret (v:= .tuple #[.agg #[.int .i64 0, .string ((baL l).extract 0 k),(.slice none 0 0), .string ⟨#[]⟩], .bool true]) (by simp [results,Tryz.results18,go_sem,z0,z1,z2,z3]) rfl (by rw [HR.out];exact ⟨_,rfl,HFIN.out _ _ _ _⟩)
  ·obtain rfl:k=K:=by omega
   have hltI: ¬(k:Int)<(l.length:Int):=by omega
   have HN:=aim (show baL (nmP l)=((baL l).extract 0 k) by rw [hH,HT.out]);have HD:=aim (show (baL l).extract k l.length=baL (nmQ l) by rw [←aN l,hJ,HQ.out])
   have hnm9:(((baL l).extract 0 k):ByteArray).size≤maxLen:=by rw [hH,aN,List.length_take];unfold maxLen;omega
   go_wp2_with fail;refine (tD _ (nmQ l) HD.out _ (by omega)).mono ?_;rintro e w1 ⟨he,hw1⟩;subst hw1;rw [HTQ.out] at he;subst he
   by_cases c4:q=[123]
   ·have HV:=aim (show cV rdS l=(4,((baL l).extract 0 k),[],⟨#[]⟩) by rw [HRD.out,if_pos c4,HN.out])
    subst c4;have e0:(baL ([123]:List UInt8)).toList=[123]:=ByteArray.toList_eq _;have HI:=aim (SpIt.start w 4 ((baL l).extract 0 k) ⟨#[]⟩);have HIV:=(bw (4,((baL l).extract 0 k),[],⟨#[]⟩) (.slice none 0 0) _ (RowC.of_own HI.out.o).1 hnm9 bD (air _) (by show (⟨#[]⟩:ByteArray).size≤maxLen;unfold maxLen;exact air _));simp only at HIV;generalize hok:aM (4,((baL l).extract 0 k),[],⟨#[]⟩)=ok at HIV;have HOK:=aim hok;have HIV:=aim HIV;clear hok;go_wp2_with fail;refine HIV.out.mono ?_;rintro e w9 ⟨rfl,hb9⟩;have HI9:=aim (HI.out.keep hb9);clear hb9 HI HIV;obtain ⟨⟨z0,z1,z2,z3⟩,⟨y0,y1,y2,y3⟩,hzz⟩:=HI9.out.z;obtain ⟨⟨i0,i1,i2,i3⟩,⟨j0,j1,j2,j3⟩,hii⟩:=HI9.out.i;have HFIN:=aim (fun y0 y1 y2 y3=>du (y0:=y0) (y1:=y1) (y2:=y2) (y3:=y3) HI9.out.b (ba (base':=w.heap.size+1) HI9.out.o (fun g hg=>by have:=(HI9.out.o.lt g hg).1;omega)));have HFIZ:=aim (fun y0 y1 y2 y3=>du (y0:=y0) (y1:=y1) (y2:=y2) (y3:=y3) HI9.out.b (World.ownsRow_nil w9 (w.heap.size+1) 120 3))
    cases ok with
    |false=>
     have HR:=aim (show aC rdS s=none by rw [HRW.out,HV.out,HOK.out,if_neg (by simp)]);clear HI9;go_wp2;exact bodyPost_ret (v:= .tuple #[.agg #[.int .i64 0, .string ⟨#[]⟩, .slice none 0 0, .string ⟨#[]⟩], .bool false]) (by simp [results,Tryz.results18,go_sem,z0,z1,z2,z3]) rfl (by rw [HR.out];exact ⟨_,rfl,HFIZ.out _ _ _ _⟩)
    |true=>
     have HR:=aim (show aC rdS s=some (4,((baL l).extract 0 k),[],⟨#[]⟩) by rw [HRW.out,HV.out,HOK.out,if_pos rfl]);clear HI9;go_wp2;exact bodyPost_ret (v:= .tuple #[.agg #[.int .i64 4, .string ((baL l).extract 0 k),(.slice none 0 0), .string ⟨#[]⟩], .bool true]) (by simp [results,Tryz.results18,go_sem,z0,z1,z2,z3]) rfl (by rw [HR.out];exact ⟨_,rfl,HFIN.out _ _ _ _⟩)
   have t4:((baL q).toList==[123])=false:=by rw [beq_eq_false_iff_ne,ByteArray.toList_eq];exact c4
   by_cases c6:q=[]
   ·have HV:=aim (show cV rdS l=(0,((baL l).extract 0 k),[],⟨#[]⟩) by rw [HRD.out,if_neg c4,if_neg (by rw [c6];simp),HN.out])
    subst c6;have e0:(baL ([]:List UInt8)).toList=[]:=ByteArray.toList_eq _;have HI:=aim (SpIt.start w 0 ((baL l).extract 0 k) ⟨#[]⟩);have HIV:=(bw (0,((baL l).extract 0 k),[],⟨#[]⟩) (.slice none 0 0) _ (RowC.of_own HI.out.o).1 hnm9 bD (air _) (by show (⟨#[]⟩:ByteArray).size≤maxLen;unfold maxLen;exact air _));simp only at HIV;generalize hok:aM (0,((baL l).extract 0 k),[],⟨#[]⟩)=ok at HIV;have HOK:=aim hok;have HIV:=aim HIV;clear hok;go_wp2_with fail;refine HIV.out.mono ?_;rintro e w9 ⟨rfl,hb9⟩;have HI9:=aim (HI.out.keep hb9);clear hb9 HI HIV;obtain ⟨⟨z0,z1,z2,z3⟩,⟨y0,y1,y2,y3⟩,hzz⟩:=HI9.out.z;obtain ⟨⟨i0,i1,i2,i3⟩,⟨j0,j1,j2,j3⟩,hii⟩:=HI9.out.i;have HFIN:=aim (fun y0 y1 y2 y3=>du (y0:=y0) (y1:=y1) (y2:=y2) (y3:=y3) HI9.out.b (ba (base':=w.heap.size+1) HI9.out.o (fun g hg=>by have:=(HI9.out.o.lt g hg).1;omega)));have HFIZ:=aim (fun y0 y1 y2 y3=>du (y0:=y0) (y1:=y1) (y2:=y2) (y3:=y3) HI9.out.b (World.ownsRow_nil w9 (w.heap.size+1) 120 3))
    cases ok with
    |false=>
     have HR:=aim (show aC rdS s=none by rw [HRW.out,HV.out,HOK.out,if_neg (by simp)]);clear HI9;go_wp2;exact bodyPost_ret (v:= .tuple #[.agg #[.int .i64 0, .string ⟨#[]⟩, .slice none 0 0, .string ⟨#[]⟩], .bool false]) (by simp [results,Tryz.results18,go_sem,z0,z1,z2,z3]) rfl (by rw [HR.out];exact ⟨_,rfl,HFIZ.out _ _ _ _⟩)
    |true=>
     have HR:=aim (show aC rdS s=some (0,((baL l).extract 0 k),[],⟨#[]⟩) by rw [HRW.out,HV.out,HOK.out,if_pos rfl]);clear HI9;go_wp2;exact bodyPost_ret (v:= .tuple #[.agg #[.int .i64 0, .string ((baL l).extract 0 k),(.slice none 0 0), .string ⟨#[]⟩], .bool true]) (by simp [results,Tryz.results18,go_sem,z0,z1,z2,z3]) rfl (by rw [HR.out];exact ⟨_,rfl,HFIN.out _ _ _ _⟩)
   have hq0:0<q.length:=List.length_pos_iff.mpr c6;have hqz:=aN q;have hqb:=qf q 0 (by omega)
   have t5:((baL q).toList==[])=false:=by rw [beq_eq_false_iff_ne,ByteArray.toList_eq];exact c6
   have t7:((baL q).toList !=[])=true:=by rw [bne,t5];rfl
   have hh:q.head? =some (q[0]'hq0):=by rw [List.head?_eq_getElem?,List.getElem?_eq_getElem hq0]
   have HC6:=aim c6;have HC4:=aim c4;clear c6 c4
   by_cases c5:q[0]'hq0=61
   ·have HV:=aim (show cV rdS l=(3,((baL l).extract 0 k),rdS (baL (dS (q.drop 1))),baL (es (q.drop 1))) by rw [HRD.out,if_neg HC4.out,if_pos (by rw [hh,c5]),HN.out])
    have t6:(((q[0]'hq0).toNat:Int)==61)=true:=by rw [c5];rfl
    have HDQ:=aim (show (baL q).extract 1 q.length=baL (q.drop 1) by rw [←aN q,hJ])
    have hq1:(q.drop 1).length≤2097152:=by rw [List.length_drop];omega
    have hb1:=nl (q.drop 1);have hc1:=om (q.drop 1);clear hh c5;go_wp2_with fail;refine (wu _ (q.drop 1) HDQ.out _ hq1).mono ?_;rintro e w5 ⟨rfl,hb5⟩;have HI5:=aim ((SpIt.start w 3 ((baL l).extract 0 k) ⟨#[]⟩).keep hb5);obtain ⟨⟨i0,i1,i2,i3⟩,⟨j0,j1,j2,j3⟩,hii⟩:=HI5.out.i;have HI6:=aim (HI5.out.setT (baL (es (q.drop 1))));clear hb5 hqb t6
    have hnt:(baL (es (q.drop 1))).size≤maxLen:=by rw [aN];unfold maxLen;omega
    have hsx:(baL (dS (q.drop 1))).size≤2097152:=by rw [aN];omega
    generalize baL (es (q.drop 1))=nt at*;generalize baL (dS (q.drop 1))=sx at*;go_wp2_with fail;refine (nv sx _ hsx).mono ?_;rintro e w7 ⟨hb7,hres⟩
    obtain ⟨v,ok,rfl,hown⟩: ∃(v:Value) (ok:Bool),e= .returned (.tuple #[v, .bool ok])∧w7.ownsRow (w.heap.size+2) 120 3 v (rdS sx).length (ap (rdS sx)):=by
     rcases hres with ⟨v,c,rfl,hc,ho,-⟩|⟨⟨v,rfl,ho⟩,hno⟩
     ·rw [qi hc];exact ⟨v,true,rfl,ba ho (fun g hg=>Nat.le_trans HI6.out.base (ho.lt g hg).1)⟩
     ·rw [tA hno];exact ⟨v,false,rfl,ba ho (fun g hg=>Nat.le_trans HI6.out.base (ho.lt g hg).1)⟩
    obtain ⟨va,vc,rfl⟩:=ai hown;have HSD:=aim (ol sx);have HI7:=aim (HI6.out.keep hb7);have HI:=aim (HI7.out.setV hown);clear i0 i1 i2 i3 j0 j1 j2 j3 hii;obtain ⟨⟨i0,i1,i2,i3⟩,⟨j0,j1,j2,j3⟩,hii⟩:=HI7.out.i;clear hb7 hres hown HI6 HI5 HI7;generalize rdS sx=R at*;have HIV:=(bw (3,((baL l).extract 0 k),R,nt) (.slice va R.length vc) _ (RowC.of_own HI.out.o).1 hnm9 HSD.out.1 (by have:=HSD.out.2;show R.length≤_;omega) hnt);simp only at HIV;generalize hok:aM (3,((baL l).extract 0 k),R,nt)=ok at HIV;have HOK:=aim hok;have HIV:=aim HIV;clear hok;go_wp2_with fail;refine HIV.out.mono ?_;rintro e w9 ⟨rfl,hb9⟩;have HI9:=aim (HI.out.keep hb9);clear hb9 HI HIV;obtain ⟨⟨z0,z1,z2,z3⟩,⟨y0,y1,y2,y3⟩,hzz⟩:=HI9.out.z;obtain ⟨⟨i0,i1,i2,i3⟩,⟨j0,j1,j2,j3⟩,hii⟩:=HI9.out.i;have HFIN:=aim (fun y0 y1 y2 y3=>du (y0:=y0) (y1:=y1) (y2:=y2) (y3:=y3) HI9.out.b (ba (base':=w.heap.size+1) HI9.out.o (fun g hg=>by have:=(HI9.out.o.lt g hg).1;omega)));have HFIZ:=aim (fun y0 y1 y2 y3=>du (y0:=y0) (y1:=y1) (y2:=y2) (y3:=y3) HI9.out.b (World.ownsRow_nil w9 (w.heap.size+1) 120 3))
    cases ok with
    |false=>
     have HR:=aim (show aC rdS s=none by rw [HRW.out,HV.out,HOK.out,if_neg (by simp)]);clear HI9;go_wp2;exact bodyPost_ret (v:= .tuple #[.agg #[.int .i64 0, .string ⟨#[]⟩, .slice none 0 0, .string ⟨#[]⟩], .bool false]) (by simp [results,Tryz.results18,go_sem,z0,z1,z2,z3]) rfl (by rw [HR.out];exact ⟨_,rfl,HFIZ.out _ _ _ _⟩)
    |true=>
     have HR:=aim (show aC rdS s=some (3,((baL l).extract 0 k),R,nt) by rw [HRW.out,HV.out,HOK.out,if_pos rfl]);clear HI9;go_wp2;exact bodyPost_ret (v:= .tuple #[.agg #[.int .i64 3, .string ((baL l).extract 0 k),(.slice va R.length vc), .string nt], .bool true]) (by simp [results,Tryz.results18,go_sem,z0,z1,z2,z3]) rfl (by rw [HR.out];exact ⟨_,rfl,HFIN.out _ _ _ _⟩)
   ·have HV:=aim (show cV rdS l=(0,((baL l).extract 0 k),[],⟨#[]⟩) by rw [HRD.out,if_neg HC4.out,if_neg (by rw [hh];simpa using c5),HN.out])
    have t6:(((q[0]'hq0).toNat:Int)==61)=false:=by
     rw [beq_eq_false_iff_ne];intro h;exact c5 (kR (c:=61) h)
    have HI:=aim (SpIt.start w 0 ((baL l).extract 0 k) ⟨#[]⟩);clear hh c5;have HIV:=(bw (0,((baL l).extract 0 k),[],⟨#[]⟩) (.slice none 0 0) _ (RowC.of_own HI.out.o).1 hnm9 bD (air _) (by show (⟨#[]⟩:ByteArray).size≤maxLen;unfold maxLen;exact air _));simp only at HIV;generalize hok:aM (0,((baL l).extract 0 k),[],⟨#[]⟩)=ok at HIV;have HOK:=aim hok;have HIV:=aim HIV;clear hok;go_wp2_with fail;refine HIV.out.mono ?_;rintro e w9 ⟨rfl,hb9⟩;have HI9:=aim (HI.out.keep hb9);clear hb9 HI HIV;obtain ⟨⟨z0,z1,z2,z3⟩,⟨y0,y1,y2,y3⟩,hzz⟩:=HI9.out.z;obtain ⟨⟨i0,i1,i2,i3⟩,⟨j0,j1,j2,j3⟩,hii⟩:=HI9.out.i;have HFIN:=aim (fun y0 y1 y2 y3=>du (y0:=y0) (y1:=y1) (y2:=y2) (y3:=y3) HI9.out.b (ba (base':=w.heap.size+1) HI9.out.o (fun g hg=>by have:=(HI9.out.o.lt g hg).1;omega)));have HFIZ:=aim (fun y0 y1 y2 y3=>du (y0:=y0) (y1:=y1) (y2:=y2) (y3:=y3) HI9.out.b (World.ownsRow_nil w9 (w.heap.size+1) 120 3))
    cases ok with
    |false=>
     have HR:=aim (show aC rdS s=none by rw [HRW.out,HV.out,HOK.out,if_neg (by simp)]);clear HI9;go_wp2;exact bodyPost_ret (v:= .tuple #[.agg #[.int .i64 0, .string ⟨#[]⟩, .slice none 0 0, .string ⟨#[]⟩], .bool false]) (by simp [results,Tryz.results18,go_sem,z0,z1,z2,z3]) rfl (by rw [HR.out];exact ⟨_,rfl,HFIZ.out _ _ _ _⟩)
    |true=>
     have HR:=aim (show aC rdS s=some (0,((baL l).extract 0 k),[],⟨#[]⟩) by rw [HRW.out,HV.out,HOK.out,if_pos rfl]);clear HI9;go_wp2;exact bodyPost_ret (v:= .tuple #[.agg #[.int .i64 0, .string ((baL l).extract 0 k),(.slice none 0 0), .string ⟨#[]⟩], .bool true]) (by simp [results,Tryz.results18,go_sem,z0,z1,z2,z3]) rfl (by rw [HR.out];exact ⟨_,rfl,HFIN.out _ _ _ _⟩)
end Go.Proofs.YthijkjnngfnfdaaGreatDoor
