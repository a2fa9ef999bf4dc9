/-
  Part of the proof of FnReadItem.
-/
import Derived.Test.YthijkjnngfnfdaaGreatDoorQRar
import Derived.Test.YthijkjnngfnfdaaGreatDoorQRal
set_option linter.unusedVariables false
set_option maxHeartbeats 8000000
set_option maxRecDepth 100000
namespace Go.Proofs.YthijkjnngfnfdaaGreatDoor
theorem aer {s:ByteArray} (h:nbB s≤40) (c:List Cl):SpOK s c↔RdOK s c:=by
 constructor
 ·rintro ⟨h1,h2⟩
  exact ⟨uV (Nat.le_trans (abc s) h) h1,h2⟩
 ·rintro ⟨⟨n,h1,h3⟩,h2⟩
  exact ⟨oD h1 h3,h2⟩
theorem ah9 {s:ByteArray} {c:List Cl} (h:RdOK s c):SpOK s c:=by
 obtain ⟨⟨n,h1,h3⟩,h2⟩:=h;exact ⟨oD h1 h3,h2⟩
theorem abW (m:Int×Nat×List (Int×Nat×Nat)) (a b:Nat) (h:(b7 (b7 m a 32) b 32).1=0):(b7 m a 32).1=0:=by
 obtain ⟨st,f,X⟩:=m
 by_cases h1:nB st 32=true
 ·exfalso
  have hst:st=3∨st=4∨st=11:=by
   unfold nB at h1
   by_cases a1:st=1
   ·subst a1;exact absurd h1 (by decide)
   by_cases a2:st=2
   ·subst a2;exact absurd h1 (by decide)
   by_cases a3:st=3
   ·exact .inl a3
   by_cases a4:st=4
   ·exact .inr (.inl a4)
   by_cases a11:st=11
   ·exact .inr (.inr a11)
   rw [if_neg a1,if_neg a2,if_neg (by omega)] at h1
   repeat' split at h1
   all_goals first|omega|(exact absurd h1 (by decide))|(exact absurd (of_decide_eq_true h1) a11)
  rcases hst with rfl|rfl|rfl
  ·simp [b7,nB,nS,dW] at h
  ·simp [b7,nB,nS,dW] at h
  ·simp [b7,nB,nS] at h
 ·by_cases h2:st=0
  ·subst h2;rw [cg];exact fK
  ·by_cases h3:kI st=0
   ·exfalso
    have e:b7 (st,f,X) a 32=(11,f,X):=by simp [b7,h1,h2,h3]
    rw [e,jI] at h
    simp at h
   ·rw [oe st f a X 32 h3 (by simpa using h1)];exact fK
theorem vY (l:List UInt8):cL (0,0,[]) 0 (l++[32])=b7 (cL (0,0,[]) 0 l) (l.length+1) 32:=by
 unfold cL;rw [rS,aio,Nat.zero_add,Nat.zero_add]
 rfl
theorem aeE (l:List UInt8):fd (0,0,[]) 0 (l++[32])=fd (0,0,[]) 0 l∧kE (0,0,[]) 0 (l++[32])=kE (0,0,[]) 0 l:=by
 by_cases h:(cL (0,0,[]) 0 l).1=0
 ·have e:cL (0,0,[]) 0 (l++[32])=(0,l.length+1,(cL (0,0,[]) 0 l).2.2):=by
   rw [vY];generalize cL (0,0,[]) 0 l=m at h⊢;obtain ⟨st,f,X⟩:=m;simp only at h;subst h;rw [cg,fK]
  have r1:fd (0,0,[]) 0 l=true:=by rw [fd,h];rfl
  have r2:fd (0,0,[]) 0 (l++[32])=true:=by rw [fd,e];rfl
  exact ⟨by rw [r1,r2],by rw [kE,if_pos r2,kE,if_pos r1,e]⟩
 ·have h': ¬(cL (0,0,[]) 0 (l++[32])).1=0:=by
   intro k;rw [vY] at k;exact h (abW (dD (0,0,[]) 0 l) _ _ k)
  have r1:fd (0,0,[]) 0 l=false:=by rw [fd,decide_eq_false h]
  have r2:fd (0,0,[]) 0 (l++[32])=false:=by rw [fd,decide_eq_false h']
  exact ⟨by rw [r1,r2],by rw [kE,r2,kE,r1];rfl⟩
theorem aeF (l:List UInt8):fd (0,0,[]) 0 (32::l)=fd (0,0,[]) 0 l∧kE (0,0,[]) 0 (32::l)=(kE (0,0,[]) 0 l).map (shT 1):=by
 have e:cL (0,0,[]) 0 (32::l)=shM 1 [] (cL (0,0,[]) 0 l):=by
  rw [lz _ _ _ _ _ (by decide),pV];have:=ahp 1 [] l (0,0,[]) 0
  simpa [shM] using this
 have h1:fd (0,0,[]) 0 (32::l)=fd (0,0,[]) 0 l:=by rw [fd,e,fd];rfl
 refine ⟨h1, ?_⟩;rw [kE,h1,kE,e]
 cases fd (0,0,[]) 0 l with
 |false=>rfl
 |true=>simp [shM]
theorem zG (l:List UInt8):(baL l).size=l.length:=by simp [baL,ByteArray.size]
theorem tz (l:List UInt8):okT (baL l)=(decide (l.length≤20000)&&aI l&&fd (0,0,[]) 0 l):=by rw [okT,zG,bK]
theorem aeG (l:List UInt8) (hl:l.length+1≤20000):cS (baL (l++[32]))=cS (baL l):=by
 obtain ⟨r1,r2⟩:=aeE l
 have hok:okT (baL (l++[32]))=okT (baL l):=by
  rw [tz,tz,r1,db,aio];have e1:decide (l.length+[(32:UInt8)].length≤20000)=true:=decide_eq_true hl;have e2:decide (l.length≤20000)=true:=decide_eq_true (by omega)
  have e3:aI [32]=true:=by decide
  rw [e1,e2,e3,Bool.and_true]
 have htk:aV (baL (l++[32]))=aV (baL l):=by
  rw [aV,hok,aV]
  cases okT (baL l) with
  |false=>rfl
  |true=>rw [if_pos rfl,if_pos rfl,bK,bK,r2]
 have hin:=(iE (baL l)).2.1;rw [cS,cS,htk]
 apply List.map_congr_left
 intro x hx;obtain ⟨q1,q2⟩:=hin x hx;rw [zG] at q2
 congr 1
 apply eI
 rw [ByteArray.data_extract,ByteArray.data_extract,Array.toList_extract,Array.toList_extract,List.extract_eq_take_drop,List.extract_eq_take_drop,bK,bK,List.drop_append_of_le_length (by omega),List.take_append_of_le_length (by rw [List.length_drop];omega)]
theorem agf (l:List UInt8) (hl:l.length+1≤20000):cS (baL (32::l))=cS (baL l):=by
 obtain ⟨r1,r2⟩:=aeF l
 have hok:okT (baL (32::l))=okT (baL l):=by
  rw [tz,tz,r1,dh,List.length_cons];have e1:decide (l.length+1≤20000)=true:=decide_eq_true hl;have e2:decide (l.length≤20000)=true:=decide_eq_true (by omega)
  have e3:cC (((32:UInt8).toNat:Nat):Int)=true:=by decide
  rw [e1,e2,e3,Bool.true_and]
 have htk:aV (baL (32::l))=(aV (baL l)).map (shT 1):=by
  rw [aV,hok,aV]
  cases okT (baL l) with
  |false=>rfl
  |true=>rw [if_pos rfl,if_pos rfl,bK,bK,r2]
 have hin:=(iE (baL l)).2.1;rw [cS,cS,htk,List.map_map]
 apply List.map_congr_left
 intro x hx;obtain ⟨q1,q2⟩:=hin x hx;simp only [Function.comp,shT]
 congr 1
 apply eI
 rw [ByteArray.data_extract,ByteArray.data_extract,Array.toList_extract,Array.toList_extract,List.extract_eq_take_drop,List.extract_eq_take_drop,bK,bK,show x.2.2+1-(x.2.1+1)=x.2.2-x.2.1 by omega,List.drop_succ_cons]
theorem ahC: ∀(a b:Nat) (l:List UInt8),a+(l.length+b)≤20000→cS (baL (spL a++(l++spL b)))=cS (baL l):=by
 intro a
 induction a with
 |zero=>
  intro b
  induction b with
  |zero=>intro l _;rw [show spL 0=[] from rfl,List.nil_append,List.append_nil]
  |succ b ih=>
   intro l h
   have e:spL 0++(l++spL (b+1))=(spL 0++(l++spL b))++[32]:=by
    rw [show spL (b+1)=spL b++[32] by unfold spL;exact List.replicate_succ',show spL 0=[] from rfl]
    simp
   rw [e,aeG _ (by simp [spL];omega)];exact ih l (by omega)
 |succ a ih=>
  intro b l h;have e:spL (a+1)++(l++spL b)=32::(spL a++(l++spL b)):=rfl;rw [e,agf _ (by simp [spL];omega)];exact ih b l (by omega)
theorem agh (l:List UInt8) (h:l.length≤20000):cS (baL l)=cS (baL (aD l)):=by
 obtain ⟨a,b,e,-,-⟩:=ig l;have hl:=congrArg List.length e;rw [aio,aio,show (spL a).length=a by simp [spL],show (spL b).length=b by simp [spL]] at hl;have:=ahC a b (aD l) (by omega);rw [←e] at this;exact this
theorem zH {l:List UInt8} (h:l.length≤20000) (c:List Cl):RdOK (baL l) c↔RdOK (baL (aD l)) c:=by
 unfold RdOK;rw [agh l h]
open Classical in
noncomputable def rdI (s:ByteArray):List Cl:=if h: ∃c,RdOK s c then h.choose else []
open Classical in
noncomputable def rdS (s:ByteArray):List Cl:=if h: ∃c,SpOK s c then h.choose else []
theorem oh {s:ByteArray} {c:List Cl} (h:RdOK s c):rdI s=c:=by
 have hx: ∃c,RdOK s c:=⟨c,h⟩
 unfold rdI;rw [dif_pos hx];exact hx.choose_spec.uniq h
theorem qh {s:ByteArray} (h: ∀c,¬RdOK s c):rdI s=[]:=by
 unfold rdI;rw [dif_neg];rintro ⟨c,hc⟩;exact h c hc
theorem kO {l:List UInt8} (h:l.length≤20000):rdI (baL l)=rdI (baL (aD l)):=by
 by_cases hx: ∃c,RdOK (baL l) c
 ·obtain ⟨c,hc⟩:=hx
  rw [oh hc,oh ((zH h c).mp hc)]
 ·rw [qh (fun c hc=>hx ⟨c,hc⟩),qh (fun c hc=>hx ⟨c,(zH h c).mpr hc⟩)]
theorem qi {s:ByteArray} {c:List Cl} (h:SpOK s c):rdS s=c:=by
 have hx: ∃c,SpOK s c:=⟨c,h⟩
 unfold rdS;rw [dif_pos hx];exact hx.choose_spec.uniq h
theorem tA {s:ByteArray} (h: ∀c,¬SpOK s c):rdS s=[]:=by
 unfold rdS;rw [dif_neg];rintro ⟨c,hc⟩;exact h c hc
theorem agi {s:ByteArray} (h:nbB s≤40):rdS s=rdI s:=by
 by_cases hx: ∃c,RdOK s c
 ·obtain ⟨c,hc⟩:=hx
  rw [oh hc,qi ((aer h c).mpr hc)]
 ·rw [qh (fun c hc=>hx ⟨c,hc⟩),tA (fun c hc=>hx ⟨c,(aer h c).mp hc⟩)]
theorem aeH {l:List Cl} (h:okE l=true):rdS (baL (bC l))=l:=qi (ah9 (pw h))
theorem iF {l:List Cl} (h:okE l=true):rdI (baL (bC l))=l:=oh (pw h)
theorem aeI (s:ByteArray):rdI s=[]∨RdOK s (rdI s):=by
 by_cases hx: ∃c,RdOK s c
 ·obtain ⟨c,hc⟩:=hx
  rw [oh hc];exact .inr hc
 ·exact .inl (qh (fun c hc=>hx ⟨c,hc⟩))
open Go.RowKit
theorem tH (s:ByteArray):em (rdI s)∧(rdI s).length≤60:=by
 rcases aeI s with h|h
 ·rw [h];exact ⟨fun c hc=>(by cases hc),by simp⟩
 ·refine ⟨?_,((dL _).mp h.2).1⟩
  obtain ⟨⟨n,hn,-⟩,-⟩:=h;intro x hx;have:=hn.words (B:=20000) (by omega) (fun p k w hp=>(nu s).1 _ (List.mem_of_getElem? hp)) (fun x hx=>by cases hx) x hx;unfold maxLen;omega
theorem agw {W w w':World} {L:Nat} (hb:Below W.heap.size W w) (hg:w.grownBy w' (some L)) (hL:W.heap.size≤L):Below W.heap.size W w':=
 hb.grown hg hb.size (fun r hr=>by injection hr with hr;omega)
theorem acq {w w':World} {base n L:Nat} {e:TypeId} {size:Nat} {v:Value} {xs:List Value} (h:w.ownsRow base e size v n xs) (hg:w.grownBy w' (some L)) (hL:L<base):w'.ownsRow base e size v n xs:=
 dJ h (fun g hg2=>hg.block g (h.lt g hg2).2 (fun e=>by injection e with e;have:=(h.lt g hg2).1;omega))
def acr (i:It) (w:World) (e:Ending) (w':World):Prop:=
 ∃v,e= .returned (.agg #[.int .i64 i.1, .string i.2.1,v, .string i.2.2.2])∧w'.ownsRow w.heap.size 120 3 v i.2.2.1.length (ap i.2.2.1)
theorem zV (c:List UInt8):aD (Lib.trimPrefix (oj c) [35])=es c:=by
 rcases acj c with ⟨h1,h2⟩|⟨t,h1,h2⟩
 ·rw [h1,h2];rfl
 ·rw [h1,h2]
  unfold Lib.trimPrefix Lib.hasPrefix;rw [if_pos (by simp)];rfl
theorem zW (c p:List UInt8):(Lib.trimPrefix c p).length≤c.length:=by
 unfold Lib.trimPrefix
 split
 ·rw [List.length_drop];omega
 ·exact ain _
theorem tI (c:List UInt8):(oj c).length≤c.length∧(js c).length≤c.length:=by
 rw [(ju c).1,(ju c).2,List.length_drop,List.length_take];omega
theorem acs {w w4:World} {L len:Nat} {v y0 y1 y2 y3:Value} {xs:List Value} (hg:w.grownBy w4 (some L)) (ho:w4.ownsRow (w.heap.size+1) 120 3 v len xs):
  ((((w4.setCell ⟨w.heap.size,0,none⟩ y0).setCell ⟨w.heap.size,1,none⟩ y1).setCell ⟨w.heap.size,2,none⟩ y2).setCell ⟨w.heap.size,3,none⟩ y3).ownsRow w.heap.size 120 3 v len xs∧
  w.grownBy ((((w4.setCell ⟨w.heap.size,0,none⟩ y0).setCell ⟨w.heap.size,1,none⟩ y1).setCell ⟨w.heap.size,2,none⟩ y2).setCell ⟨w.heap.size,3,none⟩ y3) (some L):=by
 have hs: ∀(x:World) (j:Nat) (y:Value),(x.setCell ⟨w.heap.size,j,none⟩ y).heap.size=x.heap.size:=fun x j y=>by simp [World.setCell]
 refine ⟨ba (dJ ho (fun g hg=> ?_)) (fun g hg=> ?_), ?_⟩
 ·have hbn:g≠w.heap.size:=by have:=(ho.lt g hg).1;omega
  rw [Below.heap_setCell _ _ _ _ hbn,Below.heap_setCell _ _ _ _ hbn,Below.heap_setCell _ _ _ _ hbn,Below.heap_setCell _ _ _ _ hbn]
 ·have:=(ho.lt g hg).1;omega
 ·refine ⟨hg.os,hg.tape,hg.output, ?_,fun b hb hn=> ?_⟩
  ·rw [hs,hs,hs,hs];exact hg.size
  ·have hbn:b≠w.heap.size:=by omega
   rw [Below.heap_setCell _ _ _ _ hbn,Below.heap_setCell _ _ _ _ hbn,Below.heap_setCell _ _ _ _ hbn,Below.heap_setCell _ _ _ _ hbn];exact hg.block b hb hn
theorem ae7 (W:World) (nm:ByteArray) (l:List UInt8) (L:Nat) (w:World) (h:ScAt w L l) (hl:l.length≤2097152) (hb:Below W.heap.size W w) (hL:W.heap.size≤L) (htab:Tab W):
  Calls Tryz.prog 107 #[.pointer (some ⟨L,0,none⟩), .string nm] w fun e w'=>acr (3,nm,rdI (baL (js l)),baL (es l)) w e w'∧w.grownBy w' (some L):=by
 have HLT:=aim h.lt;have HBA:=aim (aip w (.cells #[.int .i64 0, .string ⟨#[]⟩, .slice none 0 0, .string ⟨#[]⟩] 25) (some L));have HZ:=aim (It4.new w (.int .i64 0) (.string ⟨#[]⟩) (.slice none 0 0) (.string ⟨#[]⟩) 25);have HC:=aim (ahF l L (w.alloc (.cells #[.int .i64 0, .string ⟨#[]⟩, .slice none 0 0, .string ⟨#[]⟩] 25)) (h.below ((Below.refl _ _).alloc (ain _) _)) hl);have HB:=aim hb;have HT:=aim htab;obtain ⟨hc1,hc2⟩:=tI l;clear h hb htab
 go_enter Tryz.func107,Tryz.ntmps107
 go_wp2_with fail;refine HC.out.mono ?_;rintro e w1 ⟨rfl,hs1,hg1⟩;have HG1:=aim (ow HBA.out hg1);have HS1:=aim hs1;have HZ1:=aim (HZ.out.grown hg1 (by have:=HLT.out;intro e;injection e with e;omega));clear hs1 hg1;go_wp2_with fail;refine (rc (baL (js l)) w1 (by rw [aN];omega) (HT.out.keep (agw HB.out HG1.out hL))).mono ?_;rintro e w2 ⟨hb2,hres⟩
 obtain ⟨v,ok,rfl,hown⟩: ∃(v:Value) (ok:Bool),e= .returned (.tuple #[v, .bool ok])∧w2.ownsRow w1.heap.size 120 3 v (rdI (baL (js l))).length (ap (rdI (baL (js l)))):=by
  rcases hres with ⟨v,c,rfl,hc,ho⟩|⟨rfl,hno⟩
  ·rw [oh hc];exact ⟨v,true,rfl,ho⟩
  ·rw [qh hno];exact ⟨_,false,rfl,World.ownsRow_nil _ _ _ _⟩
 obtain ⟨va,vc,rfl⟩:=ai hown;have HG2:=aim (ow HG1.out (show w1.grownBy w2 (some L) from ⟨hb2.os,hb2.tape,hb2.output,hb2.size,fun i hi _=>hb2.block i hi⟩));have HS2:=aim (HS1.out.below hb2);have HZ2:=aim (HZ1.out.keep hb2);have HO2:=aim hown;have HL1:=aim (show L<w1.heap.size from HS1.out.lt);have HW1:=aim (show w.heap.size<w1.heap.size from by have:=HZ1.out.2.2;exact this);clear hres hown hb2 HS1 HZ1;go_wp2_with fail;refine (yV ⟨#[35]⟩ _ L w2 HS2.out).mono ?_;rintro e w3 ⟨rfl,hs3,hg3⟩;have HG3:=aim (ow HG2.out hg3);have HS3:=aim hs3;have HO3:=aim (acq HO2.out hg3 HL1.out);have HZ3:=aim (HZ2.out.grown hg3 (by have:=HLT.out;intro e;injection e with e;omega));have h3:=zW (oj l) [35];clear hs3 hg3 HS2 HO2 HZ2;go_wp2_with fail;refine (ae5 (Lib.trimPrefix (oj l) [35]) L w3 HS3.out (by omega)).mono ?_;rintro e w4 ⟨rfl,hs4,hg4⟩;have HG4:=aim (ow HG3.out hg4);have HO4:=aim (acq HO3.out hg4 HL1.out);have HZ4:=aim (HZ3.out.grown hg4 (by have:=HLT.out;intro e;injection e with e;omega));rw [zV];clear hs4 hg4 HS3 HO3 HZ3;obtain ⟨⟨z0,z1,z2,z3⟩,⟨y0,y1,y2,y3⟩,hz⟩:=HZ4.out;have HFIN:=aim (fun y0 y1 y2 y3=>acs (y0:=y0) (y1:=y1) (y2:=y2) (y3:=y3) HG4.out (ba HO4.out (fun g hg=>by have:=(HO4.out.lt g hg).1;have:=HW1.out;omega)));go_wp2;exact bodyPost_ret (v:= .agg #[.int .i64 3, .string nm, .slice va (rdI (baL (js l))).length vc, .string (baL (es l))]) (by simp [results,Tryz.results107,go_sem,z0,z1,z2,z3]) rfl ⟨⟨_,rfl,(HFIN.out _ _ _ _).1⟩,(HFIN.out _ _ _ _).2⟩
theorem hZ (l:List UInt8) (b:UInt8):Lib.hasPrefix l [b]=decide (l.head? =some b):=by
 cases l with
 |nil=>simp [Lib.hasPrefix,List.isPrefixOf]
 |cons a l=>
  by_cases h:a=b
  ·subst h;simp [Lib.hasPrefix,List.isPrefixOf]
  ·have h': ¬b=a:=fun e=>h e.symm
   simp [Lib.hasPrefix,List.isPrefixOf,h,h']
theorem rx {l:List UInt8} {b:UInt8} (h:l.head? =some b):Lib.trimPrefix l [b]=l.drop 1:=by
 unfold Lib.trimPrefix;rw [hZ,if_pos (by simpa using h)];rfl
theorem ac3 {l:List UInt8} {b:UInt8} (h:l.head? ≠some b):Lib.trimPrefix l [b]=l:=by
 unfold Lib.trimPrefix;rw [hZ,if_neg (by simpa using h)]
theorem mP (l:List UInt8):(nmQ l).length≤l.length:=by rw [jt,List.length_drop];omega
theorem zg (l:List UInt8):(trL l).length≤l.length:=by
 obtain ⟨k,hk⟩:=wt l;rw [hk,List.length_drop];omega
theorem mQ {w w':World} (k:Int) (n t:ByteArray):acr (k,n,[],t) w (.returned (.agg #[.int .i64 k, .string n, .slice none 0 0, .string t])) w':=⟨_,rfl,World.ownsRow_nil _ _ _ _⟩
theorem jB {w w4:World} {L:Nat} {y0 y1 y2 y3:Value} (hg:w.grownBy w4 (some L)):w.grownBy ((((w4.setCell ⟨w.heap.size,0,none⟩ y0).setCell ⟨w.heap.size,1,none⟩ y1).setCell ⟨w.heap.size,2,none⟩ y2).setCell ⟨w.heap.size,3,none⟩ y3) (some L):=
 (acs hg (World.ownsRow_nil w4 (w.heap.size+1) 120 3)).2
theorem ag2 (W:World) (l:List UInt8) (L:Nat) (w:World) (h:ScAt w L l) (hl:l.length≤2097152) (hb:Below W.heap.size W w) (hL:W.heap.size≤L) (htab:Tab W):
  Calls Tryz.prog 51 #[.pointer (some ⟨L,0,none⟩)] w fun e w'=>acr (fe rdI l) w e w'∧w.grownBy w' (some L):=by
 have HLT:=aim h.lt;have HBA:=aim (aip w (.cells #[.int .i64 0, .string ⟨#[]⟩, .slice none 0 0, .string ⟨#[]⟩] 25) (some L));have HZ:=aim (It4.new w (.int .i64 0) (.string ⟨#[]⟩) (.slice none 0 0) (.string ⟨#[]⟩) 25);have HS0:=aim (h.below ((Below.refl w.heap.size w).alloc (ain _) (.cells #[.int .i64 0, .string ⟨#[]⟩, .slice none 0 0, .string ⟨#[]⟩] 25)));have HB:=aim hb;have HT:=aim htab;have HLL:=aim hL;obtain ⟨d0,-⟩:=HS0.out.cells;clear h hb htab hL
 by_cases c1:l=[]
 ·subst c1
  have HR:=aim (show fe rdI []=(1,⟨#[]⟩,[],⟨#[]⟩) by rw [fe,if_pos rfl]);have e0:(baL ([]:List UInt8)).toList=[]:=ByteArray.toList_eq _
  go_enter Tryz.func51,Tryz.ntmps51
  go_wp2;exact bodyPost_ret (v:= .agg #[.int .i64 1, .string ⟨#[]⟩, .slice none 0 0, .string ⟨#[]⟩]) (by simp [results,Tryz.results51,go_sem]) rfl ⟨by rw [HR.out];exact mQ _ _ _,aip _ _ _⟩
 by_cases c2:l=[125]
 ·subst c2
  have HR:=aim (show fe rdI [125]=(5,⟨#[]⟩,[],⟨#[]⟩) by rw [fe,if_neg (by simp),if_pos rfl]);have e0:(baL ([125]:List UInt8)).toList=[125]:=ByteArray.toList_eq _
  go_enter Tryz.func51,Tryz.ntmps51
  go_wp2;exact bodyPost_ret (v:= .agg #[.int .i64 5, .string ⟨#[]⟩, .slice none 0 0, .string ⟨#[]⟩]) (by simp [results,Tryz.results51,go_sem]) rfl ⟨by rw [HR.out];exact mQ _ _ _,aip _ _ _⟩
 have t1:((baL l).toList==[])=false:=by rw [beq_eq_false_iff_ne,ByteArray.toList_eq];exact c1
 have t2:((baL l).toList==[125])=false:=by rw [beq_eq_false_iff_ne,ByteArray.toList_eq];exact c2
 have HTK:=aim (yV ⟨#[35]⟩ l L (w.alloc (.cells #[.int .i64 0, .string ⟨#[]⟩, .slice none 0 0, .string ⟨#[]⟩] 25)) HS0.out)
 by_cases c3:l.head? =some 35
 ·have HR:=aim (show fe rdI l=(2,⟨#[]⟩,[],baL (aD (l.drop 1))) by rw [fe,if_neg c1,if_neg c2,if_pos c3])
  rw [show (⟨#[35]⟩:ByteArray).data.toList=[35] from rfl,hZ,rx c3,decide_eq_true c3] at HTK;clear c1 c2 c3
  go_enter Tryz.func51,Tryz.ntmps51
  go_wp2_with fail;refine HTK.out.mono ?_;rintro e w1 ⟨rfl,hs1,hg1⟩;have HG1:=aim (ow HBA.out hg1);have HS1:=aim hs1;have HZ1:=aim (HZ.out.grown hg1 (by have:=HLT.out;intro e;injection e with e;omega));clear hs1 hg1 HTK d0;go_wp2_with fail;refine (ae5 _ L w1 HS1.out (by rw [List.length_drop];omega)).mono ?_;rintro e w2 ⟨rfl,hs2,hg2⟩;have HG2:=aim (ow HG1.out hg2);have HZ2:=aim (HZ1.out.grown hg2 (by have:=HLT.out;intro e;injection e with e;omega));obtain ⟨⟨z0,z1,z2,z3⟩,⟨y0,y1,y2,y3⟩,hz⟩:=HZ2.out;clear hs2 hg2 HS1 HZ1;generalize baL (aD (l.drop 1))=nt at HR;go_wp2;exact bodyPost_ret (v:= .agg #[.int .i64 2, .string ⟨#[]⟩, .slice none 0 0, .string nt]) (by simp [results,Tryz.results51,go_sem,z0,z1,z2,z3]) rfl ⟨by rw [HR.out];exact mQ _ _ _,jB HG2.out⟩
 rw [show (⟨#[35]⟩:ByteArray).data.toList=[35] from rfl,hZ,ac3 c3,decide_eq_false c3] at HTK;have hq1:=mP l;have hq2:=zg (nmQ l);have HC:=aim (And.intro c1 (And.intro c2 c3));clear c1 c2 c3
 go_enter Tryz.func51,Tryz.ntmps51
 go_wp2_with fail;refine HTK.out.mono ?_;rintro e w1 ⟨rfl,hs1,hg1⟩;have HG1:=aim (ow HBA.out hg1);have HS1:=aim hs1;have HZ1:=aim (HZ.out.grown hg1 (by have:=HLT.out;intro e;injection e with e;omega));clear hs1 hg1 HTK d0 t1 t2;go_wp2_with fail;refine (ahx l L w1 HS1.out hl).mono ?_;rintro e w2 ⟨rfl,hs2,hg2⟩;have HG2:=aim (ow HG1.out hg2);have HS2:=aim hs2;have HZ2:=aim (HZ1.out.grown hg2 (by have:=HLT.out;intro e;injection e with e;omega));clear hs2 hg2 HS1 HZ1;go_wp2_with fail;refine (ahN (nmQ l) L w2 HS2.out).mono ?_;rintro e w3 ⟨rfl,hs3,hg3⟩;have HG3:=aim (ow HG2.out hg3);have HS3:=aim hs3;have HZ3:=aim (HZ2.out.grown hg3 (by have:=HLT.out;intro e;injection e with e;omega));clear hs3 hg3 HS2 HZ2;obtain ⟨d3,-⟩:=HS3.out.cells;obtain ⟨⟨z0,z1,z2,z3⟩,⟨y0,y1,y2,y3⟩,hz⟩:=HZ3.out;have HTQ:=aim (yV ⟨#[61]⟩ (trL (nmQ l)) L w3 HS3.out);have HRD:=aim (show fe rdI l=if trL (nmQ l)=[123] then (4,baL (nmP l),[],⟨#[]⟩) else if (trL (nmQ l)).head? =some 61 then (3,baL (nmP l),rdI (baL (js ((trL (nmQ l)).drop 1))),baL (es ((trL (nmQ l)).drop 1))) else (0,⟨#[]⟩,[],⟨#[]⟩) by rw [fe,if_neg HC.out.1,if_neg HC.out.2.1,if_neg HC.out.2.2]);generalize trL (nmQ l)=q at d3 HTQ HRD hq2;generalize baL (nmP l)=nm at HRD;clear HS3 HC
 by_cases c4:q=[123]
 ·subst c4
  have e0:(baL ([123]:List UInt8)).toList=[123]:=ByteArray.toList_eq _;have HR:=aim (show fe rdI l=(4,nm,[],⟨#[]⟩) by rw [HRD.out,if_pos rfl]);go_wp2;exact bodyPost_ret (v:= .agg #[.int .i64 4, .string nm, .slice none 0 0, .string ⟨#[]⟩]) (by simp [results,Tryz.results51,go_sem,z0,z1,z2,z3]) rfl ⟨by rw [HR.out];exact mQ _ _ _,jB HG3.out⟩
 have t4:((baL q).toList==[123])=false:=by rw [beq_eq_false_iff_ne,ByteArray.toList_eq];exact c4
 by_cases c5:q.head? =some 61
 ·have HR:=aim (show fe rdI l=(3,nm,rdI (baL (js (q.drop 1))),baL (es (q.drop 1))) by rw [HRD.out,if_neg c4,if_pos c5])
  rw [show (⟨#[61]⟩:ByteArray).data.toList=[61] from rfl,hZ,rx c5,decide_eq_true c5] at HTQ;clear c4 c5 z0 z1 z2 z3 y0 y1 y2 y3 hz;go_wp2_with fail;refine HTQ.out.mono ?_;rintro e w4 ⟨rfl,hs4,hg4⟩;have HG4:=aim (ow HG3.out hg4);have HS4:=aim hs4;have HZ4:=aim (HZ3.out.grown hg4 (by have:=HLT.out;intro e;injection e with e;omega));have HW4:=aim (show w.heap.size<w4.heap.size from HZ4.out.2.2);clear hs4 hg4 HTQ d3 t4 HZ3;go_wp2_with fail;refine (ae7 W nm (q.drop 1) L w4 HS4.out (by rw [List.length_drop];omega) (agw HB.out HG4.out HLL.out) HLL.out HT.out).mono ?_;rintro e w5 ⟨⟨v,rfl,ho5⟩,hg5⟩;simp only at ho5;obtain ⟨va,vc,rfl⟩:=ai ho5;have HG5:=aim (ow HG4.out hg5);have HO5:=aim (ba (base':=w.heap.size+1) ho5 (fun g hg=>by have:=(ho5.lt g hg).1;have:=HW4.out;omega));obtain ⟨⟨z0,z1,z2,z3⟩,⟨y0,y1,y2,y3⟩,hz⟩:=HZ4.out.grown hg5 (by have:=HLT.out;intro e;injection e with e;omega);clear ho5 hg5 HS4 HZ4;generalize rdI (baL (js (q.drop 1)))=R at HR HO5;generalize baL (es (q.drop 1))=nt at HR;have HFIN:=aim (fun y0 y1 y2 y3=>acs (y0:=y0) (y1:=y1) (y2:=y2) (y3:=y3) HG5.out HO5.out);go_wp2;exact bodyPost_ret (v:= .agg #[.int .i64 3, .string nm, .slice va R.length vc, .string nt]) (by simp [results,Tryz.results51,go_sem,z0,z1,z2,z3]) rfl ⟨by rw [HR.out];exact ⟨_,rfl,(HFIN.out _ _ _ _).1⟩,(HFIN.out _ _ _ _).2⟩
 ·have HR:=aim (show fe rdI l=(0,⟨#[]⟩,[],⟨#[]⟩) by rw [HRD.out,if_neg c4,if_neg c5])
  rw [show (⟨#[61]⟩:ByteArray).data.toList=[61] from rfl,hZ,decide_eq_false c5] at HTQ;clear c4 c5 z0 z1 z2 z3 y0 y1 y2 y3 hz;go_wp2_with fail;refine HTQ.out.mono ?_;rintro e w4 ⟨rfl,hs4,hg4⟩;have HG4:=aim (ow HG3.out hg4);obtain ⟨⟨z0,z1,z2,z3⟩,⟨y0,y1,y2,y3⟩,hz⟩:=HZ3.out.grown hg4 (by have:=HLT.out;intro e;injection e with e;omega);clear hs4 hg4 HTQ d3 t4 HZ3;go_wp2;exact bodyPost_ret (v:= .agg #[.int .i64 0, .string ⟨#[]⟩, .slice none 0 0, .string ⟨#[]⟩]) (by simp [results,Tryz.results51,go_sem,z0,z1,z2,z3]) rfl ⟨by rw [HR.out];exact mQ _ _ _,jB HG4.out⟩
theorem aci (l:List UInt8) (hl:l.length≤2097152):(fe rdI l).2.1.size≤2097152∧em (fe rdI l).2.2.1∧(fe rdI l).2.2.1.length≤60∧(fe rdI l).2.2.2.size≤2097152:=by
 have h1:(nmP l).length≤l.length:=by
  have:=congrArg List.length (iU l);rw [List.length_take] at this;omega
 have h2:=mP l;have h3:=zg (nmQ l)
 have hz:em []:=fun c hc=>by cases hc
 have e0:(⟨#[]⟩:ByteArray).size=0:=rfl;unfold fe
 split
 ·exact ⟨by show (⟨#[]⟩:ByteArray).size≤_;omega,hz,by simp,by show (⟨#[]⟩:ByteArray).size≤_;omega⟩
 split
 ·exact ⟨by show (⟨#[]⟩:ByteArray).size≤_;omega,hz,by simp,by show (⟨#[]⟩:ByteArray).size≤_;omega⟩
 split
 ·refine ⟨by show (⟨#[]⟩:ByteArray).size≤_;omega,hz,by simp, ?_⟩
  show (baL (aD (l.drop 1))).size≤_
  rw [aN];have:=b6 (l.drop 1);rw [List.length_drop] at this;omega
 split
 ·exact ⟨by show (baL (nmP l)).size≤_;rw [aN];omega,hz,by simp,by show (⟨#[]⟩:ByteArray).size≤_;omega⟩
 split
 ·refine ⟨by show (baL (nmP l)).size≤_;rw [aN];omega,(tH _).1,(tH _).2, ?_⟩
  show (baL (es ((trL (nmQ l)).drop 1))).size≤_
  rw [aN]
  have: ∀m:List UInt8,(es m).length≤m.length:=fun m=>by
   unfold es
   split
   ·rename_i k _
    have:=b6 (m.drop (k+1));rw [List.length_drop] at this;omega
   ·simp
  have:=this ((trL (nmQ l)).drop 1);rw [List.length_drop] at this;omega
 ·exact ⟨by show (⟨#[]⟩:ByteArray).size≤_;omega,hz,by simp,by show (⟨#[]⟩:ByteArray).size≤_;omega⟩
def qt (o:Option It) (w:World) (e:Ending) (w':World):Prop:=
 ∃v,e= .returned (.tuple #[.agg #[.int .i64 (o.getD cE).1, .string (o.getD cE).2.1,v, .string (o.getD cE).2.2.2], .bool o.isSome])∧w'.ownsRow w.heap.size 120 3 v (o.getD cE).2.2.1.length (ap (o.getD cE).2.2.1)∧Below w.heap.size w w'
theorem du {w w4:World} {len:Nat} {v y0 y1 y2 y3:Value} {xs:List Value} (hg:Below w.heap.size w w4) (ho:w4.ownsRow (w.heap.size+1) 120 3 v len xs):
  ((((w4.setCell ⟨w.heap.size,0,none⟩ y0).setCell ⟨w.heap.size,1,none⟩ y1).setCell ⟨w.heap.size,2,none⟩ y2).setCell ⟨w.heap.size,3,none⟩ y3).ownsRow w.heap.size 120 3 v len xs∧
  Below w.heap.size w ((((w4.setCell ⟨w.heap.size,0,none⟩ y0).setCell ⟨w.heap.size,1,none⟩ y1).setCell ⟨w.heap.size,2,none⟩ y2).setCell ⟨w.heap.size,3,none⟩ y3):=by
 refine ⟨ba (dJ ho (fun g hg=> ?_)) (fun g hg=> ?_), ?_⟩
 ·have hbn:g≠w.heap.size:=by have:=(ho.lt g hg).1;omega
  rw [Below.heap_setCell _ _ _ _ hbn,Below.heap_setCell _ _ _ _ hbn,Below.heap_setCell _ _ _ _ hbn,Below.heap_setCell _ _ _ _ hbn]
 ·have:=(ho.lt g hg).1;omega
 ·exact (((hg.setCell (p:=⟨w.heap.size,0,none⟩) (ain _) _).setCell (p:=⟨w.heap.size,1,none⟩) (ain _) _).setCell (p:=⟨w.heap.size,2,none⟩) (ain _) _).setCell (p:=⟨w.heap.size,3,none⟩) (ain _) _
theorem fp (s:ByteArray) (w:World) (hs:s.size≤2097152) (htab:Tab w):
  Calls Tryz.prog 15 #[.string s] w (qt (jJ rdI s) w):=by
 have hl:s.data.toList.length≤2097152:=by rw [Array.length_toList];exact hs
 have hlt:=b6 s.data.toList;have HBA:=aim ((Below.refl w.heap.size w).alloc (ain _) (.cells #[.int .i64 0, .string ⟨#[]⟩, .slice none 0 0, .string ⟨#[]⟩] 25));have HZ:=aim (It4.new w (.int .i64 0) (.string ⟨#[]⟩) (.slice none 0 0) (.string ⟨#[]⟩) 25);have HT:=aim htab
 have hsz:(w.alloc (.cells #[.int .i64 0, .string ⟨#[]⟩, .slice none 0 0, .string ⟨#[]⟩] 25)).heap.size=w.heap.size+1:=by simp
 have HSZ:=aim hsz;have HRW:=aim (show jJ rdI s=if aM (fe rdI (aD s.data.toList))=true then some (fe rdI (aD s.data.toList)) else none from rfl);have HSD:=aim (aci (aD s.data.toList) (by omega));clear htab hsz
 go_enter Tryz.func15,Tryz.ntmps15
 go_wp2_with fail;refine (Tryz.strings_Trim_one s 32 (by decide) _ (by omega)).mono ?_;rintro e w1 ⟨rfl,hw1⟩;rw [wl,ns];have HG1:=aim (ahM hw1 none)
 have hs1:w1.heap.size=w.heap.size+1:=by
  rcases hw1 with rfl|rfl
  ·exact HSZ.out
  ·exact HSZ.out
 have HS1:=aim hs1;have HZ1:=aim (HZ.out.grown HG1.out (by simp));have HB1:=aim (HBA.out.grown HG1.out (by simp) (fun r hr=>by cases hr));clear hw1 hs1;have HNW:=aim (ScAt.new w1 (aD s.data.toList));have HB2:=aim (HB1.out.alloc HB1.out.size (.cells #[.string (baL (aD s.data.toList))] 75));have HZ2:=aim (HZ1.out.al (.cells #[.string (baL (aD s.data.toList))] 75));have HIT:=aim (ag2 w (aD s.data.toList) w1.heap.size _ HNW.out (by omega) HB2.out HB1.out.size HT.out);generalize aD s.data.toList=l at HIT HRW HSD HB2 HZ2 HNW⊢;generalize fe rdI l=i at HIT HRW HSD;clear HZ HG1 HNW hlt;go_wp2_with fail;refine HIT.out.mono ?_;rintro e w3 ⟨⟨v,rfl,ho3⟩,hg3⟩;obtain ⟨k,n,x,t⟩:=i;simp only at ho3;obtain ⟨va,vc,rfl⟩:=ai ho3;have HB3:=aim (HB2.out.grown hg3 HB2.out.size (fun r hr=>by injection hr with hr;have:=HB1.out.size;omega));have HZ3:=aim (HZ2.out.grown hg3 (by intro e;injection e with e;have:=HS1.out;omega));have HO3:=aim (ba (base':=w.heap.size+1) ho3 (fun g hg=>by have h1:=(ho3.lt g hg).1;have h2:=HS1.out;simp at h1;omega));clear ho3 hg3 HIT HZ2 HB2 HB1 HZ1 HS1;have HZ4:=aim (HZ3.out.al (.cells #[.int .i64 k, .string n, .slice va x.length vc, .string t] 25));have HB4:=aim (HB3.out.alloc HB3.out.size (.cells #[.int .i64 k, .string n, .slice va x.length vc, .string t] 25));have HI4:=aim (It4.new w3 (.int .i64 k) (.string n) (.slice va x.length vc) (.string t) 25);have HO4:=aim (HO3.out.alloc (.cells #[.int .i64 k, .string n, .slice va x.length vc, .string t] 25));have HIV:=aim (fU (k,n,x,t) (.slice va x.length vc) _ (RowC.of_own HO4.out).1 (by have:=HSD.out.1;show n.size≤maxLen;unfold maxLen;simp only at this;omega) HSD.out.2.1 (by have:=HSD.out.2.2.2;show t.size≤maxLen;unfold maxLen;simp only at this;omega) (HT.out.keep HB4.out));simp only at HIV;generalize hok:aM (k,n,x,t)=ok at HIV HRW;clear hok;go_wp2_with fail;refine HIV.out.mono ?_;rintro e w5 ⟨rfl,hb5⟩;have HB5:=aim (HB4.out.trans (hb5.mono HB4.out.size));have HZ5:=aim (HZ4.out.keep hb5);have HI5:=aim (HI4.out.keep hb5);have HO5:=aim (HO4.out.kept (row:=none) ⟨hb5.os,hb5.tape,hb5.output,hb5.size,fun i hi _=>hb5.block i hi⟩ (by cases hv:Value.ownBlock (.slice va x.length vc) with|none=>exact .inl rfl|some x=>exact .inr (by simp)));have HNE:=aim (show w.heap.size≠w3.heap.size by have:=HZ3.out.2.2;omega);obtain ⟨⟨z0,z1,z2,z3⟩,⟨y0,y1,y2,y3⟩,hz⟩:=HZ5.out;obtain ⟨⟨i0,i1,i2,i3⟩,⟨j0,j1,j2,j3⟩,hi⟩:=HI5.out;have HFIN:=aim (fun y0 y1 y2 y3=>du (y0:=y0) (y1:=y1) (y2:=y2) (y3:=y3) HB5.out HO5.out);have HFIZ:=aim (fun y0 y1 y2 y3=>du (y0:=y0) (y1:=y1) (y2:=y2) (y3:=y3) HB5.out (World.ownsRow_nil w5 (w.heap.size+1) 120 3));clear hb5 HB4 HZ4 HI4 HO4 HIV HSD
 cases ok with
 |false=>
  have HR:=aim (show jJ rdI s=none by rw [HRW.out,if_neg (by simp)]);go_wp2;exact bodyPost_ret (v:= .tuple #[.agg #[.int .i64 0, .string ⟨#[]⟩, .slice none 0 0, .string ⟨#[]⟩], .bool false]) (by simp [results,Tryz.results15,go_sem,z0,z1,z2,z3]) rfl (by rw [HR.out];exact ⟨_,rfl,HFIZ.out _ _ _ _⟩)
 |true=>
  have HR:=aim (show jJ rdI s=some (k,n,x,t) by rw [HRW.out,if_pos rfl]);go_wp2;exact bodyPost_ret (v:= .tuple #[.agg #[.int .i64 k, .string n, .slice va x.length vc, .string t], .bool true]) (by simp [results,Tryz.results15,go_sem,z0,z1,z2,z3]) rfl (by rw [HR.out];exact ⟨_,rfl,HFIN.out _ _ _ _⟩)
theorem qp (i:It) (D W:Nat):(bv i D W).length≤2*D+i.2.1.size+W+i.2.2.2.size+12020:=by
 have h1:i.2.1.data.toList.length=i.2.1.size:=by rw [Array.length_toList];rfl
 have h2:i.2.2.2.data.toList.length=i.2.2.2.size:=by rw [Array.length_toList];rfl
 have h3:=gv i.2.2.1
 have h4: ∀n,(spL n).length=n:=fun n=>by simp [spL]
 unfold bv dF
 repeat' split
 all_goals simp only [aio,List.length_cons,List.length_nil,h4,h1,h2]
 all_goals omega
end Go.Proofs.YthijkjnngfnfdaaGreatDoor
