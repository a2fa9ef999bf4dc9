/-
  Part of the proof of FnReadItem.
-/
import Derived.Test.YthijkjnngfnfdaaGreatDoorQRag
set_option linter.unusedVariables false
set_option maxHeartbeats 4000000
set_option maxRecDepth 100000
namespace Go.Proofs.YthijkjnngfnfdaaGreatDoor
def cS (s:ByteArray):List Tk:=(aV s).map fun x=>(x.1,s.extract x.2.1 x.2.2)
theorem aet {b:UInt8} (h:sgB b=true):6≤aF (b.toNat:Int)∧aF (b.toNat:Int)≤10:=by
 simp only [sgB,Bool.or_eq_true,beq_iff_eq] at h
 rcases h with ((((((((((((((((h|h)|h)|h)|h)|h)|h)|h)|h)|h)|h)|h)|h)|h)|h)|h)|h)|h
 all_goals (subst h;decide)
theorem ahy {st:Int} {t:List UInt8} (h1:6≤st) (h2:st≤10) (h:eE st t=true):fin st t=st∨fin st t=10:=by
 have e10: ∀n,nB 10 n=false:=fun n=>by simp [nB]
 cases t with
 |nil=>exact .inl rfl
 |cons c r=>
  right
  simp only [eE,Bool.and_eq_true] at h
  by_cases hst:st=10
  ·subst hst;rw [e10] at h;cases h.1
  ·have hn:nS st (c.toNat:Int)=10:=by
    have:st=6∨st=7∨st=8∨st=9:=by omega
    rcases this with rfl|rfl|rfl|rfl<;>rfl
   rw [fin,hn];rw [hn] at h
   cases r with
   |nil=>rfl
   |cons d r=>simp only [eE,Bool.and_eq_true,e10] at h;cases h.2.1
theorem agI {st:Int} (h:kI st≠0):1≤kI st∧kI st≤4:=by
 unfold kI at h⊢
 repeat' split at h
 all_goals first|(exact absurd rfl h)|(repeat' split)<;>omega
theorem aia {st:Int} (h1:6≤st) (h2:st≤10) (h:kI st≠0):kI st=4:=by
 have:st=6∨st=7∨st=8∨st=9∨st=10:=by omega
 rcases this with rfl|rfl|rfl|rfl|rfl
 ·rfl
 ·exact absurd rfl h
 ·exact absurd rfl h
 ·exact absurd rfl h
 ·rfl
theorem TokAt.kinds {l:List UInt8} {n:Nat} {k:Int} (h:TokAt l n k):1≤k∧k≤4∧(k≠4→ ∀b t,l.take n=b::t→sgB b=false):=by
 obtain ⟨b,t,ht,hs,hk,hk0,-⟩:=h;subst hk;refine ⟨(agI hk0).1,(agI hk0).2,fun h4 b' t' he=> ?_⟩;rw [ht] at he
 injection he with e1 e2
 subst e1 e2
 cases hb:sgB b with
 |false=>rfl
 |true=>
  obtain ⟨f1,f2⟩:=aet hb
  rcases ahy f1 f2 hs with h|h
  ·rw [h] at h4 hk0;exact absurd (aia f1 f2 hk0) h4
  ·rw [h] at h4;exact absurd rfl h4
theorem oG (ts:List (Int×Nat×Nat)): ∀(a:Nat) (l:List UInt8),lX a l ts→ts.length≤l.length∧ ∀x∈ts,1≤x.1∧x.1≤4∧(x.1≠4→ ∀b t,(l.drop (x.2.1-a)).take (x.2.2-x.2.1)=b::t→sgB b=false):=by
 induction ts with
 |nil=>intro a l _;exact ⟨air _,fun x hx=>by cases hx⟩
 |cons y ts ih=>
  intro a l h;obtain ⟨k,f,t⟩:=y;obtain ⟨j,n,rfl,rfl,h3,h4,h5,h6⟩:=h;have hle:=h5.le;rw [List.length_drop] at hle;obtain ⟨i1,i2⟩:=ih _ _ h6;rw [List.length_drop] at i1;have hin:=pX ts _ _ h6;refine ⟨by rw [List.length_cons];omega,fun x hx=> ?_⟩
  rcases List.mem_cons.mp hx with rfl|hx
  ·have:=h5.kinds
   simp only [Nat.add_sub_cancel_left] at this⊢;exact this
  ·obtain ⟨k1,k2,k3⟩:=i2 x hx
   have h7:=(hin x hx).1;refine ⟨k1,k2,fun h4' b t' he=>k3 h4' b t' ?_⟩;rw [List.drop_drop,show j+n+(x.2.1-(a+j+n))=x.2.1-a by omega];exact he
theorem my {s:ByteArray}:lX 0 s.data.toList (aV s)∨aV s=[]:=by
 by_cases h:okT s=true
 ·left
  rw [aV,if_pos h];simp only [okT,Bool.and_eq_true] at h;exact abF h.2
 ·right;rw [aV,if_neg h]
theorem vX (s:ByteArray) (hs:s.size≤20000∨okT s=true):(aV s).length≤20000∧(aV s≠[]→s.size≤20000):=by
 have h20:okT s=true→s.size≤20000:=fun h=>by simp only [okT,Bool.and_eq_true,decide_eq_true_eq] at h;exact h.1.1
 by_cases h:okT s=true
 ·have:=h20 h
  rcases my (s:=s) with hc|hc
  ·have:=(oG _ _ _ hc).1
   rw [bG] at this;exact ⟨by omega,fun _=>by omega⟩
  ·rw [hc];exact ⟨air _,fun _=>by omega⟩
 ·rw [aV,if_neg h];exact ⟨air _,fun h=>absurd rfl h⟩
theorem iE (s:ByteArray):(aV s).length≤20000∧(∀x∈aV s,x.2.1≤x.2.2∧x.2.2≤s.size)∧sJ (cS s)∧ ∀x∈aV s,1≤x.1∧x.1≤4:=by
 by_cases h:okT s=true
 ·refine ⟨(vX s (.inr h)).1, ?_⟩
  rcases my (s:=s) with hc|hc
  ·have hin:=pX _ _ _ hc
   obtain ⟨-,hk⟩:=oG _ _ _ hc;refine ⟨fun x hx=> ?_, ?_,fun x hx=>⟨(hk x hx).1,(hk x hx).2.1⟩⟩
   ·have:=hin x hx;rw [bG] at this;omega
   ·intro p k w hp hk4 b t hb
    simp only [cS,List.getElem?_map,Option.map_eq_some_iff] at hp;obtain ⟨x,hx,he⟩:=hp
    injection he with e1 e2
    subst e1 e2;have hm:=List.mem_of_getElem? hx;refine (hk x hm).2.2 hk4 b t ?_;rw [←hb,ByteArray.data_extract,Array.toList_extract,List.extract_eq_take_drop]
    simp
  ·rw [hc];exact ⟨(fun x hx=>by cases hx),(fun p k w hp=>by simp [cS,hc] at hp),(fun x hx=>by cases hx)⟩
 ·have hc:aV s=[]:=by rw [aV,if_neg h]
  rw [hc];exact ⟨air _,(fun x hx=>by cases hx),(fun p k w hp=>by simp [cS,hc] at hp),(fun x hx=>by cases hx)⟩
open Go.RowKit
def aic (v:Value):Prop:= ∃a n c,v= .slice a n c
theorem acd {w w1:World} {base:Nat} {e:TypeId} {size n:Nat} {v:Value} {xs:List Value} (h:w.ownsRow base e size v n xs) (hb:Below w.heap.size w w1):w1.ownsRow base e size v n xs:=
 h.kept (row:=none) ⟨hb.os,hb.tape,hb.output,hb.size,fun i hi _=>hb.block i hi⟩ (by cases hv:v.ownBlock with|none=>exact .inl rfl|some x=>exact .inr (by simp))
def RdOK (s:ByteArray) (c:List Cl):Prop:=(∃n,Rg (cS s) .choice 0 c (cS s).length 0 n∧n≤40)∧okE c=true
theorem RdOK.uniq {s:ByteArray} {c d:List Cl} (h:RdOK s c) (k:RdOK s d):c=d:=by
 obtain ⟨⟨n,h1,-⟩,-⟩:=h;obtain ⟨⟨m,k1,-⟩,-⟩:=k;exact (h1.uniq k1).1
def aeQ (s:ByteArray) (w:World) (e:Ending) (w':World):Prop:=
 Below w.heap.size w w'∧((∃v c,e= .returned (.tuple #[v, .bool true])∧RdOK s c∧w'.ownsRow w.heap.size 120 3 v c.length (ap c))∨(e= .returned (.tuple #[.slice none 0 0, .bool false])∧ ∀c,¬RdOK s c))
theorem ace (s:ByteArray):(hY s).size≤s.size:=by
 cases h:bZ s with
 |false=>rw [kX h];exact air _
 |true=>
  obtain ⟨h1,h2⟩:=so h
  have:s.data.toList=bB (hY s).data.toList:=by
   have e:=congrArg (fun z:ByteArray=>z.data.toList) h2;simp only [cX,if_pos h1] at e;exact e.symm
  have hl:=(jT (hY s).data.toList).1;have e1:=bG s;have e2:=bG (hY s);rw [this] at e1;simp only [bB,List.length_cons,aio,List.length_nil] at e1
  omega
theorem Rg.words {tk:List Tk} {B:Nat} (hB:60≤B) (ht: ∀(p:Nat) (k:Int) (s:ByteArray),tk[p]? =some (k,s)→s.size≤B) {j:GJob} {p:Nat} {c:List Cl} {q m n:Nat} (h:Rg tk j p c q m n):(∀x∈j.held,x.2.1.size≤B)→ ∀x∈c,x.2.1.size≤B:=by
 induction h with
 |one h1 h2 i=>exact i
 |eC h1 h2 h3 h4 h5 i1 i2 i3=>
  intro hh x hx;simp only [List.mem_cons,List.mem_append] at hx
  have hn: ∀x∈([]:List Cl),x.2.1.size≤B:=fun x hx=>by cases hx
  rcases hx with rfl|hx|hx|hx
  ·exact air _
  ·exact i1 hn x hx
  ·exact i2 hn x hx
  ·exact i3 hn x hx
 |bin h1 h2 i1 i2=>intro hh;exact i2 (i1 hh)
 |stop h=>exact fun hh=>hh
 |more h1 h2 h3 h4 h5 h6 h7 i1 i2=>
  intro hh;refine i2 (fun x hx=> ?_);simp only [GJob.held,List.mem_cons,List.mem_append] at hx
  rcases hx with rfl|hx|hx
  ·exact ht _ _ _ h4
  ·exact hh x hx
  ·exact i1 (fun x hx=>by cases hx) x hx
 |sign h1 h2 h3 i=>
  intro hh x hx
  rcases List.mem_cons.mp hx with rfl|hx
  ·exact ht _ _ _ h2
  ·exact i hh x hx
 |plain h1 h2 i=>exact i
 | @num p s h1 h2=>
  intro hh x hx;simp only [List.mem_singleton] at hx;subst hx
  have:(lS s).size≤60:=by rw [←bG];exact oJ _ _
  show (lS s).size≤B
  omega
 | @text p s h1 h2=>
  intro hh x hx;simp only [List.mem_singleton] at hx;subst hx;exact Nat.le_trans (ace s) (ht _ _ _ h1)
 |truth h1 h2=>intro hh x hx;simp only [List.mem_singleton] at hx;subst hx;exact ht _ _ _ h1
 |name h1 h2 h3 h4=>intro hh x hx;simp only [List.mem_singleton] at hx;subst hx;exact ht _ _ _ h1
 |call h1 h2 h3 h4 h5 i=>
  intro hh x hx
  rcases List.mem_cons.mp hx with rfl|hx
  ·exact ht _ _ _ h1
  ·exact i hh x hx
 |paren h1 h2 h3 i=>exact i
 |list h1 h2 i=>
  intro hh x hx
  rcases List.mem_cons.mp hx with rfl|hx
  ·exact air _
  ·exact i hh x hx
 |close h=>exact fun hh=>hh
 |part h1 h2 h3 h4 h5 i1 i2=>
  intro hh;refine i2 (fun x hx=> ?_);simp only [GJob.held,List.mem_append] at hx
  rcases hx with hx|hx
  ·exact hh x hx
  ·exact i1 (fun x hx=>by cases hx) x hx
theorem rc (s:ByteArray) (w:World) (hs:s.size≤2097152) (htab:Tab w):
  Calls Tryz.prog 142 #[.string s] w (aeQ s w):=by
 obtain ⟨f1,f2,f3,f4⟩:=iE s;have HF1:=aim f1;have HF2:=aim f2;have HF3:=aim f3;have HF4:=aim f4;have HT:=aim htab
 have hls:s.size≤maxLen:=by unfold maxLen;omega
 have HTK:=aim (qX s w hls);have HRK:=aim (show cS s=(aV s).map fun x=>(x.1,s.extract x.2.1 x.2.2) from rfl)
 have hrl:(cS s).length=(aV s).length:=by simp [cS]
 clear f1 f2 f3 f4 htab hls
 go_enter Tryz.func142,Tryz.ntmps142
 go_wp2_with fail;refine HTK.out.mono ?_;rintro e w2 ⟨tv,rfl,ho2,hb2⟩;have hrow:=RowT.of_own ho2;obtain ⟨-,ao,cap,rfl,-⟩:=hrow;have HCX:=aim (show Cx w2 w2.heap.size s (.slice ao (aV s).length cap) (aV s) (cS s) from ⟨RowT.of_own ho2,HF1.out,HRK.out,HF2.out,hs,HF3.out,HF4.out,ain _⟩);have HTB:=aim (HT.out.keep hb2);have HB2:=aim hb2;have HBA:=aim ((Below.refl w2.heap.size w2).alloc (ain _) (.cells #[.string s, .slice ao (aV s).length cap, .int .i64 0, .int .i64 0] 195));have HRD:=aim (show RdAt (w2.alloc (.cells #[.string s, .slice ao (aV s).length cap, .int .i64 0, .int .i64 0] 195)) w2.heap.size s (.slice ao (aV s).length cap) 0 0 from heap_alloc_new w2 _);clear ho2 hb2;go_wp2_with fail;refine ((ahS HTB.out HCX.out (10*(cS s).length+8)).choice 0 0 _ HBA.out HRD.out (air _) (by omega) (by omega)).mono ?_;rintro e w4 ⟨hg4,q,hq,hr4,hres⟩;have HB4:=aim (bu HBA.out (show World.grownBy _ w4 (some w2.heap.size) from hg4) (ain _));have HBW:=aim (HB2.out.trans (HB4.out.mono HB2.out.size));have HR4:=aim hr4;obtain ⟨⟨q0,q1,q2,q3⟩,-⟩:=hr4.cells;have hs2:=HB2.out.size
 rcases hres with ⟨M,c,n,rfl,ht,hd⟩|⟨rfl,hno⟩
 ·obtain ⟨n4,-⟩:=ht.nest
  have hMl:=ht.lt;have hnn:=hd.nest;simp only at hnn;have HT4:=aim (ht.tree (hi:=w4.heap.size) hMl.2);have HD:=aim hd;have hcl:=hd.le.1;simp only [GJob.held,List.length_nil] at hcl;clear ht hd hg4 hr4;have hf1:=HF1.out
  by_cases hql:q=(aV s).length
  ·subst hql
   by_cases hn40:n≤40
   ·have hn40': ¬(40:Int)<(n:Int):=by omega
    have HSZ:=aim (show em c from fun x hx=>by
     have:=HD.out.words (B:=2097152) (by omega) (fun p k wd hp=>by
      obtain ⟨_,wd',h1,-,-,h4⟩:=HCX.out.at (dP hp)
      rw [hp] at h1;injection h1 with h1;injection h1 with h1 h2;rw [h2];exact h4) (fun x hx=>by cases hx) x hx
     unfold maxLen;omega)
    go_wp2_with fail;refine (sQ w4 _ c.length w4.heap.size M c [] (.slice none 0 0) w4 HT4.out (ain _) (by simp;omega) (Below.refl _ _) (World.ownsRow_nil _ _ _ _)).mono ?_;rintro e w5 ⟨v5,rfl,ho5,hb5⟩;rw [List.nil_append] at ho5;have HO5:=aim ho5;have HB5:=aim (HBW.out.trans (hb5.mono HBW.out.size));have HRC:=aim (RowC.of_own ho5).1;have HT5:=aim (HT.out.keep HB5.out)
    have hsl:aic v5:=by
     obtain ⟨a,b,hv,-⟩:=HRC.out;exact ⟨_,_,_,hv⟩
    clear ho5 hb5;obtain ⟨va,vn,vc,rfl⟩:=hsl;go_wp2_with fail;refine (kL _ c w5 HRC.out HSZ.out HT5.out).mono ?_;rintro e w6 ⟨rfl,hb6⟩;have HB6:=aim (HB5.out.trans (hb6.mono HB5.out.size));have HO6:=aim (acd HO5.out hb6);clear hb6
    cases hok:okE c with
    |true=>
     have HDD:=aim (show RdOK s c from ⟨⟨n,by rw [hrl];exact HD.out,hn40⟩,hok⟩);clear hok;go_wp2;go_ret2;exact ⟨HB6.out, .inl ⟨_,c,rfl,HDD.out,HO6.out.mono (by have:=HBW.out.size;omega)⟩⟩
    |false=>
     have HDD:=aim (show∀d,¬RdOK s d from fun d ⟨⟨n',h1,h2⟩,h3⟩=>by
      obtain ⟨rfl,-⟩:=HD.out.uniq h1
      rw [hok] at h3;cases h3)
     clear hok;go_wp2;go_ret2;exact ⟨HB6.out, .inr ⟨rfl,HDD.out⟩⟩
   ·have hn40':(40:Int)<(n:Int):=by omega
    have HDD:=aim (show∀d,¬RdOK s d from fun d ⟨⟨n',h1,h2⟩,h3⟩=>by
     obtain ⟨-,-,-,rfl⟩:=HD.out.uniq h1
     exact hn40 h2)
    go_wp2;go_ret2;exact ⟨HBW.out, .inr ⟨rfl,HDD.out⟩⟩
  ·have hqi:(q:Int)<((aV s).length:Int):=by omega
   have HDD:=aim (show∀d,¬RdOK s d from fun d ⟨⟨n',h1,h2⟩,h3⟩=>by
    obtain ⟨-,h,-⟩:=HD.out.uniq h1;rw [hrl] at h
    exact hql h)
   go_wp2;go_ret2;exact ⟨HBW.out, .inr ⟨rfl,HDD.out⟩⟩
 ·have HDD:=aim (show∀d,¬RdOK s d from fun d ⟨⟨n',h1,h2⟩,h3⟩=>by have:=hno _ _ _ _ h1;omega)
  clear hno hg4 hr4;go_wp2;go_ret2;exact ⟨HBW.out, .inr ⟨rfl,HDD.out⟩⟩
end Go.Proofs.YthijkjnngfnfdaaGreatDoor
