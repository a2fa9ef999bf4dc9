/-
  Part of the proof of FnReadDocument.
-/
import Derived.Test.YtegdjjjpoahamaaGreatDoorQQRaq
set_option linter.unusedVariables false
set_option maxHeartbeats 4000000
set_option maxRecDepth 100000
namespace Go.Proofs.YtegdjjjpoahamaaGreatDoor
def cg (s:ByteArray):List Tk:=(aI s).map fun x=>(x.1,s.extract x.2.1 x.2.2)
theorem abi {b:UInt8} (h:sgB b=true):6≤aL (b.toNat:Int)∧aL (b.toNat:Int)≤10:=by
 simp only [sgB,Bool.or_eq_true,beq_iff_eq] at h
 rcases h with ((((((((((((((((h|h)|h)|h)|h)|h)|h)|h)|h)|h)|h)|h)|h)|h)|h)|h)|h)|h
 all_goals (subst h;decide)
theorem afa {st:Int} {t:List UInt8} (h1:6≤st) (h2:st≤10) (h:dS st t=true):fin st t=st∨fin st t=10:=by
 have MZ: ∀n,nB 10 n=false:=fun n=>by simp [nB]
 cases t with
 |nil=>exact .inl rfl
 |cons c r=>
  right
  simp only [dS,Bool.and_eq_true] at h
  by_cases Md:st=10
  ·subst Md;rw [MZ] at h;cases h.1
  ·have hn:nS st (c.toNat:Int)=10:=by
    have:st=6∨st=7∨st=8∨st=9:=by omega
    rcases this with rfl|rfl|rfl|rfl<;>rfl
   rw [fin,hn];rw [hn] at h
   cases r with
   |nil=>rfl
   |cons d r=>simp only [dS,Bool.and_eq_true,MZ] at h;cases h.2.1
theorem aeG {st:Int} (h:kI st≠0):1≤kI st∧kI st≤4:=by
 unfold kI at h⊢
 repeat' split at h
 all_goals first|(exact absurd rfl h)|(repeat' split)<;>omega
theorem af6 {st:Int} (h1:6≤st) (h2:st≤10) (h:kI st≠0):kI st=4:=by
 have:st=6∨st=7∨st=8∨st=9∨st=10:=by omega
 rcases this with rfl|rfl|rfl|rfl|rfl
 ·rfl
 ·exact absurd rfl h
 ·exact absurd rfl h
 ·exact absurd rfl h
 ·rfl
theorem TokAt.kinds {l:List UInt8} {n:Nat} {k:Int} (h:TokAt l n k):1≤k∧k≤4∧(k≠4→ ∀b t,l.take n=b::t→sgB b=false):=by
 obtain ⟨b,t,ht,hs,hk,Bo,-⟩:=h;subst hk;refine ⟨(aeG Bo).1,(aeG Bo).2,fun h4 b' t' he=> ?_⟩;rw [ht] at he
 injection he with e1 e2
 subst e1 e2
 cases hb:sgB b with
 |false=>rfl
 |true=>
  obtain ⟨f1,f2⟩:=abi hb
  rcases afa f1 f2 hs with h|h
  ·rw [h] at h4 Bo;exact absurd (af6 f1 f2 Bo) h4
  ·rw [h] at h4;exact absurd rfl h4
theorem mM (ts:List (Int×Nat×Nat)): ∀(a:Nat) (l:List UInt8),kh a l ts→ts.length≤l.length∧ ∀x∈ts,1≤x.1∧x.1≤4∧(x.1≠4→ ∀b t,(l.drop (x.2.1-a)).take (x.2.2-x.2.1)=b::t→sgB b=false):=by
 induction ts with
 |nil=>intro a l _;exact ⟨agH _,fun x hx=>by cases hx⟩
 |cons y ts ih=>
  intro a l h;obtain ⟨k,f,t⟩:=y;obtain ⟨j,n,rfl,rfl,h3,h4,h5,h6⟩:=h;have CJ:=h5.le;rw [List.length_drop] at CJ;obtain ⟨i1,i2⟩:=ih _ _ h6;rw [List.length_drop] at i1;have CN:=nv ts _ _ h6;refine ⟨by rw [List.length_cons];omega,fun x hx=> ?_⟩
  rcases List.mem_cons.mp hx with rfl|hx
  ·have:=h5.kinds
   simp only [Nat.add_sub_cancel_left] at this⊢;exact this
  ·obtain ⟨k1,k2,k3⟩:=i2 x hx
   have h7:=(CN x hx).1;refine ⟨k1,k2,fun KZ b t' he=>k3 KZ b t' ?_⟩;rw [List.drop_drop,show j+n+(x.2.1-(a+j+n))=x.2.1-a by omega];exact he
theorem kF {s:ByteArray}:kh 0 s.data.toList (aI s)∨aI s=[]:=by
 by_cases h:okT s=true
 ·left
  rw [aI,if_pos h];simp only [okT,Bool.and_eq_true] at h;exact ym h.2
 ·right;rw [aI,if_neg h]
theorem su (s:ByteArray) (hs:s.size≤20000∨okT s=true):(aI s).length≤20000∧(aI s≠[]→s.size≤20000):=by
 have AP:okT s=true→s.size≤20000:=fun h=>by simp only [okT,Bool.and_eq_true,decide_eq_true_eq] at h;exact h.1.1
 by_cases h:okT s=true
 ·have:=AP h
  rcases kF (s:=s) with hc|hc
  ·have:=(mM _ _ _ hc).1
   rw [bn] at this;exact ⟨by omega,fun _=>by omega⟩
  ·rw [hc];exact ⟨agH _,fun _=>by omega⟩
 ·rw [aI,if_neg h];exact ⟨agH _,fun h=>absurd rfl h⟩
theorem gm (s:ByteArray):(aI s).length≤20000∧(∀x∈aI s,x.2.1≤x.2.2∧x.2.2≤s.size)∧ry (cg s)∧ ∀x∈aI s,1≤x.1∧x.1≤4:=by
 by_cases h:okT s=true
 ·refine ⟨(su s (.inr h)).1, ?_⟩
  rcases kF (s:=s) with hc|hc
  ·have CN:=nv _ _ _ hc
   obtain ⟨-,hk⟩:=mM _ _ _ hc;refine ⟨fun x hx=> ?_, ?_,fun x hx=>⟨(hk x hx).1,(hk x hx).2.1⟩⟩
   ·have:=CN x hx;rw [bn] at this;omega
   ·intro p k w hp Ay b t hb
    simp only [cg,List.getElem?_map,Option.map_eq_some_iff] at hp;obtain ⟨x,hx,he⟩:=hp
    injection he with e1 e2
    subst e1 e2;have hm:=List.mem_of_getElem? hx;refine (hk x hm).2.2 Ay b t ?_;rw [←hb,ByteArray.data_extract,Array.toList_extract,List.extract_eq_take_drop]
    simp
  ·rw [hc];exact ⟨(fun x hx=>by cases hx),(fun p k w hp=>by simp [cg,hc] at hp),(fun x hx=>by cases hx)⟩
 ·have hc:aI s=[]:=by rw [aI,if_neg h]
  rw [hc];exact ⟨agH _,(fun x hx=>by cases hx),(fun p k w hp=>by simp [cg,hc] at hp),(fun x hx=>by cases hx)⟩
open Go.RowKit
def age (v:Value):Prop:= ∃a n c,v= .slice a n c
theorem zz {w w1:World} {base:Nat} {e:TypeId} {size n:Nat} {v:Value} {xs:List Value} (h:w.ownsRow base e size v n xs) (hb:Below w.heap.size w w1):w1.ownsRow base e size v n xs:=
 h.kept (row:=none) ⟨hb.os,hb.tape,hb.output,hb.size,fun i hi _=>hb.block i hi⟩ (by cases hv:v.ownBlock with|none=>exact .inl rfl|some x=>exact .inr (by simp))
def RdOK (s:ByteArray) (c:List Cl):Prop:=(∃n,Rg (cg s) .choice 0 c (cg s).length 0 n∧n≤40)∧okE c=true
theorem RdOK.uniq {s:ByteArray} {c d:List Cl} (h:RdOK s c) (k:RdOK s d):c=d:=by
 obtain ⟨⟨n,h1,-⟩,-⟩:=h;obtain ⟨⟨m,k1,-⟩,-⟩:=k;exact (h1.uniq k1).1
def ab3 (s:ByteArray) (w:World) (e:Ending) (w':World):Prop:=
 Below w.heap.size w w'∧((∃v c,e= .returned (.tuple #[v, .bool true])∧RdOK s c∧w'.ownsRow w.heap.size 110 3 v c.length (ai c))∨(e= .returned (.tuple #[.slice none 0 0, .bool false])∧ ∀c,¬RdOK s c))
theorem zA (s:ByteArray):(ga s).size≤s.size:=by
 cases h:bH s with
 |false=>rw [jo h];exact agH _
 |true=>
  obtain ⟨h1,h2⟩:=pW h
  have:s.data.toList=bc (ga s).data.toList:=by
   have e:=congrArg (fun z:ByteArray=>z.data.toList) h2;simp only [cA,if_pos h1] at e;exact e.symm
  have hl:=(iM (ga s).data.toList).1;have e1:=bn s;have e2:=bn (ga s);rw [this] at e1;simp only [bc,List.length_cons,agE,List.length_nil] at e1
  omega
theorem Rg.words {tk:List Tk} {B:Nat} (hB:60≤B) (ht: ∀(p:Nat) (k:Int) (s:ByteArray),tk[p]? =some (k,s)→s.size≤B) {j:GJob} {p:Nat} {c:List Cl} {q m n:Nat} (h:Rg tk j p c q m n):(∀x∈j.held,x.2.1.size≤B)→ ∀x∈c,x.2.1.size≤B:=by
 induction h with
 |one h1 h2 i=>exact i
 |three h1 h2 h3 h4 h5 i1 i2 i3=>
  intro hh x hx;simp only [List.mem_cons,List.mem_append] at hx
  have hn: ∀x∈([]:List Cl),x.2.1.size≤B:=fun x hx=>by cases hx
  rcases hx with rfl|hx|hx|hx
  ·exact agH _
  ·exact i1 hn x hx
  ·exact i2 hn x hx
  ·exact i3 hn x hx
 |bin h1 h2 i1 i2=>intro hh;exact i2 (i1 hh)
 |stop h=>exact fun hh=>hh
 |more h1 h2 h3 h4 h5 h6 h7 i1 i2=>
  intro hh;refine i2 (fun x hx=> ?_);simp only [GJob.held,List.mem_cons,List.mem_append] at hx
  rcases hx with rfl|hx|hx
  ·exact ht _ _ _ h4
  ·exact hh x hx
  ·exact i1 (fun x hx=>by cases hx) x hx
 |sign h1 h2 h3 i=>
  intro hh x hx
  rcases List.mem_cons.mp hx with rfl|hx
  ·exact ht _ _ _ h2
  ·exact i hh x hx
 |plain h1 h2 i=>exact i
 | @num p s h1 h2=>
  intro hh x hx;simp only [List.mem_singleton] at hx;subst hx
  have:(kB s).size≤60:=by rw [←bn];exact mS _ _
  show (kB s).size≤B
  omega
 | @text p s h1 h2=>
  intro hh x hx;simp only [List.mem_singleton] at hx;subst hx;exact Nat.le_trans (zA s) (ht _ _ _ h1)
 |truth h1 h2=>intro hh x hx;simp only [List.mem_singleton] at hx;subst hx;exact ht _ _ _ h1
 |name h1 h2 h3 h4=>intro hh x hx;simp only [List.mem_singleton] at hx;subst hx;exact ht _ _ _ h1
 |call h1 h2 h3 h4 h5 i=>
  intro hh x hx
  rcases List.mem_cons.mp hx with rfl|hx
  ·exact ht _ _ _ h1
  ·exact i hh x hx
 |paren h1 h2 h3 i=>exact i
 |list h1 h2 i=>
  intro hh x hx
  rcases List.mem_cons.mp hx with rfl|hx
  ·exact agH _
  ·exact i hh x hx
 |close h=>exact fun hh=>hh
 |part h1 h2 h3 h4 h5 i1 i2=>
  intro hh;refine i2 (fun x hx=> ?_);simp only [GJob.held,List.mem_append] at hx
  rcases hx with hx|hx
  ·exact hh x hx
  ·exact i1 (fun x hx=>by cases hx) x hx
theorem pe (s:ByteArray) (w:World) (hs:s.size≤2097152) (Al:Tab w):
  Calls Tryz.prog 158 #[.string s] w (ab3 s w):=by
 obtain ⟨f1,f2,f3,f4⟩:=gm s;have QZ:=agC f1;have NO:=agC f2;have Tl:=agC f3;have Tm:=agC f4;have HT:=agC Al
 have Q0:s.size≤maxLen:=by unfold maxLen;omega
 have Cz:=agC (o0 s w Q0);have F4:=agC (show cg s=(aI s).map fun x=>(x.1,s.extract x.2.1 x.2.2) from rfl)
 have Io:(cg s).length=(aI s).length:=by simp [cg]
 clear f1 f2 f3 f4 Al Q0
 go_enter Tryz.func158,Tryz.ntmps158
 go_wp2_with fail;refine Cz.out.mono ?_;rintro e w2 ⟨tv,rfl,Bu,Ae⟩;have Be:=RowT.of_own Bu;obtain ⟨-,ao,cap,rfl,-⟩:=Be;have Fn:=agC (show Cx w2 w2.heap.size s (.slice ao (aI s).length cap) (aI s) (cg s) from ⟨RowT.of_own Bu,QZ.out,F4.out,NO.out,hs,Tl.out,Tm.out,agD _⟩);have Tn:=agC (HT.out.keep Ae);have Ak:=agC Ae;have BR:=agC ((Below.refl w2.heap.size w2).alloc (agD _) (.cells #[.string s, .slice ao (aI s).length cap, .int .i64 0, .int .i64 0] 191));have AT:=agC (show RdAt (w2.alloc (.cells #[.string s, .slice ao (aI s).length cap, .int .i64 0, .int .i64 0] 191)) w2.heap.size s (.slice ao (aI s).length cap) 0 0 from heap_alloc_new w2 _);clear Bu Ae;go_wp2_with fail;refine ((agA Tn.out Fn.out (10*(cg s).length+8)).choice 0 0 _ BR.out AT.out (agH _) (by omega) (by omega)).mono ?_;rintro e w4 ⟨AW,q,hq,Bg,Am⟩;have Aw:=agC (bg BR.out (show World.grownBy _ w4 (some w2.heap.size) from AW) (agD _));have DT:=agC (Ak.out.trans (Aw.out.mono Ak.out.size));have BJ:=agC Bg;obtain ⟨⟨q0,q1,q2,q3⟩,-⟩:=Bg.cells;have D7:=Ak.out.size
 rcases Am with ⟨M,c,n,rfl,ht,hd⟩|⟨rfl,Ar⟩
 ·obtain ⟨n4,-⟩:=ht.nest
  have To:=ht.lt;have Hq:=hd.nest;simp only at Hq;have FJ:=agC (ht.tree (hi:=w4.heap.size) To.2);have HD:=agC hd;have JK:=hd.le.1;simp only [GJob.held,List.length_nil] at JK;clear ht hd AW Bg;have LQ:=QZ.out
  by_cases Fk:q=(aI s).length
  ·subst Fk
   by_cases hn40:n≤40
   ·have LR: ¬(40:Int)<(n:Int):=by omega
    have Fu:=agC (show ec c from fun x hx=>by
     have:=HD.out.words (B:=2097152) (by omega) (fun p k wd hp=>by
      obtain ⟨_,wd',h1,-,-,h4⟩:=Fn.out.at (df hp)
      rw [hp] at h1;injection h1 with h1;injection h1 with h1 h2;rw [h2];exact h4) (fun x hx=>by cases hx) x hx
     unfold maxLen;omega)
    go_wp2_with fail;refine (rF w4 _ c.length w4.heap.size M c [] (.slice none 0 0) w4 FJ.out (agD _) (by simp;omega) (Below.refl _ _) (World.ownsRow_nil _ _ _ _)).mono ?_;rintro e w5 ⟨v5,rfl,DK,AI⟩;rw [List.nil_append] at DK;have BQ:=agC DK;have AQ:=agC (DT.out.trans (AI.mono DT.out.size));have M6:=agC (RowC.of_own DK).1;have D9:=agC (HT.out.keep AQ.out)
    have BT:age v5:=by
     obtain ⟨a,b,hv,-⟩:=M6.out;exact ⟨_,_,_,hv⟩
    clear DK AI;obtain ⟨va,vn,vc,rfl⟩:=BT;go_wp2_with fail;refine (jv _ c w5 M6.out Fu.out D9.out).mono ?_;rintro e w6 ⟨rfl,Bv⟩;have CK:=agC (AQ.out.trans (Bv.mono AQ.out.size));have FE:=agC (zz BQ.out Bv);clear Bv
    cases Aj:okE c with
    |true=>
     have EX:=agC (show RdOK s c from ⟨⟨n,by rw [Io];exact HD.out,hn40⟩,Aj⟩);clear Aj;go_wp2;go_ret2;exact ⟨CK.out, .inl ⟨_,c,rfl,EX.out,FE.out.mono (by have:=DT.out.size;omega)⟩⟩
    |false=>
     have EX:=agC (show∀d,¬RdOK s d from fun d ⟨⟨n',h1,h2⟩,h3⟩=>by
      obtain ⟨rfl,-⟩:=HD.out.uniq h1
      rw [Aj] at h3;cases h3)
     clear Aj;go_wp2;go_ret2;exact ⟨CK.out, .inr ⟨rfl,EX.out⟩⟩
   ·have LR:(40:Int)<(n:Int):=by omega
    have EX:=agC (show∀d,¬RdOK s d from fun d ⟨⟨n',h1,h2⟩,h3⟩=>by
     obtain ⟨-,-,-,rfl⟩:=HD.out.uniq h1
     exact hn40 h2)
    go_wp2;go_ret2;exact ⟨DT.out, .inr ⟨rfl,EX.out⟩⟩
  ·have Vu:(q:Int)<((aI s).length:Int):=by omega
   have EX:=agC (show∀d,¬RdOK s d from fun d ⟨⟨n',h1,h2⟩,h3⟩=>by
    obtain ⟨-,h,-⟩:=HD.out.uniq h1;rw [Io] at h
    exact Fk h)
   go_wp2;go_ret2;exact ⟨DT.out, .inr ⟨rfl,EX.out⟩⟩
 ·have EX:=agC (show∀d,¬RdOK s d from fun d ⟨⟨n',h1,h2⟩,h3⟩=>by have:=Ar _ _ _ _ h1;omega)
  clear Ar AW Bg;go_wp2;go_ret2;exact ⟨DT.out, .inr ⟨rfl,EX.out⟩⟩
end Go.Proofs.YtegdjjjpoahamaaGreatDoor
