/-
  Part of the proof of FnReadDocument.
-/
import Derived.Test.YtegdjjjpoahamaaGreatDoorQQRbd
import Derived.Test.YtegdjjjpoahamaaGreatDoorQQRba
set_option linter.unusedVariables false
set_option maxHeartbeats 8000000
set_option maxRecDepth 100000
namespace Go.Proofs.YtegdjjjpoahamaaGreatDoor
theorem acl {l:List UInt8} (h:l.length≤40):dD rdI l=dD rdS l:=by
 have e:rdS (baL (dX ((ah (nmQ l)).drop 1)))=rdI (baL (dX ((ah (nmQ l)).drop 1))):=aew (by
  have h1:=qp ((ah (nmQ l)).drop 1);have h2:=ce (nmQ l);have h3:=nr l;have h4:nbB (baL (dX ((ah (nmQ l)).drop 1)))≤(dX ((ah (nmQ l)).drop 1)).length:=List.countP_le_length;rw [List.length_drop] at h1
  omega)
 unfold dD;rw [e]
theorem qg {s:ByteArray} (h:s.size≤40):aH rdI s=aH rdS s:=by
 unfold aH
 rw [acl (by
  have h1:=ce s.data.toList
  have h2:s.data.toList.length=s.size:=by rw [Array.length_toList];rfl
  omega)]
theorem kT {i:It} (h:aP i=true) (D W:Nat):aH rdI (baL (bj i D W))=aH rdS (baL (bj i D W)):=by
 rw [kQ (fun l hl=>uh hl) h D W (bK _),kQ (fun l hl=>acU hl) h D W (bK _)]
def Seg (l:List UInt8) (j m:Nat):Prop:=j≤m∧m≤l.length∧(j=0∨l[j-1]? =some 10)∧(m=l.length∨l[m]? =some 10)∧ ∀x,j≤x→x<m→l[x]? ≠some 10
def AgT (l:List UInt8):Prop:= ∀j m,Seg l j m→aH rdI (baL ((l.take m).drop j))=aH rdS (baL ((l.take m).drop j))
theorem jQ {l:List UInt8} (h:l.length≤40):AgT l:=fun j m _=>qg (by rw [aR,List.length_drop,List.length_take];omega)
theorem aed {l:List UInt8} (h:(10:UInt8)∉l) (ha:aH rdI (baL l)=aH rdS (baL l)):AgT l:=by
 rintro j m ⟨h1,h2,h3,h4,-⟩
 have hj:j=0:=by
  rcases h3 with h3|h3
  ·exact h3
  ·exact absurd (List.mem_of_getElem? h3) h
 have hm:m=l.length:=by
  rcases h4 with h4|h4
  ·exact h4
  ·exact absurd (List.mem_of_getElem? h4) h
 subst hj;subst hm;rw [List.take_length,List.drop_zero];exact ha
theorem lM {a b:List UInt8} (he:a=[]∨a.getLast? =some 10) (ha:AgT a) (hb:AgT b):AgT (a++b):=by
 rcases he with rfl|he
 ·exact hb
 have hp:0<a.length:=by
  rcases Nat.eq_zero_or_pos a.length with h|h
  ·rw [List.length_eq_zero_iff.mp h] at he;cases he
  ·exact h
 have BU:a[a.length-1]? =some 10:=by rw [←List.getLast?_eq_getElem?];exact he
 rintro j m ⟨h1,h2,h3,h4,h5⟩;rw [agE] at h2 h4
 by_cases hj:j<a.length
 ·have hm:m≤a.length-1:=by
   by_cases hm:m≤a.length-1
   ·exact hm
   ·exact absurd (by rw [List.getElem?_append_left (by omega)];exact BU) (h5 (a.length-1) (by omega) (by omega))
  have:=ha j m ⟨h1,by omega, ?_, ?_, ?_⟩
  ·rw [List.take_append_of_le_length (by omega)];exact this
  ·rcases h3 with h3|h3
   ·exact .inl h3
   ·rw [List.getElem?_append_left (by omega)] at h3;exact .inr h3
  ·rcases h4 with h4|h4
   ·omega
   ·rw [List.getElem?_append_left (by omega)] at h4;exact .inr h4
  ·intro x Cw EJ
   have:=h5 x Cw EJ
   rwa [List.getElem?_append_left (by omega)] at this
 ·have:=hb (j-a.length) (m-a.length) ⟨by omega,by omega, ?_, ?_, ?_⟩
  ·rw [show ((a++b).take m).drop j=(b.take (m-a.length)).drop (j-a.length) by
    rw [List.take_append,List.drop_append,List.take_of_length_le (by omega),List.drop_of_length_le (by omega),List.nil_append]]
   exact this
  ·by_cases hja:j=a.length
   ·left;omega
   ·rcases h3 with h3|h3
    ·omega
    ·rw [List.getElem?_append_right (by omega)] at h3
     right
     rw [show j-a.length-1=j-1-a.length by omega];exact h3
  ·rcases h4 with h4|h4
   ·left;omega
   ·rw [List.getElem?_append_right (by omega)] at h4
    exact .inr h4
  ·intro x Cw EJ
   have:=h5 (x+a.length) (by omega) (by omega);rw [List.getElem?_append_right (by omega),Nat.add_sub_cancel] at this;exact this
theorem qh (l:List UInt8): ∀k,cF l k≤k∧(cF l k=0∨l[cF l k-1]? =some 10)∧ ∀x,cF l k≤x→x<k→l[x]? ≠some 10:=by
 intro k
 induction k with
 |zero=>exact ⟨agD _, .inl rfl,fun x _ h=>by omega⟩
 |succ k ih=>
  rw [cF]
  split
  ·rename_i h
   exact ⟨agD _, .inr (by rw [Nat.add_sub_cancel];exact h),fun x h1 h2=>by omega⟩
  ·rename_i h
   obtain ⟨a,b,c⟩:=ih;refine ⟨by omega,b,fun x h1 h2=> ?_⟩
   by_cases hx:x=k
   ·rw [hx];exact h
   ·exact c x h1 (by omega)
theorem afw (s:ByteArray) (j m:Nat):s.extract j m=baL ((s.data.toList.take m).drop j):=by
 apply ByteArray.ext
 rw [ByteArray.data_extract]
 apply Array.toList_inj.mp
 rw [Array.toList_extract,List.extract_eq_take_drop]
 show (s.data.toList.drop j).take (m-j)=(s.data.toList.take m).drop j
 rw [List.drop_take]
theorem tH (s:ByteArray): ∀k,k≤s.size→ ∀t∈aS s k,∃j m,Seg s.data.toList j m∧t=s.extract j m:=by
 intro k
 induction k with
 |zero=>intro _ t ht;cases ht
 |succ k ih=>
  intro hk t ht;rw [aS] at ht
  split at ht
  ·rename_i h
   rcases List.mem_append.mp ht with h1|h1
   ·exact ih (by omega) t h1
   ·obtain ⟨a,b,c⟩:=qh s.data.toList k
    have hl:s.data.toList.length=s.size:=by rw [Array.length_toList];rfl
    exact ⟨_,k,⟨a,by omega,b, .inr h,c⟩,List.mem_singleton.mp h1⟩
  ·exact ih (by omega) t ht
theorem tI {s:ByteArray} (h:AgT s.data.toList): ∀t∈bC s,aH rdI t=aH rdS t:=by
 have hl:s.data.toList.length=s.size:=by rw [Array.length_toList];rfl
 have hs: ∀j m,Seg s.data.toList j m→aH rdI (s.extract j m)=aH rdS (s.extract j m):=fun j m hj=>by rw [afw];exact h j m hj
 intro t ht;unfold bC at ht
 split at ht
 ·unfold cT at ht
  have ET: ∀t∈aS s s.size,aH rdI t=aH rdS t:=fun t ht=>by
   obtain ⟨j,m,hj,rfl⟩:=tH s s.size (agD _) t ht;exact hs j m hj
  split at ht
  ·rcases List.mem_append.mp ht with h1|h1
   ·exact ET t h1
   ·rw [List.mem_singleton.mp h1]
    obtain ⟨a,b,c⟩:=qh s.data.toList s.size;exact hs _ _ ⟨a,by omega,b, .inl hl.symm,c⟩
  ·exact ET t ht
 ·cases ht
theorem zU: ∀(ss:List ByteArray) (acc:List It),(∀t∈ss,aH rdI t=aH rdS t)→goD rdI acc ss=goD rdS acc ss:=by
 intro ss
 induction ss with
 |nil=>intro acc _;rfl
 |cons s ss ih=>
  intro acc h;rw [goD,goD,h s List.mem_cons_self]
  split
  ·split
   ·exact ih _ (fun t ht=>h t (List.mem_cons_of_mem _ ht))
   ·rfl
  ·rfl
theorem jR {s:ByteArray} (h:AgT s.data.toList):bi rdI s=bi rdS s:=by
 unfold bi cV;rw [zU _ _ (tI h)]
theorem afh {s:ByteArray} (h:LnD s):AgT s.data.toList:=by
 rcases h with h|⟨i,D,-,-,hv,rfl⟩
 ·exact jQ (by rw [Array.length_toList];show s.size≤40;omega)
 ·rw [bK];exact aed (afm (iP hv D 0)) (kT hv D 0)
theorem abC {l:List UInt8} (h:(10:UInt8)∉l) (ha:aH rdI (baL l)=aH rdS (baL l)):AgT (l++[10]):=by
 rintro j m ⟨h1,h2,h3,h4,h5⟩;rw [agE,List.length_singleton] at h2 h4
 by_cases hj:j=0
 ·subst hj
  have hm:m≤l.length:=by
   by_cases hm:m≤l.length
   ·exact hm
   ·exact absurd (by rw [List.getElem?_append_right (agD _),Nat.sub_self];rfl) (h5 l.length (by omega) (by omega))
  have DZ:m=l.length:=by
   by_cases DZ:m=l.length
   ·exact DZ
   ·rcases h4 with h4|h4
    ·omega
    ·rw [List.getElem?_append_left (by omega)] at h4
     exact absurd (List.mem_of_getElem? h4) h
  subst DZ;rw [List.take_left,List.drop_zero];exact ha
 ·have Hj:l.length<j:=by
   rcases h3 with h3|h3
   ·omega
   ·by_cases Ab:j-1<l.length
    ·rw [List.getElem?_append_left Ab] at h3
     exact absurd (List.mem_of_getElem? h3) h
    ·omega
  refine qg ?_;rw [aR,List.length_drop,List.length_take,agE,List.length_singleton];omega
theorem xM (l:List UInt8):(l++[10]).getLast? =some 10:=by rw [List.getLast?_append];rfl
theorem adI {l:List It} (hv:l.all aP=true): ∀k,k≤l.length→AgT (bM (aV l) k).data.toList∧((bM (aV l) k).data.toList=[]∨(bM (aV l) k).data.toList.getLast? =some 10):=by
 intro k
 induction k with
 |zero=>intro _;exact ⟨jQ (agH _), .inl rfl⟩
 |succ k ih=>
  intro hk;obtain ⟨h1,h2⟩:=ih (by omega)
  have Cs:k<(aV l).length:=by rw [cO];omega
  have DB: ∃D,(d9 (aV l) k).data.toList=bj l[k] D 0:=by
   rw [kM _ _ Cs];exact ⟨_,(congrArg (fun t:ByteArray=>t.data.toList) (gh l 0 k (by omega))).trans (bK _)⟩
  obtain ⟨D,hD⟩:=DB
  have QR:aP l[k]=true:=by rw [List.all_eq_true] at hv;exact hv _ (List.getElem_mem (by omega))
  have e:(bM (aV l) (k+1)).data.toList=(bM (aV l) k).data.toList++(bj l[k] D 0++[10]):=by
   rw [bM,ByteArray.data_append,ByteArray.data_append,Array.toList_append,Array.toList_append,hD,List.append_assoc]
  rw [e];refine ⟨lM h2 h1 (abC (afm (iP QR D 0)) (kT QR D 0)), .inr ?_⟩;rw [←List.append_assoc];exact xM _
theorem ge (l:List It):AgT (bR l).data.toList∧((bR l).data.toList=[]∨(bR l).data.toList.getLast? =some 10):=by
 by_cases hk:ea l=true
 ·have hd:=((iJ l).mp hk).1
  have hj:=((iJ l).mp hk).2;have hv:=((bP l).mp hd).2.1
  have e:bR l=bM (aV l) l.length:=by rw [bR,if_pos hk,fS,if_pos hj,cO]
  rw [e];exact adI hv l.length (agD _)
 ·have e:bR l=⟨#[]⟩:=by rw [bR,if_neg hk]
  rw [e];exact ⟨jQ (agH _), .inl rfl⟩
theorem go (a b:ByteArray):(a++b).data.toList=a.data.toList++b.data.toList:=by rw [ByteArray.data_append,Array.toList_append]
theorem adJ {l:List It} {t:ByteArray} (h:LnD t):AgT (bR l++t).data.toList:=by
 rw [go];exact lM (ge l).2 (ge l).1 (afh h)
theorem af9 {t:ByteArray} (h:LnD t):AgT (t++⟨#[10]⟩).data.toList:=by
 rw [go]
 rcases h with h|⟨i,D,-,-,hv,rfl⟩
 ·refine jQ ?_
  have:t.data.toList.length=t.size:=by rw [Array.length_toList];rfl
  rw [agE]
  show t.data.toList.length+1≤40
  omega
 ·rw [bK];exact abC (afm (iP hv D 0)) (kT hv D 0)
theorem abD {l:List It} {t:ByteArray} (h:LnD t):AgT (t++⟨#[10]⟩++bR l).data.toList:=by
 rw [go];refine lM (.inr ?_) (af9 h) (ge l).1;rw [go];exact xM _
theorem adK (l:List It):AgT (⟨#[10,10]⟩++bR l++⟨#[10]⟩).data.toList:=by
 rw [go,go];refine lM ?_ (lM (.inr rfl) (jQ (by show 2≤40;omega)) (ge l).1) (jQ (by show 1≤40;omega))
 rcases (ge l).2 with h|h
 ·rw [h];exact .inr rfl
 ·right;rw [List.getLast?_append,h];rfl
theorem abE (s:ByteArray):aD (s++⟨#[1]⟩)=false:=by
 rw [Bool.eq_false_iff];intro h;simp only [aD,Bool.and_eq_true] at h;have h2:=h.2;rw [go] at h2;unfold okL at h2;rw [List.all_append,Bool.and_eq_true] at h2;exact absurd h2.2 (by decide)
theorem fR (s:ByteArray) (R:ByteArray→List Cl):bi R (s++⟨#[1]⟩)=([],0):=by
 unfold bi;rw [if_neg (by rw [abE];simp)]
open Go.RowKit
def af5 (R p:Nat) (w:World) (e:Ending) (w':World):Prop:=
 ∃s:ByteArray,e= .returned (.string s)∧(s.size≤60000∧bi rdI s=bi rdS s)∧Rdm w' R (p+410000)∧w.grownBy w' (some R)
theorem xD {s:ByteArray} (h:LnD s):s.size≤13000:=by
 rcases h with h|⟨i,D,hD,hf,-,rfl⟩
 ·omega
 ·rw [aR]
  have h1:=jY i D 0;have h2:=hf.1;have h3:=hf.2.2.2
  omega
theorem nE (l:List It):(bR l).size≤20000:=by
 by_cases hk:ea l=true
 ·have h:=((kS _ ((iJ l).mp hk).2)).1
  rw [bR,if_pos hk];simp only [aD,Bool.and_eq_true,decide_eq_true_eq] at h;exact h.1
 ·rw [bR,if_neg hk];exact agH _
theorem abb (Ew:tn) (R p:Nat) (w:World) (hp:p+600000<30000000) (h:Rdm w R p):
  Calls Tryz.prog 69 #[.pointer (some ⟨R,0,none⟩)] w (af5 R p w):=by
 have BG:=agC h.lt;have Li:=agC (Ew R p 0 w (by omega) (by omega) (by omega) h);clear Ew h
 go_enter Tryz.func69,Tryz.ntmps69
 go_wp2_with fail;refine Li.out.mono ?_;rintro e w1 ⟨v,l,rfl,Be,Lk,hl,Ck,hg1⟩;have Cr:=agC hg1;have Lj:=agC (tp Lk);have IL:=Be;obtain ⟨va,vc,hv,-⟩:=Be;have QA:=agC (kZ v l w1 IL Lj.out (by omega));subst hv;clear hg1 Lk IL;go_wp2_with fail;refine QA.out.mono ?_;rintro e w2 ⟨rfl,Ae⟩;have AM:Rdm w2 R (p+400000):=Ck.kept (row:=none) ⟨Ae.os,Ae.tape,Ae.output,Ae.size,fun i hi _=>Ae.block i hi⟩ (by simp);have Bi:=agC (af Cr.out (show w1.grownBy w2 (some R) from ⟨Ae.os,Ae.tape,Ae.output,Ae.size,fun i hi _=>Ae.block i hi⟩));have MV:=agC (nE l);have QB:=agC (ge l).1;have QC:=agC (fun t (ht:LnD t)=>adJ (l:=l) ht);have FX:=agC (fun t (ht:LnD t)=>abD (l:=l) ht);have QD:=agC (adK l);generalize bR l=S at MV QB QC FX QD⊢;generalize ea l=K;have hS:=MV.out;clear Ae Ck QA;go_wp2_with fail;refine (aj R (p+400000) 6 _ (by omega) AM).mono ?_;rintro e w3 ⟨j,rfl,Ed,CE,-,AR,AF,BZ⟩;have AE:=agC (af Bi.out AF);have U4:=CE (by omega);clear AF BZ AM CE
 by_cases j0:j=0
 ·subst j0
  go_wp2_with fail;refine (tL R (p+400001) w3 (by omega) AR).mono ?_;rintro e w4 ⟨t,rfl,ht,Bg,AW⟩;have Jp:=agC (af AE.out AW);have Ss:=xD ht;have DW:=agC ht
  have r0: ¬9223372036854775807<S.size+t.size:=by omega
  have Gr:(S++t).size≤50000:=by rw [ByteArray.size_append];omega
  have U6: ¬9223372036854775807<(S++t).size+1:=by omega
  have U7: ¬9223372036854775807<S.size+t.size+1:=by omega
  have Da:=Bg;clear AR Bg AW ht;go_wp2_with fail;refine (fH R (p+403004) 12 _ (by omega) (by omega) (by omega) Da).mono ?_;rintro e w6 ⟨b,rfl,-,D6,CW,Ev⟩;have CV:=agC (af Jp.out CW);clear CW Ev Da
  cases b with
  |true=>
   go_wp2;go_ret;exact ⟨_,rfl,⟨by rw [ByteArray.size_append];have:=Gr;show (S++t).size+1≤60000;omega,by exact (fR _ _).trans (fR _ _).symm⟩,D6.mono (by omega),CV.out⟩
  |false=>
   go_wp2;go_ret;exact ⟨_,rfl,⟨by have:=Gr;omega,jR (QC.out _ DW.out)⟩,D6.mono (by omega),CV.out⟩
 by_cases j1:j=1
 ·subst j1
  go_wp2_with fail;refine (tL R (p+400001) w3 (by omega) AR).mono ?_;rintro e w4 ⟨t,rfl,ht,Bg,AW⟩;have Jp:=agC (af AE.out AW);have Ss:=xD ht;have DW:=agC ht
  have r0: ¬9223372036854775807<t.size+1:=by omega
  have r1: ¬9223372036854775807<t.size+1+S.size:=by omega
  have r2: ¬9223372036854775807<t.size+1+S.size+1:=by omega
  have Gr:(t++⟨#[10]⟩++S).size≤50000:=by rw [ByteArray.size_append,ByteArray.size_append];show t.size+1+S.size≤50000;omega
  have Da:=Bg;clear AR Bg AW ht;go_wp2_with fail;refine (fH R (p+403004) 12 _ (by omega) (by omega) (by omega) Da).mono ?_;rintro e w6 ⟨b,rfl,-,D6,CW,Ev⟩;have CV:=agC (af Jp.out CW);clear CW Ev Da
  cases b with
  |true=>
   go_wp2;go_ret;exact ⟨_,rfl,⟨by rw [ByteArray.size_append];have:=Gr;show (t++⟨#[10]⟩++S).size+1≤60000;omega,by exact (fR _ _).trans (fR _ _).symm⟩,D6.mono (by omega),CV.out⟩
  |false=>
   go_wp2;go_ret;exact ⟨_,rfl,⟨by have:=Gr;omega,jR (FX.out _ DW.out)⟩,D6.mono (by omega),CV.out⟩
 by_cases j2:j=2
 ·subst j2
  have Jp:=AE
  have r0: ¬9223372036854775807<2+S.size:=by omega
  have r1: ¬9223372036854775807<2+S.size+1:=by omega
  have r2: ¬9223372036854775807<2+S.size+1+1:=by omega
  have Gr:(⟨#[10,10]⟩++S++⟨#[10]⟩:ByteArray).size≤50000:=by rw [ByteArray.size_append,ByteArray.size_append];show 2+S.size+1≤50000;omega
  have Da:=AR;clear AR;go_wp2_with fail;refine (fH R (p+400001) 12 _ (by omega) (by omega) (by omega) Da).mono ?_;rintro e w6 ⟨b,rfl,-,D6,CW,Ev⟩;have CV:=agC (af Jp.out CW);clear CW Ev Da
  cases b with
  |true=>
   go_wp2;go_ret;exact ⟨_,rfl,⟨by rw [ByteArray.size_append];have:=Gr;show (⟨#[10,10]⟩++S++⟨#[10]⟩).size+1≤60000;omega,by exact (fR _ _).trans (fR _ _).symm⟩,D6.mono (by omega),CV.out⟩
  |false=>
   go_wp2;go_ret;exact ⟨_,rfl,⟨by have:=Gr;omega,jR QD.out⟩,D6.mono (by omega),CV.out⟩
 have t0:(j==0)=false:=beq_eq_false_iff_ne.mpr j0;have t1:(j==1)=false:=beq_eq_false_iff_ne.mpr j1;have t2:(j==2)=false:=beq_eq_false_iff_ne.mpr j2;have Jp:=AE
 have r0: ¬9223372036854775807<S.size+1:=by omega
 have Gr:S.size≤50000:=by omega
 have Da:=AR;clear AR j0 j1 j2;go_wp2_with fail;refine (fH R (p+400001) 12 _ (by omega) (by omega) (by omega) Da).mono ?_;rintro e w6 ⟨b,rfl,-,D6,CW,Ev⟩;have CV:=agC (af Jp.out CW);clear CW Ev Da
 cases b with
 |true=>
  go_wp2;go_ret;exact ⟨_,rfl,⟨by rw [ByteArray.size_append];have:=Gr;show (S).size+1≤60000;omega,by exact (fR _ _).trans (fR _ _).symm⟩,D6.mono (by omega),CV.out⟩
 |false=>
  go_wp2;go_ret;exact ⟨_,rfl,⟨by have:=Gr;omega,jR QB.out⟩,D6.mono (by omega),CV.out⟩
theorem ack {R:ByteArray→List Cl}: ∀(ss:List ByteArray) (acc l:List It),(goD R acc ss).1=some l→ ∀i∈l,i∈acc∨ ∃s∈ss,aH R s=some i:=by
 intro ss
 induction ss with
 |nil=>intro acc l h i hi;injection h with h;exact .inl (h▸hi)
 |cons s ss ih=>
  intro acc l h i hi;rw [goD] at h
  split at h
  ·rename_i j hj
   split at h
   ·rcases ih _ _ h i hi with h1|⟨t,ht,hr⟩
    ·rcases List.mem_append.mp h1 with h2|h2
     ·exact .inl h2
     ·exact .inr ⟨s,List.mem_cons_self,by rw [List.mem_singleton.mp h2];exact hj⟩
    ·exact .inr ⟨t,List.mem_cons_of_mem _ ht,hr⟩
   ·cases h
  ·cases h
theorem tG (s:ByteArray):fm (bi rdS s).1:=by
 intro i hi;unfold bi at hi
 split at hi
 ·rename_i ht
  have AP:s.size≤20000:=by simp only [aD,Bool.and_eq_true,decide_eq_true_eq] at ht;exact ht.1
  unfold cV at hi
  split at hi
  ·rename_i l hl
   have Gt:i∈l:=by
    by_cases hd:dT l=true
    ·rw [if_pos hd] at hi;exact hi
    ·rw [if_neg hd] at hi;cases hi
   rcases ack _ _ _ hl i Gt with h1|⟨t,ht,hr⟩
   ·cases h1
   ·exact lT hr (by have:=iK s t ht;omega)
  ·cases hi
 ·cases hi
theorem je (Ew:tn) (a:Option Addr) (len cap:Nat) (w:World) (h:CodeRow w a len cap):
  Calls Tryz.prog 40 #[.slice a len cap] w fun e w'=> ∃s:ByteArray,e= .returned (.string s)∧(s.size≤60000∧bi rdI s=bi rdS s)∧Below w.heap.size w w':=by
 go_enter Tryz.func40,Tryz.ntmps40
 go_wp2_with fail;refine (vH a len cap _ h).mono ?_;rintro e w1 ⟨rfl,Ck,Aa,Cj⟩;have HB:=agC Aa;have HS:=agC Cj;clear Aa Cj;go_wp2_with fail;refine (abb Ew w.heap.size 0 _ (by omega) Ck).mono ?_;rintro e w2 ⟨s,rfl,hs,AM,hg2⟩;have Ak:=agC (HB.out.trans (te hg2 (by have:=HS.out;omega) (agD _)));clear hg2 AM HB HS Ck;go_wp2;go_ret;exact ⟨s,rfl,hs,Ak.out⟩
theorem abN {w:World} {B n c:Nat} {a:Option Addr} {L:List ByteArray} (h:w.ownsRow B 9 1 (.slice a n c) n (fN L)) (k:Nat) (hk:k<L.length):
  ∃g,a=some ⟨g,0,none⟩∧g<w.heap.size∧w.cell? ⟨g,k,none⟩=some (.string L[k]):=by
 have hl:n=L.length:=by have:=h.1;simp [fN] at this;omega
 rcases h.2 with ⟨h1,h2⟩|⟨g,cap,cur,h1,Ij,hh,-⟩
 ·omega
 ·injection h1 with e1 e2 e3
  subst e1;refine ⟨g,rfl,(h.lt g rfl).2, ?_⟩;rw [h.cellAt k (by omega)]
  simp [fN,List.getElem?_eq_getElem hk]
theorem jf (Ew:tn) (a0:Option Addr) (len0 cap0:Nat) (w:World) (Be:CodeRow w a0 len0 cap0) (Al:Tab w):
  Calls Tryz.prog 12 #[.slice a0 len0 cap0] w fun e w'=>e= .returned (.bool true)∧Below w.heap.size w w':=by
 have JC:=Be.1;have Ku:=Be.2.1;unfold maxLen at Ku
 by_cases hl:len0≤1048576
 ·have HD:=agC (je Ew a0 len0 cap0 w Be);have HT:=agC Al
  clear Be Al Ew
  go_enter Tryz.func12,Tryz.ntmps12
  go_wp2_with fail;refine HD.out.mono ?_;rintro e w1 ⟨s,rfl,⟨Au,OL⟩,Aa⟩;have Af:=agC Aa;have DJ:=agC (fun w' (ht:Tab w')=>gQ s w' (by omega) ht);have IR:=agC (fun w'=>lU s w' (by omega));rw [←OL] at IR;have DC:=agC (show fm (bi rdI s).1 by rw [OL];exact tG s);have F4:=agC (fun (h:(bi rdI s).2= -1)=>(abS h).2);have F8:=agC (fun (h:(bi rdI s).2≠ -1)=>abT h);have QS:=agC (fun w'=>lL s w' (by unfold maxLen;omega))
  have FY:=agC (show∀(k:Nat) (hk:k<(bC s).length) (w':World),Tab w'→Calls Tryz.prog 42 #[.string (bC s)[k]] w' (nU (aH rdI (bC s)[k]) w') from fun k hk w' ht=>by
   have h1:=iK s _ (List.getElem_mem hk)
   have AP:s.size≤20000:=by
    by_cases J3:aD s=true
    ·simp only [aD,Bool.and_eq_true,decide_eq_true_eq] at J3;exact J3.1
    ·have:bC s=[]:=by rw [bC,if_neg J3]
     rw [this] at hk;exact absurd hk (Nat.not_lt_zero _)
   have:=kj (bC s)[k] w' (by omega) ht;rw [oh (B:=20000) (fun l hl=>ug hl) (by omega)] at this
   exact this)
  obtain ⟨l,f,QU⟩: ∃l f,bi rdI s=(l,f):=⟨_,_,rfl⟩
  rw [QU] at DJ IR DC F4 F8;generalize bC s=LS at F4 F8 QS FY;simp only at DC F4 F8;clear Aa OL QU;go_wp2_with fail;refine (DJ.out _ (HT.out.keep Af.out)).mono ?_;rintro e w2 ⟨v2,us2,rfl,Bu,Ae⟩;simp only at Bu⊢;have X2:=agC Bu.reads;have Ak:=agC (Af.out.trans (Ae.mono Af.out.size));obtain ⟨a2,c2,rfl⟩:=aN Bu.row;clear Bu Ae;go_wp2_with fail;refine (IR.out _).mono ?_;rintro e w3 ⟨v3,Vn,rfl,CQ,Ag⟩;simp only at CQ⊢;have X3:=agC (X2.out.mono Ag);have Y3:=agC CQ.reads;have Ap:=agC (Ak.out.trans (Ag.mono Ak.out.size));obtain ⟨a3,c3,rfl⟩:=aN CQ.row;clear CQ Ag;go_wp2_with fail;refine (ji _ _ l w3 X3.out Y3.out).mono ?_;rintro e w4 ⟨rfl,As⟩;have X4:=agC (X3.out.mono As);have Aw:=agC (Ap.out.trans (As.mono Ap.out.size));clear As Af Ak Ap X2 X3 Y3
  have OD:(f !=f)=false:=by simp
  go_wp2_with fail;refine (QS.out w4).mono ?_;rintro e w5 ⟨v5,rfl,DK,AI⟩;have X5:=agC (X4.out.mono AI);have AQ:=agC (Aw.out.trans (AI.mono Aw.out.size));have O5:=agC DK;obtain ⟨a5,c5,rfl⟩:=aN DK;clear DK AI
  by_cases hf:f= -1
  ·obtain ⟨hd,Ai⟩:=F4.out hf
   subst hf;have OG:=agC (fun (w':World) (hr:RowIt w' (.slice a2 l.length c2) l) (ht:Tab w')=>gu (.slice a2 l.length c2) l w' hr (gT DC.out) ht);rw [hd] at OG;have Ep:=((bP l).mp hd).1;have Kv:=agC (fun w' (hr:RowIt w' (.slice a2 l.length c2) l) (ht:Tab w')=>kR (.slice a2 l.length c2) l w' hr DC.out (by omega) ht);have QT:=agC (nE l);have AT:=agC (show∀w',Tab w'→Calls Tryz.prog 23 #[.string (bR l)] w' (afo (bi rdI (bR l)) w') from fun w' ht=>gQ (bR l) w' (by have:=QT.out;omega) ht);have M5:=agC (show ea l=true→bi rdI (bR l)=(l,-1) from fun h=>(sS (fun l hl=>uh hl) h).1);generalize bR l=T at Kv QT AT M5;generalize ea l=K at Kv M5;clear hd F4 F8 FY;have IS:LS.length=l.length:=Ai.symm;rw [IS] at O5⊢;clear Ai IS;go_wp2_with fail;refine (Kv.out _ X5.out (HT.out.keep AQ.out)).mono ?_;rintro e w6 ⟨rfl,Bv⟩;have X6:=agC (X5.out.mono Bv);have CK:=agC (AQ.out.trans (Bv.mono AQ.out.size));clear Bv;go_wp2_with fail;refine (AT.out _ (HT.out.keep CK.out)).mono ?_;rintro e w7 ⟨v7,Vo,rfl,Kx,BK⟩;have X7:=agC (X6.out.mono BK);have Em:=agC (CK.out.trans (BK.mono CK.out.size));have Y7:=agC Kx.reads;obtain ⟨a7,c7,rfl⟩:=aN Kx.row;clear Kx BK
   cases K with
   |false=>
    clear M5;generalize bi rdI T=rr at Y7⊢;obtain ⟨l7,f7⟩:=rr;go_wp2_with fail;refine (OG.out _ X7.out (HT.out.keep Em.out)).mono ?_;rintro e w8 ⟨rfl,CX⟩;have IT:=agC (Em.out.trans (CX.mono Em.out.size));clear CX;go_wp2;go_ret;exact ⟨rfl,IT.out⟩
   |true=>
    rw [M5.out rfl] at Y7⊢;simp only at Y7⊢;go_wp2_with fail;refine (OG.out _ X7.out (HT.out.keep Em.out)).mono ?_;rintro e w8 ⟨rfl,CX⟩;have IT:=agC (Em.out.trans (CX.mono Em.out.size));have X8:=agC (X7.out.mono CX);have Y8:=agC (Y7.out.mono CX);clear CX;go_wp2_with fail;refine (ji _ _ l w8 Y8.out X8.out).mono ?_;rintro e w9 ⟨rfl,Dh⟩;have SU:=agC (IT.out.trans (Dh.mono IT.out.size));clear Dh;go_wp2;go_ret;exact ⟨rfl,SU.out⟩
  ·obtain ⟨By,QP,hfn,hall⟩:=F8.out hf
   subst By;have OH:=agC hall
   have Vm:LS.length≤9223372036854775807:=by
    obtain ⟨-,cp,-,g1,g2,-⟩:=RowOf.of_own O5.out
    have g3:(fN LS).length=LS.length:=by simp [fN]
    unfold maxLen at g2
    omega
   clear hall hf F4 F8 DJ IR;go_wp2_with fail
   go_loopw [9] (fun i wr=> ∃k:Nat,i= .int .i64 (k:Int)∧(k:Int)≤f∧Below w5.heap.size w5 wr) (fun i _=>(f-intOf i).toNat)
   case atStart=>exact ⟨0,rfl,by omega,Below.refl _ _⟩
   case round=>
    obtain ⟨k,rfl,Vp,FD⟩:=hrel;have BI:=agC (AQ.out.trans (FD.mono AQ.out.size));have JD:=agC FD;clear FD
    by_cases Ab:(k:Int)<f
    ·have BG:=agC Ab
     have Bm:(k:Int)<(LS.length:Int):=by omega
     have Bo:(0:Int)≤(k:Int):=by omega
     have OI:k<LS.length:=by omega
     obtain ⟨g,rfl,hg,hc⟩:=abN O5.out k OI;have DS:=(JD.out.cell (p:=⟨g,k,none⟩) hg).trans hc;have HI:=agC (FY.out k OI wr (HT.out.keep BI.out));have At:=OH.out k OI Ab;obtain ⟨it,LH⟩:=Option.ne_none_iff_exists'.mp At;rw [LH] at HI;clear hc At LH;generalize LS[k]=t at DS HI;go_wp2_with fail;refine HI.out.mono ?_;rintro e w6 ⟨v6,rfl,OM,Bv⟩;simp only [Option.getD_some,Option.isSome_some] at OM⊢;obtain ⟨a6,c6,rfl⟩:=aN OM;have CK:=agC ((JD.out.trans (Bv.mono JD.out.size)).alloc (by have:=JD.out.size;have:=Bv.size;omega) (.cells #[.int .i64 it.1, .string it.2.1, .slice a6 it.2.2.1.length c6, .string it.2.2.2] 32));clear OM Bv;go_wp2;go_roundw
     case rel=>exact ⟨k+1,by go_num,by have:=BG.out;omega,CK.out⟩
     case measure=>have:=BG.out;simp [intOf];omega
    ·have OJ:f=(k:Int):=by omega
     subst OJ;have CJ:(k:Int)≤(LS.length:Int):=hfn;go_wp2_with fail;refine (zE _).mono ?_;rintro e w' ⟨rfl,rfl⟩;go_wp2;go_ret;exact ⟨rfl,BI.out⟩
 ·clear Be Al Ew
  go_enter Tryz.func12,Tryz.ntmps12
  go_wp2;go_ret;exact ⟨rfl,Below.refl _ _⟩
theorem kg (a0:Option Addr) (len0 cap0:Nat) (w:World) (Be:CodeRow w a0 len0 cap0) (Al:Tab w):
  Calls Tryz.prog 12 #[.slice a0 len0 cap0] w fun e w'=>e= .returned (.bool true)∧Below w.heap.size w w':=
 jf ae1 a0 len0 cap0 w Be Al
end Go.Proofs.YtegdjjjpoahamaaGreatDoor
