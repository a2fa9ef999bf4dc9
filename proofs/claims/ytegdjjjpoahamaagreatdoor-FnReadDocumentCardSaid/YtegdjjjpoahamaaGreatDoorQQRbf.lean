/-
  Part of the proof of FnReadDocument.
-/
import Derived.Test.YtegdjjjpoahamaaGreatDoorQQRau
import Derived.Test.YtegdjjjpoahamaaGreatDoorQQRat
import Derived.Test.YtegdjjjpoahamaaGreatDoorQQRal
import Derived.Test.YtegdjjjpoahamaaGreatDoorQQRaj
set_option linter.unusedVariables false
set_option maxHeartbeats 8000000
set_option maxRecDepth 100000
namespace Go.Proofs.YtegdjjjpoahamaaGreatDoor
theorem zm: ∀(l:List UInt8),rn 1 (aM l)=some 1:=by
 intro l
 induction l with
 |nil=>rfl
 |cons x l ih=>
  have e:aM (x::l)=ba x++aM l:=by simp [aM]
  rw [e,fy]
  have:rn 1 (ba x)=some 1:=by
   unfold ba
   by_cases h1:x=10
   ·rw [if_pos h1];rfl
   ·rw [if_neg h1]
    by_cases h2:x=34∨x=92
    ·rw [if_pos h2];rfl
    ·rw [if_neg h2]
     show (if _ then none else rn (nx 1 x) [])=_
     rw [if_neg (by omega)]
     have:nx 1 x=1:=by
      unfold nx;rw [if_neg (by omega),if_pos rfl,if_neg (fun k=>h2 (.inr k)),if_neg (fun k=>h2 (.inl k))]
     rw [this];rfl
  rw [this];exact ih
theorem zo (l:List UInt8):rn 0 (bc l)=some 0:=by
 unfold bc
 show rn 1 (aM l++[34])=_
 rw [fy,zm];rfl
theorem abO {c:UInt8} (hd:isD c=false) (h1:c≠45) (h2:c≠46) (h3:c≠47) (t b:Int):c∉aJ t b:=by
 have pos: ∀t b:Nat,0<b→c∉aA t b:=by
  intro t b hb;have k1:=bD (cd (t/b)).1 c hd;have k2:=bD (cd t).1 c hd;have k3:=bD (cd b).1 c hd;have k4:=bD (iD 6 (t % b) b (Nat.mod_lt _ hb)) c hd;unfold aA aO
  split
  ·split
   ·simp [k1]
   ·simp [k1,k4,h2]
  ·simp [k2,k3,h3]
 unfold aJ
 split
 ·rename_i hv
  obtain ⟨v1,v2,v3,v4⟩:=gN hv;unfold fQ
  split
  ·have:=pos (-t).toNat b.toNat (by omega)
   simp [this,h1]
  ·exact pos t.toNat b.toNat (by omega)
 ·simp
def lD (l:List UInt8):Prop:=l≠[]∧l.head? ≠some 32∧l.getLast? ≠some 32
theorem abP {l:List UInt8} (h:l≠[]) (Fj:(32:UInt8)∉l):lD l:=
 ⟨h,fun k=>Fj (List.mem_of_head? k),fun k=>Fj (List.mem_of_getLast? k)⟩
theorem vo {a m b:List UInt8} (ha:lD a) (hb:lD b):lD (a++(m++b)):=by
 refine ⟨by simp [ha.1], ?_, ?_⟩
 ·cases a with
  |nil=>exact absurd rfl ha.1
  |cons x a=>exact ha.2.1
 ·rw [←List.append_assoc,List.getLast?_append]
  cases h:b.getLast? with
  |none=>exact absurd (List.getLast?_eq_none_iff.mp h) hb.1
  |some z=>have:=hb.2.2;rw [h] at this;exact this
def jg (l:List UInt8):Prop:=rn 0 l=some 0∧lD l
theorem eO {l:List UInt8} (h:l≠[]) (h1: ∀b∈l,b≠34∧b≠35∧b≠32):jg l:=
 ⟨js l fun b hb=>⟨(h1 b hb).1,(h1 b hb).2.1⟩,abP h fun k=>(h1 32 k).2.2 rfl⟩
theorem il {a b:List UInt8} (ha:jg a) (hb:jg b) (m:List UInt8) (hm: ∀b∈m,b≠34∧b≠35):jg (a++(m++b)):=
 ⟨by rw [fy,ha.1];show rn 0 (m++b)=_;rw [fy,js m hm];exact hb.1,vo ha.2 hb.2⟩
theorem vp (l:List UInt8):jg (bc l):=by
 refine ⟨zo l,by simp [bc],by simp [bc], ?_⟩;unfold bc;rw [←List.cons_append,List.getLast?_concat];decide
theorem jK {x:Pt} (h:jg x.2) (r:Int):jg (cR r x):=by
 unfold cR
 split
 ·have h1:jg ([40]:List UInt8):=eO (by decide) (by decide)
  have h2:jg ([41]:List UInt8):=eO (by decide) (by decide);have:=il (il h1 h [] (by simp)) h2 [] (by simp)
  simpa using this
 ·exact h
theorem xR: ∀(xs:List Pt),(∀x∈xs,jg x.2)→rn 0 (cJ xs)=some 0:=by
 have tail: ∀(xs:List Pt),(∀x∈xs,jg x.2)→rn 0 (fi xs)=some 0:=by
  intro xs
  induction xs with
  |nil=>intro _;rfl
  |cons x xs ih=>
   intro h
   have e:fi (x::xs)=[44,32]++(x.2++fi xs):=by simp [fi]
   rw [e,fy,js [44,32] (by decide)]
   show rn 0 (x.2++fi xs)=_
   rw [fy,(h x (List.mem_cons_self ..)).1]
   exact ih fun y hy=>h y (List.mem_cons_of_mem _ hy)
 intro xs h
 cases xs with
 |nil=>rfl
 |cons x xs=>
  rw [cJ,fy,(h x (List.mem_cons_self ..)).1]
  exact tail xs fun y hy=>h y (List.mem_cons_of_mem _ hy)
theorem sR {l:List UInt8} (h: ∀c∈l,nmI (c.toNat:Int)=true): ∀b∈l,b≠34∧b≠35∧b≠32:=by
 intro b hb;have:=h b hb
 refine ⟨?_, ?_, ?_⟩<;>rintro rfl<;>exact absurd this (by decide)
theorem vq {l:List UInt8} (h:0<ap l): ∀b∈[32]++l++[32],b≠34∧b≠35:=by
 have key: ∀{p:Prop} [Decidable p] {a b:Int} {Q:Prop},(p→Q)→(0<b→Q)→0<(if p then a else b)→Q:=by
  intro p _ a b Q ha hb h
  by_cases k:p
  ·exact ha k
  ·rw [if_neg k] at h;exact hb h
 revert h
 unfold ap
 iterate 13 (refine key (by rintro rfl;decide) ?_)
 exact fun h=>absurd h (by decide)
theorem zp {c:Cl} (hc:okC c=true) {ks:List Pt} (hk: ∀x∈ks,jg x.2) (Ai:ks.length=c.2.2.toNat):jg (bF c ks):=by
 have IU:=hc;rw [okC,aF,Bool.and_eq_true] at IU;obtain ⟨hw,hm⟩:=IU
 have Bc: ∀i,i<ks.length→jg (dH ks i).2:=by
  intro i hi
  have:dH ks i=ks[i]:=by unfold dH;rw [List.getD_eq_getElem?_getD,List.getElem?_eq_getElem hi];rfl
  rw [this];exact hk _ (List.getElem_mem hi)
 unfold bF
 by_cases h2:c.1=2
 ·rw [if_pos h2];exact vp _
 rw [if_neg h2]
 by_cases h5:c.1=5
 ·rw [if_pos h5]
  refine ⟨?_,by simp,by simp, ?_⟩
  ·show rn 0 (cJ ks++[93])=_
   rw [fy,xR ks hk];rfl
  ·rw [←List.cons_append,List.getLast?_concat];decide
 rw [if_neg h5]
 by_cases h6:c.1=6
 ·rw [if_pos h6]
  rw [ar,if_neg (by omega),if_neg h2,if_neg (by omega),if_neg (by omega),if_neg h5,if_pos h6,Bool.and_eq_true] at hw;obtain ⟨b,t,e,hb,ht,-⟩:=ir hw.1
  have hall: ∀x∈c.2.1.data.toList,nmI (x.toNat:Int)=true:=by
   have AU:=hw.1;unfold cI at AU;rw [Bool.and_eq_true] at AU;exact rh _ 0 AU.1
  have M8:=eO (by rw [e];simp) (sR hall);refine ⟨?_,by simp, ?_, ?_⟩
  ·rw [fy,M8.1]
   show rn 0 (cJ ks++[41])=_
   rw [fy,xR ks hk];rfl
  ·rw [e];have:=M8.2.2.1;rw [e] at this;exact this
  ·rw [←List.cons_append,←List.append_assoc,List.getLast?_concat];decide
 rw [if_neg h6]
 by_cases h7:c.1=7
 ·rw [if_pos h7]
  rw [ar,if_neg (by omega),if_neg h2,if_neg (by omega),if_neg (by omega),if_neg h5,if_neg h6,if_pos h7,Bool.or_eq_true,beq_iff_eq,beq_iff_eq] at hw;rw [aQ,if_neg (by omega),if_neg (by omega),if_pos h7,beq_iff_eq] at hm
  have S7:jg c.2.1.data.toList:=by
   rcases hw with e|e<;>rw [e]<;>exact eO (by decide) (by decide)
  have:=il S7 (jK (Bc 0 (by omega)) 7) [] (by simp)
  simpa using this
 rw [if_neg h7]
 by_cases h8:c.1=8
 ·rw [if_pos h8]
  rw [ar,if_neg (by omega),if_neg h2,if_neg (by omega),if_neg (by omega),if_neg h5,if_neg h6,if_neg h7,if_pos h8,decide_eq_true_eq] at hw;rw [aQ,if_neg (by omega),if_neg (by omega),if_neg h7,if_pos h8,beq_iff_eq] at hm;have AN:=vq hw;rw [List.append_assoc];exact il (jK (Bc 0 (by omega)) _) (jK (Bc 1 (by omega)) _) _ AN
 rw [if_neg h8]
 by_cases h9:c.1=9
 ·rw [if_pos h9]
  rw [aQ,if_neg (by omega),if_neg (by omega),if_neg h7,if_neg h8,if_pos h9,beq_iff_eq] at hm;have a:=il (jK (Bc 0 (by omega)) 2) (Bc 1 (by omega)) [32,63,32] (by decide);have b:=il a (Bc 2 (by omega)) [32,58,32] (by decide)
  simpa using b
 rw [if_neg h9]
 have hk:c.1=1∨c.1=3∨c.1=4:=by
  unfold aQ at hm
  repeat' split at hm
  all_goals first|omega|(cases hm)
 rcases hk with k|k|k
 ·rw [ar,if_pos k,kf,Bool.and_eq_true] at hw
  have e:=ng _ hw.1;refine eO ?_ ?_
  ·intro h
   obtain h0:c.2.1=⟨#[]⟩:=ByteArray.ext (by simpa using h);rw [h0] at hw;exact absurd hw.1 (by decide)
  ·intro b hb
   rw [←e] at hb
   refine ⟨?_, ?_, ?_⟩<;>rintro rfl<;>exact abO (by decide) (by decide) (by decide) (by decide) _ _ hb
 ·rw [ar,if_neg (by omega),if_neg h2,if_pos k,Bool.or_eq_true,beq_iff_eq,beq_iff_eq] at hw
  rcases hw with e|e<;>rw [e]<;>exact eO (by decide) (by decide)
 ·rw [ar,if_neg (by omega),if_neg h2,if_neg (by omega),if_pos k,Bool.and_eq_true] at hw
  obtain ⟨b,t,e,-⟩:=ir hw.1;have AU:=hw.1;unfold cI at AU;rw [Bool.and_eq_true] at AU;exact eO (by rw [e];simp) (sR (rh _ 0 AU.1))
theorem Tx.calm {l:List Cl} (Aj:l.all okC=true) {n f t:Nat} {xs:List Pt} (h:Tx l n f t xs): ∀x∈xs,jg x.2:=by
 induction h with
 |nil f=>intro x hx;cases hx
 | @cons f g n t c ks xs hc h1 h2 i1 i2=>
  intro x hx
  rcases List.mem_cons.mp hx with rfl|hx
  ·exact zp (List.all_eq_true.mp Aj c (List.mem_of_getElem? hc)) i1 h1.len
  ·exact i2 x hx
theorem vr {l:List Cl} (Aj:okE l=true):jg (bh l):=by
 obtain ⟨x,hx⟩:=og Aj;rw [io Aj hx];exact hx.calm ((dE l).mp Aj).2.1 x (List.mem_singleton.mpr rfl)
def qe:It:=(0,⟨#[]⟩,[],⟨#[]⟩)
noncomputable def dD (R:ByteArray→List Cl) (l:List UInt8):It:=
 if l=[] then (1,⟨#[]⟩,[],⟨#[]⟩)
 else if l=[125] then (5,⟨#[]⟩,[],⟨#[]⟩)
 else if l.head? =some 35 then (2,⟨#[]⟩,[],baL (ah (l.drop 1)))
 else if ah (nmQ l)=[123] then (4,baL (nmP l),[],⟨#[]⟩)
 else if (ah (nmQ l)).head? =some 61 then (3,baL (nmP l),R (baL (dX ((ah (nmQ l)).drop 1))),baL (ey ((ah (nmQ l)).drop 1)))
 else (0,baL (nmP l),[],⟨#[]⟩)
noncomputable def aH (R:ByteArray→List Cl) (s:ByteArray):Option It:=
 if aP (dD R (ah s.data.toList))=true then some (dD R (ah s.data.toList)) else none
theorem zI {R:ByteArray→List Cl} {s:ByteArray} {i:It} (h:aH R s=some i):aP i=true:=by
 unfold aH at h
 split at h
 ·rename_i k;injection h with h;rw [←h];exact k
 ·cases h
noncomputable def de (i:It) (w:Nat):List UInt8:=
 if i.1=5 then [125]
 else if i.1=4 then i.2.1.data.toList++[32,123]
 else if i.1=2 then 35::(if emB i.2.2.2=true then [] else 32::i.2.2.2.data.toList)
 else if i.1=3 then i.2.1.data.toList++(spL (w-i.2.1.size)++([32,61,32]++(bh i.2.2.1++(if emB i.2.2.2=true then [] else [32,35,32]++i.2.2.2.data.toList))))
 else []
noncomputable def bj (i:It) (deep w:Nat):List UInt8:=if i.1=1 then [] else spL (2*deep)++de i w
theorem fI {s:ByteArray}:emB s=true↔s=⟨#[]⟩:=by
 unfold emB;rw [beq_iff_eq]
 constructor
 ·intro h;exact ByteArray.ext (Array.size_eq_zero_iff.mp h)
 ·rintro rfl;rfl
theorem ot {s:ByteArray} (h:eG s=true) (At:emB s≠true):lD s.data.toList:=by
 unfold eG at h;simp only [Bool.and_eq_true,bne_iff_ne,ne_eq] at h;refine ⟨?_,h.2.2.2.1,h.2.2.2.2⟩;intro k
 apply At
 rw [fI];exact ByteArray.ext (by simpa using k)
theorem zJ: ∀(l:List UInt8) (n:Nat),bT n l=true→dV l 46=false→ ∀b∈l,jt b=true:=by
 intro l
 induction l with
 |nil=>intro n _ _ b hb;cases hb
 |cons x l ih=>
  intro n h hp b hb;simp only [dV,List.any_cons,Bool.or_eq_false_iff,beq_eq_false_iff_ne] at hp;rw [bT] at h;rw [if_neg (by simp [hp.1])] at h
  split at h
  ·cases h
  rename_i Eb
  split at h
  ·cases h
  rcases List.mem_cons.mp hb with rfl|hb
  ·unfold iE at Eb
   unfold jt cU;simp only [Bool.and_eq_true,Bool.not_eq_true',Bool.or_eq_true,beq_iff_eq,bne_iff_ne,ne_eq,not_and,not_or] at Eb⊢
   by_cases h1:bS (b.toNat:Int)=true
   ·exact .inl (.inl h1)
   ·have:=Eb (by simpa using h1)
    by_cases h2:cf (b.toNat:Int)=true
    ·exact .inl (.inr h2)
    ·right
     have:=this.2 (by simpa using h2)
     simpa using this
  ·exact ih _ h (by simpa [dV] using hp.2) b hb
theorem iT {s:ByteArray} (h:fw s=true):(∃b t,s.data.toList=b::t∧bS (b.toNat:Int)=true)∧(∀b∈s.data.toList,jt b=true):=by
 unfold fw at h;rw [Bool.and_eq_true,Bool.not_eq_true'] at h;obtain ⟨b,t,e,hb,-⟩:=ir h.1;have h1:=h.1;unfold cI at h1;rw [Bool.and_eq_true] at h1;exact ⟨⟨b,t,e,hb⟩,zJ _ 0 h1.1 h.2⟩
theorem qf {b:UInt8} (h:bS (b.toNat:Int)=true):b≠32∧b≠35∧b≠125:=by
 refine ⟨?_, ?_, ?_⟩<;>rintro rfl<;>exact absurd h (by decide)
theorem jw {a b:List UInt8} (hb:b≠[]):(a++b).getLast? =b.getLast? :=by
 rw [List.getLast?_append]
 cases h:b.getLast? with
 |none=>exact absurd (List.getLast?_eq_none_iff.mp h) hb
 |some z=>rfl
theorem wi {l m:List UInt8} (a:Nat) (e:l=spL a++m) (hr:rn 0 m=some 0) (ht:lD m):dX l=m∧ey l=[]:=by
 have hn:hs 0 l=none:=by
  refine adV _ 0 0 ?_;rw [e,fy,js (spL a) (fun b hb=>by unfold spL at hb;rw [List.eq_of_mem_replicate hb];decide)];exact hr
 unfold dX ey;rw [hn];refine ⟨?_,rfl⟩
 show ah l=m
 have:=fb (m:=m) a 0 ht.2.1 ht.2.2;rw [e]
 simpa [spL] using this
theorem wj {l m q:List UInt8} (a b c:Nat) (e:l=(spL a++(m++spL b))++35::(spL c++q)) (hr:rn 0 m=some 0) (ht:lD m) (hq:lD q):dX l=m∧ey l=q:=by
 have sp: ∀n,rn 0 (spL n)=some 0:=fun n=>js (spL n) (fun b hb=>by unfold spL at hb;rw [List.eq_of_mem_replicate hb];decide)
 have hn:hs 0 l=some (spL a++(m++spL b)).length:=by
  rw [e];refine adW _ _ 0 ?_;rw [fy,sp a]
  show rn 0 (m++spL b)=_
  rw [fy,hr];exact sp b
 unfold dX ey;rw [hn]
 constructor
 ·show ah (l.take _)=m
  rw [e,List.take_left];exact fb a b ht.2.1 ht.2.2
 ·show ah (l.drop _)=q
  rw [e,←List.drop_drop,List.drop_left];have:=fb (m:=q) c 0 hq.2.1 hq.2.2
  simpa [spL] using this
theorem acd {R:ByteArray→List Cl} (hR: ∀l,okE l=true→R (baL (bh l))=l) {i:It} (h:aP i=true) (h1:i.1≠1) (w:Nat):dD R (de i w)=i∧(de i w).head? ≠some 32∧(de i w).getLast? ≠some 32:=by
 obtain ⟨k,nm,ex,no⟩:=i;unfold aP at h;simp only at h h1
 by_cases h5:k=5
 ·subst h5
  rw [if_pos (.inr rfl),Bool.and_eq_true,Bool.and_eq_true,fI,fI,List.isEmpty_iff] at h;obtain ⟨rfl,rfl,rfl⟩:=h;refine ⟨?_,by simp [de],by simp [de]⟩
  simp [de,dD]
 rw [if_neg (by omega)] at h
 by_cases h2:k=2
 ·subst h2
  rw [if_pos rfl,Bool.and_eq_true,Bool.and_eq_true,fI,List.isEmpty_iff] at h;obtain ⟨rfl,rfl,hn⟩:=h
  by_cases he:emB no=true
  ·have e:de (2,⟨#[]⟩,[],no) w=[35]:=by simp [de,he]
   rw [e];refine ⟨?_,by decide,by decide⟩;rw [fI] at he;subst he
   simp [dD,ah,trL,baL]
  ·have e:de (2,⟨#[]⟩,[],no) w=35::32::no.data.toList:=by simp [de,he]
   have ht:=ot hn he;rw [e];refine ⟨?_,by simp, ?_⟩
   ·have H9:ah (32::no.data.toList)=no.data.toList:=by
     have:=fb (m:=no.data.toList) 1 0 ht.2.1 ht.2.2
     simpa [spL] using this
    unfold dD;rw [if_neg (by simp),if_neg (by simp),if_pos List.head?_cons]
    show ((2:Int),_,_,baL (ah (32::no.data.toList)))=_
    rw [H9,ip]
   ·rw [show (35:UInt8)::32::no.data.toList=[35,32]++no.data.toList from rfl,jw ht.1];exact ht.2.2
 rw [if_neg h2] at h
 by_cases h3:k=3
 ·subst h3
  rw [if_pos rfl,Bool.and_eq_true,Bool.and_eq_true] at h;obtain ⟨Cj,hE,hn⟩:=h;obtain ⟨⟨b,t,eb,hb⟩,hall⟩:=iT Cj;obtain ⟨JU,JV,GO⟩:=qf hb;obtain ⟨Nh,Mj⟩:=vr hE;have Re:=hR ex hE
  have main: ∀tail:List UInt8,(∀x,(bh ex++tail).getLast? =some x→x≠32)→
    nmP (nm.data.toList++(spL (w-nm.size)++([32,61,32]++(bh ex++tail))))=nm.data.toList∧
    ah (nmQ (nm.data.toList++(spL (w-nm.size)++([32,61,32]++(bh ex++tail)))))=61::32::(bh ex++tail):=by
   intro tail Fw
   have Dx:spL (w-nm.size)++([32,61,32]++(bh ex++tail))=spL (w-nm.size+1)++(61::32::(bh ex++tail)):=by
    simp only [spL,List.replicate_succ',List.append_assoc];rfl
   rw [Dx]
   obtain ⟨p1,p2⟩:=s7 nm.data.toList (spL (w-nm.size+1)++(61::32::(bh ex++tail))) hall (by
    intro x hx;rw [spL,List.replicate_succ,List.cons_append,List.head?_cons] at hx
    injection hx with hx;subst hx;decide)
   rw [p1,p2];refine ⟨rfl, ?_⟩
   have At:bh ex++tail≠[]:=by simp [Mj.1]
   have:=fb (m:=61::32::(bh ex++tail)) (w-nm.size+1) 0 (by simp) (by
    rw [show (61:UInt8)::32::(bh ex++tail)=[61,32]++(bh ex++tail) from rfl,jw At]
    intro k;exact Fw 32 k rfl)
   simpa [spL] using this
  have raw: ∀tail:List UInt8,(∀x,(bh ex++tail).getLast? =some x→x≠32)→
    dD R (nm.data.toList++(spL (w-nm.size)++([32,61,32]++(bh ex++tail))))=(3,nm,R (baL (dX (32::(bh ex++tail)))),baL (ey (32::(bh ex++tail))))∧
    (nm.data.toList++(spL (w-nm.size)++([32,61,32]++(bh ex++tail)))).head? ≠some 32∧
    (nm.data.toList++(spL (w-nm.size)++([32,61,32]++(bh ex++tail)))).getLast? ≠some 32:=by
   intro tail Fw;obtain ⟨p1,p2⟩:=main tail Fw
   have Dp:(nm.data.toList++(spL (w-nm.size)++([32,61,32]++(bh ex++tail)))).head? =some b:=by rw [eb];rfl
   refine ⟨?_, ?_, ?_⟩
   ·unfold dD
    rw [if_neg (by rw [eb];simp),if_neg (by
     intro k
     have:(nm.data.toList++(spL (w-nm.size)++([32,61,32]++(bh ex++tail)))).head? =some 125:=by rw [k];rfl
     rw [Dp] at this;injection this with this;exact GO this),if_neg (by rw [Dp];intro k;injection k with k;exact JV k),p1,p2,if_neg (by simp),if_pos List.head?_cons,ip]
    rfl
   ·rw [Dp];intro k;injection k with k;exact JU k
   ·have At:bh ex++tail≠[]:=by simp [Mj.1]
    rw [←List.append_assoc,←List.append_assoc,jw At];intro k;exact Fw 32 k rfl
  by_cases he:emB no=true
  ·have e:de (3,nm,ex,no) w=nm.data.toList++(spL (w-nm.size)++([32,61,32]++(bh ex++[]))):=by simp [de,he]
   obtain ⟨r1,r2,r3⟩:=raw [] (by rw [List.append_nil];intro x hx k;subst k;exact Mj.2.2 hx);obtain ⟨c1,c2⟩:=wi (l:=32::(bh ex++[])) (m:=bh ex) 1 (by simp [spL]) Nh Mj;rw [e];refine ⟨?_,r2,r3⟩;rw [r1,c1,c2,Re];rw [fI] at he;rw [he];rfl
  ·have ht:=ot hn he
   have e:de (3,nm,ex,no) w=nm.data.toList++(spL (w-nm.size)++([32,61,32]++(bh ex++([32,35,32]++no.data.toList)))):=by simp [de,he]
   obtain ⟨r1,r2,r3⟩:=raw ([32,35,32]++no.data.toList) (by
    intro x hx k;subst k
    rw [←List.append_assoc,jw ht.1] at hx;exact ht.2.2 hx)
   obtain ⟨c1,c2⟩:=wj (l:=32::(bh ex++([32,35,32]++no.data.toList))) (m:=bh ex) (q:=no.data.toList) 1 1 1 (by simp [spL]) Nh Mj ht;rw [e];refine ⟨?_,r2,r3⟩;rw [r1,c1,c2,Re,ip]
 rw [if_neg h3] at h
 by_cases h4:k=4
 ·subst h4
  rw [if_pos rfl,Bool.and_eq_true,Bool.and_eq_true,fI,List.isEmpty_iff] at h;obtain ⟨Cj,rfl,rfl⟩:=h;obtain ⟨⟨b,t,eb,hb⟩,hall⟩:=iT Cj;obtain ⟨JU,JV,GO⟩:=qf hb
  have e:de (4,nm,[],⟨#[]⟩) w=nm.data.toList++[32,123]:=by simp [de]
  obtain ⟨p1,p2⟩:=s7 nm.data.toList [32,123] hall (by intro x hx;injection hx with hx;subst hx;decide)
  have Dp:(nm.data.toList++[32,123]).head? =some b:=by rw [eb];rfl
  rw [e];refine ⟨?_, ?_, ?_⟩
  ·unfold dD
   rw [if_neg (by rw [eb];simp),if_neg (by
     intro k
     have:(nm.data.toList++[32,123]).head? =some 125:=by rw [k];rfl
     rw [Dp] at this;injection this with this;exact GO this),if_neg (by rw [Dp];intro k;injection k with k;exact JV k),p1,p2,if_pos (by decide),ip]
  ·rw [Dp];intro k;injection k with k;exact JU k
  ·rw [jw (by simp)];decide
 ·rw [if_neg h4] at h;cases h
theorem kQ {R:ByteArray→List Cl} (hR: ∀l,okE l=true→R (baL (bh l))=l) {i:It} (h:aP i=true) (deep w:Nat) {s:ByteArray} (hs:s.data.toList=bj i deep w):aH R s=some i:=by
 have key:dD R (ah s.data.toList)=i:=by
  rw [hs];unfold bj
  by_cases h1:i.1=1
  ·rw [if_pos h1]
   obtain ⟨k,nm,ex,no⟩:=i;simp only at h1;subst h1;unfold aP at h;rw [if_pos (.inl rfl),Bool.and_eq_true,Bool.and_eq_true,fI,fI,List.isEmpty_iff] at h;obtain ⟨h2,h3,h4⟩:=h;simp only at h2 h3 h4;subst h2;subst h3;subst h4
   rfl
  ·rw [if_neg h1]
   obtain ⟨c1,c2,c3⟩:=acd hR h h1 w;have:=fb (m:=de i w) (2*deep) 0 c2 c3;rw [show spL 0=[] from rfl,List.append_nil] at this;rw [this,c1]
 unfold aH;rw [key,if_pos h]
noncomputable def eA (R:ByteArray→List Cl) (l:List UInt8):It:=
 if l=[] then (1,⟨#[]⟩,[],⟨#[]⟩)
 else if l=[125] then (5,⟨#[]⟩,[],⟨#[]⟩)
 else if l.head? =some 35 then (2,⟨#[]⟩,[],baL (ah (l.drop 1)))
 else if trL (nmQ l)=[123] then (4,baL (nmP l),[],⟨#[]⟩)
 else if (trL (nmQ l)).head? =some 61 then (3,baL (nmP l),R (baL (ie ((trL (nmQ l)).drop 1))),baL (ey ((trL (nmQ l)).drop 1)))
 else (0,⟨#[]⟩,[],⟨#[]⟩)
noncomputable def iQ (R:ByteArray→List Cl) (s:ByteArray):Option It:=
 if aP (eA R (ah s.data.toList))=true then some (eA R (ah s.data.toList)) else none
theorem p8 (n:ByteArray):aP (0,n,[],⟨#[]⟩)=false:=by simp [aP]
theorem oh {R:ByteArray→List Cl} {B:Nat} (hR: ∀l:List UInt8,l.length≤B→R (baL l)=R (baL (ah l))) {s:ByteArray} (hs:s.size≤B):iQ R s=aH R s:=by
 obtain ⟨a,b,e,h0,h1⟩:=gp s.data.toList
 have hl:(ah s.data.toList).length≤B:=by
  have:=ce s.data.toList
  have h2:s.data.toList.length=s.size:=by rw [Array.length_toList];rfl
  omega
 unfold iQ aH;generalize ah s.data.toList=l at h0 h1 hl⊢;have hq:trL (nmQ l)=ah (nmQ l):=abF (by rw [ig];exact nV _ h1)
 by_cases c1:l=[]
 ·simp [eA,dD,c1]
 by_cases c2:l=[125]
 ·simp [eA,dD,c2]
 by_cases c3:l.head? =some 35
 ·have e1:eA R l=dD R l:=by rw [eA,dD,if_neg c1,if_neg c1,if_neg c2,if_neg c2,if_pos c3,if_pos c3]
  rw [e1]
 by_cases c4:ah (nmQ l)=[123]
 ·have e1:eA R l=dD R l:=by rw [eA,dD,if_neg c1,if_neg c1,if_neg c2,if_neg c2,if_neg c3,if_neg c3,hq,if_pos c4,if_pos c4]
  rw [e1]
 by_cases c5:(ah (nmQ l)).head? =some 61
 ·have e1:eA R l=dD R l:=by
   rw [eA,dD,if_neg c1,if_neg c1,if_neg c2,if_neg c2,if_neg c3,if_neg c3,hq,if_neg c4,if_neg c4,if_pos c5,if_pos c5,sJ,hR]
   have h3:(ie ((ah (nmQ l)).drop 1)).length≤((ah (nmQ l)).drop 1).length:=by
    unfold ie
    split
    ·rw [List.length_take];omega
    ·exact agD _
   have h4:=ce (nmQ l)
   have h5:(nmQ l).length≤l.length:=by rw [ig,List.length_drop];omega
   rw [List.length_drop] at h3
   omega
  rw [e1]
 ·have e1:eA R l=(0,⟨#[]⟩,[],⟨#[]⟩):=by rw [eA,if_neg c1,if_neg c2,if_neg c3,hq,if_neg c4,if_neg c5]
  have e2:dD R l=(0,baL (nmP l),[],⟨#[]⟩):=by rw [dD,if_neg c1,if_neg c2,if_neg c3,if_neg c4,if_neg c5]
  rw [e1,e2,p8,p8]
  rfl
inductive Tz (l:List Cl):Nat→Nat→Nat→List Pz→Prop
 |nil (f:Nat):Tz l 0 f f []
 |cons {f g n t:Nat} {c:Cl} {ks xs:List Pz}:l[f]? =some c→Tz l c.2.2.toNat (f+1) g ks→Tz l n g t xs→Tz l (n+1) f t (b8 c ks::xs)
theorem Tz.len {l:List Cl} {n f t:Nat} {xs:List Pz} (h:Tz l n f t xs):xs.length=n:=by
 induction h with
 |nil f=>rfl
 |cons hc h1 h2 i1 i2=>rw [List.length_cons,i2]
theorem Tz.tx {l:List Cl} {n f t:Nat} {xs:List Pz} (h:Tz l n f t xs):Tx l n f t (xs.map ee):=by
 induction h with
 |nil f=>exact .nil f
 |cons hc h1 h2 i1 i2=>exact .cons hc i1 i2
theorem Tz.of_exs {l:List Cl} {n f t d:Nat} (h:Exs (amL l) n f t d): ∃xs,Tz l n f t xs∧kU xs=d:=by
 generalize ha:amL l=am at h
 induction h with
 |nil f=>exact ⟨[], .nil f,rfl⟩
 | @cons f m g d n t e hm h1 h2 i1 i2=>
  obtain ⟨ks,k1,k2⟩:=i1;obtain ⟨xs,k3,k4⟩:=i2;subst ha;obtain ⟨c,hc,rfl⟩:=xS hm;refine ⟨_, .cons hc k1 k3, ?_⟩;simp only [kU,b8,k2,k4]
theorem Tz.good {l:List Cl} (Aj:l.all okC=true) {n f t:Nat} {xs:List Pz} (h:Tz l n f t xs): ∀x∈xs,Good x:=by
 induction h with
 |nil f=>intro x hx;cases hx
 | @cons f g n t c ks xs hc h1 h2 i1 i2=>
  intro x hx
  rcases List.mem_cons.mp hx with rfl|hx
  ·obtain ⟨hl,he⟩:=List.getElem?_eq_some_iff.mp hc
   exact aeo (by rw [←he];exact jL Aj f hl) h1.len i1
  ·exact i2 x hx
theorem Tz.cells {l:List Cl} {n f t:Nat} {xs:List Pz} (h:Tz l n f t xs):xs.flatMap Pz.cl=(l.drop f).take (t-f)∧f≤t:=by
 induction h with
 |nil f=>simp
 | @cons f g n t c ks xs hc h1 h2 i1 i2=>
  obtain ⟨hl,he⟩:=List.getElem?_eq_some_iff.mp hc;obtain ⟨e1,l1⟩:=i1;obtain ⟨e2,l2⟩:=i2;refine ⟨?_,by omega⟩
  have e0:l.drop f=c::l.drop (f+1):=by rw [List.drop_eq_getElem_cons hl,he]
  rw [List.flatMap_cons,e2];simp only [b8];rw [e1,e0,show t-f=(t-(f+1))+1 by omega,List.take_succ_cons,List.cons_append]
  congr 1
  have:l.drop g=(l.drop (f+1)).drop (g-(f+1)):=by rw [List.drop_drop];congr 1;omega
  rw [this,show t-(f+1)=(g-(f+1))+(t-g) by omega,List.take_add]
theorem aeO {l:List Cl} (Aj:okE l=true): ∃x:Pz,Good x∧x.tx=bh l∧x.cl=l∧x.dp≤12:=by
 obtain ⟨Ci,En,d,hd,hx⟩:=(dE l).mp Aj;obtain ⟨xs,h,hm⟩:=Tz.of_exs hx;have hl:=h.len
 match xs,hl,h,hm with
 |[x],_,h,hm=>
  refine ⟨x,h.good En x (by simp), ?_, ?_, ?_⟩
  ·have:=io Aj (x:=ee x) h.tx
   rw [this];rfl
  ·have:=h.cells.1
   simpa using this
  ·simp only [kU] at hm;omega
theorem adc {tx:List UInt8} {tk:List Kw} (h:Lex tx tk) (hp:aq tx=true) (hl:tx.length≤20000):cg ⟨tx.toArray⟩=tk.map fun x=>(x.1,(⟨x.2.toArray⟩:ByteArray)):=by
 obtain ⟨L,e1,b1,r1⟩:=h
 have he:b6 (0,0,[]) 0 tx=(0,tx.length,L):=by
  have:=r1 [] rfl 0 [];rw [List.append_nil,List.nil_append,Nat.zero_add] at this;rw [this]
  have hz:L.map (shT 0)=L:=by
   have:shT 0=id:=by funext x;rfl
   rw [this,List.map_id]
  rw [hz];unfold b6;rw [cQ,bN,eS];simp
 have Am:ez (0,0,[]) 0 tx=true:=by rw [ez,he];rfl
 have Aj:okT ⟨tx.toArray⟩=true:=by
  rw [okT,iN,hp,Am];simp only [Bool.and_true,decide_eq_true_eq]
  show tx.toArray.size≤20000
  simpa using hl
 have ht:aI ⟨tx.toArray⟩=L:=by
  rw [aI,if_pos Aj,iN,i8,if_pos Am,he]
 rw [cg,ht,←e1,List.map_map]
 apply List.map_congr_left
 intro x hx;have hb:=b1 x hx;simp only [Function.comp]
 congr 1
 apply dW
 rw [ByteArray.data_extract,Array.toList_extract,List.extract_eq_take_drop]
theorem afW {tx:List UInt8} {tk:List Kw} (h:Lex tx tk) (hp:aq tx=true) (hl:tx.length≤20000):AtK (cg ⟨tx.toArray⟩) 0 tk∧(cg ⟨tx.toArray⟩).length=tk.length:=by
 rw [adc h hp hl];refine ⟨fun i hi=> ?_,by simp⟩;rw [Nat.zero_add,List.getElem?_map,List.getElem?_eq_getElem hi];rfl
theorem aeB (tk:List Tk) {q:Nat} (h:tk.length≤q) (w:List UInt8):isT tk q w=false∧rkT tk q=0:=by
 unfold isT rkT;rw [List.getElem?_eq_none h];exact ⟨rfl,rfl⟩
theorem xl {x:Pz} (hg:Good x) (hd:x.dp≤20) (hl:x.tx.length≤20000) (Aj:okE x.cl=true):RdOK ⟨x.tx.toArray⟩ x.cl:=by
 obtain ⟨ha,Ai⟩:=afW hg.lex hg.plain hl;have he:=aeB (cg ⟨x.tx.toArray⟩) (q:=0+x.tk.length) (by omega);obtain ⟨n,hn,hr⟩:=hg.chc _ 0 ha (he [40]).1 (he []).2 (he [63]).1;have Mx:=hg.dp;refine ⟨⟨n, ?_,by omega⟩,Aj⟩;rw [Ai]
 rwa [Nat.zero_add] at hr
theorem oV {l:List Cl} (Aj:okE l=true):RdOK ⟨(bh l).toArray⟩ l:=by
 obtain ⟨x,hg,ht,hc,hd⟩:=aeO Aj;have hl:=gi l;rw [←ht] at hl⊢;rw [←hc] at Aj;rw [←hc];exact xl hg (by omega) (by omega) Aj
noncomputable def kH:Int→List It→List ByteArray
 |_,[]=>[]
 |d,i::is=>baL (bj i (fq d i).toNat 0)::kH (dO d i) is
noncomputable def aV (l:List It):List ByteArray:=kH 0 l
theorem fF: ∀(l:List It) (d:Int),(kH d l).length=l.length:=by
 intro l
 induction l with
 |nil=>intro d;rfl
 |cons i l ih=>intro d;rw [kH,List.length_cons,List.length_cons,ih]
theorem gh: ∀(l:List It) (d:Int) (k:Nat) (hk:k<l.length),(kH d l)[k]'(by rw [fF];exact hk)=baL (bj l[k] ((dL d l)[k]'(by rw [cj];exact hk)).toNat 0):=by
 intro l
 induction l with
 |nil=>intro d k hk;simp at hk
 |cons i l ih=>
  intro d k hk
  cases k with
  |zero=>rfl
  |succ k=>exact ih (dO d i) k (by simpa using hk)
noncomputable def ea (l:List It):Bool:=dT l&&el (aV l)
noncomputable def bR (l:List It):ByteArray:=if ea l=true then fS (aV l) else ⟨#[]⟩
noncomputable def goD (R:ByteArray→List Cl):List It→List ByteArray→Option (List It)×Nat
 |acc,[]=>(some acc,acc.length)
 |acc,s::ss=>match aH R s with
  |some i=>if aZ 0 (acc++[i])≠none∧acc.length≠30 then goD R (acc++[i]) ss else (none,acc.length)
  |none=>(none,acc.length)
noncomputable def cV (R:ByteArray→List Cl) (ss:List ByteArray):List It×Int:=
 match (goD R [] ss).1 with
 |some l=>if dT l=true then (l,-1) else ([],(ss.length:Int))
 |none=>([],((goD R [] ss).2:Int))
noncomputable def bi (R:ByteArray→List Cl) (s:ByteArray):List It×Int:=if aD s=true then cV R (bC s) else ([],0)
theorem abQ {R:ByteArray→List Cl}: ∀(ss:List ByteArray) (acc l:List It),(goD R acc ss).1=some l→ ∃t,l=acc++t∧t.length=ss.length:=by
 intro ss
 induction ss with
 |nil=>intro acc l h;injection h with h;exact ⟨[],by simp [h],rfl⟩
 |cons s ss ih=>
  intro acc l h;rw [goD] at h
  split at h
  ·split at h
   ·rename_i i _ _
    obtain ⟨t,e,k⟩:=ih _ _ h;exact ⟨i::t,by rw [e];simp,by simp [k]⟩
   ·cases h
  ·cases h
theorem abR {R:ByteArray→List Cl}: ∀(ss:List ByteArray) (acc:List It),(goD R acc ss).1=none→acc.length≤(goD R acc ss).2∧(goD R acc ss).2<acc.length+ss.length∧ ∀k,(hk:k<ss.length)→acc.length+k<(goD R acc ss).2→aH R ss[k]≠none:=by
 intro ss
 induction ss with
 |nil=>intro acc h;cases h
 |cons s ss ih=>
  intro acc h;rw [goD] at h⊢
  split at h
  ·rename_i i hi
   split at h
   ·rename_i hc
    (try rw [hi])
    simp only [if_pos hc];obtain ⟨h1,h2,h3⟩:=ih _ h;simp only [agE,List.length_cons,List.length_nil] at h1 h2 h3;refine ⟨by omega,by simp only [List.length_cons];omega, ?_⟩;intro k hk Ab
    cases k with
    |zero=>show aH R s≠none;rw [hi];simp
    |succ k=>exact h3 k (by simpa using hk) (by omega)
   ·rename_i hc
    (try rw [hi])
    simp only [if_neg hc];exact ⟨agD _,by simp,fun k hk Ab=>by omega⟩
  ·rename_i hi
   (try rw [hi])
   exact ⟨agD _,by simp,fun k hk Ab=>by simp only at Ab;omega⟩
theorem zq {R:ByteArray→List Cl}: ∀(l acc:List It) (ss:List ByteArray) (e:Int),aZ 0 (acc++l)=some e→acc.length+l.length≤30→ss.length=l.length→(∀k,(h1:k<ss.length)→(h2:k<l.length)→aH R ss[k]=some l[k])→(goD R acc ss).1=some (acc++l):=by
 intro l
 induction l with
 |nil=>
  intro acc ss e _ _ hl _;obtain rfl:ss=[]:=List.length_eq_zero_iff.mp hl
  simp [goD]
 |cons i l ih=>
  intro acc ss e hn CJ hl hr
  cases ss with
  |nil=>simp at hl
  |cons s ss=>
   have h0:aH R s=some i:=hr 0 (by simp) (by simp);rw [goD,h0];simp only
   have BO:aZ 0 (acc++[i])≠none:=by
    intro Ar
    have:acc++i::l=(acc++[i])++l:=by simp
    rw [this,hJ,Ar] at hn;cases hn
   have At:acc.length≠30:=by simp only [List.length_cons] at CJ;omega
   rw [if_pos ⟨BO,At⟩,ih (acc++[i]) ss e (by simpa using hn) (by simp only [agE,List.length_cons,List.length_nil] at CJ⊢;omega) (by simpa using hl) (fun k h1 h2=>hr (k+1) (by simpa using h1) (by simpa using h2))]
   simp
theorem zr {R:ByteArray→List Cl} {ss:List ByteArray} (h:(cV R ss).2= -1):dT (cV R ss).1=true∧(cV R ss).1.length=ss.length:=by
 unfold cV at h⊢
 split
 ·rename_i l hl
  rw [hl] at h;obtain ⟨t,e,k⟩:=abQ _ _ _ hl;rw [List.nil_append] at e;subst e
  by_cases hd:dT l=true
  ·rw [if_pos hd];exact ⟨hd,k⟩
  ·simp only [if_neg hd] at h;omega
 ·rename_i hn
  rw [hn] at h;simp only at h;omega
theorem zt {R:ByteArray→List Cl} {ss:List ByteArray} (h:(cV R ss).2≠ -1):(cV R ss).1=[]∧0≤(cV R ss).2∧(cV R ss).2≤ss.length∧ ∀k,(hk:k<ss.length)→(k:Int)<(cV R ss).2→aH R ss[k]≠none:=by
 unfold cV at h⊢
 split
 ·rename_i l hl
  rw [hl] at h
  by_cases hd:dT l=true
  ·simp only [if_pos hd] at h;exact absurd rfl h
  ·simp only [if_neg hd]
   refine ⟨by trivial,by omega,Int.le_refl _, ?_⟩;intro k hk _
   have key: ∀(ss:List ByteArray) (acc l:List It),(goD R acc ss).1=some l→ ∀k,(hk:k<ss.length)→aH R ss[k]≠none:=by
    intro ss
    induction ss with
    |nil=>intro acc l _ k hk;simp at hk
    |cons s ss ih=>
     intro acc l h k hk;rw [goD] at h
     split at h
     ·rename_i i hi
      split at h
      ·cases k with
       |zero=>show aH R s≠none;rw [hi];simp
       |succ k=>exact ih _ _ h k (by simpa using hk)
      ·cases h
     ·cases h
   exact key _ _ _ hl k hk
 ·rename_i hn
  obtain ⟨h1,h2,h3⟩:=abR _ _ hn;simp only [List.length_nil] at h1 h2 h3;refine ⟨rfl,by omega,by omega,fun k hk Ab=>h3 k hk (by simp only at Ab;omega)⟩
theorem vs {R:ByteArray→List Cl} (hR: ∀l,okE l=true→R (baL (bh l))=l) {l:List It} (h:dT l=true) (ss:List ByteArray) (hl:ss.length=l.length) (hs: ∀k,(h1:k<ss.length)→(h2:k<l.length)→ ∃d w,ss[k].data.toList=bj l[k] d w):cV R ss=(l,-1):=by
 obtain ⟨h1,h2,h3⟩:=(bP l).mp h
 have e:=zq (R:=R) l [] ss 0 (by simpa using h3) (by simpa using h1) hl (fun k k1 k2=>by
  obtain ⟨d,w,e⟩:=hs k k1 k2
  exact kQ hR (List.all_eq_true.mp h2 _ (List.getElem_mem k2)) d w e)
 rw [List.nil_append] at e;unfold cV;rw [e];simp only [if_pos h]
theorem iJ (l:List It):ea l=true↔dT l=true∧el (aV l)=true:=by rw [ea,Bool.and_eq_true]
theorem sS {R:ByteArray→List Cl} (hR: ∀l,okE l=true→R (baL (bh l))=l) {l:List It} (h:ea l=true):bi R (bR l)=(l,-1)∧(bC (bR l)).length=l.length∧aD (bR l)=true:=by
 obtain ⟨h1,h2⟩:=(iJ l).mp h;obtain ⟨k1,k2⟩:=kS _ h2
 have e:bR l=fS (aV l):=by rw [bR,if_pos h]
 have Ai:(aV l).length=l.length:=fF l 0;refine ⟨?_,by rw [e,k2,Ai],by rw [e];exact k1⟩;rw [e,bi,if_pos k1,k2]
 refine vs hR h1 _ Ai fun k h1 h2=> ?_
 rw [show (aV l)[k]=_ from gh l 0 k h2];exact ⟨_,_,bK _⟩
theorem abS {R:ByteArray→List Cl} {s:ByteArray} (h:(bi R s).2= -1):aD s=true∧dT (bi R s).1=true∧(bi R s).1.length=(bC s).length:=by
 unfold bi at h⊢
 by_cases ht:aD s=true
 ·rw [if_pos ht] at h⊢
  exact ⟨ht,zr h⟩
 ·rw [if_neg ht] at h;simp at h
theorem abT {R:ByteArray→List Cl} {s:ByteArray} (h:(bi R s).2≠ -1):(bi R s).1=[]∧0≤(bi R s).2∧(bi R s).2≤(bC s).length∧ ∀k,(hk:k<(bC s).length)→(k:Int)<(bi R s).2→aH R (bC s)[k]≠none:=by
 unfold bi at h⊢
 by_cases ht:aD s=true
 ·rw [if_pos ht] at h⊢
  exact zt h
 ·simp only [if_neg ht]
  exact ⟨by trivial,by omega,by omega,fun k hk Ab=>by omega⟩
theorem afm {l:List UInt8} (h:aq l=true):(10:UInt8)∉l:=by
 intro k;unfold aq at h;rw [List.all_eq_true] at h;exact absurd (h _ k) (by decide)
theorem sY (n:Nat):aq (spL n)=true:=by
 unfold aq spL;rw [List.all_eq_true];intro b hb;rw [List.eq_of_mem_replicate hb];decide
theorem p7 {l:List UInt8} (h: ∀b∈l,jt b=true):aq l=true:=by
 unfold aq;rw [List.all_eq_true];intro b hb;have:=h b hb;simp only [jt,cU,bS,cf,Bool.or_eq_true,Bool.and_eq_true,decide_eq_true_eq,beq_iff_eq] at this;simp only [bV,Bool.and_eq_true,decide_eq_true_eq]
 omega
theorem jr {s:ByteArray} (h:eG s=true):aq s.data.toList=true:=by
 unfold eG at h;simp only [Bool.and_eq_true,Bool.not_eq_true'] at h;obtain ⟨h1,-,h2,-⟩:=h;unfold aq;rw [List.all_eq_true];intro b hb;simp only [aD,Bool.and_eq_true] at h1;have h3:=h1.2;unfold okL at h3;rw [List.all_eq_true] at h3;have h4:=h3 b hb;unfold okI at h4;rw [Bool.or_eq_true] at h4
 rcases h4 with h4|h4
 ·exfalso
  unfold dV at h2;rw [List.any_eq_false] at h2;exact h2 b hb h4
 ·exact h4
theorem sZ {l:List Cl} (h:okE l=true):aq (bh l)=true:=by
 obtain ⟨x,hg,ht,-,-⟩:=aeO h;rw [←ht];exact hg.plain
theorem iP {i:It} (h:aP i=true) (D W:Nat):aq (bj i D W)=true:=by
 obtain ⟨k,n,l,t⟩:=i
 have QY: ∀t:ByteArray,(emB t=true∨eG t=true)→aq t.data.toList=true:=by
  rintro t (ht|ht)
  ·rw [fI.mp ht];rfl
  ·exact jr ht
 have c1:aq [125]=true:=by decide
 have c2:aq [32,123]=true:=by decide
 have c3:aq [32,61,32]=true:=by decide
 have c4:aq [32,35,32]=true:=by decide
 have c5:bV ((35:UInt8).toNat:Int)=true:=by decide
 have c6:bV ((32:UInt8).toNat:Int)=true:=by decide
 have c7:aq []=true:=rfl;unfold aP at h;simp only at h;unfold bj de;simp only
 by_cases h1:k=1
 ·rw [if_pos h1];rfl
 rw [if_neg h1,cE,sY,Bool.true_and]
 by_cases h5:k=5
 ·rw [if_pos h5];exact c1
 rw [if_neg (by omega)] at h;rw [if_neg h5]
 by_cases h4:k=4
 ·rw [if_pos h4]
  subst h4;simp only [show¬(4:Int)=2 by decide,show¬(4:Int)=3 by decide,if_false,if_true,Bool.and_eq_true] at h;rw [cE,c2,p7 (iT h.1).2];rfl
 rw [if_neg h4]
 by_cases h2:k=2
 ·rw [if_pos h2]
  rw [if_pos h2] at h;simp only [Bool.and_eq_true] at h;rw [cH,c5,Bool.true_and]
  split
  ·rfl
  ·rw [cH,c6,Bool.true_and];exact jr h.2.2
 rw [if_neg h2] at h⊢
 by_cases h3:k=3
 ·rw [if_pos h3] at h⊢
  simp only [Bool.and_eq_true] at h;simp only [cE];rw [p7 (iT h.1).2,sY,c3,sZ h.2.1];simp only [Bool.true_and]
  split
  ·rfl
  ·rw [cE,c4,jr h.2.2];rfl
 ·rw [if_neg h3];rfl
open Go.RowKit
theorem xB {u:Value} {l:List Cl} (Aj:okE l=true) (w:World) (hr:RowC w u l):
  Calls Tryz.prog 93 #[u, .int .i64 0] w fun e w'=>e= .returned (.string ⟨(bh l).toArray⟩)∧Below w.heap.size w w':=by
 obtain ⟨x,hx⟩:=og Aj;have Ia:=(dE l).mp Aj;rw [io Aj hx];exact ab2 Ia.1 (adQ Ia.2.1) l.length 0 l.length x w hx (by omega) hr
theorem af3 {s:ByteArray} (h:emB s=false):(s.toList==[])=false∧(s.toList !=[])=true:=by
 have: ¬s.toList=[]:=by
  intro k;rw [ByteArray.toList_eq] at k
  have h2:s.size=0:=by rw [←ByteArray.size_data,←Array.length_toList,k];rfl
  rw [emB,h2] at h;cases h
 exact ⟨beq_eq_false_iff_ne.mpr this,bne_iff_ne.mpr this⟩
theorem aeX {s:ByteArray} (h:emB s=true):(s.toList !=[])=false:=by rw [bne,(jh h).1];rfl
theorem pz (i:It) (u:Value) (deep W:Nat) (w:World) (hv:aP i=true) (hr:RowC w u i.2.2.1) (hn:i.2.1.size≤1048576) (ht:i.2.2.2.size≤1048576) (hd:deep≤4) (hW:W≤1000):
 Calls Tryz.prog 58 #[.agg #[.int .i64 i.1, .string i.2.1,u, .string i.2.2.2], .int .i64 (deep:Int), .int .i64 (W:Int)] w fun e w'=>e= .returned (.string (baL (bj i deep W)))∧Below w.heap.size w w':=by
 obtain ⟨k,n,l,t⟩:=i;simp only at hr hn ht⊢;have HV:=agC hv;clear hv;have HR:=agC hr;obtain ⟨ao,cap,rfl,Es,h2,h3⟩:=hr;clear h3;unfold maxLen at h2
 have ET:(2*(deep:Int)).toNat=2*deep:=by omega
 have Af:=agC ((Below.refl w.heap.size w).alloc (agD _) (.cells #[.int .i64 k, .string n, .slice ao l.length cap, .string t] 32));have Et:=f9 (2*deep)
 obtain ⟨S,HS,hS⟩: ∃S:ByteArray,Hid (baL (spL (2*deep))=S)∧S.size=2*deep:=⟨_,agC rfl,Et⟩
 clear Et
 by_cases h1:k=1
 ·subst h1
  have HL:=agC (show baL (bj (1,n,l,t) deep W)=⟨#[]⟩ from dW (by simp [bj,baL]))
  go_enter Tryz.func58,Tryz.ntmps58
  go_wp2_with fail;refine (dq _ _ (by omega)).mono ?_;rintro e w1 ⟨rfl,AU⟩;subst AU;rw [ET,HS.out];go_wp2;go_ret;exact ⟨by rw [HL.out];rfl,Af.out⟩
 by_cases h5:k=5
 ·subst h5
  have HL:=agC (show baL (bj (5,n,l,t) deep W)=S++⟨#[125]⟩ from by rw [←HS.out];exact dW (by simp [bj,de,baL]))
  have r0: ¬9223372036854775807<S.size+1:=by omega
  go_enter Tryz.func58,Tryz.ntmps58
  go_wp2_with fail;refine (dq _ _ (by omega)).mono ?_;rintro e w1 ⟨rfl,AU⟩;subst AU;rw [ET,HS.out];go_wp2;go_ret;exact ⟨by rw [HL.out];rfl,Af.out⟩
 by_cases h4:k=4
 ·subst h4
  have HL:=agC (show baL (bj (4,n,l,t) deep W)=S++n++⟨#[32,123]⟩ from by rw [←HS.out];exact dW (by simp [bj,de,baL]))
  have r0: ¬9223372036854775807<S.size+n.size:=by omega
  have r1: ¬9223372036854775807<S.size+n.size+2:=by omega
  go_enter Tryz.func58,Tryz.ntmps58
  go_wp2_with fail;refine (dq _ _ (by omega)).mono ?_;rintro e w1 ⟨rfl,AU⟩;subst AU;rw [ET,HS.out];go_wp2;go_ret;exact ⟨by rw [HL.out];rfl,Af.out⟩
 cases Ee:emB t with
 |true=>
  have e1:=(jh Ee).1;have e2:=aeX Ee;have K9:=agC Ee;clear Ee
  by_cases B8:k=2
  ·subst B8
   have HL:=agC (show baL (bj (2,n,l,t) deep W)=S++⟨#[35]⟩ from by rw [←HS.out];exact dW (by simp [bj,de,baL,K9.out]))
   have r0: ¬9223372036854775807<S.size+1:=by omega
   go_enter Tryz.func58,Tryz.ntmps58
   go_wp2_with fail;refine (dq _ _ (by omega)).mono ?_;rintro e w1 ⟨rfl,AU⟩;subst AU;rw [ET,HS.out];go_wp2;go_ret;exact ⟨by rw [HL.out];rfl,Af.out⟩
  ·skip
   have Bf:k=3:=by
    have:=HV.out;unfold aP at this;simp only at this;rw [if_neg (by omega),if_neg B8] at this
    by_cases h:k=3
    ·exact h
    ·rw [if_neg h,if_neg h4] at this;cases this
   subst Bf
   have II:okE l=true:=by
    have:=HV.out;simp only [aP] at this
    simp at this
    exact this.2.1
   obtain ⟨P,HP,hP⟩: ∃P:ByteArray,Hid (baL (spL (W-n.size))=P)∧P.size=W-n.size:=⟨_,agC rfl,f9 _⟩
   obtain ⟨X,HX,hX⟩: ∃X:ByteArray,Hid ((⟨(bh l).toArray⟩:ByteArray)=X)∧X.size≤12000:=⟨_,agC rfl,gi l⟩
   have Ge:=agC (show∀w',Calls Tryz.prog 92 #[.int .i64 (IntKind.i64.wrap ((W:Int)-(n.size:Int)))] w' (fun e w2=>e= .returned (.string P)∧w'=w2) from fun w'=>by
    rw [show IntKind.i64.wrap ((W:Int)-(n.size:Int))=(W:Int)-(n.size:Int) from IntWalk.i64_in _ (by omega),←HP.out,show W-n.size=((W:Int)-(n.size:Int)).toNat by omega]
    exact dq _ w' (by omega))
   have MT:P.size≤1000:=by omega
   have HL:=agC (show baL (bj (3,n,l,t) deep W)=S++n++P++⟨#[32,61,32]⟩++X from by rw [←HS.out,←HP.out,←HX.out];exact dW (by simp [bj,de,baL,K9.out]));have La:=agC (fun w' D4=>xB (u:= .slice ao l.length cap) II w' D4);have Jn:=agC (HR.out.mono Af.out);have AT:=agC (show RowC (w.alloc (.cells #[.int .i64 3, .string n, .slice ao l.length cap, .string t] 32)).drew (.slice ao l.length cap) l from Jn.out.drewN 1)
   have r0: ¬9223372036854775807<S.size+n.size:=by omega
   have r1: ¬9223372036854775807<S.size+n.size+P.size:=by omega
   have r2: ¬9223372036854775807<S.size+n.size+P.size+3:=by omega
   have r3: ¬9223372036854775807<S.size+n.size+P.size+3+X.size:=by omega
   have Ab:w.heap.size<(w.alloc (.cells #[.int .i64 3, .string n, .slice ao l.length cap, .string t] 32)).drew.heap.size:=by simp
   clear h4 B8 h5 h1
   go_enter Tryz.func58,Tryz.ntmps58
   go_wp2_with fail;refine (dq _ _ (by omega)).mono ?_;rintro e w1 ⟨rfl,AU⟩;subst AU;rw [ET,HS.out];clear hS hP MT hX ET h2 Es ht;go_wp2_with fail
   go_region_held3 (fun w'=>w'.cell? ⟨w.heap.size,1,none⟩=some (.string n)∧w'.cell? ⟨w.heap.size,2,none⟩=some (.slice ao l.length cap)∧w'.cell? ⟨w.heap.size,3,none⟩=some (.string t))
    (first
      |go_keep
      |(go_split_ands
        refine ⟨?_, ?_, ?_⟩
        ·(rw [Ag.cell (by exact Ab)];assumption)
        ·(rw [Ag.cell (by exact Ab)];assumption)
        ·(rw [Ag.cell (by exact Ab)];assumption)))
    (first
      |((go_at_call 92;(with_reducible refine (Ge.out _).mono ?_);rintro e w2 ⟨rfl,Fl⟩;subst Fl))
      |((go_at_call 93;(with_reducible refine (La.out _ AT.out).mono ?_);rintro e w3 ⟨rfl,Ag⟩;rw [HX.out])))
   all_goals
    have Ap:=agC (Af.out.drew.trans (Ag.mono Af.out.size));clear Ag;go_wp2;go_ret;exact ⟨by rw [HL.out];rfl,Ap.out⟩
 |false=>
  obtain ⟨e1,e2⟩:=af3 Ee;have K9:=agC Ee;clear Ee
  by_cases B8:k=2
  ·subst B8
   have HL:=agC (show baL (bj (2,n,l,t) deep W)=S++⟨#[35]⟩++⟨#[32]⟩++t from by rw [←HS.out];exact dW (by simp [bj,de,baL,K9.out]))
   have r0: ¬9223372036854775807<S.size+1:=by omega
   have r1: ¬9223372036854775807<S.size+1+1:=by omega
   have r2: ¬9223372036854775807<S.size+1+1+t.size:=by omega
   go_enter Tryz.func58,Tryz.ntmps58
   go_wp2_with fail;refine (dq _ _ (by omega)).mono ?_;rintro e w1 ⟨rfl,AU⟩;subst AU;rw [ET,HS.out];go_wp2;go_ret;exact ⟨by rw [HL.out];rfl,Af.out⟩
  ·skip
   have Bf:k=3:=by
    have:=HV.out;unfold aP at this;simp only at this;rw [if_neg (by omega),if_neg B8] at this
    by_cases h:k=3
    ·exact h
    ·rw [if_neg h,if_neg h4] at this;cases this
   subst Bf
   have II:okE l=true:=by
    have:=HV.out;simp only [aP] at this
    simp at this
    exact this.2.1
   obtain ⟨P,HP,hP⟩: ∃P:ByteArray,Hid (baL (spL (W-n.size))=P)∧P.size=W-n.size:=⟨_,agC rfl,f9 _⟩
   obtain ⟨X,HX,hX⟩: ∃X:ByteArray,Hid ((⟨(bh l).toArray⟩:ByteArray)=X)∧X.size≤12000:=⟨_,agC rfl,gi l⟩
   have Ge:=agC (show∀w',Calls Tryz.prog 92 #[.int .i64 (IntKind.i64.wrap ((W:Int)-(n.size:Int)))] w' (fun e w2=>e= .returned (.string P)∧w'=w2) from fun w'=>by
    rw [show IntKind.i64.wrap ((W:Int)-(n.size:Int))=(W:Int)-(n.size:Int) from IntWalk.i64_in _ (by omega),←HP.out,show W-n.size=((W:Int)-(n.size:Int)).toNat by omega]
    exact dq _ w' (by omega))
   have MT:P.size≤1000:=by omega
   have HL:=agC (show baL (bj (3,n,l,t) deep W)=S++n++P++⟨#[32,61,32]⟩++X++⟨#[32,35]⟩++⟨#[32]⟩++t from by rw [←HS.out,←HP.out,←HX.out];exact dW (by simp [bj,de,baL,K9.out]));have La:=agC (fun w' D4=>xB (u:= .slice ao l.length cap) II w' D4);have Jn:=agC (HR.out.mono Af.out);have AT:=agC (show RowC (w.alloc (.cells #[.int .i64 3, .string n, .slice ao l.length cap, .string t] 32)).drew (.slice ao l.length cap) l from Jn.out.drewN 1)
   have r0: ¬9223372036854775807<S.size+n.size:=by omega
   have r1: ¬9223372036854775807<S.size+n.size+P.size:=by omega
   have r2: ¬9223372036854775807<S.size+n.size+P.size+3:=by omega
   have r3: ¬9223372036854775807<S.size+n.size+P.size+3+X.size:=by omega
   have r4: ¬9223372036854775807<S.size+n.size+P.size+3+X.size+2:=by omega
   have r5: ¬9223372036854775807<S.size+n.size+P.size+3+X.size+2+1:=by omega
   have r6: ¬9223372036854775807<S.size+n.size+P.size+3+X.size+2+1+t.size:=by omega
   have Ab:w.heap.size<(w.alloc (.cells #[.int .i64 3, .string n, .slice ao l.length cap, .string t] 32)).drew.heap.size:=by simp
   clear h4 B8 h5 h1
   go_enter Tryz.func58,Tryz.ntmps58
   go_wp2_with fail;refine (dq _ _ (by omega)).mono ?_;rintro e w1 ⟨rfl,AU⟩;subst AU;rw [ET,HS.out];clear hS hP MT hX ET h2 Es ht;go_wp2_with fail
   go_region_held3 (fun w'=>w'.cell? ⟨w.heap.size,1,none⟩=some (.string n)∧w'.cell? ⟨w.heap.size,2,none⟩=some (.slice ao l.length cap)∧w'.cell? ⟨w.heap.size,3,none⟩=some (.string t))
    (first
      |go_keep
      |(go_split_ands
        refine ⟨?_, ?_, ?_⟩
        ·(rw [Ag.cell (by exact Ab)];assumption)
        ·(rw [Ag.cell (by exact Ab)];assumption)
        ·(rw [Ag.cell (by exact Ab)];assumption)))
    (first
      |((go_at_call 92;(with_reducible refine (Ge.out _).mono ?_);rintro e w2 ⟨rfl,Fl⟩;subst Fl))
      |((go_at_call 93;(with_reducible refine (La.out _ AT.out).mono ?_);rintro e w3 ⟨rfl,Ag⟩;rw [HX.out])))
   all_goals
    have Ap:=agC (Af.out.drew.trans (Ag.mono Af.out.size));clear Ag;go_wp2;go_ret;exact ⟨by rw [HL.out];rfl,Ap.out⟩
noncomputable def mL (i:It) (d:Int):ByteArray:=if aP i=true∧inI d 0 4=true then baL (bj i d.toNat 0) else ⟨#[]⟩
theorem xG {n lo hi:Int}:inI n lo hi=true↔lo≤n∧n≤hi:=by simp [inI]
theorem o7 (i:It) (u:Value) (d:Int) (w:World) (hr:RowC w u i.2.2.1) (hn:i.2.1.size≤1048576) (hz:co i.2.2.1) (hl:i.2.2.1.length≤1048576) (ht:i.2.2.2.size≤1048576):
  Calls Tryz.prog 148 #[.agg #[.int .i64 i.1, .string i.2.1,u, .string i.2.2.2], .int .i64 d] w fun e w'=>e= .returned (.string (mL i d))∧Below w.heap.size w w':=by
 have Af:=agC ((Below.refl w.heap.size w).alloc (agD _) (.cells #[.int .i64 i.1, .string i.2.1,u, .string i.2.2.2] 32));have DI:=agC (hr.mono Af.out);have Fq:=agC (It4.new w (.int .i64 i.1) (.string i.2.1) u (.string i.2.2.2) 32);have HC:=agC (gF i u _ DI.out (by unfold maxLen;omega) hz hl (by unfold maxLen;omega));have DW:=agC (fun (w':World) (hv:aP i=true) (deep:Nat) (hd:deep≤4) (D4:RowC w' u i.2.2.1)=>pz i u deep 0 w' hv D4 hn ht hd (by omega));obtain ⟨ao,cap,hu,-,-,-⟩:=hr;have Ll:=agC (show mL i d=if aP i=true∧inI d 0 4=true then baL (bj i d.toNat 0) else ⟨#[]⟩ from rfl);obtain ⟨k,n,l,t⟩:=i;simp only at hu HC DW Fq Af DI hn ht⊢;subst hu;clear hz
 cases hv:aP (k,n,l,t) with
 |false=>
  have HL:=agC (show mL (k,n,l,t) d=⟨#[]⟩ by rw [Ll.out,if_neg (by rw [hv];simp)]);rw [hv] at HC;clear hv
  go_enter Tryz.func148,Tryz.ntmps148
  go_wp2_with fail;refine HC.out.mono ?_;rintro e w2 ⟨rfl,Ae⟩;have Ak:=agC (Af.out.trans (Ae.mono Af.out.size));clear Ae;go_wp2;go_ret;exact ⟨by rw [HL.out];rfl,Ak.out⟩
 |true=>
  have Kn:=agC (DW.out · hv);have Sx:=agC hv;rw [hv] at HC;clear hv
  go_enter Tryz.func148,Tryz.ntmps148
  go_wp2_with fail;refine HC.out.mono ?_;rintro e w2 ⟨rfl,Ae⟩;have Ak:=agC (Af.out.trans (Ae.mono Af.out.size));have Ko:=agC (Fq.out.keep Ae);have EL:=agC (DI.out.mono Ae);clear Ae;go_wp2_with fail;refine (dG d 0 4 _).mono ?_;rintro e w3 ⟨rfl,Sy⟩;subst Sy
  cases hd:inI d 0 4 with
  |false=>
   have HL:=agC (show mL (k,n,l,t) d=⟨#[]⟩ by rw [Ll.out,if_neg (by rw [hd];simp)]);clear hd;go_wp2;go_ret;exact ⟨by rw [HL.out];rfl,Ak.out⟩
  |true=>
   have HL:=agC (show mL (k,n,l,t) d=baL (bj (k,n,l,t) d.toNat 0) by rw [Ll.out,if_pos ⟨Sx.out,hd⟩]);obtain ⟨d0,d4⟩:=xG.mp hd
   obtain ⟨D,rfl⟩: ∃D:Nat,d=(D:Int):=⟨d.toNat,by omega⟩
   obtain ⟨⟨z0,z1,z2,z3⟩,-,QG⟩:=Ko.out;clear hd;go_wp2_with fail;refine (Kn.out w2 D (by omega) EL.out).mono ?_;rintro e w4 ⟨rfl,As⟩;have Aw:=agC (Ak.out.trans (As.mono Ak.out.size));clear As;go_wp2;go_ret;exact ⟨by rw [HL.out];rfl,Aw.out⟩
theorem wY {k:Int} {n t:ByteArray} {l:List Cl} {u:Value} {D:Nat} (w:World) (hv:aP (k,n,l,t)=true) (hr:RowC w u l) (hn:n.size≤1048576) (ht:t.size≤1048576) (hd:D≤4):
  Calls Tryz.prog 58 #[.agg #[.int .i64 k, .string n,u, .string t], .int .i64 (D:Int), .int .i64 0] w fun e w'=>e= .returned (.string (baL (bj (k,n,l,t) D 0)))∧Below w.heap.size w w':=
 pz (k,n,l,t) u D 0 w hv hr hn ht hd (by omega)
theorem jY (i:It) (D W:Nat):(bj i D W).length≤2*D+i.2.1.size+W+i.2.2.2.size+12020:=by
 have h1:i.2.1.data.toList.length=i.2.1.size:=by rw [Array.length_toList];rfl
 have h2:i.2.2.2.data.toList.length=i.2.2.2.size:=by rw [Array.length_toList];rfl
 have h3:=gi i.2.2.1
 have h4: ∀n,(spL n).length=n:=fun n=>by simp [spL]
 unfold bj de
 repeat' split
 all_goals simp only [agE,List.length_cons,List.length_nil,h4,h1,h2]
 all_goals omega
theorem mV {l:List It} (h:dT l=true):ea l=el (aV l)∧bR l=fS (aV l):=by
 have hk:ea l=el (aV l):=by unfold ea;rw [h];rfl
 refine ⟨hk, ?_⟩;unfold bR;rw [hk]
 by_cases hj:el (aV l)=true
 ·rw [if_pos hj]
 ·rw [if_neg hj,fS,if_neg hj];rfl
theorem qt {l:List It} (h:dT l=false):ea l=false∧bR l=⟨#[]⟩:=by
 have hk:ea l=false:=by unfold ea;rw [h];rfl
 exact ⟨hk,by unfold bR;rw [hk];rfl⟩
theorem cO (l:List It):(aV l).length=l.length:=fF l 0
theorem mF {l:List It} (hn:aZ 0 l=some 0) (k:Nat) (hk:k<l.length): ∃D:Nat,(dL 0 l)[k]? =some (D:Int)∧D≤4∧(aV l).take (k+1)=(aV l).take k++[baL (bj l[k] D 0)]:=by
 have hd:=abh hn (by omega) (by omega) k hk;rw [←qH l 0 k hk] at hd;have hl:=cj l 0;refine ⟨((dL 0 l)[k]'(by omega)).toNat, ?_,by omega, ?_⟩
 ·rw [List.getElem?_eq_getElem (by omega),Int.toNat_of_nonneg hd.1]
 ·rw [List.take_succ_eq_append_getElem (by rw [cO];exact hk)]
  congr 1
  exact congrArg (fun x=>[x]) (gh l 0 k hk)
theorem wZ {l:List It} (h:dT l=true) (k:Nat) (hk:k<l.length): ∃D:Nat,(dL 0 l)[k]? =some (D:Int)∧D≤4∧(aV l).take (k+1)=(aV l).take k++[baL (bj l[k] D 0)]:=mF ((bP l).mp h).2.2 k hk
theorem afP (l:List UInt8):(baL l).size=l.length:=rfl
theorem xb {l:List It} (h:fm l) (hn:aZ 0 l=some 0):ab6 (aV l):=by
 intro t ht;obtain ⟨k,hk,rfl⟩:=List.getElem_of_mem ht;rw [cO] at hk
 have Bo:k<(kH 0 l).length:=by rw [fF];exact hk
 have e:=gh l 0 k hk;have Kp:=abh hn (by omega) (by omega) k hk;rw [←qH l 0 k hk] at Kp;obtain ⟨z1,z2,z3,z4⟩:=h _ (List.getElem_mem hk)
 show ((kH 0 l)[k]'Bo).size≤maxLen
 rw [e,afP];have:=jY l[k] ((dL 0 l)[k]'(by rw [cj];exact hk)).toNat 0;unfold maxLen
 omega
theorem ue {l:List It} (h:fm l) (hd:dT l=true):ab6 (aV l):=xb h ((bP l).mp hd).2.2
theorem kZ (v:Value) (l:List It) (w:World) (hr:RowIt w v l) (hz:fm l) (hl:l.length≤1048576):
 Calls Tryz.prog 39 #[v] w fun e w'=>e= .returned (.tuple #[.string (bR l), .bool (ea l)])∧Below w.heap.size w w':=by
 have HC:=agC (gC v l w hr hz hl);have HR:=agC hr;obtain ⟨ao,cap,rfl,h1,h2,h3⟩:=hr;unfold maxLen at h2;have H3:=agC h3;have HZ:=agC hz;clear h3 hz;obtain ⟨i0,hi,Az,Ax,AC⟩:=info_parts m8
 cases Aj:dT l with
 |false=>
  obtain ⟨hk,ht⟩:=qt Aj;rw [hk,ht];clear hk ht
  go_enter Tryz.func39,Tryz.ntmps39
  go_wp2_with fail;refine HC.out.mono ?_;rintro e w1 ⟨rfl,Aa⟩;have Af:=agC Aa;clear Aa;rw [Aj];clear Aj;go_wp2;go_ret2;exact ⟨rfl,Af.out⟩
 |true=>
  have Ep:=((bP l).mp Aj).1;have BS:=agC ((bP l).mp Aj).2.1;have HN:=agC ((bP l).mp Aj).2.2;have Hg:=agC (mV Aj);have Lj:=agC (wZ Aj);have MV:=agC (ue HZ.out Aj);have FO:=agC (cO l);rw [Hg.out.1,Hg.out.2]
  go_enter Tryz.func39,Tryz.ntmps39
  go_wp2_with fail;refine HC.out.mono ?_;rintro e w1 ⟨rfl,Aa⟩;have Af:=agC Aa;clear Aa;rw [Aj];clear Aj;go_wp2_with fail;refine (jz _ l _ (HR.out.mono Af.out) hl).mono ?_;rintro e w2 ⟨vd,d,L,rfl,KI,Ae,Hq⟩
  have PS:L=dL 0 l:=by
   rcases Hq with ⟨-,h⟩|⟨h,-⟩
   ·exact h
   ·rw [HN.out] at h;cases h
  have RA:=agC (RowOf.of_own KI);obtain ⟨da,dc,rfl⟩:=aN KI
  have VZ:L.length=l.length:=by rw [PS,cj]
  have Ll:=agC PS;have Ak:=agC (Af.out.trans (Ae.mono Af.out.size));clear KI Ae Hq PS;have FY:=agC (World.ownsRow_lit (base:=w2.heap.size) (size:=1) (e:=9) w2 #[] 0 (agD _) (by unfold maxLen;omega) rfl);have Fm:=agC ((Below.refl w2.heap.size w2).alloc (agD _) (.cells #[] 9));go_wp2_with fail
  go_loopw [6,7] (fun a i wr=> ∃k:Nat,k≤l.length∧i= .int .i64 (k:Int)∧wr.ownsRow w2.heap.size 9 1 a k (fN ((aV l).take k))∧Below w2.heap.size w2 wr) (fun _ i _=>l.length-(intOf i).toNat)
  case atStart=>exact ⟨0,agH _,rfl,FY.out,Fm.out⟩
  case round=>
   obtain ⟨k,hk,rfl,Ad,FD⟩:=hrel;have D1:=agC Ad;have BI:=agC FD;have DT:=agC (Ak.out.trans (FD.mono Ak.out.size));obtain ⟨aa,ac,rfl⟩:=aN Ad;clear Ad FD
   by_cases Ab:k<l.length
   ·have Bm:(k:Int)<(l.length:Int):=by omega
    obtain ⟨b,o,rfl,Av,cc⟩:=H3.out.resolve_left (by rintro rfl;simp at Ab);obtain ⟨u,hu⟩:=cc k Ab;obtain ⟨d0,d1,d2,d3,Ei⟩:=hu.mono Av DT.out;obtain ⟨z1,z2,z3,z4⟩:=HZ.out _ (List.getElem_mem Ab);obtain ⟨D,hD,Ni,PT⟩:=Lj.out k Ab
    have JW:aP l[k]=true:=by have:=BS.out;rw [List.all_eq_true] at this;exact this _ (List.getElem_mem Ab)
    have Us: ∃bd od,da=some ⟨bd,od,none⟩∧bd<w2.heap.size∧wr.cell? ⟨bd,od+k,none⟩=some (.int .i64 (D:Int)):=by
     obtain ⟨bo,bcap,BT,g1,g2,g3⟩:=RA.out;rw [iV] at BT g1;simp only [Value.slice.injEq] at BT;obtain ⟨rfl,-,rfl⟩:=BT;obtain ⟨bd,od,rfl,Dt,Uw⟩:=g3.resolve_left (fun e=>by have:=congrArg List.length e;rw [iV,List.length_nil] at this;omega);refine ⟨bd,od,rfl,Dt,(BI.out.cell (p:=⟨bd,_,none⟩) Dt).trans (Uw k _ ?_)⟩;rw [←Ll.out] at hD
     simp [mW,hD]
    obtain ⟨bd,od,rfl,PU,dd⟩:=Us
    have V0:L.length≤dc:=by
     obtain ⟨bo,bcap,BT,g1,g2,g3⟩:=RA.out;rw [iV] at BT g1;simp only [Value.slice.injEq] at BT;obtain ⟨-,-,rfl⟩:=BT;exact g1
    generalize l[k]=it at d0 d1 d2 d3 Ei PT JW z1 z4;obtain ⟨ik,inm,ics,int⟩:=it;simp only at d0 d1 d2 d3 Ei z1 z4
    obtain ⟨au,cu,rfl⟩: ∃au cu,u= .slice au ics.length cu:=by obtain ⟨au,cu,h,-⟩:=Ei;exact ⟨au,cu,h⟩
    have Cz:=agC PT;have DW:=agC (fun ww hh=>wY (u:= .slice au ics.length cu) (D:=D) ww JW hh z1 z4 Ni);have AT:=agC (show RowC wr.drew (.slice au ics.length cu) ics from Ei.drewN 1);have Ut:=agC (show wr.drew.ownsRow w2.heap.size 9 1 (.slice aa k ac) k (fN ((aV l).take k)) from D1.out.drew);have D7:=BI.out.size;clear cc hu Ei PT JW z1 z2 z3 z4 hD;generalize baL (bj (ik,inm,ics,int) D 0)=LN at Cz DW
    have Pd:(0:Int)≤(k:Int):=by omega
    have Uu:(k:Int)<(L.length:Int):=by omega
    have IM:=agC (show∀W',Below w2.heap.size w2 W'→W'.cell? ⟨b,o+k*4,none⟩=some (.int .i64 ik)∧W'.cell? ⟨b,o+k*4+1,none⟩=some (.string inm)∧W'.cell? ⟨b,o+k*4+2,none⟩=some (.slice au ics.length cu)∧W'.cell? ⟨b,o+k*4+3,none⟩=some (.string int)∧W'.cell? ⟨bd,od+k,none⟩=some (.int .i64 (D:Int)) from fun W' Dy=>
     have Iy:b<w2.heap.size:=Nat.lt_of_lt_of_le Av Ak.out.size
     have cc: ∀(bb j:Nat),bb<w2.heap.size→W'.cell? ⟨bb,j,none⟩=wr.cell? ⟨bb,j,none⟩:=fun bb j h=>(Dy.cell (p:=⟨bb,j,none⟩) h).trans (BI.out.cell (p:=⟨bb,j,none⟩) h).symm
     ⟨(cc b _ Iy).trans d0,(cc b _ Iy).trans d1,(cc b _ Iy).trans d2,(cc b _ Iy).trans d3,(cc bd _ PU).trans dd⟩)
    go_wp2_with fail
    go_region_held3 (fun W'=>W'.cell? ⟨b,o+k*4,none⟩=some (.int .i64 ik)∧W'.cell? ⟨b,o+k*4+1,none⟩=some (.string inm)∧W'.cell? ⟨b,o+k*4+2,none⟩=some (.slice au ics.length cu)∧W'.cell? ⟨b,o+k*4+3,none⟩=some (.string int)∧W'.cell? ⟨bd,od+k,none⟩=some (.int .i64 (D:Int)))
     (first|exact IM.out _ Aw.out|exact IM.out _ Ap.out|exact IM.out _ BI.out.drew|exact IM.out _ BI.out|go_keep)
     (first
       |((go_at_call 58;(with_reducible refine (DW.out _ AT.out).mono ?_);rintro e w3 ⟨rfl,Ag⟩;have BZ:=Ag.size;have Ap:=agC (BI.out.drew.trans (Ag.mono BI.out.size))))
       |(refine step_append_lies _ (by rfl) _ _ _ (by rfl) w2.heap.size 9 i0 _ 1 16 Tryz.underlying38 hi Az Ax AC rfl (by omega) (.slice aa k ac) k _ (by rfl) (by exact ((dB Ut.out Ag).alloc _))
          ⟨w3.heap.size,0,none⟩ 1 1 [.string LN] (by rfl) (by rfl) (World.news_of_block (cs:= #[.string LN]) (t:=9) (fr:=(0,0)) (heap_alloc_new w3 _)) (by simp [Value.oneCell'])
          (by omega) (by unfold maxLen;omega) (by omega) (by simp;exact Nat.le_succ_of_le (Nat.le_trans BI.out.size BZ)) (w3.heap.size+1) (by simp) ?_;intro gg cap' w4 Db BN EB Dd;have Aw:=agC ((Ap.out.alloc (Nat.le_trans BI.out.size BZ) (.cells #[.string LN] 9)).grown BN (by simp;exact Nat.le_succ_of_le (Nat.le_trans BI.out.size BZ)) (fun q hq=>(D1.out.lt q hq).1))))
    all_goals
     have Cd:=agC Db;clear Db BN EB Dd Ag;go_wp2;go_roundw
     case rel=>exact ⟨k+1,by omega,by go_num,by rw [Cz.out,eT];exact Cd.out,Aw.out⟩
     case measure=>simp [intOf];omega
   ·obtain rfl:k=l.length:=by omega
    have Bm: ¬(l.length:Int)<(l.length:Int):=by omega
    have Uv:=agC (show RowOf wr (.slice aa l.length ac) (fN (aV l)) from by
     have:=RowOf.of_own D1.out;rw [List.take_of_length_le (Nat.le_of_eq FO.out)] at this
     exact this)
    go_wp2_with fail;refine (ol _ (aV l) wr Uv.out MV.out).mono ?_;rintro e w5 ⟨hj,Nb⟩;subst Nb;unfold qa at hj;subst hj;go_wp2;go_ret2;exact ⟨rfl,DT.out⟩
end Go.Proofs.YtegdjjjpoahamaaGreatDoor
