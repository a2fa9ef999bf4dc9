/-
  Part of the proof of FnReadItem.
-/
import Derived.Test.YthijkjnngfnfdaaGreatDoorQRak
import Derived.Test.YthijkjnngfnfdaaGreatDoorQRab
import Derived.Test.YthijkjnngfnfdaaGreatDoorPDrawItem
import Derived.Test.YthijkjnngfnfdaaGreatDoorQRaj
set_option linter.unusedVariables false
set_option maxHeartbeats 8000000
set_option maxRecDepth 100000
namespace Go.Proofs.YthijkjnngfnfdaaGreatDoor
theorem abX: ∀(l:List UInt8),rn 1 (aZ l)=some 1:=by
 intro l
 induction l with
 |nil=>rfl
 |cons x l ih=>
  have e:aZ (x::l)=bA x++aZ l:=by simp [aZ]
  rw [e,gk]
  have:rn 1 (bA x)=some 1:=by
   unfold bA
   by_cases h1:x=10
   ·rw [if_pos h1];rfl
   ·rw [if_neg h1]
    by_cases h2:x=34∨x=92
    ·rw [if_pos h2];rfl
    ·rw [if_neg h2]
     show (if _ then none else rn (nx 1 x) [])=_
     rw [if_neg (by omega)]
     have:nx 1 x=1:=by
      unfold nx;rw [if_neg (by omega),if_pos rfl,if_neg (fun k=>h2 (.inr k)),if_neg (fun k=>h2 (.inl k))]
     rw [this];rfl
  rw [this];exact ih
theorem abY (l:List UInt8):rn 0 (bB l)=some 0:=by
 unfold bB
 show rn 1 (aZ l++[34])=_
 rw [gk,abX];rfl
theorem aeJ {c:UInt8} (hd:isD c=false) (h1:c≠45) (h2:c≠46) (h3:c≠47) (t b:Int):c∉aW t b:=by
 have pos: ∀t b:Nat,0<b→c∉aH t b:=by
  intro t b hb;have k1:=bW (cO (t/b)).1 c hd;have k2:=bW (cO t).1 c hd;have k3:=bW (cO b).1 c hd;have k4:=bW (jG 6 (t % b) b (Nat.mod_lt _ hb)) c hd;unfold aH a8
  split
  ·split
   ·simp [k1]
   ·simp [k1,k4,h2]
  ·simp [k2,k3,h3]
 unfold aW
 split
 ·rename_i hv
  obtain ⟨v1,v2,v3,v4⟩:=iP hv;unfold gL
  split
  ·have:=pos (-t).toNat b.toNat (by omega)
   simp [this,h1]
  ·exact pos t.toNat b.toNat (by omega)
 ·simp
def ng (l:List UInt8):Prop:=l≠[]∧l.head? ≠some 32∧l.getLast? ≠some 32
theorem aeK {l:List UInt8} (h:l≠[]) (h32:(32:UInt8)∉l):ng l:=
 ⟨h,fun k=>h32 (List.mem_of_head? k),fun k=>h32 (List.mem_of_getLast? k)⟩
theorem yC {a m b:List UInt8} (ha:ng a) (hb:ng b):ng (a++(m++b)):=by
 refine ⟨by simp [ha.1], ?_, ?_⟩
 ·cases a with
  |nil=>exact absurd rfl ha.1
  |cons x a=>exact ha.2.1
 ·rw [←List.append_assoc,List.getLast?_append]
  cases h:b.getLast? with
  |none=>exact absurd (List.getLast?_eq_none_iff.mp h) hb.1
  |some z=>have:=hb.2.2;rw [h] at this;exact this
def kP (l:List UInt8):Prop:=rn 0 l=some 0∧ng l
theorem fy {l:List UInt8} (h:l≠[]) (h1: ∀b∈l,b≠34∧b≠35∧b≠32):kP l:=
 ⟨kh l fun b hb=>⟨(h1 b hb).1,(h1 b hb).2.1⟩,aeK h fun k=>(h1 32 k).2.2 rfl⟩
theorem jq {a b:List UInt8} (ha:kP a) (hb:kP b) (m:List UInt8) (hm: ∀b∈m,b≠34∧b≠35):kP (a++(m++b)):=
 ⟨by rw [gk,ha.1];show rn 0 (m++b)=_;rw [gk,kh m hm];exact hb.1,yC ha.2 hb.2⟩
theorem yD (l:List UInt8):kP (bB l):=by
 refine ⟨abY l,by simp [bB],by simp [bB], ?_⟩;unfold bB;rw [←List.cons_append,List.getLast?_concat];decide
theorem lG {x:Pt} (h:kP x.2) (r:Int):kP (dE r x):=by
 unfold dE
 split
 ·have h1:kP ([40]:List UInt8):=fy (by decide) (by decide)
  have h2:kP ([41]:List UInt8):=fy (by decide) (by decide);have:=jq (jq h1 h [] (by simp)) h2 [] (by simp)
  simpa using this
 ·exact h
theorem zI: ∀(xs:List Pt),(∀x∈xs,kP x.2)→rn 0 (dq xs)=some 0:=by
 have tail: ∀(xs:List Pt),(∀x∈xs,kP x.2)→rn 0 (gb xs)=some 0:=by
  intro xs
  induction xs with
  |nil=>intro _;rfl
  |cons x xs ih=>
   intro h
   have e:gb (x::xs)=[44,32]++(x.2++gb xs):=by simp [gb]
   rw [e,gk,kh [44,32] (by decide)]
   show rn 0 (x.2++gb xs)=_
   rw [gk,(h x (List.mem_cons_self ..)).1]
   exact ih fun y hy=>h y (List.mem_cons_of_mem _ hy)
 intro xs h
 cases xs with
 |nil=>rfl
 |cons x xs=>
  rw [dq,gk,(h x (List.mem_cons_self ..)).1]
  exact tail xs fun y hy=>h y (List.mem_cons_of_mem _ hy)
theorem vZ {l:List UInt8} (h: ∀c∈l,nmI (c.toNat:Int)=true): ∀b∈l,b≠34∧b≠35∧b≠32:=by
 intro b hb;have:=h b hb
 refine ⟨?_, ?_, ?_⟩<;>rintro rfl<;>exact absurd this (by decide)
theorem yE {l:List UInt8} (h:0<aj l): ∀b∈[32]++l++[32],b≠34∧b≠35:=by
 have key: ∀{p:Prop} [Decidable p] {a b:Int} {Q:Prop},(p→Q)→(0<b→Q)→0<(if p then a else b)→Q:=by
  intro p _ a b Q ha hb h
  by_cases k:p
  ·exact ha k
  ·rw [if_neg k] at h;exact hb h
 revert h
 unfold aj
 iterate 13 (refine key (by rintro rfl;decide) ?_)
 exact fun h=>absurd h (by decide)
theorem abZ {c:Cl} (hc:okC c=true) {ks:List Pt} (hk: ∀x∈ks,kP x.2) (hlen:ks.length=c.2.2.toNat):kP (bY c ks):=by
 have hcc:=hc;rw [okC,aQ,Bool.and_eq_true] at hcc;obtain ⟨hw,hm⟩:=hcc
 have hat: ∀i,i<ks.length→kP (eo ks i).2:=by
  intro i hi
  have:eo ks i=ks[i]:=by unfold eo;rw [List.getD_eq_getElem?_getD,List.getElem?_eq_getElem hi];rfl
  rw [this];exact hk _ (List.getElem_mem hi)
 unfold bY
 by_cases h2:c.1=2
 ·rw [if_pos h2];exact yD _
 rw [if_neg h2]
 by_cases h5:c.1=5
 ·rw [if_pos h5]
  refine ⟨?_,by simp,by simp, ?_⟩
  ·show rn 0 (dq ks++[93])=_
   rw [gk,zI ks hk];rfl
  ·rw [←List.cons_append,List.getLast?_concat];decide
 rw [if_neg h5]
 by_cases h6:c.1=6
 ·rw [if_pos h6]
  rw [aJ,if_neg (by omega),if_neg h2,if_neg (by omega),if_neg (by omega),if_neg h5,if_pos h6,Bool.and_eq_true] at hw;obtain ⟨b,t,e,hb,ht,-⟩:=jn hw.1
  have hall: ∀x∈c.2.1.data.toList,nmI (x.toNat:Int)=true:=by
   have hw1:=hw.1;unfold dn at hw1;rw [Bool.and_eq_true] at hw1;exact tn _ 0 hw1.1
  have hcn:=fy (by rw [e];simp) (vZ hall);refine ⟨?_,by simp, ?_, ?_⟩
  ·rw [gk,hcn.1]
   show rn 0 (dq ks++[41])=_
   rw [gk,zI ks hk];rfl
  ·rw [e];have:=hcn.2.2.1;rw [e] at this;exact this
  ·rw [←List.cons_append,←List.append_assoc,List.getLast?_concat];decide
 rw [if_neg h6]
 by_cases h7:c.1=7
 ·rw [if_pos h7]
  rw [aJ,if_neg (by omega),if_neg h2,if_neg (by omega),if_neg (by omega),if_neg h5,if_neg h6,if_pos h7,Bool.or_eq_true,beq_iff_eq,beq_iff_eq] at hw;rw [bg,if_neg (by omega),if_neg (by omega),if_pos h7,beq_iff_eq] at hm
  have hcw:kP c.2.1.data.toList:=by
   rcases hw with e|e<;>rw [e]<;>exact fy (by decide) (by decide)
  have:=jq hcw (lG (hat 0 (by omega)) 7) [] (by simp)
  simpa using this
 rw [if_neg h7]
 by_cases h8:c.1=8
 ·rw [if_pos h8]
  rw [aJ,if_neg (by omega),if_neg h2,if_neg (by omega),if_neg (by omega),if_neg h5,if_neg h6,if_neg h7,if_pos h8,decide_eq_true_eq] at hw;rw [bg,if_neg (by omega),if_neg (by omega),if_neg h7,if_pos h8,beq_iff_eq] at hm;have hpl:=yE hw;rw [List.append_assoc];exact jq (lG (hat 0 (by omega)) _) (lG (hat 1 (by omega)) _) _ hpl
 rw [if_neg h8]
 by_cases h9:c.1=9
 ·rw [if_pos h9]
  rw [bg,if_neg (by omega),if_neg (by omega),if_neg h7,if_neg h8,if_pos h9,beq_iff_eq] at hm;have a:=jq (lG (hat 0 (by omega)) 2) (hat 1 (by omega)) [32,63,32] (by decide);have b:=jq a (hat 2 (by omega)) [32,58,32] (by decide)
  simpa using b
 rw [if_neg h9]
 have hk:c.1=1∨c.1=3∨c.1=4:=by
  unfold bg at hm
  repeat' split at hm
  all_goals first|omega|(cases hm)
 rcases hk with k|k|k
 ·rw [aJ,if_pos k,lR,Bool.and_eq_true] at hw
  have e:=o4 _ hw.1;refine fy ?_ ?_
  ·intro h
   obtain h0:c.2.1=⟨#[]⟩:=ByteArray.ext (by simpa using h);rw [h0] at hw;exact absurd hw.1 (by decide)
  ·intro b hb
   rw [←e] at hb
   refine ⟨?_, ?_, ?_⟩<;>rintro rfl<;>exact aeJ (by decide) (by decide) (by decide) (by decide) _ _ hb
 ·rw [aJ,if_neg (by omega),if_neg h2,if_pos k,Bool.or_eq_true,beq_iff_eq,beq_iff_eq] at hw
  rcases hw with e|e<;>rw [e]<;>exact fy (by decide) (by decide)
 ·rw [aJ,if_neg (by omega),if_neg h2,if_neg (by omega),if_pos k,Bool.and_eq_true] at hw
  obtain ⟨b,t,e,-⟩:=jn hw.1;have hw1:=hw.1;unfold dn at hw1;rw [Bool.and_eq_true] at hw1;exact fy (by rw [e];simp) (vZ (tn _ 0 hw1.1))
theorem Tx.calm {l:List Cl} (hok:l.all okC=true) {n f t:Nat} {xs:List Pt} (h:Tx l n f t xs): ∀x∈xs,kP x.2:=by
 induction h with
 |nil f=>intro x hx;cases hx
 | @cons f g n t c ks xs hc h1 h2 i1 i2=>
  intro x hx
  rcases List.mem_cons.mp hx with rfl|hx
  ·exact abZ (List.all_eq_true.mp hok c (List.mem_of_getElem? hc)) i1 h1.len
  ·exact i2 x hx
theorem yF {l:List Cl} (hok:okE l=true):kP (bC l):=by
 obtain ⟨x,hx⟩:=qC hok;rw [jw hok hx];exact hx.calm ((dL l).mp hok).2.1 x (List.mem_singleton.mpr rfl)
def cE:It:=(0,⟨#[]⟩,[],⟨#[]⟩)
noncomputable def cV (R:ByteArray→List Cl) (l:List UInt8):It:=
 if l=[] then (1,⟨#[]⟩,[],⟨#[]⟩)
 else if l=[125] then (5,⟨#[]⟩,[],⟨#[]⟩)
 else if l.head? =some 35 then (2,⟨#[]⟩,[],baL (aD (l.drop 1)))
 else if aD (nmQ l)=[123] then (4,baL (nmP l),[],⟨#[]⟩)
 else if (aD (nmQ l)).head? =some 61 then (3,baL (nmP l),R (baL (dS ((aD (nmQ l)).drop 1))),baL (es ((aD (nmQ l)).drop 1)))
 else (0,baL (nmP l),[],⟨#[]⟩)
noncomputable def aC (R:ByteArray→List Cl) (s:ByteArray):Option It:=
 if aM (cV R (aD s.data.toList))=true then some (cV R (aD s.data.toList)) else none
theorem rX {R:ByteArray→List Cl} {s:ByteArray} {i:It} (h:aC R s=some i):aM i=true:=by
 unfold aC at h
 split at h
 ·rename_i k;injection h with h;rw [←h];exact k
 ·cases h
theorem xV {R:ByteArray→List Cl} {s t:ByteArray} {a b:Nat} (h:t.data.toList=spL a++(s.data.toList++spL b)):aC R t=aC R s:=by
 unfold aC;rw [h,o9]
noncomputable def dF (i:It) (w:Nat):List UInt8:=
 if i.1=5 then [125]
 else if i.1=4 then i.2.1.data.toList++[32,123]
 else if i.1=2 then 35::(if emB i.2.2.2=true then [] else 32::i.2.2.2.data.toList)
 else if i.1=3 then i.2.1.data.toList++(spL (w-i.2.1.size)++([32,61,32]++(bC i.2.2.1++(if emB i.2.2.2=true then [] else [32,35,32]++i.2.2.2.data.toList))))
 else []
noncomputable def bv (i:It) (deep w:Nat):List UInt8:=if i.1=1 then [] else spL (2*deep)++dF i w
theorem fX {s:ByteArray}:emB s=true↔s=⟨#[]⟩:=by
 unfold emB;rw [beq_iff_eq]
 constructor
 ·intro h;exact ByteArray.ext (Array.size_eq_zero_iff.mp h)
 ·rintro rfl;rfl
theorem pZ {s:ByteArray} (h:eO s=true) (hne:emB s≠true):ng s.data.toList:=by
 unfold eO at h;simp only [Bool.and_eq_true,bne_iff_ne,ne_eq] at h;refine ⟨?_,h.2.2.2.1,h.2.2.2.2⟩;intro k
 apply hne
 rw [fX];exact ByteArray.ext (by simpa using k)
theorem abH: ∀(l:List UInt8) (n:Nat),cB n l=true→eH l 46=false→ ∀b∈l,kj b=true:=by
 intro l
 induction l with
 |nil=>intro n _ _ b hb;cases hb
 |cons x l ih=>
  intro n h hp b hb;simp only [eH,List.any_cons,Bool.or_eq_false_iff,beq_eq_false_iff_ne] at hp;rw [cB] at h;rw [if_neg (by simp [hp.1])] at h
  split at h
  ·cases h
  rename_i hbad
  split at h
  ·cases h
  rcases List.mem_cons.mp hb with rfl|hb
  ·unfold jN at hbad
   unfold kj dH;simp only [Bool.and_eq_true,Bool.not_eq_true',Bool.or_eq_true,beq_iff_eq,bne_iff_ne,ne_eq,not_and,not_or] at hbad⊢
   by_cases h1:cA (b.toNat:Int)=true
   ·exact .inl (.inl h1)
   ·have:=hbad (by simpa using h1)
    by_cases h2:cP (b.toNat:Int)=true
    ·exact .inl (.inr h2)
    ·right
     have:=this.2 (by simpa using h2)
     simpa using this
  ·exact ih _ h (by simpa [eH] using hp.2) b hb
theorem jK {s:ByteArray} (h:gi s=true):(∃b t,s.data.toList=b::t∧cA (b.toNat:Int)=true)∧(∀b∈s.data.toList,kj b=true):=by
 unfold gi at h;rw [Bool.and_eq_true,Bool.not_eq_true'] at h;obtain ⟨b,t,e,hb,-⟩:=jn h.1;have h1:=h.1;unfold dn at h1;rw [Bool.and_eq_true] at h1;exact ⟨⟨b,t,e,hb⟩,abH _ 0 h1.1 h.2⟩
theorem rY {b:UInt8} (h:cA (b.toNat:Int)=true):b≠32∧b≠35∧b≠125:=by
 refine ⟨?_, ?_, ?_⟩<;>rintro rfl<;>exact absurd h (by decide)
theorem kJ {a b:List UInt8} (hb:b≠[]):(a++b).getLast? =b.getLast? :=by
 rw [List.getLast?_append]
 cases h:b.getLast? with
 |none=>exact absurd (List.getLast?_eq_none_iff.mp h) hb
 |some z=>rfl
theorem xW {l m:List UInt8} (a:Nat) (e:l=spL a++m) (hr:rn 0 m=some 0) (ht:ng m):dS l=m∧es l=[]:=by
 have hn:hs 0 l=none:=by
  refine aff _ 0 0 ?_;rw [e,gk,kh (spL a) (fun b hb=>by unfold spL at hb;rw [List.eq_of_mem_replicate hb];decide)];exact hr
 unfold dS es;rw [hn];refine ⟨?_,rfl⟩
 show aD l=m
 have:=fC (m:=m) a 0 ht.2.1 ht.2.2;rw [e]
 simpa [spL] using this
theorem xX {l m q:List UInt8} (a b c:Nat) (e:l=(spL a++(m++spL b))++35::(spL c++q)) (hr:rn 0 m=some 0) (ht:ng m) (hq:ng q):dS l=m∧es l=q:=by
 have sp: ∀n,rn 0 (spL n)=some 0:=fun n=>kh (spL n) (fun b hb=>by unfold spL at hb;rw [List.eq_of_mem_replicate hb];decide)
 have hn:hs 0 l=some (spL a++(m++spL b)).length:=by
  rw [e];refine afg _ _ 0 ?_;rw [gk,sp a]
  show rn 0 (m++spL b)=_
  rw [gk,hr];exact sp b
 unfold dS es;rw [hn]
 constructor
 ·show aD (l.take _)=m
  rw [e,List.take_left];exact fC a b ht.2.1 ht.2.2
 ·show aD (l.drop _)=q
  rw [e,←List.drop_drop,List.drop_left];have:=fC (m:=q) c 0 hq.2.1 hq.2.2
  simpa [spL] using this
theorem ad8 {R:ByteArray→List Cl} (hR: ∀l,okE l=true→R (baL (bC l))=l) {i:It} (h:aM i=true) (h1:i.1≠1) (w:Nat):cV R (dF i w)=i∧(dF i w).head? ≠some 32∧(dF i w).getLast? ≠some 32:=by
 obtain ⟨k,nm,ex,no⟩:=i;unfold aM at h;simp only at h h1
 by_cases h5:k=5
 ·subst h5
  rw [if_pos (.inr rfl),Bool.and_eq_true,Bool.and_eq_true,fX,fX,List.isEmpty_iff] at h;obtain ⟨rfl,rfl,rfl⟩:=h;refine ⟨?_,by simp [dF],by simp [dF]⟩
  simp [dF,cV]
 rw [if_neg (by omega)] at h
 by_cases h2:k=2
 ·subst h2
  rw [if_pos rfl,Bool.and_eq_true,Bool.and_eq_true,fX,List.isEmpty_iff] at h;obtain ⟨rfl,rfl,hn⟩:=h
  by_cases he:emB no=true
  ·have e:dF (2,⟨#[]⟩,[],no) w=[35]:=by simp [dF,he]
   rw [e];refine ⟨?_,by decide,by decide⟩;rw [fX] at he;subst he
   simp [cV,aD,trL,baL]
  ·have e:dF (2,⟨#[]⟩,[],no) w=35::32::no.data.toList:=by simp [dF,he]
   have ht:=pZ hn he;rw [e];refine ⟨?_,by simp, ?_⟩
   ·have htr:aD (32::no.data.toList)=no.data.toList:=by
     have:=fC (m:=no.data.toList) 1 0 ht.2.1 ht.2.2
     simpa [spL] using this
    unfold cV;rw [if_neg (by simp),if_neg (by simp),if_pos List.head?_cons]
    show ((2:Int),_,_,baL (aD (32::no.data.toList)))=_
    rw [htr,i5]
   ·rw [show (35:UInt8)::32::no.data.toList=[35,32]++no.data.toList from rfl,kJ ht.1];exact ht.2.2
 rw [if_neg h2] at h
 by_cases h3:k=3
 ·subst h3
  rw [if_pos rfl,Bool.and_eq_true,Bool.and_eq_true] at h;obtain ⟨hs1,hE,hn⟩:=h;obtain ⟨⟨b,t,eb,hb⟩,hall⟩:=jK hs1;obtain ⟨hb32,hb35,hb125⟩:=rY hb;obtain ⟨hcr,hct⟩:=yF hE;have hRe:=hR ex hE
  have main: ∀tail:List UInt8,(∀x,(bC ex++tail).getLast? =some x→x≠32)→
    nmP (nm.data.toList++(spL (w-nm.size)++([32,61,32]++(bC ex++tail))))=nm.data.toList∧
    aD (nmQ (nm.data.toList++(spL (w-nm.size)++([32,61,32]++(bC ex++tail)))))=61::32::(bC ex++tail):=by
   intro tail hlast
   have hsp:spL (w-nm.size)++([32,61,32]++(bC ex++tail))=spL (w-nm.size+1)++(61::32::(bC ex++tail)):=by
    simp only [spL,List.replicate_succ',List.append_assoc];rfl
   rw [hsp]
   obtain ⟨p1,p2⟩:=tS nm.data.toList (spL (w-nm.size+1)++(61::32::(bC ex++tail))) hall (by
    intro x hx;rw [spL,List.replicate_succ,List.cons_append,List.head?_cons] at hx
    injection hx with hx;subst hx;decide)
   rw [p1,p2];refine ⟨rfl, ?_⟩
   have hne:bC ex++tail≠[]:=by simp [hct.1]
   have:=fC (m:=61::32::(bC ex++tail)) (w-nm.size+1) 0 (by simp) (by
    rw [show (61:UInt8)::32::(bC ex++tail)=[61,32]++(bC ex++tail) from rfl,kJ hne]
    intro k;exact hlast 32 k rfl)
   simpa [spL] using this
  have raw: ∀tail:List UInt8,(∀x,(bC ex++tail).getLast? =some x→x≠32)→
    cV R (nm.data.toList++(spL (w-nm.size)++([32,61,32]++(bC ex++tail))))=(3,nm,R (baL (dS (32::(bC ex++tail)))),baL (es (32::(bC ex++tail))))∧
    (nm.data.toList++(spL (w-nm.size)++([32,61,32]++(bC ex++tail)))).head? ≠some 32∧
    (nm.data.toList++(spL (w-nm.size)++([32,61,32]++(bC ex++tail)))).getLast? ≠some 32:=by
   intro tail hlast;obtain ⟨p1,p2⟩:=main tail hlast
   have hhead:(nm.data.toList++(spL (w-nm.size)++([32,61,32]++(bC ex++tail)))).head? =some b:=by rw [eb];rfl
   refine ⟨?_, ?_, ?_⟩
   ·unfold cV
    rw [if_neg (by rw [eb];simp),if_neg (by
     intro k
     have:(nm.data.toList++(spL (w-nm.size)++([32,61,32]++(bC ex++tail)))).head? =some 125:=by rw [k];rfl
     rw [hhead] at this;injection this with this;exact hb125 this),if_neg (by rw [hhead];intro k;injection k with k;exact hb35 k),p1,p2,if_neg (by simp),if_pos List.head?_cons,i5]
    rfl
   ·rw [hhead];intro k;injection k with k;exact hb32 k
   ·have hne:bC ex++tail≠[]:=by simp [hct.1]
    rw [←List.append_assoc,←List.append_assoc,kJ hne];intro k;exact hlast 32 k rfl
  by_cases he:emB no=true
  ·have e:dF (3,nm,ex,no) w=nm.data.toList++(spL (w-nm.size)++([32,61,32]++(bC ex++[]))):=by simp [dF,he]
   obtain ⟨r1,r2,r3⟩:=raw [] (by rw [List.append_nil];intro x hx k;subst k;exact hct.2.2 hx);obtain ⟨c1,c2⟩:=xW (l:=32::(bC ex++[])) (m:=bC ex) 1 (by simp [spL]) hcr hct;rw [e];refine ⟨?_,r2,r3⟩;rw [r1,c1,c2,hRe];rw [fX] at he;rw [he];rfl
  ·have ht:=pZ hn he
   have e:dF (3,nm,ex,no) w=nm.data.toList++(spL (w-nm.size)++([32,61,32]++(bC ex++([32,35,32]++no.data.toList)))):=by simp [dF,he]
   obtain ⟨r1,r2,r3⟩:=raw ([32,35,32]++no.data.toList) (by
    intro x hx k;subst k
    rw [←List.append_assoc,kJ ht.1] at hx;exact ht.2.2 hx)
   obtain ⟨c1,c2⟩:=xX (l:=32::(bC ex++([32,35,32]++no.data.toList))) (m:=bC ex) (q:=no.data.toList) 1 1 1 (by simp [spL]) hcr hct ht;rw [e];refine ⟨?_,r2,r3⟩;rw [r1,c1,c2,hRe,i5]
 rw [if_neg h3] at h
 by_cases h4:k=4
 ·subst h4
  rw [if_pos rfl,Bool.and_eq_true,Bool.and_eq_true,fX,List.isEmpty_iff] at h;obtain ⟨hs1,rfl,rfl⟩:=h;obtain ⟨⟨b,t,eb,hb⟩,hall⟩:=jK hs1;obtain ⟨hb32,hb35,hb125⟩:=rY hb
  have e:dF (4,nm,[],⟨#[]⟩) w=nm.data.toList++[32,123]:=by simp [dF]
  obtain ⟨p1,p2⟩:=tS nm.data.toList [32,123] hall (by intro x hx;injection hx with hx;subst hx;decide)
  have hhead:(nm.data.toList++[32,123]).head? =some b:=by rw [eb];rfl
  rw [e];refine ⟨?_, ?_, ?_⟩
  ·unfold cV
   rw [if_neg (by rw [eb];simp),if_neg (by
     intro k
     have:(nm.data.toList++[32,123]).head? =some 125:=by rw [k];rfl
     rw [hhead] at this;injection this with this;exact hb125 this),if_neg (by rw [hhead];intro k;injection k with k;exact hb35 k),p1,p2,if_pos (by decide),i5]
  ·rw [hhead];intro k;injection k with k;exact hb32 k
  ·rw [kJ (by simp)];decide
 ·rw [if_neg h4] at h;cases h
theorem iC {R:ByteArray→List Cl} (hR: ∀l,okE l=true→R (baL (bC l))=l) {i:It} (h:aM i=true) (deep w:Nat) {s:ByteArray} (hs:s.data.toList=bv i deep w):aC R s=some i:=by
 have key:cV R (aD s.data.toList)=i:=by
  rw [hs];unfold bv
  by_cases h1:i.1=1
  ·rw [if_pos h1]
   obtain ⟨k,nm,ex,no⟩:=i;simp only at h1;subst h1;unfold aM at h;rw [if_pos (.inl rfl),Bool.and_eq_true,Bool.and_eq_true,fX,fX,List.isEmpty_iff] at h;obtain ⟨h2,h3,h4⟩:=h;simp only at h2 h3 h4;subst h2;subst h3;subst h4
   rfl
  ·rw [if_neg h1]
   obtain ⟨c1,c2,c3⟩:=ad8 hR h h1 w;have:=fC (m:=dF i w) (2*deep) 0 c2 c3;rw [show spL 0=[] from rfl,List.append_nil] at this;rw [this,c1]
 unfold aC;rw [key,if_pos h]
open Go.RowKit
theorem zJ {u:Value} {l:List Cl} (hok:okE l=true) (w:World) (hr:RowC w u l):
  Calls Tryz.prog 89 #[u, .int .i64 0] w fun e w'=>e= .returned (.string ⟨(bC l).toArray⟩)∧Below w.heap.size w w':=by
 obtain ⟨x,hx⟩:=qC hok;have hoi:=(dL l).mp hok;rw [jw hok hx];exact adg hoi.1 (agq hoi.2.1) l.length 0 l.length x w hx (by omega) hr
theorem aib {s:ByteArray} (h:emB s=false):(s.toList==[])=false∧(s.toList !=[])=true:=by
 have: ¬s.toList=[]:=by
  intro k;rw [ByteArray.toList_eq] at k
  have h2:s.size=0:=by rw [←ByteArray.size_data,←Array.length_toList,k];rfl
  rw [emB,h2] at h;cases h
 exact ⟨beq_eq_false_iff_ne.mpr this,bne_iff_ne.mpr this⟩
theorem ahD {s:ByteArray} (h:emB s=true):(s.toList !=[])=false:=by rw [bne,(kq h).1];rfl
theorem sg (i : It) (u : Value) (deep W : Nat) (w : World) (hv : aM i = true) (hr : RowC w u i.2.2.1) (hn : i.2.1.size ≤ 1048576) (ht : i.2.2.2.size ≤ 1048576) (hd : deep ≤ 4) (hW : W ≤ 1000) :
    Calls Tryz.prog 45 #[.agg #[.int .i64 i.1, .string i.2.1, u, .string i.2.2.2], .int .i64 (deep : Int), .int .i64 (W : Int)] w fun e w' => e = .returned (.string (baL (bv i deep W))) ∧ Below w.heap.size w w' := by
  obtain ⟨k, n, l, t⟩ := i;simp only at hr hn ht ⊢;have HV := aim hv; clear hv;have HR := aim hr;obtain ⟨ao, cap, rfl, hc1, h2, h3⟩ := hr;clear h3;unfold maxLen at h2
  have hto : (2 * (deep : Int)).toNat = 2 * deep := by omega
  have HB1 := aim ((Below.refl w.heap.size w).alloc (ain _) (.cells #[.int .i64 k, .string n, .slice ao l.length cap, .string t] 25));have hss := gY (2 * deep)
  obtain ⟨S, HS, hS⟩ : ∃ S : ByteArray, Hid (baL (spL (2 * deep)) = S) ∧ S.size = 2 * deep := ⟨_, aim rfl, hss⟩
  clear hss
  by_cases h1 : k = 1
  · subst h1
    have HL := aim (show baL (bv (1, n, l, t) deep W) = ⟨#[]⟩ from eI (by simp [bv, baL]))
    go_enter Tryz.func45, Tryz.ntmps45
    go_wp2_with fail;refine (dV _ _ (by omega)).mono ?_;rintro e w1 ⟨rfl, hw1⟩;subst hw1;rw [hto, HS.out];go_wp2;go_ret;exact ⟨by rw [HL.out]; rfl, HB1.out⟩
  by_cases h5 : k = 5
  · subst h5
    have HL := aim (show baL (bv (5, n, l, t) deep W) = S ++ ⟨#[125]⟩ from by rw [← HS.out]; exact eI (by simp [bv, dF, baL]))
    have r0 : ¬ 9223372036854775807 < S.size + 1 := by omega
    go_enter Tryz.func45, Tryz.ntmps45
    go_wp2_with fail;refine (dV _ _ (by omega)).mono ?_;rintro e w1 ⟨rfl, hw1⟩;subst hw1;rw [hto, HS.out];go_wp2;go_ret;exact ⟨by rw [HL.out]; rfl, HB1.out⟩
  by_cases h4 : k = 4
  · subst h4
    have HL := aim (show baL (bv (4, n, l, t) deep W) = S ++ n ++ ⟨#[32, 123]⟩ from by rw [← HS.out]; exact eI (by simp [bv, dF, baL]))
    have r0 : ¬ 9223372036854775807 < S.size + n.size := by omega
    have r1 : ¬ 9223372036854775807 < S.size + n.size + 2 := by omega
    go_enter Tryz.func45, Tryz.ntmps45
    go_wp2_with fail;refine (dV _ _ (by omega)).mono ?_;rintro e w1 ⟨rfl, hw1⟩;subst hw1;rw [hto, HS.out];go_wp2;go_ret;exact ⟨by rw [HL.out]; rfl, HB1.out⟩
  cases hem : emB t with
  | true =>
    have e1 := (kq hem).1;have e2 := ahD hem;have HEM := aim hem; clear hem
    by_cases hk2 : k = 2
    · subst hk2
      have HL := aim (show baL (bv (2, n, l, t) deep W) = S ++ ⟨#[35]⟩ from by rw [← HS.out]; exact eI (by simp [bv, dF, baL, HEM.out]))
      have r0 : ¬ 9223372036854775807 < S.size + 1 := by omega
      go_enter Tryz.func45, Tryz.ntmps45
      go_wp2_with fail;refine (dV _ _ (by omega)).mono ?_;rintro e w1 ⟨rfl, hw1⟩;subst hw1;rw [hto, HS.out];go_wp2;go_ret;exact ⟨by rw [HL.out]; rfl, HB1.out⟩
    · skip
      have hk3 : k = 3 := by
        have := HV.out;unfold aM at this;simp only at this;rw [if_neg (by omega), if_neg hk2] at this
        by_cases h : k = 3
        · exact h
        · rw [if_neg h, if_neg h4] at this; cases this
      subst hk3
      have hoe : okE l = true := by
        have := HV.out;simp only [aM] at this
        simp at this
        exact this.2.1
      obtain ⟨P, HP, hP⟩ : ∃ P : ByteArray, Hid (baL (spL (W - n.size)) = P) ∧ P.size = W - n.size := ⟨_, aim rfl, gY _⟩
      obtain ⟨X, HX, hX⟩ : ∃ X : ByteArray, Hid ((⟨(bC l).toArray⟩ : ByteArray) = X) ∧ X.size ≤ 12000 := ⟨_, aim rfl, gv l⟩
      have HSP := aim (show ∀ w', Calls Tryz.prog 88 #[.int .i64 (IntKind.i64.wrap ((W : Int) - (n.size : Int)))] w' (fun e w2 => e = .returned (.string P) ∧ w' = w2) from fun w' => by
        rw [show IntKind.i64.wrap ((W : Int) - (n.size : Int)) = (W : Int) - (n.size : Int) from IntWalk.i64_in _ (by omega), ← HP.out, show W - n.size = ((W : Int) - (n.size : Int)).toNat by omega]
        exact dV _ w' (by omega))
      have hp2 : P.size ≤ 1000 := by omega
      have HL := aim (show baL (bv (3, n, l, t) deep W) = S ++ n ++ P ++ ⟨#[32, 61, 32]⟩ ++ X from by rw [← HS.out, ← HP.out, ← HX.out]; exact eI (by simp [bv, dF, baL, HEM.out]));have HTX := aim (fun w' hr' => zJ (u := .slice ao l.length cap) hoe w' hr');have HRB := aim (HR.out.mono HB1.out);have HRD := aim (show RowC (w.alloc (.cells #[.int .i64 3, .string n, .slice ao l.length cap, .string t] 25)).drew (.slice ao l.length cap) l from HRB.out.drewN 1)
      have r0 : ¬ 9223372036854775807 < S.size + n.size := by omega
      have r1 : ¬ 9223372036854775807 < S.size + n.size + P.size := by omega
      have r2 : ¬ 9223372036854775807 < S.size + n.size + P.size + 3 := by omega
      have r3 : ¬ 9223372036854775807 < S.size + n.size + P.size + 3 + X.size := by omega
      have hlt : w.heap.size < (w.alloc (.cells #[.int .i64 3, .string n, .slice ao l.length cap, .string t] 25)).drew.heap.size := by simp
      clear h4 hk2 h5 h1
      go_enter Tryz.func45, Tryz.ntmps45
      go_wp2_with fail;refine (dV _ _ (by omega)).mono ?_;rintro e w1 ⟨rfl, hw1⟩;subst hw1;rw [hto, HS.out];clear hS hP hp2 hX hto h2 hc1 ht;go_wp2_with fail
      go_region_held3 (fun w' => w'.cell? ⟨w.heap.size, 1, none⟩ = some (.string n) ∧ w'.cell? ⟨w.heap.size, 2, none⟩ = some (.slice ao l.length cap) ∧ w'.cell? ⟨w.heap.size, 3, none⟩ = some (.string t))
        (first
          | go_keep
          | (go_split_ands
             refine ⟨?_, ?_, ?_⟩
             · (rw [hb3.cell (by exact hlt)]; assumption)
             · (rw [hb3.cell (by exact hlt)]; assumption)
             · (rw [hb3.cell (by exact hlt)]; assumption)))
        (first
          | ((go_at_call 88; (with_reducible refine (HSP.out _).mono ?_); rintro e w2 ⟨rfl, hw2⟩; subst hw2))
          | ((go_at_call 89; (with_reducible refine (HTX.out _ HRD.out).mono ?_); rintro e w3 ⟨rfl, hb3⟩; rw [HX.out])))
      all_goals
        have HB3 := aim (HB1.out.drew.trans (hb3.mono HB1.out.size)); clear hb3;go_wp2;go_ret;exact ⟨by rw [HL.out]; rfl, HB3.out⟩
  | false =>
    obtain ⟨e1, e2⟩ := aib hem;have HEM := aim hem; clear hem
    by_cases hk2 : k = 2
    · subst hk2
      have HL := aim (show baL (bv (2, n, l, t) deep W) = S ++ ⟨#[35]⟩ ++ ⟨#[32]⟩ ++ t from by rw [← HS.out]; exact eI (by simp [bv, dF, baL, HEM.out]))
      have r0 : ¬ 9223372036854775807 < S.size + 1 := by omega
      have r1 : ¬ 9223372036854775807 < S.size + 1 + 1 := by omega
      have r2 : ¬ 9223372036854775807 < S.size + 1 + 1 + t.size := by omega
      go_enter Tryz.func45, Tryz.ntmps45
      go_wp2_with fail;refine (dV _ _ (by omega)).mono ?_;rintro e w1 ⟨rfl, hw1⟩;subst hw1;rw [hto, HS.out];go_wp2;go_ret;exact ⟨by rw [HL.out]; rfl, HB1.out⟩
    · skip
      have hk3 : k = 3 := by
        have := HV.out;unfold aM at this;simp only at this;rw [if_neg (by omega), if_neg hk2] at this
        by_cases h : k = 3
        · exact h
        · rw [if_neg h, if_neg h4] at this; cases this
      subst hk3
      have hoe : okE l = true := by
        have := HV.out;simp only [aM] at this
        simp at this
        exact this.2.1
      obtain ⟨P, HP, hP⟩ : ∃ P : ByteArray, Hid (baL (spL (W - n.size)) = P) ∧ P.size = W - n.size := ⟨_, aim rfl, gY _⟩
      obtain ⟨X, HX, hX⟩ : ∃ X : ByteArray, Hid ((⟨(bC l).toArray⟩ : ByteArray) = X) ∧ X.size ≤ 12000 := ⟨_, aim rfl, gv l⟩
      have HSP := aim (show ∀ w', Calls Tryz.prog 88 #[.int .i64 (IntKind.i64.wrap ((W : Int) - (n.size : Int)))] w' (fun e w2 => e = .returned (.string P) ∧ w' = w2) from fun w' => by
        rw [show IntKind.i64.wrap ((W : Int) - (n.size : Int)) = (W : Int) - (n.size : Int) from IntWalk.i64_in _ (by omega), ← HP.out, show W - n.size = ((W : Int) - (n.size : Int)).toNat by omega]
        exact dV _ w' (by omega))
      have hp2 : P.size ≤ 1000 := by omega
      have HL := aim (show baL (bv (3, n, l, t) deep W) = S ++ n ++ P ++ ⟨#[32, 61, 32]⟩ ++ X ++ ⟨#[32, 35]⟩ ++ ⟨#[32]⟩ ++ t from by rw [← HS.out, ← HP.out, ← HX.out]; exact eI (by simp [bv, dF, baL, HEM.out]));have HTX := aim (fun w' hr' => zJ (u := .slice ao l.length cap) hoe w' hr');have HRB := aim (HR.out.mono HB1.out);have HRD := aim (show RowC (w.alloc (.cells #[.int .i64 3, .string n, .slice ao l.length cap, .string t] 25)).drew (.slice ao l.length cap) l from HRB.out.drewN 1)
      have r0 : ¬ 9223372036854775807 < S.size + n.size := by omega
      have r1 : ¬ 9223372036854775807 < S.size + n.size + P.size := by omega
      have r2 : ¬ 9223372036854775807 < S.size + n.size + P.size + 3 := by omega
      have r3 : ¬ 9223372036854775807 < S.size + n.size + P.size + 3 + X.size := by omega
      have r4 : ¬ 9223372036854775807 < S.size + n.size + P.size + 3 + X.size + 2 := by omega
      have r5 : ¬ 9223372036854775807 < S.size + n.size + P.size + 3 + X.size + 2 + 1 := by omega
      have r6 : ¬ 9223372036854775807 < S.size + n.size + P.size + 3 + X.size + 2 + 1 + t.size := by omega
      have hlt : w.heap.size < (w.alloc (.cells #[.int .i64 3, .string n, .slice ao l.length cap, .string t] 25)).drew.heap.size := by simp
      clear h4 hk2 h5 h1
      go_enter Tryz.func45, Tryz.ntmps45
      go_wp2_with fail;refine (dV _ _ (by omega)).mono ?_;rintro e w1 ⟨rfl, hw1⟩;subst hw1;rw [hto, HS.out];clear hS hP hp2 hX hto h2 hc1 ht;go_wp2_with fail
      go_region_held3 (fun w' => w'.cell? ⟨w.heap.size, 1, none⟩ = some (.string n) ∧ w'.cell? ⟨w.heap.size, 2, none⟩ = some (.slice ao l.length cap) ∧ w'.cell? ⟨w.heap.size, 3, none⟩ = some (.string t))
        (first
          | go_keep
          | (go_split_ands
             refine ⟨?_, ?_, ?_⟩
             · (rw [hb3.cell (by exact hlt)]; assumption)
             · (rw [hb3.cell (by exact hlt)]; assumption)
             · (rw [hb3.cell (by exact hlt)]; assumption)))
        (first
          | ((go_at_call 88; (with_reducible refine (HSP.out _).mono ?_); rintro e w2 ⟨rfl, hw2⟩; subst hw2))
          | ((go_at_call 89; (with_reducible refine (HTX.out _ HRD.out).mono ?_); rintro e w3 ⟨rfl, hb3⟩; rw [HX.out])))
      all_goals
        have HB3 := aim (HB1.out.drew.trans (hb3.mono HB1.out.size)); clear hb3;go_wp2;go_ret;exact ⟨by rw [HL.out]; rfl, HB3.out⟩
noncomputable def fJ (i:It) (d:Int):ByteArray:=if aM i=true∧inI d 0 4=true then baL (bv i d.toNat 0) else ⟨#[]⟩
theorem m5 {n lo hi:Int}:inI n lo hi=true↔lo≤n∧n≤hi:=by simp [inI]
theorem qW (i:It) (u:Value) (d:Int) (w:World) (hr:RowC w u i.2.2.1) (hn:i.2.1.size≤1048576) (hz:dQ i.2.2.1) (hl:i.2.2.1.length≤1048576) (ht:i.2.2.2.size≤1048576):
  Calls Tryz.prog 12 #[.agg #[.int .i64 i.1, .string i.2.1,u, .string i.2.2.2], .int .i64 d] w fun e w'=>e= .returned (.string (fJ i d))∧Below w.heap.size w w':=by
 have HB1:=aim ((Below.refl w.heap.size w).alloc (ain _) (.cells #[.int .i64 i.1, .string i.2.1,u, .string i.2.2.2] 25));have HR1:=aim (hr.mono HB1.out);have HI1:=aim (It4.new w (.int .i64 i.1) (.string i.2.1) u (.string i.2.2.2) 25);have HC:=aim (bw i u _ HR1.out (by unfold maxLen;omega) hz hl (by unfold maxLen;omega));have HLN:=aim (fun (w':World) (hv:aM i=true) (deep:Nat) (hd:deep≤4) (hr':RowC w' u i.2.2.1)=>sg i u deep 0 w' hv hr' hn ht hd (by omega));obtain ⟨ao,cap,hu,-,-,-⟩:=hr;have HLD:=aim (show fJ i d=if aM i=true∧inI d 0 4=true then baL (bv i d.toNat 0) else ⟨#[]⟩ from rfl);obtain ⟨k,n,l,t⟩:=i;simp only at hu HC HLN HI1 HB1 HR1 hn ht⊢;subst hu;clear hz
 cases hv:aM (k,n,l,t) with
 |false=>
  have HL:=aim (show fJ (k,n,l,t) d=⟨#[]⟩ by rw [HLD.out,if_neg (by rw [hv];simp)]);rw [hv] at HC;clear hv
  go_enter Tryz.func12,Tryz.ntmps12
  go_wp2_with fail;refine HC.out.mono ?_;rintro e w2 ⟨rfl,hb2⟩;have HB2:=aim (HB1.out.trans (hb2.mono HB1.out.size));clear hb2;go_wp2;go_ret;exact ⟨by rw [HL.out];rfl,HB2.out⟩
 |true=>
  have HLV:=aim (HLN.out · hv);have HVV:=aim hv;rw [hv] at HC;clear hv
  go_enter Tryz.func12,Tryz.ntmps12
  go_wp2_with fail;refine HC.out.mono ?_;rintro e w2 ⟨rfl,hb2⟩;have HB2:=aim (HB1.out.trans (hb2.mono HB1.out.size));have HI2:=aim (HI1.out.keep hb2);have HR2:=aim (HR1.out.mono hb2);clear hb2;go_wp2_with fail;refine (eh d 0 4 _).mono ?_;rintro e w3 ⟨rfl,hw3⟩;subst hw3
  cases hd:inI d 0 4 with
  |false=>
   have HL:=aim (show fJ (k,n,l,t) d=⟨#[]⟩ by rw [HLD.out,if_neg (by rw [hd];simp)]);clear hd;go_wp2;go_ret;exact ⟨by rw [HL.out];rfl,HB2.out⟩
  |true=>
   have HL:=aim (show fJ (k,n,l,t) d=baL (bv (k,n,l,t) d.toNat 0) by rw [HLD.out,if_pos ⟨HVV.out,hd⟩]);obtain ⟨d0,d4⟩:=m5.mp hd
   obtain ⟨D,rfl⟩: ∃D:Nat,d=(D:Int):=⟨d.toNat,by omega⟩
   obtain ⟨⟨z0,z1,z2,z3⟩,-,hzz⟩:=HI2.out;clear hd;go_wp2_with fail;refine (HLV.out w2 D (by omega) HR2.out).mono ?_;rintro e w4 ⟨rfl,hb4⟩;have HB4:=aim (HB2.out.trans (hb4.mono HB2.out.size));clear hb4;go_wp2;go_ret;exact ⟨by rw [HL.out];rfl,HB4.out⟩
def LnD (s:ByteArray):Prop:=s.size≤20∨ ∃(i:It) (D:Nat),D≤4∧dT i∧aM i=true∧s=baL (bv i D 0)
def agO (R p:Nat) (w:World) (e:Ending) (w':World):Prop:=
 ∃s:ByteArray,e= .returned (.string s)∧LnD s∧Rdm w' R (p+3003)∧w.grownBy w' (some R)
theorem acC {i:It} (d:Int) (h:dT i):LnD (fJ i d):=by
 unfold fJ
 split
 ·rename_i hc
  have:=m5.mp hc.2;exact .inr ⟨i,d.toNat,by omega,h,hc.1,rfl⟩
 ·exact .inl (by show (⟨#[]⟩:ByteArray).size≤20;exact air _)
theorem pa {i:It} (h:dT i):i.2.1.size≤1048576∧dQ i.2.2.1∧i.2.2.1.length≤1048576∧i.2.2.2.size≤1048576:=
 ⟨by have:=h.1;omega,fun c hc=>by have:=h.2.1 c hc;omega,by have:=h.2.2.1;omega,by have:=h.2.2.2;omega⟩
theorem agP (m:Nat) (h:m<23): ∃t:ByteArray,t.size≤20∧(#[Value.string ⟨#[]⟩, .string ⟨#[32,32,32]⟩, .string ⟨#[125]⟩, .string ⟨#[32,125,32]⟩, .string ⟨#[35]⟩, .string ⟨#[35,120]⟩, .string ⟨#[113,32,123]⟩, .string ⟨#[113,123]⟩, .string ⟨#[113,32,32,123]⟩, .string ⟨#[97,61,49]⟩, .string ⟨#[97,32,61,32]⟩, .string ⟨#[97,32,61,61,32,49]⟩, .string ⟨#[65,32,61,32,49]⟩, .string ⟨#[113,46,97,32,61,32,49]⟩, .string ⟨#[97,32,61,32,49,32,35,32,120]⟩, .string ⟨#[97,32,61,32,34,35,34]⟩, .string ⟨#[97,32,61,32,34,120]⟩, .string ⟨#[125,32,120]⟩, .string ⟨#[123]⟩, .string ⟨#[97]⟩, .string ⟨#[116,114,117,101,32,61,32,49]⟩, .string ⟨#[97,32,61,32,49,32,35]⟩, .string ⟨#[97,32,123,32,35,32,120]⟩]:Array Value)[m]? =some (.string t):=by
 match m,h with
 |0,_=>exact ⟨_,by decide,rfl⟩
 |1,_=>exact ⟨_,by decide,rfl⟩
 |2,_=>exact ⟨_,by decide,rfl⟩
 |3,_=>exact ⟨_,by decide,rfl⟩
 |4,_=>exact ⟨_,by decide,rfl⟩
 |5,_=>exact ⟨_,by decide,rfl⟩
 |6,_=>exact ⟨_,by decide,rfl⟩
 |7,_=>exact ⟨_,by decide,rfl⟩
 |8,_=>exact ⟨_,by decide,rfl⟩
 |9,_=>exact ⟨_,by decide,rfl⟩
 |10,_=>exact ⟨_,by decide,rfl⟩
 |11,_=>exact ⟨_,by decide,rfl⟩
 |12,_=>exact ⟨_,by decide,rfl⟩
 |13,_=>exact ⟨_,by decide,rfl⟩
 |14,_=>exact ⟨_,by decide,rfl⟩
 |15,_=>exact ⟨_,by decide,rfl⟩
 |16,_=>exact ⟨_,by decide,rfl⟩
 |17,_=>exact ⟨_,by decide,rfl⟩
 |18,_=>exact ⟨_,by decide,rfl⟩
 |19,_=>exact ⟨_,by decide,rfl⟩
 |20,_=>exact ⟨_,by decide,rfl⟩
 |21,_=>exact ⟨_,by decide,rfl⟩
 |22,_=>exact ⟨_,by decide,rfl⟩
 |m+23,h=>omega
theorem pb (R p:Nat) (w:World) (hp:p+5000<100000000) (h:Rdm w R p):
  Calls Tryz.prog 53 #[.pointer (some ⟨R,0,none⟩)] w (agO R p w):=by
 have HLT:=aim h.lt
 go_enter Tryz.func53,Tryz.ntmps53
 go_wp2_with fail;refine (ko R p 0 _ (by omega) (by omega) (by omega) h).mono ?_;rintro e w1 ⟨i,a,c,rfl,hk,hf,hr1,hg1⟩;have HG1:=aim hg1;have HK1:=aim hk;have HF:=aim hf;have HS1:=aim hg1.size;clear hg1 hk hf h;go_wp2_with fail;refine (ah R (p+3000) 3 _ (by omega) hr1).mono ?_;rintro e w2 ⟨j,rfl,hj0,hj1,-,hr2,hg2,hs2⟩;have hlt:=HLT.out;have hs1:=HS1.out;have HK2:=aim ((HK1.out.keep (fun b hb hl=>hg2.block b hl (fun e=>by injection e with e;omega)) hg2.size).row);have HG2:=aim (ab HG1.out hg2);have HFS:=aim (pa HF.out);clear hg2 hs2 hr1 hj1;obtain ⟨k,n,l,t⟩:=i;have HIL:=aim (qW (k,n,l,t) (.slice a l.length c) j w2 HK2.out HFS.out.1 HFS.out.2.1 HFS.out.2.2.1 HFS.out.2.2.2);have HLN:=aim (acC j HF.out);simp only at HIL;clear HK1 HK2 HFS HF;generalize fJ (k,n,l,t) j=s at HIL HLN;go_wp2_with fail;refine HIL.out.mono ?_;rintro e w3 ⟨rfl,hb3⟩;have hg3:w2.grownBy w3 (some R):=⟨hb3.os,hb3.tape,hb3.output,hb3.size,fun i hi _=>hb3.block i hi⟩;have hr3:Rdm w3 R (p+3001):=hr2.kept (row:=none) ⟨hb3.os,hb3.tape,hb3.output,hb3.size,fun i hi _=>hb3.block i hi⟩ (by simp);have HG3:=aim (ab HG2.out hg3);clear hg3 hb3 hr2;go_wp2_with fail;refine (d9 R (p+3001) 3 _ (by omega) (by omega) (by omega) hr3).mono ?_;rintro e w4 ⟨b,rfl,-,hr4,hg4,hs4⟩;have HG4:=aim (ab HG3.out hg4);clear hg4 hs4 hr3
 cases b with
 |true=>
  go_wp2_with fail;refine (ah R (p+3002) 23 _ (by omega) (hr4.kept (aip w4 _ none) (by simp))).mono ?_;rintro e w5 ⟨m,rfl,hm0,hm1,-,hr5,hg5,hs5⟩;have hm2:=hm1 (by omega);obtain ⟨m1,rfl⟩:=aiq hm0;obtain ⟨t,ht,hlit⟩:=agP m1 (by omega);have hcell:=aU hr4.lt hg5 hlit;have HG5:=aim (ab (ae HG4.out _) hg5);clear hm1 hg5 hs5 hlit hr4 HG4;go_wp2;go_ret;exact ⟨_,rfl, .inl ht,hr5.mono (by omega),HG5.out⟩
 |false=>
  go_wp2;go_ret;exact ⟨_,rfl,HLN.out,hr4.mono (by omega),HG4.out⟩
noncomputable def fe (R:ByteArray→List Cl) (l:List UInt8):It:=
 if l=[] then (1,⟨#[]⟩,[],⟨#[]⟩)
 else if l=[125] then (5,⟨#[]⟩,[],⟨#[]⟩)
 else if l.head? =some 35 then (2,⟨#[]⟩,[],baL (aD (l.drop 1)))
 else if trL (nmQ l)=[123] then (4,baL (nmP l),[],⟨#[]⟩)
 else if (trL (nmQ l)).head? =some 61 then (3,baL (nmP l),R (baL (js ((trL (nmQ l)).drop 1))),baL (es ((trL (nmQ l)).drop 1)))
 else (0,⟨#[]⟩,[],⟨#[]⟩)
noncomputable def jJ (R:ByteArray→List Cl) (s:ByteArray):Option It:=
 if aM (fe R (aD s.data.toList))=true then some (fe R (aD s.data.toList)) else none
theorem rW (n:ByteArray):aM (0,n,[],⟨#[]⟩)=false:=by simp [aM]
theorem iB {R:ByteArray→List Cl} {B:Nat} (hR: ∀l:List UInt8,l.length≤B→R (baL l)=R (baL (aD l))) {s:ByteArray} (hs:s.size≤B):jJ R s=aC R s:=by
 obtain ⟨a,b,e,h0,h1⟩:=ig s.data.toList
 have hl:(aD s.data.toList).length≤B:=by
  have:=b6 s.data.toList
  have h2:s.data.toList.length=s.size:=by rw [Array.length_toList];rfl
  omega
 unfold jJ aC;generalize aD s.data.toList=l at h0 h1 hl⊢;have hq:trL (nmQ l)=aD (nmQ l):=aeT (by rw [jt];exact qx _ h1)
 by_cases c1:l=[]
 ·simp [fe,cV,c1]
 by_cases c2:l=[125]
 ·simp [fe,cV,c2]
 by_cases c3:l.head? =some 35
 ·have e1:fe R l=cV R l:=by rw [fe,cV,if_neg c1,if_neg c1,if_neg c2,if_neg c2,if_pos c3,if_pos c3]
  rw [e1]
 by_cases c4:aD (nmQ l)=[123]
 ·have e1:fe R l=cV R l:=by rw [fe,cV,if_neg c1,if_neg c1,if_neg c2,if_neg c2,if_neg c3,if_neg c3,hq,if_pos c4,if_pos c4]
  rw [e1]
 by_cases c5:(aD (nmQ l)).head? =some 61
 ·have e1:fe R l=cV R l:=by
   rw [fe,cV,if_neg c1,if_neg c1,if_neg c2,if_neg c2,if_neg c3,if_neg c3,hq,if_neg c4,if_neg c4,if_pos c5,if_pos c5,wm,hR]
   have h3:(js ((aD (nmQ l)).drop 1)).length≤((aD (nmQ l)).drop 1).length:=by
    unfold js
    split
    ·rw [List.length_take];omega
    ·exact ain _
   have h4:=b6 (nmQ l)
   have h5:(nmQ l).length≤l.length:=by rw [jt,List.length_drop];omega
   rw [List.length_drop] at h3
   omega
  rw [e1]
 ·have e1:fe R l=(0,⟨#[]⟩,[],⟨#[]⟩):=by rw [fe,if_neg c1,if_neg c2,if_neg c3,hq,if_neg c4,if_neg c5]
  have e2:cV R l=(0,baL (nmP l),[],⟨#[]⟩):=by rw [cV,if_neg c1,if_neg c2,if_neg c3,if_neg c4,if_neg c5]
  rw [e1,e2,rW,rW]
  rfl
inductive Tz (l:List Cl):Nat→Nat→Nat→List Pz→Prop
 |nil (f:Nat):Tz l 0 f f []
 |cons {f g n t:Nat} {c:Cl} {ks xs:List Pz}:l[f]? =some c→Tz l c.2.2.toNat (f+1) g ks→Tz l n g t xs→Tz l (n+1) f t (cM c ks::xs)
theorem Tz.len {l:List Cl} {n f t:Nat} {xs:List Pz} (h:Tz l n f t xs):xs.length=n:=by
 induction h with
 |nil f=>rfl
 |cons hc h1 h2 i1 i2=>rw [List.length_cons,i2]
theorem Tz.tx {l:List Cl} {n f t:Nat} {xs:List Pz} (h:Tz l n f t xs):Tx l n f t (xs.map eL):=by
 induction h with
 |nil f=>exact .nil f
 |cons hc h1 h2 i1 i2=>exact .cons hc i1 i2
theorem Tz.of_exs {l:List Cl} {n f t d:Nat} (h:Exs (amL l) n f t d): ∃xs,Tz l n f t xs∧mw xs=d:=by
 generalize ha:amL l=am at h
 induction h with
 |nil f=>exact ⟨[], .nil f,rfl⟩
 | @cons f m g d n t e hm h1 h2 i1 i2=>
  obtain ⟨ks,k1,k2⟩:=i1;obtain ⟨xs,k3,k4⟩:=i2;subst ha;obtain ⟨c,hc,rfl⟩:=zU hm;refine ⟨_, .cons hc k1 k3, ?_⟩;simp only [mw,cM,k2,k4]
theorem Tz.good {l:List Cl} (hok:l.all okC=true) {n f t:Nat} {xs:List Pz} (h:Tz l n f t xs): ∀x∈xs,Good x:=by
 induction h with
 |nil f=>intro x hx;cases hx
 | @cons f g n t c ks xs hc h1 h2 i1 i2=>
  intro x hx
  rcases List.mem_cons.mp hx with rfl|hx
  ·obtain ⟨hl,he⟩:=List.getElem?_eq_some_iff.mp hc
   exact af1 (by rw [←he];exact lL hok f hl) h1.len i1
  ·exact i2 x hx
theorem Tz.cells {l:List Cl} {n f t:Nat} {xs:List Pz} (h:Tz l n f t xs):xs.flatMap Pz.cl=(l.drop f).take (t-f)∧f≤t:=by
 induction h with
 |nil f=>simp
 | @cons f g n t c ks xs hc h1 h2 i1 i2=>
  obtain ⟨hl,he⟩:=List.getElem?_eq_some_iff.mp hc;obtain ⟨e1,l1⟩:=i1;obtain ⟨e2,l2⟩:=i2;refine ⟨?_,by omega⟩
  have e0:l.drop f=c::l.drop (f+1):=by rw [List.drop_eq_getElem_cons hl,he]
  rw [List.flatMap_cons,e2];simp only [cM];rw [e1,e0,show t-f=(t-(f+1))+1 by omega,List.take_succ_cons,List.cons_append]
  congr 1
  have:l.drop g=(l.drop (f+1)).drop (g-(f+1)):=by rw [List.drop_drop];congr 1;omega
  rw [this,show t-(f+1)=(g-(f+1))+(t-g) by omega,List.take_add]
theorem agx {l:List Cl} (hok:okE l=true): ∃x:Pz,Good x∧x.tx=bC l∧x.cl=l∧x.dp≤12:=by
 obtain ⟨h60,hal,d,hd,hx⟩:=(dL l).mp hok;obtain ⟨xs,h,hm⟩:=Tz.of_exs hx;have hl:=h.len
 match xs,hl,h,hm with
 |[x],_,h,hm=>
  refine ⟨x,h.good hal x (by simp), ?_, ?_, ?_⟩
  ·have:=jw hok (x:=eL x) h.tx
   rw [this];rfl
  ·have:=h.cells.1
   simpa using this
  ·simp only [mw] at hm;omega
theorem adb {tx:List UInt8} {tk:List Kw} (h:Lex tx tk) (hp:aI tx=true) (hl:tx.length≤20000):cS ⟨tx.toArray⟩=tk.map fun x=>(x.1,(⟨x.2.toArray⟩:ByteArray)):=by
 obtain ⟨L,e1,b1,r1⟩:=h
 have he:cL (0,0,[]) 0 tx=(0,tx.length,L):=by
  have:=r1 [] rfl 0 [];rw [List.append_nil,List.nil_append,Nat.zero_add] at this;rw [this]
  have hz:L.map (shT 0)=L:=by
   have:shT 0=id:=by funext x;rfl
   rw [this,List.map_id]
  rw [hz];unfold cL;rw [dD,cg,fK];simp
 have hres:fd (0,0,[]) 0 tx=true:=by rw [fd,he];rfl
 have hok:okT ⟨tx.toArray⟩=true:=by
  rw [okT,jU,hp,hres];simp only [Bool.and_true,decide_eq_true_eq]
  show tx.toArray.size≤20000
  simpa using hl
 have ht:aV ⟨tx.toArray⟩=L:=by
  rw [aV,if_pos hok,jU,kE,if_pos hres,he]
 rw [cS,ht,←e1,List.map_map]
 apply List.map_congr_left
 intro x hx;have hb:=b1 x hx;simp only [Function.comp]
 congr 1
 apply eI
 rw [ByteArray.data_extract,Array.toList_extract,List.extract_eq_take_drop]
theorem ag5 {tx:List UInt8} {tk:List Kw} (h:Lex tx tk) (hp:aI tx=true) (hl:tx.length≤20000):AtK (cS ⟨tx.toArray⟩) 0 tk∧(cS ⟨tx.toArray⟩).length=tk.length:=by
 rw [adb h hp hl];refine ⟨fun i hi=> ?_,by simp⟩;rw [Nat.zero_add,List.getElem?_map,List.getElem?_eq_getElem hi];rfl
theorem afx (tk:List Tk) {q:Nat} (h:tk.length≤q) (w:List UInt8):isT tk q w=false∧rkT tk q=0:=by
 unfold isT rkT;rw [List.getElem?_eq_none h];exact ⟨rfl,rfl⟩
theorem xu {x:Pz} (hg:Good x) (hd:x.dp≤20) (hl:x.tx.length≤20000) (hok:okE x.cl=true):RdOK ⟨x.tx.toArray⟩ x.cl:=by
 obtain ⟨ha,hlen⟩:=ag5 hg.lex hg.plain hl;have he:=afx (cS ⟨x.tx.toArray⟩) (q:=0+x.tk.length) (by omega);obtain ⟨n,hn,hr⟩:=hg.chc _ 0 ha (he [40]).1 (he []).2 (he [63]).1;have hdp:=hg.dp;refine ⟨⟨n, ?_,by omega⟩,hok⟩;rw [hlen]
 rwa [Nat.zero_add] at hr
theorem pw {l:List Cl} (hok:okE l=true):RdOK ⟨(bC l).toArray⟩ l:=by
 obtain ⟨x,hg,ht,hc,hd⟩:=agx hok;have hl:=gv l;rw [←ht] at hl⊢;rw [←hc] at hok;rw [←hc];exact xu hg (by omega) (by omega) hok
end Go.Proofs.YthijkjnngfnfdaaGreatDoor
