/-
  Part of the proof of FnPrintDocument.
-/
import Derived.Test.YthijkjnngfnfdaaGreatDoorQPan
import Derived.Test.YthijkjnngfnfdaaGreatDoorQPam
import Derived.Test.YthijkjnngfnfdaaGreatDoorQPaf
import Derived.Test.YthijkjnngfnfdaaGreatDoorPDrawItem
import Derived.Deep.AppendLies
import Derived.Below
import Derived.Deep.Onto
import Derived.Deep.Draws
import Derived.Deep.RegionHeld3
import Derived.RegionTactic
import Derived.Deep.RegionLaw
import Derived.Deep.DrawnRows
import Derived.StillTailTactics
import Derived.WalkKit
import Derived.WalkSpells
import Derived.Lib.Hide
import Derived.Deep.QuietTactic
import Derived.BigQuiet
set_option linter.unusedVariables false
set_option maxHeartbeats 8000000
set_option maxRecDepth 100000
namespace Go.Proofs.YthijkjnngfnfdaaGreatDoor
theorem abX: ∀(l:List UInt8),rn 1 (aZ l)=some 1:=by
 intro l
 induction l with
 |nil=>rfl
 |cons x l ih=>
  have e:aZ (x::l)=bA x++aZ l:=by simp [aZ]
  rw [e,gk]
  have:rn 1 (bA x)=some 1:=by
   unfold bA
   by_cases h1:x=10
   ·rw [if_pos h1];rfl
   ·rw [if_neg h1]
    by_cases h2:x=34∨x=92
    ·rw [if_pos h2];rfl
    ·rw [if_neg h2]
     show (if _ then none else rn (nx 1 x) [])=_
     rw [if_neg (by omega)]
     have:nx 1 x=1:=by
      unfold nx;rw [if_neg (by omega),if_pos rfl,if_neg (fun k=>h2 (.inr k)),if_neg (fun k=>h2 (.inl k))]
     rw [this];rfl
  rw [this];exact ih
theorem abY (l:List UInt8):rn 0 (bB l)=some 0:=by
 unfold bB
 show rn 1 (aZ l++[34])=_
 rw [gk,abX];rfl
theorem aeJ {c:UInt8} (hd:isD c=false) (h1:c≠45) (h2:c≠46) (h3:c≠47) (t b:Int):c∉aW t b:=by
 have pos: ∀t b:Nat,0<b→c∉aH t b:=by
  intro t b hb;have k1:=bW (cO (t/b)).1 c hd;have k2:=bW (cO t).1 c hd;have k3:=bW (cO b).1 c hd;have k4:=bW (jG 6 (t % b) b (Nat.mod_lt _ hb)) c hd;unfold aH a8
  split
  ·split
   ·simp [k1]
   ·simp [k1,k4,h2]
  ·simp [k2,k3,h3]
 unfold aW
 split
 ·rename_i hv
  obtain ⟨v1,v2,v3,v4⟩:=iP hv;unfold gL
  split
  ·have:=pos (-t).toNat b.toNat (by omega)
   simp [this,h1]
  ·exact pos t.toNat b.toNat (by omega)
 ·simp
def ng (l:List UInt8):Prop:=l≠[]∧l.head? ≠some 32∧l.getLast? ≠some 32
theorem aeK {l:List UInt8} (h:l≠[]) (h32:(32:UInt8)∉l):ng l:=
 ⟨h,fun k=>h32 (List.mem_of_head? k),fun k=>h32 (List.mem_of_getLast? k)⟩
theorem yC {a m b:List UInt8} (ha:ng a) (hb:ng b):ng (a++(m++b)):=by
 refine ⟨by simp [ha.1], ?_, ?_⟩
 ·cases a with
  |nil=>exact absurd rfl ha.1
  |cons x a=>exact ha.2.1
 ·rw [←List.append_assoc,List.getLast?_append]
  cases h:b.getLast? with
  |none=>exact absurd (List.getLast?_eq_none_iff.mp h) hb.1
  |some z=>have:=hb.2.2;rw [h] at this;exact this
def kP (l:List UInt8):Prop:=rn 0 l=some 0∧ng l
theorem fy {l:List UInt8} (h:l≠[]) (h1: ∀b∈l,b≠34∧b≠35∧b≠32):kP l:=
 ⟨kh l fun b hb=>⟨(h1 b hb).1,(h1 b hb).2.1⟩,aeK h fun k=>(h1 32 k).2.2 rfl⟩
theorem jq {a b:List UInt8} (ha:kP a) (hb:kP b) (m:List UInt8) (hm: ∀b∈m,b≠34∧b≠35):kP (a++(m++b)):=
 ⟨by rw [gk,ha.1];show rn 0 (m++b)=_;rw [gk,kh m hm];exact hb.1,yC ha.2 hb.2⟩
theorem yD (l:List UInt8):kP (bB l):=by
 refine ⟨abY l,by simp [bB],by simp [bB], ?_⟩;unfold bB;rw [←List.cons_append,List.getLast?_concat];decide
theorem lG {x:Pt} (h:kP x.2) (r:Int):kP (dE r x):=by
 unfold dE
 split
 ·have h1:kP ([40]:List UInt8):=fy (by decide) (by decide)
  have h2:kP ([41]:List UInt8):=fy (by decide) (by decide);have:=jq (jq h1 h [] (by simp)) h2 [] (by simp)
  simpa using this
 ·exact h
theorem zI: ∀(xs:List Pt),(∀x∈xs,kP x.2)→rn 0 (dq xs)=some 0:=by
 have tail: ∀(xs:List Pt),(∀x∈xs,kP x.2)→rn 0 (gb xs)=some 0:=by
  intro xs
  induction xs with
  |nil=>intro _;rfl
  |cons x xs ih=>
   intro h
   have e:gb (x::xs)=[44,32]++(x.2++gb xs):=by simp [gb]
   rw [e,gk,kh [44,32] (by decide)]
   show rn 0 (x.2++gb xs)=_
   rw [gk,(h x (List.mem_cons_self ..)).1]
   exact ih fun y hy=>h y (List.mem_cons_of_mem _ hy)
 intro xs h
 cases xs with
 |nil=>rfl
 |cons x xs=>
  rw [dq,gk,(h x (List.mem_cons_self ..)).1]
  exact tail xs fun y hy=>h y (List.mem_cons_of_mem _ hy)
theorem vZ {l:List UInt8} (h: ∀c∈l,nmI (c.toNat:Int)=true): ∀b∈l,b≠34∧b≠35∧b≠32:=by
 intro b hb;have:=h b hb
 refine ⟨?_, ?_, ?_⟩<;>rintro rfl<;>exact absurd this (by decide)
theorem yE {l:List UInt8} (h:0<aj l): ∀b∈[32]++l++[32],b≠34∧b≠35:=by
 have key: ∀{p:Prop} [Decidable p] {a b:Int} {Q:Prop},(p→Q)→(0<b→Q)→0<(if p then a else b)→Q:=by
  intro p _ a b Q ha hb h
  by_cases k:p
  ·exact ha k
  ·rw [if_neg k] at h;exact hb h
 revert h
 unfold aj
 iterate 13 (refine key (by rintro rfl;decide) ?_)
 exact fun h=>absurd h (by decide)
theorem abZ {c:Cl} (hc:okC c=true) {ks:List Pt} (hk: ∀x∈ks,kP x.2) (hlen:ks.length=c.2.2.toNat):kP (bY c ks):=by
 have hcc:=hc;rw [okC,aQ,Bool.and_eq_true] at hcc;obtain ⟨hw,hm⟩:=hcc
 have hat: ∀i,i<ks.length→kP (eo ks i).2:=by
  intro i hi
  have:eo ks i=ks[i]:=by unfold eo;rw [List.getD_eq_getElem?_getD,List.getElem?_eq_getElem hi];rfl
  rw [this];exact hk _ (List.getElem_mem hi)
 unfold bY
 by_cases h2:c.1=2
 ·rw [if_pos h2];exact yD _
 rw [if_neg h2]
 by_cases h5:c.1=5
 ·rw [if_pos h5]
  refine ⟨?_,by simp,by simp, ?_⟩
  ·show rn 0 (dq ks++[93])=_
   rw [gk,zI ks hk];rfl
  ·rw [←List.cons_append,List.getLast?_concat];decide
 rw [if_neg h5]
 by_cases h6:c.1=6
 ·rw [if_pos h6]
  rw [aJ,if_neg (by omega),if_neg h2,if_neg (by omega),if_neg (by omega),if_neg h5,if_pos h6,Bool.and_eq_true] at hw;obtain ⟨b,t,e,hb,ht,-⟩:=jn hw.1
  have hall: ∀x∈c.2.1.data.toList,nmI (x.toNat:Int)=true:=by
   have hw1:=hw.1;unfold dn at hw1;rw [Bool.and_eq_true] at hw1;exact tn _ 0 hw1.1
  have hcn:=fy (by rw [e];simp) (vZ hall);refine ⟨?_,by simp, ?_, ?_⟩
  ·rw [gk,hcn.1]
   show rn 0 (dq ks++[41])=_
   rw [gk,zI ks hk];rfl
  ·rw [e];have:=hcn.2.2.1;rw [e] at this;exact this
  ·rw [←List.cons_append,←List.append_assoc,List.getLast?_concat];decide
 rw [if_neg h6]
 by_cases h7:c.1=7
 ·rw [if_pos h7]
  rw [aJ,if_neg (by omega),if_neg h2,if_neg (by omega),if_neg (by omega),if_neg h5,if_neg h6,if_pos h7,Bool.or_eq_true,beq_iff_eq,beq_iff_eq] at hw;rw [bg,if_neg (by omega),if_neg (by omega),if_pos h7,beq_iff_eq] at hm
  have hcw:kP c.2.1.data.toList:=by
   rcases hw with e|e<;>rw [e]<;>exact fy (by decide) (by decide)
  have:=jq hcw (lG (hat 0 (by omega)) 7) [] (by simp)
  simpa using this
 rw [if_neg h7]
 by_cases h8:c.1=8
 ·rw [if_pos h8]
  rw [aJ,if_neg (by omega),if_neg h2,if_neg (by omega),if_neg (by omega),if_neg h5,if_neg h6,if_neg h7,if_pos h8,decide_eq_true_eq] at hw;rw [bg,if_neg (by omega),if_neg (by omega),if_neg h7,if_pos h8,beq_iff_eq] at hm;have hpl:=yE hw;rw [List.append_assoc];exact jq (lG (hat 0 (by omega)) _) (lG (hat 1 (by omega)) _) _ hpl
 rw [if_neg h8]
 by_cases h9:c.1=9
 ·rw [if_pos h9]
  rw [bg,if_neg (by omega),if_neg (by omega),if_neg h7,if_neg h8,if_pos h9,beq_iff_eq] at hm;have a:=jq (lG (hat 0 (by omega)) 2) (hat 1 (by omega)) [32,63,32] (by decide);have b:=jq a (hat 2 (by omega)) [32,58,32] (by decide)
  simpa using b
 rw [if_neg h9]
 have hk:c.1=1∨c.1=3∨c.1=4:=by
  unfold bg at hm
  repeat' split at hm
  all_goals first|omega|(cases hm)
 rcases hk with k|k|k
 ·rw [aJ,if_pos k,lR,Bool.and_eq_true] at hw
  have e:=o4 _ hw.1;refine fy ?_ ?_
  ·intro h
   obtain h0:c.2.1=⟨#[]⟩:=ByteArray.ext (by simpa using h);rw [h0] at hw;exact absurd hw.1 (by decide)
  ·intro b hb
   rw [←e] at hb
   refine ⟨?_, ?_, ?_⟩<;>rintro rfl<;>exact aeJ (by decide) (by decide) (by decide) (by decide) _ _ hb
 ·rw [aJ,if_neg (by omega),if_neg h2,if_pos k,Bool.or_eq_true,beq_iff_eq,beq_iff_eq] at hw
  rcases hw with e|e<;>rw [e]<;>exact fy (by decide) (by decide)
 ·rw [aJ,if_neg (by omega),if_neg h2,if_neg (by omega),if_pos k,Bool.and_eq_true] at hw
  obtain ⟨b,t,e,-⟩:=jn hw.1;have hw1:=hw.1;unfold dn at hw1;rw [Bool.and_eq_true] at hw1;exact fy (by rw [e];simp) (vZ (tn _ 0 hw1.1))
theorem Tx.calm {l:List Cl} (hok:l.all okC=true) {n f t:Nat} {xs:List Pt} (h:Tx l n f t xs): ∀x∈xs,kP x.2:=by
 induction h with
 |nil f=>intro x hx;cases hx
 | @cons f g n t c ks xs hc h1 h2 i1 i2=>
  intro x hx
  rcases List.mem_cons.mp hx with rfl|hx
  ·exact abZ (List.all_eq_true.mp hok c (List.mem_of_getElem? hc)) i1 h1.len
  ·exact i2 x hx
theorem yF {l:List Cl} (hok:okE l=true):kP (bC l):=by
 obtain ⟨x,hx⟩:=qC hok;rw [jw hok hx];exact hx.calm ((dL l).mp hok).2.1 x (List.mem_singleton.mpr rfl)
def cE:It:=(0,⟨#[]⟩,[],⟨#[]⟩)
noncomputable def cV (R:ByteArray→List Cl) (l:List UInt8):It:=
 if l=[] then (1,⟨#[]⟩,[],⟨#[]⟩)
 else if l=[125] then (5,⟨#[]⟩,[],⟨#[]⟩)
 else if l.head? =some 35 then (2,⟨#[]⟩,[],baL (aD (l.drop 1)))
 else if aD (nmQ l)=[123] then (4,baL (nmP l),[],⟨#[]⟩)
 else if (aD (nmQ l)).head? =some 61 then (3,baL (nmP l),R (baL (dS ((aD (nmQ l)).drop 1))),baL (es ((aD (nmQ l)).drop 1)))
 else (0,baL (nmP l),[],⟨#[]⟩)
noncomputable def aC (R:ByteArray→List Cl) (s:ByteArray):Option It:=
 if aM (cV R (aD s.data.toList))=true then some (cV R (aD s.data.toList)) else none
theorem rX {R:ByteArray→List Cl} {s:ByteArray} {i:It} (h:aC R s=some i):aM i=true:=by
 unfold aC at h
 split at h
 ·rename_i k;injection h with h;rw [←h];exact k
 ·cases h
noncomputable def dF (i:It) (w:Nat):List UInt8:=
 if i.1=5 then [125]
 else if i.1=4 then i.2.1.data.toList++[32,123]
 else if i.1=2 then 35::(if emB i.2.2.2=true then [] else 32::i.2.2.2.data.toList)
 else if i.1=3 then i.2.1.data.toList++(spL (w-i.2.1.size)++([32,61,32]++(bC i.2.2.1++(if emB i.2.2.2=true then [] else [32,35,32]++i.2.2.2.data.toList))))
 else []
noncomputable def bv (i:It) (deep w:Nat):List UInt8:=if i.1=1 then [] else spL (2*deep)++dF i w
theorem fX {s:ByteArray}:emB s=true↔s=⟨#[]⟩:=by
 unfold emB;rw [beq_iff_eq]
 constructor
 ·intro h;exact ByteArray.ext (Array.size_eq_zero_iff.mp h)
 ·rintro rfl;rfl
theorem pZ {s:ByteArray} (h:eO s=true) (hne:emB s≠true):ng s.data.toList:=by
 unfold eO at h;simp only [Bool.and_eq_true,bne_iff_ne,ne_eq] at h;refine ⟨?_,h.2.2.2.1,h.2.2.2.2⟩;intro k
 apply hne
 rw [fX];exact ByteArray.ext (by simpa using k)
theorem abH: ∀(l:List UInt8) (n:Nat),cB n l=true→eH l 46=false→ ∀b∈l,kj b=true:=by
 intro l
 induction l with
 |nil=>intro n _ _ b hb;cases hb
 |cons x l ih=>
  intro n h hp b hb;simp only [eH,List.any_cons,Bool.or_eq_false_iff,beq_eq_false_iff_ne] at hp;rw [cB] at h;rw [if_neg (by simp [hp.1])] at h
  split at h
  ·cases h
  rename_i hbad
  split at h
  ·cases h
  rcases List.mem_cons.mp hb with rfl|hb
  ·unfold jN at hbad
   unfold kj dH;simp only [Bool.and_eq_true,Bool.not_eq_true',Bool.or_eq_true,beq_iff_eq,bne_iff_ne,ne_eq,not_and,not_or] at hbad⊢
   by_cases h1:cA (b.toNat:Int)=true
   ·exact .inl (.inl h1)
   ·have:=hbad (by simpa using h1)
    by_cases h2:cP (b.toNat:Int)=true
    ·exact .inl (.inr h2)
    ·right
     have:=this.2 (by simpa using h2)
     simpa using this
  ·exact ih _ h (by simpa [eH] using hp.2) b hb
theorem jK {s:ByteArray} (h:gi s=true):(∃b t,s.data.toList=b::t∧cA (b.toNat:Int)=true)∧(∀b∈s.data.toList,kj b=true):=by
 unfold gi at h;rw [Bool.and_eq_true,Bool.not_eq_true'] at h;obtain ⟨b,t,e,hb,-⟩:=jn h.1;have h1:=h.1;unfold dn at h1;rw [Bool.and_eq_true] at h1;exact ⟨⟨b,t,e,hb⟩,abH _ 0 h1.1 h.2⟩
theorem rY {b:UInt8} (h:cA (b.toNat:Int)=true):b≠32∧b≠35∧b≠125:=by
 refine ⟨?_, ?_, ?_⟩<;>rintro rfl<;>exact absurd h (by decide)
theorem kJ {a b:List UInt8} (hb:b≠[]):(a++b).getLast? =b.getLast? :=by
 rw [List.getLast?_append]
 cases h:b.getLast? with
 |none=>exact absurd (List.getLast?_eq_none_iff.mp h) hb
 |some z=>rfl
theorem xW {l m:List UInt8} (a:Nat) (e:l=spL a++m) (hr:rn 0 m=some 0) (ht:ng m):dS l=m∧es l=[]:=by
 have hn:hs 0 l=none:=by
  refine aff _ 0 0 ?_;rw [e,gk,kh (spL a) (fun b hb=>by unfold spL at hb;rw [List.eq_of_mem_replicate hb];decide)];exact hr
 unfold dS es;rw [hn];refine ⟨?_,rfl⟩
 show aD l=m
 have:=fC (m:=m) a 0 ht.2.1 ht.2.2;rw [e]
 simpa [spL] using this
theorem xX {l m q:List UInt8} (a b c:Nat) (e:l=(spL a++(m++spL b))++35::(spL c++q)) (hr:rn 0 m=some 0) (ht:ng m) (hq:ng q):dS l=m∧es l=q:=by
 have sp: ∀n,rn 0 (spL n)=some 0:=fun n=>kh (spL n) (fun b hb=>by unfold spL at hb;rw [List.eq_of_mem_replicate hb];decide)
 have hn:hs 0 l=some (spL a++(m++spL b)).length:=by
  rw [e];refine afg _ _ 0 ?_;rw [gk,sp a]
  show rn 0 (m++spL b)=_
  rw [gk,hr];exact sp b
 unfold dS es;rw [hn]
 constructor
 ·show aD (l.take _)=m
  rw [e,List.take_left];exact fC a b ht.2.1 ht.2.2
 ·show aD (l.drop _)=q
  rw [e,←List.drop_drop,List.drop_left];have:=fC (m:=q) c 0 hq.2.1 hq.2.2
  simpa [spL] using this
theorem ad8 {R:ByteArray→List Cl} (hR: ∀l,okE l=true→R (baL (bC l))=l) {i:It} (h:aM i=true) (h1:i.1≠1) (w:Nat):cV R (dF i w)=i∧(dF i w).head? ≠some 32∧(dF i w).getLast? ≠some 32:=by
 obtain ⟨k,nm,ex,no⟩:=i;unfold aM at h;simp only at h h1
 by_cases h5:k=5
 ·subst h5
  rw [if_pos (.inr rfl),Bool.and_eq_true,Bool.and_eq_true,fX,fX,List.isEmpty_iff] at h;obtain ⟨rfl,rfl,rfl⟩:=h;refine ⟨?_,by simp [dF],by simp [dF]⟩
  simp [dF,cV]
 rw [if_neg (by omega)] at h
 by_cases h2:k=2
 ·subst h2
  rw [if_pos rfl,Bool.and_eq_true,Bool.and_eq_true,fX,List.isEmpty_iff] at h;obtain ⟨rfl,rfl,hn⟩:=h
  by_cases he:emB no=true
  ·have e:dF (2,⟨#[]⟩,[],no) w=[35]:=by simp [dF,he]
   rw [e];refine ⟨?_,by decide,by decide⟩;rw [fX] at he;subst he
   simp [cV,aD,trL,baL]
  ·have e:dF (2,⟨#[]⟩,[],no) w=35::32::no.data.toList:=by simp [dF,he]
   have ht:=pZ hn he;rw [e];refine ⟨?_,by simp, ?_⟩
   ·have htr:aD (32::no.data.toList)=no.data.toList:=by
     have:=fC (m:=no.data.toList) 1 0 ht.2.1 ht.2.2
     simpa [spL] using this
    unfold cV;rw [if_neg (by simp),if_neg (by simp),if_pos List.head?_cons]
    show ((2:Int),_,_,baL (aD (32::no.data.toList)))=_
    rw [htr,i5]
   ·rw [show (35:UInt8)::32::no.data.toList=[35,32]++no.data.toList from rfl,kJ ht.1];exact ht.2.2
 rw [if_neg h2] at h
 by_cases h3:k=3
 ·subst h3
  rw [if_pos rfl,Bool.and_eq_true,Bool.and_eq_true] at h;obtain ⟨hs1,hE,hn⟩:=h;obtain ⟨⟨b,t,eb,hb⟩,hall⟩:=jK hs1;obtain ⟨hb32,hb35,hb125⟩:=rY hb;obtain ⟨hcr,hct⟩:=yF hE;have hRe:=hR ex hE
  have main: ∀tail:List UInt8,(∀x,(bC ex++tail).getLast? =some x→x≠32)→
    nmP (nm.data.toList++(spL (w-nm.size)++([32,61,32]++(bC ex++tail))))=nm.data.toList∧
    aD (nmQ (nm.data.toList++(spL (w-nm.size)++([32,61,32]++(bC ex++tail)))))=61::32::(bC ex++tail):=by
   intro tail hlast
   have hsp:spL (w-nm.size)++([32,61,32]++(bC ex++tail))=spL (w-nm.size+1)++(61::32::(bC ex++tail)):=by
    simp only [spL,List.replicate_succ',List.append_assoc];rfl
   rw [hsp]
   obtain ⟨p1,p2⟩:=tS nm.data.toList (spL (w-nm.size+1)++(61::32::(bC ex++tail))) hall (by
    intro x hx;rw [spL,List.replicate_succ,List.cons_append,List.head?_cons] at hx
    injection hx with hx;subst hx;decide)
   rw [p1,p2];refine ⟨rfl, ?_⟩
   have hne:bC ex++tail≠[]:=by simp [hct.1]
   have:=fC (m:=61::32::(bC ex++tail)) (w-nm.size+1) 0 (by simp) (by
    rw [show (61:UInt8)::32::(bC ex++tail)=[61,32]++(bC ex++tail) from rfl,kJ hne]
    intro k;exact hlast 32 k rfl)
   simpa [spL] using this
  have raw: ∀tail:List UInt8,(∀x,(bC ex++tail).getLast? =some x→x≠32)→
    cV R (nm.data.toList++(spL (w-nm.size)++([32,61,32]++(bC ex++tail))))=(3,nm,R (baL (dS (32::(bC ex++tail)))),baL (es (32::(bC ex++tail))))∧
    (nm.data.toList++(spL (w-nm.size)++([32,61,32]++(bC ex++tail)))).head? ≠some 32∧
    (nm.data.toList++(spL (w-nm.size)++([32,61,32]++(bC ex++tail)))).getLast? ≠some 32:=by
   intro tail hlast;obtain ⟨p1,p2⟩:=main tail hlast
   have hhead:(nm.data.toList++(spL (w-nm.size)++([32,61,32]++(bC ex++tail)))).head? =some b:=by rw [eb];rfl
   refine ⟨?_, ?_, ?_⟩
   ·unfold cV
    rw [if_neg (by rw [eb];simp),if_neg (by
     intro k
     have:(nm.data.toList++(spL (w-nm.size)++([32,61,32]++(bC ex++tail)))).head? =some 125:=by rw [k];rfl
     rw [hhead] at this;injection this with this;exact hb125 this),if_neg (by rw [hhead];intro k;injection k with k;exact hb35 k),p1,p2,if_neg (by simp),if_pos List.head?_cons,i5]
    rfl
   ·rw [hhead];intro k;injection k with k;exact hb32 k
   ·have hne:bC ex++tail≠[]:=by simp [hct.1]
    rw [←List.append_assoc,←List.append_assoc,kJ hne];intro k;exact hlast 32 k rfl
  by_cases he:emB no=true
  ·have e:dF (3,nm,ex,no) w=nm.data.toList++(spL (w-nm.size)++([32,61,32]++(bC ex++[]))):=by simp [dF,he]
   obtain ⟨r1,r2,r3⟩:=raw [] (by rw [List.append_nil];intro x hx k;subst k;exact hct.2.2 hx);obtain ⟨c1,c2⟩:=xW (l:=32::(bC ex++[])) (m:=bC ex) 1 (by simp [spL]) hcr hct;rw [e];refine ⟨?_,r2,r3⟩;rw [r1,c1,c2,hRe];rw [fX] at he;rw [he];rfl
  ·have ht:=pZ hn he
   have e:dF (3,nm,ex,no) w=nm.data.toList++(spL (w-nm.size)++([32,61,32]++(bC ex++([32,35,32]++no.data.toList)))):=by simp [dF,he]
   obtain ⟨r1,r2,r3⟩:=raw ([32,35,32]++no.data.toList) (by
    intro x hx k;subst k
    rw [←List.append_assoc,kJ ht.1] at hx;exact ht.2.2 hx)
   obtain ⟨c1,c2⟩:=xX (l:=32::(bC ex++([32,35,32]++no.data.toList))) (m:=bC ex) (q:=no.data.toList) 1 1 1 (by simp [spL]) hcr hct ht;rw [e];refine ⟨?_,r2,r3⟩;rw [r1,c1,c2,hRe,i5]
 rw [if_neg h3] at h
 by_cases h4:k=4
 ·subst h4
  rw [if_pos rfl,Bool.and_eq_true,Bool.and_eq_true,fX,List.isEmpty_iff] at h;obtain ⟨hs1,rfl,rfl⟩:=h;obtain ⟨⟨b,t,eb,hb⟩,hall⟩:=jK hs1;obtain ⟨hb32,hb35,hb125⟩:=rY hb
  have e:dF (4,nm,[],⟨#[]⟩) w=nm.data.toList++[32,123]:=by simp [dF]
  obtain ⟨p1,p2⟩:=tS nm.data.toList [32,123] hall (by intro x hx;injection hx with hx;subst hx;decide)
  have hhead:(nm.data.toList++[32,123]).head? =some b:=by rw [eb];rfl
  rw [e];refine ⟨?_, ?_, ?_⟩
  ·unfold cV
   rw [if_neg (by rw [eb];simp),if_neg (by
     intro k
     have:(nm.data.toList++[32,123]).head? =some 125:=by rw [k];rfl
     rw [hhead] at this;injection this with this;exact hb125 this),if_neg (by rw [hhead];intro k;injection k with k;exact hb35 k),p1,p2,if_pos (by decide),i5]
  ·rw [hhead];intro k;injection k with k;exact hb32 k
  ·rw [kJ (by simp)];decide
 ·rw [if_neg h4] at h;cases h
theorem iC {R:ByteArray→List Cl} (hR: ∀l,okE l=true→R (baL (bC l))=l) {i:It} (h:aM i=true) (deep w:Nat) {s:ByteArray} (hs:s.data.toList=bv i deep w):aC R s=some i:=by
 have key:cV R (aD s.data.toList)=i:=by
  rw [hs];unfold bv
  by_cases h1:i.1=1
  ·rw [if_pos h1]
   obtain ⟨k,nm,ex,no⟩:=i;simp only at h1;subst h1;unfold aM at h;rw [if_pos (.inl rfl),Bool.and_eq_true,Bool.and_eq_true,fX,fX,List.isEmpty_iff] at h;obtain ⟨h2,h3,h4⟩:=h;simp only at h2 h3 h4;subst h2;subst h3;subst h4
   rfl
  ·rw [if_neg h1]
   obtain ⟨c1,c2,c3⟩:=ad8 hR h h1 w;have:=fC (m:=dF i w) (2*deep) 0 c2 c3;rw [show spL 0=[] from rfl,List.append_nil] at this;rw [this,c1]
 unfold aC;rw [key,if_pos h]
noncomputable def fe (R:ByteArray→List Cl) (l:List UInt8):It:=
 if l=[] then (1,⟨#[]⟩,[],⟨#[]⟩)
 else if l=[125] then (5,⟨#[]⟩,[],⟨#[]⟩)
 else if l.head? =some 35 then (2,⟨#[]⟩,[],baL (aD (l.drop 1)))
 else if trL (nmQ l)=[123] then (4,baL (nmP l),[],⟨#[]⟩)
 else if (trL (nmQ l)).head? =some 61 then (3,baL (nmP l),R (baL (js ((trL (nmQ l)).drop 1))),baL (es ((trL (nmQ l)).drop 1)))
 else (0,⟨#[]⟩,[],⟨#[]⟩)
noncomputable def jJ (R:ByteArray→List Cl) (s:ByteArray):Option It:=
 if aM (fe R (aD s.data.toList))=true then some (fe R (aD s.data.toList)) else none
theorem rW (n:ByteArray):aM (0,n,[],⟨#[]⟩)=false:=by simp [aM]
theorem iB {R:ByteArray→List Cl} {B:Nat} (hR: ∀l:List UInt8,l.length≤B→R (baL l)=R (baL (aD l))) {s:ByteArray} (hs:s.size≤B):jJ R s=aC R s:=by
 obtain ⟨a,b,e,h0,h1⟩:=ig s.data.toList
 have hl:(aD s.data.toList).length≤B:=by
  have:=b6 s.data.toList
  have h2:s.data.toList.length=s.size:=by rw [Array.length_toList];rfl
  omega
 unfold jJ aC;generalize aD s.data.toList=l at h0 h1 hl⊢;have hq:trL (nmQ l)=aD (nmQ l):=aeT (by rw [jt];exact qx _ h1)
 by_cases c1:l=[]
 ·simp [fe,cV,c1]
 by_cases c2:l=[125]
 ·simp [fe,cV,c2]
 by_cases c3:l.head? =some 35
 ·have e1:fe R l=cV R l:=by rw [fe,cV,if_neg c1,if_neg c1,if_neg c2,if_neg c2,if_pos c3,if_pos c3]
  rw [e1]
 by_cases c4:aD (nmQ l)=[123]
 ·have e1:fe R l=cV R l:=by rw [fe,cV,if_neg c1,if_neg c1,if_neg c2,if_neg c2,if_neg c3,if_neg c3,hq,if_pos c4,if_pos c4]
  rw [e1]
 by_cases c5:(aD (nmQ l)).head? =some 61
 ·have e1:fe R l=cV R l:=by
   rw [fe,cV,if_neg c1,if_neg c1,if_neg c2,if_neg c2,if_neg c3,if_neg c3,hq,if_neg c4,if_neg c4,if_pos c5,if_pos c5,wm,hR]
   have h3:(js ((aD (nmQ l)).drop 1)).length≤((aD (nmQ l)).drop 1).length:=by
    unfold js
    split
    ·rw [List.length_take];omega
    ·exact ain _
   have h4:=b6 (nmQ l)
   have h5:(nmQ l).length≤l.length:=by rw [jt,List.length_drop];omega
   rw [List.length_drop] at h3
   omega
  rw [e1]
 ·have e1:fe R l=(0,⟨#[]⟩,[],⟨#[]⟩):=by rw [fe,if_neg c1,if_neg c2,if_neg c3,hq,if_neg c4,if_neg c5]
  have e2:cV R l=(0,baL (nmP l),[],⟨#[]⟩):=by rw [cV,if_neg c1,if_neg c2,if_neg c3,if_neg c4,if_neg c5]
  rw [e1,e2,rW,rW]
  rfl
open Go.RowKit
theorem nu (s:ByteArray):(∀x∈cS s,x.2.size≤20000)∧ ∀x∈cS s,1≤x.1∧x.1≤4:=by
 obtain ⟨f1,f2,f3,f4⟩:=iE s
 have h20:aV s≠[]→s.size≤20000:=by
  intro h
  by_cases hk:okT s=true
  ·exact (vX s (.inr hk)).2 h
  ·exact absurd (by rw [aV,if_neg hk]) h
 constructor
 ·intro x hx
  simp only [cS,List.mem_map] at hx;obtain ⟨y,hy,rfl⟩:=hx;have:=h20 (List.ne_nil_of_mem hy);have:=f2 y hy;simp only [ByteArray.size_extract];omega
 ·intro x hx
  simp only [cS,List.mem_map] at hx;obtain ⟨y,hy,rfl⟩:=hx;exact f4 y hy
inductive Tz (l:List Cl):Nat→Nat→Nat→List Pz→Prop
 |nil (f:Nat):Tz l 0 f f []
 |cons {f g n t:Nat} {c:Cl} {ks xs:List Pz}:l[f]? =some c→Tz l c.2.2.toNat (f+1) g ks→Tz l n g t xs→Tz l (n+1) f t (cM c ks::xs)
theorem Tz.len {l:List Cl} {n f t:Nat} {xs:List Pz} (h:Tz l n f t xs):xs.length=n:=by
 induction h with
 |nil f=>rfl
 |cons hc h1 h2 i1 i2=>rw [List.length_cons,i2]
theorem Tz.tx {l:List Cl} {n f t:Nat} {xs:List Pz} (h:Tz l n f t xs):Tx l n f t (xs.map eL):=by
 induction h with
 |nil f=>exact .nil f
 |cons hc h1 h2 i1 i2=>exact .cons hc i1 i2
theorem Tz.of_exs {l:List Cl} {n f t d:Nat} (h:Exs (amL l) n f t d): ∃xs,Tz l n f t xs∧mw xs=d:=by
 generalize ha:amL l=am at h
 induction h with
 |nil f=>exact ⟨[], .nil f,rfl⟩
 | @cons f m g d n t e hm h1 h2 i1 i2=>
  obtain ⟨ks,k1,k2⟩:=i1;obtain ⟨xs,k3,k4⟩:=i2;subst ha;obtain ⟨c,hc,rfl⟩:=zU hm;refine ⟨_, .cons hc k1 k3, ?_⟩;simp only [mw,cM,k2,k4]
theorem Tz.good {l:List Cl} (hok:l.all okC=true) {n f t:Nat} {xs:List Pz} (h:Tz l n f t xs): ∀x∈xs,Good x:=by
 induction h with
 |nil f=>intro x hx;cases hx
 | @cons f g n t c ks xs hc h1 h2 i1 i2=>
  intro x hx
  rcases List.mem_cons.mp hx with rfl|hx
  ·obtain ⟨hl,he⟩:=List.getElem?_eq_some_iff.mp hc
   exact af1 (by rw [←he];exact lL hok f hl) h1.len i1
  ·exact i2 x hx
theorem Tz.cells {l:List Cl} {n f t:Nat} {xs:List Pz} (h:Tz l n f t xs):xs.flatMap Pz.cl=(l.drop f).take (t-f)∧f≤t:=by
 induction h with
 |nil f=>simp
 | @cons f g n t c ks xs hc h1 h2 i1 i2=>
  obtain ⟨hl,he⟩:=List.getElem?_eq_some_iff.mp hc;obtain ⟨e1,l1⟩:=i1;obtain ⟨e2,l2⟩:=i2;refine ⟨?_,by omega⟩
  have e0:l.drop f=c::l.drop (f+1):=by rw [List.drop_eq_getElem_cons hl,he]
  rw [List.flatMap_cons,e2];simp only [cM];rw [e1,e0,show t-f=(t-(f+1))+1 by omega,List.take_succ_cons,List.cons_append]
  congr 1
  have:l.drop g=(l.drop (f+1)).drop (g-(f+1)):=by rw [List.drop_drop];congr 1;omega
  rw [this,show t-(f+1)=(g-(f+1))+(t-g) by omega,List.take_add]
theorem agx {l:List Cl} (hok:okE l=true): ∃x:Pz,Good x∧x.tx=bC l∧x.cl=l∧x.dp≤12:=by
 obtain ⟨h60,hal,d,hd,hx⟩:=(dL l).mp hok;obtain ⟨xs,h,hm⟩:=Tz.of_exs hx;have hl:=h.len
 match xs,hl,h,hm with
 |[x],_,h,hm=>
  refine ⟨x,h.good hal x (by simp), ?_, ?_, ?_⟩
  ·have:=jw hok (x:=eL x) h.tx
   rw [this];rfl
  ·have:=h.cells.1
   simpa using this
  ·simp only [mw] at hm;omega
theorem adb {tx:List UInt8} {tk:List Kw} (h:Lex tx tk) (hp:aI tx=true) (hl:tx.length≤20000):cS ⟨tx.toArray⟩=tk.map fun x=>(x.1,(⟨x.2.toArray⟩:ByteArray)):=by
 obtain ⟨L,e1,b1,r1⟩:=h
 have he:cL (0,0,[]) 0 tx=(0,tx.length,L):=by
  have:=r1 [] rfl 0 [];rw [List.append_nil,List.nil_append,Nat.zero_add] at this;rw [this]
  have hz:L.map (shT 0)=L:=by
   have:shT 0=id:=by funext x;rfl
   rw [this,List.map_id]
  rw [hz];unfold cL;rw [dD,cg,fK];simp
 have hres:fd (0,0,[]) 0 tx=true:=by rw [fd,he];rfl
 have hok:okT ⟨tx.toArray⟩=true:=by
  rw [okT,jU,hp,hres];simp only [Bool.and_true,decide_eq_true_eq]
  show tx.toArray.size≤20000
  simpa using hl
 have ht:aV ⟨tx.toArray⟩=L:=by
  rw [aV,if_pos hok,jU,kE,if_pos hres,he]
 rw [cS,ht,←e1,List.map_map]
 apply List.map_congr_left
 intro x hx;have hb:=b1 x hx;simp only [Function.comp]
 congr 1
 apply eI
 rw [ByteArray.data_extract,Array.toList_extract,List.extract_eq_take_drop]
theorem ag5 {tx:List UInt8} {tk:List Kw} (h:Lex tx tk) (hp:aI tx=true) (hl:tx.length≤20000):AtK (cS ⟨tx.toArray⟩) 0 tk∧(cS ⟨tx.toArray⟩).length=tk.length:=by
 rw [adb h hp hl];refine ⟨fun i hi=> ?_,by simp⟩;rw [Nat.zero_add,List.getElem?_map,List.getElem?_eq_getElem hi];rfl
theorem afx (tk:List Tk) {q:Nat} (h:tk.length≤q) (w:List UInt8):isT tk q w=false∧rkT tk q=0:=by
 unfold isT rkT;rw [List.getElem?_eq_none h];exact ⟨rfl,rfl⟩
theorem xu {x:Pz} (hg:Good x) (hd:x.dp≤20) (hl:x.tx.length≤20000) (hok:okE x.cl=true):RdOK ⟨x.tx.toArray⟩ x.cl:=by
 obtain ⟨ha,hlen⟩:=ag5 hg.lex hg.plain hl;have he:=afx (cS ⟨x.tx.toArray⟩) (q:=0+x.tk.length) (by omega);obtain ⟨n,hn,hr⟩:=hg.chc _ 0 ha (he [40]).1 (he []).2 (he [63]).1;have hdp:=hg.dp;refine ⟨⟨n, ?_,by omega⟩,hok⟩;rw [hlen]
 rwa [Nat.zero_add] at hr
theorem pw {l:List Cl} (hok:okE l=true):RdOK ⟨(bC l).toArray⟩ l:=by
 obtain ⟨x,hg,ht,hc,hd⟩:=agx hok;have hl:=gv l;rw [←ht] at hl⊢;rw [←hc] at hok;rw [←hc];exact xu hg (by omega) (by omega) hok
theorem abW (m:Int×Nat×List (Int×Nat×Nat)) (a b:Nat) (h:(b7 (b7 m a 32) b 32).1=0):(b7 m a 32).1=0:=by
 obtain ⟨st,f,X⟩:=m
 by_cases h1:nB st 32=true
 ·exfalso
  have hst:st=3∨st=4∨st=11:=by
   unfold nB at h1
   by_cases a1:st=1
   ·subst a1;exact absurd h1 (by decide)
   by_cases a2:st=2
   ·subst a2;exact absurd h1 (by decide)
   by_cases a3:st=3
   ·exact .inl a3
   by_cases a4:st=4
   ·exact .inr (.inl a4)
   by_cases a11:st=11
   ·exact .inr (.inr a11)
   rw [if_neg a1,if_neg a2,if_neg (by omega)] at h1
   repeat' split at h1
   all_goals first|omega|(exact absurd h1 (by decide))|(exact absurd (of_decide_eq_true h1) a11)
  rcases hst with rfl|rfl|rfl
  ·simp [b7,nB,nS,dW] at h
  ·simp [b7,nB,nS,dW] at h
  ·simp [b7,nB,nS] at h
 ·by_cases h2:st=0
  ·subst h2;rw [cg];exact fK
  ·by_cases h3:kI st=0
   ·exfalso
    have e:b7 (st,f,X) a 32=(11,f,X):=by simp [b7,h1,h2,h3]
    rw [e,jI] at h
    simp at h
   ·rw [oe st f a X 32 h3 (by simpa using h1)];exact fK
theorem vY (l:List UInt8):cL (0,0,[]) 0 (l++[32])=b7 (cL (0,0,[]) 0 l) (l.length+1) 32:=by
 unfold cL;rw [rS,aio,Nat.zero_add,Nat.zero_add]
 rfl
theorem aeE (l:List UInt8):fd (0,0,[]) 0 (l++[32])=fd (0,0,[]) 0 l∧kE (0,0,[]) 0 (l++[32])=kE (0,0,[]) 0 l:=by
 by_cases h:(cL (0,0,[]) 0 l).1=0
 ·have e:cL (0,0,[]) 0 (l++[32])=(0,l.length+1,(cL (0,0,[]) 0 l).2.2):=by
   rw [vY];generalize cL (0,0,[]) 0 l=m at h⊢;obtain ⟨st,f,X⟩:=m;simp only at h;subst h;rw [cg,fK]
  have r1:fd (0,0,[]) 0 l=true:=by rw [fd,h];rfl
  have r2:fd (0,0,[]) 0 (l++[32])=true:=by rw [fd,e];rfl
  exact ⟨by rw [r1,r2],by rw [kE,if_pos r2,kE,if_pos r1,e]⟩
 ·have h': ¬(cL (0,0,[]) 0 (l++[32])).1=0:=by
   intro k;rw [vY] at k;exact h (abW (dD (0,0,[]) 0 l) _ _ k)
  have r1:fd (0,0,[]) 0 l=false:=by rw [fd,decide_eq_false h]
  have r2:fd (0,0,[]) 0 (l++[32])=false:=by rw [fd,decide_eq_false h']
  exact ⟨by rw [r1,r2],by rw [kE,r2,kE,r1];rfl⟩
theorem aeF (l:List UInt8):fd (0,0,[]) 0 (32::l)=fd (0,0,[]) 0 l∧kE (0,0,[]) 0 (32::l)=(kE (0,0,[]) 0 l).map (shT 1):=by
 have e:cL (0,0,[]) 0 (32::l)=shM 1 [] (cL (0,0,[]) 0 l):=by
  rw [lz _ _ _ _ _ (by decide),pV];have:=ahp 1 [] l (0,0,[]) 0
  simpa [shM] using this
 have h1:fd (0,0,[]) 0 (32::l)=fd (0,0,[]) 0 l:=by rw [fd,e,fd];rfl
 refine ⟨h1, ?_⟩;rw [kE,h1,kE,e]
 cases fd (0,0,[]) 0 l with
 |false=>rfl
 |true=>simp [shM]
theorem zG (l:List UInt8):(baL l).size=l.length:=by simp [baL,ByteArray.size]
theorem tz (l:List UInt8):okT (baL l)=(decide (l.length≤20000)&&aI l&&fd (0,0,[]) 0 l):=by rw [okT,zG,bK]
theorem aeG (l:List UInt8) (hl:l.length+1≤20000):cS (baL (l++[32]))=cS (baL l):=by
 obtain ⟨r1,r2⟩:=aeE l
 have hok:okT (baL (l++[32]))=okT (baL l):=by
  rw [tz,tz,r1,db,aio];have e1:decide (l.length+[(32:UInt8)].length≤20000)=true:=decide_eq_true hl;have e2:decide (l.length≤20000)=true:=decide_eq_true (by omega)
  have e3:aI [32]=true:=by decide
  rw [e1,e2,e3,Bool.and_true]
 have htk:aV (baL (l++[32]))=aV (baL l):=by
  rw [aV,hok,aV]
  cases okT (baL l) with
  |false=>rfl
  |true=>rw [if_pos rfl,if_pos rfl,bK,bK,r2]
 have hin:=(iE (baL l)).2.1;rw [cS,cS,htk]
 apply List.map_congr_left
 intro x hx;obtain ⟨q1,q2⟩:=hin x hx;rw [zG] at q2
 congr 1
 apply eI
 rw [ByteArray.data_extract,ByteArray.data_extract,Array.toList_extract,Array.toList_extract,List.extract_eq_take_drop,List.extract_eq_take_drop,bK,bK,List.drop_append_of_le_length (by omega),List.take_append_of_le_length (by rw [List.length_drop];omega)]
theorem agf (l:List UInt8) (hl:l.length+1≤20000):cS (baL (32::l))=cS (baL l):=by
 obtain ⟨r1,r2⟩:=aeF l
 have hok:okT (baL (32::l))=okT (baL l):=by
  rw [tz,tz,r1,dh,List.length_cons];have e1:decide (l.length+1≤20000)=true:=decide_eq_true hl;have e2:decide (l.length≤20000)=true:=decide_eq_true (by omega)
  have e3:cC (((32:UInt8).toNat:Nat):Int)=true:=by decide
  rw [e1,e2,e3,Bool.true_and]
 have htk:aV (baL (32::l))=(aV (baL l)).map (shT 1):=by
  rw [aV,hok,aV]
  cases okT (baL l) with
  |false=>rfl
  |true=>rw [if_pos rfl,if_pos rfl,bK,bK,r2]
 have hin:=(iE (baL l)).2.1;rw [cS,cS,htk,List.map_map]
 apply List.map_congr_left
 intro x hx;obtain ⟨q1,q2⟩:=hin x hx;simp only [Function.comp,shT]
 congr 1
 apply eI
 rw [ByteArray.data_extract,ByteArray.data_extract,Array.toList_extract,Array.toList_extract,List.extract_eq_take_drop,List.extract_eq_take_drop,bK,bK,show x.2.2+1-(x.2.1+1)=x.2.2-x.2.1 by omega,List.drop_succ_cons]
theorem ahC: ∀(a b:Nat) (l:List UInt8),a+(l.length+b)≤20000→cS (baL (spL a++(l++spL b)))=cS (baL l):=by
 intro a
 induction a with
 |zero=>
  intro b
  induction b with
  |zero=>intro l _;rw [show spL 0=[] from rfl,List.nil_append,List.append_nil]
  |succ b ih=>
   intro l h
   have e:spL 0++(l++spL (b+1))=(spL 0++(l++spL b))++[32]:=by
    rw [show spL (b+1)=spL b++[32] by unfold spL;exact List.replicate_succ',show spL 0=[] from rfl]
    simp
   rw [e,aeG _ (by simp [spL];omega)];exact ih l (by omega)
 |succ a ih=>
  intro b l h;have e:spL (a+1)++(l++spL b)=32::(spL a++(l++spL b)):=rfl;rw [e,agf _ (by simp [spL];omega)];exact ih b l (by omega)
theorem agh (l:List UInt8) (h:l.length≤20000):cS (baL l)=cS (baL (aD l)):=by
 obtain ⟨a,b,e,-,-⟩:=ig l;have hl:=congrArg List.length e;rw [aio,aio,show (spL a).length=a by simp [spL],show (spL b).length=b by simp [spL]] at hl;have:=ahC a b (aD l) (by omega);rw [←e] at this;exact this
theorem zH {l:List UInt8} (h:l.length≤20000) (c:List Cl):RdOK (baL l) c↔RdOK (baL (aD l)) c:=by
 unfold RdOK;rw [agh l h]
open Classical in
noncomputable def rdI (s:ByteArray):List Cl:=if h: ∃c,RdOK s c then h.choose else []
theorem oh {s:ByteArray} {c:List Cl} (h:RdOK s c):rdI s=c:=by
 have hx: ∃c,RdOK s c:=⟨c,h⟩
 unfold rdI;rw [dif_pos hx];exact hx.choose_spec.uniq h
theorem qh {s:ByteArray} (h: ∀c,¬RdOK s c):rdI s=[]:=by
 unfold rdI;rw [dif_neg];rintro ⟨c,hc⟩;exact h c hc
theorem kO {l:List UInt8} (h:l.length≤20000):rdI (baL l)=rdI (baL (aD l)):=by
 by_cases hx: ∃c,RdOK (baL l) c
 ·obtain ⟨c,hc⟩:=hx
  rw [oh hc,oh ((zH h c).mp hc)]
 ·rw [qh (fun c hc=>hx ⟨c,hc⟩),qh (fun c hc=>hx ⟨c,(zH h c).mpr hc⟩)]
theorem iF {l:List Cl} (h:okE l=true):rdI (baL (bC l))=l:=oh (pw h)
theorem aeI (s:ByteArray):rdI s=[]∨RdOK s (rdI s):=by
 by_cases hx: ∃c,RdOK s c
 ·obtain ⟨c,hc⟩:=hx
  rw [oh hc];exact .inr hc
 ·exact .inl (qh (fun c hc=>hx ⟨c,hc⟩))
theorem tH (s:ByteArray):em (rdI s)∧(rdI s).length≤60:=by
 rcases aeI s with h|h
 ·rw [h];exact ⟨fun c hc=>(by cases hc),by simp⟩
 ·refine ⟨?_,((dL _).mp h.2).1⟩
  obtain ⟨⟨n,hn,-⟩,-⟩:=h;intro x hx;have:=hn.words (B:=20000) (by omega) (fun p k w hp=>(nu s).1 _ (List.mem_of_getElem? hp)) (fun x hx=>by cases hx) x hx;unfold maxLen;omega
theorem agw {W w w':World} {L:Nat} (hb:Below W.heap.size W w) (hg:w.grownBy w' (some L)) (hL:W.heap.size≤L):Below W.heap.size W w':=
 hb.grown hg hb.size (fun r hr=>by injection hr with hr;omega)
theorem acq {w w':World} {base n L:Nat} {e:TypeId} {size:Nat} {v:Value} {xs:List Value} (h:w.ownsRow base e size v n xs) (hg:w.grownBy w' (some L)) (hL:L<base):w'.ownsRow base e size v n xs:=
 dJ h (fun g hg2=>hg.block g (h.lt g hg2).2 (fun e=>by injection e with e;have:=(h.lt g hg2).1;omega))
def acr (i:It) (w:World) (e:Ending) (w':World):Prop:=
 ∃v,e= .returned (.agg #[.int .i64 i.1, .string i.2.1,v, .string i.2.2.2])∧w'.ownsRow w.heap.size 120 3 v i.2.2.1.length (ap i.2.2.1)
theorem zV (c:List UInt8):aD (Lib.trimPrefix (oj c) [35])=es c:=by
 rcases acj c with ⟨h1,h2⟩|⟨t,h1,h2⟩
 ·rw [h1,h2];rfl
 ·rw [h1,h2]
  unfold Lib.trimPrefix Lib.hasPrefix;rw [if_pos (by simp)];rfl
theorem zW (c p:List UInt8):(Lib.trimPrefix c p).length≤c.length:=by
 unfold Lib.trimPrefix
 split
 ·rw [List.length_drop];omega
 ·exact ain _
theorem tI (c:List UInt8):(oj c).length≤c.length∧(js c).length≤c.length:=by
 rw [(ju c).1,(ju c).2,List.length_drop,List.length_take];omega
theorem acs {w w4:World} {L len:Nat} {v y0 y1 y2 y3:Value} {xs:List Value} (hg:w.grownBy w4 (some L)) (ho:w4.ownsRow (w.heap.size+1) 120 3 v len xs):
  ((((w4.setCell ⟨w.heap.size,0,none⟩ y0).setCell ⟨w.heap.size,1,none⟩ y1).setCell ⟨w.heap.size,2,none⟩ y2).setCell ⟨w.heap.size,3,none⟩ y3).ownsRow w.heap.size 120 3 v len xs∧
  w.grownBy ((((w4.setCell ⟨w.heap.size,0,none⟩ y0).setCell ⟨w.heap.size,1,none⟩ y1).setCell ⟨w.heap.size,2,none⟩ y2).setCell ⟨w.heap.size,3,none⟩ y3) (some L):=by
 have hs: ∀(x:World) (j:Nat) (y:Value),(x.setCell ⟨w.heap.size,j,none⟩ y).heap.size=x.heap.size:=fun x j y=>by simp [World.setCell]
 refine ⟨ba (dJ ho (fun g hg=> ?_)) (fun g hg=> ?_), ?_⟩
 ·have hbn:g≠w.heap.size:=by have:=(ho.lt g hg).1;omega
  rw [Below.heap_setCell _ _ _ _ hbn,Below.heap_setCell _ _ _ _ hbn,Below.heap_setCell _ _ _ _ hbn,Below.heap_setCell _ _ _ _ hbn]
 ·have:=(ho.lt g hg).1;omega
 ·refine ⟨hg.os,hg.tape,hg.output, ?_,fun b hb hn=> ?_⟩
  ·rw [hs,hs,hs,hs];exact hg.size
  ·have hbn:b≠w.heap.size:=by omega
   rw [Below.heap_setCell _ _ _ _ hbn,Below.heap_setCell _ _ _ _ hbn,Below.heap_setCell _ _ _ _ hbn,Below.heap_setCell _ _ _ _ hbn];exact hg.block b hb hn
theorem ae7 (W:World) (nm:ByteArray) (l:List UInt8) (L:Nat) (w:World) (h:ScAt w L l) (hl:l.length≤2097152) (hb:Below W.heap.size W w) (hL:W.heap.size≤L) (htab:Tab W):
  Calls Tryz.prog 107 #[.pointer (some ⟨L,0,none⟩), .string nm] w fun e w'=>acr (3,nm,rdI (baL (js l)),baL (es l)) w e w'∧w.grownBy w' (some L):=by
 have HLT:=aim h.lt;have HBA:=aim (aip w (.cells #[.int .i64 0, .string ⟨#[]⟩, .slice none 0 0, .string ⟨#[]⟩] 25) (some L));have HZ:=aim (It4.new w (.int .i64 0) (.string ⟨#[]⟩) (.slice none 0 0) (.string ⟨#[]⟩) 25);have HC:=aim (ahF l L (w.alloc (.cells #[.int .i64 0, .string ⟨#[]⟩, .slice none 0 0, .string ⟨#[]⟩] 25)) (h.below ((Below.refl _ _).alloc (ain _) _)) hl);have HB:=aim hb;have HT:=aim htab;obtain ⟨hc1,hc2⟩:=tI l;clear h hb htab
 go_enter Tryz.func107,Tryz.ntmps107
 go_wp2_with fail;refine HC.out.mono ?_;rintro e w1 ⟨rfl,hs1,hg1⟩;have HG1:=aim (ow HBA.out hg1);have HS1:=aim hs1;have HZ1:=aim (HZ.out.grown hg1 (by have:=HLT.out;intro e;injection e with e;omega));clear hs1 hg1;go_wp2_with fail;refine (rc (baL (js l)) w1 (by rw [aN];omega) (HT.out.keep (agw HB.out HG1.out hL))).mono ?_;rintro e w2 ⟨hb2,hres⟩
 obtain ⟨v,ok,rfl,hown⟩: ∃(v:Value) (ok:Bool),e= .returned (.tuple #[v, .bool ok])∧w2.ownsRow w1.heap.size 120 3 v (rdI (baL (js l))).length (ap (rdI (baL (js l)))):=by
  rcases hres with ⟨v,c,rfl,hc,ho⟩|⟨rfl,hno⟩
  ·rw [oh hc];exact ⟨v,true,rfl,ho⟩
  ·rw [qh hno];exact ⟨_,false,rfl,World.ownsRow_nil _ _ _ _⟩
 obtain ⟨va,vc,rfl⟩:=ai hown;have HG2:=aim (ow HG1.out (show w1.grownBy w2 (some L) from ⟨hb2.os,hb2.tape,hb2.output,hb2.size,fun i hi _=>hb2.block i hi⟩));have HS2:=aim (HS1.out.below hb2);have HZ2:=aim (HZ1.out.keep hb2);have HO2:=aim hown;have HL1:=aim (show L<w1.heap.size from HS1.out.lt);have HW1:=aim (show w.heap.size<w1.heap.size from by have:=HZ1.out.2.2;exact this);clear hres hown hb2 HS1 HZ1;go_wp2_with fail;refine (yV ⟨#[35]⟩ _ L w2 HS2.out).mono ?_;rintro e w3 ⟨rfl,hs3,hg3⟩;have HG3:=aim (ow HG2.out hg3);have HS3:=aim hs3;have HO3:=aim (acq HO2.out hg3 HL1.out);have HZ3:=aim (HZ2.out.grown hg3 (by have:=HLT.out;intro e;injection e with e;omega));have h3:=zW (oj l) [35];clear hs3 hg3 HS2 HO2 HZ2;go_wp2_with fail;refine (ae5 (Lib.trimPrefix (oj l) [35]) L w3 HS3.out (by omega)).mono ?_;rintro e w4 ⟨rfl,hs4,hg4⟩;have HG4:=aim (ow HG3.out hg4);have HO4:=aim (acq HO3.out hg4 HL1.out);have HZ4:=aim (HZ3.out.grown hg4 (by have:=HLT.out;intro e;injection e with e;omega));rw [zV];clear hs4 hg4 HS3 HO3 HZ3;obtain ⟨⟨z0,z1,z2,z3⟩,⟨y0,y1,y2,y3⟩,hz⟩:=HZ4.out;have HFIN:=aim (fun y0 y1 y2 y3=>acs (y0:=y0) (y1:=y1) (y2:=y2) (y3:=y3) HG4.out (ba HO4.out (fun g hg=>by have:=(HO4.out.lt g hg).1;have:=HW1.out;omega)));go_wp2;exact bodyPost_ret (v:= .agg #[.int .i64 3, .string nm, .slice va (rdI (baL (js l))).length vc, .string (baL (es l))]) (by simp [results,Tryz.results107,go_sem,z0,z1,z2,z3]) rfl ⟨⟨_,rfl,(HFIN.out _ _ _ _).1⟩,(HFIN.out _ _ _ _).2⟩
theorem hZ (l:List UInt8) (b:UInt8):Lib.hasPrefix l [b]=decide (l.head? =some b):=by
 cases l with
 |nil=>simp [Lib.hasPrefix,List.isPrefixOf]
 |cons a l=>
  by_cases h:a=b
  ·subst h;simp [Lib.hasPrefix,List.isPrefixOf]
  ·have h': ¬b=a:=fun e=>h e.symm
   simp [Lib.hasPrefix,List.isPrefixOf,h,h']
theorem rx {l:List UInt8} {b:UInt8} (h:l.head? =some b):Lib.trimPrefix l [b]=l.drop 1:=by
 unfold Lib.trimPrefix;rw [hZ,if_pos (by simpa using h)];rfl
theorem ac3 {l:List UInt8} {b:UInt8} (h:l.head? ≠some b):Lib.trimPrefix l [b]=l:=by
 unfold Lib.trimPrefix;rw [hZ,if_neg (by simpa using h)]
theorem mP (l:List UInt8):(nmQ l).length≤l.length:=by rw [jt,List.length_drop];omega
theorem zg (l:List UInt8):(trL l).length≤l.length:=by
 obtain ⟨k,hk⟩:=wt l;rw [hk,List.length_drop];omega
theorem mQ {w w':World} (k:Int) (n t:ByteArray):acr (k,n,[],t) w (.returned (.agg #[.int .i64 k, .string n, .slice none 0 0, .string t])) w':=⟨_,rfl,World.ownsRow_nil _ _ _ _⟩
theorem jB {w w4:World} {L:Nat} {y0 y1 y2 y3:Value} (hg:w.grownBy w4 (some L)):w.grownBy ((((w4.setCell ⟨w.heap.size,0,none⟩ y0).setCell ⟨w.heap.size,1,none⟩ y1).setCell ⟨w.heap.size,2,none⟩ y2).setCell ⟨w.heap.size,3,none⟩ y3) (some L):=
 (acs hg (World.ownsRow_nil w4 (w.heap.size+1) 120 3)).2
theorem ag2 (W:World) (l:List UInt8) (L:Nat) (w:World) (h:ScAt w L l) (hl:l.length≤2097152) (hb:Below W.heap.size W w) (hL:W.heap.size≤L) (htab:Tab W):
  Calls Tryz.prog 51 #[.pointer (some ⟨L,0,none⟩)] w fun e w'=>acr (fe rdI l) w e w'∧w.grownBy w' (some L):=by
 have HLT:=aim h.lt;have HBA:=aim (aip w (.cells #[.int .i64 0, .string ⟨#[]⟩, .slice none 0 0, .string ⟨#[]⟩] 25) (some L));have HZ:=aim (It4.new w (.int .i64 0) (.string ⟨#[]⟩) (.slice none 0 0) (.string ⟨#[]⟩) 25);have HS0:=aim (h.below ((Below.refl w.heap.size w).alloc (ain _) (.cells #[.int .i64 0, .string ⟨#[]⟩, .slice none 0 0, .string ⟨#[]⟩] 25)));have HB:=aim hb;have HT:=aim htab;have HLL:=aim hL;obtain ⟨d0,-⟩:=HS0.out.cells;clear h hb htab hL
 by_cases c1:l=[]
 ·subst c1
  have HR:=aim (show fe rdI []=(1,⟨#[]⟩,[],⟨#[]⟩) by rw [fe,if_pos rfl]);have e0:(baL ([]:List UInt8)).toList=[]:=ByteArray.toList_eq _
  go_enter Tryz.func51,Tryz.ntmps51
  go_wp2;exact bodyPost_ret (v:= .agg #[.int .i64 1, .string ⟨#[]⟩, .slice none 0 0, .string ⟨#[]⟩]) (by simp [results,Tryz.results51,go_sem]) rfl ⟨by rw [HR.out];exact mQ _ _ _,aip _ _ _⟩
 by_cases c2:l=[125]
 ·subst c2
  have HR:=aim (show fe rdI [125]=(5,⟨#[]⟩,[],⟨#[]⟩) by rw [fe,if_neg (by simp),if_pos rfl]);have e0:(baL ([125]:List UInt8)).toList=[125]:=ByteArray.toList_eq _
  go_enter Tryz.func51,Tryz.ntmps51
  go_wp2;exact bodyPost_ret (v:= .agg #[.int .i64 5, .string ⟨#[]⟩, .slice none 0 0, .string ⟨#[]⟩]) (by simp [results,Tryz.results51,go_sem]) rfl ⟨by rw [HR.out];exact mQ _ _ _,aip _ _ _⟩
 have t1:((baL l).toList==[])=false:=by rw [beq_eq_false_iff_ne,ByteArray.toList_eq];exact c1
 have t2:((baL l).toList==[125])=false:=by rw [beq_eq_false_iff_ne,ByteArray.toList_eq];exact c2
 have HTK:=aim (yV ⟨#[35]⟩ l L (w.alloc (.cells #[.int .i64 0, .string ⟨#[]⟩, .slice none 0 0, .string ⟨#[]⟩] 25)) HS0.out)
 by_cases c3:l.head? =some 35
 ·have HR:=aim (show fe rdI l=(2,⟨#[]⟩,[],baL (aD (l.drop 1))) by rw [fe,if_neg c1,if_neg c2,if_pos c3])
  rw [show (⟨#[35]⟩:ByteArray).data.toList=[35] from rfl,hZ,rx c3,decide_eq_true c3] at HTK;clear c1 c2 c3
  go_enter Tryz.func51,Tryz.ntmps51
  go_wp2_with fail;refine HTK.out.mono ?_;rintro e w1 ⟨rfl,hs1,hg1⟩;have HG1:=aim (ow HBA.out hg1);have HS1:=aim hs1;have HZ1:=aim (HZ.out.grown hg1 (by have:=HLT.out;intro e;injection e with e;omega));clear hs1 hg1 HTK d0;go_wp2_with fail;refine (ae5 _ L w1 HS1.out (by rw [List.length_drop];omega)).mono ?_;rintro e w2 ⟨rfl,hs2,hg2⟩;have HG2:=aim (ow HG1.out hg2);have HZ2:=aim (HZ1.out.grown hg2 (by have:=HLT.out;intro e;injection e with e;omega));obtain ⟨⟨z0,z1,z2,z3⟩,⟨y0,y1,y2,y3⟩,hz⟩:=HZ2.out;clear hs2 hg2 HS1 HZ1;generalize baL (aD (l.drop 1))=nt at HR;go_wp2;exact bodyPost_ret (v:= .agg #[.int .i64 2, .string ⟨#[]⟩, .slice none 0 0, .string nt]) (by simp [results,Tryz.results51,go_sem,z0,z1,z2,z3]) rfl ⟨by rw [HR.out];exact mQ _ _ _,jB HG2.out⟩
 rw [show (⟨#[35]⟩:ByteArray).data.toList=[35] from rfl,hZ,ac3 c3,decide_eq_false c3] at HTK;have hq1:=mP l;have hq2:=zg (nmQ l);have HC:=aim (And.intro c1 (And.intro c2 c3));clear c1 c2 c3
 go_enter Tryz.func51,Tryz.ntmps51
 go_wp2_with fail;refine HTK.out.mono ?_;rintro e w1 ⟨rfl,hs1,hg1⟩;have HG1:=aim (ow HBA.out hg1);have HS1:=aim hs1;have HZ1:=aim (HZ.out.grown hg1 (by have:=HLT.out;intro e;injection e with e;omega));clear hs1 hg1 HTK d0 t1 t2;go_wp2_with fail;refine (ahx l L w1 HS1.out hl).mono ?_;rintro e w2 ⟨rfl,hs2,hg2⟩;have HG2:=aim (ow HG1.out hg2);have HS2:=aim hs2;have HZ2:=aim (HZ1.out.grown hg2 (by have:=HLT.out;intro e;injection e with e;omega));clear hs2 hg2 HS1 HZ1;go_wp2_with fail;refine (ahN (nmQ l) L w2 HS2.out).mono ?_;rintro e w3 ⟨rfl,hs3,hg3⟩;have HG3:=aim (ow HG2.out hg3);have HS3:=aim hs3;have HZ3:=aim (HZ2.out.grown hg3 (by have:=HLT.out;intro e;injection e with e;omega));clear hs3 hg3 HS2 HZ2;obtain ⟨d3,-⟩:=HS3.out.cells;obtain ⟨⟨z0,z1,z2,z3⟩,⟨y0,y1,y2,y3⟩,hz⟩:=HZ3.out;have HTQ:=aim (yV ⟨#[61]⟩ (trL (nmQ l)) L w3 HS3.out);have HRD:=aim (show fe rdI l=if trL (nmQ l)=[123] then (4,baL (nmP l),[],⟨#[]⟩) else if (trL (nmQ l)).head? =some 61 then (3,baL (nmP l),rdI (baL (js ((trL (nmQ l)).drop 1))),baL (es ((trL (nmQ l)).drop 1))) else (0,⟨#[]⟩,[],⟨#[]⟩) by rw [fe,if_neg HC.out.1,if_neg HC.out.2.1,if_neg HC.out.2.2]);generalize trL (nmQ l)=q at d3 HTQ HRD hq2;generalize baL (nmP l)=nm at HRD;clear HS3 HC
 by_cases c4:q=[123]
 ·subst c4
  have e0:(baL ([123]:List UInt8)).toList=[123]:=ByteArray.toList_eq _;have HR:=aim (show fe rdI l=(4,nm,[],⟨#[]⟩) by rw [HRD.out,if_pos rfl]);go_wp2;exact bodyPost_ret (v:= .agg #[.int .i64 4, .string nm, .slice none 0 0, .string ⟨#[]⟩]) (by simp [results,Tryz.results51,go_sem,z0,z1,z2,z3]) rfl ⟨by rw [HR.out];exact mQ _ _ _,jB HG3.out⟩
 have t4:((baL q).toList==[123])=false:=by rw [beq_eq_false_iff_ne,ByteArray.toList_eq];exact c4
 by_cases c5:q.head? =some 61
 ·have HR:=aim (show fe rdI l=(3,nm,rdI (baL (js (q.drop 1))),baL (es (q.drop 1))) by rw [HRD.out,if_neg c4,if_pos c5])
  rw [show (⟨#[61]⟩:ByteArray).data.toList=[61] from rfl,hZ,rx c5,decide_eq_true c5] at HTQ;clear c4 c5 z0 z1 z2 z3 y0 y1 y2 y3 hz;go_wp2_with fail;refine HTQ.out.mono ?_;rintro e w4 ⟨rfl,hs4,hg4⟩;have HG4:=aim (ow HG3.out hg4);have HS4:=aim hs4;have HZ4:=aim (HZ3.out.grown hg4 (by have:=HLT.out;intro e;injection e with e;omega));have HW4:=aim (show w.heap.size<w4.heap.size from HZ4.out.2.2);clear hs4 hg4 HTQ d3 t4 HZ3;go_wp2_with fail;refine (ae7 W nm (q.drop 1) L w4 HS4.out (by rw [List.length_drop];omega) (agw HB.out HG4.out HLL.out) HLL.out HT.out).mono ?_;rintro e w5 ⟨⟨v,rfl,ho5⟩,hg5⟩;simp only at ho5;obtain ⟨va,vc,rfl⟩:=ai ho5;have HG5:=aim (ow HG4.out hg5);have HO5:=aim (ba (base':=w.heap.size+1) ho5 (fun g hg=>by have:=(ho5.lt g hg).1;have:=HW4.out;omega));obtain ⟨⟨z0,z1,z2,z3⟩,⟨y0,y1,y2,y3⟩,hz⟩:=HZ4.out.grown hg5 (by have:=HLT.out;intro e;injection e with e;omega);clear ho5 hg5 HS4 HZ4;generalize rdI (baL (js (q.drop 1)))=R at HR HO5;generalize baL (es (q.drop 1))=nt at HR;have HFIN:=aim (fun y0 y1 y2 y3=>acs (y0:=y0) (y1:=y1) (y2:=y2) (y3:=y3) HG5.out HO5.out);go_wp2;exact bodyPost_ret (v:= .agg #[.int .i64 3, .string nm, .slice va R.length vc, .string nt]) (by simp [results,Tryz.results51,go_sem,z0,z1,z2,z3]) rfl ⟨by rw [HR.out];exact ⟨_,rfl,(HFIN.out _ _ _ _).1⟩,(HFIN.out _ _ _ _).2⟩
 ·have HR:=aim (show fe rdI l=(0,⟨#[]⟩,[],⟨#[]⟩) by rw [HRD.out,if_neg c4,if_neg c5])
  rw [show (⟨#[61]⟩:ByteArray).data.toList=[61] from rfl,hZ,decide_eq_false c5] at HTQ;clear c4 c5 z0 z1 z2 z3 y0 y1 y2 y3 hz;go_wp2_with fail;refine HTQ.out.mono ?_;rintro e w4 ⟨rfl,hs4,hg4⟩;have HG4:=aim (ow HG3.out hg4);obtain ⟨⟨z0,z1,z2,z3⟩,⟨y0,y1,y2,y3⟩,hz⟩:=HZ3.out.grown hg4 (by have:=HLT.out;intro e;injection e with e;omega);clear hs4 hg4 HTQ d3 t4 HZ3;go_wp2;exact bodyPost_ret (v:= .agg #[.int .i64 0, .string ⟨#[]⟩, .slice none 0 0, .string ⟨#[]⟩]) (by simp [results,Tryz.results51,go_sem,z0,z1,z2,z3]) rfl ⟨by rw [HR.out];exact mQ _ _ _,jB HG4.out⟩
theorem aci (l:List UInt8) (hl:l.length≤2097152):(fe rdI l).2.1.size≤2097152∧em (fe rdI l).2.2.1∧(fe rdI l).2.2.1.length≤60∧(fe rdI l).2.2.2.size≤2097152:=by
 have h1:(nmP l).length≤l.length:=by
  have:=congrArg List.length (iU l);rw [List.length_take] at this;omega
 have h2:=mP l;have h3:=zg (nmQ l)
 have hz:em []:=fun c hc=>by cases hc
 have e0:(⟨#[]⟩:ByteArray).size=0:=rfl;unfold fe
 split
 ·exact ⟨by show (⟨#[]⟩:ByteArray).size≤_;omega,hz,by simp,by show (⟨#[]⟩:ByteArray).size≤_;omega⟩
 split
 ·exact ⟨by show (⟨#[]⟩:ByteArray).size≤_;omega,hz,by simp,by show (⟨#[]⟩:ByteArray).size≤_;omega⟩
 split
 ·refine ⟨by show (⟨#[]⟩:ByteArray).size≤_;omega,hz,by simp, ?_⟩
  show (baL (aD (l.drop 1))).size≤_
  rw [aN];have:=b6 (l.drop 1);rw [List.length_drop] at this;omega
 split
 ·exact ⟨by show (baL (nmP l)).size≤_;rw [aN];omega,hz,by simp,by show (⟨#[]⟩:ByteArray).size≤_;omega⟩
 split
 ·refine ⟨by show (baL (nmP l)).size≤_;rw [aN];omega,(tH _).1,(tH _).2, ?_⟩
  show (baL (es ((trL (nmQ l)).drop 1))).size≤_
  rw [aN]
  have: ∀m:List UInt8,(es m).length≤m.length:=fun m=>by
   unfold es
   split
   ·rename_i k _
    have:=b6 (m.drop (k+1));rw [List.length_drop] at this;omega
   ·simp
  have:=this ((trL (nmQ l)).drop 1);rw [List.length_drop] at this;omega
 ·exact ⟨by show (⟨#[]⟩:ByteArray).size≤_;omega,hz,by simp,by show (⟨#[]⟩:ByteArray).size≤_;omega⟩
def qt (o:Option It) (w:World) (e:Ending) (w':World):Prop:=
 ∃v,e= .returned (.tuple #[.agg #[.int .i64 (o.getD cE).1, .string (o.getD cE).2.1,v, .string (o.getD cE).2.2.2], .bool o.isSome])∧w'.ownsRow w.heap.size 120 3 v (o.getD cE).2.2.1.length (ap (o.getD cE).2.2.1)∧Below w.heap.size w w'
theorem du {w w4:World} {len:Nat} {v y0 y1 y2 y3:Value} {xs:List Value} (hg:Below w.heap.size w w4) (ho:w4.ownsRow (w.heap.size+1) 120 3 v len xs):
  ((((w4.setCell ⟨w.heap.size,0,none⟩ y0).setCell ⟨w.heap.size,1,none⟩ y1).setCell ⟨w.heap.size,2,none⟩ y2).setCell ⟨w.heap.size,3,none⟩ y3).ownsRow w.heap.size 120 3 v len xs∧
  Below w.heap.size w ((((w4.setCell ⟨w.heap.size,0,none⟩ y0).setCell ⟨w.heap.size,1,none⟩ y1).setCell ⟨w.heap.size,2,none⟩ y2).setCell ⟨w.heap.size,3,none⟩ y3):=by
 refine ⟨ba (dJ ho (fun g hg=> ?_)) (fun g hg=> ?_), ?_⟩
 ·have hbn:g≠w.heap.size:=by have:=(ho.lt g hg).1;omega
  rw [Below.heap_setCell _ _ _ _ hbn,Below.heap_setCell _ _ _ _ hbn,Below.heap_setCell _ _ _ _ hbn,Below.heap_setCell _ _ _ _ hbn]
 ·have:=(ho.lt g hg).1;omega
 ·exact (((hg.setCell (p:=⟨w.heap.size,0,none⟩) (ain _) _).setCell (p:=⟨w.heap.size,1,none⟩) (ain _) _).setCell (p:=⟨w.heap.size,2,none⟩) (ain _) _).setCell (p:=⟨w.heap.size,3,none⟩) (ain _) _
theorem fp (s:ByteArray) (w:World) (hs:s.size≤2097152) (htab:Tab w):
  Calls Tryz.prog 15 #[.string s] w (qt (jJ rdI s) w):=by
 have hl:s.data.toList.length≤2097152:=by rw [Array.length_toList];exact hs
 have hlt:=b6 s.data.toList;have HBA:=aim ((Below.refl w.heap.size w).alloc (ain _) (.cells #[.int .i64 0, .string ⟨#[]⟩, .slice none 0 0, .string ⟨#[]⟩] 25));have HZ:=aim (It4.new w (.int .i64 0) (.string ⟨#[]⟩) (.slice none 0 0) (.string ⟨#[]⟩) 25);have HT:=aim htab
 have hsz:(w.alloc (.cells #[.int .i64 0, .string ⟨#[]⟩, .slice none 0 0, .string ⟨#[]⟩] 25)).heap.size=w.heap.size+1:=by simp
 have HSZ:=aim hsz;have HRW:=aim (show jJ rdI s=if aM (fe rdI (aD s.data.toList))=true then some (fe rdI (aD s.data.toList)) else none from rfl);have HSD:=aim (aci (aD s.data.toList) (by omega));clear htab hsz
 go_enter Tryz.func15,Tryz.ntmps15
 go_wp2_with fail;refine (Tryz.strings_Trim_one s 32 (by decide) _ (by omega)).mono ?_;rintro e w1 ⟨rfl,hw1⟩;rw [wl,ns];have HG1:=aim (ahM hw1 none)
 have hs1:w1.heap.size=w.heap.size+1:=by
  rcases hw1 with rfl|rfl
  ·exact HSZ.out
  ·exact HSZ.out
 have HS1:=aim hs1;have HZ1:=aim (HZ.out.grown HG1.out (by simp));have HB1:=aim (HBA.out.grown HG1.out (by simp) (fun r hr=>by cases hr));clear hw1 hs1;have HNW:=aim (ScAt.new w1 (aD s.data.toList));have HB2:=aim (HB1.out.alloc HB1.out.size (.cells #[.string (baL (aD s.data.toList))] 75));have HZ2:=aim (HZ1.out.al (.cells #[.string (baL (aD s.data.toList))] 75));have HIT:=aim (ag2 w (aD s.data.toList) w1.heap.size _ HNW.out (by omega) HB2.out HB1.out.size HT.out);generalize aD s.data.toList=l at HIT HRW HSD HB2 HZ2 HNW⊢;generalize fe rdI l=i at HIT HRW HSD;clear HZ HG1 HNW hlt;go_wp2_with fail;refine HIT.out.mono ?_;rintro e w3 ⟨⟨v,rfl,ho3⟩,hg3⟩;obtain ⟨k,n,x,t⟩:=i;simp only at ho3;obtain ⟨va,vc,rfl⟩:=ai ho3;have HB3:=aim (HB2.out.grown hg3 HB2.out.size (fun r hr=>by injection hr with hr;have:=HB1.out.size;omega));have HZ3:=aim (HZ2.out.grown hg3 (by intro e;injection e with e;have:=HS1.out;omega));have HO3:=aim (ba (base':=w.heap.size+1) ho3 (fun g hg=>by have h1:=(ho3.lt g hg).1;have h2:=HS1.out;simp at h1;omega));clear ho3 hg3 HIT HZ2 HB2 HB1 HZ1 HS1;have HZ4:=aim (HZ3.out.al (.cells #[.int .i64 k, .string n, .slice va x.length vc, .string t] 25));have HB4:=aim (HB3.out.alloc HB3.out.size (.cells #[.int .i64 k, .string n, .slice va x.length vc, .string t] 25));have HI4:=aim (It4.new w3 (.int .i64 k) (.string n) (.slice va x.length vc) (.string t) 25);have HO4:=aim (HO3.out.alloc (.cells #[.int .i64 k, .string n, .slice va x.length vc, .string t] 25));have HIV:=aim (fU (k,n,x,t) (.slice va x.length vc) _ (RowC.of_own HO4.out).1 (by have:=HSD.out.1;show n.size≤maxLen;unfold maxLen;simp only at this;omega) HSD.out.2.1 (by have:=HSD.out.2.2.2;show t.size≤maxLen;unfold maxLen;simp only at this;omega) (HT.out.keep HB4.out));simp only at HIV;generalize hok:aM (k,n,x,t)=ok at HIV HRW;clear hok;go_wp2_with fail;refine HIV.out.mono ?_;rintro e w5 ⟨rfl,hb5⟩;have HB5:=aim (HB4.out.trans (hb5.mono HB4.out.size));have HZ5:=aim (HZ4.out.keep hb5);have HI5:=aim (HI4.out.keep hb5);have HO5:=aim (HO4.out.kept (row:=none) ⟨hb5.os,hb5.tape,hb5.output,hb5.size,fun i hi _=>hb5.block i hi⟩ (by cases hv:Value.ownBlock (.slice va x.length vc) with|none=>exact .inl rfl|some x=>exact .inr (by simp)));have HNE:=aim (show w.heap.size≠w3.heap.size by have:=HZ3.out.2.2;omega);obtain ⟨⟨z0,z1,z2,z3⟩,⟨y0,y1,y2,y3⟩,hz⟩:=HZ5.out;obtain ⟨⟨i0,i1,i2,i3⟩,⟨j0,j1,j2,j3⟩,hi⟩:=HI5.out;have HFIN:=aim (fun y0 y1 y2 y3=>du (y0:=y0) (y1:=y1) (y2:=y2) (y3:=y3) HB5.out HO5.out);have HFIZ:=aim (fun y0 y1 y2 y3=>du (y0:=y0) (y1:=y1) (y2:=y2) (y3:=y3) HB5.out (World.ownsRow_nil w5 (w.heap.size+1) 120 3));clear hb5 HB4 HZ4 HI4 HO4 HIV HSD
 cases ok with
 |false=>
  have HR:=aim (show jJ rdI s=none by rw [HRW.out,if_neg (by simp)]);go_wp2;exact bodyPost_ret (v:= .tuple #[.agg #[.int .i64 0, .string ⟨#[]⟩, .slice none 0 0, .string ⟨#[]⟩], .bool false]) (by simp [results,Tryz.results15,go_sem,z0,z1,z2,z3]) rfl (by rw [HR.out];exact ⟨_,rfl,HFIZ.out _ _ _ _⟩)
 |true=>
  have HR:=aim (show jJ rdI s=some (k,n,x,t) by rw [HRW.out,if_pos rfl]);go_wp2;exact bodyPost_ret (v:= .tuple #[.agg #[.int .i64 k, .string n, .slice va x.length vc, .string t], .bool true]) (by simp [results,Tryz.results15,go_sem,z0,z1,z2,z3]) rfl (by rw [HR.out];exact ⟨_,rfl,HFIN.out _ _ _ _⟩)
noncomputable def mn:Int→List It→List ByteArray
 |_,[]=>[]
 |d,i::is=>baL (bv i (fW d i).toNat 0)::mn (ef d i) is
noncomputable def bi (l:List It):List ByteArray:=mn 0 l
theorem gw: ∀(l:List It) (d:Int),(mn d l).length=l.length:=by
 intro l
 induction l with
 |nil=>intro d;rfl
 |cons i l ih=>intro d;rw [mn,List.length_cons,List.length_cons,ih]
theorem ia: ∀(l:List It) (d:Int) (k:Nat) (hk:k<l.length),(mn d l)[k]'(by rw [gw];exact hk)=baL (bv l[k] ((ew d l)[k]'(by rw [cU];exact hk)).toNat 0):=by
 intro l
 induction l with
 |nil=>intro d k hk;simp at hk
 |cons i l ih=>
  intro d k hk
  cases k with
  |zero=>rfl
  |succ k=>exact ih (ef d i) k (by simpa using hk)
noncomputable def b9 (l:List It):Bool:=dO l&&f9 (bi l)
noncomputable def aY (l:List It):ByteArray:=if b9 l=true then gR (bi l) else ⟨#[]⟩
noncomputable def goD (R:ByteArray→List Cl):List It→List ByteArray→Option (List It)×Nat
 |acc,[]=>(some acc,acc.length)
 |acc,s::ss=>match aC R s with
  |some i=>if bn 0 (acc++[i])≠none∧acc.length≠30 then goD R (acc++[i]) ss else (none,acc.length)
  |none=>(none,acc.length)
noncomputable def dr (R:ByteArray→List Cl) (ss:List ByteArray):List It×Int:=
 match (goD R [] ss).1 with
 |some l=>if dO l=true then (l,-1) else ([],(ss.length:Int))
 |none=>([],((goD R [] ss).2:Int))
noncomputable def aG (R:ByteArray→List Cl) (s:ByteArray):List It×Int:=if aT s=true then dr R (bS s) else ([],0)
theorem aaz {R:ByteArray→List Cl}: ∀(l acc:List It) (ss:List ByteArray) (e:Int),bn 0 (acc++l)=some e→acc.length+l.length≤30→ss.length=l.length→(∀k,(h1:k<ss.length)→(h2:k<l.length)→aC R ss[k]=some l[k])→(goD R acc ss).1=some (acc++l):=by
 intro l
 induction l with
 |nil=>
  intro acc ss e _ _ hl _;obtain rfl:ss=[]:=List.length_eq_zero_iff.mp hl
  simp [goD]
 |cons i l ih=>
  intro acc ss e hn hle hl hr
  cases ss with
  |nil=>simp at hl
  |cons s ss=>
   have h0:aC R s=some i:=hr 0 (by simp) (by simp);rw [goD,h0];simp only
   have hn1:bn 0 (acc++[i])≠none:=by
    intro hno
    have:acc++i::l=(acc++[i])++l:=by simp
    rw [this,jm,hno] at hn;cases hn
   have hne:acc.length≠30:=by simp only [List.length_cons] at hle;omega
   rw [if_pos ⟨hn1,hne⟩,ih (acc++[i]) ss e (by simpa using hn) (by simp only [aio,List.length_cons,List.length_nil] at hle⊢;omega) (by simpa using hl) (fun k h1 h2=>hr (k+1) (by simpa using h1) (by simpa using h2))]
   simp
theorem xq {R:ByteArray→List Cl} (hR: ∀l,okE l=true→R (baL (bC l))=l) {l:List It} (h:dO l=true) (ss:List ByteArray) (hl:ss.length=l.length) (hs: ∀k,(h1:k<ss.length)→(h2:k<l.length)→ ∃d w,ss[k].data.toList=bv l[k] d w):dr R ss=(l,-1):=by
 obtain ⟨h1,h2,h3⟩:=(bf l).mp h
 have e:=aaz (R:=R) l [] ss 0 (by simpa using h3) (by simpa using h1) hl (fun k k1 k2=>by
  obtain ⟨d,w,e⟩:=hs k k1 k2
  exact iC hR (List.all_eq_true.mp h2 _ (List.getElem_mem k2)) d w e)
 rw [List.nil_append] at e;unfold dr;rw [e];simp only [if_pos h]
theorem gm (l:List It):b9 l=true↔dO l=true∧f9 (bi l)=true:=by rw [b9,Bool.and_eq_true]
theorem iL {R:ByteArray→List Cl} (hR: ∀l,okE l=true→R (baL (bC l))=l) {l:List It} (h:b9 l=true):aG R (aY l)=(l,-1)∧(bS (aY l)).length=l.length∧aT (aY l)=true:=by
 obtain ⟨h1,h2⟩:=(gm l).mp h;obtain ⟨k1,k2⟩:=mr _ h2
 have e:aY l=gR (bi l):=by rw [aY,if_pos h]
 have hlen:(bi l).length=l.length:=gw l 0;refine ⟨?_,by rw [e,k2,hlen],by rw [e];exact k1⟩;rw [e,aG,if_pos k1,k2]
 refine xq hR h1 _ hlen fun k h1 h2=> ?_
 rw [show (bi l)[k]=_ from ia l 0 k h2];exact ⟨_,_,bK _⟩
def stI (k:Int):Int:=if k=4 then 1 else if k=5 then-1 else 0
theorem af7 (d:Int) (i:It):ef d i=d+stI i.1:=by
 unfold ef fW stI
 by_cases h4:i.1=4
 ·rw [if_pos h4,if_pos h4,if_neg (by omega)]
 ·rw [if_neg h4,if_neg h4]
  split<;>omega
theorem ma (k:Int) (n t:ByteArray) (a:Option Addr) (m c:Nat) (w:World):
  Calls Tryz.prog 68 #[.agg #[.int .i64 k, .string n, .slice a m c, .string t]] w fun e w'=>e= .returned (.int .i64 (stI k))∧Below w.heap.size w w':=by
 have HB:=aim ((Below.refl w.heap.size w).alloc (ain _) (.cells #[.int .i64 k, .string n, .slice a m c, .string t] 25));unfold stI
 by_cases h4:k=4
 ·subst h4
  go_enter Tryz.func68,Tryz.ntmps68
  go_wp2;go_ret;exact ⟨rfl,HB.out⟩
 by_cases h5:k=5
 ·subst h5
  go_enter Tryz.func68,Tryz.ntmps68
  go_wp2;go_ret;exact ⟨rfl,HB.out⟩
 rw [if_neg h4,if_neg h5];have t4:(k==4)=false:=beq_eq_false_iff_ne.mpr h4;have t5:(k==5)=false:=beq_eq_false_iff_ne.mpr h5
 go_enter Tryz.func68,Tryz.ntmps68
 go_wp2;go_ret;exact ⟨rfl,HB.out⟩
def qO (r:List It×Int) (w:World) (e:Ending) (w':World):Prop:=
 ∃(v:Value) (us:List Value),e= .returned (.tuple #[v, .int .i64 r.2])∧OwnI w' w.heap.size v us r.1∧Below w.heap.size w w'
theorem lV {R:ByteArray→List Cl} {acc:List It} {s:ByteArray} {ss:List ByteArray} (h:aC R s=none):goD R acc (s::ss)=(none,acc.length):=by rw [goD,h]
theorem jE {R:ByteArray→List Cl} {acc:List It} {s:ByteArray} {ss:List ByteArray} {i:It} (h:aC R s=some i) (hn: ¬(bn 0 (acc++[i])≠none∧acc.length≠30)):goD R acc (s::ss)=(none,acc.length):=by
 rw [goD,h];simp only [if_neg hn]
theorem uw {R:ByteArray→List Cl} {acc:List It} {s:ByteArray} {ss:List ByteArray} {i:It} (h:aC R s=some i) (hn:bn 0 (acc++[i])≠none∧acc.length≠30):goD R acc (s::ss)=goD R (acc++[i]) ss:=by
 rw [goD,h];simp only [if_pos hn]
theorem ux {acc:List It} {op:Int} (h:bn 0 acc=some op) (i:It):bn 0 (acc++[i])=if 0≤op+stI i.1∧op+stI i.1≤4 then some (op+stI i.1) else none:=by
 rw [jm,h]
 show bn op [i]=_
 show (if 0≤ef op i∧ef op i≤4 then bn (ef op i) [] else none)=_
 rw [af7];rfl
theorem gJ {R:ByteArray→List Cl} {ss:List ByteArray} {n:Nat} (h:goD R [] ss=(none,n)):dr R ss=([],(n:Int)):=by
 unfold dr;rw [h]
theorem uy {R:ByteArray→List Cl} {ss:List ByteArray} {acc:List It} {n:Nat} {op:Int} (h:goD R [] ss=(some acc,n)) (hl:acc.length≤30) (hv:acc.all aM=true) (ho:bn 0 acc=some op):dr R ss=if op=0 then (acc,-1) else ([],(ss.length:Int)):=by
 unfold dr;rw [h];simp only
 by_cases h0:op=0
 ·rw [if_pos ((bf acc).mpr ⟨hl,hv,by rw [ho,h0]⟩),if_pos h0]
 ·rw [if_neg (fun k=>h0 (by have:=((bf acc).mp k).2.2;rw [ho] at this;injection this)),if_neg h0]
theorem cF (s:ByteArray) (w:World) (hs:s.size≤2097152) (htab:Tab w):
  Calls Tryz.prog 23 #[.string s] w (qO (aG rdI s) w):=by
 have hm:s.size≤maxLen:=by unfold maxLen;omega
 by_cases ht:aT s=true
 case neg=>
  have HR:=aim (show aG rdI s=([],0) by unfold aG;rw [if_neg ht])
  have ht':aT s=false:=by simpa using ht
  go_enter Tryz.func23,Tryz.ntmps23
  go_wp2_with fail;refine (cI s _ hm).mono ?_;rintro e w1 ⟨rfl,rfl⟩;rw [ht'];go_wp2;go_ret2;exact ⟨_,[],by rw [HR.out];rfl,by rw [HR.out];exact fT _ _,Below.refl _ _⟩
 have h20:s.size≤20000:=by simp only [aT,Bool.and_eq_true,decide_eq_true_eq] at ht;exact ht.1
 have HRD:=aim (show aG rdI s=dr rdI (bS s) by unfold aG;rw [if_pos ht]);have HSZ:=aim (fun (t:ByteArray) (h:t∈bS s)=>Nat.le_trans (iq s t h) h20);have HT:=aim htab;clear htab;obtain ⟨i0,hi,hz0,hz1,hz2⟩:=info_parts oa
 go_enter Tryz.func23,Tryz.ntmps23
 go_wp2_with fail;refine (cI s _ hm).mono ?_;rintro e w1 ⟨rfl,rfl⟩;rw [ht];go_wp2_with fail;refine (jL s _ hm).mono ?_;rintro e w1 ⟨v1,rfl,ho1,hb1⟩;generalize bS s=ss at HRD HSZ ho1;have HL1:=aim (RowOf.of_own ho1);have HB1:=aim hb1;obtain ⟨va,vc,rfl⟩:=ai ho1;clear ho1 hb1;go_wp2_with fail
 go_loopw [5,6,18] (fun a op i wr=> ∃(k:Nat) (o:Int) (us:List Value) (acc:List It),k≤ss.length∧i= .int .i64 (k:Int)∧op= .int .i64 o∧(0≤o∧o≤4)∧k≤30∧Hid (acc.length=k)∧OwnI wr w1.heap.size a us acc∧Hid (bn 0 acc=some o)∧Hid (acc.all aM=true)∧Hid (goD rdI [] ss=goD rdI acc (ss.drop k))∧Below w1.heap.size w1 wr) (fun _ _ i _=>ss.length-(intOf i).toNat)
 case atStart=>exact ⟨0,0,[],[],air _,rfl,rfl,by omega,by omega,aim rfl,fT _ _,aim rfl,aim rfl,aim (by rw [List.drop_zero]),Below.refl _ _⟩
 case round=>
  obtain ⟨k,o,us,acc,hk,rfl,rfl,ho,hk30,HAL,hown,HNE,HAV,HGD,hbr⟩:=hrel;have HO:=aim hown;have HBR:=aim hbr;obtain ⟨aa,ac,rfl⟩:=ai hown.row;clear hown hbr
  by_cases hlt:k<ss.length
  case neg=>
   have hltI: ¬(k:Int)<(ss.length:Int):=by omega
   have HFN:=aim (show aG rdI s=if o=0 then (acc,-1) else ([],(ss.length:Int)) from by
    rw [HRD.out];refine uy (n:=acc.length) ?_ (by have:=HAL.out;omega) HAV.out HNE.out
    rw [HGD.out,List.drop_of_length_le (by omega)];rfl)
   have HBF:=aim (HB1.out.trans (HBR.out.mono HB1.out.size))
   by_cases h0:o=0
   ·subst h0
    have HFN2:=aim (show aG rdI s=(acc,-1) by rw [HFN.out,if_pos rfl]);go_wp2;go_ret2;exact ⟨_,us,by rw [HFN2.out];rfl,by rw [HFN2.out];exact HO.out.lower HB1.out.size,HBF.out⟩
   ·have hpos:(0:Int)<o:=by omega
    have HFN2:=aim (show aG rdI s=([],(ss.length:Int)) by rw [HFN.out,if_neg h0]);go_wp2;go_ret2;exact ⟨_,[],by rw [HFN2.out];rfl,by rw [HFN2.out];exact fT _ _,HBF.out⟩
  have hltI:(k:Int)<(ss.length:Int):=by omega
  obtain ⟨bo,bcap,hsl,g1,g2,g3⟩:=HL1.out;rw [eN] at hsl g1;simp only [Value.slice.injEq] at hsl;obtain ⟨rfl,-,rfl⟩:=hsl;unfold maxLen at g2;obtain ⟨b,off,rfl,hbl,hcc⟩:=g3.resolve_left (fun e=>by have:=congrArg List.length e;rw [eN,List.length_nil] at this;omega);have d0:wr.cell? ⟨b,off+k,none⟩=some (.string ss[k]):=(HBR.out.cell (p:=⟨b,_,none⟩) hbl).trans (hcc k _ (by simp [gH,hlt]));have hsz:=HSZ.out ss[k] (List.getElem_mem hlt);have HRI:=aim (fp ss[k] wr (by omega) (HT.out.keep (HB1.out.trans (HBR.out.mono HB1.out.size))));rw [iB (B:=20000) (fun l hl=>kO hl) hsz] at HRI;have HDR:=aim (List.drop_eq_getElem_cons hlt);generalize ss[k]=line at d0 HRI HDR;clear hcc g3 hsz
  have hal30:acc.length≤30:=by have:=HAL.out;omega
  have HB0:=aim (HB1.out.trans (HBR.out.mono HB1.out.size))
  cases hri:aC rdI line with
  |none=>
   have HFN:=aim (show aG rdI s=([],(k:Int)) from by rw [HRD.out];exact gJ (by rw [HGD.out,HDR.out,lV hri,HAL.out]));have HRN:=aim (show Calls Tryz.prog 15 #[.string line] wr (fun e w'=> ∃v,e= .returned (.tuple #[.agg #[.int .i64 0, .string ⟨#[]⟩,v, .string ⟨#[]⟩], .bool false])∧w'.ownsRow wr.heap.size 120 3 v 0 []∧Below wr.heap.size wr w') from by have:=HRI.out;rw [hri] at this;exact this);clear hri HRI HDR HGD HNE HAV;go_wp2_with fail;refine HRN.out.mono ?_;rintro e w2 ⟨v2,rfl,ho2,hb2⟩;obtain ⟨a2,c2,rfl⟩:=ai ho2;have HB2:=aim (HB0.out.trans (hb2.mono HB0.out.size));have HB2A:=aim (HB2.out.alloc HB2.out.size (.cells #[.int .i64 0, .string ⟨#[]⟩, .slice a2 0 c2, .string ⟨#[]⟩] 25));clear ho2 hb2 HRN;go_wp2_with fail;refine (ma _ _ _ _ _ _ _).mono ?_;rintro e w3 ⟨rfl,hb3⟩;have HB3:=aim (HB2A.out.trans (hb3.mono HB2A.out.size))
   have e0:stI 0=0:=by decide
   rw [e0];clear hb3;go_wp2;go_ret2;exact ⟨_,[],by rw [HFN.out];rfl,by rw [HFN.out];exact fT _ _,HB3.out⟩
  |some i=>
   have HRN:=aim (show Calls Tryz.prog 15 #[.string line] wr (fun e w'=> ∃v,e= .returned (.tuple #[.agg #[.int .i64 i.1, .string i.2.1,v, .string i.2.2.2], .bool true])∧w'.ownsRow wr.heap.size 120 3 v i.2.2.1.length (ap i.2.2.1)∧Below wr.heap.size wr w') from by have:=HRI.out;rw [hri] at this;exact this);have HIV:=aim (rX hri);have HN1:=aim (ux HNE.out i);have HRI2:=aim hri;clear hri HRI;obtain ⟨ki,n,x,t⟩:=i;go_wp2_with fail;refine HRN.out.mono ?_;rintro e w2 ⟨v2,rfl,ho2,hb2⟩
   (try simp only at ho2)
   obtain ⟨a2,c2,rfl⟩:=ai ho2;have HB2:=aim hb2;have HO2:=aim ho2;have HI2:=aim (It4.new w2 (.int .i64 ki) (.string n) (.slice a2 x.length c2) (.string t) 25);have HB2A:=aim (HB2.out.alloc HB2.out.size (.cells #[.int .i64 ki, .string n, .slice a2 x.length c2, .string t] 25));have HO2A:=aim (HO2.out.alloc (.cells #[.int .i64 ki, .string n, .slice a2 x.length c2, .string t] 25));clear ho2 hb2 HRN;go_wp2_with fail;refine (ma _ _ _ _ _ _ _).mono ?_;rintro e w3 ⟨rfl,hb3⟩;have HB3:=aim (HB2A.out.trans (hb3.mono HB2A.out.size));have HI3:=aim (HI2.out.keep hb3);have HO3:=aim (bJ HO2A.out hb3)
   have hst: -1≤stI ki∧stI ki≤1:=by unfold stI;split;omega;split<;>omega
   have HN2:=aim (show bn 0 (acc++[(ki,n,x,t)])=if 0≤o+stI ki∧o+stI ki≤4 then some (o+stI ki) else none from HN1.out);generalize stI ki=st at hst HN2⊢;have HBF:=aim (HB0.out.trans (HB3.out.mono HB0.out.size));have hwo:IntKind.i64.wrap (o+st)=o+st:=IntWalk.i64_in _ (by omega);have HW:=aim hwo;clear hb3 HB2A HI2 HO2A HB2 HO2 HN1 hwo
   by_cases hg:0≤o+st∧o+st≤4∧k≠30
   case neg=>
    have HFN:=aim (show aG rdI s=([],(k:Int)) from by
     rw [HRD.out];refine gJ ?_;rw [HGD.out,HDR.out,jE HRI2.out (fun hq=>hg ?_),HAL.out];have h1:=hq.1;rw [HN2.out] at h1
     by_cases hc:0≤o+st∧o+st≤4
     ·exact ⟨hc.1,hc.2,by have:=HAL.out;have:=hq.2;omega⟩
     ·rw [if_neg hc] at h1;exact absurd rfl h1)
    have h3:(o+st<0)∨(0≤o+st∧4<o+st)∨(0≤o+st∧o+st≤4∧(k:Int)=30):=by omega
    clear hg HDR HGD HNE HAV
    rcases h3 with q1|⟨q0,q1⟩|⟨q0,q1,q2⟩
    ·go_wp2
     go_ret2;exact ⟨_,[],by rw [HFN.out];rfl,by rw [HFN.out];exact fT _ _,HBF.out⟩
    ·go_wp2
     go_ret2;exact ⟨_,[],by rw [HFN.out];rfl,by rw [HFN.out];exact fT _ _,HBF.out⟩
    ·have q3:((k:Int)==30)=true:=beq_iff_eq.mpr q2
     clear q2;go_wp2;go_ret2;exact ⟨_,[],by rw [HFN.out];rfl,by rw [HFN.out];exact fT _ _,HBF.out⟩
   obtain ⟨q0,q1,q2⟩:=hg;have q3:((k:Int)==30)=false:=beq_eq_false_iff_ne.mpr (by omega)
   have hk29:k<30:=by omega
   have HGN:=aim (show goD rdI [] ss=goD rdI (acc++[(ki,n,x,t)]) (ss.drop (k+1)) from by
    rw [HGD.out,HDR.out,uw HRI2.out ⟨by rw [HN2.out,if_pos ⟨q0,q1⟩];simp,by have:=HAL.out;omega⟩])
   have HNN:=aim (show bn 0 (acc++[(ki,n,x,t)])=some (o+st) from by rw [HN2.out,if_pos ⟨q0,q1⟩]);have HAN:=aim (show (acc++[(ki,n,x,t)]).all aM=true from by rw [List.all_append,HAV.out];simp [HIV.out]);have HLN:=aim (show (acc++[(ki,n,x,t)]).length=k+1 from by rw [aio,HAL.out];rfl);obtain ⟨⟨z0,z1,z2,z3⟩,-,hz⟩:=HI3.out
   have hne: ¬w2.heap.size=w3.heap.size:=by omega
   have HRW:=aim (show w3.ownsRow w1.heap.size 25 4 (.slice aa acc.length ac) acc.length (itF acc us) from bJ HO.out.row HB3.out);have hs3:w1.heap.size≤w3.heap.size:=Nat.le_trans HBR.out.size HB3.out.size;clear q2 HDR HGD HNE HAV HN2 HRI2 HIV HAL
   go_wp2_with (at_builtin;refine wpList_append_lies _ rfl _ _ 36 rfl w1.heap.size 25 i0 (.agg #[.int .i64 0, .string ByteArray.empty, .slice none 0 0, .string ByteArray.empty]) 4 64 Tryz.underlying36 hi hz0 hz1 hz2 rfl (by decide) (.slice aa acc.length ac) acc.length (itF acc us) rfl (by exact (HRW.out.alloc _)) ⟨w3.heap.size,0,none⟩ 1 1 [.int .i64 ki, .string n, .slice a2 x.length c2, .string t] rfl rfl (World.news_of_block (heap_alloc_new w3 _)) (by simp [Value.oneCell']) (by omega) (by unfold maxLen;omega) (by omega) (by simp;omega) (w3.heap.size+1) (by simp) ?_;intro gg cap' w4 hown4 hgrow4 hat4 hlt4)
   have hpp:=HO.out.push (i:=(ki,n,x,t)) HBR.out.size HB3.out HO3.out _ hgrow4 hown4 hat4;have HP4:=aim hpp.1;have HB4:=aim (HBR.out.trans (hpp.2.mono (ain _)));clear hpp hown4 hgrow4 hat4 hlt4;go_wp2;go_roundw
   case rel=>exact ⟨k+1,o+st,us++[.slice a2 x.length c2],acc++[(ki,n,x,t)],by omega,by go_num,by first|rfl|rw [HW.out],⟨q0,q1⟩,by omega,HLN,HP4.out,HNN,HAN,HGN,HB4.out⟩
   case measure=>simp [intOf];omega
theorem ii {w:World} {B m n:Nat} {e:TypeId} {v:Value} {xs:List Value} (h:w.ownsRow B e m v n xs): ∃a c,v= .slice a n c:=by
 rcases h.2 with ⟨rfl,rfl⟩|⟨g,cap,cur,rfl,_⟩
 ·exact ⟨_,_,rfl⟩
 ·exact ⟨_,_,rfl⟩
theorem wD (n:Nat):aI (spL n)=true:=by
 unfold aI spL;rw [List.all_eq_true];intro b hb;rw [List.eq_of_mem_replicate hb];decide
theorem sv {l:List UInt8} (h: ∀b∈l,kj b=true):aI l=true:=by
 unfold aI;rw [List.all_eq_true];intro b hb;have:=h b hb;simp only [kj,dH,cA,cP,Bool.or_eq_true,Bool.and_eq_true,decide_eq_true_eq,beq_iff_eq] at this;simp only [cC,Bool.and_eq_true,decide_eq_true_eq]
 omega
theorem kZ {s:ByteArray} (h:eO s=true):aI s.data.toList=true:=by
 unfold eO at h;simp only [Bool.and_eq_true,Bool.not_eq_true'] at h;obtain ⟨h1,-,h2,-⟩:=h;unfold aI;rw [List.all_eq_true];intro b hb;simp only [aT,Bool.and_eq_true] at h1;have h3:=h1.2;unfold okL at h3;rw [List.all_eq_true] at h3;have h4:=h3 b hb;unfold okI at h4;rw [Bool.or_eq_true] at h4
 rcases h4 with h4|h4
 ·exfalso
  unfold eH at h2;rw [List.any_eq_false] at h2;exact h2 b hb h4
 ·exact h4
theorem wE {l:List Cl} (h:okE l=true):aI (bC l)=true:=by
 obtain ⟨x,hg,ht,-,-⟩:=agx h;rw [←ht];exact hg.plain
theorem jW {i:It} (h:aM i=true) (D W:Nat):aI (bv i D W)=true:=by
 obtain ⟨k,n,l,t⟩:=i
 have hnote: ∀t:ByteArray,(emB t=true∨eO t=true)→aI t.data.toList=true:=by
  rintro t (ht|ht)
  ·rw [fX.mp ht];rfl
  ·exact kZ ht
 have c1:aI [125]=true:=by decide
 have c2:aI [32,123]=true:=by decide
 have c3:aI [32,61,32]=true:=by decide
 have c4:aI [32,35,32]=true:=by decide
 have c5:cC ((35:UInt8).toNat:Int)=true:=by decide
 have c6:cC ((32:UInt8).toNat:Int)=true:=by decide
 have c7:aI []=true:=rfl;unfold aM at h;simp only at h;unfold bv dF;simp only
 by_cases h1:k=1
 ·rw [if_pos h1];rfl
 rw [if_neg h1,db,wD,Bool.true_and]
 by_cases h5:k=5
 ·rw [if_pos h5];exact c1
 rw [if_neg (by omega)] at h;rw [if_neg h5]
 by_cases h4:k=4
 ·rw [if_pos h4]
  subst h4;simp only [show¬(4:Int)=2 by decide,show¬(4:Int)=3 by decide,if_false,if_true,Bool.and_eq_true] at h;rw [db,c2,sv (jK h.1).2];rfl
 rw [if_neg h4]
 by_cases h2:k=2
 ·rw [if_pos h2]
  rw [if_pos h2] at h;simp only [Bool.and_eq_true] at h;rw [dh,c5,Bool.true_and]
  split
  ·rfl
  ·rw [dh,c6,Bool.true_and];exact kZ h.2.2
 rw [if_neg h2] at h⊢
 by_cases h3:k=3
 ·rw [if_pos h3] at h⊢
  simp only [Bool.and_eq_true] at h;simp only [db];rw [sv (jK h.1).2,wD,c3,wE h.2.1];simp only [Bool.true_and]
  split
  ·rfl
  ·rw [db,c4,kZ h.2.2];rfl
 ·rw [if_neg h3];rfl
theorem zJ {u:Value} {l:List Cl} (hok:okE l=true) (w:World) (hr:RowC w u l):
  Calls Tryz.prog 89 #[u, .int .i64 0] w fun e w'=>e= .returned (.string ⟨(bC l).toArray⟩)∧Below w.heap.size w w':=by
 obtain ⟨x,hx⟩:=qC hok;have hoi:=(dL l).mp hok;rw [jw hok hx];exact adg hoi.1 (agq hoi.2.1) l.length 0 l.length x w hx (by omega) hr
theorem aib {s:ByteArray} (h:emB s=false):(s.toList==[])=false∧(s.toList !=[])=true:=by
 have: ¬s.toList=[]:=by
  intro k;rw [ByteArray.toList_eq] at k
  have h2:s.size=0:=by rw [←ByteArray.size_data,←Array.length_toList,k];rfl
  rw [emB,h2] at h;cases h
 exact ⟨beq_eq_false_iff_ne.mpr this,bne_iff_ne.mpr this⟩
theorem ahD {s:ByteArray} (h:emB s=true):(s.toList !=[])=false:=by rw [bne,(kq h).1];rfl
theorem sg (i : It) (u : Value) (deep W : Nat) (w : World) (hv : aM i = true) (hr : RowC w u i.2.2.1) (hn : i.2.1.size ≤ 1048576) (ht : i.2.2.2.size ≤ 1048576) (hd : deep ≤ 4) (hW : W ≤ 1000) :
    Calls Tryz.prog 45 #[.agg #[.int .i64 i.1, .string i.2.1, u, .string i.2.2.2], .int .i64 (deep : Int), .int .i64 (W : Int)] w fun e w' => e = .returned (.string (baL (bv i deep W))) ∧ Below w.heap.size w w' := by
  obtain ⟨k, n, l, t⟩ := i;simp only at hr hn ht ⊢;have HV := aim hv; clear hv;have HR := aim hr;obtain ⟨ao, cap, rfl, hc1, h2, h3⟩ := hr;clear h3;unfold maxLen at h2
  have hto : (2 * (deep : Int)).toNat = 2 * deep := by omega
  have HB1 := aim ((Below.refl w.heap.size w).alloc (ain _) (.cells #[.int .i64 k, .string n, .slice ao l.length cap, .string t] 25));have hss := gY (2 * deep)
  obtain ⟨S, HS, hS⟩ : ∃ S : ByteArray, Hid (baL (spL (2 * deep)) = S) ∧ S.size = 2 * deep := ⟨_, aim rfl, hss⟩
  clear hss
  by_cases h1 : k = 1
  · subst h1
    have HL := aim (show baL (bv (1, n, l, t) deep W) = ⟨#[]⟩ from eI (by simp [bv, baL]))
    go_enter Tryz.func45, Tryz.ntmps45
    go_wp2_with fail;refine (dV _ _ (by omega)).mono ?_;rintro e w1 ⟨rfl, hw1⟩;subst hw1;rw [hto, HS.out];go_wp2;go_ret;exact ⟨by rw [HL.out]; rfl, HB1.out⟩
  by_cases h5 : k = 5
  · subst h5
    have HL := aim (show baL (bv (5, n, l, t) deep W) = S ++ ⟨#[125]⟩ from by rw [← HS.out]; exact eI (by simp [bv, dF, baL]))
    have r0 : ¬ 9223372036854775807 < S.size + 1 := by omega
    go_enter Tryz.func45, Tryz.ntmps45
    go_wp2_with fail;refine (dV _ _ (by omega)).mono ?_;rintro e w1 ⟨rfl, hw1⟩;subst hw1;rw [hto, HS.out];go_wp2;go_ret;exact ⟨by rw [HL.out]; rfl, HB1.out⟩
  by_cases h4 : k = 4
  · subst h4
    have HL := aim (show baL (bv (4, n, l, t) deep W) = S ++ n ++ ⟨#[32, 123]⟩ from by rw [← HS.out]; exact eI (by simp [bv, dF, baL]))
    have r0 : ¬ 9223372036854775807 < S.size + n.size := by omega
    have r1 : ¬ 9223372036854775807 < S.size + n.size + 2 := by omega
    go_enter Tryz.func45, Tryz.ntmps45
    go_wp2_with fail;refine (dV _ _ (by omega)).mono ?_;rintro e w1 ⟨rfl, hw1⟩;subst hw1;rw [hto, HS.out];go_wp2;go_ret;exact ⟨by rw [HL.out]; rfl, HB1.out⟩
  cases hem : emB t with
  | true =>
    have e1 := (kq hem).1;have e2 := ahD hem;have HEM := aim hem; clear hem
    by_cases hk2 : k = 2
    · subst hk2
      have HL := aim (show baL (bv (2, n, l, t) deep W) = S ++ ⟨#[35]⟩ from by rw [← HS.out]; exact eI (by simp [bv, dF, baL, HEM.out]))
      have r0 : ¬ 9223372036854775807 < S.size + 1 := by omega
      go_enter Tryz.func45, Tryz.ntmps45
      go_wp2_with fail;refine (dV _ _ (by omega)).mono ?_;rintro e w1 ⟨rfl, hw1⟩;subst hw1;rw [hto, HS.out];go_wp2;go_ret;exact ⟨by rw [HL.out]; rfl, HB1.out⟩
    · skip
      have hk3 : k = 3 := by
        have := HV.out;unfold aM at this;simp only at this;rw [if_neg (by omega), if_neg hk2] at this
        by_cases h : k = 3
        · exact h
        · rw [if_neg h, if_neg h4] at this; cases this
      subst hk3
      have hoe : okE l = true := by
        have := HV.out;simp only [aM] at this
        simp at this
        exact this.2.1
      obtain ⟨P, HP, hP⟩ : ∃ P : ByteArray, Hid (baL (spL (W - n.size)) = P) ∧ P.size = W - n.size := ⟨_, aim rfl, gY _⟩
      obtain ⟨X, HX, hX⟩ : ∃ X : ByteArray, Hid ((⟨(bC l).toArray⟩ : ByteArray) = X) ∧ X.size ≤ 12000 := ⟨_, aim rfl, gv l⟩
      have HSP := aim (show ∀ w', Calls Tryz.prog 88 #[.int .i64 (IntKind.i64.wrap ((W : Int) - (n.size : Int)))] w' (fun e w2 => e = .returned (.string P) ∧ w' = w2) from fun w' => by
        rw [show IntKind.i64.wrap ((W : Int) - (n.size : Int)) = (W : Int) - (n.size : Int) from IntWalk.i64_in _ (by omega), ← HP.out, show W - n.size = ((W : Int) - (n.size : Int)).toNat by omega]
        exact dV _ w' (by omega))
      have hp2 : P.size ≤ 1000 := by omega
      have HL := aim (show baL (bv (3, n, l, t) deep W) = S ++ n ++ P ++ ⟨#[32, 61, 32]⟩ ++ X from by rw [← HS.out, ← HP.out, ← HX.out]; exact eI (by simp [bv, dF, baL, HEM.out]));have HTX := aim (fun w' hr' => zJ (u := .slice ao l.length cap) hoe w' hr');have HRB := aim (HR.out.mono HB1.out);have HRD := aim (show RowC (w.alloc (.cells #[.int .i64 3, .string n, .slice ao l.length cap, .string t] 25)).drew (.slice ao l.length cap) l from HRB.out.drewN 1)
      have r0 : ¬ 9223372036854775807 < S.size + n.size := by omega
      have r1 : ¬ 9223372036854775807 < S.size + n.size + P.size := by omega
      have r2 : ¬ 9223372036854775807 < S.size + n.size + P.size + 3 := by omega
      have r3 : ¬ 9223372036854775807 < S.size + n.size + P.size + 3 + X.size := by omega
      have hlt : w.heap.size < (w.alloc (.cells #[.int .i64 3, .string n, .slice ao l.length cap, .string t] 25)).drew.heap.size := by simp
      clear h4 hk2 h5 h1
      go_enter Tryz.func45, Tryz.ntmps45
      go_wp2_with fail;refine (dV _ _ (by omega)).mono ?_;rintro e w1 ⟨rfl, hw1⟩;subst hw1;rw [hto, HS.out];clear hS hP hp2 hX hto h2 hc1 ht;go_wp2_with fail
      go_region_held3 (fun w' => w'.cell? ⟨w.heap.size, 1, none⟩ = some (.string n) ∧ w'.cell? ⟨w.heap.size, 2, none⟩ = some (.slice ao l.length cap) ∧ w'.cell? ⟨w.heap.size, 3, none⟩ = some (.string t))
        (first
          | go_keep
          | (go_split_ands
             refine ⟨?_, ?_, ?_⟩
             · (rw [hb3.cell (by exact hlt)]; assumption)
             · (rw [hb3.cell (by exact hlt)]; assumption)
             · (rw [hb3.cell (by exact hlt)]; assumption)))
        (first
          | ((go_at_call 88; (with_reducible refine (HSP.out _).mono ?_); rintro e w2 ⟨rfl, hw2⟩; subst hw2))
          | ((go_at_call 89; (with_reducible refine (HTX.out _ HRD.out).mono ?_); rintro e w3 ⟨rfl, hb3⟩; rw [HX.out])))
      all_goals
        have HB3 := aim (HB1.out.drew.trans (hb3.mono HB1.out.size)); clear hb3;go_wp2;go_ret;exact ⟨by rw [HL.out]; rfl, HB3.out⟩
  | false =>
    obtain ⟨e1, e2⟩ := aib hem;have HEM := aim hem; clear hem
    by_cases hk2 : k = 2
    · subst hk2
      have HL := aim (show baL (bv (2, n, l, t) deep W) = S ++ ⟨#[35]⟩ ++ ⟨#[32]⟩ ++ t from by rw [← HS.out]; exact eI (by simp [bv, dF, baL, HEM.out]))
      have r0 : ¬ 9223372036854775807 < S.size + 1 := by omega
      have r1 : ¬ 9223372036854775807 < S.size + 1 + 1 := by omega
      have r2 : ¬ 9223372036854775807 < S.size + 1 + 1 + t.size := by omega
      go_enter Tryz.func45, Tryz.ntmps45
      go_wp2_with fail;refine (dV _ _ (by omega)).mono ?_;rintro e w1 ⟨rfl, hw1⟩;subst hw1;rw [hto, HS.out];go_wp2;go_ret;exact ⟨by rw [HL.out]; rfl, HB1.out⟩
    · skip
      have hk3 : k = 3 := by
        have := HV.out;unfold aM at this;simp only at this;rw [if_neg (by omega), if_neg hk2] at this
        by_cases h : k = 3
        · exact h
        · rw [if_neg h, if_neg h4] at this; cases this
      subst hk3
      have hoe : okE l = true := by
        have := HV.out;simp only [aM] at this
        simp at this
        exact this.2.1
      obtain ⟨P, HP, hP⟩ : ∃ P : ByteArray, Hid (baL (spL (W - n.size)) = P) ∧ P.size = W - n.size := ⟨_, aim rfl, gY _⟩
      obtain ⟨X, HX, hX⟩ : ∃ X : ByteArray, Hid ((⟨(bC l).toArray⟩ : ByteArray) = X) ∧ X.size ≤ 12000 := ⟨_, aim rfl, gv l⟩
      have HSP := aim (show ∀ w', Calls Tryz.prog 88 #[.int .i64 (IntKind.i64.wrap ((W : Int) - (n.size : Int)))] w' (fun e w2 => e = .returned (.string P) ∧ w' = w2) from fun w' => by
        rw [show IntKind.i64.wrap ((W : Int) - (n.size : Int)) = (W : Int) - (n.size : Int) from IntWalk.i64_in _ (by omega), ← HP.out, show W - n.size = ((W : Int) - (n.size : Int)).toNat by omega]
        exact dV _ w' (by omega))
      have hp2 : P.size ≤ 1000 := by omega
      have HL := aim (show baL (bv (3, n, l, t) deep W) = S ++ n ++ P ++ ⟨#[32, 61, 32]⟩ ++ X ++ ⟨#[32, 35]⟩ ++ ⟨#[32]⟩ ++ t from by rw [← HS.out, ← HP.out, ← HX.out]; exact eI (by simp [bv, dF, baL, HEM.out]));have HTX := aim (fun w' hr' => zJ (u := .slice ao l.length cap) hoe w' hr');have HRB := aim (HR.out.mono HB1.out);have HRD := aim (show RowC (w.alloc (.cells #[.int .i64 3, .string n, .slice ao l.length cap, .string t] 25)).drew (.slice ao l.length cap) l from HRB.out.drewN 1)
      have r0 : ¬ 9223372036854775807 < S.size + n.size := by omega
      have r1 : ¬ 9223372036854775807 < S.size + n.size + P.size := by omega
      have r2 : ¬ 9223372036854775807 < S.size + n.size + P.size + 3 := by omega
      have r3 : ¬ 9223372036854775807 < S.size + n.size + P.size + 3 + X.size := by omega
      have r4 : ¬ 9223372036854775807 < S.size + n.size + P.size + 3 + X.size + 2 := by omega
      have r5 : ¬ 9223372036854775807 < S.size + n.size + P.size + 3 + X.size + 2 + 1 := by omega
      have r6 : ¬ 9223372036854775807 < S.size + n.size + P.size + 3 + X.size + 2 + 1 + t.size := by omega
      have hlt : w.heap.size < (w.alloc (.cells #[.int .i64 3, .string n, .slice ao l.length cap, .string t] 25)).drew.heap.size := by simp
      clear h4 hk2 h5 h1
      go_enter Tryz.func45, Tryz.ntmps45
      go_wp2_with fail;refine (dV _ _ (by omega)).mono ?_;rintro e w1 ⟨rfl, hw1⟩;subst hw1;rw [hto, HS.out];clear hS hP hp2 hX hto h2 hc1 ht;go_wp2_with fail
      go_region_held3 (fun w' => w'.cell? ⟨w.heap.size, 1, none⟩ = some (.string n) ∧ w'.cell? ⟨w.heap.size, 2, none⟩ = some (.slice ao l.length cap) ∧ w'.cell? ⟨w.heap.size, 3, none⟩ = some (.string t))
        (first
          | go_keep
          | (go_split_ands
             refine ⟨?_, ?_, ?_⟩
             · (rw [hb3.cell (by exact hlt)]; assumption)
             · (rw [hb3.cell (by exact hlt)]; assumption)
             · (rw [hb3.cell (by exact hlt)]; assumption)))
        (first
          | ((go_at_call 88; (with_reducible refine (HSP.out _).mono ?_); rintro e w2 ⟨rfl, hw2⟩; subst hw2))
          | ((go_at_call 89; (with_reducible refine (HTX.out _ HRD.out).mono ?_); rintro e w3 ⟨rfl, hb3⟩; rw [HX.out])))
      all_goals
        have HB3 := aim (HB1.out.drew.trans (hb3.mono HB1.out.size)); clear hb3;go_wp2;go_ret;exact ⟨by rw [HL.out]; rfl, HB3.out⟩
theorem yX {k:Int} {n t:ByteArray} {l:List Cl} {u:Value} {D:Nat} (w:World) (hv:aM (k,n,l,t)=true) (hr:RowC w u l) (hn:n.size≤1048576) (ht:t.size≤1048576) (hd:D≤4):
  Calls Tryz.prog 45 #[.agg #[.int .i64 k, .string n,u, .string t], .int .i64 (D:Int), .int .i64 0] w fun e w'=>e= .returned (.string (baL (bv (k,n,l,t) D 0)))∧Below w.heap.size w w':=
 sg (k,n,l,t) u D 0 w hv hr hn ht hd (by omega)
theorem lO (i:It) (D W:Nat):(bv i D W).length≤2*D+i.2.1.size+W+i.2.2.2.size+12020:=by
 have h1:i.2.1.data.toList.length=i.2.1.size:=by rw [Array.length_toList];rfl
 have h2:i.2.2.2.data.toList.length=i.2.2.2.size:=by rw [Array.length_toList];rfl
 have h3:=gv i.2.2.1
 have h4: ∀n,(spL n).length=n:=fun n=>by simp [spL]
 unfold bv dF
 repeat' split
 all_goals simp only [aio,List.length_cons,List.length_nil,h4,h1,h2]
 all_goals omega
theorem wG {l:List It} (h:dO l=true):b9 l=f9 (bi l)∧aY l=gR (bi l):=by
 have hk:b9 l=f9 (bi l):=by unfold b9;rw [h];rfl
 refine ⟨hk, ?_⟩;unfold aY;rw [hk]
 by_cases hj:f9 (bi l)=true
 ·rw [if_pos hj]
 ·rw [if_neg hj,gR,if_neg hj];rfl
theorem sw {l:List It} (h:dO l=false):b9 l=false∧aY l=⟨#[]⟩:=by
 have hk:b9 l=false:=by unfold b9;rw [h];rfl
 exact ⟨hk,by unfold aY;rw [hk];rfl⟩
theorem d7 (l:List It):(bi l).length=l.length:=gw l 0
theorem mF {l:List It} (h:dO l=true) (k:Nat) (hk:k<l.length): ∃D:Nat,(ew 0 l)[k]? =some (D:Int)∧D≤4∧(bi l).take (k+1)=(bi l).take k++[baL (bv l[k] D 0)]:=by
 have hn:=((bf l).mp h).2.2;have hd:=ad7 hn (by omega) (by omega) k hk;rw [←tc l 0 k hk] at hd;have hl:=cU l 0;refine ⟨((ew 0 l)[k]'(by omega)).toNat, ?_,by omega, ?_⟩
 ·rw [List.getElem?_eq_getElem (by omega),Int.toNat_of_nonneg hd.1]
 ·rw [List.take_succ_eq_append_getElem (by rw [d7];exact hk)]
  congr 1
  exact congrArg (fun x=>[x]) (ia l 0 k hk)
theorem wH {l:List It} (h:dZ l) (hd:dO l=true):agF (bi l):=by
 intro t ht;obtain ⟨k,hk,rfl⟩:=List.getElem_of_mem ht;rw [d7] at hk
 have hk0:k<(mn 0 l).length:=by rw [gw];exact hk
 have e:=ia l 0 k hk;have hn:=((bf l).mp hd).2.2;have hdd:=ad7 hn (by omega) (by omega) k hk;rw [←tc l 0 k hk] at hdd;obtain ⟨z1,z2,z3,z4⟩:=h _ (List.getElem_mem hk)
 show ((mn 0 l)[k]'hk0).size≤maxLen
 rw [e,aN];have:=lO l[k] ((ew 0 l)[k]'(by rw [cU];exact hk)).toNat 0;unfold maxLen
 omega
theorem fA (v : Value) (l : List It) (w : World) (hr : RowIt w v l) (hz : dZ l) (hl : l.length ≤ 1048576) :
    Calls Tryz.prog 22 #[v] w fun e w' => e = .returned (.tuple #[.string (aY l), .bool (b9 l)]) ∧ Below w.heap.size w w' := by
  have HC := aim (ft v l w hr hz hl);have HR := aim hr;obtain ⟨ao, cap, rfl, h1, h2, h3⟩ := hr;unfold maxLen at h2;have H3 := aim h3; have HZ := aim hz;clear h3 hz;obtain ⟨i0, hi, hz0, hz1, hz2⟩ := info_parts oT
  cases hok : dO l with
  | false =>
    obtain ⟨hk, ht⟩ := sw hok;rw [hk, ht];clear hk ht
    go_enter Tryz.func22, Tryz.ntmps22
    go_wp2_with fail;refine HC.out.mono ?_;rintro e w1 ⟨rfl, hb1⟩;have HB1 := aim hb1; clear hb1;rw [hok];clear hok;go_wp2;go_ret2;exact ⟨rfl, HB1.out⟩
  | true =>
    have h30 := ((bf l).mp hok).1;have HAL := aim ((bf l).mp hok).2.1;have HN := aim ((bf l).mp hok).2.2;have HPT := aim (wG hok);have HPL := aim (mF hok);have HPS := aim (wH HZ.out hok);have HLL := aim (d7 l);rw [HPT.out.1, HPT.out.2]
    go_enter Tryz.func22, Tryz.ntmps22
    go_wp2_with fail;refine HC.out.mono ?_;rintro e w1 ⟨rfl, hb1⟩;have HB1 := aim hb1; clear hb1;rw [hok];clear hok;go_wp2_with fail;refine (ku _ l _ (HR.out.mono HB1.out) hl).mono ?_;rintro e w2 ⟨vd, d, L, rfl, hoL, hb2, hnn⟩
    have hLd : L = ew 0 l := by
      rcases hnn with ⟨-, h⟩ | ⟨h, -⟩
      · exact h
      · rw [HN.out] at h; cases h
    have HDC := aim (RowOf.of_own hoL);obtain ⟨da, dc, rfl⟩ := ii hoL
    have hLl : L.length = l.length := by rw [hLd, cU]
    have HLD := aim hLd;have HB2 := aim (HB1.out.trans (hb2.mono HB1.out.size));clear hoL hb2 hnn hLd;have HLI := aim (World.ownsRow_lit (base := w2.heap.size) (size := 1) (e := 9) w2 #[] 0 (ain _) (by unfold maxLen; omega) rfl);have HBL := aim ((Below.refl w2.heap.size w2).alloc (ain _) (.cells #[] 9));go_wp2_with fail
    go_loopw [6, 7] (fun a i wr => ∃ k : Nat, k ≤ l.length ∧ i = .int .i64 (k : Int) ∧ wr.ownsRow w2.heap.size 9 1 a k (gH ((bi l).take k)) ∧ Below w2.heap.size w2 wr) (fun _ i _ => l.length - (intOf i).toNat)
    case atStart => exact ⟨0, air _, rfl, HLI.out, HBL.out⟩
    case round =>
      obtain ⟨k, hk, rfl, hown, hbr⟩ := hrel;have HOW := aim hown; have HBR := aim hbr;have HBW := aim (HB2.out.trans (hbr.mono HB2.out.size));obtain ⟨aa, ac, rfl⟩ := ii hown;clear hown hbr
      by_cases hlt : k < l.length
      · have hltI : (k : Int) < (l.length : Int) := by omega
        obtain ⟨b, o, rfl, hbl, cc⟩ := H3.out.resolve_left (by rintro rfl; simp at hlt);obtain ⟨u, hu⟩ := cc k hlt;obtain ⟨d0, d1, d2, d3, hru⟩ := hu.mono hbl HBW.out;obtain ⟨z1, z2, z3, z4⟩ := HZ.out _ (List.getElem_mem hlt);obtain ⟨D, hD, hD4, hTK⟩ := HPL.out k hlt
        have hvi : aM l[k] = true := by have := HAL.out; rw [List.all_eq_true] at this; exact this _ (List.getElem_mem hlt)
        have hDc : ∃ bd od, da = some ⟨bd, od, none⟩ ∧ bd < w2.heap.size ∧ wr.cell? ⟨bd, od + k, none⟩ = some (.int .i64 (D : Int)) := by
          obtain ⟨bo, bcap, hsl, g1, g2, g3⟩ := HDC.out;rw [jF] at hsl g1;simp only [Value.slice.injEq] at hsl;obtain ⟨rfl, -, rfl⟩ := hsl;obtain ⟨bd, od, rfl, hbd, hcd⟩ := g3.resolve_left (fun e => by have := congrArg List.length e; rw [jF, List.length_nil] at this; omega);refine ⟨bd, od, rfl, hbd, (HBR.out.cell (p := ⟨bd, _, none⟩) hbd).trans (hcd k _ ?_)⟩;rw [← HLD.out] at hD
          simp [oz, hD]
        obtain ⟨bd, od, rfl, hbdl, dd⟩ := hDc
        have hdc : L.length ≤ dc := by
          obtain ⟨bo, bcap, hsl, g1, g2, g3⟩ := HDC.out;rw [jF] at hsl g1;simp only [Value.slice.injEq] at hsl;obtain ⟨-, -, rfl⟩ := hsl;exact g1
        generalize l[k] = it at d0 d1 d2 d3 hru hTK hvi z1 z4;obtain ⟨ik, inm, ics, int⟩ := it;simp only at d0 d1 d2 d3 hru z1 z4
        obtain ⟨au, cu, rfl⟩ : ∃ au cu, u = .slice au ics.length cu := by obtain ⟨au, cu, h, -⟩ := hru; exact ⟨au, cu, h⟩
        have HTK := aim hTK;have HLN := aim (fun ww hh => yX (u := .slice au ics.length cu) (D := D) ww hvi hh z1 z4 hD4);have HRD := aim (show RowC wr.drew (.slice au ics.length cu) ics from hru.drewN 1);have HOD := aim (show wr.drew.ownsRow w2.heap.size 9 1 (.slice aa k ac) k (gH ((bi l).take k)) from HOW.out.drew);have hs2 := HBR.out.size;clear cc hu hru hTK hvi z1 z2 z3 z4 hD;generalize baL (bv (ik, inm, ics, int) D 0) = LN at HTK HLN
        have hbk0 : (0 : Int) ≤ (k : Int) := by omega
        have hbkL : (k : Int) < (L.length : Int) := by omega
        have HCE := aim (show ∀ W', Below w2.heap.size w2 W' → W'.cell? ⟨b, o + k * 4, none⟩ = some (.int .i64 ik) ∧ W'.cell? ⟨b, o + k * 4 + 1, none⟩ = some (.string inm) ∧ W'.cell? ⟨b, o + k * 4 + 2, none⟩ = some (.slice au ics.length cu) ∧ W'.cell? ⟨b, o + k * 4 + 3, none⟩ = some (.string int) ∧ W'.cell? ⟨bd, od + k, none⟩ = some (.int .i64 (D : Int)) from fun W' hb' =>
          have hbl' : b < w2.heap.size := Nat.lt_of_lt_of_le hbl HB2.out.size
          have cc : ∀ (bb j : Nat), bb < w2.heap.size → W'.cell? ⟨bb, j, none⟩ = wr.cell? ⟨bb, j, none⟩ := fun bb j h => (hb'.cell (p := ⟨bb, j, none⟩) h).trans (HBR.out.cell (p := ⟨bb, j, none⟩) h).symm
          ⟨(cc b _ hbl').trans d0, (cc b _ hbl').trans d1, (cc b _ hbl').trans d2, (cc b _ hbl').trans d3, (cc bd _ hbdl).trans dd⟩)
        go_wp2_with fail
        go_region_held3 (fun W' => W'.cell? ⟨b, o + k * 4, none⟩ = some (.int .i64 ik) ∧ W'.cell? ⟨b, o + k * 4 + 1, none⟩ = some (.string inm) ∧ W'.cell? ⟨b, o + k * 4 + 2, none⟩ = some (.slice au ics.length cu) ∧ W'.cell? ⟨b, o + k * 4 + 3, none⟩ = some (.string int) ∧ W'.cell? ⟨bd, od + k, none⟩ = some (.int .i64 (D : Int)))
          (first | exact HCE.out _ HB4.out | exact HCE.out _ HB3.out | exact HCE.out _ HBR.out.drew | exact HCE.out _ HBR.out | go_keep)
          (first
            | ((go_at_call 45; (with_reducible refine (HLN.out _ HRD.out).mono ?_); rintro e w3 ⟨rfl, hb3⟩; have hs3 := hb3.size; have HB3 := aim (HBR.out.drew.trans (hb3.mono HBR.out.size))))
            | (refine step_append_lies _ (by rfl) _ _ _ (by rfl) w2.heap.size 9 i0 _ 1 16 Tryz.underlying43 hi hz0 hz1 hz2 rfl (by omega) (.slice aa k ac) k _ (by rfl) (by exact ((bJ HOD.out hb3).alloc _))
                ⟨w3.heap.size, 0, none⟩ 1 1 [.string LN] (by rfl) (by rfl) (World.news_of_block (cs := #[.string LN]) (t := 9) (fr := (0, 0)) (heap_alloc_new w3 _)) (by simp [Value.oneCell'])
                (by omega) (by unfold maxLen; omega) (by omega) (by simp; exact Nat.le_succ_of_le (Nat.le_trans HBR.out.size hs3)) (w3.heap.size + 1) (by simp) ?_; intro gg cap' w4 hown4 hgrow4 hat4 hlt4; have HB4 := aim ((HB3.out.alloc (Nat.le_trans HBR.out.size hs3) (.cells #[.string LN] 9)).grown hgrow4 (by simp; exact Nat.le_succ_of_le (Nat.le_trans HBR.out.size hs3)) (fun q hq => (HOW.out.lt q hq).1))))
        all_goals
          have HO4 := aim hown4;clear hown4 hgrow4 hat4 hlt4 hb3;go_wp2;go_roundw
          case rel => exact ⟨k + 1, by omega, by go_num, by rw [HTK.out, fB]; exact HO4.out, HB4.out⟩
          case measure => simp [intOf]; omega
      · obtain rfl : k = l.length := by omega
        have hltI : ¬ (l.length : Int) < (l.length : Int) := by omega
        have HFU := aim (show RowOf wr (.slice aa l.length ac) (gH (bi l)) from by
          have := RowOf.of_own HOW.out;rw [List.take_of_length_le (Nat.le_of_eq HLL.out)] at this
          exact this)
        go_wp2_with fail;refine (pU _ (bi l) wr HFU.out HPS.out).mono ?_;rintro e w5 ⟨hj, hw5⟩;subst hw5;unfold rR at hj;subst hj;go_wp2;go_ret2;exact ⟨rfl, HBW.out⟩
theorem pa {i:It} (h:dT i):i.2.1.size≤1048576∧dQ i.2.2.1∧i.2.2.1.length≤1048576∧i.2.2.2.size≤1048576:=
 ⟨by have:=h.1;omega,fun c hc=>by have:=h.2.1 c hc;omega,by have:=h.2.2.1;omega,by have:=h.2.2.2;omega⟩
def AnyR (R p:Nat) (w:World) (e:Ending) (w':World):Prop:=
 ∃(v:Value) (l:List It),e= .returned v∧RowIt w' v l∧(∀i∈l,dT i)∧l.length≤100∧Rdm w' R (p+400000)∧w.grownBy w' (some R)
def mG:Prop:= ∀(R p:Nat) (n:Int) (w:World),p+500000<30000000→0≤n→n≤1000→Rdm w R p→
 Calls Tryz.prog 62 #[.pointer (some ⟨R,0,none⟩), .int .i64 n] w (AnyR R p w)
theorem ox {l:List It} (h: ∀i∈l,dT i):dZ l:=fun i hi=>pa (h i hi)
theorem jx (l:List It):(aY l).size≤20000:=by
 by_cases hk:b9 l=true
 ·have h:=((mr _ ((gm l).mp hk).2)).1
  rw [aY,if_pos hk];simp only [aT,Bool.and_eq_true,decide_eq_true_eq] at h;exact h.1
 ·rw [aY,if_neg hk];exact air _
def agz (R p K:Nat) (w:World) (e:Ending) (w':World):Prop:=
 ∃(v:Value) (l:List It),e= .returned v∧RowIt w' v l∧(∀i∈l,dT i)∧l.length≤100∧Rdm w' R (p+K)∧w.grownBy w' (some R)
def zi:Prop:= ∀(R p:Nat) (w:World),p+499000<30000000→Rdm w R p→
 Calls Tryz.prog 114 #[.pointer (some ⟨R,0,none⟩)] w (agz R p 399000 w)
def agA:Prop:= ∀(R p:Nat) (n:Int) (w:World),p+499000<30000000→0≤n→n≤1000→Rdm w R p→
 Calls Tryz.prog 115 #[.pointer (some ⟨R,0,none⟩), .int .i64 n] w (agz R p 399000 w)
theorem ag4 (hs:zi) (hd:agA):mG:=by
 intro R p n w hp hn0 hn1 h;have HS:=aim hs;have HD:=aim hd;clear hs hd
 go_enter Tryz.func62,Tryz.ntmps62
 go_wp2_with fail;refine (ah R p 2 _ (by omega) h).mono ?_;rintro e w1 ⟨j,rfl,hj0,hj1,-,hr1,hg1,hs1⟩;have HG1:=aim hg1;clear hg1 hs1 h
 by_cases j0:j=0
 ·subst j0
  go_wp2_with fail;refine (HS.out R (p+1) w1 (by omega) hr1).mono ?_;rintro e w2 ⟨v,l,rfl,hrow,hf,hl,hr2,hg2⟩;have HG2:=aim (ab HG1.out hg2);have HW:=aim hrow;clear hg2 hrow;go_wp2;go_ret;exact ⟨v,l,rfl,HW.out,hf,hl,hr2.mono (by omega),HG2.out⟩
 ·have t0:(j==0)=false:=beq_eq_false_iff_ne.mpr j0
  go_wp2_with fail;refine (HD.out R (p+1) n w1 (by omega) hn0 hn1 hr1).mono ?_;rintro e w2 ⟨v,l,rfl,hrow,hf,hl,hr2,hg2⟩;have HG2:=aim (ab HG1.out hg2);have HW:=aim hrow;clear hg2 hrow;go_wp2;go_ret;exact ⟨v,l,rfl,HW.out,hf,hl,hr2.mono (by omega),HG2.out⟩
end Go.Proofs.YthijkjnngfnfdaaGreatDoor
