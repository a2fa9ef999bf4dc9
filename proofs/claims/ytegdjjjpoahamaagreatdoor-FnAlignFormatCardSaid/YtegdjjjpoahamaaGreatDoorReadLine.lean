/-
  What a line stands for (readIt), the line of an item (lineI): lines of items are read as the items; spaces around a line do not matter.
-/
import Derived.Test.YtegdjjjpoahamaaGreatDoorLinePlain
set_option linter.unusedVariables false
namespace Go.Proofs.YtegdjjjpoahamaaGreatDoor
def zeroI:It:=(0,⟨#[]⟩,[],⟨#[]⟩)
noncomputable def rawI (R:ByteArray→List Cl) (l:List UInt8):It:=
 if l=[] then (1,⟨#[]⟩,[],⟨#[]⟩)
 else if l=[125] then (5,⟨#[]⟩,[],⟨#[]⟩)
 else if l.head? =some 35 then (2,⟨#[]⟩,[],baL (trimL (l.drop 1)))
 else if trimL (nmQ l)=[123] then (4,baL (nmP l),[],⟨#[]⟩)
 else if (trimL (nmQ l)).head? =some 61 then (3,baL (nmP l),R (baL (codeL ((trimL (nmQ l)).drop 1))),baL (behL ((trimL (nmQ l)).drop 1)))
 else (0,baL (nmP l),[],⟨#[]⟩)
noncomputable def readIt (R:ByteArray→List Cl) (s:ByteArray):Option It:=
 if itemB (rawI R (trimL s.data.toList))=true then some (rawI R (trimL s.data.toList)) else none
theorem readIt_ok {R:ByteArray→List Cl} {s:ByteArray} {i:It} (h:readIt R s=some i):itemB i=true:=by
 unfold readIt at h
 split at h
 ·rename_i k;injection h with h;rw [←h];exact k
 ·cases h
theorem readIt_pad {R:ByteArray→List Cl} {s t:ByteArray} {a b:Nat} (h:t.data.toList=spL a++(s.data.toList++spL b)):readIt R t=readIt R s:=by
 unfold readIt
 rw [h,trim_pad]
noncomputable def coreI (i:It) (w:Nat):List UInt8:=
 if i.1=5 then [125]
 else if i.1=4 then i.2.1.data.toList++[32,123]
 else if i.1=2 then 35::(if emB i.2.2.2=true then [] else 32::i.2.2.2.data.toList)
 else if i.1=3 then i.2.1.data.toList++(spL (w-i.2.1.size)++([32,61,32]++(textE i.2.2.1++(if emB i.2.2.2=true then [] else [32,35,32]++i.2.2.2.data.toList))))
 else []
noncomputable def lineI (i:It) (deep w:Nat):List UInt8:=if i.1=1 then [] else spL (2*deep)++coreI i w
theorem emB_iff {s:ByteArray}:emB s=true↔s=⟨#[]⟩:=by
 unfold emB
 rw [beq_iff_eq]
 constructor
 ·intro h;exact ByteArray.ext (Array.size_eq_zero_iff.mp h)
 ·rintro rfl;rfl
theorem note_tight {s:ByteArray} (h:noteB s=true) (hne:emB s≠true):Tight s.data.toList:=by
 unfold noteB at h
 simp only [Bool.and_eq_true,bne_iff_ne,ne_eq] at h
 refine ⟨?_,h.2.2.2.1,h.2.2.2.2⟩
 intro k
 apply hne
 rw [emB_iff]
 exact ByteArray.ext (by simpa using k)
theorem nm_simple: ∀(l:List UInt8) (n:Nat),nameR n l=true→hasL l 46=false→ ∀b∈l,isNm b=true:=by
 intro l
 induction l with
 |nil=>intro n _ _ b hb;cases hb
 |cons x l ih=>
  intro n h hp b hb
  simp only [hasL,List.any_cons,Bool.or_eq_false_iff,beq_eq_false_iff_ne] at hp
  rw [nameR] at h
  rw [if_neg (by simp [hp.1])] at h
  split at h
  ·cases h
  rename_i hbad
  split at h
  ·cases h
  rcases List.mem_cons.mp hb with rfl|hb
  ·unfold badN at hbad
   unfold isNm parI
   simp only [Bool.and_eq_true,Bool.not_eq_true',Bool.or_eq_true,beq_iff_eq,bne_iff_ne,ne_eq,not_and,not_or] at hbad⊢
   by_cases h1:ltrI (b.toNat:Int)=true
   ·exact .inl (.inl h1)
   ·have:=hbad (by simpa using h1)
    by_cases h2:digI (b.toNat:Int)=true
    ·exact .inl (.inr h2)
    ·right
     have:=this.2 (by simpa using h2)
     simpa using this
  ·exact ih _ h (by simpa [hasL] using hp.2) b hb
theorem simp_parts {s:ByteArray} (h:simpB s=true):(∃b t,s.data.toList=b::t∧ltrI (b.toNat:Int)=true)∧(∀b∈s.data.toList,isNm b=true):=by
 unfold simpB at h
 rw [Bool.and_eq_true,Bool.not_eq_true'] at h
 obtain ⟨b,t,e,hb,-⟩:=name_word h.1
 have h1:=h.1
 unfold nameL at h1
 rw [Bool.and_eq_true] at h1
 exact ⟨⟨b,t,e,hb⟩,nm_simple _ 0 h1.1 h.2⟩
theorem ltr_bytes {b:UInt8} (h:ltrI (b.toNat:Int)=true):b≠32∧b≠35∧b≠125:=by
 refine ⟨?_, ?_, ?_⟩<;>rintro rfl<;>exact absurd h (by decide)
theorem last_app {a b:List UInt8} (hb:b≠[]):(a++b).getLast? =b.getLast? :=by
 rw [List.getLast?_append]
 cases h:b.getLast? with
 |none=>exact absurd (List.getLast?_eq_none_iff.mp h) hb
 |some z=>rfl
theorem codeL_none {l m:List UInt8} (a:Nat) (e:l=spL a++m) (hr:rn 0 m=some 0) (ht:Tight m):codeL l=m∧behL l=[]:=by
 have hn:hs 0 l=none:=by
  refine hs_none _ 0 0 ?_
  rw [e,rn_app,rn_plain (spL a) (fun b hb=>by unfold spL at hb;rw [List.eq_of_mem_replicate hb];decide)]
  exact hr
 unfold codeL behL
 rw [hn]
 refine ⟨?_,rfl⟩
 show trimL l=m
 have:=trim_core (m:=m) a 0 ht.2.1 ht.2.2
 rw [e]
 simpa [spL] using this
theorem codeL_some {l m q:List UInt8} (a b c:Nat) (e:l=(spL a++(m++spL b))++35::(spL c++q)) (hr:rn 0 m=some 0) (ht:Tight m) (hq:Tight q):codeL l=m∧behL l=q:=by
 have sp: ∀n,rn 0 (spL n)=some 0:=fun n=>rn_plain (spL n) (fun b hb=>by unfold spL at hb;rw [List.eq_of_mem_replicate hb];decide)
 have hn:hs 0 l=some (spL a++(m++spL b)).length:=by
  rw [e]
  refine hs_some _ _ 0 ?_
  rw [rn_app,sp a]
  show rn 0 (m++spL b)=_
  rw [rn_app,hr]
  exact sp b
 unfold codeL behL
 rw [hn]
 constructor
 ·show trimL (l.take _)=m
  rw [e,List.take_left]
  exact trim_core a b ht.2.1 ht.2.2
 ·show trimL (l.drop _)=q
  rw [e,←List.drop_drop,List.drop_left]
  have:=trim_core (m:=q) c 0 hq.2.1 hq.2.2
  simpa [spL] using this
theorem core_raw {R:ByteArray→List Cl} (hR: ∀l,okE l=true→R (baL (textE l))=l) {i:It} (h:itemB i=true) (h1:i.1≠1) (w:Nat):rawI R (coreI i w)=i∧(coreI i w).head? ≠some 32∧(coreI i w).getLast? ≠some 32:=by
 obtain ⟨k,nm,ex,no⟩:=i
 unfold itemB at h
 simp only at h h1
 by_cases h5:k=5
 ·subst h5
  rw [if_pos (.inr rfl),Bool.and_eq_true,Bool.and_eq_true,emB_iff,emB_iff,List.isEmpty_iff] at h
  obtain ⟨rfl,rfl,rfl⟩:=h
  refine ⟨?_,by simp [coreI],by simp [coreI]⟩
  simp [coreI,rawI]
 rw [if_neg (by omega)] at h
 by_cases h2:k=2
 ·subst h2
  rw [if_pos rfl,Bool.and_eq_true,Bool.and_eq_true,emB_iff,List.isEmpty_iff] at h
  obtain ⟨rfl,rfl,hn⟩:=h
  by_cases he:emB no=true
  ·have e:coreI (2,⟨#[]⟩,[],no) w=[35]:=by simp [coreI,he]
   rw [e]
   refine ⟨?_,by decide,by decide⟩
   rw [emB_iff] at he;subst he
   simp [rawI,trimL,trL,baL]
  ·have e:coreI (2,⟨#[]⟩,[],no) w=35::32::no.data.toList:=by simp [coreI,he]
   have ht:=note_tight hn he
   rw [e]
   refine ⟨?_,by simp, ?_⟩
   ·have htr:trimL (32::no.data.toList)=no.data.toList:=by
     have:=trim_core (m:=no.data.toList) 1 0 ht.2.1 ht.2.2
     simpa [spL] using this
    unfold rawI
    rw [if_neg (by simp),if_neg (by simp),if_pos List.head?_cons]
    show ((2:Int),_,_,baL (trimL (32::no.data.toList)))=_
    rw [htr,baL_back]
   ·rw [show (35:UInt8)::32::no.data.toList=[35,32]++no.data.toList from rfl,last_app ht.1];exact ht.2.2
 rw [if_neg h2] at h
 by_cases h3:k=3
 ·subst h3
  rw [if_pos rfl,Bool.and_eq_true,Bool.and_eq_true] at h
  obtain ⟨hs1,hE,hn⟩:=h
  obtain ⟨⟨b,t,eb,hb⟩,hall⟩:=simp_parts hs1
  obtain ⟨hb32,hb35,hb125⟩:=ltr_bytes hb
  obtain ⟨hcr,hct⟩:=textE_calm hE
  have hRe:=hR ex hE
  have main: ∀tail:List UInt8,(∀x,(textE ex++tail).getLast? =some x→x≠32)→
    nmP (nm.data.toList++(spL (w-nm.size)++([32,61,32]++(textE ex++tail))))=nm.data.toList∧
    trimL (nmQ (nm.data.toList++(spL (w-nm.size)++([32,61,32]++(textE ex++tail)))))=61::32::(textE ex++tail):=by
   intro tail hlast
   have hsp:spL (w-nm.size)++([32,61,32]++(textE ex++tail))=spL (w-nm.size+1)++(61::32::(textE ex++tail)):=by
    simp only [spL,List.replicate_succ',List.append_assoc];rfl
   rw [hsp]
   obtain ⟨p1,p2⟩:=nm_split nm.data.toList (spL (w-nm.size+1)++(61::32::(textE ex++tail))) hall (by
    intro x hx
    rw [spL,List.replicate_succ,List.cons_append,List.head?_cons] at hx
    injection hx with hx;subst hx;decide)
   rw [p1,p2]
   refine ⟨rfl, ?_⟩
   have hne:textE ex++tail≠[]:=by simp [hct.1]
   have:=trim_core (m:=61::32::(textE ex++tail)) (w-nm.size+1) 0 (by simp) (by
    rw [show (61:UInt8)::32::(textE ex++tail)=[61,32]++(textE ex++tail) from rfl,last_app hne]
    intro k;exact hlast 32 k rfl)
   simpa [spL] using this
  have raw: ∀tail:List UInt8,(∀x,(textE ex++tail).getLast? =some x→x≠32)→
    rawI R (nm.data.toList++(spL (w-nm.size)++([32,61,32]++(textE ex++tail))))=(3,nm,R (baL (codeL (32::(textE ex++tail)))),baL (behL (32::(textE ex++tail))))∧
    (nm.data.toList++(spL (w-nm.size)++([32,61,32]++(textE ex++tail)))).head? ≠some 32∧
    (nm.data.toList++(spL (w-nm.size)++([32,61,32]++(textE ex++tail)))).getLast? ≠some 32:=by
   intro tail hlast
   obtain ⟨p1,p2⟩:=main tail hlast
   have hhead:(nm.data.toList++(spL (w-nm.size)++([32,61,32]++(textE ex++tail)))).head? =some b:=by rw [eb];rfl
   refine ⟨?_, ?_, ?_⟩
   ·unfold rawI
    rw [if_neg (by rw [eb];simp),if_neg (by
     intro k
     have:(nm.data.toList++(spL (w-nm.size)++([32,61,32]++(textE ex++tail)))).head? =some 125:=by rw [k];rfl
     rw [hhead] at this;injection this with this;exact hb125 this),if_neg (by rw [hhead];intro k;injection k with k;exact hb35 k),p1,p2,if_neg (by simp),if_pos List.head?_cons,baL_back]
    rfl
   ·rw [hhead];intro k;injection k with k;exact hb32 k
   ·have hne:textE ex++tail≠[]:=by simp [hct.1]
    rw [←List.append_assoc,←List.append_assoc,last_app hne]
    intro k;exact hlast 32 k rfl
  by_cases he:emB no=true
  ·have e:coreI (3,nm,ex,no) w=nm.data.toList++(spL (w-nm.size)++([32,61,32]++(textE ex++[]))):=by simp [coreI,he]
   obtain ⟨r1,r2,r3⟩:=raw [] (by rw [List.append_nil];intro x hx k;subst k;exact hct.2.2 hx)
   obtain ⟨c1,c2⟩:=codeL_none (l:=32::(textE ex++[])) (m:=textE ex) 1 (by simp [spL]) hcr hct
   rw [e]
   refine ⟨?_,r2,r3⟩
   rw [r1,c1,c2,hRe]
   rw [emB_iff] at he;rw [he];rfl
  ·have ht:=note_tight hn he
   have e:coreI (3,nm,ex,no) w=nm.data.toList++(spL (w-nm.size)++([32,61,32]++(textE ex++([32,35,32]++no.data.toList)))):=by simp [coreI,he]
   obtain ⟨r1,r2,r3⟩:=raw ([32,35,32]++no.data.toList) (by
    intro x hx k;subst k
    rw [←List.append_assoc,last_app ht.1] at hx;exact ht.2.2 hx)
   obtain ⟨c1,c2⟩:=codeL_some (l:=32::(textE ex++([32,35,32]++no.data.toList))) (m:=textE ex) (q:=no.data.toList) 1 1 1 (by simp [spL]) hcr hct ht
   rw [e]
   refine ⟨?_,r2,r3⟩
   rw [r1,c1,c2,hRe,baL_back]
 rw [if_neg h3] at h
 by_cases h4:k=4
 ·subst h4
  rw [if_pos rfl,Bool.and_eq_true,Bool.and_eq_true,emB_iff,List.isEmpty_iff] at h
  obtain ⟨hs1,rfl,rfl⟩:=h
  obtain ⟨⟨b,t,eb,hb⟩,hall⟩:=simp_parts hs1
  obtain ⟨hb32,hb35,hb125⟩:=ltr_bytes hb
  have e:coreI (4,nm,[],⟨#[]⟩) w=nm.data.toList++[32,123]:=by simp [coreI]
  obtain ⟨p1,p2⟩:=nm_split nm.data.toList [32,123] hall (by intro x hx;injection hx with hx;subst hx;decide)
  have hhead:(nm.data.toList++[32,123]).head? =some b:=by rw [eb];rfl
  rw [e]
  refine ⟨?_, ?_, ?_⟩
  ·unfold rawI
   rw [if_neg (by rw [eb];simp),if_neg (by
     intro k
     have:(nm.data.toList++[32,123]).head? =some 125:=by rw [k];rfl
     rw [hhead] at this;injection this with this;exact hb125 this),if_neg (by rw [hhead];intro k;injection k with k;exact hb35 k),p1,p2,if_pos (by decide),baL_back]
  ·rw [hhead];intro k;injection k with k;exact hb32 k
  ·rw [last_app (by simp)];decide
 ·rw [if_neg h4] at h;cases h
theorem line_reads {R:ByteArray→List Cl} (hR: ∀l,okE l=true→R (baL (textE l))=l) {i:It} (h:itemB i=true) (deep w:Nat) {s:ByteArray} (hs:s.data.toList=lineI i deep w):readIt R s=some i:=by
 have key:rawI R (trimL s.data.toList)=i:=by
  rw [hs]
  unfold lineI
  by_cases h1:i.1=1
  ·rw [if_pos h1]
   obtain ⟨k,nm,ex,no⟩:=i
   simp only at h1
   subst h1
   unfold itemB at h
   rw [if_pos (.inl rfl),Bool.and_eq_true,Bool.and_eq_true,emB_iff,emB_iff,List.isEmpty_iff] at h
   obtain ⟨h2,h3,h4⟩:=h
   simp only at h2 h3 h4
   subst h2;subst h3;subst h4
   rfl
  ·rw [if_neg h1]
   obtain ⟨c1,c2,c3⟩:=core_raw hR h h1 w
   have:=trim_core (m:=coreI i w) (2*deep) 0 c2 c3
   rw [show spL 0=[] from rfl,List.append_nil] at this
   rw [this,c1]
 unfold readIt
 rw [key,if_pos h]
end Go.Proofs.YtegdjjjpoahamaaGreatDoor
