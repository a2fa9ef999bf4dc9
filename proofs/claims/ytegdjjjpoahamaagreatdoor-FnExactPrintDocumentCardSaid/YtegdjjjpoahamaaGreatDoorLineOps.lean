/-
  Lines, plainly, without items: spaces at the ends (trimL), where a note begins (hs), what stands before it and behind it (codeL, behL), names at the beginning (nmP, nmQ).
-/
import Derived.Test.YtegdjjjpoahamaaGreatDoorBaseC
set_option linter.unusedVariables false
namespace Go.Proofs.YtegdjjjpoahamaaGreatDoor
def trL (l:List UInt8):List UInt8:=l.dropWhile fun b=>b==32
def trimL (l:List UInt8):List UInt8:=(trL (trL l).reverse).reverse
def spL (n:Nat):List UInt8:=List.replicate n 32
theorem trL_sp (n:Nat) (l:List UInt8):trL (spL n++l)=trL l:=by
 induction n with
 |zero=>rfl
 |succ n ih=>rw [spL,List.replicate_succ,List.cons_append,trL,List.dropWhile_cons,if_pos (by decide)];exact ih
theorem trL_not {l:List UInt8} (h:l.head? ≠some 32):trL l=l:=by
 cases l with
 |nil=>rfl
 |cons a l=>
  rw [trL,List.dropWhile_cons,if_neg]
  intro k;apply h;rw [beq_iff_eq] at k;rw [List.head?_cons,k]
theorem trL_only (n:Nat):trL (spL n)=[]:=by
 have:=trL_sp n []
 rwa [List.append_nil] at this
theorem trim_core {m:List UInt8} (a b:Nat) (h0:m.head? ≠some 32) (h1:m.getLast? ≠some 32):trimL (spL a++(m++spL b))=m:=by
 unfold trimL
 rw [trL_sp]
 by_cases hm:m=[]
 ·subst hm;rw [List.nil_append,trL_only];rfl
 ·have e:trL (m++spL b)=m++spL b:=by
   refine trL_not ?_
   cases m with
   |nil=>exact absurd rfl hm
   |cons x m=>exact h0
  rw [e,List.reverse_append,show (spL b).reverse=spL b by unfold spL;rw [List.reverse_replicate],trL_sp,trL_not,List.reverse_reverse]
  rw [List.head?_reverse];exact h1
theorem trim_self {m:List UInt8} (h0:m.head? ≠some 32) (h1:m.getLast? ≠some 32):trimL m=m:=by
 have:=trim_core (m:=m) 0 0 h0 h1
 simpa [spL] using this
theorem trim_parts (l:List UInt8): ∃a b,l=spL a++(trimL l++spL b)∧(trimL l).head? ≠some 32∧(trimL l).getLast? ≠some 32:=by
 have hl: ∀l:List UInt8,∃a,l=spL a++trL l∧(trL l).head? ≠some 32:=by
  intro l
  induction l with
  |nil=>exact ⟨0,rfl,by simp [trL]⟩
  |cons x l ih=>
   by_cases hx:x=32
   ·subst hx
    obtain ⟨a,e,h⟩:=ih
    have e1:trL (32::l)=trL l:=by rw [trL,List.dropWhile_cons,if_pos (by decide)];rfl
    rw [e1]
    exact ⟨a+1,by show 32::l=32::(spL a++trL l);rw [←e],h⟩
   ·have e1:trL (x::l)=x::l:=trL_not (by simp [hx])
    rw [e1];exact ⟨0,rfl,by simp [hx]⟩
 obtain ⟨a,e1,h1⟩:=hl l
 obtain ⟨b,e2,h2⟩:=hl (trL l).reverse
 refine ⟨a,b, ?_, ?_, ?_⟩
 ·have:trL l=(trL (trL l).reverse).reverse++spL b:=by
   have h:=congrArg List.reverse e2
   rw [List.reverse_reverse,List.reverse_append,show (spL b).reverse=spL b by unfold spL;rw [List.reverse_replicate]] at h
   exact h
  unfold trimL
  rw [←this];exact e1
 ·unfold trimL
  rw [List.head?_reverse]
  intro k
  have h3:(trL l).getLast? ≠none:=by
   intro e;rw [List.getLast?_eq_none_iff] at e;rw [e] at k;simp [trL] at k
  have h4:(trL l).reverse.reverse.head? =some 32:=by
   rw [e2,List.reverse_append]
   cases hq:(trL (trL l).reverse) with
   |nil=>rw [hq] at k;cases k
   |cons y ys=>
    rw [hq] at k
    have:(y::ys).reverse≠[]:=by simp
    obtain ⟨z,zs,hz⟩:=List.exists_cons_of_ne_nil this
    have hh:(y::ys).reverse.head? =some 32:=by rw [List.head?_reverse];exact k
    rw [hz] at hh⊢
    simpa using hh
  rw [List.reverse_reverse] at h4
  exact h1 h4
 ·unfold trimL
  rw [List.getLast?_reverse];exact h2
theorem trim_pad (a b:Nat) (l:List UInt8):trimL (spL a++(l++spL b))=trimL l:=by
 obtain ⟨x,y,e,h0,h1⟩:=trim_parts l
 have:spL a++(l++spL b)=spL (a+x)++(trimL l++spL (y+b)):=by
  conv=>lhs;rw [e]
  simp only [spL,List.append_assoc]
  rw [←List.append_assoc (List.replicate a 32),List.replicate_append_replicate,List.replicate_append_replicate]
 rw [this,trim_core _ _ h0 h1]
def nx (s:Nat) (b:UInt8):Nat:=if s=2 then 1 else if s=1 then (if b=92 then 2 else if b=34 then 0 else 1) else if b=34 then 1 else 0
def hs:Nat→List UInt8→Option Nat
 |_,[]=>none
 |s,b::l=>if s=0∧b=35 then some 0 else (hs (nx s b) l).map (· +1)
def rn:Nat→List UInt8→Option Nat
 |s,[]=>some s
 |s,b::l=>if s=0∧b=35 then none else rn (nx s b) l
theorem rn_app: ∀(a b:List UInt8) (s:Nat),rn s (a++b)=(rn s a).bind fun t=>rn t b:=by
 intro a
 induction a with
 |nil=>intro b s;rfl
 |cons x a ih=>
  intro b s
  show (if _ then none else rn (nx s x) (a++b))=Option.bind (if _ then none else rn (nx s x) a) _
  split
  ·rfl
  ·exact ih b _
theorem hs_none: ∀(l:List UInt8) (s t:Nat),rn s l=some t→hs s l=none:=by
 intro l
 induction l with
 |nil=>intro s t _;rfl
 |cons x l ih=>
  intro s t h
  rw [rn] at h
  split at h
  ·cases h
  ·rename_i hn;rw [hs,if_neg hn,ih _ _ h];rfl
theorem hs_some: ∀(l r:List UInt8) (s:Nat),rn s l=some 0→hs s (l++35::r)=some l.length:=by
 intro l
 induction l with
 |nil=>intro r s h;injection h with h;subst h;rfl
 |cons x l ih=>
  intro r s h
  rw [rn] at h
  split at h
  ·cases h
  ·rename_i hn
   show (if _ then _ else (hs (nx s x) (l++35::r)).map (· +1))=_
   rw [if_neg hn,ih r _ h];rfl
theorem rn_plain: ∀(l:List UInt8),(∀b∈l,b≠34∧b≠35)→rn 0 l=some 0:=by
 intro l
 induction l with
 |nil=>intro _;rfl
 |cons x l ih=>
  intro h
  have hx:=h x (List.mem_cons_self ..)
  rw [rn,if_neg (fun k=>hx.2 k.2)]
  have:nx 0 x=0:=by unfold nx;rw [if_neg (by omega),if_neg (by omega),if_neg hx.1]
  rw [this]
  exact ih fun b hb=>h b (List.mem_cons_of_mem _ hb)
def baL (l:List UInt8):ByteArray:=⟨l.toArray⟩
theorem baL_list (l:List UInt8):(baL l).data.toList=l:=rfl
theorem baL_back (s:ByteArray):baL s.data.toList=s:=ByteArray.ext (by simp [baL])
def codeL (l:List UInt8):List UInt8:=match hs 0 l with|some k=>trimL (l.take k)|none=>trimL l
def behL (l:List UInt8):List UInt8:=match hs 0 l with|some k=>trimL (l.drop (k+1))|none=>[]
def isNm (b:UInt8):Bool:=parI (b.toNat:Int)
def nmP (l:List UInt8):List UInt8:=l.takeWhile isNm
def nmQ (l:List UInt8):List UInt8:=l.dropWhile isNm
theorem nm_split (a b:List UInt8) (ha: ∀x∈a,isNm x=true) (hb: ∀x,b.head? =some x→isNm x=false):nmP (a++b)=a∧nmQ (a++b)=b:=by
 unfold nmP nmQ
 induction a with
 |nil=>
  cases b with
  |nil=>exact ⟨rfl,rfl⟩
  |cons x b=>
   have:=hb x rfl
   rw [List.nil_append,List.takeWhile_cons,List.dropWhile_cons,if_neg (by simp [this]),if_neg (by simp [this])]
   exact ⟨rfl,rfl⟩
 |cons x a ih=>
  have hx:=ha x (List.mem_cons_self ..)
  obtain ⟨i1,i2⟩:=ih fun y hy=>ha y (List.mem_cons_of_mem _ hy)
  rw [List.cons_append,List.takeWhile_cons,List.dropWhile_cons,if_pos hx,if_pos hx,i1,i2]
  exact ⟨rfl,rfl⟩
end Go.Proofs.YtegdjjjpoahamaaGreatDoor
