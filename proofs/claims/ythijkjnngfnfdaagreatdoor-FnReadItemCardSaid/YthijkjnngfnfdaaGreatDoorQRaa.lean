/-
  Part of the proof of FnReadItem.
-/
import Derived.Test.YthijkjnngfnfdaaGreatDoorPRowIt
import Derived.Test.YthijkjnngfnfdaaGreatDoorPToCellS
import Derived.WalkKit
import Derived.WalkSpells
import Derived.Lib.Hide
import Derived.IntWalk
import Derived.Deep.QuietTactic
import Derived.BigQuiet
import Derived.Lib.Strings
import Derived.Lib.Builder
import Derived.Lib.UnsafeStr
import Derived.Laws.Externs
import Derived.Lib.TrimByte
import Derived.Below
import Derived.Lib.SmallJoins
set_option linter.unusedVariables false
set_option maxHeartbeats 8000000
set_option maxRecDepth 100000
namespace Go.Proofs.YthijkjnngfnfdaaGreatDoor
def trL (l:List UInt8):List UInt8:=l.dropWhile fun b=>b==32
def aD (l:List UInt8):List UInt8:=(trL (trL l).reverse).reverse
def spL (n:Nat):List UInt8:=List.replicate n 32
theorem o8 (n:Nat) (l:List UInt8):trL (spL n++l)=trL l:=by
 induction n with
 |zero=>rfl
 |succ n ih=>rw [spL,List.replicate_succ,List.cons_append,trL,List.dropWhile_cons,if_pos (by decide)];exact ih
theorem k8 {l:List UInt8} (h:l.head? ≠some 32):trL l=l:=by
 cases l with
 |nil=>rfl
 |cons a l=>
  rw [trL,List.dropWhile_cons,if_neg];intro k;apply h;rw [beq_iff_eq] at k;rw [List.head?_cons,k]
theorem tR (n:Nat):trL (spL n)=[]:=by
 have:=o8 n []
 rwa [List.append_nil] at this
theorem fC {m:List UInt8} (a b:Nat) (h0:m.head? ≠some 32) (h1:m.getLast? ≠some 32):aD (spL a++(m++spL b))=m:=by
 unfold aD;rw [o8]
 by_cases hm:m=[]
 ·subst hm;rw [List.nil_append,tR];rfl
 ·have e:trL (m++spL b)=m++spL b:=by
   refine k8 ?_
   cases m with
   |nil=>exact absurd rfl hm
   |cons x m=>exact h0
  rw [e,List.reverse_append,show (spL b).reverse=spL b by unfold spL;rw [List.reverse_replicate],o8,k8,List.reverse_reverse];rw [List.head?_reverse];exact h1
theorem rj {m:List UInt8} (h0:m.head? ≠some 32) (h1:m.getLast? ≠some 32):aD m=m:=by
 have:=fC (m:=m) 0 0 h0 h1
 simpa [spL] using this
theorem ig (l:List UInt8): ∃a b,l=spL a++(aD l++spL b)∧(aD l).head? ≠some 32∧(aD l).getLast? ≠some 32:=by
 have hl: ∀l:List UInt8,∃a,l=spL a++trL l∧(trL l).head? ≠some 32:=by
  intro l
  induction l with
  |nil=>exact ⟨0,rfl,by simp [trL]⟩
  |cons x l ih=>
   by_cases hx:x=32
   ·subst hx
    obtain ⟨a,e,h⟩:=ih
    have e1:trL (32::l)=trL l:=by rw [trL,List.dropWhile_cons,if_pos (by decide)];rfl
    rw [e1];exact ⟨a+1,by show 32::l=32::(spL a++trL l);rw [←e],h⟩
   ·have e1:trL (x::l)=x::l:=k8 (by simp [hx])
    rw [e1];exact ⟨0,rfl,by simp [hx]⟩
 obtain ⟨a,e1,h1⟩:=hl l;obtain ⟨b,e2,h2⟩:=hl (trL l).reverse;refine ⟨a,b, ?_, ?_, ?_⟩
 ·have:trL l=(trL (trL l).reverse).reverse++spL b:=by
   have h:=congrArg List.reverse e2;rw [List.reverse_reverse,List.reverse_append,show (spL b).reverse=spL b by unfold spL;rw [List.reverse_replicate]] at h;exact h
  unfold aD;rw [←this];exact e1
 ·unfold aD
  rw [List.head?_reverse];intro k
  have h3:(trL l).getLast? ≠none:=by
   intro e;rw [List.getLast?_eq_none_iff] at e;rw [e] at k;simp [trL] at k
  have h4:(trL l).reverse.reverse.head? =some 32:=by
   rw [e2,List.reverse_append]
   cases hq:(trL (trL l).reverse) with
   |nil=>rw [hq] at k;cases k
   |cons y ys=>
    rw [hq] at k
    have:(y::ys).reverse≠[]:=by simp
    obtain ⟨z,zs,hz⟩:=List.exists_cons_of_ne_nil this
    have hh:(y::ys).reverse.head? =some 32:=by rw [List.head?_reverse];exact k
    rw [hz] at hh⊢
    simpa using hh
  rw [List.reverse_reverse] at h4;exact h1 h4
 ·unfold aD
  rw [List.getLast?_reverse];exact h2
theorem o9 (a b:Nat) (l:List UInt8):aD (spL a++(l++spL b))=aD l:=by
 obtain ⟨x,y,e,h0,h1⟩:=ig l
 have:spL a++(l++spL b)=spL (a+x)++(aD l++spL (y+b)):=by
  conv=>lhs;rw [e]
  simp only [spL,List.append_assoc];rw [←List.append_assoc (List.replicate a 32),List.replicate_append_replicate,List.replicate_append_replicate]
 rw [this,fC _ _ h0 h1]
def nx (s:Nat) (b:UInt8):Nat:=if s=2 then 1 else if s=1 then (if b=92 then 2 else if b=34 then 0 else 1) else if b=34 then 1 else 0
def hs:Nat→List UInt8→Option Nat
 |_,[]=>none
 |s,b::l=>if s=0∧b=35 then some 0 else (hs (nx s b) l).map (· +1)
def rn:Nat→List UInt8→Option Nat
 |s,[]=>some s
 |s,b::l=>if s=0∧b=35 then none else rn (nx s b) l
theorem gk: ∀(a b:List UInt8) (s:Nat),rn s (a++b)=(rn s a).bind fun t=>rn t b:=by
 intro a
 induction a with
 |nil=>intro b s;rfl
 |cons x a ih=>
  intro b s
  show (if _ then none else rn (nx s x) (a++b))=Option.bind (if _ then none else rn (nx s x) a) _
  split
  ·rfl
  ·exact ih b _
theorem aff: ∀(l:List UInt8) (s t:Nat),rn s l=some t→hs s l=none:=by
 intro l
 induction l with
 |nil=>intro s t _;rfl
 |cons x l ih=>
  intro s t h;rw [rn] at h
  split at h
  ·cases h
  ·rename_i hn;rw [hs,if_neg hn,ih _ _ h];rfl
theorem afg: ∀(l r:List UInt8) (s:Nat),rn s l=some 0→hs s (l++35::r)=some l.length:=by
 intro l
 induction l with
 |nil=>intro r s h;injection h with h;subst h;rfl
 |cons x l ih=>
  intro r s h;rw [rn] at h
  split at h
  ·cases h
  ·rename_i hn
   show (if _ then _ else (hs (nx s x) (l++35::r)).map (· +1))=_
   rw [if_neg hn,ih r _ h];rfl
theorem kh: ∀(l:List UInt8),(∀b∈l,b≠34∧b≠35)→rn 0 l=some 0:=by
 intro l
 induction l with
 |nil=>intro _;rfl
 |cons x l ih=>
  intro h;have hx:=h x (List.mem_cons_self ..);rw [rn,if_neg (fun k=>hx.2 k.2)]
  have:nx 0 x=0:=by unfold nx;rw [if_neg (by omega),if_neg (by omega),if_neg hx.1]
  rw [this]
  exact ih fun b hb=>h b (List.mem_cons_of_mem _ hb)
def baL (l:List UInt8):ByteArray:=⟨l.toArray⟩
theorem bK (l:List UInt8):(baL l).data.toList=l:=rfl
theorem i5 (s:ByteArray):baL s.data.toList=s:=ByteArray.ext (by simp [baL])
def dS (l:List UInt8):List UInt8:=match hs 0 l with|some k=>aD (l.take k)|none=>aD l
def es (l:List UInt8):List UInt8:=match hs 0 l with|some k=>aD (l.drop (k+1))|none=>[]
def kj (b:UInt8):Bool:=dH (b.toNat:Int)
def nmP (l:List UInt8):List UInt8:=l.takeWhile kj
def nmQ (l:List UInt8):List UInt8:=l.dropWhile kj
theorem tS (a b:List UInt8) (ha: ∀x∈a,kj x=true) (hb: ∀x,b.head? =some x→kj x=false):nmP (a++b)=a∧nmQ (a++b)=b:=by
 unfold nmP nmQ
 induction a with
 |nil=>
  cases b with
  |nil=>exact ⟨rfl,rfl⟩
  |cons x b=>
   have:=hb x rfl;rw [List.nil_append,List.takeWhile_cons,List.dropWhile_cons,if_neg (by simp [this]),if_neg (by simp [this])];exact ⟨rfl,rfl⟩
 |cons x a ih=>
  have hx:=ha x (List.mem_cons_self ..)
  obtain ⟨i1,i2⟩:=ih fun y hy=>ha y (List.mem_cons_of_mem _ hy)
  rw [List.cons_append,List.takeWhile_cons,List.dropWhile_cons,if_pos hx,if_pos hx,i1,i2];exact ⟨rfl,rfl⟩
open Go.RowKit
theorem afK (k:Nat):baL (spL k)++⟨#[32]⟩=baL (spL (k+1)):=by
 apply ByteArray.ext
 rw [ByteArray.data_append]
 show (spL k).toArray++ #[32]=(spL (k+1)).toArray
 rw [show spL (k+1)=spL k++[32] by unfold spL;exact List.replicate_succ']
 simp
theorem gY (k:Nat):(baL (spL k)).size=k:=by simp [baL,ByteArray.size,spL]
theorem dV (n:Int) (w:World) (hn:n≤1000):
  Calls Tryz.prog 88 #[.int .i64 n] w fun e w'=>e= .returned (.string (baL (spL n.toNat)))∧w=w':=by
 go_enter Tryz.func88,Tryz.ntmps88
 go_wp2_with fail
 go_loopw [3,4] (fun x i wr=> ∃k:Nat,k≤n.toNat∧i= .int .i64 (k:Int)∧x= .string (baL (spL k))∧wr=w) (fun _ i _=>n.toNat-(intOf i).toNat)
 case atStart=>exact ⟨0,air _,rfl,rfl,rfl⟩
 case round=>
  obtain ⟨k,hk,rfl,rfl,hwr⟩:=hrel;subst hwr
  by_cases hlt:(k:Int)<n
  ·have hsz: ¬9223372036854775807<(baL (spL k)).size+1:=by rw [gY];omega
   have hz:=gY k;go_wp2;go_roundw
   case rel=>exact ⟨k+1,by omega,by go_num,by rw [←afK],by trivial⟩
   case measure=>simp [intOf];omega
  ·have e:k=n.toNat:=by omega
   go_wp2;go_ret;exact ⟨rfl,rfl⟩
theorem pd (s:ByteArray) (k:Nat) (h:k<s.size):(s.extract k (k+1)).data.toList=[s[k]]:=by
 have hl:s.data.toList.length=s.size:=by rw [Array.length_toList];rfl
 rw [Lib.extract_data,List.drop_eq_getElem_cons (by omega),show k+1-k=1 by omega]
 rfl
theorem tY (s:ByteArray) (k:Nat) (h:k<s.size):aZ (s.data.toList.take (k+1))=aZ (s.data.toList.take k)++bA s[k]:=by
 rw [fb s k h,kW]
theorem oy {s:ByteArray} (h:aT s=false):cX s=⟨#[]⟩:=by unfold cX;rw [h];rfl
theorem acF {s:ByteArray} (h:aT s=true):s.size≤20000:=by
 simp only [aT,Bool.and_eq_true,decide_eq_true_eq] at h;exact h.1
theorem im (s:ByteArray) (w:World) (hs:s.size≤maxLen):
  Calls Tryz.prog 131 #[.string s] w fun e w'=>e= .returned (.string (cX s))∧w=w':=by
 cases ht:aT s with
 |false=>
  rw [oy ht]
  go_enter Tryz.func131,Tryz.ntmps131
  go_wp2_with fail;refine (aR s _ hs).mono ?_;rintro e w' ⟨rfl,rfl⟩;rw [ht];go_wp2;go_ret;exact ⟨rfl,rfl⟩
 |true=>
  have hs2:=acF ht;have HS:=aim hs;have HT:=aim ht;clear ht hs
  go_enter Tryz.func131,Tryz.ntmps131
  go_wp2_with fail;refine (aR s _ HS.out).mono ?_;rintro e w' ⟨rfl,rfl⟩;rw [HT.out];go_wp2_with fail
  go_loop [3,4] (fun o i=> ∃(k:Nat) (q:ByteArray),k≤s.size∧i= .int .i64 k∧o= .string q∧q.data.toList=34::aZ (s.data.toList.take k)∧q.size≤2*k+1) (fun _ i=>s.size-(intOf i).toNat)
  case atStart=>exact ⟨0,_,air _,rfl,rfl,rfl,by show (1:Nat)≤1;omega⟩
  case round=>
   obtain ⟨k,q,hk,rfl,rfl,hq,hz⟩:=hrel;have HQ:=aim hq;clear hq
   by_cases hlt:k<s.size
   ·have hb0:(s[k].toNat:Int)≤255:=by have:=s[k].toNat_lt;omega
    have HN:=aim (tY s k hlt);have HO:=aim (pd s k hlt)
    have hoz:(s.extract k (k+1)).size=1:=by rw [ByteArray.size_extract];omega
    by_cases h10:s[k]=10
    ·have HC:=aim (show bA s[k]=[92,110] by rw [h10];rfl)
     have t1:((s[k].toNat:Int)==10)=true:=by rw [h10];rfl
     clear h10;go_wp2
     go_round
     case rel=>exact ⟨k+1,_,by omega,by go_num,rfl,by rw [HN.out,HC.out];have:=HQ.out;simp [this],by rw [ByteArray.size_append];show q.size+2≤_;omega⟩
     case measure=>simp [intOf];omega
    ·have t1:((s[k].toNat:Int)==10)=false:=by
      rw [beq_eq_false_iff_ne];intro e;exact h10 (UInt8.toNat_inj.mp (by rw [show (10:UInt8).toNat=10 from rfl];omega))
     by_cases h34:s[k]=34∨s[k]=92
     ·have HC:=aim (show bA s[k]=[92,s[k]] by unfold bA;rw [if_neg h10,if_pos h34])
      by_cases h3:s[k]=34
      ·have t2:((s[k].toNat:Int)==34)=true:=by rw [h3];rfl
       clear h10 h34 h3;go_wp2
       go_round
       case rel=>exact ⟨k+1,_,by omega,by go_num,rfl,by rw [HN.out,HC.out];have:=HQ.out;have h4:=HO.out;simp only [ByteArray.data_append,Array.toList_append,this,h4];simp,by simp only [ByteArray.size_append];rw [hoz];show q.size+1+1≤_;omega⟩
       case measure=>simp [intOf];omega
      ·have t2:((s[k].toNat:Int)==34)=false:=by
        rw [beq_eq_false_iff_ne];intro e;exact h3 (UInt8.toNat_inj.mp (by rw [show (34:UInt8).toNat=34 from rfl];omega))
       have t3:((s[k].toNat:Int)==92)=true:=by rw [h34.resolve_left h3];rfl
       clear h10 h34 h3;go_wp2
       go_round
       case rel=>exact ⟨k+1,_,by omega,by go_num,rfl,by rw [HN.out,HC.out];have:=HQ.out;have h4:=HO.out;simp only [ByteArray.data_append,Array.toList_append,this,h4];simp,by simp only [ByteArray.size_append];rw [hoz];show q.size+1+1≤_;omega⟩
       case measure=>simp [intOf];omega
     ·have HC:=aim (show bA s[k]=[s[k]] by unfold bA;rw [if_neg h10,if_neg h34])
      have t2:((s[k].toNat:Int)==34)=false:=by
       rw [beq_eq_false_iff_ne];intro e;exact h34 (.inl (UInt8.toNat_inj.mp (by rw [show (34:UInt8).toNat=34 from rfl];omega)))
      have t3:((s[k].toNat:Int)==92)=false:=by
       rw [beq_eq_false_iff_ne];intro e;exact h34 (.inr (UInt8.toNat_inj.mp (by rw [show (92:UInt8).toNat=92 from rfl];omega)))
      clear h10 h34;go_wp2
      go_round
      case rel=>exact ⟨k+1,_,by omega,by go_num,rfl,by rw [HN.out,HC.out];have:=HQ.out;have h4:=HO.out;simp only [ByteArray.data_append,Array.toList_append,this,h4];simp,by simp only [ByteArray.size_append];rw [hoz];omega⟩
      case measure=>simp [intOf];omega
   ·obtain rfl:k=s.size:=by omega
    go_wp2;go_ret;have h5:=HQ.out;rw [List.take_of_length_le (by simp)] at h5
    have h6:cX s=q++⟨#[34]⟩:=by
     unfold cX bB;rw [if_pos HT.out];exact eI (by simp [h5])
    rw [h6];exact ⟨rfl,rfl⟩
theorem abR (c:UInt8):bA c≠[]:=by intro e;have:=(mC c).1;rw [e] at this;simp at this
theorem yu {b c:UInt8} {X Y:List UInt8} (h:bA b++X=bA c++Y):b=c∧X=Y:=by
 have h2:=congrArg (fun l=>dI (l++[34])) h;simp only [List.append_assoc] at h2;rw [ot _ _ (by simp),ot _ _ (by simp)] at h2;have hbc:b=c:=(List.cons.inj h2).1;subst hbc;exact ⟨rfl,List.append_cancel_left h⟩
theorem nc {a t r:List UInt8} (h:aZ a++r=aZ t): ∃t2,t=a++t2∧r=aZ t2:=by
 induction a generalizing t with
 |nil=>exact ⟨t,rfl,by simpa [aZ] using h⟩
 |cons b a ih=>
  rw [eU,List.append_assoc] at h
  cases t with
  |nil=>
   exact absurd (List.append_eq_nil_iff.mp h).1 (abR b)
  |cons c t=>
   rw [eU] at h;obtain ⟨rfl,h2⟩:=yu h;obtain ⟨t2,rfl,hr⟩:=ih h2;exact ⟨t2,rfl,hr⟩
theorem vU (c:UInt8) (l:List UInt8):okL (c::l)=(okI (c.toNat:Int)&&okL l):=by simp [okL]
theorem af4 (a b:List UInt8):okL (a++b)=(okL a&&okL b):=by simp [okL]
def yv (l:List UInt8):Prop:= ∀(c:UInt8) (t:List UInt8),okI (c.toNat:Int)=true→l≠bA c++t
def tr (l:List UInt8):Prop:= ∀t:List UInt8,t.length≤20000→okL t=true→l≠aZ t
theorem af5 {a r l:List UInt8} (h:l=aZ a++r) (hr:r≠[]) (hn:yv r):tr l:=by
 intro t h1 h2 e;obtain ⟨t2,rfl,hr2⟩:=nc (h.symm.trans e)
 cases t2 with
 |nil=>exact hr hr2
 |cons c t2=>
  rw [af4,vU] at h2;simp only [Bool.and_eq_true] at h2;exact hn c _ h2.2.1 (by rw [hr2,eU])
theorem af6 {a r l:List UInt8} (h:l=aZ a++r) (hr:r≠[]) (hn:a.length=20000):tr l:=by
 intro t h1 h2 e;obtain ⟨t2,rfl,hr2⟩:=nc (h.symm.trans e)
 cases t2 with
 |nil=>exact hr hr2
 |cons c t2=>simp at h1;omega
theorem nd {b:UInt8} {r:List UInt8} (h1:b=92→ ∀d r',r=d::r'→d≠34∧d≠92∧d≠110) (h2:b≠92→b=34∨b=10∨cC (b.toNat:Int)=false):yv (b::r):=by
 intro c t hc e
 by_cases c10:c=10
 ·subst c10
  rw [show bA 10=[92,110] from rfl] at e;simp only [List.cons_append,List.nil_append,List.cons.injEq] at e;exact (h1 e.1 110 t e.2).2.2 rfl
 by_cases cq:c=34∨c=92
 ·have hq:bA c=[92,c]:=by unfold bA;rw [if_neg c10,if_pos cq]
  rw [hq] at e;simp only [List.cons_append,List.nil_append,List.cons.injEq] at e;have:=h1 e.1 c t e.2
  rcases cq with g|g
  ·exact this.1 g
  ·exact this.2.1 g
 ·have hq:bA c=[c]:=by unfold bA;rw [if_neg c10,if_neg cq]
  rw [hq] at e;simp only [List.cons_append,List.nil_append,List.cons.injEq] at e;obtain ⟨rfl,-⟩:=e
  rcases h2 (fun g=>cq (.inr g)) with g|g|g
  ·exact cq (.inl g)
  ·exact c10 g
  ·simp only [okI,g,Bool.or_false,beq_iff_eq] at hc
   exact c10 (UInt8.toNat_inj.mp (by rw [show (10:UInt8).toNat=10 from rfl];omega))
def jM (l:List UInt8) (c:Int) (n:Nat):Prop:=
 (c=0∧n=0∧yv l)∨ ∃b:UInt8,c=(b.toNat:Int)∧n=(bA b).length∧okI (b.toNat:Int)=true∧l=bA b++l.drop n
theorem sd {d e:UInt8} {r:List UInt8} (h:bA e=[92,d]) (ho:okI (e.toNat:Int)=true):jM (92::d::r) (e.toNat:Int) 2:=by
 refine .inr ⟨e,rfl,by rw [h];rfl,ho, ?_⟩;rw [h];rfl
theorem abS {b:UInt8} {r:List UInt8} (h1:b≠92) (h2:b≠34) (h3:b≠10) (h4:cC (b.toNat:Int)=true):jM (b::r) (b.toNat:Int) 1:=by
 have hq:bA b=[b]:=by unfold bA;rw [if_neg h3,if_neg (by rintro (g|g);exact h2 g;exact h1 g)]
 refine .inr ⟨b,rfl,by rw [hq];rfl,by simp [okI,h4], ?_⟩;rw [hq];rfl
theorem yw {s:ByteArray} {l:List UInt8} (h:s.data.toList=34::(l++[34])):(∀t:List UInt8,t.length≤20000→okL t=true→l=aZ t→bZ s=true∧hY s=⟨t.toArray⟩)∧(tr l→bZ s=false):=by
 refine ⟨fun t h1 h2 h3=> ?_,fun hn=>qA fun t h1 h2 h3=> ?_⟩
 ·refine yS (t:=⟨t.toArray⟩) ?_ ?_
  ·simp only [aT,h2,Bool.and_true,decide_eq_true_eq]
   simpa [ByteArray.size] using h1
  ·rw [jU,h,bB,h3]
 ·refine hn t h1 h2 ?_
  rw [h] at h3;unfold bB at h3;have h4:=(List.cons.inj h3).2;exact (List.append_cancel_right h4).symm
theorem aeo {s:ByteArray} (h:Lib.hasPrefix s.data.toList [34]=false):bZ s=false:=by
 refine qA fun t h1 h2 h3=> ?_
 rw [←h3] at h
 simp [Lib.hasPrefix,bB,List.isPrefixOf] at h
theorem aep {s:ByteArray} {r:List UInt8} (h0:s.data.toList=34::r) (h:Lib.hasSuffix r [34]=false):bZ s=false:=by
 refine qA fun t h1 h2 h3=> ?_
 rw [h0] at h3;unfold bB at h3;have h4:=(List.cons.inj h3).2;rw [←h4] at h;have:([34]:List UInt8)<:+(aZ t++[34]):=⟨aZ t,rfl⟩;rw [Lib.hasSuffix,List.isSuffixOf_iff_suffix.mpr this] at h
 cases h
theorem yx {s:List UInt8} (h:Lib.hasPrefix s [34]=true):s=34::Lib.trimPrefix s [34]:=by
 unfold Lib.trimPrefix;rw [if_pos h];rw [Lib.hasPrefix,List.isPrefixOf_iff_prefix] at h;obtain ⟨r,rfl⟩:=h
 rfl
theorem yy {s:List UInt8} (h:Lib.hasSuffix s [34]=true):s=Lib.trimSuffix s [34]++[34]:=by
 unfold Lib.trimSuffix;rw [if_pos h];rw [Lib.hasSuffix,List.isSuffixOf_iff_suffix] at h;obtain ⟨r,rfl⟩:=h
 simp
theorem rl:(Tryz.prog.info? 64).map (·.size)=some 2:=by kernel_rfl
theorem ahQ:liesAt Tryz.prog Tryz.prog.depth 64 (2/Tryz.prog.cellsOf 64) 0 64 1=true:=by kernel_rfl
theorem pe:(Tryz.prog.info? 5).map (fun i=>(i.zero,i.size,i.bytes))=some (some (.int .u8 0),1,1):=by kernel_rfl
abbrev BAt (B b:Nat) (p:Value) (l:List UInt8) (w:World):Prop:=Lib.BuilderAt 64 5 B b p (Lib.byteCells l) w
abbrev BIs (B b:Nat) (l:List UInt8) (w:World):Prop:=Lib.IsBuilder 64 5 B b (Lib.byteCells l) w
theorem wZ (b:Nat) (w:World) (h0:w.cell? ⟨b,0,none⟩=some (.pointer (some ⟨b,0,none⟩))):
  Calls Tryz.prog 124 #[.pointer (some ⟨b,0,none⟩)] w fun e w'=>e= .returned (.tuple #[])∧w=w':=by
 obtain ⟨j,hj,_⟩:=Option.map_eq_some_iff.1 rl;have hn:=Lib.run_neq_ptr_same (P:=Tryz.prog) w ⟨b,0,none⟩ Tryz.underlying62 hj;clear hj
 go_enter Tryz.func124,Tryz.ntmps124
 go_wp2;go_end0;exact ⟨rfl,rfl⟩
theorem tZ (b:Nat) (w:World) (h0:w.cell? ⟨b,0,none⟩=some (.pointer none)) (hsh:w.shape? b=some (64,2)) (hfz:w.frozen? ⟨b,0,none⟩=false):
  Calls Tryz.prog 124 #[.pointer (some ⟨b,0,none⟩)] w fun e w'=>e= .returned (.tuple #[])∧w.setCell ⟨b,0,none⟩ (.pointer (some ⟨b,0,none⟩))=w':=by
 obtain ⟨j,hj,hjs⟩:=Option.map_eq_some_iff.1 rl;have hto:=Lib.run_to_unsafe (P:=Tryz.prog) w ⟨b,0,none⟩ Tryz.underlying62 Tryz.underlying177 hj (by rw [hjs];decide) hsh (Nat.zero_lt_succ 1);have hfrom:=Lib.run_from_unsafe (P:=Tryz.prog) w ⟨b,0,none⟩ Tryz.underlying177 Tryz.underlying62 hj hsh ahQ
 have hext:(callFunc 154 #[.pointer (some ⟨b,0,none⟩)]).run Tryz.prog w= .ok (.value (.pointer (some ⟨b,0,none⟩))) w:=by
  rw [run_callFunc_extern Tryz.func154 (by kernel_rfl) (by kernel_rfl) (by kernel_rfl) (e:=Extern.AbiNoEscape.same) (by kernel_rfl),Lib.run_noEscape]
  rfl
 clear hj
 go_enter Tryz.func124,Tryz.ntmps124
 go_wp2;go_end0;exact ⟨rfl,rfl⟩
theorem qG (B b:Nat) (l:List UInt8) (w:World) (h:BIs B b l w):
  Calls Tryz.prog 124 #[.pointer (some ⟨b,0,none⟩)] w fun e w'=>e= .returned (.tuple #[])∧BAt B b (.pointer (some ⟨b,0,none⟩)) l w'∧Below B w w':=by
 rcases h with h|h
 ·refine (tZ b w h.cell0 h.shape h.frozen0).mono ?_
  rintro e w' ⟨rfl,rfl⟩;exact ⟨rfl,h.used _,(Below.refl B w).setCell (p:=⟨b,0,none⟩) h.1 _⟩
 ·refine (wZ b w h.cell0).mono ?_
  rintro e w' ⟨rfl,rfl⟩;exact ⟨rfl,h,Below.refl B _⟩
theorem me (l:List UInt8) (c:UInt8):Lib.byteCells (l++[c])=Lib.byteCells l++[.int .u8 c.toNat]:=by rw [Lib.byteCells_append];rfl
theorem qH (B b:Nat) (l:List UInt8) (c:UInt8) (w:World) (h:BIs B b l w) (hlen:l.length≤1000000000) (hBw:B≤w.heap.size):
  Calls Tryz.prog 85 #[.pointer (some ⟨b,0,none⟩), .int .u8 c.toNat] w fun e w'=>e= .returned .nilIface∧BIs B b (l++[c]) w'∧Below B w w':=by
 obtain ⟨i0,hi,hz0,hz1,hz2⟩:=info_parts pe;have HL:=aim (Lib.byteCells_length l);generalize hx:(c.toNat:Int)=x;have HX:=aim hx;clear hx
 go_enter Tryz.func85,Tryz.ntmps85
 go_wp2_with fail;refine (qG B b l _ h).mono ?_;rintro e w1 ⟨rfl,h1,hb1⟩;obtain ⟨hB,v,hbk,hown,hne⟩:=h1;have hsz:=hb1.size
 have c1:w1.cell? ⟨b,1,none⟩=some v:=by rw [Lib.cell_of_heap hbk];rfl
 have hlt:b<w1.heap.size:=by
  by_cases hk:b<w1.heap.size
  ·exact hk
  ·rw [Array.getElem?_eq_none (by omega)] at hbk;cases hbk
 have HBK:=aim hbk;have HNE:=aim hne;have HB1:=aim hb1;clear hbk hne hb1 h
 go_wp2_with (at_builtin;refine wpList_append_own _ rfl _ _ 22 rfl B 5 i0 (.int .u8 0) 1 1 Tryz.underlying22 hi hz0 hz1 hz2 rfl (by decide) _ _ _ rfl (hown.alloc _) ⟨w1.heap.size,0,none⟩ 1 1 [.int .u8 x] rfl rfl ?c1 ?c2 ?c3 ?c4 ?c5 ?_)
 case c1=>
  intro j u hj
  match j,hj with
  |0,hj=>simp at hj;subst hj;simp [Addr.add]
 case c2=>intro u hu;simp at hu;subst hu;rfl
 case c3=>have:=HL.out;unfold maxLen;omega
 case c4=>have:=HL.out;omega
 case c5=>simp;omega
 intro v' w2 hown' hgrow _
 have hb2:w2.heap[b]? =some (.cells #[.pointer (some ⟨b,0,none⟩),v] 64 (0,0)):=by
  rw [hgrow.block b (by simp;omega) (fun e=>HNE.out e.symm),Lib.alloc_old w1 _ b hlt];exact HBK.out
 have d1:w2.cell? ⟨b,1,none⟩=some v:=by rw [Lib.cell_of_heap hb2];rfl
 have f1:w2.frozen? ⟨b,1,none⟩=false:=Lib.frozen_of_heap hb2 1;have HB2:=aim hb2;have HW:=aim hown';have HG:=aim hgrow;clear hb2 hgrow
 obtain ⟨g,cap,rfl⟩: ∃g cap,v'= .slice (some ⟨g,0,none⟩) ((Lib.byteCells l).length+1) cap:=by
  rcases hown'.2 with ⟨_,h0⟩|⟨g,cap,cur,hv,_⟩
  ·omega
  ·exact ⟨g,cap,hv⟩
 clear hown' hi hz0 hz1 hz2 c1;go_wp2;go_ret;refine ⟨rfl, .inr ?_, ?_⟩
 ·rw [show Lib.byteCells (l++[c])=Lib.byteCells l++[.int .u8 x] by rw [me,HX.out]]
  exact Lib.BuilderAt.put hB HB2.out (by simpa using HW.out) (by decide)
 ·exact ((HB1.out.alloc (by omega) _).grown HG.out (by simp;omega) (fun k hk=>(hown.lt k hk).1)).setCell (p:=⟨b,1,none⟩) hB _
theorem fD (B b:Nat) (l:List UInt8) (c:UInt8) (n:Int) (hn:(c.toNat:Int)=n) (w:World) (h:BIs B b l w) (hlen:l.length≤1000000000) (hBw:B≤w.heap.size):
  Calls Tryz.prog 85 #[.pointer (some ⟨b,0,none⟩), .int .u8 n] w fun e w'=>e= .returned .nilIface∧BIs B b (l++[c]) w'∧Below B w w':=by
 subst hn;exact qH B b l c w h hlen hBw
theorem BIs.new (w:World):BIs w.heap.size w.heap.size [] (w.alloc (.cells #[.pointer none, .slice none 0 0] 64)):=Lib.fresh_isBuilder _ _ w
theorem y8 (B b:Nat) (l:List UInt8) (w:World) (h:BIs B b l w) (hBw:B≤w.heap.size):
  Calls Tryz.prog 43 #[.pointer (some ⟨b,0,none⟩)] w fun e w'=>e= .returned (.string ⟨l.toArray⟩)∧Below B w w':=Tryz.Builder_String_any B b l w h hBw
def qbV (n:Int):Int:=if n=34∨n=92 then n else if n=10 then 110 else 0
theorem eJ (n:Int) (w:World):
  Calls Tryz.prog 203 #[.int .u8 n] w fun e w'=>e= .returned (.tuple #[.int .u8 (qbV n), .bool (kY n)])∧w=w':=by
 by_cases a:n=34
 ·subst a
  go_enter Tryz.func203,Tryz.ntmps203
  go_wp2;go_ret2;exact ⟨rfl,rfl⟩
 by_cases b:n=92
 ·subst b
  go_enter Tryz.func203,Tryz.ntmps203
  go_wp2;go_ret2;exact ⟨rfl,rfl⟩
 by_cases c:n=10
 ·subst c
  go_enter Tryz.func203,Tryz.ntmps203
  go_wp2;go_ret2;exact ⟨rfl,rfl⟩
 ·have e1:qbV n=0:=by simp [qbV,a,b,c]
  have e2:kY n=false:=by simp [kY,a,b,c]
  rw [e1,e2]
  have t1:(n==34)=false:=by simpa using a
  have t2:(n==92)=false:=by simpa using b
  have t3:(n==10)=false:=by simpa using c
  clear a b c e1 e2
  go_enter Tryz.func203,Tryz.ntmps203
  go_wp2;go_ret2;exact ⟨rfl,rfl⟩
theorem aag {s:ByteArray} (h:aT s=false):cX s=⟨#[]⟩:=by unfold cX;rw [h];rfl
theorem xb {s:ByteArray} (h:aT s=true):s.size≤20000:=by
 simp only [aT,Bool.and_eq_true,decide_eq_true_eq] at h;exact h.1
theorem xd (s:ByteArray) (k:Nat) (h:k<s.size):aZ (s.data.toList.take (k+1))=aZ (s.data.toList.take k)++bA s[k]:=by
 rw [fb s k h,kW]
theorem acH (s:ByteArray) (k:Nat):(aZ (s.data.toList.take k)).length≤2*k:=by
 have:=(jT (s.data.toList.take k)).2;rw [List.length_take] at this
 omega
theorem sF (c:UInt8):(kY (c.toNat:Int)=false∧bA c=[c])∨(kY (c.toNat:Int)=true∧ ∃d:UInt8,qbV (c.toNat:Int)=(d.toNat:Int)∧bA c=[92,d]):=by
 by_cases h10:c=10
 ·subst h10;exact .inr ⟨by decide,110,by decide,by decide⟩
 by_cases h34:c=34
 ·subst h34;exact .inr ⟨by decide,34,by decide,by decide⟩
 by_cases h92:c=92
 ·subst h92;exact .inr ⟨by decide,92,by decide,by decide⟩
 ·refine .inl ⟨?_,by simp [bA,h10,h34,h92]⟩
  have n10:c.toNat≠10:=fun e=>h10 (UInt8.toNat_inj.mp e)
  have n34:c.toNat≠34:=fun e=>h34 (UInt8.toNat_inj.mp e)
  have n92:c.toNat≠92:=fun e=>h92 (UInt8.toNat_inj.mp e)
  simp only [kY,decide_eq_false_iff_not];omega
theorem pf (s:ByteArray) (w:World) (hs:s.size≤maxLen):
  Calls Tryz.prog 182 #[.string s] w fun e w'=>e= .returned (.string (cX s))∧Below w.heap.size w w':=by
 cases ht:aT s with
 |false=>
  rw [aag ht]
  go_enter Tryz.func182,Tryz.ntmps182
  go_wp2_with fail;refine (cI s _ hs).mono ?_;rintro e w' ⟨rfl,rfl⟩;rw [ht];go_wp2;go_ret;exact ⟨rfl,Below.refl _ _⟩
 |true=>
  have hs2:=xb ht;have HS:=aim hs;have HT:=aim ht;clear ht hs
  go_enter Tryz.func182,Tryz.ntmps182
  go_wp2_with fail;refine (cI s _ HS.out).mono ?_;rintro e w' ⟨rfl,rfl⟩;rw [HT.out];go_wp2_with fail;refine (fD w.heap.size w.heap.size [] 34 34 (by decide) _ (BIs.new w) (by simp) (by simp)).mono ?_;rintro e w1 ⟨rfl,h1,hb1⟩;have H1:=aim h1;have HB1:=aim (((Below.refl w.heap.size w).alloc (ain _) _).trans hb1);clear h1 hb1;go_wp2_with fail
  go_loopw [13] (fun i wr=> ∃k:Nat,k≤s.size∧i= .int .i64 k∧BIs w.heap.size w.heap.size (34::aZ (s.data.toList.take k)) wr∧Below w.heap.size w wr) (fun i _=>s.size-(intOf i).toNat)
  case atStart=>exact ⟨0,air _,rfl,H1.out,HB1.out⟩
  case round=>
   obtain ⟨k,hk,rfl,hI,hB⟩:=hrel;have HI:=aim hI;have HB:=aim hB;have hln:=acH s k;clear hI hB
   by_cases hlt:k<s.size
   ·have hb0:(s[k].toNat:Int)≤255:=by have:=s[k].toNat_lt;omega
    have HQ:=aim (xd s k hlt);go_wp2_with fail;refine (eJ _ _).mono ?_;rintro e w' ⟨rfl,rfl⟩
    rcases sF s[k] with ⟨h1,h2⟩|⟨h1,d,h2,h3⟩
    ·rw [h1]
     have HC:=aim h2;clear h1 h2;go_wp2_with fail;refine (fD w.heap.size w.heap.size _ s[k] _ rfl _ HI.out (by simp;omega) HB.out.size).mono ?_;rintro e w2 ⟨rfl,h1,hb1⟩;have H2:=aim h1;have HB2:=aim (HB.out.trans hb1);clear h1 hb1;go_wp2;go_roundw
     case rel=>exact ⟨k+1,by omega,by go_num,by rw [HQ.out,HC.out];exact H2.out,HB2.out⟩
     case measure=>simp [intOf];omega
    ·rw [h1,h2]
     have HC:=aim h3;clear h1 h2 h3
     have hd:(d.toNat:Int)≤255:=by have:=d.toNat_lt;omega
     go_wp2_with fail;refine (fD w.heap.size w.heap.size _ 92 92 (by decide) _ HI.out (by simp;omega) HB.out.size).mono ?_;rintro e w2 ⟨rfl,h1,hb1⟩;have H2:=aim h1;have HB2:=aim (HB.out.trans hb1);clear h1 hb1;go_wp2_with fail;refine (fD w.heap.size w.heap.size _ d _ rfl _ H2.out (by simp;omega) HB2.out.size).mono ?_;rintro e w3 ⟨rfl,h1,hb1⟩;have H3:=aim h1;have HB3:=aim (HB2.out.trans hb1);clear h1 hb1;go_wp2;go_roundw
     case rel=>exact ⟨k+1,by omega,by go_num,by rw [HQ.out,HC.out];have:=H3.out;simpa using this,HB3.out⟩
     case measure=>simp [intOf];omega
   ·obtain rfl:k=s.size:=by omega
    go_wp2_with fail;refine (fD w.heap.size w.heap.size _ 34 34 (by decide) _ HI.out (by simp;omega) HB.out.size).mono ?_;rintro e w2 ⟨rfl,h1,hb1⟩;have H2:=aim h1;have HB2:=aim (HB.out.trans hb1);clear h1 hb1;go_wp2_with fail;refine (y8 w.heap.size w.heap.size _ _ H2.out HB2.out.size).mono ?_;rintro e w3 ⟨rfl,hb3⟩;have HB3:=aim (HB2.out.trans hb3);clear hb3;go_wp2;go_ret;refine ⟨?_,HB3.out⟩;unfold cX bB;rw [if_pos HT.out,List.take_of_length_le (by simp)]
    rfl
theorem bLen (B b:Nat) (l:List UInt8) (w:World) (h:BIs B b l w):
  Calls Tryz.prog 128 #[.pointer (some ⟨b,0,none⟩)] w fun e w'=>e= .returned (.int .i64 l.length)∧w=w':=
 (Tryz.Builder_Len B b _ w h).mono fun e w' ⟨he,hw⟩=>⟨by rw [he,Lib.byteCells_length],hw.symm⟩
theorem wl (l:List UInt8):Lib.trimB l 32=aD l:=by
 have e: ∀m:List UInt8,Lib.trimLeftB m 32=trL m:=fun _=>rfl
 have r: ∀m:List UInt8,Lib.trimRightB m 32=(trL m.reverse).reverse:=fun _=>rfl
 obtain ⟨a,b,h,h0,h1⟩:=ig l;generalize hm:aD l=m at h h0 h1
 show Lib.trimLeftB (Lib.trimRightB l 32) 32=_
 rw [e,r,h,List.reverse_append,List.reverse_append,show (spL b).reverse=spL b by unfold spL;rw [List.reverse_replicate],show (spL a).reverse=spL a by unfold spL;rw [List.reverse_replicate],List.append_assoc,o8]
 by_cases hz:m=[]
 ·subst hz
  rw [List.reverse_nil,List.nil_append,tR];rfl
 ·have e1:trL (m.reverse++spL a)=m.reverse++spL a:=by
   refine k8 ?_
   have:m.reverse≠[]:=by simp [hz]
   obtain ⟨z,zs,hzs⟩:=List.exists_cons_of_ne_nil this;rw [hzs,List.cons_append,List.head?_cons]
   have hl:m.getLast? =some z:=by rw [←List.head?_reverse,hzs];rfl
   rw [hl] at h1;exact h1
  rw [e1,List.reverse_append,List.reverse_reverse,show (spL a).reverse=spL a by unfold spL;rw [List.reverse_replicate],o8,k8 h0]
def js (l:List UInt8):List UInt8:=match hs 0 l with|some k=>l.take k|none=>l
def oj (l:List UInt8):List UInt8:=match hs 0 l with|some k=>l.drop k|none=>[]
theorem aid: ∀(l:List UInt8) (s k:Nat),hs s l=some k→k<l.length∧l[k]? =some 35:=by
 intro l
 induction l with
 |nil=>intro s k h;cases h
 |cons b l ih=>
  intro s k h;rw [hs] at h
  split at h
  ·rename_i hc
   injection h with h;subst h
   exact ⟨by simp,by rw [hc.2];rfl⟩
  ·rw [Option.map_eq_some_iff] at h
   obtain ⟨j,h1,rfl⟩:=h;obtain ⟨k1,k2⟩:=ih _ _ h1;exact ⟨by simpa using k1,by simpa using k2⟩
theorem wm (l:List UInt8):dS l=aD (js l):=by
 unfold dS js
 cases hs 0 l<;>rfl
theorem acj (l:List UInt8):(oj l=[]∧es l=[])∨ ∃t,oj l=35::t∧es l=aD t:=by
 unfold oj es
 cases h:hs 0 l with
 |none=>exact .inl ⟨rfl,rfl⟩
 |some k=>
  obtain ⟨h1,h2⟩:=aid _ _ _ h;rw [List.getElem?_eq_getElem h1] at h2
  injection h2 with h2
  refine .inr ⟨l.drop (k+1), ?_,rfl⟩
  show l.drop k=_
  rw [List.drop_eq_getElem_cons h1,h2]
theorem qx {l:List UInt8} (k:Nat) (h:l.getLast? ≠some 32):(l.drop k).getLast? ≠some 32:=by
 rw [List.getLast?_drop]
 split
 ·simp
 ·exact h
theorem jt (l:List UInt8):nmQ l=l.drop (nmP l).length:=by
 unfold nmQ nmP
 induction l with
 |nil=>rfl
 |cons b l ih=>
  rw [List.dropWhile_cons,List.takeWhile_cons]
  split
  ·rw [ih];rfl
  ·rfl
theorem wt (l:List UInt8): ∃k,trL l=l.drop k:=by
 induction l with
 |nil=>exact ⟨0,rfl⟩
 |cons b l ih=>
  rw [trL,List.dropWhile_cons]
  split
  ·obtain ⟨k,hk⟩:=ih;exact ⟨k+1,by rw [List.drop_succ_cons];exact hk⟩
  ·exact ⟨0,rfl⟩
theorem aeT {l:List UInt8} (h:l.getLast? ≠some 32):trL l=aD l:=by
 have h1:(trL l).getLast? ≠some 32:=by
  obtain ⟨k,hk⟩:=wt l;rw [hk];exact qx k h
 unfold aD;rw [k8 (l:=(trL l).reverse) (by rw [List.head?_reverse];exact h1),List.reverse_reverse]
theorem b6 (l:List UInt8):(aD l).length≤l.length:=by
 obtain ⟨a,b,e,-,-⟩:=ig l;have:=congrArg List.length e;rw [aio,aio] at this
 omega
def ScAt (w:World) (L:Nat) (l:List UInt8):Prop:=w.heap[L]? =some (.cells #[.string (baL l)] 75 (0,0))
section
variable {w w':World} {L:Nat} {l m:List UInt8}
theorem ScAt.lt (h:ScAt w L l):L<w.heap.size:=by
 rcases Nat.lt_or_ge L w.heap.size with hlt|hge
 ·exact hlt
 ·unfold ScAt at h;rw [Array.getElem?_eq_none hge] at h;cases h
theorem ScAt.cells (h:ScAt w L l):w.cell? ⟨L,0,none⟩=some (.string (baL l))∧w.frozen? ⟨L,0,none⟩=false:=by
 unfold ScAt at h
 constructor<;>simp [World.cell?,World.frozen?,h]
theorem ScAt.set (h:ScAt w L l):ScAt (w.setCell ⟨L,0,none⟩ (.string (baL m))) L m:=by
 unfold ScAt at h⊢;simp [World.setCell,Array.getElem?_modify,h]
theorem ScAt.below (h:ScAt w L l) (hb:Below w.heap.size w w'):ScAt w' L l:=(hb.block L h.lt).trans h
theorem ScAt.grown {r:Option Nat} (h:ScAt w L l) (hg:w.grownBy w' r) (hr:r≠some L):ScAt w' L l:=(hg.block L h.lt (fun e=>hr e.symm)).trans h
theorem ScAt.new (w:World) (l:List UInt8):ScAt (w.alloc (.cells #[.string (baL l)] 75)) w.heap.size l:=by
 exact heap_alloc_new w _
end
theorem yU (w:World) (L:Nat) (u:Value):w.grownBy (w.setCell ⟨L,0,none⟩ u) (some L):=
 ⟨rfl,rfl,rfl,by simp [World.setCell],fun i hi hn=>Below.heap_setCell _ _ _ _ (fun e=>hn (by rw [e]))⟩
theorem ahM {w w':World} (h:w'=w∨w'=w.drew) (r:Option Nat):w.grownBy w' r:=by
 rcases h with rfl|rfl
 ·exact World.grownBy.refl _ _
 ·exact ⟨rfl,rfl,rfl,ain _,fun _ _ _=>rfl⟩
theorem ow {a b c:World} {r:Option Nat} (h:a.grownBy b r) (k:b.grownBy c r):a.grownBy c r:=
 ⟨k.os.trans h.os,k.tape.trans h.tape,k.output.trans h.output,Nat.le_trans h.size k.size,fun i hi hn=>(k.block i (Nat.lt_of_lt_of_le hi h.size) hn).trans (h.block i hi hn)⟩
theorem ns (l:List UInt8):(⟨l.toArray⟩:ByteArray)=baL l:=rfl
def qD (L:Nat) (r:Value) (l:List UInt8) (w:World) (e:Ending) (w':World):Prop:=e= .returned r∧ScAt w' L l∧w.grownBy w' (some L)
theorem yV (p:ByteArray) (l:List UInt8) (L:Nat) (w:World) (h:ScAt w L l):
  Calls Tryz.prog 103 #[.pointer (some ⟨L,0,none⟩), .string p] w (qD L (.bool (Lib.hasPrefix l p.data.toList)) (Lib.trimPrefix l p.data.toList) w):=by
 obtain ⟨c0,f0⟩:=h.cells;have H:=aim h;clear h
 go_enter Tryz.func103,Tryz.ntmps103
 go_wp2_with fail;refine (Tryz.strings_CutPrefix _ p _).mono ?_;rintro e w1 ⟨rfl,rfl⟩;rw [bK,ns];go_wp2;go_ret;exact ⟨rfl,H.out.set,yU _ _ _⟩
theorem ahN (l:List UInt8) (L:Nat) (w:World) (h:ScAt w L l):
  Calls Tryz.prog 106 #[.pointer (some ⟨L,0,none⟩)] w (qD L (.tuple #[]) (trL l) w):=by
 obtain ⟨c0,f0⟩:=h.cells;have H:=aim h;clear h
 go_enter Tryz.func106,Tryz.ntmps106
 go_wp2_with fail;refine (Tryz.strings_TrimLeft_one _ 32 (by decide) _).mono ?_;rintro e w1 ⟨rfl,rfl⟩;rw [bK,ns];go_wp2;exact bodyPost_ret (v:= .tuple #[]) (by simp [results,Tryz.results106,go_sem]) rfl ⟨rfl,H.out.set,yU _ _ _⟩
theorem ae5 (l:List UInt8) (L:Nat) (w:World) (h:ScAt w L l) (hl:l.length≤2097152):
  Calls Tryz.prog 104 #[.pointer (some ⟨L,0,none⟩)] w (qD L (.string (baL (aD l))) [] w):=by
 obtain ⟨c0,f0⟩:=h.cells;have H:=aim h;clear h
 have hsz:(baL l).size=l.length:=by simp [baL,ByteArray.size]
 go_enter Tryz.func104,Tryz.ntmps104
 go_wp2_with fail;refine (Tryz.strings_Trim_one _ 32 (by decide) _ (by omega)).mono ?_;rintro e w1 ⟨rfl,hw1⟩;rw [bK,wl,ns];have HG:=aim (ahM hw1 (some L));have HS:=aim (show ScAt w1 L l from (ahM hw1 none|>fun hg=>H.out.grown hg (by simp)));obtain ⟨d0,e0⟩:=HS.out.cells;clear hw1 c0 f0;go_wp2;go_ret;exact ⟨rfl,HS.out.set (m:=[]),ow HG.out (yU _ _ _)⟩
theorem aN (l:List UInt8):(baL l).size=l.length:=by simp [baL,ByteArray.size]
theorem qf (l:List UInt8) (k:Nat) (h:k<(baL l).size):(baL l)[k]=l[k]'(by rw [aN] at h;exact h):=by
 rfl
theorem hH (l:List UInt8) (k:Nat):(baL l).extract 0 k=baL (l.take k):=by
 apply ByteArray.ext
 rw [ByteArray.data_extract]
 apply Array.toList_inj.mp
 rw [Array.toList_extract,List.extract_eq_take_drop]
 show ((l.toArray.toList).drop 0).take (k-0)=(l.take k).toArray.toList
 simp
theorem hJ (l:List UInt8) (k:Nat):(baL l).extract k (baL l).size=baL (l.drop k):=by
 apply ByteArray.ext
 rw [ByteArray.data_extract]
 apply Array.toList_inj.mp
 rw [Array.toList_extract,List.extract_eq_take_drop,aN]
 show (l.drop k).take (l.length-k)=l.drop k
 exact List.take_of_length_le (by rw [List.length_drop];omega)
theorem iU (l:List UInt8):nmP l=l.take (nmP l).length:=by
 unfold nmP
 induction l with
 |nil=>rfl
 |cons b l ih=>
  rw [List.takeWhile_cons]
  split
  ·rw [List.length_cons,List.take_succ_cons,←ih]
  ·rfl
theorem agH: ∀(l:List UInt8) (k:Nat),k<(nmP l).length→ ∃h:k<l.length,kj l[k]=true:=by
 intro l
 induction l with
 |nil=>intro k h;simp [nmP] at h
 |cons b l ih=>
  intro k h;unfold nmP at h;rw [List.takeWhile_cons] at h
  split at h
  ·rename_i hb
   cases k with
   |zero=>exact ⟨by simp,hb⟩
   |succ k=>
    obtain ⟨h1,h2⟩:=ih k (by simpa [nmP] using h);exact ⟨by simpa using h1,by simpa using h2⟩
  ·simp at h
theorem aes: ∀(l:List UInt8) (h:(nmP l).length<l.length),kj (l[(nmP l).length]'h)=false:=by
 intro l
 induction l with
 |nil=>intro h;simp at h
 |cons b l ih=>
  intro h
  by_cases hb:kj b=true
  ·have e:nmP (b::l)=b::nmP l:=by unfold nmP;rw [List.takeWhile_cons,if_pos hb]
   have h2:(nmP l).length<l.length:=by rw [e] at h;simpa using h
   have:=ih h2;simp only [e,List.length_cons,List.getElem_cons_succ];exact this
  ·have e:nmP (b::l)=[]:=by unfold nmP;rw [List.takeWhile_cons,if_neg hb]
   simp only [e,List.length_nil,List.getElem_cons_zero]
   simpa using hb
theorem ahx (l:List UInt8) (L:Nat) (w:World) (h:ScAt w L l) (hl:l.length≤2097152):
  Calls Tryz.prog 105 #[.pointer (some ⟨L,0,none⟩)] w (qD L (.string (baL (nmP l))) (nmQ l) w):=by
 obtain ⟨c0,f0⟩:=h.cells;have H:=aim h;clear h;have hz:=aN l
 have hn:(nmP l).length≤l.length:=by
  have:=congrArg List.length (iU l);rw [List.length_take] at this;omega
 obtain ⟨K,hn,HT,HQ,HIN,HOUT⟩: ∃K:Nat,K≤l.length∧Hid (nmP l=l.take K)∧Hid (nmQ l=l.drop K)∧Hid (∀k,k<K→ ∃h:k<l.length,kj l[k]=true)∧Hid (∀h:K<l.length,kj (l[K]'h)=false):=
  ⟨(nmP l).length,hn,aim (iU l),aim (jt l),aim (agH l),aim (aes l)⟩
 go_enter Tryz.func105,Tryz.ntmps105
 go_wp2_with fail
 go_loopw [3] (fun i wr=> ∃k:Nat,k≤K∧i= .int .i64 (k:Int)∧wr=w) (fun i _=>K-(intOf i).toNat)
 case atStart=>exact ⟨0,air _,rfl,rfl⟩
 case round=>
  obtain ⟨k,hk,rfl,hwr⟩:=hrel;subst hwr
  by_cases hlt:k<l.length
  ·have hltI:(k:Int)<(l.length:Int):=by omega
   have hks:k<(baL l).size:=by omega
   have hb:=qf l k hks
   by_cases hkK:k<K
   ·obtain ⟨hx,hnm⟩:=HIN.out k hkK
    go_wp2_with fail;refine (fa (((baL l)[k]'hks).toNat:Int) _ (by omega) (by have:=((baL l)[k]'hks).toNat_lt;omega)).mono ?_;rintro e w1 ⟨rfl,rfl⟩;have hp:dH ((l[k]'hlt).toNat:Int)=true:=hnm;go_wp2;go_roundw
    case rel=>exact ⟨k+1,by omega,by go_num,by trivial⟩
    case measure=>simp [intOf];omega
   ·obtain rfl:k=K:=by omega
    have hnm:=HOUT.out hlt;have HR:=aim (show baL (nmP l)=(baL l).extract 0 k by rw [hH,HT.out]);have HD:=aim (show (baL l).extract k l.length=baL (nmQ l) by rw [←aN l,hJ,HQ.out]);go_wp2_with fail;refine (fa (((baL l)[k]'hks).toNat:Int) _ (by omega) (by have:=((baL l)[k]'hks).toNat_lt;omega)).mono ?_;rintro e w1 ⟨rfl,rfl⟩;have hp:dH ((l[k]'hlt).toNat:Int)=false:=hnm;go_wp2;go_ret;exact ⟨by rw [HR.out];rfl,by rw [HD.out];exact H.out.set,yU _ _ _⟩
  ·obtain rfl:k=K:=by omega
   have HR:=aim (show baL (nmP l)=(baL l).extract 0 k by rw [hH,HT.out]);have HD:=aim (show (baL l).extract k l.length=baL (nmQ l) by rw [←aN l,hJ,HQ.out])
   have hltI: ¬(k:Int)<(l.length:Int):=by omega
   go_wp2;go_ret;exact ⟨by rw [HR.out];rfl,by rw [HD.out];exact H.out.set,yU _ _ _⟩
def CodeAt (l:List UInt8) (q:Bool) (k:Nat):Prop:=(k≤l.length∧hs 0 l=(hs (if q=true then 1 else 0) (l.drop k)).map (· +k))∨(k=l.length+1∧hs 0 l=none)
theorem CodeAt.zero (l:List UInt8):CodeAt l false 0:= .inl ⟨air _,by simp⟩
theorem CodeAt.here {l:List UInt8} {q:Bool} {k:Nat} (h:CodeAt l q k) (hk:k<l.length):hs 0 l=(hs (if q=true then 1 else 0) (l[k]::l.drop (k+1))).map (· +k):=by
 rcases h with ⟨-,h⟩|⟨h,-⟩
 ·rw [h,List.drop_eq_getElem_cons hk]
 ·omega
theorem CodeAt.next {l:List UInt8} {q:Bool} {k:Nat} (h:CodeAt l q k) (hk:k<l.length) (q2:Bool) (hc: ¬((if q=true then 1 else 0)=0∧l[k]=35)) (hn:nx (if q=true then 1 else 0) l[k]=if q2=true then 1 else 0):CodeAt l q2 (k+1):=by
 have e:=h.here hk;rw [hs,if_neg hc,hn,Option.map_map] at e;refine .inl ⟨hk, ?_⟩;rw [e]
 congr 1
 funext x;simp only [Function.comp];omega
theorem CodeAt.skip {l:List UInt8} {k:Nat} (h:CodeAt l true k) (hk:k<l.length) (hb:l[k]=92):CodeAt l true (k+1+1):=by
 have e:=h.here hk
 have h2:nx 1 (92:UInt8)=2:=by decide
 rw [if_pos rfl,hb,hs,if_neg (by simp),h2] at e
 by_cases hk1:k+1<l.length
 ·rw [List.drop_eq_getElem_cons hk1,hs,if_neg (by simp),show nx 2 l[k+1]=1 by simp [nx],Option.map_map,Option.map_map] at e
  refine .inl ⟨by omega, ?_⟩;rw [if_pos rfl,e]
  congr 1
  funext x;simp only [Function.comp];omega
 ·rw [List.drop_of_length_le (by omega),hs] at e
  exact .inr ⟨by omega,e⟩
def mb (l:List UInt8):Nat:=(hs 0 l).getD l.length
theorem CodeAt.end {l:List UInt8} {q:Bool} {k:Nat} (h:CodeAt l q k) (hk: ¬k<l.length):mb l=l.length∧l.length≤k∧k≤l.length+1:=by
 rcases h with ⟨h1,h2⟩|⟨h1,h2⟩
 ·rw [List.drop_of_length_le (by omega),hs] at h2
  exact ⟨by rw [mb,h2];rfl,by omega,by omega⟩
 ·exact ⟨by rw [mb,h2];rfl,by omega,by omega⟩
theorem CodeAt.found {l:List UInt8} {k:Nat} (h:CodeAt l false k) (hk:k<l.length) (hb:l[k]=35):mb l=k:=by
 have e:=h.here hk;rw [if_neg (by simp),hb,hs,if_pos ⟨rfl,rfl⟩] at e;rw [mb,e];simp
theorem CodeAt.le {l:List UInt8} {q:Bool} {k:Nat} (h:CodeAt l q k):k≤l.length+1:=by
 rcases h with ⟨h1,-⟩|⟨h1,-⟩<;>omega
theorem ju (l:List UInt8):js l=l.take (mb l)∧oj l=l.drop (mb l):=by
 unfold js oj mb
 cases h:hs 0 l with
 |none=>exact ⟨by simp,by simp⟩
 |some k=>exact ⟨rfl,rfl⟩
theorem kR {b:UInt8} {c:UInt8} (h:(b.toNat:Int)=(c.toNat:Int)):b=c:=UInt8.toNat_inj.mp (by omega)
theorem ahF (l:List UInt8) (L:Nat) (w:World) (h:ScAt w L l) (hl:l.length≤2097152):
  Calls Tryz.prog 143 #[.pointer (some ⟨L,0,none⟩)] w (qD L (.string (baL (js l))) (oj l) w):=by
 obtain ⟨c0,f0⟩:=h.cells;have H:=aim h;clear h;have hz:=aN l;have HR:=aim (show baL (js l)=(baL l).extract 0 (mb l) by rw [hH,(ju l).1]);have HD:=aim (show (baL l).extract (mb l) l.length=baL (oj l) by rw [←aN l,hJ,(ju l).2])
 go_enter Tryz.func143,Tryz.ntmps143
 go_wp2_with fail
 go_loopw [3,4] (fun x i wr=> ∃(q:Bool) (k:Nat),x= .bool q∧i= .int .i64 (k:Int)∧Hid (CodeAt l q k)∧wr=w) (fun _ i _=>l.length+1-(intOf i).toNat)
 case atStart=>exact ⟨false,0,rfl,rfl,aim (CodeAt.zero l),rfl⟩
 case round=>
  obtain ⟨q,k,rfl,rfl,HC,hwr⟩:=hrel;subst hwr;have hk1:=HC.out.le
  by_cases hlt:k<l.length
  case neg=>
   have hltI: ¬(k:Int)<(l.length:Int):=by omega
   obtain ⟨e1,e2,e3⟩:=HC.out.end hlt
   have hmin:min (k:Int) (l.length:Int)=(l.length:Int):=by omega
   have HK:=aim e1;have HE:=aim (show (ByteArray.empty:ByteArray)=baL (oj l) by rw [(ju l).2,e1,List.drop_length];rfl);clear e1;go_wp2;go_ret;exact ⟨by rw [HR.out,HK.out];rfl,by rw [HE.out];exact H.out.set,yU _ _ _⟩
  have hltI:(k:Int)<(l.length:Int):=by omega
  have hb:=qf l k (by omega)
  by_cases h34:l[k]=34
  ·have t34:((l[k].toNat:Int)==34)=true:=by rw [h34];rfl
   have t35:((l[k].toNat:Int) !=35)=true:=by rw [h34];rfl
   cases q with
   |false=>
    have HN:=aim (HC.out.next hlt true (by rw [h34];simp) (by rw [h34];decide));clear h34;go_wp2;go_roundw
    case rel=>exact ⟨true,k+1,rfl,by go_num,HN,by trivial⟩
    case measure=>simp [intOf];omega
   |true=>
    have HN:=aim (HC.out.next hlt false (by simp) (by rw [h34];decide));clear h34;go_wp2;go_roundw
    case rel=>exact ⟨false,k+1,rfl,by go_num,HN,by trivial⟩
    case measure=>simp [intOf];omega
  have t34:((l[k].toNat:Int)==34)=false:=by rw [beq_eq_false_iff_ne];intro e;exact h34 (kR (c:=34) e)
  cases q with
  |false=>
   by_cases h35:l[k]=35
   ·have t35:((l[k].toNat:Int) !=35)=false:=by rw [h35];rfl
    have HK:=aim (HC.out.found hlt h35)
    have hmin:min (k:Int) (l.length:Int)=(k:Int):=by omega
    clear h35;go_wp2;go_ret;exact ⟨by rw [HR.out,HK.out];rfl,by rw [HK.out] at HD;rw [HD.out];exact H.out.set,yU _ _ _⟩
   ·have t35:((l[k].toNat:Int) !=35)=true:=by rw [bne_iff_ne];intro e;exact h35 (kR (c:=35) e)
    have HN:=aim (HC.out.next hlt false (by simp [h35]) (by simp [nx,h34]))
    by_cases h92:l[k]=92
    ·have t92:((l[k].toNat:Int)==92)=true:=by rw [h92];rfl
     clear h92;go_wp2;go_roundw
     case rel=>exact ⟨false,k+1,rfl,by go_num,HN,by trivial⟩
     case measure=>simp [intOf];omega
    ·have t92:((l[k].toNat:Int)==92)=false:=by rw [beq_eq_false_iff_ne];intro e;exact h92 (kR (c:=92) e)
     go_wp2;go_roundw
     case rel=>exact ⟨false,k+1,rfl,by go_num,HN,by trivial⟩
     case measure=>simp [intOf];omega
  |true=>
   by_cases h92:l[k]=92
   ·have t92:((l[k].toNat:Int)==92)=true:=by rw [h92];rfl
    have HN:=aim (HC.out.skip hlt h92);clear h92;go_wp2;go_roundw
    case rel=>exact ⟨true,k+1+1,rfl,by go_num,HN,by trivial⟩
    case measure=>simp [intOf];omega
   ·have t92:((l[k].toNat:Int)==92)=false:=by rw [beq_eq_false_iff_ne];intro e;exact h92 (kR (c:=92) e)
    have HN:=aim (HC.out.next hlt true (by simp) (by simp [nx,h34,h92]));go_wp2;go_roundw
    case rel=>exact ⟨true,k+1,rfl,by go_num,HN,by trivial⟩
    case measure=>simp [intOf];omega
theorem pu (v1 v2:Value) (l:List Cl) (w:World) (h1:RowC w v1 l) (h2:RowC w v2 l):
  Calls Tryz.prog 52 #[v1,v2] w fun e w'=>e= .returned (.bool true)∧Below w.heap.size w w':=by
 obtain ⟨a1,c1,rfl,p1,q1,r1⟩:=h1;obtain ⟨a2,c2,rfl,p2,q2,r2⟩:=h2;unfold maxLen at q1 q2;have R1:=aim r1;have R2:=aim r2;clear r1 r2
 go_enter Tryz.func52,Tryz.ntmps52
 go_wp2_with fail
 go_loopw [5] (fun i wr=> ∃k:Nat,k≤l.length∧i= .int .i64 (k:Int)∧Below w.heap.size w wr) (fun i _=>l.length-(intOf i).toNat)
 case atStart=>exact ⟨0,air _,rfl,Below.refl _ _⟩
 case round=>
  obtain ⟨k,hk,rfl,hb⟩:=hrel;have HB:=aim hb;clear hb
  by_cases hlt:k<l.length
  ·obtain ⟨b1,o1,rfl,hl1,cc1⟩:=R1.out.resolve_left (by rintro rfl;simp at hlt)
   obtain ⟨b2,o2,rfl,hl2,cc2⟩:=R2.out.resolve_left (by rintro rfl;simp at hlt);obtain ⟨x0,x1,x2⟩:=cc1 k hlt;obtain ⟨y0,y1,y2⟩:=cc2 k hlt;have d0:=(HB.out.cell (p:=⟨b1,_,none⟩) hl1).trans x0;have d1:=(HB.out.cell (p:=⟨b1,_,none⟩) hl1).trans x1;have d2:=(HB.out.cell (p:=⟨b1,_,none⟩) hl1).trans x2;have e0:=(HB.out.cell (p:=⟨b2,_,none⟩) hl2).trans y0;have e1:=(HB.out.cell (p:=⟨b2,_,none⟩) hl2).trans y1;have e2:=(HB.out.cell (p:=⟨b2,_,none⟩) hl2).trans y2;generalize l[k].1=kk at d0 e0;generalize l[k].2.1=ss at d1 e1;generalize l[k].2.2=mm at d2 e2;clear cc1 cc2 x0 x1 x2 y0 y1 y2;go_wp2_with fail
   go_quiet (fail)
   have HQ:=aim (show Below w.heap.size w (wr.drewN nq) from HB.out.trans ⟨rfl,rfl,rfl,ain _,fun _ _=>rfl⟩);go_wp2;go_roundw
   case rel=>exact ⟨k+1,by omega,by go_num,HQ.out⟩
   case measure=>simp [intOf];omega
  ·obtain rfl:k=l.length:=by omega
   go_wp2;go_ret;exact ⟨rfl,HB.out⟩
theorem ff (k:Int) (s t:ByteArray) (u1 u2:Value) (l:List Cl) (w:World) (h1:RowC w u1 l) (h2:RowC w u2 l):
  Calls Tryz.prog 16 #[.agg #[.int .i64 k, .string s,u1, .string t], .agg #[.int .i64 k, .string s,u2, .string t]] w fun e w'=>e= .returned (.bool true)∧Below w.heap.size w w':=by
 have HB0:=aim (((Below.refl w.heap.size w).alloc (ain _) (.cells #[.int .i64 k, .string s,u1, .string t] 25)).alloc (by simp) (.cells #[.int .i64 k, .string s,u2, .string t] 25));have HC:=aim (pu u1 u2 l _ (h1.mono HB0.out) (h2.mono HB0.out))
 have HX0:=aim (fun w1 (h:Below ((w.alloc (.cells #[.int .i64 k, .string s,u1, .string t] 25)).alloc (.cells #[.int .i64 k, .string s,u2, .string t] 25)).heap.size ((w.alloc (.cells #[.int .i64 k, .string s,u1, .string t] 25)).alloc (.cells #[.int .i64 k, .string s,u2, .string t] 25)) w1)=>
  (show w1.cell? ⟨w.heap.size,3,none⟩=some (.string t) by rw [h.cell (by simp;omega)];simp [go_sem]))
 have HX1:=aim (fun w1 (h:Below ((w.alloc (.cells #[.int .i64 k, .string s,u1, .string t] 25)).alloc (.cells #[.int .i64 k, .string s,u2, .string t] 25)).heap.size ((w.alloc (.cells #[.int .i64 k, .string s,u1, .string t] 25)).alloc (.cells #[.int .i64 k, .string s,u2, .string t] 25)) w1)=>
  (show w1.cell? ⟨w.heap.size+1,3,none⟩=some (.string t) by rw [h.cell (by simp)];simp [go_sem]))
 obtain ⟨a1,c1,rfl,-⟩:=h1;obtain ⟨a2,c2,rfl,-⟩:=h2
 have ht:(s.toList==s.toList)=true:=by simp
 have ht2:(t.toList==t.toList)=true:=by simp
 have hk:(k !=k)=false:=by simp
 go_enter Tryz.func16,Tryz.ntmps16
 go_wp2_with fail;refine HC.out.mono ?_;rintro e w1 ⟨rfl,hb1⟩;have e0:=HX0.out w1 hb1;have e1:=HX1.out w1 hb1;have HB1:=aim (HB0.out.trans (hb1.mono HB0.out.size));clear hb1;go_wp2;go_ret;exact ⟨rfl,HB1.out⟩
theorem sR (D:Nat) (hD:D≤4) (w:World):
  Calls Tryz.prog 84 #[.string ⟨#[32,32]⟩, .int .i64 (D:Int)] w fun e w'=>e= .returned (.string (baL (spL (2*D))))∧w=w':=by
 have hm: ∀(k:Nat) (w:World),k≤4→Calls Tryz.prog 125 #[.int .u64 2, .int .u64 (k:Int)] w fun e w'=>e= .returned (.tuple #[.int .u64 0, .int .u64 ((2*k:Nat):Int)])∧w'=w:=fun k w hk=>by
  have:=Tryz.bits_Mul 2 k (by omega) (by omega) w;rw [Nat.div_eq_of_lt (by omega),Nat.mod_eq_of_lt (by omega)] at this;exact this
 have hp: ∀(s:ByteArray) (w:World),Lib.hasPrefix s.data.toList [32,32]=true→Calls Tryz.prog 126 #[.string s, .string ⟨#[32,32]⟩] w fun e w'=>e= .returned (.bool true)∧w'=w:=fun s w hs=>by
  have:=Tryz.strings_HasPrefix s ⟨#[32,32]⟩ w;rw [show Lib.hasPrefix s.data.toList (⟨#[32,32]⟩:ByteArray).data.toList=true from hs] at this;exact this
 have HM:=aim hm;have HP:=aim hp;clear hm hp
 have h:D=0∨D=1∨D=2∨D=3∨D=4:=by omega
 rcases h with rfl|rfl|rfl|rfl|rfl
 ·go_enter Tryz.func84,Tryz.ntmps84
  go_wp2;go_ret;exact ⟨rfl,rfl⟩
 ·go_enter Tryz.func84,Tryz.ntmps84
  go_wp2;go_ret;exact ⟨rfl,rfl⟩
 all_goals
  go_enter Tryz.func84,Tryz.ntmps84
  go_wp2_with fail;refine (HM.out _ _ hD).mono ?_;rintro e w1 ⟨rfl,hw⟩;subst hw;go_wp2_with fail;refine (HP.out _ _ (by decide)).mono ?_;rintro e w1 ⟨rfl,hw⟩;subst hw;go_wp2;go_ret;exact ⟨by first|rfl|decide,rfl⟩
theorem fZ (t:ByteArray):t.data.toList.length=t.size:=by rw [Array.length_toList];rfl
theorem zO {t:ByteArray} (h:0<t.size):t.data.toList=t[0]::(t.extract 1 t.size).data.toList:=by
 rw [ByteArray.data_extract,Array.toList_extract,List.extract_eq_take_drop];have hl:=fZ t
 have h0:0<t.data.toList.length:=by omega
 rw [List.take_of_length_le (by rw [List.length_drop];omega)]
 conv=>lhs;rw [←List.drop_zero (l:=t.data.toList),List.drop_eq_getElem_cons h0]
 rfl
theorem lH {t:ByteArray} (h:0<t.size):t.data.toList=(t.extract 0 (t.size-1)).data.toList++[t[t.size-1]]:=by
 rw [ByteArray.data_extract,Array.toList_extract,List.extract_eq_take_drop,List.drop_zero,Nat.sub_zero];have hl:=fZ t
 have h0:t.size-1<t.data.toList.length:=by omega
 conv=>lhs;rw [←List.take_append_drop (t.size-1) t.data.toList,List.drop_eq_getElem_cons h0]
 rw [List.drop_of_length_le (by omega)]
 rfl
theorem ab1 {b:UInt8} {l:List UInt8} (h:b=32):aD (b::l)=aD l:=by
 subst h;have:=o9 1 0 l
 simpa [spL] using this
theorem sh {b:UInt8} {l:List UInt8} (h:b=32):aD (l++[b])=aD l:=by
 subst h;have:=o9 0 1 l
 simpa [spL] using this
theorem lI (s:ByteArray) (w:World) (hs:s.size≤maxLen):
  Calls Tryz.prog 54 #[.string s] w fun e w'=>e= .returned (.string (baL (aD s.data.toList)))∧w=w':=by
 have HS:=aim hs;clear hs
 go_enter Tryz.func54,Tryz.ntmps54
 go_wp2_with fail
 go_loopw [0] (fun x wr=> ∃t:ByteArray,x= .string t∧t.size≤s.size∧Hid (aD t.data.toList=aD s.data.toList)∧wr=w) (fun x _=>match x with| .string t=>t.size|_=>0)
 case atStart=>exact ⟨s,rfl,ain _,aim rfl,rfl⟩
 case round=>
  obtain ⟨t,rfl,ht,HT,hwr⟩:=hrel;subst hwr;have hmx:=HS.out;unfold maxLen at hmx
  by_cases hc: ∃h:0<t.size,t[0]=32
  ·obtain ⟨h,hb⟩:=hc
   have hne:(t.toList==[])=false:=by
    rw [beq_eq_false_iff_ne,ByteArray.toList_eq];intro e;have:=fZ t;rw [e] at this;simp at this;omega
   have t1:((t[0].toNat:Int)==32)=true:=by rw [hb];rfl
   have hsz:(t.extract 1 t.size).size=t.size-1:=by rw [ByteArray.size_extract];omega
   have HT2:=aim (show aD (t.extract 1 t.size).data.toList=aD s.data.toList by rw [←HT.out,zO h,ab1 hb]);clear hb;go_wp2;go_roundw
   case rel=>exact ⟨t.extract 1 t.size,rfl,by omega,HT2,by trivial⟩
   case measure=>simp [hsz];omega
  ·have HX:=aim (show t.data.toList.head? ≠some 32 from fun k=>by
    by_cases h:0<t.size
    ·rw [zO h] at k;injection k with k;exact hc ⟨h,k⟩
    ·have:t.data.toList=[]:=List.eq_nil_of_length_eq_zero (by rw [fZ];omega)
     rw [this] at k;cases k)
   by_cases h0:t.size=0
   ·have hne:t.toList=[]:=by rw [ByteArray.toList_eq];exact List.eq_nil_of_length_eq_zero (by rw [fZ];exact h0)
    have hne':(t.toList==[])=true:=by rw [hne];rfl
    go_wp2_with fail
    go_loopw [0] (fun x wq=> ∃u:ByteArray,x= .string u∧u.size≤s.size∧Hid (aD u.data.toList=aD s.data.toList)∧Hid (u.data.toList.head? ≠some 32)∧wq=wr) (fun x _=>match x with| .string u=>u.size|_=>0)
    case atStart=>exact ⟨t,rfl,ht,HT,HX,by trivial⟩
    case round=>
     obtain ⟨u,rfl,hu,HU,HH,hwq⟩:=hrel;subst hwq;clear HT HX ht
     by_cases hd: ∃h:0<u.size,u[u.size-1]=32
     ·obtain ⟨h9,hb⟩:=hd
      have hne9:(u.toList==[])=false:=by
       rw [beq_eq_false_iff_ne,ByteArray.toList_eq];intro e;have:=fZ u;rw [e] at this;simp at this;omega
      have ei:((u.size:Int)-1).toNat=u.size-1:=by omega
      have t9:((u[u.size-1].toNat:Int)==32)=true:=by rw [hb];rfl
      have hsz:(u.extract 0 (u.size-1)).size=u.size-1:=by rw [ByteArray.size_extract];omega
      have HU2:=aim (show aD (u.extract 0 (u.size-1)).data.toList=aD s.data.toList by rw [←HU.out,lH h9,sh hb])
      have HH2:=aim (show (u.extract 0 (u.size-1)).data.toList.head? ≠some 32 from fun k=>HH.out (by
       rw [lH h9]
       cases hq:(u.extract 0 (u.size-1)).data.toList with
       |nil=>rw [hq] at k;cases k
       |cons a b=>rw [hq] at k;exact k))
      clear hb;go_wp2;go_roundw
      case rel=>exact ⟨u.extract 0 (u.size-1),rfl,by omega,HU2,HH2,by trivial⟩
      case measure=>simp [hsz];omega
     ·have HF:=aim (show u=baL (aD s.data.toList) by
       have:aD u.data.toList=u.data.toList:=rj HH.out (fun k=>by
        by_cases h9:0<u.size
        ·rw [lH h9,List.getLast?_concat] at k;injection k with k;exact hd ⟨h9,k⟩
        ·have:u.data.toList=[]:=List.eq_nil_of_length_eq_zero (by rw [fZ];omega)
         rw [this] at k;cases k)
       rw [←HU.out,this,i5])
      by_cases h9:u.size=0
      ·have hne9:u.toList=[]:=by rw [ByteArray.toList_eq];exact List.eq_nil_of_length_eq_zero (by rw [fZ];exact h9)
       have hne9':(u.toList==[])=true:=by rw [hne9];rfl
       clear HU HH;go_wp2;go_ret;exact ⟨by rw [←HF.out];rfl,rfl⟩
      ·have h9':0<u.size:=by omega
       have hne9:(u.toList==[])=false:=by
        rw [beq_eq_false_iff_ne,ByteArray.toList_eq];intro e;have:=fZ u;rw [e] at this;simp at this;omega
       have ei:((u.size:Int)-1).toNat=u.size-1:=by omega
       have t9:((u[u.size-1].toNat:Int)==32)=false:=by
        rw [beq_eq_false_iff_ne];intro e;exact hd ⟨h9',UInt8.toNat_inj.mp (by rw [show (32:UInt8).toNat=32 from rfl];omega)⟩
       clear HU HH;go_wp2;go_ret;exact ⟨by rw [←HF.out];rfl,rfl⟩
   ·have h:0<t.size:=by omega
    have hne:(t.toList==[])=false:=by
     rw [beq_eq_false_iff_ne,ByteArray.toList_eq];intro e;have:=fZ t;rw [e] at this;simp at this;omega
    have t1:((t[0].toNat:Int)==32)=false:=by
     rw [beq_eq_false_iff_ne];intro e;exact hc ⟨h,UInt8.toNat_inj.mp (by rw [show (32:UInt8).toNat=32 from rfl];omega)⟩
    go_wp2_with fail
    go_loopw [0] (fun x wq=> ∃u:ByteArray,x= .string u∧u.size≤s.size∧Hid (aD u.data.toList=aD s.data.toList)∧Hid (u.data.toList.head? ≠some 32)∧wq=wr) (fun x _=>match x with| .string u=>u.size|_=>0)
    case atStart=>exact ⟨t,rfl,ht,HT,HX,by trivial⟩
    case round=>
     obtain ⟨u,rfl,hu,HU,HH,hwq⟩:=hrel;subst hwq;clear HT HX ht
     by_cases hd: ∃h:0<u.size,u[u.size-1]=32
     ·obtain ⟨h9,hb⟩:=hd
      have hne9:(u.toList==[])=false:=by
       rw [beq_eq_false_iff_ne,ByteArray.toList_eq];intro e;have:=fZ u;rw [e] at this;simp at this;omega
      have ei:((u.size:Int)-1).toNat=u.size-1:=by omega
      have t9:((u[u.size-1].toNat:Int)==32)=true:=by rw [hb];rfl
      have hsz:(u.extract 0 (u.size-1)).size=u.size-1:=by rw [ByteArray.size_extract];omega
      have HU2:=aim (show aD (u.extract 0 (u.size-1)).data.toList=aD s.data.toList by rw [←HU.out,lH h9,sh hb])
      have HH2:=aim (show (u.extract 0 (u.size-1)).data.toList.head? ≠some 32 from fun k=>HH.out (by
       rw [lH h9]
       cases hq:(u.extract 0 (u.size-1)).data.toList with
       |nil=>rw [hq] at k;cases k
       |cons a b=>rw [hq] at k;exact k))
      clear hb;go_wp2;go_roundw
      case rel=>exact ⟨u.extract 0 (u.size-1),rfl,by omega,HU2,HH2,by trivial⟩
      case measure=>simp [hsz];omega
     ·have HF:=aim (show u=baL (aD s.data.toList) by
       have:aD u.data.toList=u.data.toList:=rj HH.out (fun k=>by
        by_cases h9:0<u.size
        ·rw [lH h9,List.getLast?_concat] at k;injection k with k;exact hd ⟨h9,k⟩
        ·have:u.data.toList=[]:=List.eq_nil_of_length_eq_zero (by rw [fZ];omega)
         rw [this] at k;cases k)
       rw [←HU.out,this,i5])
      by_cases h9:u.size=0
      ·have hne9:u.toList=[]:=by rw [ByteArray.toList_eq];exact List.eq_nil_of_length_eq_zero (by rw [fZ];exact h9)
       have hne9':(u.toList==[])=true:=by rw [hne9];rfl
       clear HU HH;go_wp2;go_ret;exact ⟨by rw [←HF.out];rfl,rfl⟩
      ·have h9':0<u.size:=by omega
       have hne9:(u.toList==[])=false:=by
        rw [beq_eq_false_iff_ne,ByteArray.toList_eq];intro e;have:=fZ u;rw [e] at this;simp at this;omega
       have ei:((u.size:Int)-1).toNat=u.size-1:=by omega
       have t9:((u[u.size-1].toNat:Int)==32)=false:=by
        rw [beq_eq_false_iff_ne];intro e;exact hd ⟨h9',UInt8.toNat_inj.mp (by rw [show (32:UInt8).toNat=32 from rfl];omega)⟩
       clear HU HH;go_wp2;go_ret;exact ⟨by rw [←HF.out];rfl,rfl⟩
theorem aay {l:List UInt8} {q:Bool} {k:Nat} (h:CodeAt l q k) (hk: ¬k<l.length):hs 0 l=none:=by
 rcases h with ⟨h1,h2⟩|⟨h1,h2⟩
 ·rw [List.drop_of_length_le (by omega),hs] at h2
  exact h2
 ·exact h2
theorem uq {l:List UInt8} {k:Nat} (h:CodeAt l false k) (hk:k<l.length) (hb:l[k]=35):hs 0 l=some k:=by
 have e:=h.here hk;rw [if_neg (by simp),hb,hs,if_pos ⟨rfl,rfl⟩] at e;rw [e];simp
theorem ac2 (s:ByteArray) (w:World) (n:Nat) (hs:s.size≤maxLen):
  Calls Tryz.prog 54 #[.string s] (w.drewN n) fun e w'=>e= .returned (.string (baL (aD s.data.toList)))∧w'=w.drewN n:=
 (lI s (w.drewN n) hs).mono fun e w' h=>⟨h.1,h.2.symm⟩
theorem ur (l:List UInt8) (k:Nat):(baL l).extract (k+1) l.length=baL (l.drop (k+1)):=by rw [←aN l,hJ]
theorem xo (l:List UInt8) (w:World) (hl:l.length≤2097152):
  Calls Tryz.prog 57 #[.string (baL l)] w fun e w'=>e= .returned (.tuple #[.string (baL (dS l)), .string (baL (es l))])∧Below w.heap.size w w':=by
 have hz:=aN l
 have hmx:l.length≤maxLen:=by unfold maxLen;omega
 go_enter Tryz.func57,Tryz.ntmps57
 go_wp2_with fail
 go_loopw [4,5] (fun x i wr=> ∃(q:Bool) (k:Nat),x= .bool q∧i= .int .i64 (k:Int)∧Hid (CodeAt l q k)∧wr=w) (fun _ i _=>l.length+1-(intOf i).toNat)
 case atStart=>exact ⟨false,0,rfl,rfl,aim (CodeAt.zero l),rfl⟩
 case round=>
  obtain ⟨q,k,rfl,rfl,HC,hwr⟩:=hrel;subst hwr;have hk1:=HC.out.le
  by_cases hlt:k<l.length
  case neg=>
   have hltI: ¬(k:Int)<(l.length:Int):=by omega
   have HE:=aim (show dS l=aD l∧es l=[] by unfold dS es;rw [aay HC.out hlt];exact ⟨rfl,rfl⟩);go_wp2_with fail;refine (lI _ _ (by rw [aN];exact hmx)).mono ?_;rintro e w1 ⟨rfl,rfl⟩;rw [bK];go_wp2;go_ret2;exact ⟨by rw [HE.out.1,HE.out.2];rfl,Below.refl _ _⟩
  have hltI:(k:Int)<(l.length:Int):=by omega
  have hb:=qf l k (by omega)
  by_cases h34:l[k]=34
  ·have t34:((l[k].toNat:Int)==34)=true:=by rw [h34];rfl
   have t92:((l[k].toNat:Int)==92)=false:=by rw [h34];rfl
   have t35:((l[k].toNat:Int)==35)=false:=by rw [h34];rfl
   cases q with
   |false=>
    have HN:=aim (HC.out.next hlt true (by rw [h34];simp) (by rw [h34];decide));clear h34;go_wp2;go_roundw
    case rel=>exact ⟨true,k+1,rfl,by go_num,HN,by trivial⟩
    case measure=>simp [intOf];omega
   |true=>
    have HN:=aim (HC.out.next hlt false (by simp) (by rw [h34];decide));clear h34;go_wp2;go_roundw
    case rel=>exact ⟨false,k+1,rfl,by go_num,HN,by trivial⟩
    case measure=>simp [intOf];omega
  have t34:((l[k].toNat:Int)==34)=false:=by rw [beq_eq_false_iff_ne];intro e;exact h34 (kR (c:=34) e)
  cases q with
  |false=>
   by_cases h35:l[k]=35
   ·have t35:((l[k].toNat:Int)==35)=true:=by rw [h35];rfl
    have t92:((l[k].toNat:Int)==92)=false:=by rw [h35];rfl
    have HF:=aim (show dS l=aD (l.take k)∧es l=aD (l.drop (k+1)) by unfold dS es;rw [uq HC.out hlt h35];exact ⟨rfl,rfl⟩)
    have hw1:IntKind.i64.wrap ((k:Int)+1)=((k+1:Nat):Int):=by rw [IntWalk.i64_in _ (by omega)];omega
    have HT1:=aim (fun w' n=>ac2 ((baL l).extract 0 k) w' n (by rw [hH,aN,List.length_take];omega));have HT2:=aim (fun w' n=>ac2 ((baL l).extract (k+1) l.length) w' n (by rw [ur,aN,List.length_drop];omega))
    have g0:(0:Int)≤(k:Int):=by omega
    have g1:(k:Int)≤(l.length:Int):=by omega
    have g2:(k:Int)+1≤(l.length:Int):=by omega
    have g3:(0:Int)≤(k:Int)+1:=by omega
    clear h35;go_wp2_with fail
    go_quiet (first
     |(go_at_call 54;with_reducible exact Calls.quiet_of_same (HT1.out _ _))
     |(go_at_call 54;with_reducible exact Calls.quiet_of_same (HT2.out _ _)))
    go_wp2;go_ret2;exact ⟨by rw [HF.out.1,HF.out.2,hH,ur];rfl,⟨rfl,rfl,rfl,ain _,fun _ _=>rfl⟩⟩
   ·have t35:((l[k].toNat:Int)==35)=false:=by rw [beq_eq_false_iff_ne];intro e;exact h35 (kR (c:=35) e)
    have HN:=aim (HC.out.next hlt false (by simp [h35]) (by simp [nx,h34]))
    by_cases h92:l[k]=92
    ·have t92:((l[k].toNat:Int)==92)=true:=by rw [h92];rfl
     clear h92;go_wp2;go_roundw
     case rel=>exact ⟨false,k+1,rfl,by go_num,HN,by trivial⟩
     case measure=>simp [intOf];omega
    ·have t92:((l[k].toNat:Int)==92)=false:=by rw [beq_eq_false_iff_ne];intro e;exact h92 (kR (c:=92) e)
     go_wp2;go_roundw
     case rel=>exact ⟨false,k+1,rfl,by go_num,HN,by trivial⟩
     case measure=>simp [intOf];omega
  |true=>
   by_cases h92:l[k]=92
   ·have t92:((l[k].toNat:Int)==92)=true:=by rw [h92];rfl
    have HN:=aim (HC.out.skip hlt h92);clear h92;go_wp2;go_roundw
    case rel=>exact ⟨true,k+1+1,rfl,by go_num,HN,by trivial⟩
    case measure=>simp [intOf];omega
   ·have t92:((l[k].toNat:Int)==92)=false:=by rw [beq_eq_false_iff_ne];intro e;exact h92 (kR (c:=92) e)
    have HN:=aim (HC.out.next hlt true (by simp) (by simp [nx,h34,h92]));go_wp2;go_roundw
    case rel=>exact ⟨true,k+1,rfl,by go_num,HN,by trivial⟩
    case measure=>simp [intOf];omega
end Go.Proofs.YthijkjnngfnfdaaGreatDoor
