/-
  Part of the proof of FnReadDocument.
-/
import Derived.Test.YtegdjjjpoahamaaGreatDoorQQRac
import Derived.Test.YtegdjjjpoahamaaGreatDoorQQRaa
import Derived.Lib.TrimByte
import Derived.Below
import Derived.IntWalk
import Derived.WalkKit
import Derived.WalkSpells
import Derived.Lib.Hide
import Derived.Deep.QuietTactic
import Derived.BigQuiet
set_option linter.unusedVariables false
set_option maxHeartbeats 8000000
set_option maxRecDepth 100000
namespace Go.Proofs.YtegdjjjpoahamaaGreatDoor
def trL (l:List UInt8):List UInt8:=l.dropWhile fun b=>b==32
def ah (l:List UInt8):List UInt8:=(trL (trL l).reverse).reverse
def spL (n:Nat):List UInt8:=List.replicate n 32
theorem oi (n:Nat) (l:List UInt8):trL (spL n++l)=trL l:=by
 induction n with
 |zero=>rfl
 |succ n ih=>rw [spL,List.replicate_succ,List.cons_append,trL,List.dropWhile_cons,if_pos (by decide)];exact ih
theorem jO {l:List UInt8} (h:l.head? ≠some 32):trL l=l:=by
 cases l with
 |nil=>rfl
 |cons a l=>
  rw [trL,List.dropWhile_cons,if_neg];intro k;apply h;rw [beq_iff_eq] at k;rw [List.head?_cons,k]
theorem s5 (n:Nat):trL (spL n)=[]:=by
 have:=oi n []
 rwa [List.append_nil] at this
theorem fb {m:List UInt8} (a b:Nat) (h0:m.head? ≠some 32) (h1:m.getLast? ≠some 32):ah (spL a++(m++spL b))=m:=by
 unfold ah;rw [oi]
 by_cases hm:m=[]
 ·subst hm;rw [List.nil_append,s5];rfl
 ·have e:trL (m++spL b)=m++spL b:=by
   refine jO ?_
   cases m with
   |nil=>exact absurd rfl hm
   |cons x m=>exact h0
  rw [e,List.reverse_append,show (spL b).reverse=spL b by unfold spL;rw [List.reverse_replicate],oi,jO,List.reverse_reverse];rw [List.head?_reverse];exact h1
theorem p9 {m:List UInt8} (h0:m.head? ≠some 32) (h1:m.getLast? ≠some 32):ah m=m:=by
 have:=fb (m:=m) 0 0 h0 h1
 simpa [spL] using this
theorem gp (l:List UInt8): ∃a b,l=spL a++(ah l++spL b)∧(ah l).head? ≠some 32∧(ah l).getLast? ≠some 32:=by
 have hl: ∀l:List UInt8,∃a,l=spL a++trL l∧(trL l).head? ≠some 32:=by
  intro l
  induction l with
  |nil=>exact ⟨0,rfl,by simp [trL]⟩
  |cons x l ih=>
   by_cases hx:x=32
   ·subst hx
    obtain ⟨a,e,h⟩:=ih
    have e1:trL (32::l)=trL l:=by rw [trL,List.dropWhile_cons,if_pos (by decide)];rfl
    rw [e1];exact ⟨a+1,by show 32::l=32::(spL a++trL l);rw [←e],h⟩
   ·have e1:trL (x::l)=x::l:=jO (by simp [hx])
    rw [e1];exact ⟨0,rfl,by simp [hx]⟩
 obtain ⟨a,e1,h1⟩:=hl l;obtain ⟨b,e2,h2⟩:=hl (trL l).reverse;refine ⟨a,b, ?_, ?_, ?_⟩
 ·have:trL l=(trL (trL l).reverse).reverse++spL b:=by
   have h:=congrArg List.reverse e2;rw [List.reverse_reverse,List.reverse_append,show (spL b).reverse=spL b by unfold spL;rw [List.reverse_replicate]] at h;exact h
  unfold ah;rw [←this];exact e1
 ·unfold ah
  rw [List.head?_reverse];intro k
  have h3:(trL l).getLast? ≠none:=by
   intro e;rw [List.getLast?_eq_none_iff] at e;rw [e] at k;simp [trL] at k
  have h4:(trL l).reverse.reverse.head? =some 32:=by
   rw [e2,List.reverse_append]
   cases hq:(trL (trL l).reverse) with
   |nil=>rw [hq] at k;cases k
   |cons y ys=>
    rw [hq] at k
    have:(y::ys).reverse≠[]:=by simp
    obtain ⟨z,zs,hz⟩:=List.exists_cons_of_ne_nil this
    have hh:(y::ys).reverse.head? =some 32:=by rw [List.head?_reverse];exact k
    rw [hz] at hh⊢
    simpa using hh
  rw [List.reverse_reverse] at h4;exact h1 h4
 ·unfold ah
  rw [List.getLast?_reverse];exact h2
theorem s6 (a b:Nat) (l:List UInt8):ah (spL a++(l++spL b))=ah l:=by
 obtain ⟨x,y,e,h0,h1⟩:=gp l
 have:spL a++(l++spL b)=spL (a+x)++(ah l++spL (y+b)):=by
  conv=>lhs;rw [e]
  simp only [spL,List.append_assoc];rw [←List.append_assoc (List.replicate a 32),List.replicate_append_replicate,List.replicate_append_replicate]
 rw [this,fb _ _ h0 h1]
def nx (s:Nat) (b:UInt8):Nat:=if s=2 then 1 else if s=1 then (if b=92 then 2 else if b=34 then 0 else 1) else if b=34 then 1 else 0
def hs:Nat→List UInt8→Option Nat
 |_,[]=>none
 |s,b::l=>if s=0∧b=35 then some 0 else (hs (nx s b) l).map (· +1)
def rn:Nat→List UInt8→Option Nat
 |s,[]=>some s
 |s,b::l=>if s=0∧b=35 then none else rn (nx s b) l
theorem fy: ∀(a b:List UInt8) (s:Nat),rn s (a++b)=(rn s a).bind fun t=>rn t b:=by
 intro a
 induction a with
 |nil=>intro b s;rfl
 |cons x a ih=>
  intro b s
  show (if _ then none else rn (nx s x) (a++b))=Option.bind (if _ then none else rn (nx s x) a) _
  split
  ·rfl
  ·exact ih b _
theorem adV: ∀(l:List UInt8) (s t:Nat),rn s l=some t→hs s l=none:=by
 intro l
 induction l with
 |nil=>intro s t _;rfl
 |cons x l ih=>
  intro s t h;rw [rn] at h
  split at h
  ·cases h
  ·rename_i hn;rw [hs,if_neg hn,ih _ _ h];rfl
theorem adW: ∀(l r:List UInt8) (s:Nat),rn s l=some 0→hs s (l++35::r)=some l.length:=by
 intro l
 induction l with
 |nil=>intro r s h;injection h with h;subst h;rfl
 |cons x l ih=>
  intro r s h;rw [rn] at h
  split at h
  ·cases h
  ·rename_i hn
   show (if _ then _ else (hs (nx s x) (l++35::r)).map (· +1))=_
   rw [if_neg hn,ih r _ h];rfl
theorem js: ∀(l:List UInt8),(∀b∈l,b≠34∧b≠35)→rn 0 l=some 0:=by
 intro l
 induction l with
 |nil=>intro _;rfl
 |cons x l ih=>
  intro h;have hx:=h x (List.mem_cons_self ..);rw [rn,if_neg (fun k=>hx.2 k.2)]
  have:nx 0 x=0:=by unfold nx;rw [if_neg (by omega),if_neg (by omega),if_neg hx.1]
  rw [this]
  exact ih fun b hb=>h b (List.mem_cons_of_mem _ hb)
def baL (l:List UInt8):ByteArray:=⟨l.toArray⟩
theorem bK (l:List UInt8):(baL l).data.toList=l:=rfl
theorem ip (s:ByteArray):baL s.data.toList=s:=ByteArray.ext (by simp [baL])
def dX (l:List UInt8):List UInt8:=match hs 0 l with|some k=>ah (l.take k)|none=>ah l
def ey (l:List UInt8):List UInt8:=match hs 0 l with|some k=>ah (l.drop (k+1))|none=>[]
def jt (b:UInt8):Bool:=cU (b.toNat:Int)
def nmP (l:List UInt8):List UInt8:=l.takeWhile jt
def nmQ (l:List UInt8):List UInt8:=l.dropWhile jt
theorem s7 (a b:List UInt8) (ha: ∀x∈a,jt x=true) (hb: ∀x,b.head? =some x→jt x=false):nmP (a++b)=a∧nmQ (a++b)=b:=by
 unfold nmP nmQ
 induction a with
 |nil=>
  cases b with
  |nil=>exact ⟨rfl,rfl⟩
  |cons x b=>
   have:=hb x rfl;rw [List.nil_append,List.takeWhile_cons,List.dropWhile_cons,if_neg (by simp [this]),if_neg (by simp [this])];exact ⟨rfl,rfl⟩
 |cons x a ih=>
  have hx:=ha x (List.mem_cons_self ..)
  obtain ⟨i1,i2⟩:=ih fun y hy=>ha y (List.mem_cons_of_mem _ hy)
  rw [List.cons_append,List.takeWhile_cons,List.dropWhile_cons,if_pos hx,if_pos hx,i1,i2];exact ⟨rfl,rfl⟩
theorem sI (l:List UInt8):Lib.trimB l 32=ah l:=by
 have e: ∀m:List UInt8,Lib.trimLeftB m 32=trL m:=fun _=>rfl
 have r: ∀m:List UInt8,Lib.trimRightB m 32=(trL m.reverse).reverse:=fun _=>rfl
 obtain ⟨a,b,h,h0,h1⟩:=gp l;generalize hm:ah l=m at h h0 h1
 show Lib.trimLeftB (Lib.trimRightB l 32) 32=_
 rw [e,r,h,List.reverse_append,List.reverse_append,show (spL b).reverse=spL b by unfold spL;rw [List.reverse_replicate],show (spL a).reverse=spL a by unfold spL;rw [List.reverse_replicate],List.append_assoc,oi]
 by_cases hz:m=[]
 ·subst hz
  rw [List.reverse_nil,List.nil_append,s5];rfl
 ·have e1:trL (m.reverse++spL a)=m.reverse++spL a:=by
   refine jO ?_
   have:m.reverse≠[]:=by simp [hz]
   obtain ⟨z,zs,Hk⟩:=List.exists_cons_of_ne_nil this;rw [Hk,List.cons_append,List.head?_cons]
   have hl:m.getLast? =some z:=by rw [←List.head?_reverse,Hk];rfl
   rw [hl] at h1;exact h1
  rw [e1,List.reverse_append,List.reverse_reverse,show (spL a).reverse=spL a by unfold spL;rw [List.reverse_replicate],oi,jO h0]
def ie (l:List UInt8):List UInt8:=match hs 0 l with|some k=>l.take k|none=>l
def mh (l:List UInt8):List UInt8:=match hs 0 l with|some k=>l.drop k|none=>[]
theorem aga: ∀(l:List UInt8) (s k:Nat),hs s l=some k→k<l.length∧l[k]? =some 35:=by
 intro l
 induction l with
 |nil=>intro s k h;cases h
 |cons b l ih=>
  intro s k h;rw [hs] at h
  split at h
  ·rename_i hc
   injection h with h;subst h
   exact ⟨by simp,by rw [hc.2];rfl⟩
  ·rw [Option.map_eq_some_iff] at h
   obtain ⟨j,h1,rfl⟩:=h;obtain ⟨k1,k2⟩:=ih _ _ h1;exact ⟨by simpa using k1,by simpa using k2⟩
theorem sJ (l:List UInt8):dX l=ah (ie l):=by
 unfold dX ie
 cases hs 0 l<;>rfl
theorem y6 (l:List UInt8):(mh l=[]∧ey l=[])∨ ∃t,mh l=35::t∧ey l=ah t:=by
 unfold mh ey
 cases h:hs 0 l with
 |none=>exact .inl ⟨rfl,rfl⟩
 |some k=>
  obtain ⟨h1,h2⟩:=aga _ _ _ h;rw [List.getElem?_eq_getElem h1] at h2
  injection h2 with h2
  refine .inr ⟨l.drop (k+1), ?_,rfl⟩
  show l.drop k=_
  rw [List.drop_eq_getElem_cons h1,h2]
theorem nV {l:List UInt8} (k:Nat) (h:l.getLast? ≠some 32):(l.drop k).getLast? ≠some 32:=by
 rw [List.getLast?_drop]
 split
 ·simp
 ·exact h
theorem ig (l:List UInt8):nmQ l=l.drop (nmP l).length:=by
 unfold nmQ nmP
 induction l with
 |nil=>rfl
 |cons b l ih=>
  rw [List.dropWhile_cons,List.takeWhile_cons]
  split
  ·rw [ih];rfl
  ·rfl
theorem sK (l:List UInt8): ∃k,trL l=l.drop k:=by
 induction l with
 |nil=>exact ⟨0,rfl⟩
 |cons b l ih=>
  rw [trL,List.dropWhile_cons]
  split
  ·obtain ⟨k,hk⟩:=ih;exact ⟨k+1,by rw [List.drop_succ_cons];exact hk⟩
  ·exact ⟨0,rfl⟩
theorem abF {l:List UInt8} (h:l.getLast? ≠some 32):trL l=ah l:=by
 have h1:(trL l).getLast? ≠some 32:=by
  obtain ⟨k,hk⟩:=sK l;rw [hk];exact nV k h
 unfold ah;rw [jO (l:=(trL l).reverse) (by rw [List.head?_reverse];exact h1),List.reverse_reverse]
theorem ce (l:List UInt8):(ah l).length≤l.length:=by
 obtain ⟨a,b,e,-,-⟩:=gp l;have:=congrArg List.length e;rw [agE,agE] at this
 omega
open Go.RowKit
def ScAt (w:World) (L:Nat) (l:List UInt8):Prop:=w.heap[L]? =some (.cells #[.string (baL l)] 84 (0,0))
section
variable {w w':World} {L:Nat} {l m:List UInt8}
theorem ScAt.lt (h:ScAt w L l):L<w.heap.size:=by
 rcases Nat.lt_or_ge L w.heap.size with Ab|DQ
 ·exact Ab
 ·unfold ScAt at h;rw [Array.getElem?_eq_none DQ] at h;cases h
theorem ScAt.cells (h:ScAt w L l):w.cell? ⟨L,0,none⟩=some (.string (baL l))∧w.frozen? ⟨L,0,none⟩=false:=by
 unfold ScAt at h
 constructor<;>simp [World.cell?,World.frozen?,h]
theorem ScAt.set (h:ScAt w L l):ScAt (w.setCell ⟨L,0,none⟩ (.string (baL m))) L m:=by
 unfold ScAt at h⊢;simp [World.setCell,Array.getElem?_modify,h]
theorem ScAt.below (h:ScAt w L l) (hb:Below w.heap.size w w'):ScAt w' L l:=(hb.block L h.lt).trans h
theorem ScAt.grown {r:Option Nat} (h:ScAt w L l) (hg:w.grownBy w' r) (hr:r≠some L):ScAt w' L l:=(hg.block L h.lt (fun e=>hr e.symm)).trans h
theorem ScAt.new (w:World) (l:List UInt8):ScAt (w.alloc (.cells #[.string (baL l)] 84)) w.heap.size l:=by
 exact heap_alloc_new w _
end
theorem wN (w:World) (L:Nat) (u:Value):w.grownBy (w.setCell ⟨L,0,none⟩ u) (some L):=
 ⟨rfl,rfl,rfl,by simp [World.setCell],fun i hi hn=>Below.heap_setCell _ _ _ _ (fun e=>hn (by rw [e]))⟩
theorem afG {w w':World} (h:w'=w∨w'=w.drew) (r:Option Nat):w.grownBy w' r:=by
 rcases h with rfl|rfl
 ·exact World.grownBy.refl _ _
 ·exact ⟨rfl,rfl,rfl,agD _,fun _ _ _=>rfl⟩
theorem mB {a b c:World} {r:Option Nat} (h:a.grownBy b r) (k:b.grownBy c r):a.grownBy c r:=
 ⟨k.os.trans h.os,k.tape.trans h.tape,k.output.trans h.output,Nat.le_trans h.size k.size,fun i hi hn=>(k.block i (Nat.lt_of_lt_of_le hi h.size) hn).trans (h.block i hi hn)⟩
theorem lP (l:List UInt8):(⟨l.toArray⟩:ByteArray)=baL l:=rfl
def oF (L:Nat) (r:Value) (l:List UInt8) (w:World) (e:Ending) (w':World):Prop:=e= .returned r∧ScAt w' L l∧w.grownBy w' (some L)
theorem wO (p:ByteArray) (l:List UInt8) (L:Nat) (w:World) (h:ScAt w L l):
  Calls Tryz.prog 114 #[.pointer (some ⟨L,0,none⟩), .string p] w (oF L (.bool (Lib.hasPrefix l p.data.toList)) (Lib.trimPrefix l p.data.toList) w):=by
 obtain ⟨c0,f0⟩:=h.cells;have H:=agC h;clear h
 go_enter Tryz.func114,Tryz.ntmps114
 go_wp2_with fail;refine (Tryz.strings_CutPrefix _ p _).mono ?_;rintro e w1 ⟨rfl,rfl⟩;rw [bK,lP];go_wp2;go_ret;exact ⟨rfl,H.out.set,wN _ _ _⟩
theorem afH (l:List UInt8) (L:Nat) (w:World) (h:ScAt w L l):
  Calls Tryz.prog 117 #[.pointer (some ⟨L,0,none⟩)] w (oF L (.tuple #[]) (trL l) w):=by
 obtain ⟨c0,f0⟩:=h.cells;have H:=agC h;clear h
 go_enter Tryz.func117,Tryz.ntmps117
 go_wp2_with fail;refine (Tryz.strings_TrimLeft_one _ 32 (by decide) _).mono ?_;rintro e w1 ⟨rfl,rfl⟩;rw [bK,lP];go_wp2;exact bodyPost_ret (v:= .tuple #[]) (by simp [results,Tryz.results117,go_sem]) rfl ⟨rfl,H.out.set,wN _ _ _⟩
theorem acu (l:List UInt8) (L:Nat) (w:World) (h:ScAt w L l) (hl:l.length≤2097152):
  Calls Tryz.prog 115 #[.pointer (some ⟨L,0,none⟩)] w (oF L (.string (baL (ah l))) [] w):=by
 obtain ⟨c0,f0⟩:=h.cells;have H:=agC h;clear h
 have Au:(baL l).size=l.length:=by simp [baL,ByteArray.size]
 go_enter Tryz.func115,Tryz.ntmps115
 go_wp2_with fail;refine (Tryz.strings_Trim_one _ 32 (by decide) _ (by omega)).mono ?_;rintro e w1 ⟨rfl,AU⟩;rw [bK,sI,lP];have HG:=agC (afG AU (some L));have HS:=agC (show ScAt w1 L l from (afG AU none|>fun hg=>H.out.grown hg (by simp)));obtain ⟨d0,e0⟩:=HS.out.cells;clear AU c0 f0;go_wp2;go_ret;exact ⟨rfl,HS.out.set (m:=[]),mB HG.out (wN _ _ _)⟩
theorem aR (l:List UInt8):(baL l).size=l.length:=by simp [baL,ByteArray.size]
theorem pD (l:List UInt8) (k:Nat) (h:k<(baL l).size):(baL l)[k]=l[k]'(by rw [aR] at h;exact h):=by
 rfl
theorem iB (l:List UInt8) (k:Nat):(baL l).extract 0 k=baL (l.take k):=by
 apply ByteArray.ext
 rw [ByteArray.data_extract]
 apply Array.toList_inj.mp
 rw [Array.toList_extract,List.extract_eq_take_drop]
 show ((l.toArray.toList).drop 0).take (k-0)=(l.take k).toArray.toList
 simp
theorem iC (l:List UInt8) (k:Nat):(baL l).extract k (baL l).size=baL (l.drop k):=by
 apply ByteArray.ext
 rw [ByteArray.data_extract]
 apply Array.toList_inj.mp
 rw [Array.toList_extract,List.extract_eq_take_drop,aR]
 show (l.drop k).take (l.length-k)=l.drop k
 exact List.take_of_length_le (by rw [List.length_drop];omega)
theorem jD (l:List UInt8):nmP l=l.take (nmP l).length:=by
 unfold nmP
 induction l with
 |nil=>rfl
 |cons b l ih=>
  rw [List.takeWhile_cons]
  split
  ·rw [List.length_cons,List.take_succ_cons,←ih]
  ·rfl
theorem aeF: ∀(l:List UInt8) (k:Nat),k<(nmP l).length→ ∃h:k<l.length,jt l[k]=true:=by
 intro l
 induction l with
 |nil=>intro k h;simp [nmP] at h
 |cons b l ih=>
  intro k h;unfold nmP at h;rw [List.takeWhile_cons] at h
  split at h
  ·rename_i hb
   cases k with
   |zero=>exact ⟨by simp,hb⟩
   |succ k=>
    obtain ⟨h1,h2⟩:=ih k (by simpa [nmP] using h);exact ⟨by simpa using h1,by simpa using h2⟩
  ·simp at h
theorem abe: ∀(l:List UInt8) (h:(nmP l).length<l.length),jt (l[(nmP l).length]'h)=false:=by
 intro l
 induction l with
 |nil=>intro h;simp at h
 |cons b l ih=>
  intro h
  by_cases hb:jt b=true
  ·have e:nmP (b::l)=b::nmP l:=by unfold nmP;rw [List.takeWhile_cons,if_pos hb]
   have h2:(nmP l).length<l.length:=by rw [e] at h;simpa using h
   have:=ih h2;simp only [e,List.length_cons,List.getElem_cons_succ];exact this
  ·have e:nmP (b::l)=[]:=by unfold nmP;rw [List.takeWhile_cons,if_neg hb]
   simp only [e,List.length_nil,List.getElem_cons_zero]
   simpa using hb
theorem ae2 (l:List UInt8) (L:Nat) (w:World) (h:ScAt w L l) (hl:l.length≤2097152):
  Calls Tryz.prog 116 #[.pointer (some ⟨L,0,none⟩)] w (oF L (.string (baL (nmP l))) (nmQ l) w):=by
 obtain ⟨c0,f0⟩:=h.cells;have H:=agC h;clear h;have hz:=aR l
 have hn:(nmP l).length≤l.length:=by
  have:=congrArg List.length (jD l);rw [List.length_take] at this;omega
 obtain ⟨K,hn,HT,HQ,Id,Jq⟩: ∃K:Nat,K≤l.length∧Hid (nmP l=l.take K)∧Hid (nmQ l=l.drop K)∧Hid (∀k,k<K→ ∃h:k<l.length,jt l[k]=true)∧Hid (∀h:K<l.length,jt (l[K]'h)=false):=
  ⟨(nmP l).length,hn,agC (jD l),agC (ig l),agC (aeF l),agC (abe l)⟩
 go_enter Tryz.func116,Tryz.ntmps116
 go_wp2_with fail
 go_loopw [3] (fun i wr=> ∃k:Nat,k≤K∧i= .int .i64 (k:Int)∧wr=w) (fun i _=>K-(intOf i).toNat)
 case atStart=>exact ⟨0,agH _,rfl,rfl⟩
 case round=>
  obtain ⟨k,hk,rfl,EG⟩:=hrel;subst EG
  by_cases Ab:k<l.length
  ·have Bm:(k:Int)<(l.length:Int):=by omega
   have Cm:k<(baL l).size:=by omega
   have hb:=pD l k Cm
   by_cases Ng:k<K
   ·obtain ⟨hx,EK⟩:=Id.out k Ng
    go_wp2_with fail;refine (es (((baL l)[k]'Cm).toNat:Int) _ (by omega) (by have:=((baL l)[k]'Cm).toNat_lt;omega)).mono ?_;rintro e w1 ⟨rfl,rfl⟩;have hp:cU ((l[k]'Ab).toNat:Int)=true:=EK;go_wp2;go_roundw
    case rel=>exact ⟨k+1,by omega,by go_num,by trivial⟩
    case measure=>simp [intOf];omega
   ·obtain rfl:k=K:=by omega
    have EK:=Jq.out Ab;have HR:=agC (show baL (nmP l)=(baL l).extract 0 k by rw [iB,HT.out]);have HD:=agC (show (baL l).extract k l.length=baL (nmQ l) by rw [←aR l,iC,HQ.out]);go_wp2_with fail;refine (es (((baL l)[k]'Cm).toNat:Int) _ (by omega) (by have:=((baL l)[k]'Cm).toNat_lt;omega)).mono ?_;rintro e w1 ⟨rfl,rfl⟩;have hp:cU ((l[k]'Ab).toNat:Int)=false:=EK;go_wp2;go_ret;exact ⟨by rw [HR.out];rfl,by rw [HD.out];exact H.out.set,wN _ _ _⟩
  ·obtain rfl:k=K:=by omega
   have HR:=agC (show baL (nmP l)=(baL l).extract 0 k by rw [iB,HT.out]);have HD:=agC (show (baL l).extract k l.length=baL (nmQ l) by rw [←aR l,iC,HQ.out])
   have Bm: ¬(k:Int)<(l.length:Int):=by omega
   go_wp2;go_ret;exact ⟨by rw [HR.out];rfl,by rw [HD.out];exact H.out.set,wN _ _ _⟩
def CodeAt (l:List UInt8) (q:Bool) (k:Nat):Prop:=(k≤l.length∧hs 0 l=(hs (if q=true then 1 else 0) (l.drop k)).map (· +k))∨(k=l.length+1∧hs 0 l=none)
theorem CodeAt.zero (l:List UInt8):CodeAt l false 0:= .inl ⟨agH _,by simp⟩
theorem CodeAt.here {l:List UInt8} {q:Bool} {k:Nat} (h:CodeAt l q k) (hk:k<l.length):hs 0 l=(hs (if q=true then 1 else 0) (l[k]::l.drop (k+1))).map (· +k):=by
 rcases h with ⟨-,h⟩|⟨h,-⟩
 ·rw [h,List.drop_eq_getElem_cons hk]
 ·omega
theorem CodeAt.next {l:List UInt8} {q:Bool} {k:Nat} (h:CodeAt l q k) (hk:k<l.length) (q2:Bool) (hc: ¬((if q=true then 1 else 0)=0∧l[k]=35)) (hn:nx (if q=true then 1 else 0) l[k]=if q2=true then 1 else 0):CodeAt l q2 (k+1):=by
 have e:=h.here hk;rw [hs,if_neg hc,hn,Option.map_map] at e;refine .inl ⟨hk, ?_⟩;rw [e]
 congr 1
 funext x;simp only [Function.comp];omega
theorem CodeAt.skip {l:List UInt8} {k:Nat} (h:CodeAt l true k) (hk:k<l.length) (hb:l[k]=92):CodeAt l true (k+1+1):=by
 have e:=h.here hk
 have h2:nx 1 (92:UInt8)=2:=by decide
 rw [if_pos rfl,hb,hs,if_neg (by simp),h2] at e
 by_cases CB:k+1<l.length
 ·rw [List.drop_eq_getElem_cons CB,hs,if_neg (by simp),show nx 2 l[k+1]=1 by simp [nx],Option.map_map,Option.map_map] at e
  refine .inl ⟨by omega, ?_⟩;rw [if_pos rfl,e]
  congr 1
  funext x;simp only [Function.comp];omega
 ·rw [List.drop_of_length_le (by omega),hs] at e
  exact .inr ⟨by omega,e⟩
def km (l:List UInt8):Nat:=(hs 0 l).getD l.length
theorem CodeAt.end {l:List UInt8} {q:Bool} {k:Nat} (h:CodeAt l q k) (hk: ¬k<l.length):km l=l.length∧l.length≤k∧k≤l.length+1:=by
 rcases h with ⟨h1,h2⟩|⟨h1,h2⟩
 ·rw [List.drop_of_length_le (by omega),hs] at h2
  exact ⟨by rw [km,h2];rfl,by omega,by omega⟩
 ·exact ⟨by rw [km,h2];rfl,by omega,by omega⟩
theorem CodeAt.found {l:List UInt8} {k:Nat} (h:CodeAt l false k) (hk:k<l.length) (hb:l[k]=35):km l=k:=by
 have e:=h.here hk;rw [if_neg (by simp),hb,hs,if_pos ⟨rfl,rfl⟩] at e;rw [km,e];simp
theorem CodeAt.le {l:List UInt8} {q:Bool} {k:Nat} (h:CodeAt l q k):k≤l.length+1:=by
 rcases h with ⟨h1,-⟩|⟨h1,-⟩<;>omega
theorem ij (l:List UInt8):ie l=l.take (km l)∧mh l=l.drop (km l):=by
 unfold ie mh km
 cases h:hs 0 l with
 |none=>exact ⟨by simp,by simp⟩
 |some k=>exact ⟨rfl,rfl⟩
theorem ko {b:UInt8} {c:UInt8} (h:(b.toNat:Int)=(c.toNat:Int)):b=c:=UInt8.toNat_inj.mp (by omega)
theorem afj (l:List UInt8) (L:Nat) (w:World) (h:ScAt w L l) (hl:l.length≤2097152):
  Calls Tryz.prog 159 #[.pointer (some ⟨L,0,none⟩)] w (oF L (.string (baL (ie l))) (mh l) w):=by
 obtain ⟨c0,f0⟩:=h.cells;have H:=agC h;clear h;have hz:=aR l;have HR:=agC (show baL (ie l)=(baL l).extract 0 (km l) by rw [iB,(ij l).1]);have HD:=agC (show (baL l).extract (km l) l.length=baL (mh l) by rw [←aR l,iC,(ij l).2])
 go_enter Tryz.func159,Tryz.ntmps159
 go_wp2_with fail
 go_loopw [3,4] (fun x i wr=> ∃(q:Bool) (k:Nat),x= .bool q∧i= .int .i64 (k:Int)∧Hid (CodeAt l q k)∧wr=w) (fun _ i _=>l.length+1-(intOf i).toNat)
 case atStart=>exact ⟨false,0,rfl,rfl,agC (CodeAt.zero l),rfl⟩
 case round=>
  obtain ⟨q,k,rfl,rfl,HC,EG⟩:=hrel;subst EG;have CB:=HC.out.le
  by_cases Ab:k<l.length
  case neg=>
   have Bm: ¬(k:Int)<(l.length:Int):=by omega
   obtain ⟨e1,e2,e3⟩:=HC.out.end Ab
   have OE:min (k:Int) (l.length:Int)=(l.length:Int):=by omega
   have HK:=agC e1;have HE:=agC (show (ByteArray.empty:ByteArray)=baL (mh l) by rw [(ij l).2,e1,List.drop_length];rfl);clear e1;go_wp2;go_ret;exact ⟨by rw [HR.out,HK.out];rfl,by rw [HE.out];exact H.out.set,wN _ _ _⟩
  have Bm:(k:Int)<(l.length:Int):=by omega
  have hb:=pD l k (by omega)
  by_cases h34:l[k]=34
  ·have OF:((l[k].toNat:Int)==34)=true:=by rw [h34];rfl
   have LG:((l[k].toNat:Int) !=35)=true:=by rw [h34];rfl
   cases q with
   |false=>
    have HN:=agC (HC.out.next Ab true (by rw [h34];simp) (by rw [h34];decide));clear h34;go_wp2;go_roundw
    case rel=>exact ⟨true,k+1,rfl,by go_num,HN,by trivial⟩
    case measure=>simp [intOf];omega
   |true=>
    have HN:=agC (HC.out.next Ab false (by simp) (by rw [h34];decide));clear h34;go_wp2;go_roundw
    case rel=>exact ⟨false,k+1,rfl,by go_num,HN,by trivial⟩
    case measure=>simp [intOf];omega
  have OF:((l[k].toNat:Int)==34)=false:=by rw [beq_eq_false_iff_ne];intro e;exact h34 (ko (c:=34) e)
  cases q with
  |false=>
   by_cases h35:l[k]=35
   ·have LG:((l[k].toNat:Int) !=35)=false:=by rw [h35];rfl
    have HK:=agC (HC.out.found Ab h35)
    have OE:min (k:Int) (l.length:Int)=(k:Int):=by omega
    clear h35;go_wp2;go_ret;exact ⟨by rw [HR.out,HK.out];rfl,by rw [HK.out] at HD;rw [HD.out];exact H.out.set,wN _ _ _⟩
   ·have LG:((l[k].toNat:Int) !=35)=true:=by rw [bne_iff_ne];intro e;exact h35 (ko (c:=35) e)
    have HN:=agC (HC.out.next Ab false (by simp [h35]) (by simp [nx,h34]))
    by_cases h92:l[k]=92
    ·have Ii:((l[k].toNat:Int)==92)=true:=by rw [h92];rfl
     clear h92;go_wp2;go_roundw
     case rel=>exact ⟨false,k+1,rfl,by go_num,HN,by trivial⟩
     case measure=>simp [intOf];omega
    ·have Ii:((l[k].toNat:Int)==92)=false:=by rw [beq_eq_false_iff_ne];intro e;exact h92 (ko (c:=92) e)
     go_wp2;go_roundw
     case rel=>exact ⟨false,k+1,rfl,by go_num,HN,by trivial⟩
     case measure=>simp [intOf];omega
  |true=>
   by_cases h92:l[k]=92
   ·have Ii:((l[k].toNat:Int)==92)=true:=by rw [h92];rfl
    have HN:=agC (HC.out.skip Ab h92);clear h92;go_wp2;go_roundw
    case rel=>exact ⟨true,k+1+1,rfl,by go_num,HN,by trivial⟩
    case measure=>simp [intOf];omega
   ·have Ii:((l[k].toNat:Int)==92)=false:=by rw [beq_eq_false_iff_ne];intro e;exact h92 (ko (c:=92) e)
    have HN:=agC (HC.out.next Ab true (by simp) (by simp [nx,h34,h92]));go_wp2;go_roundw
    case rel=>exact ⟨true,k+1,rfl,by go_num,HN,by trivial⟩
    case measure=>simp [intOf];omega
theorem fk (t:ByteArray):t.data.toList.length=t.size:=by rw [Array.length_toList];rfl
theorem xX {t:ByteArray} (h:0<t.size):t.data.toList=t[0]::(t.extract 1 t.size).data.toList:=by
 rw [ByteArray.data_extract,Array.toList_extract,List.extract_eq_take_drop];have hl:=fk t
 have h0:0<t.data.toList.length:=by omega
 rw [List.take_of_length_le (by rw [List.length_drop];omega)]
 conv=>lhs;rw [←List.drop_zero (l:=t.data.toList),List.drop_eq_getElem_cons h0]
 rfl
theorem jW {t:ByteArray} (h:0<t.size):t.data.toList=(t.extract 0 (t.size-1)).data.toList++[t[t.size-1]]:=by
 rw [ByteArray.data_extract,Array.toList_extract,List.extract_eq_take_drop,List.drop_zero,Nat.sub_zero];have hl:=fk t
 have h0:t.size-1<t.data.toList.length:=by omega
 conv=>lhs;rw [←List.take_append_drop (t.size-1) t.data.toList,List.drop_eq_getElem_cons h0]
 rw [List.drop_of_length_le (by omega)]
 rfl
theorem aaa {b:UInt8} {l:List UInt8} (h:b=32):ah (b::l)=ah l:=by
 subst h;have:=s6 1 0 l
 simpa [spL] using this
theorem qk {b:UInt8} {l:List UInt8} (h:b=32):ah (l++[b])=ah l:=by
 subst h;have:=s6 0 1 l
 simpa [spL] using this
theorem jX (s:ByteArray) (w:World) (hs:s.size≤maxLen):
  Calls Tryz.prog 102 #[.string s] w fun e w'=>e= .returned (.string (baL (ah s.data.toList)))∧w=w':=by
 have HS:=agC hs;clear hs
 go_enter Tryz.func102,Tryz.ntmps102
 go_wp2_with fail
 go_loopw [0] (fun x wr=> ∃t:ByteArray,x= .string t∧t.size≤s.size∧Hid (ah t.data.toList=ah s.data.toList)∧wr=w) (fun x _=>match x with| .string t=>t.size|_=>0)
 case atStart=>exact ⟨s,rfl,agD _,agC rfl,rfl⟩
 case round=>
  obtain ⟨t,rfl,ht,HT,EG⟩:=hrel;subst EG;have Ku:=HS.out;unfold maxLen at Ku
  by_cases hc: ∃h:0<t.size,t[0]=32
  ·obtain ⟨h,hb⟩:=hc
   have At:(t.toList==[])=false:=by
    rw [beq_eq_false_iff_ne,ByteArray.toList_eq];intro e;have:=fk t;rw [e] at this;simp at this;omega
   have t1:((t[0].toNat:Int)==32)=true:=by rw [hb];rfl
   have Au:(t.extract 1 t.size).size=t.size-1:=by rw [ByteArray.size_extract];omega
   have Ca:=agC (show ah (t.extract 1 t.size).data.toList=ah s.data.toList by rw [←HT.out,xX h,aaa hb]);clear hb;go_wp2;go_roundw
   case rel=>exact ⟨t.extract 1 t.size,rfl,by omega,Ca,by trivial⟩
   case measure=>simp [Au];omega
  ·have HX:=agC (show t.data.toList.head? ≠some 32 from fun k=>by
    by_cases h:0<t.size
    ·rw [xX h] at k;injection k with k;exact hc ⟨h,k⟩
    ·have:t.data.toList=[]:=List.eq_nil_of_length_eq_zero (by rw [fk];omega)
     rw [this] at k;cases k)
   by_cases h0:t.size=0
   ·have At:t.toList=[]:=by rw [ByteArray.toList_eq];exact List.eq_nil_of_length_eq_zero (by rw [fk];exact h0)
    have Lo:(t.toList==[])=true:=by rw [At];rfl
    go_wp2_with fail
    go_loopw [0] (fun x wq=> ∃u:ByteArray,x= .string u∧u.size≤s.size∧Hid (ah u.data.toList=ah s.data.toList)∧Hid (u.data.toList.head? ≠some 32)∧wq=wr) (fun x _=>match x with| .string u=>u.size|_=>0)
    case atStart=>exact ⟨t,rfl,ht,HT,HX,by trivial⟩
    case round=>
     obtain ⟨u,rfl,hu,HU,HH,D8⟩:=hrel;subst D8;clear HT HX ht
     by_cases hd: ∃h:0<u.size,u[u.size-1]=32
     ·obtain ⟨h9,hb⟩:=hd
      have Fc:(u.toList==[])=false:=by
       rw [beq_eq_false_iff_ne,ByteArray.toList_eq];intro e;have:=fk u;rw [e] at this;simp at this;omega
      have ei:((u.size:Int)-1).toNat=u.size-1:=by omega
      have t9:((u[u.size-1].toNat:Int)==32)=true:=by rw [hb];rfl
      have Au:(u.extract 0 (u.size-1)).size=u.size-1:=by rw [ByteArray.size_extract];omega
      have Py:=agC (show ah (u.extract 0 (u.size-1)).data.toList=ah s.data.toList by rw [←HU.out,jW h9,qk hb])
      have PA:=agC (show (u.extract 0 (u.size-1)).data.toList.head? ≠some 32 from fun k=>HH.out (by
       rw [jW h9]
       cases hq:(u.extract 0 (u.size-1)).data.toList with
       |nil=>rw [hq] at k;cases k
       |cons a b=>rw [hq] at k;exact k))
      clear hb;go_wp2;go_roundw
      case rel=>exact ⟨u.extract 0 (u.size-1),rfl,by omega,Py,PA,by trivial⟩
      case measure=>simp [Au];omega
     ·have HF:=agC (show u=baL (ah s.data.toList) by
       have:ah u.data.toList=u.data.toList:=p9 HH.out (fun k=>by
        by_cases h9:0<u.size
        ·rw [jW h9,List.getLast?_concat] at k;injection k with k;exact hd ⟨h9,k⟩
        ·have:u.data.toList=[]:=List.eq_nil_of_length_eq_zero (by rw [fk];omega)
         rw [this] at k;cases k)
       rw [←HU.out,this,ip])
      by_cases h9:u.size=0
      ·have Fc:u.toList=[]:=by rw [ByteArray.toList_eq];exact List.eq_nil_of_length_eq_zero (by rw [fk];exact h9)
       have MA:(u.toList==[])=true:=by rw [Fc];rfl
       clear HU HH;go_wp2;go_ret;exact ⟨by rw [←HF.out];rfl,rfl⟩
      ·have PC:0<u.size:=by omega
       have Fc:(u.toList==[])=false:=by
        rw [beq_eq_false_iff_ne,ByteArray.toList_eq];intro e;have:=fk u;rw [e] at this;simp at this;omega
       have ei:((u.size:Int)-1).toNat=u.size-1:=by omega
       have t9:((u[u.size-1].toNat:Int)==32)=false:=by
        rw [beq_eq_false_iff_ne];intro e;exact hd ⟨PC,UInt8.toNat_inj.mp (by rw [show (32:UInt8).toNat=32 from rfl];omega)⟩
       clear HU HH;go_wp2;go_ret;exact ⟨by rw [←HF.out];rfl,rfl⟩
   ·have h:0<t.size:=by omega
    have At:(t.toList==[])=false:=by
     rw [beq_eq_false_iff_ne,ByteArray.toList_eq];intro e;have:=fk t;rw [e] at this;simp at this;omega
    have t1:((t[0].toNat:Int)==32)=false:=by
     rw [beq_eq_false_iff_ne];intro e;exact hc ⟨h,UInt8.toNat_inj.mp (by rw [show (32:UInt8).toNat=32 from rfl];omega)⟩
    go_wp2_with fail
    go_loopw [0] (fun x wq=> ∃u:ByteArray,x= .string u∧u.size≤s.size∧Hid (ah u.data.toList=ah s.data.toList)∧Hid (u.data.toList.head? ≠some 32)∧wq=wr) (fun x _=>match x with| .string u=>u.size|_=>0)
    case atStart=>exact ⟨t,rfl,ht,HT,HX,by trivial⟩
    case round=>
     obtain ⟨u,rfl,hu,HU,HH,D8⟩:=hrel;subst D8;clear HT HX ht
     by_cases hd: ∃h:0<u.size,u[u.size-1]=32
     ·obtain ⟨h9,hb⟩:=hd
      have Fc:(u.toList==[])=false:=by
       rw [beq_eq_false_iff_ne,ByteArray.toList_eq];intro e;have:=fk u;rw [e] at this;simp at this;omega
      have ei:((u.size:Int)-1).toNat=u.size-1:=by omega
      have t9:((u[u.size-1].toNat:Int)==32)=true:=by rw [hb];rfl
      have Au:(u.extract 0 (u.size-1)).size=u.size-1:=by rw [ByteArray.size_extract];omega
      have Py:=agC (show ah (u.extract 0 (u.size-1)).data.toList=ah s.data.toList by rw [←HU.out,jW h9,qk hb])
      have PA:=agC (show (u.extract 0 (u.size-1)).data.toList.head? ≠some 32 from fun k=>HH.out (by
       rw [jW h9]
       cases hq:(u.extract 0 (u.size-1)).data.toList with
       |nil=>rw [hq] at k;cases k
       |cons a b=>rw [hq] at k;exact k))
      clear hb;go_wp2;go_roundw
      case rel=>exact ⟨u.extract 0 (u.size-1),rfl,by omega,Py,PA,by trivial⟩
      case measure=>simp [Au];omega
     ·have HF:=agC (show u=baL (ah s.data.toList) by
       have:ah u.data.toList=u.data.toList:=p9 HH.out (fun k=>by
        by_cases h9:0<u.size
        ·rw [jW h9,List.getLast?_concat] at k;injection k with k;exact hd ⟨h9,k⟩
        ·have:u.data.toList=[]:=List.eq_nil_of_length_eq_zero (by rw [fk];omega)
         rw [this] at k;cases k)
       rw [←HU.out,this,ip])
      by_cases h9:u.size=0
      ·have Fc:u.toList=[]:=by rw [ByteArray.toList_eq];exact List.eq_nil_of_length_eq_zero (by rw [fk];exact h9)
       have MA:(u.toList==[])=true:=by rw [Fc];rfl
       clear HU HH;go_wp2;go_ret;exact ⟨by rw [←HF.out];rfl,rfl⟩
      ·have PC:0<u.size:=by omega
       have Fc:(u.toList==[])=false:=by
        rw [beq_eq_false_iff_ne,ByteArray.toList_eq];intro e;have:=fk u;rw [e] at this;simp at this;omega
       have ei:((u.size:Int)-1).toNat=u.size-1:=by omega
       have t9:((u[u.size-1].toNat:Int)==32)=false:=by
        rw [beq_eq_false_iff_ne];intro e;exact hd ⟨PC,UInt8.toNat_inj.mp (by rw [show (32:UInt8).toNat=32 from rfl];omega)⟩
       clear HU HH;go_wp2;go_ret;exact ⟨by rw [←HF.out];rfl,rfl⟩
theorem zK {l:List UInt8} {q:Bool} {k:Nat} (h:CodeAt l q k) (hk: ¬k<l.length):hs 0 l=none:=by
 rcases h with ⟨h1,h2⟩|⟨h1,h2⟩
 ·rw [List.drop_of_length_le (by omega),hs] at h2
  exact h2
 ·exact h2
theorem tw {l:List UInt8} {k:Nat} (h:CodeAt l false k) (hk:k<l.length) (hb:l[k]=35):hs 0 l=some k:=by
 have e:=h.here hk;rw [if_neg (by simp),hb,hs,if_pos ⟨rfl,rfl⟩] at e;rw [e];simp
theorem acf (s:ByteArray) (w:World) (n:Nat) (hs:s.size≤maxLen):
  Calls Tryz.prog 102 #[.string s] (w.drewN n) fun e w'=>e= .returned (.string (baL (ah s.data.toList)))∧w'=w.drewN n:=
 (jX s (w.drewN n) hs).mono fun e w' h=>⟨h.1,h.2.symm⟩
theorem tz (l:List UInt8) (k:Nat):(baL l).extract (k+1) l.length=baL (l.drop (k+1)):=by rw [←aR l,iC]
theorem wt (l:List UInt8) (w:World) (hl:l.length≤2097152):
  Calls Tryz.prog 105 #[.string (baL l)] w fun e w'=>e= .returned (.tuple #[.string (baL (dX l)), .string (baL (ey l))])∧Below w.heap.size w w':=by
 have hz:=aR l
 have Ku:l.length≤maxLen:=by unfold maxLen;omega
 go_enter Tryz.func105,Tryz.ntmps105
 go_wp2_with fail
 go_loopw [4,5] (fun x i wr=> ∃(q:Bool) (k:Nat),x= .bool q∧i= .int .i64 (k:Int)∧Hid (CodeAt l q k)∧wr=w) (fun _ i _=>l.length+1-(intOf i).toNat)
 case atStart=>exact ⟨false,0,rfl,rfl,agC (CodeAt.zero l),rfl⟩
 case round=>
  obtain ⟨q,k,rfl,rfl,HC,EG⟩:=hrel;subst EG;have CB:=HC.out.le
  by_cases Ab:k<l.length
  case neg=>
   have Bm: ¬(k:Int)<(l.length:Int):=by omega
   have HE:=agC (show dX l=ah l∧ey l=[] by unfold dX ey;rw [zK HC.out Ab];exact ⟨rfl,rfl⟩);go_wp2_with fail;refine (jX _ _ (by rw [aR];exact Ku)).mono ?_;rintro e w1 ⟨rfl,rfl⟩;rw [bK];go_wp2;go_ret2;exact ⟨by rw [HE.out.1,HE.out.2];rfl,Below.refl _ _⟩
  have Bm:(k:Int)<(l.length:Int):=by omega
  have hb:=pD l k (by omega)
  by_cases h34:l[k]=34
  ·have OF:((l[k].toNat:Int)==34)=true:=by rw [h34];rfl
   have Ii:((l[k].toNat:Int)==92)=false:=by rw [h34];rfl
   have LG:((l[k].toNat:Int)==35)=false:=by rw [h34];rfl
   cases q with
   |false=>
    have HN:=agC (HC.out.next Ab true (by rw [h34];simp) (by rw [h34];decide));clear h34;go_wp2;go_roundw
    case rel=>exact ⟨true,k+1,rfl,by go_num,HN,by trivial⟩
    case measure=>simp [intOf];omega
   |true=>
    have HN:=agC (HC.out.next Ab false (by simp) (by rw [h34];decide));clear h34;go_wp2;go_roundw
    case rel=>exact ⟨false,k+1,rfl,by go_num,HN,by trivial⟩
    case measure=>simp [intOf];omega
  have OF:((l[k].toNat:Int)==34)=false:=by rw [beq_eq_false_iff_ne];intro e;exact h34 (ko (c:=34) e)
  cases q with
  |false=>
   by_cases h35:l[k]=35
   ·have LG:((l[k].toNat:Int)==35)=true:=by rw [h35];rfl
    have Ii:((l[k].toNat:Int)==92)=false:=by rw [h35];rfl
    have HF:=agC (show dX l=ah (l.take k)∧ey l=ah (l.drop (k+1)) by unfold dX ey;rw [tw HC.out Ab h35];exact ⟨rfl,rfl⟩)
    have AU:IntKind.i64.wrap ((k:Int)+1)=((k+1:Nat):Int):=by rw [IntWalk.i64_in _ (by omega)];omega
    have GN:=agC (fun w' n=>acf ((baL l).extract 0 k) w' n (by rw [iB,aR,List.length_take];omega));have Ca:=agC (fun w' n=>acf ((baL l).extract (k+1) l.length) w' n (by rw [tz,aR,List.length_drop];omega))
    have g0:(0:Int)≤(k:Int):=by omega
    have g1:(k:Int)≤(l.length:Int):=by omega
    have g2:(k:Int)+1≤(l.length:Int):=by omega
    have g3:(0:Int)≤(k:Int)+1:=by omega
    clear h35;go_wp2_with fail
    go_quiet (first
     |(go_at_call 102;with_reducible exact Calls.quiet_of_same (GN.out _ _))
     |(go_at_call 102;with_reducible exact Calls.quiet_of_same (Ca.out _ _)))
    go_wp2;go_ret2;exact ⟨by rw [HF.out.1,HF.out.2,iB,tz];rfl,⟨rfl,rfl,rfl,agD _,fun _ _=>rfl⟩⟩
   ·have LG:((l[k].toNat:Int)==35)=false:=by rw [beq_eq_false_iff_ne];intro e;exact h35 (ko (c:=35) e)
    have HN:=agC (HC.out.next Ab false (by simp [h35]) (by simp [nx,h34]))
    by_cases h92:l[k]=92
    ·have Ii:((l[k].toNat:Int)==92)=true:=by rw [h92];rfl
     clear h92;go_wp2;go_roundw
     case rel=>exact ⟨false,k+1,rfl,by go_num,HN,by trivial⟩
     case measure=>simp [intOf];omega
    ·have Ii:((l[k].toNat:Int)==92)=false:=by rw [beq_eq_false_iff_ne];intro e;exact h92 (ko (c:=92) e)
     go_wp2;go_roundw
     case rel=>exact ⟨false,k+1,rfl,by go_num,HN,by trivial⟩
     case measure=>simp [intOf];omega
  |true=>
   by_cases h92:l[k]=92
   ·have Ii:((l[k].toNat:Int)==92)=true:=by rw [h92];rfl
    have HN:=agC (HC.out.skip Ab h92);clear h92;go_wp2;go_roundw
    case rel=>exact ⟨true,k+1+1,rfl,by go_num,HN,by trivial⟩
    case measure=>simp [intOf];omega
   ·have Ii:((l[k].toNat:Int)==92)=false:=by rw [beq_eq_false_iff_ne];intro e;exact h92 (ko (c:=92) e)
    have HN:=agC (HC.out.next Ab true (by simp) (by simp [nx,h34,h92]));go_wp2;go_roundw
    case rel=>exact ⟨true,k+1,rfl,by go_num,HN,by trivial⟩
    case measure=>simp [intOf];omega
def eG (s:ByteArray):Bool:=aD s&&(decide (s.size≤60)&&(!dV s.data.toList 10&&(s.data.toList.head? !=some 32&&s.data.toList.getLast? !=some 32)))
def emB (s:ByteArray):Bool:=s.size==0
theorem jh {s:ByteArray} (h:emB s=true):(s.toList==[])=true∧s.toList=[]∧s.toList.isEmpty=true∧(!s.toList.isEmpty)=false:=by
 have:s.toList=[]:=by
  rw [ByteArray.toList_eq];exact List.length_eq_zero_iff.mp (by rw [Array.length_toList];exact beq_iff_eq.mp h)
 rw [this];exact ⟨rfl,rfl,rfl,rfl⟩
theorem kG {s:ByteArray} (h:emB s=false):(s.toList==[])=false∧s.toList≠[]∧s.toList.isEmpty=false∧(!s.toList.isEmpty)=true:=by
 have hn:s.toList≠[]:=by
  intro e;rw [ByteArray.toList_eq] at e
  have h2:s.data.toList.length=0:=by rw [e];rfl
  rw [Array.length_toList] at h2;have h3:s.size=0:=h2
  unfold emB at h;rw [h3] at h;cases h
 have hi:s.toList.isEmpty=false:=by rw [Bool.eq_false_iff];exact fun k=>hn (List.isEmpty_iff.mp k)
 exact ⟨beq_eq_false_iff_ne.mpr hn,hn,hi,by rw [hi];rfl⟩
def aS (s:ByteArray):Nat→List ByteArray
 |0=>[]
 |k+1=>if s.data.toList[k]? =some 10 then aS s k++[s.extract (cF s.data.toList k) k] else aS s k
def cT (s:ByteArray):List ByteArray:=
 if cF s.data.toList s.size<s.size then aS s s.size++[s.extract (cF s.data.toList s.size) s.size] else aS s s.size
def bC (s:ByteArray):List ByteArray:=if aD s=true then cT s else []
theorem dF (s:ByteArray) (k:Nat):(aS s k).length=eI s.data.toList k:=by
 induction k with
 |zero=>rfl
 |succ k ih=>simp only [aS,eI];split<;>simp [ih]
theorem uN (s:ByteArray) (n k a b:Nat) (ha:(bY s.data.toList n)[k]? =some a) (hb:(bY s.data.toList n)[k+1]? =some b):
  1≤b∧a≤b-1∧b≤n∧(aS s n)[k]? =some (s.extract a (b-1)):=by
 induction n generalizing k a b with
 |zero=>simp [bY] at hb
 |succ n ih=>
  simp only [bY,aS] at ha hb⊢
  split at ha
  ·rename_i BU
   rw [if_pos BU] at hb⊢;have Ai:=cP s.data.toList n
   have Ab:k+1<(bY s.data.toList n++[n+1]).length:=by
    by_cases hk:k+1<(bY s.data.toList n++[n+1]).length
    ·exact hk
    ·rw [List.getElem?_eq_none (by omega)] at hb;cases hb
   simp only [agE,List.length_cons,List.length_nil] at Ab;rw [List.getElem?_append_left (by omega)] at ha
   by_cases hk:k+1<(bY s.data.toList n).length
   ·rw [List.getElem?_append_left (by omega)] at hb
    obtain ⟨h1,h2,h3,h4⟩:=ih k a b ha hb;refine ⟨h1,h2,by omega, ?_⟩;rw [List.getElem?_append_left (by rw [dF];omega)];exact h4
   ·have EF:k=eI s.data.toList n:=by omega
    rw [List.getElem?_append_right (by omega)] at hb;rw [show k+1-(bY s.data.toList n).length=0 from by omega] at hb;simp only [List.getElem?_cons_zero,Option.some.injEq] at hb;subst hb;rw [EF,mX] at ha;simp only [Option.some.injEq] at ha;subst ha;have Dr:=jA s.data.toList n;refine ⟨by omega,by omega,by omega, ?_⟩;rw [List.getElem?_append_right (by rw [dF];omega),dF,EF]
    simp
  ·rename_i BU
   rw [if_neg BU] at hb⊢;obtain ⟨h1,h2,h3,h4⟩:=ih k a b ha hb;exact ⟨h1,h2,by omega,h4⟩
def gU:List UInt8→List UInt8→List (List UInt8)
 |acc,[]=>if acc=[] then [] else [acc]
 |acc,b::r=>if b=10 then acc::gU [] r else gU (acc++[b]) r
def ch (L:List ByteArray):List (List UInt8):=L.map fun t=>t.data.toList
theorem tA {A B:List ByteArray} (h:ch A=ch B):A=B:=by
 refine (List.map_inj_right ?_).1 h;intro x y TJ
 apply ByteArray.ext
 exact Array.toList_inj.1 TJ
theorem jx (A B:List ByteArray):ch (A++B)=ch A++ch B:=by simp [ch]
theorem ky (s:ByteArray) (a b:Nat):(s.extract a b).data.toList=(s.data.toList.take b).drop a:=by
 simp [ByteArray.data_extract,List.extract,List.drop_take]
theorem wu (s:ByteArray) (k:Nat) (hk:k≤s.size):
  gU [] s.data.toList=ch (aS s k)++gU ((s.data.toList.take k).drop (cF s.data.toList k)) (s.data.toList.drop k):=by
 induction k with
 |zero=>simp [aS,ch,cF]
 |succ k ih=>
  have Ab:k<s.data.toList.length:=by simp;omega
  rw [ih (by omega)];have hd:s.data.toList.drop k=s.data.toList[k]::s.data.toList.drop (k+1):=List.drop_eq_getElem_cons Ab;have hf:=jA s.data.toList k;rw [hd];simp only [aS,cF,List.getElem?_eq_getElem Ab,Option.some.injEq]
  show ch (aS s k)++(if s.data.toList[k]=10 then _ else _)=_
  by_cases BU:s.data.toList[k]=10
  ·rw [if_pos BU,if_pos BU,if_pos BU,jx,List.append_assoc]
   congr 1
   have e1:ch [s.extract (cF s.data.toList k) k]=[(s.data.toList.take k).drop (cF s.data.toList k)]:=by
    simp only [ch,List.map_cons,List.map_nil,ky]
   have e2:(s.data.toList.take (k+1)).drop (k+1)=[]:=by
    apply List.drop_eq_nil_of_le;simp;omega
   rw [e1,e2];rfl
  ·rw [if_neg BU,if_neg BU,if_neg BU]
   congr 2
   rw [List.take_succ_eq_append_getElem Ab,List.drop_append_of_le_length (by simp;omega)]
theorem zL (s:ByteArray):ch (cT s)=gU [] s.data.toList:=by
 have h:=wu s s.size (agD _)
 have hl:s.data.toList.length=s.size:=by simp
 have ht:s.data.toList.take s.size=s.data.toList:=List.take_of_length_le (by omega);have hd:s.data.toList.drop s.size=[]:=List.drop_eq_nil_of_le (by omega);have hf:=jA s.data.toList s.size;rw [h,ht,hd]
 show _=_++(if _ then _ else _)
 unfold cT
 by_cases hr:cF s.data.toList s.size<s.size
 ·rw [if_pos hr,if_neg (by intro he;have:=congrArg List.length he;simp only [List.length_drop,List.length_nil,hl] at this;omega),jx]
  congr 1
  simp only [ch,List.map_cons,List.map_nil,ky,ht]
 ·rw [if_neg hr,if_pos (List.drop_eq_nil_of_le (by omega)),List.append_nil]
theorem wv (acc t r:List UInt8) (h: ∀x∈t,x≠10):gU acc (t++10::r)=(acc++t)::gU [] r:=by
 induction t generalizing acc with
 |nil=>simp [gU]
 |cons x t ih=>
  simp only [List.cons_append,gU];rw [if_neg (h x (by simp)),ih _ (fun y hy=>h y (by simp [hy]))]
  simp
theorem tB (L:List ByteArray) (k:Nat) (hk:k≤L.length):(bM L k).data.toList=(((ch L).take k).map (· ++[10])).flatten:=by
 induction k with
 |zero=>rfl
 |succ k ih=>
  have Ab:k<L.length:=by omega
  have e:bM L (k+1)=bM L k++d9 L k++⟨#[10]⟩:=rfl
  have hl:d9 L k=L[k]:=by simp [d9,List.getElem?_eq_getElem Ab]
  have hb:(ch L).take (k+1)=(ch L).take k++[L[k].data.toList]:=by
   rw [List.take_succ_eq_append_getElem (by simpa [ch] using Ab)]
   simp [ch]
  rw [e,hb,hl];simp only [ByteArray.data_append,Array.toList_append,ih (by omega),List.map_append,List.flatten_append,List.map_cons,List.map_nil,List.flatten_cons,List.flatten_nil,List.append_nil,List.append_assoc]
theorem zM (L:List ByteArray):(bM L L.length).data.toList=((ch L).map (· ++[10])).flatten:=by
 rw [tB L _ (agD _),List.take_of_length_le (by simp [ch])]
theorem wy (L:List ByteArray) (j k:Nat) (h:j≤k):(bM L j).size≤(bM L k).size:=by
 induction k with
 |zero=>obtain rfl:j=0:=by omega
        exact agD _
 |succ k ih=>
  by_cases hj:j=k+1
  ·subst hj;exact agD _
  ·have:=ih (by omega);rw [fX];omega
theorem zN (L:List ByteArray) (hp: ∀t∈L,aq t.data.toList=true) (hs:(bM L L.length).size≤20000):el L=true:=by
 apply mR
 intro j hj
 have hl:d9 L j=L[j]:=by simp [d9,List.getElem?_eq_getElem hj]
 have h1:=fX L j;have h2:=wy L (j+1) L.length (by omega);rw [iG,hl,hp _ (List.getElem_mem _)];rw [hl] at h1
 simp;omega
theorem wz (s:ByteArray):s.size=s.data.toList.length:=by simp
theorem rc {l:List UInt8} (h:aq l=true): ∀x∈l,x≠10:=by
 intro x hx he;subst he;simp only [aq,List.all_eq_true] at h;have:=h 10 hx
 simp [bV] at this
theorem wA (M:List (List UInt8)) (h: ∀t∈M,∀x∈t,x≠10):gU [] ((M.map (· ++[10])).flatten)=M:=by
 induction M with
 |nil=>rfl
 |cons t M ih=>
  simp only [List.map_cons,List.flatten_cons,List.append_assoc,List.cons_append,List.nil_append];rw [wv [] t _ (h t (by simp)),ih (fun u hu=>h u (by simp [hu]))]
  rfl
theorem acg (M:List (List UInt8)) (h: ∀t∈M,aq t=true):okL ((M.map (· ++[10])).flatten)=true:=by
 induction M with
 |nil=>rfl
 |cons t M ih=>
  have h1:=h t (by simp);have h2:=ih (fun u hu=>h u (by simp [hu]));simp only [okL,aq,List.all_eq_true] at h1 h2⊢;intro x hx;simp only [List.map_cons,List.flatten_cons,List.mem_append,List.mem_singleton] at hx
  rcases hx with (hx|rfl)|hx
  ·simp [okI,h1 x hx]
  ·rfl
  ·exact h2 x hx
theorem kS (L:List ByteArray) (h:el L=true):aD (fS L)=true∧bC (fS L)=L:=by
 have hj:fS L=bM L L.length:=by rw [fS,if_pos h]
 have hall: ∀j,j<L.length→iG L j=true:=by
  intro j Nj;simp only [el,List.all_eq_true] at h;exact h j (List.mem_range.2 Nj)
 have hp: ∀t∈ch L,aq t=true:=by
  intro t ht;obtain ⟨u,hu,rfl⟩:=List.mem_map.1 ht;obtain ⟨j,Nj,rfl⟩:=List.getElem_of_mem hu;have:=hall j Nj
  have hl:d9 L j=L[j]:=by simp [d9,List.getElem?_eq_getElem Nj]
  rw [iG,hl] at this;simp only [Bool.and_eq_true] at this;exact this.1
 have hb:=zM L
 have ht:aD (bM L L.length)=true:=by
  rw [aD,hb,acg _ hp];have:=abK L L.length hall
  simp [this]
 rw [hj];refine ⟨ht, ?_⟩;rw [bC,if_pos ht]
 apply tA
 rw [zL,hb];exact wA _ (fun t ht=>rc (hp t ht))
theorem kq (s:ByteArray) (k:Nat): ∀t∈aS s k,t.size≤s.size:=by
 induction k with
 |zero=>intro t ht;simp [aS] at ht
 |succ k ih=>
  intro t ht;simp only [aS] at ht
  split at ht
  ·rcases List.mem_append.1 ht with ht|ht
   ·exact ih t ht
   ·simp only [List.mem_singleton] at ht;subst ht;rw [ByteArray.size_extract];omega
  ·exact ih t ht
theorem iK (s:ByteArray): ∀t∈bC s,t.size≤s.size:=by
 intro t ht;unfold bC at ht
 split at ht
 ·unfold cT at ht
  split at ht
  ·rcases List.mem_append.1 ht with ht|ht
   ·exact kq s _ t ht
   ·simp only [List.mem_singleton] at ht;subst ht;rw [ByteArray.size_extract];omega
  ·exact kq s _ t ht
 ·cases ht
theorem af {a b c:World} {R:Option Nat} (h:a.grownBy b R) (k:b.grownBy c R):a.grownBy c R:=
 ⟨k.os.trans h.os,k.tape.trans h.tape,k.output.trans h.output,Nat.le_trans h.size k.size,fun i hi hn=>(k.block i (Nat.lt_of_lt_of_le hi h.size) hn).trans (h.block i hi hn)⟩
theorem vG {a b:World} {R:Option Nat} (h:a.grownBy b R):a.grownBy b.drew R:=⟨h.os,h.tape,h.output,h.size,h.block⟩
theorem bq {a b:World} {R:Option Nat} (h:a.grownBy b R) (o:Obj):a.grownBy (b.alloc o) R:=af h (agF b o R)
theorem pf {a b:World} {R:Nat} (h:a.grownBy b (some R)) (off:Nat) (u:Value):a.grownBy (b.setCell ⟨R,off,none⟩ u) (some R):=
 af h ⟨rfl,rfl,rfl,by simp [World.setCell],fun k _ hn=>Below.heap_setCell _ _ _ _ (fun e=>hn (by simp [e]))⟩
theorem te {a b:World} {R:Nat} (h:a.grownBy b (some R)) {B:Nat} (hB:B≤a.heap.size) (hR:B≤R):Below B a b:=
 ⟨h.os,h.tape,h.output,h.size,fun k hk=>h.block k (by omega) (by intro e;cases e;omega)⟩
def Codes (w:World) (R:Nat) (ao:Option Addr) (n:Nat):Prop:=
 n≤2000∧(n=0∨ ∃b off,ao=some ⟨b,off,none⟩∧b<R∧ ∀j,j<n→ ∃z:Int,0≤z∧z≤255∧w.cell? ⟨b,off+j,none⟩=some (.int .u8 z))
def Rd (w:World) (R p:Nat):Prop:=
 ∃ao n cap,w.heap[R]? =some (.cells #[.slice ao n cap, .int .i64 p] 92 (0,0))∧Codes w R ao n
theorem adZ (a b:Nat) (ha:a<4611686018427387904) (hb:b<4611686018427387904):bits .xor .i64 (a:Int) (b:Int)=((a^^^b:Nat):Int):=by
 have hx:a^^^b<2^62:=Nat.xor_lt_two_pow (by omega) (by omega)
 have h1:(BitVec.ofInt 64 (a:Int)).toNat=a:=by
  rw [BitVec.ofInt_natCast,BitVec.toNat_ofNat];exact Nat.mod_eq_of_lt (by omega)
 have h2:(BitVec.ofInt 64 (b:Int)).toNat=b:=by
  rw [BitVec.ofInt_natCast,BitVec.toNat_ofNat];exact Nat.mod_eq_of_lt (by omega)
 show IntKind.i64.wrap ((BitVec.ofInt 64 (a:Int)^^^BitVec.ofInt 64 (b:Int)).toNat:Int)=_
 rw [BitVec.toNat_xor,h1,h2]
 simp [IntKind.wrap,IntKind.bits,IntKind.signed]
 omega
def qW (R p:Nat) (n:Int) (w:World) (e:Ending) (w':World):Prop:=
 ∃m:Int,e= .returned (.int .i64 m)∧0≤m∧(1≤n→m<n)∧(n<1→m=0)∧Rd w' R (p+1)∧w.grownBy w' (some R)∧w'.heap.size=w.heap.size
theorem kN (x n:Int) (hx:0≤x) (hn:1≤n):0≤x % n∧(1≤n→x % n<n)∧(n<1→x % n=0):=
 ⟨Int.emod_nonneg _ (by omega),fun _=>Int.emod_lt_of_pos _ (by omega),fun h=>by omega⟩
theorem Rd.cells {w:World} {R p:Nat} {ao:Option Addr} {n cap:Nat} (h:w.heap[R]? =some (.cells #[.slice ao n cap, .int .i64 p] 92 (0,0))):
  w.cell? ⟨R,0,none⟩=some (.slice ao n cap)∧w.cell? ⟨R,1,none⟩=some (.int .i64 p)∧w.frozen? ⟨R,1,none⟩=false:=by
 refine ⟨?_, ?_, ?_⟩<;>simp [World.cell?,World.frozen?,h]
theorem Codes.mono {w w':World} {R:Nat} {ao:Option Addr} {n:Nat} (hc:Codes w R ao n) (hR:R≤w.heap.size) (hg:w.grownBy w' (some R)):Codes w' R ao n:=by
 obtain ⟨h1,h2⟩:=hc;refine ⟨h1, ?_⟩
 rcases h2 with h2|⟨b,off,ha,hb,hj⟩
 ·exact .inl h2
 ·refine .inr ⟨b,off,ha,hb,fun j IX=> ?_⟩
  obtain ⟨z,z0,z1,hz⟩:=hj j IX;exact ⟨z,z0,z1,hg.cell hz (by intro e;simp only [Option.some.injEq] at e;omega)⟩
theorem Rd.step {w:World} {R p:Nat} {ao:Option Addr} {n cap:Nat} (h:w.heap[R]? =some (.cells #[.slice ao n cap, .int .i64 p] 92 (0,0))) (hc:Codes w R ao n):
  Rd (w.setCell ⟨R,1,none⟩ (.int .i64 ((p:Int)+1))) R (p+1)∧w.grownBy (w.setCell ⟨R,1,none⟩ (.int .i64 ((p:Int)+1))) (some R)∧(w.setCell ⟨R,1,none⟩ (.int .i64 ((p:Int)+1))).heap.size=w.heap.size:=by
 have hR:R<w.heap.size:=by
  by_cases hk:R<w.heap.size
  ·exact hk
  ·rw [Array.getElem?_eq_none (by omega)] at h;cases h
 have hg:w.grownBy (w.setCell ⟨R,1,none⟩ (.int .i64 ((p:Int)+1))) (some R):=pf (World.grownBy.refl _ _) _ _;refine ⟨⟨ao,n,cap, ?_,hc.mono (by omega) hg⟩,hg,by simp [World.setCell]⟩
 simp [World.setCell,Array.getElem?_modify,h]
theorem kO (w:World) (n:Nat):(w.drewN n).heap=w.heap:=by
 induction n with
 |zero=>rfl
 |succ n ih=>exact ih
theorem tg {a b:World} {R:Option Nat} (h:a.grownBy b R) (n:Nat):a.grownBy (b.drewN n) R:=by
 induction n with
 |zero=>exact h
 |succ n ih=>exact vG ih
theorem Rd.drewN {w:World} {R p:Nat} (h:Rd w R p) (n:Nat):Rd (w.drewN n) R p:=by
 obtain ⟨ao,k,cap,hc,h1,h2⟩:=h;refine ⟨ao,k,cap,by rw [kO];exact hc,h1, ?_⟩
 rcases h2 with h2|⟨b,off,ha,hb,hj⟩
 ·exact .inl h2
 ·refine .inr ⟨b,off,ha,hb,fun j IX=> ?_⟩
  obtain ⟨z,z0,z1,hz⟩:=hj j IX;exact ⟨z,z0,z1,by rw [World.cell?_of_block (w:=w) (by rw [kO])];exact hz⟩
theorem ab7 (X n:Int) (h0:0≤X) (h1:X<4611686018427387904) (hn:1≤n):0≤(bits .xor .i64 X (X/64)).tmod n∧(bits .xor .i64 X (X/64)).tmod n<n:=by
 obtain ⟨x,rfl⟩:=agG h0
 have hd:((x:Int)/64)=((x/64:Nat):Int):=by omega
 rw [hd,adZ _ _ (by omega) (by omega)];generalize (x^^^x/64)=a;exact ⟨Int.tmod_nonneg _ (by omega),Int.tmod_lt_of_pos _ (by omega)⟩
theorem ms (R p len cap:Nat) (ao:Option Addr) (n:Int) (w:World) (hp:p<2147483648) (h:n<1∨(len:Int)=0)
 (hc:w.heap[R]? =some (.cells #[.slice ao len cap, .int .i64 p] 92 (0,0))) (hC:Codes w R ao len):
  Calls Tryz.prog 79 #[.pointer (some ⟨R,0,none⟩), .int .i64 n] w (qW R p n w):=by
 have HS:=agC (Rd.step hc hC);obtain ⟨c0,c1,f1⟩:=Rd.cells hc;clear hc hC
 by_cases hn:n<1
 ·have hb:decide (n<1)=true:=by simpa using hn
  clear h
  go_enter Tryz.func79,Tryz.ntmps79
  go_wp2
  all_goals go_ret
  all_goals exact ⟨0,rfl,by omega,by omega,by omega,HS.out.1,HS.out.2.1,HS.out.2.2⟩
 ·have h0:((len:Int)==0)=true:=by simp;omega
  have hb:decide (n<1)=false:=by simpa using hn
  clear h
  go_enter Tryz.func79,Tryz.ntmps79
  go_wp2
  all_goals go_ret
  all_goals exact ⟨0,rfl,by omega,by omega,by omega,HS.out.1,HS.out.2.1,HS.out.2.2⟩
theorem ad0 (R p b off len cap:Nat) (n:Int) (w:World) (hp:p<2147483648) (hl:len≤2000) (hn:1≤n)
 (hc:w.heap[R]? =some (.cells #[.slice (some ⟨b,off,none⟩) len cap, .int .i64 p] 92 (0,0))) (hC:Codes w R (some ⟨b,off,none⟩) len) (hb:b<R)
 (Ab:p<len) (z:Int) (Az:0≤z) (Ax:z≤255) (hz:w.cell? ⟨b,off+p,none⟩=some (.int .u8 z)):
  Calls Tryz.prog 79 #[.pointer (some ⟨R,0,none⟩), .int .i64 n] w (qW R p n w):=by
 have HS:=agC (Rd.step hc hC);obtain ⟨c0,c1,f1⟩:=Rd.cells hc;clear hc hC
 have h0:((len:Int)==0)=false:=by simp;omega
 have Aa:decide (n<1)=false:=by simp;omega
 go_enter Tryz.func79,Tryz.ntmps79
 go_wp2;go_ret;exact ⟨z % n,rfl,(kN z n Az hn).1,(kN z n Az hn).2.1,(kN z n Az hn).2.2,HS.out.1,HS.out.2.1,HS.out.2.2⟩
theorem zC (R p b off len cap:Nat) (n:Int) (w:World) (hp:p<2147483648) (hl:len≤2000) (Iq:0<len) (hn:1≤n)
 (hc:w.heap[R]? =some (.cells #[.slice (some ⟨b,off,none⟩) len cap, .int .i64 p] 92 (0,0))) (hC:Codes w R (some ⟨b,off,none⟩) len) (hb:b<R)
 (Ab: ¬p<len) (z:Int) (Az:0≤z) (Ax:z≤255) (hz:w.cell? ⟨b,off+p % len,none⟩=some (.int .u8 z))
 (y:Int) (Fo:0≤y) (EU:y≤255) (hy:w.cell? ⟨b,off+(p*7+3) % len,none⟩=some (.int .u8 y)):
  Calls Tryz.prog 79 #[.pointer (some ⟨R,0,none⟩), .int .i64 n] w (qW R p n w):=by
 have HS:=agC (Rd.step hc hC);obtain ⟨c0,c1,f1⟩:=Rd.cells hc;clear hc hC
 have h0:((len:Int)==0)=false:=by simp;omega
 have Aa:decide (n<1)=false:=by simp;omega
 obtain ⟨u,hu⟩: ∃u,p % len=u:=⟨_,rfl⟩
 obtain ⟨v,hv⟩: ∃v,(p*7+3) % len=v:=⟨_,rfl⟩
 have JP:u<len:=by rw [←hu];exact Nat.mod_lt _ Iq
 have VB:v<len:=by rw [←hv];exact Nat.mod_lt _ Iq
 have e1:(p:Int).tmod len=(u:Int):=by rw [←hu,Int.tmod_eq_emod_of_nonneg (by omega),Int.natCast_emod]
 have e2:((p:Int)*7+3).tmod len=(v:Int):=by
  rw [←hv,show ((p:Int)*7+3)=((p*7+3:Nat):Int) from by omega,Int.tmod_eq_emod_of_nonneg (by omega),Int.natCast_emod]
 rw [hu] at hz;rw [hv] at hy;clear hu hv;have q0:0≤(p:Int).tdiv len:=Int.tdiv_nonneg (by omega) (by omega);have q1:(p:Int).tdiv len≤p:=Int.tdiv_le_self _ (by omega);generalize hq:(p:Int).tdiv len=q at q0 q1;have r1:IntKind.i64.wrap (z*131)=z*131:=IntWalk.i64_in _ (by omega);have r2:IntKind.i64.wrap ((p:Int)*7)=(p:Int)*7:=IntWalk.i64_in _ (by omega);have r3:IntKind.i64.wrap ((p:Int)*7+3)=(p:Int)*7+3:=IntWalk.i64_in _ (by omega)
 go_enter Tryz.func79,Tryz.ntmps79
 go_wp2
 go_quiet (fail)
 go_wp2;go_ret;have hX:=ab7 (z*131+y*1117+p*29+q*53) n (by omega) (by omega) hn;exact ⟨_,rfl,hX.1,fun _=>hX.2,by omega,HS.out.1.drewN _,tg HS.out.2.1 _,(kO _ _).symm▸HS.out.2.2⟩
def Rdm (w:World) (R p:Nat):Prop:= ∃q,q≤p∧Rd w R q
theorem Rdm.mono {w:World} {R p q:Nat} (h:Rdm w R p) (KC:p≤q):Rdm w R q:=by
 obtain ⟨k,hk,h⟩:=h;exact ⟨k,by omega,h⟩
theorem Rd.lt {w:World} {R p:Nat} (h:Rd w R p):R<w.heap.size:=by
 obtain ⟨ao,k,cap,hc,_⟩:=h
 by_cases hk:R<w.heap.size
 ·exact hk
 ·rw [Array.getElem?_eq_none (by omega)] at hc;cases hc
theorem Rdm.lt {w:World} {R p:Nat} (h:Rdm w R p):R<w.heap.size:=by
 obtain ⟨k,hk,h⟩:=h;exact h.lt
theorem Rdm.kept {w w':World} {R p:Nat} {row:Option Nat} (h:Rdm w R p) (hg:w.grownBy w' row) (hn: ∀k,row=some k→R<k):Rdm w' R p:=by
 have Ab:=h.lt;obtain ⟨q,hq,ao,k,cap,hc,h1,h2⟩:=h;refine ⟨q,hq,ao,k,cap,by rw [hg.block R Ab (by intro e;have:=hn R e.symm;omega)];exact hc,h1, ?_⟩
 rcases h2 with h2|⟨b,off,ha,hb,hj⟩
 ·exact .inl h2
 ·refine .inr ⟨b,off,ha,hb,fun j IX=> ?_⟩
  obtain ⟨z,z0,z1,hz⟩:=hj j IX;exact ⟨z,z0,z1,hg.cell hz (by intro e;have:=hn b e.symm;omega)⟩
def aeK (R p:Nat) (n:Int) (w:World) (e:Ending) (w':World):Prop:=
 ∃m:Int,e= .returned (.int .i64 m)∧0≤m∧(1≤n→m<n)∧(n<1→m=0)∧Rdm w' R (p+1)∧w.grownBy w' (some R)∧w'.heap.size=w.heap.size
theorem aj (R p:Nat) (n:Int) (w:World) (hp:p<2147483648) (h:Rdm w R p):
  Calls Tryz.prog 79 #[.pointer (some ⟨R,0,none⟩), .int .i64 n] w (aeK R p n w):=by
 obtain ⟨q,hq,ao,k,cap,hc,h1,h2⟩:=h
 have fin: ∀e w',qW R q n w e w'→aeK R p n w e w':=by
  rintro e w' ⟨m,he,hm,Co,DZ,hr,hg,hs⟩;exact ⟨m,he,hm,Co,DZ,⟨q+1,by omega,hr⟩,hg,hs⟩
 by_cases hn:n<1
 ·exact (ms R q k cap ao n w (by omega) (.inl hn) hc ⟨h1,h2⟩).mono fin
 rcases h2 with h2|⟨b,off,rfl,hb,hj⟩
 ·exact (ms R q k cap ao n w (by omega) (.inr (by omega)) hc ⟨h1, .inl h2⟩).mono fin
 have hC:Codes w R (some ⟨b,off,none⟩) k:=⟨h1, .inr ⟨b,off,rfl,hb,hj⟩⟩
 by_cases hk:k=0
 ·exact (ms R q k cap _ n w (by omega) (.inr (by omega)) hc hC).mono fin
 by_cases Ab:q<k
 ·obtain ⟨z,z0,z1,hz⟩:=hj q Ab
  exact (ad0 R q b off k cap n w (by omega) h1 (by omega) hc hC hb Ab z z0 z1 hz).mono fin
 ·obtain ⟨z,z0,z1,hz⟩:=hj (q % k) (Nat.mod_lt _ (by omega))
  obtain ⟨y,y0,y1,hy⟩:=hj ((q*7+3) % k) (Nat.mod_lt _ (by omega));exact (zC R q b off k cap n w (by omega) h1 (by omega) (by omega) hc hC hb Ab z z0 z1 hz y y0 y1 hy).mono fin
def Odds (R p:Nat) (n:Int) (w:World) (e:Ending) (w':World):Prop:=
 ∃b:Bool,e= .returned (.bool b)∧(n<1→b=false)∧Rdm w' R (p+1)∧w.grownBy w' (some R)∧w'.heap.size=w.heap.size
theorem fH (R p:Nat) (n:Int) (w:World) (hp:p<2147483648) (Ch: -2147483648≤n) (BO:n≤2147483648) (h:Rdm w R p):
  Calls Tryz.prog 101 #[.pointer (some ⟨R,0,none⟩), .int .i64 n] w (Odds R p n w):=by
 by_cases hn:0<n
 ·go_enter Tryz.func101,Tryz.ntmps101
  go_wp2_with fail;refine (aj R p n _ hp h).mono ?_;rintro e w' ⟨m,rfl,hm,Co,DZ,hr,hg,hs⟩;have HG:=agC hg;have HS:=agC hs;clear hg hs Co DZ h;go_wp2;go_ret;exact ⟨_,rfl,by omega,hr,HG.out,HS.out⟩
 ·go_enter Tryz.func101,Tryz.ntmps101
  go_wp2;go_ret;exact ⟨_,rfl,fun _=>rfl,h.mono (by omega),World.grownBy.refl _ _,rfl⟩
def CodeRow (w:World) (a:Option Addr) (len cap:Nat):Prop:=
 len≤cap∧cap≤maxLen∧(len=0∨ ∃b off,a=some ⟨b,off,none⟩∧b<w.heap.size∧ ∀j,j<len→ ∃z:Int,0≤z∧z≤255∧w.cell? ⟨b,off+j,none⟩=some (.int .u8 z))
theorem qb (b off j:Nat):(⟨b,off,none⟩:Addr).add j=⟨b,off+j,none⟩:=by
 unfold Addr.add;split<;>simp_all
theorem pg {w:World} {x:Addr} {v:Value} (h:w.cell? x=some v):x.spot=none∧x.block<w.heap.size:=by
 unfold World.cell? at h
 split at h
 ·rename_i c e fr hh
  refine ⟨?_, ?_⟩
  ·cases hs:x.spot with
   |none=>rfl
   |some s=>rw [hs] at h;simp at h
  ·by_cases hk:x.block<w.heap.size
   ·exact hk
   ·rw [Array.getElem?_eq_none (by omega)] at hh;cases hh
 ·cases h
theorem CodeRow.of {w:World} {a:Option Addr} {len cap:Nat} {zs:List Int}
  (h:(a=none∧len=0∧cap=0∧zs=[])∨ ∃x,a=some x∧len≤cap∧cap≤maxLen∧zs.length=cap∧(∀i,i<zs.length→w.cell? (x.add i)=some (.int .u8 (zs.getD i 0)))∧ ∀n∈zs,(Lit.int .u8 n).wf=true):
  CodeRow w a len cap:=by
 rcases h with ⟨rfl,rfl,rfl,rfl⟩|⟨x,rfl,hl,hm,hz,hc,hw⟩
 ·exact ⟨agD _,by unfold maxLen;omega, .inl rfl⟩
 ·refine ⟨hl,hm, ?_⟩
  by_cases h0:len=0
  ·exact .inl h0
  obtain ⟨b,off,spot⟩:=x;have IW:=pg (hc 0 (by omega))
  have Dx:spot=none:=by have:=IW.1;unfold Addr.add at this;split at this<;>simp_all
  subst Dx
  have Ab:b<w.heap.size:=by have:=IW.2;rw [qb] at this;exact this
  refine .inr ⟨b,off,rfl,Ab,fun j hj=> ?_⟩;have Q8:=hc j (by omega);rw [qb] at Q8
  have O6:zs.getD j 0∈zs:=by rw [List.getD_eq_getElem?_getD,List.getElem?_eq_getElem (by omega)];exact List.getElem_mem _
  have TA:=hw _ O6
  have hx:0≤zs.getD j 0∧zs.getD j 0≤255:=by simpa [Lit.wf,IntKind.min,IntKind.max,IntKind.signed,IntKind.bits] using TA
  exact ⟨_,hx.1,hx.2,Q8⟩
def mt (w:World) (a:Option Addr) (len:Nat):Prop:=
 len=0∨ ∃b off,a=some ⟨b,off,none⟩∧b<w.heap.size∧ ∀j,j<len→ ∃z:Int,0≤z∧z≤255∧w.cell? ⟨b,off+j,none⟩=some (.int .u8 z)
theorem zD {w:World} {a:Option Addr} {len k:Nat} (hk:k≤len) (h:mt w a len):mt w a k:=by
 rcases h with h|⟨b,off,ha,Ab,hj⟩
 ·exact .inl (by omega)
 ·exact .inr ⟨b,off,ha,Ab,fun j IX=>hj j (by omega)⟩
theorem Rd.new (w:World) (a:Option Addr) (len cap:Nat) (hl:len≤2000) (h:mt w a len):
  Rd (w.alloc (.cells #[.slice a len cap, .int .i64 0] 92)) w.heap.size 0:=by
 refine ⟨a,len,cap,heap_alloc_new _ _,hl, ?_⟩
 rcases h with h|⟨b,off,ha,Ab,hj⟩
 ·exact .inl h
 ·refine .inr ⟨b,off,ha,Ab,fun j IX=> ?_⟩
  obtain ⟨z,z0,z1,hz⟩:=hj j IX;exact ⟨z,z0,z1,(agF w _ none).cell hz (by simp)⟩
theorem vH (a:Option Addr) (len cap:Nat) (w:World) (h:CodeRow w a len cap):
  Calls Tryz.prog 48 #[.slice a len cap] w fun e w'=>e= .returned (.pointer (some ⟨w.heap.size,0,none⟩))∧Rdm w' w.heap.size 0∧Below w.heap.size w w'∧w'.heap.size=w.heap.size+1:=by
 obtain ⟨h1,h2,h3⟩:=h;unfold maxLen at h2;have H3:=agC h3;clear h3
 by_cases hl:len≤2000
 ·go_enter Tryz.func48,Tryz.ntmps48
  go_wp2;go_ret;exact ⟨rfl,⟨0,agD _,Rd.new _ _ _ _ hl H3.out⟩,(Below.refl _ _).alloc (agD _) _,by simp⟩
 ·go_enter Tryz.func48,Tryz.ntmps48
  go_wp2;go_ret;exact ⟨rfl,⟨0,agD _,Rd.new _ _ _ _ (agD _) (zD (by omega) H3.out)⟩,(Below.refl _ _).alloc (agD _) _,by simp⟩
theorem cX {w w':World} {R:Nat} {C:Array Value} {t:TypeId} {m:Nat} {v:Value} (hR:R<w.heap.size) (hg:(w.alloc (.cells C t)).grownBy w' (some R)) (hv:C[m]? =some v):w'.cell? ⟨w.heap.size,m,none⟩=some v:=by
 refine hg.cell ?_ (by intro e;simp only [Option.some.injEq] at e;omega);simp only [World.cell?,heap_alloc_new]
 simpa using hv
theorem zE (w:World):Calls Tryz.prog 19 #[] w fun e w'=>e= .returned (.bool true)∧w=w':=by
 go_enter Tryz.func19,Tryz.ntmps19
 go_wp2_with fail;refine (bW _ _ (by decide)).mono ?_;rintro e w' ⟨rfl,rfl⟩;go_wp2;go_ret;exact ⟨fg (by decide),rfl⟩
theorem aep:(Tryz.prog.info? 3).map (fun i=>(i.zero,i.size,i.bytes))=some (some (.int .i64 0),1,8):=by kernel_rfl
def oC (l:List Nat):List Value:=l.map fun (x:Nat)=>Value.int .i64 (x:Int)
theorem rj (a b:List Nat):oC (a++b)=oC a++oC b:=by simp [oC]
theorem oD (s:ByteArray) (k:Nat) (h:k<s.size) (e:((s[k].toNat:Int)==10)=true):s.data.toList[k]? =some 10:=by
 have:s[k]=10:=by
  simp only [beq_iff_eq] at e;exact UInt8.toNat_inj.1 (by show s[k].toNat=10;omega)
 rw [List.getElem?_eq_getElem (by simpa using h)];exact congrArg some this
theorem kV (s:ByteArray) (k:Nat) (h:k<s.size) (e:((s[k].toNat:Int)==10)=false): ¬s.data.toList[k]? =some 10:=by
 intro hc;rw [List.getElem?_eq_getElem (by simpa using h)] at hc;have:s[k]=10:=Option.some.inj hc;rw [this] at e
 simp at e
def act (s:ByteArray) (w:World) (e:Ending) (w':World):Prop:=
 ∃g cap,e= .returned (.slice (some ⟨g,0,none⟩) (eI s.data.toList s.size+1) cap)∧eI s.data.toList s.size+1≤cap∧cap≤maxLen∧w.heap.size≤g∧g<w'.heap.size∧
  (∀(j x:Nat),(bY s.data.toList s.size)[j]? =some x→w'.cell? ⟨g,j,none⟩=some (.int .i64 (x:Int)))∧Below w.heap.size w w'
theorem pi {s:ByteArray} {w w':World} {v:Value} (h:w'.ownsRow w.heap.size 3 1 v (bY s.data.toList s.size).length (oC (bY s.data.toList s.size))) (hb:Below w.heap.size w w'):act s w (.returned v) w':=by
 have h0:=h
 rcases h.2 with ⟨_,h'⟩|⟨g,cap,cur,rfl,hg,hh,h1,h2,_⟩
 ·rw [cP] at h';omega
 ·refine ⟨g,cap,by rw [cP],by rw [cP] at h1;exact h1,h2,hg, ?_, ?_,hb⟩
  ·by_cases hk:g<w'.heap.size
   ·exact hk
   ·rw [Array.getElem?_eq_none (by omega)] at hh;cases hh
  ·intro j x hj
   have Ab:j<(bY s.data.toList s.size).length:=by
    by_cases hk:j<(bY s.data.toList s.size).length
    ·exact hk
    ·rw [List.getElem?_eq_none (by omega)] at hj;cases hj
   rw [h0.cellAt j (by omega)]
   simp [oC,hj]
theorem oE (s:ByteArray) (w:World) (hs:s.size≤20000):
  Calls Tryz.prog 61 #[.string s] w (act s w):=by
 obtain ⟨i0,hi,Az,Ax,AC⟩:=info_parts aep
 go_enter Tryz.func61,Tryz.ntmps61
 go_wp2
 go_loopw [3,4,8] (fun v _ i wr=> ∃k:Nat,k≤s.size∧i= .int .i64 k∧wr.ownsRow w.heap.size 3 1 v (bY s.data.toList k).length (oC (bY s.data.toList k))∧Below w.heap.size w wr) (fun _ _ i _=>s.size-(intOf i).toNat)
 case atStart=>exact ⟨0,agH _,rfl,World.ownsRow_lit _ _ 1 (agD _) (by unfold maxLen;omega) rfl,(Below.refl _ _).alloc (agD _) _⟩
 case round=>
  obtain ⟨k,hk,rfl,Ad,hb⟩:=hrel;have HB:=agC hb;clear hb
  by_cases Ab:k<s.size
  ·have Cu:(s[k].toNat:Int)≤255:=by have:=s[k].toNat_lt;omega
   have NL:=oU s.data.toList k;have BT:=cP s.data.toList k;have Je:=agC BT;clear BT
   by_cases hten:((s[k].toNat:Int)==10)=true
   ·have HS:=agC (show bY s.data.toList (k+1)=bY s.data.toList k++[k+1] by simp only [bY];rw [if_pos (oD s k Ab hten)])
    go_wp2_with (at_builtin;refine wpList_append_own _ rfl _ _ 25 rfl w.heap.size 3 i0 (.int .i64 0) 1 8 Tryz.underlying25 hi Az Ax AC rfl (by decide) _ _ _ rfl (Ad.alloc _) ⟨wr.heap.size,0,none⟩ 1 1 [.int .i64 ((k:Int)+1)] rfl rfl (cell_one_new _ _ _) (ints_oneCell .i64 [(k:Int)+1]) (by have:=Je.out;unfold maxLen;omega) (by have:=Je.out;omega) (by have:=HB.out.size;simp;omega) ?_;intro v' w1 Ah Ac By)
    go_roundw
    case rel=>
     refine ⟨k+1,by omega,by go_num, ?_, ?_⟩
     ·rw [HS.out,rj,agE];exact Ah
     ·exact (HB.out.alloc HB.out.size _).grown Ac (by have:=HB.out.size;simp;omega) (fun q hq=>(Ad.lt q hq).1)
    case measure=>simp [intOf];omega
   ·have Fi:((s[k].toNat:Int)==10)=false:=by simpa using hten
    have HS:=agC (show bY s.data.toList (k+1)=bY s.data.toList k by simp only [bY];rw [if_neg (kV s k Ab Fi)]);clear hten;go_wp2;go_roundw
    case rel=>exact ⟨k+1,by omega,by go_num,by rw [HS.out];exact Ad,HB.out⟩
    case measure=>simp [intOf];omega
  ·go_wp2
   go_ret
   obtain rfl:k=s.size:=by omega
   exact pi Ad HB.out
theorem adO (k:Nat):baL (spL k)++⟨#[32]⟩=baL (spL (k+1)):=by
 apply ByteArray.ext
 rw [ByteArray.data_append]
 show (spL k).toArray++ #[32]=(spL (k+1)).toArray
 rw [show spL (k+1)=spL k++[32] by unfold spL;exact List.replicate_succ']
 simp
theorem f9 (k:Nat):(baL (spL k)).size=k:=by simp [baL,ByteArray.size,spL]
theorem dq (n:Int) (w:World) (hn:n≤1000):
  Calls Tryz.prog 92 #[.int .i64 n] w fun e w'=>e= .returned (.string (baL (spL n.toNat)))∧w=w':=by
 go_enter Tryz.func92,Tryz.ntmps92
 go_wp2_with fail
 go_loopw [3,4] (fun x i wr=> ∃k:Nat,k≤n.toNat∧i= .int .i64 (k:Int)∧x= .string (baL (spL k))∧wr=w) (fun _ i _=>n.toNat-(intOf i).toNat)
 case atStart=>exact ⟨0,agH _,rfl,rfl,rfl⟩
 case round=>
  obtain ⟨k,hk,rfl,rfl,EG⟩:=hrel;subst EG
  by_cases Ab:(k:Int)<n
  ·have Au: ¬9223372036854775807<(baL (spL k)).size+1:=by rw [f9];omega
   have hz:=f9 k;go_wp2;go_roundw
   case rel=>exact ⟨k+1,by omega,by go_num,by rw [←adO],by trivial⟩
   case measure=>simp [intOf];omega
  ·have e:k=n.toNat:=by omega
   go_wp2;go_ret;exact ⟨rfl,rfl⟩
def agm (R p:Nat) (w:World) (e:Ending) (w':World):Prop:=
 ∃s:ByteArray,e= .returned (.string s)∧s.size≤13∧Rdm w' R (p+2)∧w.grownBy w' (some R)
theorem zT {w w':World} {R:Nat} {C:Array Value} {t:TypeId} {o:Obj} {m:Nat} {v:Value} (hR:R<w.heap.size) (hg:((w.alloc (.cells C t)).alloc o).grownBy w' (some R)) (hv:C[m]? =some v):w'.cell? ⟨w.heap.size,m,none⟩=some v:=by
 refine hg.cell (a:=⟨w.heap.size,m,none⟩) ((agF _ o none).cell (a:=⟨w.heap.size,m,none⟩) ?_ (by simp)) (by intro e;simp only [Option.some.injEq] at e;omega);simp only [World.cell?,heap_alloc_new]
 simpa using hv
theorem gj {w w':World} {R:Nat} {C:Array Value} {t:TypeId} {o:Obj} {m:Nat} {v:Value} (hR:R<w.heap.size) (hg:((w.alloc o).alloc (.cells C t)).grownBy w' (some R)) (hv:C[m]? =some v):w'.cell? ⟨w.heap.size+1,m,none⟩=some v:=by
 have hs:(w.alloc o).heap.size=w.heap.size+1:=by simp
 rw [←hs];exact cX (by omega) hg hv
theorem aft (m:Nat) (h:m<12): ∃t:ByteArray,t.size≤13∧(#[Value.string ⟨#[]⟩, .string ⟨#[65]⟩, .string ⟨#[49,97]⟩, .string ⟨#[95,97]⟩, .string ⟨#[97,46]⟩, .string ⟨#[46,97]⟩, .string ⟨#[97,46,46,98]⟩, .string ⟨#[116,114,117,101]⟩, .string ⟨#[102,97,108,115,101]⟩, .string ⟨#[97,98,99,100,101,102,103,104,105,106,107,108,109]⟩, .string ⟨#[97,32,98]⟩, .string ⟨#[97,45,98]⟩]:Array Value)[m]? =some (.string t):=by
 match m,h with
 |0,_=>exact ⟨_,by decide,rfl⟩
 |1,_=>exact ⟨_,by decide,rfl⟩
 |2,_=>exact ⟨_,by decide,rfl⟩
 |3,_=>exact ⟨_,by decide,rfl⟩
 |4,_=>exact ⟨_,by decide,rfl⟩
 |5,_=>exact ⟨_,by decide,rfl⟩
 |6,_=>exact ⟨_,by decide,rfl⟩
 |7,_=>exact ⟨_,by decide,rfl⟩
 |8,_=>exact ⟨_,by decide,rfl⟩
 |9,_=>exact ⟨_,by decide,rfl⟩
 |10,_=>exact ⟨_,by decide,rfl⟩
 |11,_=>exact ⟨_,by decide,rfl⟩
theorem afu (m:Nat) (h:m<10): ∃t:ByteArray,t.size≤13∧(#[Value.string ⟨#[97]⟩, .string ⟨#[98]⟩, .string ⟨#[99]⟩, .string ⟨#[120,49]⟩, .string ⟨#[108,111,110,103,95,110,97,109,101]⟩, .string ⟨#[113,46,97]⟩, .string ⟨#[113,46,98]⟩, .string ⟨#[113,46,115,46,97]⟩, .string ⟨#[97,98,99,100,101,102,103,104,105,106,107,108]⟩, .string ⟨#[116,114,117,116,104]⟩]:Array Value)[m]? =some (.string t):=by
 match m,h with
 |0,_=>exact ⟨_,by decide,rfl⟩
 |1,_=>exact ⟨_,by decide,rfl⟩
 |2,_=>exact ⟨_,by decide,rfl⟩
 |3,_=>exact ⟨_,by decide,rfl⟩
 |4,_=>exact ⟨_,by decide,rfl⟩
 |5,_=>exact ⟨_,by decide,rfl⟩
 |6,_=>exact ⟨_,by decide,rfl⟩
 |7,_=>exact ⟨_,by decide,rfl⟩
 |8,_=>exact ⟨_,by decide,rfl⟩
 |9,_=>exact ⟨_,by decide,rfl⟩
theorem afv (m:Nat) (h:m<13): ∃t:Nat,t<10∧(#[Value.int .i64 0, .int .i64 0, .int .i64 1, .int .i64 1, .int .i64 2, .int .i64 2, .int .i64 3, .int .i64 4, .int .i64 5, .int .i64 6, .int .i64 7, .int .i64 8, .int .i64 9]:Array Value)[m]? =some (.int .i64 (t:Int)):=by
 match m,h with
 |0,_=>exact ⟨0,by decide,rfl⟩
 |1,_=>exact ⟨0,by decide,rfl⟩
 |2,_=>exact ⟨1,by decide,rfl⟩
 |3,_=>exact ⟨1,by decide,rfl⟩
 |4,_=>exact ⟨2,by decide,rfl⟩
 |5,_=>exact ⟨2,by decide,rfl⟩
 |6,_=>exact ⟨3,by decide,rfl⟩
 |7,_=>exact ⟨4,by decide,rfl⟩
 |8,_=>exact ⟨5,by decide,rfl⟩
 |9,_=>exact ⟨6,by decide,rfl⟩
 |10,_=>exact ⟨7,by decide,rfl⟩
 |11,_=>exact ⟨8,by decide,rfl⟩
 |12,_=>exact ⟨9,by decide,rfl⟩
theorem acj (R p:Nat) (n:Int) (w:World) (hp:p<1073741824) (Ch:0≤n) (BO:n≤1000) (h:Rdm w R p):
  Calls Tryz.prog 213 #[.pointer (some ⟨R,0,none⟩), .int .i64 n] w (agm R p w):=by
 go_enter Tryz.func213,Tryz.ntmps213
 go_wp2_with fail;refine (fH R p n _ (by omega) (by omega) (by omega) h).mono ?_;rintro e w2 ⟨b,rfl,-,AM,hg2,D7⟩;have Bi:=agC hg2;clear hg2 D7 h
 cases b with
 |true=>
  go_wp2_with fail;refine (aj R (p+1) 12 _ (by omega) (AM.kept (agF w2 _ none) (by simp))).mono ?_;rintro e w3 ⟨j,rfl,Ed,CE,-,AR,AF,BZ⟩;have Hj:=CE (by omega);obtain ⟨j1,rfl⟩:=agG Ed;obtain ⟨t,ht,Aq⟩:=aft j1 (by omega);have hcell:=cX AM.lt AF Aq;have AE:=agC (af (bq Bi.out _) AF);clear CE AF BZ Aq AM Bi;go_wp2;go_ret;exact ⟨_,rfl,ht,AR.mono (by omega),AE.out⟩
 |false=>
  go_wp2_with fail;refine (aj R (p+1) 13 _ (by omega) ((AM.kept (agF w2 _ none) (by simp)).kept (agF _ _ none) (by simp))).mono ?_;rintro e w3 ⟨j,rfl,Ed,CE,-,AR,AF,BZ⟩;have Hj:=CE (by omega);obtain ⟨j1,rfl⟩:=agG Ed;obtain ⟨q,hq,Aq⟩:=afv j1 (by omega);obtain ⟨t,ht,IZ⟩:=afu q (by omega);have hcell:=gj AM.lt AF Aq;have Pf:=zT AM.lt AF IZ;have AE:=agC (af (bq (bq Bi.out _) _) AF);clear CE AF BZ Aq AM Bi IZ;go_wp2;go_ret;exact ⟨_,rfl,ht,AR.mono (by omega),AE.out⟩
def afO (R p:Nat) (w:World) (e:Ending) (w':World):Prop:=
 ∃s:ByteArray,e= .returned (.string s)∧s.size≤61∧Rdm w' R (p+2)∧w.grownBy w' (some R)
theorem agw (m:Nat) (h:m<5): ∃t:ByteArray,t.size≤61∧(#[Value.string ⟨#[32,97]⟩, .string ⟨#[97,32]⟩, .string ⟨#[97,10,98]⟩, .string ⟨#[1]⟩, .string ⟨#[97,97,97,97,97,97,97,97,97,97,98,98,98,98,98,98,98,98,98,98,99,99,99,99,99,99,99,99,99,99,100,100,100,100,100,100,100,100,100,100,101,101,101,101,101,101,101,101,101,101,102,102,102,102,102,102,102,102,102,102,103]⟩]:Array Value)[m]? =some (.string t):=by
 match m,h with
 |0,_=>exact ⟨_,by decide,rfl⟩
 |1,_=>exact ⟨_,by decide,rfl⟩
 |2,_=>exact ⟨_,by decide,rfl⟩
 |3,_=>exact ⟨_,by decide,rfl⟩
 |4,_=>exact ⟨_,by decide,rfl⟩
theorem agx (m:Nat) (h:m<7): ∃t:ByteArray,t.size≤61∧(#[Value.string ⟨#[]⟩, .string ⟨#[97,32,110,111,116,101]⟩, .string ⟨#[35,32,120]⟩, .string ⟨#[115,97,121,32,34,104,105,34]⟩, .string ⟨#[111,110,101,32,116,119,111,32,116,104,114,101,101,32,102,111,117,114,32,102,105,118,101]⟩, .string ⟨#[97,32,32,98]⟩, .string ⟨#[123]⟩]:Array Value)[m]? =some (.string t):=by
 match m,h with
 |0,_=>exact ⟨_,by decide,rfl⟩
 |1,_=>exact ⟨_,by decide,rfl⟩
 |2,_=>exact ⟨_,by decide,rfl⟩
 |3,_=>exact ⟨_,by decide,rfl⟩
 |4,_=>exact ⟨_,by decide,rfl⟩
 |5,_=>exact ⟨_,by decide,rfl⟩
 |6,_=>exact ⟨_,by decide,rfl⟩
theorem oM (R p:Nat) (n:Int) (w:World) (hp:p<1073741824) (Ch:0≤n) (BO:n≤1000) (h:Rdm w R p):
  Calls Tryz.prog 166 #[.pointer (some ⟨R,0,none⟩), .int .i64 n] w (afO R p w):=by
 go_enter Tryz.func166,Tryz.ntmps166
 go_wp2_with fail;refine (fH R p n _ (by omega) (by omega) (by omega) h).mono ?_;rintro e w2 ⟨b,rfl,-,AM,hg2,D7⟩;have Bi:=agC hg2;clear hg2 D7 h
 cases b with
 |true=>
  go_wp2_with fail;refine (aj R (p+1) 5 _ (by omega) (AM.kept (agF w2 _ none) (by simp))).mono ?_;rintro e w3 ⟨j,rfl,Ed,CE,-,AR,AF,BZ⟩;have Hj:=CE (by omega);obtain ⟨j1,rfl⟩:=agG Ed;obtain ⟨t,ht,Aq⟩:=agw j1 (by omega);have hcell:=cX AM.lt AF Aq;have AE:=agC (af (bq Bi.out _) AF);clear CE AF BZ Aq AM Bi;go_wp2;go_ret;exact ⟨_,rfl,ht,AR.mono (by omega),AE.out⟩
 |false=>
  go_wp2_with fail;refine (aj R (p+1) 7 _ (by omega) (AM.kept (agF w2 _ none) (by simp))).mono ?_;rintro e w3 ⟨j,rfl,Ed,CE,-,AR,AF,BZ⟩;have Hj:=CE (by omega);obtain ⟨j1,rfl⟩:=agG Ed;obtain ⟨t,ht,Aq⟩:=agx j1 (by omega);have hcell:=cX AM.lt AF Aq;have AE:=agC (af (bq Bi.out _) AF);clear CE AF BZ Aq AM Bi;go_wp2;go_ret;exact ⟨_,rfl,ht,AR.mono (by omega),AE.out⟩
theorem qA (D:Nat) (hD:D≤4) (w:World):
  Calls Tryz.prog 89 #[.string ⟨#[32,32]⟩, .int .i64 (D:Int)] w fun e w'=>e= .returned (.string (baL (spL (2*D))))∧w=w':=by
 have hm: ∀(k:Nat) (w:World),k≤4→Calls Tryz.prog 136 #[.int .u64 2, .int .u64 (k:Int)] w fun e w'=>e= .returned (.tuple #[.int .u64 0, .int .u64 ((2*k:Nat):Int)])∧w'=w:=fun k w hk=>by
  have:=Tryz.bits_Mul 2 k (by omega) (by omega) w;rw [Nat.div_eq_of_lt (by omega),Nat.mod_eq_of_lt (by omega)] at this;exact this
 have hp: ∀(s:ByteArray) (w:World),Lib.hasPrefix s.data.toList [32,32]=true→Calls Tryz.prog 137 #[.string s, .string ⟨#[32,32]⟩] w fun e w'=>e= .returned (.bool true)∧w'=w:=fun s w hs=>by
  have:=Tryz.strings_HasPrefix s ⟨#[32,32]⟩ w;rw [show Lib.hasPrefix s.data.toList (⟨#[32,32]⟩:ByteArray).data.toList=true from hs] at this;exact this
 have HM:=agC hm;have HP:=agC hp;clear hm hp
 have h:D=0∨D=1∨D=2∨D=3∨D=4:=by omega
 rcases h with rfl|rfl|rfl|rfl|rfl
 ·go_enter Tryz.func89,Tryz.ntmps89
  go_wp2;go_ret;exact ⟨rfl,rfl⟩
 ·go_enter Tryz.func89,Tryz.ntmps89
  go_wp2;go_ret;exact ⟨rfl,rfl⟩
 all_goals
  go_enter Tryz.func89,Tryz.ntmps89
  go_wp2_with fail;refine (HM.out _ _ hD).mono ?_;rintro e w1 ⟨rfl,hw⟩;subst hw;go_wp2_with fail;refine (HP.out _ _ (by decide)).mono ?_;rintro e w1 ⟨rfl,hw⟩;subst hw;go_wp2;go_ret;exact ⟨by first|rfl|decide,rfl⟩
end Go.Proofs.YtegdjjjpoahamaaGreatDoor
