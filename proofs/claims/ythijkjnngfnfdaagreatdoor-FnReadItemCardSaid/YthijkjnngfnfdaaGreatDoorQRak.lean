/-
  Part of the proof of FnReadItem.
-/
import Derived.Test.YthijkjnngfnfdaaGreatDoorQRaf
import Derived.Test.YthijkjnngfnfdaaGreatDoorQRag
set_option linter.unusedVariables false
namespace Go.Proofs.YthijkjnngfnfdaaGreatDoor
def lY:List UInt8→Bool
 |[]=>true
 |c::_=> !(dH (c.toNat:Int))&& !((c.toNat:Int)==46)&& !((c.toNat:Int)==61)
theorem abK {t:List UInt8} (h:t≠[]) (rest:List UInt8):lY (t++rest)=lY t:=by
 cases t with
 |nil=>exact absurd rfl h
 |cons c r=>rfl
def Lex (tx:List UInt8) (tk:List (Int×List UInt8)):Prop:=
 ∃L:List (Int×Nat×Nat),(L.map fun x=>(x.1,(tx.drop x.2.1).take (x.2.2-x.2.1)))=tk∧(∀x∈L,x.2.1≤x.2.2∧x.2.2≤tx.length)∧
  ∀rest,lY rest=true→ ∀a acc,cL (0,0,acc) a (tx++rest)=cL (0,0,acc++L.map (shT a)) (a+tx.length) rest
theorem Lex.nil:Lex [] []:=⟨[],rfl,(fun x hx=>by cases hx),fun rest _ a acc=>by simp⟩
theorem afV (a d:Nat) (L:List (Int×Nat×Nat)):(L.map (shT d)).map (shT a)=L.map (shT (a+d)):=by
 rw [List.map_map];congr 1;funext x;simp only [Function.comp,shT];congr 2<;>omega
theorem Lex.glue {t1 t2:List UInt8} {k1 k2:List (Int×List UInt8)} {L1 L2:List (Int×Nat×Nat)}
  (e1:(L1.map fun x=>(x.1,(t1.drop x.2.1).take (x.2.2-x.2.1)))=k1) (b1: ∀x∈L1,x.2.1≤x.2.2∧x.2.2≤t1.length) (e2:(L2.map fun x=>(x.1,(t2.drop x.2.1).take (x.2.2-x.2.1)))=k2) (b2: ∀x∈L2,x.2.1≤x.2.2∧x.2.2≤t2.length)
  (hr: ∀rest,lY rest=true→ ∀a acc,cL (0,0,acc) a (t1++(t2++rest))=cL (0,0,(acc++L1.map (shT a))++L2.map (shT (a+t1.length))) (a+t1.length+t2.length) rest):Lex (t1++t2) (k1++k2):=by
 refine ⟨L1++L2.map (shT t1.length), ?_, ?_,fun rest hs a acc=> ?_⟩
 ·rw [List.map_append,←e1,←e2,List.map_map]
  congr 1
  ·apply List.map_congr_left
   intro x hx;have hb:=b1 x hx;rw [List.drop_append_of_le_length (by omega),List.take_append_of_le_length (by rw [List.length_drop];omega)]
  ·apply List.map_congr_left
   intro x hx;simp only [Function.comp,shT];rw [show x.2.1+t1.length=t1.length+x.2.1 by omega,←List.drop_drop,List.drop_left,show x.2.2+t1.length-(t1.length+x.2.1)=x.2.2-x.2.1 by omega]
 ·intro x hx
  rcases List.mem_append.mp hx with hx|hx
  ·have:=b1 x hx;rw [aio];omega
  ·obtain ⟨y,hy,rfl⟩:=List.mem_map.mp hx
   have:=b2 y hy;simp only [shT,aio];omega
 ·rw [List.append_assoc,hr rest hs a acc,List.map_append,afV,aio,List.append_assoc,Nat.add_assoc]
theorem Lex.app {t1 t2:List UInt8} {k1 k2:List (Int×List UInt8)} (h1:Lex t1 k1) (h2:Lex t2 k2) (hne:t2≠[]) (hs:lY t2=true):Lex (t1++t2) (k1++k2):=by
 obtain ⟨L1,e1,b1,r1⟩:=h1;obtain ⟨L2,e2,b2,r2⟩:=h2;refine Lex.glue e1 b1 e2 b2 (fun rest hr a acc=> ?_);rw [r1 (t2++rest) (by rw [abK hne];exact hs) a acc,r2 rest hr]
theorem Lex.front {w t:List UInt8} {k:Int} {k2:List (Int×List UInt8)} (h2:Lex t k2) (ht: ∀rest,lY rest=true→TokAt (w++(t++rest)) w.length k):Lex (w++t) ((k,w)::k2):=by
 obtain ⟨L2,e2,b2,r2⟩:=h2;refine Lex.glue (L1:=[(k,0,w.length)]) (k1:=[(k,w)]) (by simp) (fun x hx=>by simp only [List.mem_singleton] at hx;subst hx;exact ⟨air _,ain _⟩) e2 b2 (fun rest hr a acc=> ?_);have:=((ht rest hr).read 0 a acc).2;rw [this,List.drop_left,r2 rest hr]
 simp [shT,Nat.add_comm]
theorem Lex.one {w:List UInt8} {k:Int} (ht: ∀rest,lY rest=true→TokAt (w++rest) w.length k):Lex w [(k,w)]:=by
 have:=Lex.front (w:=w) (k:=k) Lex.nil (fun rest hr=>by rw [List.nil_append];exact ht rest hr)
 rwa [List.append_nil] at this
theorem Lex.space {t:List UInt8} {k:List (Int×List UInt8)} (h:Lex t k):Lex (32::t) k:=by
 obtain ⟨L2,e2,b2,r2⟩:=h
 have:=Lex.glue (t1:=[32]) (t2:=t) (L1:=[]) (k1:=[]) rfl (fun x hx=>by cases hx) e2 b2 (fun rest hr a acc=>by
  rw [show ([32]:List UInt8)++(t++rest)=32::(t++rest) from rfl,lz _ _ _ _ _ (by decide),pV a 0,r2 rest hr]
  simp)
 exact this
theorem yp (w rest:List UInt8):(w++rest).take w.length=w:=by simp
theorem gq {b:UInt8} {t:List UInt8} {k:Int} (rest:List UInt8) (hs:eE (aF (b.toNat:Int)) t=true) (hk:kI (fin (aF (b.toNat:Int)) t)=k) (h0:k≠0) (hr: ∀c r',rest=c::r'→nB (fin (aF (b.toNat:Int)) t) (c.toNat:Int)=false):TokAt (b::t++rest) (b::t).length k:=by
 refine ⟨b,t,yp _ _,hs,hk,h0,by simp,fun c r' h=>hr c r' ?_⟩
 rwa [List.drop_left] at h
theorem aht {t:List UInt8} (h: ∀c∈t,nmI (c.toNat:Int)=true):eE 1 t=true∧fin 1 t=1:=by
 induction t with
 |nil=>exact ⟨rfl,rfl⟩
 |cons c r ih=>
  have i:=ih (fun x hx=>h x (by simp [hx]));have hc:=h c (by simp);have e:nB 1 (c.toNat:Int)=nmI (c.toNat:Int):=rfl;exact ⟨by rw [eE,e,hc];exact i.1,by rw [fin];exact i.2⟩
theorem ahu {t:List UInt8} (h: ∀c∈t,nrI (c.toNat:Int)=true):eE 2 t=true∧fin 2 t=2:=by
 induction t with
 |nil=>exact ⟨rfl,rfl⟩
 |cons c r ih=>
  have i:=ih (fun x hx=>h x (by simp [hx]));have hc:=h c (by simp);have e:nB 2 (c.toNat:Int)=nrI (c.toNat:Int):=rfl;exact ⟨by rw [eE,e,hc];exact i.1,by rw [fin];exact i.2⟩
theorem p9 {c:UInt8} {r:List UInt8} (h:lY (c::r)=true):dH (c.toNat:Int)=false∧((c.toNat:Int)==46)=false∧((c.toNat:Int)==61)=false:=by
 simp only [lY,Bool.and_eq_true,Bool.not_eq_true'] at h;exact ⟨h.1.1,h.1.2,h.2⟩
theorem qa {b:UInt8} {t:List UInt8} (hb:cA (b.toNat:Int)=true) (ht: ∀c∈t,nmI (c.toNat:Int)=true):Lex (b::t) [(1,b::t)]:=by
 refine Lex.one (fun rest hr=> ?_);obtain ⟨s1,s2⟩:=aht ht;refine gq rest (by rw [jj hb];exact s1) (by rw [jj hb,s2];rfl) (by decide) (fun c r' e=> ?_);subst e;obtain ⟨h1,h2,-⟩:=p9 hr;rw [jj hb,s2]
 show (dH (c.toNat:Int)||(c.toNat:Int)==46)=false
 rw [h1,h2];rfl
theorem afW {n:Int} (h:dH n=false):cP n=false:=by
 simp only [dH,Bool.or_eq_false_iff] at h;exact h.1.2
theorem afX {b:UInt8} {t:List UInt8} (hb:cA (b.toNat:Int)=false) (hd:cP (b.toNat:Int)=true) (ht: ∀c∈t,nrI (c.toNat:Int)=true):Lex (b::t) [(2,b::t)]:=by
 refine Lex.one (fun rest hr=> ?_);obtain ⟨s1,s2⟩:=ahu ht;refine gq rest (by rw [jk hb hd];exact s1) (by rw [jk hb hd,s2];rfl) (by decide) (fun c r' e=> ?_);subst e;obtain ⟨h1,h2,-⟩:=p9 hr;rw [jk hb hd,s2]
 show (cP (c.toNat:Int)||(c.toNat:Int)==46)=false
 rw [afW h1,h2];rfl
theorem abL (l:List UInt8):Lex (bB l) [(3,bB l)]:=by
 refine Lex.one (fun rest hr=> ?_)
 have e:clo false (aZ l++34::rest)=(aZ l).length:=by rw [abI];simp [clo]
 have h:=xS 34 (aZ l++34::rest) (by decide) (by
  simp only [fm]
  rw [if_neg (by decide),if_neg (by decide),if_pos (by decide),e,if_pos (by simp)];decide)
 have hn:fN (34::(aZ l++34::rest))=(bB l).length:=by
  simp only [fN];rw [if_neg (by decide),if_neg (by decide),if_pos (by decide),e,if_pos (by simp)]
  simp [bB]
 have hk:fm (34::(aZ l++34::rest))=3:=by
  simp only [fm];rw [if_neg (by decide),if_neg (by decide),if_pos (by decide),e,if_pos (by simp)]
 rw [hn,hk] at h
 have ht:bB l++rest=34::(aZ l++34::rest):=by simp [bB]
 rw [ht];exact h
theorem gP {b:UInt8} (hb:aF (b.toNat:Int)=10) {t:List UInt8} {k:List (Int×List UInt8)} (h:Lex t k):Lex (b::t) ((4,[b])::k):=
 Lex.front (w:=[b]) h (fun rest _=>gq (t++rest) rfl (by rw [hb];rfl) (by decide) (fun c r' _=>by rw [hb];simp [fin,nB]))
theorem fL {b:UInt8} (hb:aF (b.toNat:Int)=10):Lex [b] [(4,[b])]:=gP hb Lex.nil
theorem afY {t:List UInt8} {k:List (Int×List UInt8)} (h:Lex t k) (hh: ∃c r,t=c::r∧((c.toNat:Int)==61)=false):Lex (33::t) ((4,[33])::k):=by
 obtain ⟨c,r,rfl,hc⟩:=hh;refine Lex.front (w:=[33]) h (fun rest _=>gq (c::r++rest) rfl (by decide) (by decide) (fun c' r' e=> ?_));rw [List.cons_append] at e
 injection e with e1 e2
 subst e1
 show ((c.toNat:Int)==61)=false
 exact hc
theorem afZ {w:List UInt8} (h:0<aj w):Lex w [(4,w)]:=by
 have soft: ∀b:UInt8,aF (b.toNat:Int)=6→Lex [b] [(4,[b])]:=fun b hb=>Lex.one (fun rest hr=>gq rest rfl (by rw [hb];rfl) (by decide) (fun c r' e=>by
  subst e;rw [hb]
  exact (p9 hr).2.2))
 have pair: ∀b c:UInt8,eE (aF (b.toNat:Int)) [c]=true→fin (aF (b.toNat:Int)) [c]=10→Lex [b,c] [(4,[b,c])]:=fun b c h1 h2=>Lex.one (fun rest hr=>gq rest h1 (by rw [h2];rfl) (by decide) (fun c' r' e=>by rw [h2];simp [nB]))
 have key: ∀(q:List UInt8) (r x:Int),Lex q [(4,q)]→(0<x→Lex w [(4,w)])→0<(if w=q then r else x)→Lex w [(4,w)]:=by
  intro q r x hq hx hp
  by_cases e:w=q
  ·rw [e];exact hq
  ·rw [if_neg e] at hp;exact hx hp
 revert h
 unfold aj;refine key _ _ _ (pair _ _ (by decide) (by decide)) (key _ _ _ (pair _ _ (by decide) (by decide)) (key _ _ _ (pair _ _ (by decide) (by decide)) (key _ _ _ (pair _ _ (by decide) (by decide)) (key _ _ _ (soft _ (by decide)) (key _ _ _ (pair _ _ (by decide) (by decide)) (key _ _ _ (soft _ (by decide)) (key _ _ _ (pair _ _ (by decide) (by decide)) (key _ _ _ (fL (by decide)) (key _ _ _ (fL (by decide)) (key _ _ _ (fL (by decide)) (key _ _ _ (fL (by decide)) (key _ _ _ (fL (by decide)) (fun h=>absurd h (by decide))))))))))))))
structure Pz where
 rk:Int
 tx:List UInt8
 tk:List (Int×List UInt8)
 cl:List Cl
 dp:Nat
def eL (x:Pz):Pt:=(x.rk,x.tx)
abbrev Kw:=Int×List UInt8
def iJ (r:Int) (x:Pz):List Kw:=if x.rk<r then (4,[40])::(x.tk++[(4,[41])]) else x.tk
def eT (xs:List Pz):List Kw:=xs.flatMap fun x=>(4,[44])::x.tk
def gQ:List Pz→List Kw
 |[]=>[]
 |x::xs=>x.tk++eT xs
def bP (ks:List Pz) (i:Nat):Pz:=ks.getD i ⟨0,[],[],[],0⟩
def lZ (c:Cl) (ks:List Pz):List Kw:=
 if c.1=2 then [(3,bB c.2.1.data.toList)]
 else if c.1=5 then (4,[91])::(gQ ks++[(4,[93])])
 else if c.1=6 then (1,c.2.1.data.toList)::((4,[40])::(gQ ks++[(4,[41])]))
 else if c.1=7 then (4,c.2.1.data.toList)::iJ 7 (bP ks 0)
 else if c.1=8 then iJ (df (aj c.2.1.data.toList)) (bP ks 0)++((4,c.2.1.data.toList)::iJ (aj c.2.1.data.toList+1) (bP ks 1))
 else if c.1=9 then iJ 2 (bP ks 0)++((4,[63])::((bP ks 1).tk++((4,[58])::(bP ks 2).tk)))
 else if c.1=1 then [(2,c.2.1.data.toList)] else [(1,c.2.1.data.toList)]
def mw:List Pz→Nat
 |[]=>0
 |x::xs=>max x.dp (mw xs)
def cM (c:Cl) (ks:List Pz):Pz:=⟨rkC c,bY c (ks.map eL),lZ c ks,c::ks.flatMap Pz.cl,mw ks+1⟩
def AtK (tk:List Tk) (p:Nat) (ws:List Kw):Prop:= ∀(i:Nat) (h:i<ws.length),tk[p+i]? =some (ws[i].1,⟨ws[i].2.toArray⟩)
theorem AtK.left {tk:List Tk} {p:Nat} {a b:List Kw} (h:AtK tk p (a++b)):AtK tk p a:=fun i hi=>by
 have:=h i (by rw [aio];omega)
 rwa [List.getElem_append_left hi] at this
theorem AtK.right {tk:List Tk} {p:Nat} {a b:List Kw} (h:AtK tk p (a++b)):AtK tk (p+a.length) b:=fun i hi=>by
 have:=h (a.length+i) (by rw [aio];omega);rw [List.getElem_append_right (by omega)] at this;rw [Nat.add_assoc]
 simpa using this
theorem AtK.tail {tk:List Tk} {p:Nat} {x:Kw} {b:List Kw} (h:AtK tk p (x::b)):AtK tk (p+1) b:=AtK.right (a:=[x]) h
theorem AtK.head {tk:List Tk} {p:Nat} {k:Int} {w:List UInt8} {b:List Kw} (h:AtK tk p ((k,w)::b)):tk[p]? =some (k,⟨w.toArray⟩):=h 0 (by simp)
theorem bz {tk:List Tk} {p:Nat} {w v:List UInt8} (h:tk[p]? =some (4,⟨w.toArray⟩)):isT tk p v=decide (w=v):=by
 unfold isT;rw [h]
 by_cases e:w=v
 ·subst e;simp
 ·simp [e]
theorem iD {tk:List Tk} {p:Nat} {k:Int} {s:ByteArray} {v:List UInt8} (h:tk[p]? =some (k,s)) (hk:k≠4):isT tk p v=false∧rkT tk p=0:=by
 unfold isT rkT;rw [h]
 simp [hk]
theorem lC {tk:List Tk} {p:Nat} {w:List UInt8} (h:tk[p]? =some (4,⟨w.toArray⟩)):rkT tk p=aj w:=by
 unfold rkT;rw [h];simp
def Reads (tk:List Tk) (p q:Nat) (cl:List Cl) (e:Int) (B:Nat):Prop:=
 ∃(a0:List Cl) (q0 n0 n:Nat),n≤B∧Rg tk .unary p a0 q0 0 n0∧(7≤e→a0=cl∧q0=q∧n0=n)∧ ∀r:Nat,2≤r→(r:Int)≤e→ ∀c q2 n2,Rg tk (.loop r cl n) q c q2 0 n2→Rg tk (.loop r a0 n0) q0 c q2 0 n2
def ah8 (tk:List Tk) (q:Nat) (e:Int):Prop:=isT tk q [40]=false∧rkT tk q≤e∧(e=4→rkT tk q≠4)
def r8 (x:Pz):Prop:= ∀(tk:List Tk) (p:Nat),AtK tk p x.tk→ah8 tk (p+x.tk.length) x.rk→Reads tk p (p+x.tk.length) x.cl x.rk (2*x.dp-1)
def Chc (x:Pz):Prop:= ∀(tk:List Tk) (p:Nat),AtK tk p x.tk→isT tk (p+x.tk.length) [40]=false→rkT tk (p+x.tk.length)=0→isT tk (p+x.tk.length) [63]=false→ ∃n,n≤2*x.dp-1∧Rg tk .choice p x.cl (p+x.tk.length) 0 n
def zF (x:Pz):Prop:= ∃k w r,x.tk=(k,w)::r∧(k=4→w=[33]∨w=[45]∨w=[40]∨w=[91])
structure Good (x:Pz):Prop where
 rk:1≤x.rk∧x.rk≤8
 dp:1≤x.dp
 lex:Lex x.tx x.tk
 head: ∃c r,x.tx=c::r∧((c.toNat:Int)==61)=false
 plain:aI x.tx=true
 headK:zF x
 spine:2≤x.rk→r8 x
 chc:Chc x
theorem Reads.single {tk:List Tk} {p q n B:Nat} {cl:List Cl} {e:Int} (h:Rg tk .single p cl q 0 n) (hu:bR tk p=false) (hn:n≤B):Reads tk p q cl e B:=
 ⟨cl,q,n,n,hn, .plain hu h,fun _=>⟨rfl,rfl,rfl⟩,fun r _ _ c q2 n2 k=>k⟩
theorem Reads.bin {tk:List Tk} {p q B r:Nat} {cl:List Cl} {e:Int} (h:Reads tk p q cl e B) (h2:2≤r) (hr:(r:Int)≤e) (hs:rkT tk q<(r:Int)): ∃n,n≤B∧Rg tk (.bin r) p cl q 0 n:=by
 obtain ⟨a0,q0,n0,n,hn,hu,-,hl⟩:=h;exact ⟨n,hn, .bin hu (hl r h2 hr _ _ _ (.stop hs))⟩
theorem gZ {x:Pz} (h2:2≤x.rk) (h:r8 x):Chc x:=by
 intro tk p hk h40 h0 h63;obtain ⟨n,hn,hb⟩:=(h tk p hk ⟨h40,by omega,fun _=>by omega⟩).bin (r:=2) (by omega) (by omega) (by omega);exact ⟨n,hn, .one hb h63⟩
theorem af0:aj [40]=0∧aj [41]=0∧aj [44]=0∧aj [93]=0∧aj [63]=0∧aj [58]=0:=by decide
theorem lD {x:Pz} (hg:Good x) (r:Int) (tk:List Tk) (p:Nat) (hr:2≤r) (hk:AtK tk p (iJ r x)) (hf:ah8 tk (p+(iJ r x).length) (if x.rk<r then 8 else x.rk)):
  Reads tk p (p+(iJ r x).length) x.cl (if x.rk<r then 8 else x.rk) (2*x.dp):=by
 have hdp:=hg.dp;unfold iJ at hk hf⊢
 by_cases h:x.rk<r
 ·rw [if_pos h] at hk hf⊢
  rw [if_pos h] at hf⊢;have h0:=hk.head;have h1:=hk.tail;have h2:=h1.right.head;obtain ⟨n,hn,hc⟩:=hg.chc tk (p+1) h1.left (by rw [bz h2];decide) (by rw [lC h2];exact af0.2.1) (by rw [bz h2];decide);have hpar:Rg tk .single p x.cl (p+1+x.tk.length+1) 0 (n+1):= .paren (by rw [bz h0];decide) hc (by rw [bz h2];decide)
  have he:p+((4,[40])::(x.tk++[(4,[41])]):List Kw).length=p+1+x.tk.length+1:=by simp;omega
  rw [he];exact Reads.single hpar (by rw [bR,bz h0,bz h0];decide) (by omega)
 ·rw [if_neg h] at hk hf⊢
  rw [if_neg h] at hf⊢;obtain ⟨a0,q0,n0,n,hn,rest⟩:=hg.spine (by omega) tk p hk hf;exact ⟨a0,q0,n0,n,by omega,rest⟩
theorem lE (ks:List Pz) (i:Nat):(bP ks i).dp≤mw ks:=by
 induction ks generalizing i with
 |nil=>simp [bP,mw]
 |cons x xs ih=>
  cases i with
  |zero=>simp only [bP,List.getD_cons_zero,mw];omega
  |succ i=>have:=ih i;simp only [bP,List.getD_cons_succ,mw] at this⊢;omega
theorem r9 {ks:List Pz} {i:Nat} (h:i<ks.length):bP ks i∈ks:=by
 unfold bP;rw [List.getD_eq_getElem?_getD,List.getElem?_eq_getElem h];exact List.getElem_mem h
theorem yq {w:List UInt8} (hw:w=[41]∨w=[93]) (xs:List Pz) (hg: ∀x∈xs,Good x): ∀(tk:List Tk) (q k:Nat) (out:List Cl) (no:Nat),AtK tk q (eT xs++[(4,w)])→k≠0→
  ∃n,n≤max no (2*mw xs)∧Rg tk (.series w k out no) q (out++xs.flatMap Pz.cl) (q+(eT xs++[(4,w)]).length) (k+xs.length) n:=by
 induction xs with
 |nil=>
  intro tk q k out no hk hk0;refine ⟨no,by omega, ?_⟩;simp only [eT,List.flatMap_nil,List.nil_append,List.length_cons,List.length_nil,List.append_nil] at hk⊢;exact .close (by rw [bz hk.head];simp)
 |cons x xs ih=>
  intro tk q k out no hk hk0;have hx:=hg x (by simp)
  have hk':AtK tk q ((4,[44])::(x.tk++(eT xs++[(4,w)]))):=by simpa [eT] using hk
  have h0:=hk'.head;have h1:=hk'.tail;have h2:=h1.right
  obtain ⟨k2,w2,hd2,hr2⟩: ∃w2 r2,eT xs++[(4,w)]=(4,w2)::r2∧(w2=[44]∨w2=w):=by
   cases xs with
   |nil=>exact ⟨w,[],rfl, .inr rfl⟩
   |cons y ys=>exact ⟨[44],y.tk++eT ys++[(4,w)],by simp [eT], .inl rfl⟩
  rw [hd2] at h2;have h3:=h2.head
  have hne:k2≠[40]∧k2≠[63]∧aj k2=0:=by rcases hr2 with rfl|rfl<;>rcases hw with rfl|rfl<;>decide
  obtain ⟨n,hn,hc⟩:=hx.chc tk (q+1) h1.left (by rw [bz h3];simp [hne.1]) (by rw [lC h3];exact hne.2.2) (by rw [bz h3];simp [hne.2.1]);rw [←hd2] at h2;obtain ⟨n',hn',hr⟩:=ih (fun y hy=>hg y (by simp [hy])) tk (q+1+x.tk.length) (k+1) (out++x.cl) (max no n) h2 (by omega);refine ⟨n',by simp only [mw];omega, ?_⟩
  have e1:q+(eT (x::xs)++[(4,w)]).length=q+1+x.tk.length+(eT xs++[(4,w)]).length:=by simp [eT];omega
  have e2:k+(x::xs).length=k+1+xs.length:=by simp;omega
  have e3:out++(x::xs).flatMap Pz.cl=out++x.cl++xs.flatMap Pz.cl:=by simp
  rw [e1,e2,e3];exact .part (by rw [bz h0];rcases hw with rfl|rfl<;>decide) (fun h=>absurd h hk0) (fun _=>⟨by rw [bz h0];decide,rfl⟩) hc hr
theorem qb {w:List UInt8} (hw:w=[41]∨w=[93]) (xs:List Pz) (hg: ∀x∈xs,Good x) (tk:List Tk) (p:Nat) (hk:AtK tk p (gQ xs++[(4,w)])):
  ∃n,n≤2*mw xs∧Rg tk (.series w 0 [] 0) p (xs.flatMap Pz.cl) (p+(gQ xs++[(4,w)]).length) xs.length n:=by
 cases xs with
 |nil=>
  refine ⟨0,air _, ?_⟩;simp only [gQ,List.nil_append,List.flatMap_nil,List.length_cons,List.length_nil] at hk⊢;exact .close (by rw [bz hk.head];simp)
 |cons x xs=>
  have hx:=hg x (by simp)
  have hk':AtK tk p (x.tk++(eT xs++[(4,w)])):=by simpa [gQ] using hk
  have h2:=hk'.right
  obtain ⟨k2,r2,hd2,hr2⟩: ∃w2 r2,eT xs++[(4,w)]=(4,w2)::r2∧(w2=[44]∨w2=w):=by
   cases xs with
   |nil=>exact ⟨w,[],rfl, .inr rfl⟩
   |cons y ys=>exact ⟨[44],y.tk++eT ys++[(4,w)],by simp [eT], .inl rfl⟩
  rw [hd2] at h2;have h3:=h2.head
  have hne:k2≠[40]∧k2≠[63]∧aj k2=0:=by rcases hr2 with rfl|rfl<;>rcases hw with rfl|rfl<;>decide
  obtain ⟨n,hn,hc⟩:=hx.chc tk p hk'.left (by rw [bz h3];simp [hne.1]) (by rw [lC h3];exact hne.2.2) (by rw [bz h3];simp [hne.2.1]);rw [←hd2] at h2;obtain ⟨n',hn',hr⟩:=yq hw xs (fun y hy=>hg y (by simp [hy])) tk (p+x.tk.length) 1 x.cl (max 0 n) h2 (by omega);have hdx:=hx.dp;refine ⟨n',by simp only [mw];omega, ?_⟩
  have e1:p+(gQ (x::xs)++[(4,w)]).length=p+x.tk.length+(eT xs++[(4,w)]).length:=by simp [gQ];omega
  have e2:(x::xs).length=1+xs.length:=by simp;omega
  rw [e1,e2,List.flatMap_cons]
  have hstart:isT tk p w=false:=by
   obtain ⟨k0,w0,r0,he,h4⟩:=hx.headK
   have h5:AtK tk p ((k0,w0)::(r0++(eT xs++[(4,w)]))):=by rw [he] at hk';exact hk'
   by_cases hk4:k0=4
   ·subst hk4
    rw [bz h5.head]
    rcases h4 rfl with rfl|rfl|rfl|rfl<;>rcases hw with rfl|rfl<;>decide
   ·exact (iD h5.head hk4).1
  exact .part (p0:=p) hstart (fun _=>rfl) (fun h=>absurd rfl h) hc (by simpa using hr)
theorem db (a b:List UInt8):aI (a++b)=(aI a&&aI b):=by simp [aI]
theorem dh (c:UInt8) (b:List UInt8):aI (c::b)=(cC (c.toNat:Int)&&aI b):=by simp [aI]
theorem oZ {c:UInt8} (h:isD c=true):cP (c.toNat:Int)=true∧cA (c.toNat:Int)=false:=by
 simp only [isD,Bool.and_eq_true,decide_eq_true_eq] at h;simp only [cP,cA,Bool.and_eq_true,decide_eq_true_eq,Bool.and_eq_false_iff,decide_eq_false_iff_not]
 omega
theorem aei {t:List UInt8} (h: ∀c∈t,nrI (c.toNat:Int)=true):aI t=true:=by
 rw [aI,List.all_eq_true];intro c hc;have:=h c hc;simp only [nrI,cP,Bool.or_eq_true,Bool.and_eq_true,decide_eq_true_eq,beq_iff_eq] at this;simp only [cC,Bool.and_eq_true,decide_eq_true_eq];omega
theorem vL {t:List UInt8} (h: ∀c∈t,nmI (c.toNat:Int)=true):aI t=true:=by
 rw [aI,List.all_eq_true];intro c hc;have:=h c hc;simp only [nmI,dH,cA,cP,Bool.or_eq_true,Bool.and_eq_true,decide_eq_true_eq,beq_iff_eq] at this;simp only [cC,Bool.and_eq_true,decide_eq_true_eq];omega
theorem ahv (t b:Nat) (hb:1≤b): ∃c r,a8 t b=c::r∧isD c=true∧ ∀x∈a8 t b,nrI (x.toNat:Int)=true:=by
 obtain ⟨c,l,h1,h2⟩:=pJ (t/b)
 have hd: ∀{l:List UInt8},eK l=true→ ∀x∈l,nrI (x.toNat:Int)=true:=fun h x hx=>by
  rw [eK,List.all_eq_true] at h;rw [nrI,(oZ (h x hx)).1];rfl
 refine ⟨c,l++(if t % b=0 then [] else 46::frs 6 (t % b) b),by rw [a8,h1];rfl,h2,fun x hx=> ?_⟩;rw [a8] at hx
 rcases List.mem_append.mp hx with hx|hx
 ·exact hd (cO (t/b)).1 x hx
 ·split at hx
  ·cases hx
  ·rcases List.mem_cons.mp hx with rfl|hx
   ·decide
   ·exact hd (jG 6 (t % b) b (Nat.mod_lt _ hb)) x hx
theorem aej {s:ByteArray} (h:lR s=true):i6 s=true∧lS s=s∧ ∃t b:Nat,1≤b∧s.data.toList=a8 t b:=by
 simp only [lR,Bool.and_eq_true,decide_eq_true_eq,beq_iff_eq] at h;obtain ⟨h1,h2,h3⟩:=h;have ht:=o4 s h1;obtain ⟨b1,b2⟩:=oq s h1;obtain ⟨T,hT⟩:=aiq h2;obtain ⟨B,hB⟩:=aiq (show 0≤rdB s by omega);rw [hT,hB] at ht;rw [hB] at b1 b2 h3
 have hB1:1≤B:=by omega
 have hm:1000000 % B=0:=by
  have:(1000000:Int).tmod (B:Int)=((1000000 % B:Nat):Int):=by rw [Int.tmod_eq_emod_of_nonneg (by omega)];rfl
  rw [this] at h3;omega
 have hv:vB (T:Int) (B:Int)=true:=by
  cases hv:vB (T:Int) (B:Int) with
  |true=>rfl
  |false=>
   rw [aW,hv] at ht
   have ht:s.data.toList=[]:=by simpa using ht.symm
   obtain rfl:s=⟨#[]⟩:=by rw [kb ht]
   exact absurd h1 (by decide)
 have hl:s.data.toList=a8 T B:=by
  rw [←ht,aW,if_pos hv,gL,if_neg (by omega),aH]
  simp [hm]
 obtain ⟨d1,d2,d3,d4⟩:=pI T B hv hm;refine ⟨?_, ?_,T,B,hB1,hl⟩
 ·rw [i6,hl,gd,d1,d2];rfl
 ·rw [lS,hl,opT,opB,if_pos d1,if_pos d1,d3,d4,ht]
theorem tn (l:List UInt8): ∀n,cB n l=true→ ∀c∈l,nmI (c.toNat:Int)=true:=by
 induction l with
 |nil=>intro n _ c hc;cases hc
 |cons b t ih=>
  intro n h c hc;simp only [cB] at h
  by_cases h1:(((b.toNat:Int)==46)&&decide (0<n))=true
  ·rw [if_pos h1] at h
   simp only [Bool.and_eq_true] at h1
   rcases List.mem_cons.mp hc with rfl|hc
   ·rw [nmI,h1.1];simp
   ·exact ih 0 h c hc
  ·rw [if_neg h1] at h
   by_cases h2:jN n (b.toNat:Int)=true
   ·rw [if_pos h2] at h;cases h
   ·rw [if_neg h2] at h
    by_cases h3:12<n+1
    ·rw [if_pos h3] at h;cases h
    ·rw [if_neg h3] at h
     rcases List.mem_cons.mp hc with rfl|hc
     ·simp only [jN,Bool.and_eq_true,Bool.not_eq_true',Bool.or_eq_true,not_and,bne_iff_ne,ne_eq] at h2
      rw [nmI,dH]
      cases hl:cA (c.toNat:Int) with
      |true=>rfl
      |false=>
       have:=h2 hl
       cases hd:cP (c.toNat:Int) with
       |true=>rfl
       |false=>
        simp only [hd,not_or,true_and,Decidable.not_not] at this;rw [this.2];rfl
     ·exact ih _ h c hc
theorem jn {l:List UInt8} (h:dn l=true): ∃b t,l=b::t∧cA (b.toNat:Int)=true∧(∀c∈t,nmI (c.toNat:Int)=true)∧l≠cN∧l≠bX:=by
 simp only [dn,Bool.and_eq_true,bne_iff_ne,ne_eq] at h;obtain ⟨h,ht,hf⟩:=h
 cases l with
 |nil=>simp [cB] at h
 |cons b t=>
  refine ⟨b,t,rfl, ?_,fun c hc=>tn _ 0 h c (by simp [hc]),ht,hf⟩;simp only [cB,Nat.lt_irrefl,decide_false,Bool.and_false,Bool.false_eq_true,if_false] at h
  by_cases h2:jN 0 (b.toNat:Int)=true
  ·rw [if_pos h2] at h;cases h
  ·simp only [jN,Bool.and_eq_true,Bool.not_eq_true',beq_self_eq_true,Bool.true_or,and_true,Bool.not_eq_false] at h2;exact h2
theorem yr {c:UInt8} (h:cA (c.toNat:Int)=true∨cP (c.toNat:Int)=true):((c.toNat:Int)==61)=false:=by
 simp only [cA,cP,Bool.and_eq_true,decide_eq_true_eq] at h;exact beq_eq_false_iff_ne.mpr (by omega)
theorem vM {w:List UInt8} (h:0<aj w):aI w=true:=by
 have key: ∀(q:List UInt8) (r x:Int),aI q=true→(0<x→aI w=true)→0<(if w=q then r else x)→aI w=true:=by
  intro q r x hq hx hp
  by_cases e:w=q
  ·rw [e];exact hq
  ·rw [if_neg e] at hp;exact hx hp
 revert h
 unfold aj
 iterate 13 (refine key _ _ _ (by decide) ?_)
 intro h;exact absurd h (by decide)
theorem lF {k m:Int} {s:ByteArray} {kw:Kw} (hkw:kw=(kw.1,kw.2)) (htx:bY (k,s,m) []=kw.2) (htk:lZ (k,s,m) []=[kw]) (hrk:rkC (k,s,m)=8) (hk4:kw.1≠4) (hlex:Lex kw.2 [kw]) (hh: ∃c r,kw.2=c::r∧((c.toNat:Int)==61)=false) (hp:aI kw.2=true)
  (hr: ∀(tk:List Tk) (p:Nat),tk[p]? =some (kw.1,⟨kw.2.toArray⟩)→isT tk (p+1) [40]=false→Rg tk .single p [(k,s,m)] (p+1) 0 0):Good (cM (k,s,m) []):=by
 have hsp:r8 (cM (k,s,m) []):=by
  intro tk p hk hf;simp only [cM,htk,List.length_cons,List.length_nil] at hk hf⊢;have h0:tk[p]? =some (kw.1,⟨kw.2.toArray⟩):=AtK.head (by rw [hkw] at hk;exact hk);exact Reads.single (hr tk p h0 hf.1) (by rw [bR,(iD h0 hk4).1,(iD h0 hk4).1];rfl) (air _)
 have h2:2≤(cM (k,s,m) []).rk:=by simp only [cM,hrk];omega
 refine ⟨by simp only [cM,hrk];omega,by simp [cM,mw], ?_, ?_, ?_, ?_,fun _=>hsp,gZ h2 hsp⟩
 ·simp only [cM,List.map_nil,htx,htk];exact hlex
 ·simp only [cM,List.map_nil,htx];exact hh
 ·simp only [cM,List.map_nil,htx];exact hp
 ·exact ⟨kw.1,kw.2,[],by simp only [cM,htk],fun h=>absurd h hk4⟩
theorem abM {k m:Int} {s:ByteArray} (h:okC (k,s,m)=true) (hk:k=1∨k=2∨k=3∨k=4):Good (cM (k,s,m) []):=by
 have hm:m=0:=by
  simp only [okC,aQ,bg,Bool.and_eq_true] at h;have:=h.2;rw [if_pos hk] at this
  simpa using this
 subst hm;simp only [okC,aQ,Bool.and_eq_true] at h;have hw:=h.1
 rcases hk with rfl|rfl|rfl|rfl
 ·have hn:lR s=true:=by simpa [aJ] using hw
  obtain ⟨n1,n2,t,b,hb,hl⟩:=aej hn;obtain ⟨c,r,hc,hd,hall⟩:=ahv t b hb;rw [hl.symm] at hc hall
  have hcr: ∀x∈r,nrI (x.toNat:Int)=true:=fun x hx=>hall x (by rw [hc];simp [hx])
  refine lF (kw:=(2,s.data.toList)) rfl rfl rfl rfl (by simp) ?_ ⟨c,r,hc,yr (.inr (oZ hd).1)⟩ (aei hall) (fun tk p h0 _=> ?_)
  ·simp only;rw [hc];exact afX (oZ hd).2 (oZ hd).1 hcr
  ·simp only [gG] at h0
   have:=Rg.num h0 n1
   rwa [n2] at this
 ·have ht:aT s=true:=by
   have:aT s=true∧s.size≤60:=by simpa [aJ] using hw
   exact this.1
  have hok:okL s.data.toList=true:=by simp only [aT,Bool.and_eq_true] at ht;exact ht.2
  refine lF (kw:=(3,bB s.data.toList)) rfl rfl rfl rfl (by simp) (abL _) ⟨34,_,rfl,by decide⟩ ?_ (fun tk p h0 _=> ?_)
  ·simp only [bB];rw [dh,db,tg _ hok];decide
  ·have hq:(⟨(bB s.data.toList).toArray⟩:ByteArray)=cX s:=by rw [cX,if_pos ht]
   rw [hq] at h0;have:=Rg.text h0 (sq ht).1
   rwa [(sq ht).2] at this
 ·have ht:s.data.toList=cN∨s.data.toList=bX:=by simpa [aJ] using hw
  refine lF (kw:=(1,s.data.toList)) rfl rfl rfl rfl (by simp) ?_ ?_ ?_ (fun tk p h0 _=> ?_)
  ·simp only
   rcases ht with ht|ht<;>(rw [ht];exact qa (by decide) (by decide))
  ·rcases ht with ht|ht<;>(simp only;rw [ht];exact ⟨_,_,rfl,by decide⟩)
  ·simp only
   rcases ht with ht|ht<;>(rw [ht];decide)
  ·simp only [gG] at h0
   exact .truth h0 ht
 ·have hn:dn s.data.toList=true:=by
   have:dn s.data.toList=true∧s.size≤60:=by simpa [aJ] using hw
   exact this.1
  obtain ⟨b,t,hl,hb,htl,n1,n2⟩:=jn hn;refine lF (kw:=(1,s.data.toList)) rfl rfl rfl rfl (by simp) ?_ ⟨b,t,hl,yr (.inl hb)⟩ ?_ (fun tk p h0 h40=> ?_)
  ·simp only;rw [hl];exact qa hb htl
  ·simp only;rw [hl];exact vL (fun c hc=>by
    rcases List.mem_cons.mp hc with rfl|hc
    ·rw [nmI,dH,hb];rfl
    ·exact htl c hc)
  ·simp only [gG] at h0
   exact .name h0 n1 n2 h40
theorem jo (ks:List Pz) (i:Nat) (h:i<ks.length):eo (ks.map eL) i=eL (bP ks i):=by
 unfold eo bP;rw [List.getD_eq_getElem?_getD,List.getD_eq_getElem?_getD,List.getElem?_map,List.getElem?_eq_getElem h];rfl
theorem aek {c:UInt8} (hc:c=41∨c=93) (xs:List Pz) (hg: ∀x∈xs,Good x):Lex (gb (xs.map eL)++[c]) (eT xs++[(4,[c])])∧lY (gb (xs.map eL)++[c])=true∧gb (xs.map eL)++[c]≠[]∧aI (gb (xs.map eL)++[c])=true:=by
 induction xs with
 |nil=>rcases hc with rfl|rfl<;>exact ⟨fL (by decide),by decide,by decide,by decide⟩
 |cons x xs ih=>
  obtain ⟨i1,i2,i3,i4⟩:=ih (fun y hy=>hg y (by simp [hy]));have hx:=hg x (by simp)
  have e:gb ((x::xs).map eL)++[c]=44::(32::(x.tx++(gb (xs.map eL)++[c]))):=by simp [gb,eL]
  have ek:eT (x::xs)++[(4,[c])]=(4,[44])::(x.tk++(eT xs++[(4,[c])])):=by simp [eT]
  rw [e,ek];refine ⟨gP (by decide) ((hx.lex.app i1 i3 i2).space),rfl,by simp, ?_⟩;rw [dh,dh,db,hx.plain,i4];rfl
theorem vN {c:UInt8} (hc:c=41∨c=93) (xs:List Pz) (hg: ∀x∈xs,Good x):Lex (dq (xs.map eL)++[c]) (gQ xs++[(4,[c])])∧aI (dq (xs.map eL)++[c])=true:=by
 cases xs with
 |nil=>rcases hc with rfl|rfl<;>exact ⟨fL (by decide),by decide⟩
 |cons x xs=>
  obtain ⟨i1,i2,i3,i4⟩:=aek hc xs (fun y hy=>hg y (by simp [hy]));have hx:=hg x (by simp)
  have e:dq ((x::xs).map eL)++[c]=x.tx++(gb (xs.map eL)++[c]):=by simp [dq,eL]
  have ek:gQ (x::xs)++[(4,[c])]=x.tk++(eT xs++[(4,[c])]):=by simp [gQ]
  rw [e,ek,db,hx.plain,i4];exact ⟨hx.lex.app i1 i3 i2,rfl⟩
theorem o0 {x:Pz} (hg:Good x) (r:Int):Lex (dE r (eL x)) (iJ r x)∧(∃c t,dE r (eL x)=c::t∧((c.toNat:Int)==61)=false)∧aI (dE r (eL x))=true:=by
 unfold dE iJ eL
 by_cases h:x.rk<r
 ·rw [if_pos h,if_pos h]
  refine ⟨gP (by decide) (hg.lex.app (fL (by decide)) (by simp) (by decide)),⟨40,_,rfl,by decide⟩, ?_⟩;rw [dh,db,hg.plain];decide
 ·rw [if_neg h,if_neg h]
  exact ⟨hg.lex,hg.head,hg.plain⟩
theorem oE {c:Cl} {ks:List Pz} (hrk:rkC c=8) (hlex:Lex (bY c (ks.map eL)) (lZ c ks)) (hh: ∃b r,bY c (ks.map eL)=b::r∧((b.toNat:Int)==61)=false) (hp:aI (bY c (ks.map eL))=true) (hk:zF (cM c ks))
  (hr: ∀(tk:List Tk) (p:Nat),AtK tk p (lZ c ks)→bR tk p=false∧ ∃n,n≤2*mw ks+1∧Rg tk .single p (c::ks.flatMap Pz.cl) (p+(lZ c ks).length) 0 n):Good (cM c ks):=by
 have hsp:r8 (cM c ks):=by
  intro tk p hk hf;obtain ⟨hu,n,hn,hd⟩:=hr tk p hk;exact Reads.single hd hu (by simp only [cM];omega)
 have h2:2≤(cM c ks).rk:=by simp only [cM,hrk];omega
 exact ⟨by simp only [cM,hrk];omega,by simp [cM],hlex,hh,hp,hk,fun _=>hsp,gZ h2 hsp⟩
theorem abN {m:Int} {s:ByteArray} {ks:List Pz} (h:okC (5,s,m)=true) (hl:ks.length=m.toNat) (hg: ∀x∈ks,Good x):Good (cM (5,s,m) ks):=by
 have hm:0≤m∧m≤8:=kU h
 have hs:s=⟨#[]⟩:=by
  simp only [okC,aQ,Bool.and_eq_true] at h
  have:s.data.toList=[]:=by simpa [aJ] using h.1
  exact eI (by rw [this])
 subst hs;obtain ⟨j1,j2⟩:=vN (c:=93) (.inr rfl) ks hg;have et:bY (5,⟨#[]⟩,m) (ks.map eL)=91::(dq (ks.map eL)++[93]):=rfl;have ek:lZ (5,⟨#[]⟩,m) ks=(4,[91])::(gQ ks++[(4,[93])]):=rfl;refine oE rfl (by rw [et,ek];exact gP (by decide) j1) ⟨91,_,et,by decide⟩ (by rw [et,dh,j2];decide) ⟨4,[91],_,ek,fun _=>by simp⟩ (fun tk p hk=> ?_);rw [ek] at hk⊢;have h0:=hk.head;obtain ⟨n,hn,hr⟩:=qb (w:=[93]) (.inr rfl) ks hg tk (p+1) hk.tail;refine ⟨by rw [bR,bz h0,bz h0];decide,n+1,by omega, ?_⟩
 have e:p+((4,[91])::(gQ ks++[(4,[93])]):List Kw).length=p+1+(gQ ks++[(4,[93])]).length:=by simp;omega
 rw [e,show m=(ks.length:Int) by omega];exact .list (by rw [bz h0];decide) hr
theorem abO {m:Int} {s:ByteArray} {ks:List Pz} (h:okC (6,s,m)=true) (hl:ks.length=m.toNat) (hg: ∀x∈ks,Good x):Good (cM (6,s,m) ks):=by
 have hm:0≤m∧m≤8:=kU h
 have hn:dn s.data.toList=true:=by
  simp only [okC,aQ,Bool.and_eq_true] at h
  have:dn s.data.toList=true∧eH s.data.toList 46=false:=by simpa [aJ] using h.1
  exact this.1
 obtain ⟨b,t,hw,hb,htl,n1,n2⟩:=jn hn
 have hall: ∀c∈s.data.toList,nmI (c.toNat:Int)=true:=fun c hc=>by
  rw [hw] at hc
  rcases List.mem_cons.mp hc with rfl|hc
  ·rw [nmI,dH,hb];rfl
  ·exact htl c hc
 obtain ⟨j1,j2⟩:=vN (c:=41) (.inl rfl) ks hg;have et:bY (6,s,m) (ks.map eL)=s.data.toList++(40::(dq (ks.map eL)++[41])):=rfl;have ek:lZ (6,s,m) ks=(1,s.data.toList)::((4,[40])::(gQ ks++[(4,[41])])):=rfl
 have hln:Lex s.data.toList [(1,s.data.toList)]:=by rw [hw];exact qa hb htl
 refine oE rfl (by rw [et,ek];exact hln.app (gP (by decide) j1) (by simp) rfl) ⟨b,_,by rw [et,hw];rfl,yr (.inl hb)⟩ (by rw [et,db,dh,j2,vL hall];decide) ⟨1,_,_,ek,fun h=>by cases h⟩ (fun tk p hk=> ?_);rw [ek] at hk⊢;have h0:=hk.head;have h1:=hk.tail.head;simp only [gG] at h0;obtain ⟨n,hn,hr⟩:=qb (w:=[41]) (.inl rfl) ks hg tk (p+1+1) hk.tail.tail;refine ⟨by rw [bR,(iD h0 (by decide)).1,(iD h0 (by decide)).1];rfl,n+1,by omega, ?_⟩
 have e:p+((1,s.data.toList)::((4,[40])::(gQ ks++[(4,[41])])):List Kw).length=p+2+(gQ ks++[(4,[41])]).length:=by simp;omega
 rw [e,show m=(ks.length:Int) by omega];exact .call h0 n1 n2 (by rw [bz h1];decide) hr
theorem ael {ks:List Pz} (h:ks.length=1):ks=[bP ks 0]:=by
 match ks,h with
 |[x],_=>rfl
theorem abP {ks:List Pz} (h:ks.length=2):ks=[bP ks 0,bP ks 1]:=by
 match ks,h with
 |[x,y],_=>rfl
theorem vO {ks:List Pz} (h:ks.length=3):ks=[bP ks 0,bP ks 1,bP ks 2]:=by
 match ks,h with
 |[x,y,z],_=>rfl
theorem ahw (tk:List Tk) (q:Nat):rkT tk q≤6:=by have:=sM tk q;omega
theorem yt {m:Int} {s:ByteArray} {ks:List Pz} (h:okC (7,s,m)=true) (hl:ks.length=m.toNat) (hg: ∀x∈ks,Good x):Good (cM (7,s,m) ks):=by
 have hw:(s.data.toList=[33]∨s.data.toList=[45])∧m=1:=by
  simp only [okC,aQ,Bool.and_eq_true] at h;exact ⟨by simpa [aJ] using h.1,by simpa [bg] using h.2⟩
 obtain ⟨hw,rfl⟩:=hw
 have hl1:ks.length=1:=by simpa using hl
 have hks:=ael hl1;have hx:=hg (bP ks 0) (r9 (by omega));have hd:=lE ks 0;obtain ⟨p1,p2,p3⟩:=o0 hx 7
 have et:bY (7,s,1) (ks.map eL)=s.data.toList++dE 7 (eL (bP ks 0)):=by rw [←jo ks 0 (by omega)];rfl
 have ek:lZ (7,s,1) ks=(4,s.data.toList)::iJ 7 (bP ks 0):=rfl
 have hsp:r8 (cM (7,s,1) ks):=by
  intro tk p hk hf;simp only [cM] at hk hf⊢;rw [ek] at hk hf⊢;have h0:=hk.head
  have he:p+((4,s.data.toList)::iJ 7 (bP ks 0):List Kw).length=p+1+(iJ 7 (bP ks 0)).length:=by simp;omega
  rw [he] at hf⊢;have htop:=ahw tk (p+1+(iJ 7 (bP ks 0)).length)
  have he7:7≤(if (bP ks 0).rk<7 then 8 else (bP ks 0).rk):=by split<;>omega
  obtain ⟨a0,q0,n0,n,hn,hu,hsame,hlift⟩:=lD hx 7 tk (p+1) (by omega) hk.tail ⟨hf.1,by omega,fun _=>by omega⟩;obtain ⟨rfl,rfl,rfl⟩:=hsame he7
  have hcl:ks.flatMap Pz.cl=(bP ks 0).cl:=by rw [hks];simp [bP]
  rw [hcl];simp only [gG] at h0
  have hun:bR tk p=true:=by
   have h0':tk[p]? =some (4,⟨s.data.toList.toArray⟩):=by rw [gG];exact h0
   rw [bR,bz h0',bz h0']
   rcases hw with e|e<;>(rw [e];decide)
  exact ⟨_,_,_,n0+1,by omega, .sign hun h0 hu,fun _=>⟨rfl,rfl,rfl⟩,fun r _ _ c q2 n2 k=>k⟩
 have h2:2≤(cM (7,s,1) ks).rk:=by simp [cM,rkC]
 refine ⟨by simp [cM,rkC],by simp [cM], ?_, ?_, ?_, ?_,fun _=>hsp,gZ h2 hsp⟩
 ·simp only [cM];rw [et,ek]
  rcases hw with e|e
  ·rw [e];exact afY p1 p2
  ·rw [e];exact gP (by decide) p1
 ·simp only [cM];rw [et]
  rcases hw with e|e<;>(rw [e];exact ⟨_,_,rfl,by decide⟩)
 ·simp only [cM];rw [et,db,p3]
  rcases hw with e|e<;>(rw [e];decide)
 ·exact ⟨4,_,_,ek,fun _=>by rcases hw with e|e<;>simp [e]⟩
theorem vP {m:Int} {s:ByteArray} {ks:List Pz} (h:okC (8,s,m)=true) (hl:ks.length=m.toNat) (hg: ∀x∈ks,Good x):Good (cM (8,s,m) ks):=by
 have hw:0<aj s.data.toList∧m=2:=by
  simp only [okC,aQ,Bool.and_eq_true] at h;exact ⟨by simpa [aJ] using h.1,by simpa [bg] using h.2⟩
 obtain ⟨hw,rfl⟩:=hw;have hk26:=nr _ hw
 have hl2:ks.length=2:=by simpa using hl
 have hks:=abP hl2;have hx:=hg (bP ks 0) (r9 (by omega));have hy:=hg (bP ks 1) (r9 (by omega));have hdx:=lE ks 0;have hdy:=lE ks 1
 have hLr:df (aj s.data.toList)=5∧aj s.data.toList=4∨df (aj s.data.toList)=aj s.data.toList∧aj s.data.toList≠4:=by
  unfold df;split<;>omega
 obtain ⟨p1,p2,p3⟩:=o0 hx (df (aj s.data.toList));obtain ⟨p4,p5,p6⟩:=o0 hy (aj s.data.toList+1)
 have et:bY (8,s,2) (ks.map eL)=dE (df (aj s.data.toList)) (eL (bP ks 0))++(32::(s.data.toList++(32::dE (aj s.data.toList+1) (eL (bP ks 1))))):=by
  rw [←jo ks 0 (by omega),←jo ks 1 (by omega)]
  simp [bY]
 have ek:lZ (8,s,2) ks=iJ (df (aj s.data.toList)) (bP ks 0)++((4,s.data.toList)::iJ (aj s.data.toList+1) (bP ks 1)):=rfl
 have hsp:r8 (cM (8,s,2) ks):=by
  intro tk p hk hf;have hrk:(cM (8,s,2) ks).rk=aj s.data.toList:=rfl;rw [hrk] at hf⊢;simp only [cM] at hk hf⊢;rw [ek] at hk hf⊢;generalize hA:iJ (df (aj s.data.toList)) (bP ks 0)=A at hk hf⊢;generalize hBB:iJ (aj s.data.toList+1) (bP ks 1)=BB at hk hf⊢;have h1:=hk.right;have h0:=h1.head;have h2:=h1.tail
  have he:p+(A++((4,s.data.toList)::BB):List Kw).length=p+A.length+1+BB.length:=by simp;omega
  rw [he] at hf⊢;obtain ⟨f1,f2,f3⟩:=hf;have hrq:rkT tk (p+A.length)=aj s.data.toList:=lC h0
  have hnot:isT tk (p+A.length) [40]=false:=by
   rw [bz h0];refine decide_eq_false (fun e=> ?_);rw [e] at hw;exact absurd hw (by decide)
  have hex:=hx.rk;have hey:=hy.rk
  have heL:df (aj s.data.toList)≤(if (bP ks 0).rk<df (aj s.data.toList) then 8 else (bP ks 0).rk):=by split<;>omega
  have heR:aj s.data.toList+1≤(if (bP ks 1).rk<aj s.data.toList+1 then 8 else (bP ks 1).rk):=by split<;>omega
  generalize hE0:(if (bP ks 0).rk<df (aj s.data.toList) then 8 else (bP ks 0).rk)=E0 at heL;generalize hE1:(if (bP ks 1).rk<aj s.data.toList+1 then 8 else (bP ks 1).rk)=E1 at heR;have r0:=lD hx (df (aj s.data.toList)) tk p (by omega) (by rw [hA];exact hk.left) (by rw [hA,hE0];exact ⟨hnot,by omega,fun _=>by omega⟩);have r1:=lD hy (aj s.data.toList+1) tk (p+A.length+1) (by omega) (by rw [hBB];exact h2) (by rw [hBB,hE1];exact ⟨f1,by omega,fun _=>by omega⟩);rw [hA,hE0] at r0;rw [hBB,hE1] at r1;obtain ⟨kk,hkk⟩:=aiq (show 0≤aj s.data.toList by omega);obtain ⟨n1,hn1,hb⟩:=r1.bin (r:=kk+1) (by omega) (by omega) (by omega);obtain ⟨a0,q0,n0,n,hn,hu,-,hlift⟩:=r0
  have hcl:ks.flatMap Pz.cl=(bP ks 0).cl++(bP ks 1).cl:=by rw [hks];simp [bP]
  rw [hcl];refine ⟨a0,q0,n0,max n n1,by omega,hu,fun h7=>by omega,fun r hr2 hr c q2 n2 hloop=>hlift r hr2 (by omega) c q2 n2 ?_⟩;simp only [gG] at h0;exact .more (k:=kk) (by rw [hrq,hkk]) (by omega) (by omega) h0 hb (fun ⟨e1,e2⟩=>f3 (by omega) e2) hloop
 have h2:2≤(cM (8,s,2) ks).rk:=hk26.1;refine ⟨⟨by show 1≤aj s.data.toList;omega,by show aj s.data.toList≤8;omega⟩,by simp [cM], ?_, ?_, ?_, ?_,fun _=>hsp,gZ h2 hsp⟩
 ·simp only [cM];rw [et,ek]
  exact p1.app (((afZ hw).app p4.space (by simp) rfl).space) (by simp) rfl
 ·simp only [cM];rw [et]
  obtain ⟨c,t,e,hc⟩:=p2;exact ⟨c,_,by rw [e];rfl,hc⟩
 ·simp only [cM];rw [et,db,dh,db,dh,p3,p6,vM hw];decide
 ·obtain ⟨k0,w0,r0,e,h4⟩:=hx.headK
  unfold zF;simp only [cM];rw [ek];unfold iJ
  split
  ·exact ⟨4,[40],_,rfl,fun _=>by simp⟩
  ·rw [e];exact ⟨k0,w0,_,rfl,h4⟩
theorem vQ {m:Int} {s:ByteArray} {ks:List Pz} (h:okC (9,s,m)=true) (hl:ks.length=m.toNat) (hg: ∀x∈ks,Good x):Good (cM (9,s,m) ks):=by
 have hw:s.data.toList=[]∧m=3:=by
  simp only [okC,aQ,Bool.and_eq_true] at h;exact ⟨by simpa [aJ] using h.1,by simpa [bg] using h.2⟩
 obtain ⟨hw,rfl⟩:=hw;obtain rfl:s=⟨#[]⟩:=eI (by rw [hw])
 have hl3:ks.length=3:=by simpa using hl
 have hks:=vO hl3;have hx:=hg (bP ks 0) (r9 (by omega));have hy:=hg (bP ks 1) (r9 (by omega));have hz:=hg (bP ks 2) (r9 (by omega));have hdx:=lE ks 0;have hdy:=lE ks 1;have hdz:=lE ks 2;obtain ⟨p1,p2,p3⟩:=o0 hx 2
 have et:bY (9,⟨#[]⟩,3) (ks.map eL)=dE 2 (eL (bP ks 0))++(32::(63::(32::((bP ks 1).tx++(32::(58::(32::(bP ks 2).tx))))))):=by
  rw [←jo ks 0 (by omega)]
  have e1:(bP ks 1).tx=(eo (ks.map eL) 1).2:=by rw [jo ks 1 (by omega)];rfl
  have e2:(bP ks 2).tx=(eo (ks.map eL) 2).2:=by rw [jo ks 2 (by omega)];rfl
  rw [e1,e2]
  simp [bY]
 have ek:lZ (9,⟨#[]⟩,3) ks=iJ 2 (bP ks 0)++((4,[63])::((bP ks 1).tk++((4,[58])::(bP ks 2).tk))):=rfl
 have hch:Chc (cM (9,⟨#[]⟩,3) ks):=by
  intro tk p hk h40 hr0 h63;simp only [cM] at hk h40 hr0 h63⊢;rw [ek] at hk h40 hr0 h63⊢;generalize hA:iJ 2 (bP ks 0)=A at hk h40 hr0 h63⊢;have h1:=hk.right;have t1:=h1.head;have h2:=h1.tail;have h3:=h2.right;have t3:=h3.head;have h4:=h3.tail
  have he:p+(A++((4,[63])::((bP ks 1).tk++((4,[58])::(bP ks 2).tk))):List Kw).length=p+A.length+1+(bP ks 1).tk.length+1+(bP ks 2).tk.length:=by simp;omega
  rw [he] at h40 hr0 h63⊢;have hex:=hx.rk
  have heL:2≤(if (bP ks 0).rk<2 then 8 else (bP ks 0).rk):=by split<;>omega
  generalize hE0:(if (bP ks 0).rk<2 then 8 else (bP ks 0).rk)=E0 at heL
  have hrq:rkT tk (p+A.length)=0:=by rw [lC t1];decide
  have r0:=lD hx 2 tk p (by omega) (by rw [hA];exact hk.left) (by rw [hA,hE0];exact ⟨by rw [bz t1];decide,by omega,fun _=>by omega⟩);rw [hA,hE0] at r0;obtain ⟨n0,hn0,hb0⟩:=r0.bin (r:=2) (by omega) (by omega) (by omega);obtain ⟨n1,hn1,hc1⟩:=hy.chc tk (p+A.length+1) h2.left (by rw [bz t3];decide) (by rw [lC t3];decide) (by rw [bz t3];decide);obtain ⟨n2,hn2,hc2⟩:=hz.chc tk (p+A.length+1+(bP ks 1).tk.length+1) h4 h40 hr0 h63
  have hcl:ks.flatMap Pz.cl=(bP ks 0).cl++((bP ks 1).cl++(bP ks 2).cl):=by rw [hks];simp [bP]
  rw [hcl];have d1:=hy.dp;have d2:=hz.dp;exact ⟨_,by omega, .eC hb0 (by rw [bz t1];decide) hc1 (by rw [bz t3];decide) hc2⟩
 refine ⟨by simp [cM,rkC],by simp [cM], ?_, ?_, ?_, ?_,fun h=>by simp [cM,rkC] at h,hch⟩
 ·simp only [cM];rw [et,ek]
  exact p1.app ((gP (by decide) ((hy.lex.app ((gP (by decide) hz.lex.space).space) (by simp) rfl).space)).space) (by simp) rfl
 ·simp only [cM];rw [et]
  obtain ⟨c,t,e,hc⟩:=p2;exact ⟨c,_,by rw [e];rfl,hc⟩
 ·simp only [cM];rw [et]
  simp only [db,dh,p3,hy.plain,hz.plain];decide
 ·obtain ⟨k0,w0,r0,e,h4⟩:=hx.headK
  unfold zF;simp only [cM];rw [ek];unfold iJ
  split
  ·exact ⟨4,[40],_,rfl,fun _=>by simp⟩
  ·rw [e];exact ⟨k0,w0,_,rfl,h4⟩
theorem af1 {c:Cl} {ks:List Pz} (h:okC c=true) (hl:ks.length=c.2.2.toNat) (hg: ∀x∈ks,Good x):Good (cM c ks):=by
 obtain ⟨k,s,m⟩:=c
 by_cases h14:k=1∨k=2∨k=3∨k=4
 ·have hm:m=0:=by
   simp only [okC,aQ,bg,Bool.and_eq_true] at h;have:=h.2;rw [if_pos h14] at this
   simpa using this
  subst hm;obtain rfl:ks=[]:=List.eq_nil_of_length_eq_zero (by simpa using hl);exact abM h h14
 by_cases h5:k=5
 ·subst h5;exact abN h hl hg
 by_cases h6:k=6
 ·subst h6;exact abO h hl hg
 by_cases h7:k=7
 ·subst h7;exact yt h hl hg
 by_cases h8:k=8
 ·subst h8;exact vP h hl hg
 by_cases h9:k=9
 ·subst h9;exact vQ h hl hg
 ·exfalso
  simp only [okC,aQ,aJ,Bool.and_eq_true] at h;have:=h.1;simp only [not_or] at h14;rw [if_neg h14.1,if_neg h14.2.1,if_neg h14.2.2.1,if_neg h14.2.2.2,if_neg h5,if_neg h6,if_neg h7,if_neg h8,if_neg h9] at this
  cases this
end Go.Proofs.YthijkjnngfnfdaaGreatDoor
