/-
  Part of the proof of FnReadDocument.
-/
import Derived.Test.YtegdjjjpoahamaaGreatDoorQQRaq
set_option linter.unusedVariables false
namespace Go.Proofs.YtegdjjjpoahamaaGreatDoor
def kz:List UInt8→Bool
 |[]=>true
 |c::_=> !(cU (c.toNat:Int))&& !((c.toNat:Int)==46)&& !((c.toNat:Int)==61)
theorem zY {t:List UInt8} (h:t≠[]) (rest:List UInt8):kz (t++rest)=kz t:=by
 cases t with
 |nil=>exact absurd rfl h
 |cons c r=>rfl
def Lex (tx:List UInt8) (tk:List (Int×List UInt8)):Prop:=
 ∃L:List (Int×Nat×Nat),(L.map fun x=>(x.1,(tx.drop x.2.1).take (x.2.2-x.2.1)))=tk∧(∀x∈L,x.2.1≤x.2.2∧x.2.2≤tx.length)∧
  ∀rest,kz rest=true→ ∀a acc,b6 (0,0,acc) a (tx++rest)=b6 (0,0,acc++L.map (shT a)) (a+tx.length) rest
theorem Lex.nil:Lex [] []:=⟨[],rfl,(fun x hx=>by cases hx),fun rest _ a acc=>by simp⟩
theorem aei (a d:Nat) (L:List (Int×Nat×Nat)):(L.map (shT d)).map (shT a)=L.map (shT (a+d)):=by
 rw [List.map_map];congr 1;funext x;simp only [Function.comp,shT];congr 2<;>omega
theorem Lex.glue {t1 t2:List UInt8} {k1 k2:List (Int×List UInt8)} {L1 L2:List (Int×Nat×Nat)}
  (e1:(L1.map fun x=>(x.1,(t1.drop x.2.1).take (x.2.2-x.2.1)))=k1) (b1: ∀x∈L1,x.2.1≤x.2.2∧x.2.2≤t1.length) (e2:(L2.map fun x=>(x.1,(t2.drop x.2.1).take (x.2.2-x.2.1)))=k2) (b2: ∀x∈L2,x.2.1≤x.2.2∧x.2.2≤t2.length)
  (hr: ∀rest,kz rest=true→ ∀a acc,b6 (0,0,acc) a (t1++(t2++rest))=b6 (0,0,(acc++L1.map (shT a))++L2.map (shT (a+t1.length))) (a+t1.length+t2.length) rest):Lex (t1++t2) (k1++k2):=by
 refine ⟨L1++L2.map (shT t1.length), ?_, ?_,fun rest hs a acc=> ?_⟩
 ·rw [List.map_append,←e1,←e2,List.map_map]
  congr 1
  ·apply List.map_congr_left
   intro x hx;have hb:=b1 x hx;rw [List.drop_append_of_le_length (by omega),List.take_append_of_le_length (by rw [List.length_drop];omega)]
  ·apply List.map_congr_left
   intro x hx;simp only [Function.comp,shT];rw [show x.2.1+t1.length=t1.length+x.2.1 by omega,←List.drop_drop,List.drop_left,show x.2.2+t1.length-(t1.length+x.2.1)=x.2.2-x.2.1 by omega]
 ·intro x hx
  rcases List.mem_append.mp hx with hx|hx
  ·have:=b1 x hx;rw [agE];omega
  ·obtain ⟨y,hy,rfl⟩:=List.mem_map.mp hx
   have:=b2 y hy;simp only [shT,agE];omega
 ·rw [List.append_assoc,hr rest hs a acc,List.map_append,aei,agE,List.append_assoc,Nat.add_assoc]
theorem Lex.app {t1 t2:List UInt8} {k1 k2:List (Int×List UInt8)} (h1:Lex t1 k1) (h2:Lex t2 k2) (At:t2≠[]) (hs:kz t2=true):Lex (t1++t2) (k1++k2):=by
 obtain ⟨L1,e1,b1,r1⟩:=h1;obtain ⟨L2,e2,b2,r2⟩:=h2;refine Lex.glue e1 b1 e2 b2 (fun rest hr a acc=> ?_);rw [r1 (t2++rest) (by rw [zY At];exact hs) a acc,r2 rest hr]
theorem Lex.front {w t:List UInt8} {k:Int} {k2:List (Int×List UInt8)} (h2:Lex t k2) (ht: ∀rest,kz rest=true→TokAt (w++(t++rest)) w.length k):Lex (w++t) ((k,w)::k2):=by
 obtain ⟨L2,e2,b2,r2⟩:=h2;refine Lex.glue (L1:=[(k,0,w.length)]) (k1:=[(k,w)]) (by simp) (fun x hx=>by simp only [List.mem_singleton] at hx;subst hx;exact ⟨agH _,agD _⟩) e2 b2 (fun rest hr a acc=> ?_);have:=((ht rest hr).read 0 a acc).2;rw [this,List.drop_left,r2 rest hr]
 simp [shT,Nat.add_comm]
theorem Lex.one {w:List UInt8} {k:Int} (ht: ∀rest,kz rest=true→TokAt (w++rest) w.length k):Lex w [(k,w)]:=by
 have:=Lex.front (w:=w) (k:=k) Lex.nil (fun rest hr=>by rw [List.nil_append];exact ht rest hr)
 rwa [List.append_nil] at this
theorem Lex.space {t:List UInt8} {k:List (Int×List UInt8)} (h:Lex t k):Lex (32::t) k:=by
 obtain ⟨L2,e2,b2,r2⟩:=h
 have:=Lex.glue (t1:=[32]) (t2:=t) (L1:=[]) (k1:=[]) rfl (fun x hx=>by cases hx) e2 b2 (fun rest hr a acc=>by
  rw [show ([32]:List UInt8)++(t++rest)=32::(t++rest) from rfl,jC _ _ _ _ _ (by decide),ns a 0,r2 rest hr]
  simp)
 exact this
theorem wJ (w rest:List UInt8):(w++rest).take w.length=w:=by simp
theorem fz {b:UInt8} {t:List UInt8} {k:Int} (rest:List UInt8) (hs:dS (aL (b.toNat:Int)) t=true) (hk:kI (fin (aL (b.toNat:Int)) t)=k) (h0:k≠0) (hr: ∀c r',rest=c::r'→nB (fin (aL (b.toNat:Int)) t) (c.toNat:Int)=false):TokAt (b::t++rest) (b::t).length k:=by
 refine ⟨b,t,wJ _ _,hs,hk,h0,by simp,fun c r' h=>hr c r' ?_⟩
 rwa [List.drop_left] at h
theorem afC {t:List UInt8} (h: ∀c∈t,nmI (c.toNat:Int)=true):dS 1 t=true∧fin 1 t=1:=by
 induction t with
 |nil=>exact ⟨rfl,rfl⟩
 |cons c r ih=>
  have i:=ih (fun x hx=>h x (by simp [hx]));have hc:=h c (by simp);have e:nB 1 (c.toNat:Int)=nmI (c.toNat:Int):=rfl;exact ⟨by rw [dS,e,hc];exact i.1,by rw [fin];exact i.2⟩
theorem afD {t:List UInt8} (h: ∀c∈t,nrI (c.toNat:Int)=true):dS 2 t=true∧fin 2 t=2:=by
 induction t with
 |nil=>exact ⟨rfl,rfl⟩
 |cons c r ih=>
  have i:=ih (fun x hx=>h x (by simp [hx]));have hc:=h c (by simp);have e:nB 2 (c.toNat:Int)=nrI (c.toNat:Int):=rfl;exact ⟨by rw [dS,e,hc];exact i.1,by rw [fin];exact i.2⟩
theorem oz {c:UInt8} {r:List UInt8} (h:kz (c::r)=true):cU (c.toNat:Int)=false∧((c.toNat:Int)==46)=false∧((c.toNat:Int)==61)=false:=by
 simp only [kz,Bool.and_eq_true,Bool.not_eq_true'] at h;exact ⟨h.1.1,h.1.2,h.2⟩
theorem oA {b:UInt8} {t:List UInt8} (hb:bS (b.toNat:Int)=true) (ht: ∀c∈t,nmI (c.toNat:Int)=true):Lex (b::t) [(1,b::t)]:=by
 refine Lex.one (fun rest hr=> ?_);obtain ⟨s1,s2⟩:=afC ht;refine fz rest (by rw [gV hb];exact s1) (by rw [gV hb,s2];rfl) (by decide) (fun c r' e=> ?_);subst e;obtain ⟨h1,h2,-⟩:=oz hr;rw [gV hb,s2]
 show (cU (c.toNat:Int)||(c.toNat:Int)==46)=false
 rw [h1,h2];rfl
theorem aej {n:Int} (h:cU n=false):cf n=false:=by
 simp only [cU,Bool.or_eq_false_iff] at h;exact h.1.2
theorem aek {b:UInt8} {t:List UInt8} (hb:bS (b.toNat:Int)=false) (hd:cf (b.toNat:Int)=true) (ht: ∀c∈t,nrI (c.toNat:Int)=true):Lex (b::t) [(2,b::t)]:=by
 refine Lex.one (fun rest hr=> ?_);obtain ⟨s1,s2⟩:=afD ht;refine fz rest (by rw [gW hb hd];exact s1) (by rw [gW hb hd,s2];rfl) (by decide) (fun c r' e=> ?_);subst e;obtain ⟨h1,h2,-⟩:=oz hr;rw [gW hb hd,s2]
 show (cf (c.toNat:Int)||(c.toNat:Int)==46)=false
 rw [aej h1,h2];rfl
theorem zZ (l:List UInt8):Lex (bc l) [(3,bc l)]:=by
 refine Lex.one (fun rest hr=> ?_)
 have e:clo false (aM l++34::rest)=(aM l).length:=by rw [zB];simp [clo]
 have h:=uA 34 (aM l++34::rest) (by decide) (by
  simp only [eC]
  rw [if_neg (by decide),if_neg (by decide),if_pos (by decide),e,if_pos (by simp)];decide)
 have hn:fe (34::(aM l++34::rest))=(bc l).length:=by
  simp only [fe];rw [if_neg (by decide),if_neg (by decide),if_pos (by decide),e,if_pos (by simp)]
  simp [bc]
 have hk:eC (34::(aM l++34::rest))=3:=by
  simp only [eC];rw [if_neg (by decide),if_neg (by decide),if_pos (by decide),e,if_pos (by simp)]
 rw [hn,hk] at h
 have ht:bc l++rest=34::(aM l++34::rest):=by simp [bc]
 rw [ht];exact h
theorem fU {b:UInt8} (hb:aL (b.toNat:Int)=10) {t:List UInt8} {k:List (Int×List UInt8)} (h:Lex t k):Lex (b::t) ((4,[b])::k):=
 Lex.front (w:=[b]) h (fun rest _=>fz (t++rest) rfl (by rw [hb];rfl) (by decide) (fun c r' _=>by rw [hb];simp [fin,nB]))
theorem fc {b:UInt8} (hb:aL (b.toNat:Int)=10):Lex [b] [(4,[b])]:=fU hb Lex.nil
theorem ael {t:List UInt8} {k:List (Int×List UInt8)} (h:Lex t k) (hh: ∃c r,t=c::r∧((c.toNat:Int)==61)=false):Lex (33::t) ((4,[33])::k):=by
 obtain ⟨c,r,rfl,hc⟩:=hh;refine Lex.front (w:=[33]) h (fun rest _=>fz (c::r++rest) rfl (by decide) (by decide) (fun c' r' e=> ?_));rw [List.cons_append] at e
 injection e with e1 e2
 subst e1
 show ((c.toNat:Int)==61)=false
 exact hc
theorem aem {w:List UInt8} (h:0<ap w):Lex w [(4,w)]:=by
 have soft: ∀b:UInt8,aL (b.toNat:Int)=6→Lex [b] [(4,[b])]:=fun b hb=>Lex.one (fun rest hr=>fz rest rfl (by rw [hb];rfl) (by decide) (fun c r' e=>by
  subst e;rw [hb]
  exact (oz hr).2.2))
 have pair: ∀b c:UInt8,dS (aL (b.toNat:Int)) [c]=true→fin (aL (b.toNat:Int)) [c]=10→Lex [b,c] [(4,[b,c])]:=fun b c h1 h2=>Lex.one (fun rest hr=>fz rest h1 (by rw [h2];rfl) (by decide) (fun c' r' e=>by rw [h2];simp [nB]))
 have key: ∀(q:List UInt8) (r x:Int),Lex q [(4,q)]→(0<x→Lex w [(4,w)])→0<(if w=q then r else x)→Lex w [(4,w)]:=by
  intro q r x hq hx hp
  by_cases e:w=q
  ·rw [e];exact hq
  ·rw [if_neg e] at hp;exact hx hp
 revert h
 unfold ap;refine key _ _ _ (pair _ _ (by decide) (by decide)) (key _ _ _ (pair _ _ (by decide) (by decide)) (key _ _ _ (pair _ _ (by decide) (by decide)) (key _ _ _ (pair _ _ (by decide) (by decide)) (key _ _ _ (soft _ (by decide)) (key _ _ _ (pair _ _ (by decide) (by decide)) (key _ _ _ (soft _ (by decide)) (key _ _ _ (pair _ _ (by decide) (by decide)) (key _ _ _ (fc (by decide)) (key _ _ _ (fc (by decide)) (key _ _ _ (fc (by decide)) (key _ _ _ (fc (by decide)) (key _ _ _ (fc (by decide)) (fun h=>absurd h (by decide))))))))))))))
structure Pz where
 rk:Int
 tx:List UInt8
 tk:List (Int×List UInt8)
 cl:List Cl
 dp:Nat
def ee (x:Pz):Pt:=(x.rk,x.tx)
abbrev Kw:=Int×List UInt8
def gI (r:Int) (x:Pz):List Kw:=if x.rk<r then (4,[40])::(x.tk++[(4,[41])]) else x.tk
def en (xs:List Pz):List Kw:=xs.flatMap fun x=>(4,[44])::x.tk
def fV:List Pz→List Kw
 |[]=>[]
 |x::xs=>x.tk++en xs
def bw (ks:List Pz) (i:Nat):Pz:=ks.getD i ⟨0,[],[],[],0⟩
def kA (c:Cl) (ks:List Pz):List Kw:=
 if c.1=2 then [(3,bc c.2.1.data.toList)]
 else if c.1=5 then (4,[91])::(fV ks++[(4,[93])])
 else if c.1=6 then (1,c.2.1.data.toList)::((4,[40])::(fV ks++[(4,[41])]))
 else if c.1=7 then (4,c.2.1.data.toList)::gI 7 (bw ks 0)
 else if c.1=8 then gI (cC (ap c.2.1.data.toList)) (bw ks 0)++((4,c.2.1.data.toList)::gI (ap c.2.1.data.toList+1) (bw ks 1))
 else if c.1=9 then gI 2 (bw ks 0)++((4,[63])::((bw ks 1).tk++((4,[58])::(bw ks 2).tk)))
 else if c.1=1 then [(2,c.2.1.data.toList)] else [(1,c.2.1.data.toList)]
def kU:List Pz→Nat
 |[]=>0
 |x::xs=>max x.dp (kU xs)
def b8 (c:Cl) (ks:List Pz):Pz:=⟨rkC c,bF c (ks.map ee),kA c ks,c::ks.flatMap Pz.cl,kU ks+1⟩
def AtK (tk:List Tk) (p:Nat) (ws:List Kw):Prop:= ∀(i:Nat) (h:i<ws.length),tk[p+i]? =some (ws[i].1,⟨ws[i].2.toArray⟩)
theorem AtK.left {tk:List Tk} {p:Nat} {a b:List Kw} (h:AtK tk p (a++b)):AtK tk p a:=fun i hi=>by
 have:=h i (by rw [agE];omega)
 rwa [List.getElem_append_left hi] at this
theorem AtK.right {tk:List Tk} {p:Nat} {a b:List Kw} (h:AtK tk p (a++b)):AtK tk (p+a.length) b:=fun i hi=>by
 have:=h (a.length+i) (by rw [agE];omega);rw [List.getElem_append_right (by omega)] at this;rw [Nat.add_assoc]
 simpa using this
theorem AtK.tail {tk:List Tk} {p:Nat} {x:Kw} {b:List Kw} (h:AtK tk p (x::b)):AtK tk (p+1) b:=AtK.right (a:=[x]) h
theorem AtK.head {tk:List Tk} {p:Nat} {k:Int} {w:List UInt8} {b:List Kw} (h:AtK tk p ((k,w)::b)):tk[p]? =some (k,⟨w.toArray⟩):=h 0 (by simp)
theorem bf {tk:List Tk} {p:Nat} {w v:List UInt8} (h:tk[p]? =some (4,⟨w.toArray⟩)):isT tk p v=decide (w=v):=by
 unfold isT;rw [h]
 by_cases e:w=v
 ·subst e;simp
 ·simp [e]
theorem gz {tk:List Tk} {p:Nat} {k:Int} {s:ByteArray} {v:List UInt8} (h:tk[p]? =some (k,s)) (hk:k≠4):isT tk p v=false∧rkT tk p=0:=by
 unfold isT rkT;rw [h]
 simp [hk]
theorem jS {tk:List Tk} {p:Nat} {w:List UInt8} (h:tk[p]? =some (4,⟨w.toArray⟩)):rkT tk p=ap w:=by
 unfold rkT;rw [h];simp
def Reads (tk:List Tk) (p q:Nat) (cl:List Cl) (e:Int) (B:Nat):Prop:=
 ∃(a0:List Cl) (q0 n0 n:Nat),n≤B∧Rg tk .unary p a0 q0 0 n0∧(7≤e→a0=cl∧q0=q∧n0=n)∧ ∀r:Nat,2≤r→(r:Int)≤e→ ∀c q2 n2,Rg tk (.loop r cl n) q c q2 0 n2→Rg tk (.loop r a0 n0) q0 c q2 0 n2
def ago (tk:List Tk) (q:Nat) (e:Int):Prop:=isT tk q [40]=false∧rkT tk q≤e∧(e=4→rkT tk q≠4)
def qi (x:Pz):Prop:= ∀(tk:List Tk) (p:Nat),AtK tk p x.tk→ago tk (p+x.tk.length) x.rk→Reads tk p (p+x.tk.length) x.cl x.rk (2*x.dp-1)
def Chc (x:Pz):Prop:= ∀(tk:List Tk) (p:Nat),AtK tk p x.tk→isT tk (p+x.tk.length) [40]=false→rkT tk (p+x.tk.length)=0→isT tk (p+x.tk.length) [63]=false→ ∃n,n≤2*x.dp-1∧Rg tk .choice p x.cl (p+x.tk.length) 0 n
def xW (x:Pz):Prop:= ∃k w r,x.tk=(k,w)::r∧(k=4→w=[33]∨w=[45]∨w=[40]∨w=[91])
structure Good (x:Pz):Prop where
 rk:1≤x.rk∧x.rk≤8
 dp:1≤x.dp
 lex:Lex x.tx x.tk
 head: ∃c r,x.tx=c::r∧((c.toNat:Int)==61)=false
 plain:aq x.tx=true
 headK:xW x
 spine:2≤x.rk→qi x
 chc:Chc x
theorem Reads.single {tk:List Tk} {p q n B:Nat} {cl:List Cl} {e:Int} (h:Rg tk .single p cl q 0 n) (hu:bA tk p=false) (hn:n≤B):Reads tk p q cl e B:=
 ⟨cl,q,n,n,hn, .plain hu h,fun _=>⟨rfl,rfl,rfl⟩,fun r _ _ c q2 n2 k=>k⟩
theorem Reads.bin {tk:List Tk} {p q B r:Nat} {cl:List Cl} {e:Int} (h:Reads tk p q cl e B) (h2:2≤r) (hr:(r:Int)≤e) (hs:rkT tk q<(r:Int)): ∃n,n≤B∧Rg tk (.bin r) p cl q 0 n:=by
 obtain ⟨a0,q0,n0,n,hn,hu,-,hl⟩:=h;exact ⟨n,hn, .bin hu (hl r h2 hr _ _ _ (.stop hs))⟩
theorem gc {x:Pz} (h2:2≤x.rk) (h:qi x):Chc x:=by
 intro tk p hk DA h0 EV;obtain ⟨n,hn,hb⟩:=(h tk p hk ⟨DA,by omega,fun _=>by omega⟩).bin (r:=2) (by omega) (by omega) (by omega);exact ⟨n,hn, .one hb EV⟩
theorem aen:ap [40]=0∧ap [41]=0∧ap [44]=0∧ap [93]=0∧ap [63]=0∧ap [58]=0:=by decide
theorem jT {x:Pz} (hg:Good x) (r:Int) (tk:List Tk) (p:Nat) (hr:2≤r) (hk:AtK tk p (gI r x)) (hf:ago tk (p+(gI r x).length) (if x.rk<r then 8 else x.rk)):
  Reads tk p (p+(gI r x).length) x.cl (if x.rk<r then 8 else x.rk) (2*x.dp):=by
 have Mx:=hg.dp;unfold gI at hk hf⊢
 by_cases h:x.rk<r
 ·rw [if_pos h] at hk hf⊢
  rw [if_pos h] at hf⊢;have h0:=hk.head;have h1:=hk.tail;have h2:=h1.right.head;obtain ⟨n,hn,hc⟩:=hg.chc tk (p+1) h1.left (by rw [bf h2];decide) (by rw [jS h2];exact aen.2.1) (by rw [bf h2];decide);have Pu:Rg tk .single p x.cl (p+1+x.tk.length+1) 0 (n+1):= .paren (by rw [bf h0];decide) hc (by rw [bf h2];decide)
  have he:p+((4,[40])::(x.tk++[(4,[41])]):List Kw).length=p+1+x.tk.length+1:=by simp;omega
  rw [he];exact Reads.single Pu (by rw [bA,bf h0,bf h0];decide) (by omega)
 ·rw [if_neg h] at hk hf⊢
  rw [if_neg h] at hf⊢;obtain ⟨a0,q0,n0,n,hn,rest⟩:=hg.spine (by omega) tk p hk hf;exact ⟨a0,q0,n0,n,by omega,rest⟩
theorem jU (ks:List Pz) (i:Nat):(bw ks i).dp≤kU ks:=by
 induction ks generalizing i with
 |nil=>simp [bw,kU]
 |cons x xs ih=>
  cases i with
  |zero=>simp only [bw,List.getD_cons_zero,kU];omega
  |succ i=>have:=ih i;simp only [bw,List.getD_cons_succ,kU] at this⊢;omega
theorem qj {ks:List Pz} {i:Nat} (h:i<ks.length):bw ks i∈ks:=by
 unfold bw;rw [List.getD_eq_getElem?_getD,List.getElem?_eq_getElem h];exact List.getElem_mem h
theorem wK {w:List UInt8} (hw:w=[41]∨w=[93]) (xs:List Pz) (hg: ∀x∈xs,Good x): ∀(tk:List Tk) (q k:Nat) (out:List Cl) (no:Nat),AtK tk q (en xs++[(4,w)])→k≠0→
  ∃n,n≤max no (2*kU xs)∧Rg tk (.series w k out no) q (out++xs.flatMap Pz.cl) (q+(en xs++[(4,w)]).length) (k+xs.length) n:=by
 induction xs with
 |nil=>
  intro tk q k out no hk Bo;refine ⟨no,by omega, ?_⟩;simp only [en,List.flatMap_nil,List.nil_append,List.length_cons,List.length_nil,List.append_nil] at hk⊢;exact .close (by rw [bf hk.head];simp)
 |cons x xs ih=>
  intro tk q k out no hk Bo;have hx:=hg x (by simp)
  have GL:AtK tk q ((4,[44])::(x.tk++(en xs++[(4,w)]))):=by simpa [en] using hk
  have h0:=GL.head;have h1:=GL.tail;have h2:=h1.right
  obtain ⟨k2,w2,hd2,AM⟩: ∃w2 r2,en xs++[(4,w)]=(4,w2)::r2∧(w2=[44]∨w2=w):=by
   cases xs with
   |nil=>exact ⟨w,[],rfl, .inr rfl⟩
   |cons y ys=>exact ⟨[44],y.tk++en ys++[(4,w)],by simp [en], .inl rfl⟩
  rw [hd2] at h2;have h3:=h2.head
  have At:k2≠[40]∧k2≠[63]∧ap k2=0:=by rcases AM with rfl|rfl<;>rcases hw with rfl|rfl<;>decide
  obtain ⟨n,hn,hc⟩:=hx.chc tk (q+1) h1.left (by rw [bf h3];simp [At.1]) (by rw [jS h3];exact At.2.2) (by rw [bf h3];simp [At.2.1]);rw [←hd2] at h2;obtain ⟨n',Ub,hr⟩:=ih (fun y hy=>hg y (by simp [hy])) tk (q+1+x.tk.length) (k+1) (out++x.cl) (max no n) h2 (by omega);refine ⟨n',by simp only [kU];omega, ?_⟩
  have e1:q+(en (x::xs)++[(4,w)]).length=q+1+x.tk.length+(en xs++[(4,w)]).length:=by simp [en];omega
  have e2:k+(x::xs).length=k+1+xs.length:=by simp;omega
  have e3:out++(x::xs).flatMap Pz.cl=out++x.cl++xs.flatMap Pz.cl:=by simp
  rw [e1,e2,e3];exact .part (by rw [bf h0];rcases hw with rfl|rfl<;>decide) (fun h=>absurd h Bo) (fun _=>⟨by rw [bf h0];decide,rfl⟩) hc hr
theorem oB {w:List UInt8} (hw:w=[41]∨w=[93]) (xs:List Pz) (hg: ∀x∈xs,Good x) (tk:List Tk) (p:Nat) (hk:AtK tk p (fV xs++[(4,w)])):
  ∃n,n≤2*kU xs∧Rg tk (.series w 0 [] 0) p (xs.flatMap Pz.cl) (p+(fV xs++[(4,w)]).length) xs.length n:=by
 cases xs with
 |nil=>
  refine ⟨0,agH _, ?_⟩;simp only [fV,List.nil_append,List.flatMap_nil,List.length_cons,List.length_nil] at hk⊢;exact .close (by rw [bf hk.head];simp)
 |cons x xs=>
  have hx:=hg x (by simp)
  have GL:AtK tk p (x.tk++(en xs++[(4,w)])):=by simpa [fV] using hk
  have h2:=GL.right
  obtain ⟨k2,r2,hd2,AM⟩: ∃w2 r2,en xs++[(4,w)]=(4,w2)::r2∧(w2=[44]∨w2=w):=by
   cases xs with
   |nil=>exact ⟨w,[],rfl, .inr rfl⟩
   |cons y ys=>exact ⟨[44],y.tk++en ys++[(4,w)],by simp [en], .inl rfl⟩
  rw [hd2] at h2;have h3:=h2.head
  have At:k2≠[40]∧k2≠[63]∧ap k2=0:=by rcases AM with rfl|rfl<;>rcases hw with rfl|rfl<;>decide
  obtain ⟨n,hn,hc⟩:=hx.chc tk p GL.left (by rw [bf h3];simp [At.1]) (by rw [jS h3];exact At.2.2) (by rw [bf h3];simp [At.2.1]);rw [←hd2] at h2;obtain ⟨n',Ub,hr⟩:=wK hw xs (fun y hy=>hg y (by simp [hy])) tk (p+x.tk.length) 1 x.cl (max 0 n) h2 (by omega);have Rt:=hx.dp;refine ⟨n',by simp only [kU];omega, ?_⟩
  have e1:p+(fV (x::xs)++[(4,w)]).length=p+x.tk.length+(en xs++[(4,w)]).length:=by simp [fV];omega
  have e2:(x::xs).length=1+xs.length:=by simp;omega
  rw [e1,e2,List.flatMap_cons]
  have J2:isT tk p w=false:=by
   obtain ⟨k0,w0,r0,he,h4⟩:=hx.headK
   have h5:AtK tk p ((k0,w0)::(r0++(en xs++[(4,w)]))):=by rw [he] at GL;exact GL
   by_cases Ay:k0=4
   ·subst Ay
    rw [bf h5.head]
    rcases h4 rfl with rfl|rfl|rfl|rfl<;>rcases hw with rfl|rfl<;>decide
   ·exact (gz h5.head Ay).1
  exact .part (p0:=p) J2 (fun _=>rfl) (fun h=>absurd rfl h) hc (by simpa using hr)
theorem cE (a b:List UInt8):aq (a++b)=(aq a&&aq b):=by simp [aq]
theorem cH (c:UInt8) (b:List UInt8):aq (c::b)=(bV (c.toNat:Int)&&aq b):=by simp [aq]
theorem nj {c:UInt8} (h:isD c=true):cf (c.toNat:Int)=true∧bS (c.toNat:Int)=false:=by
 simp only [isD,Bool.and_eq_true,decide_eq_true_eq] at h;simp only [cf,bS,Bool.and_eq_true,decide_eq_true_eq,Bool.and_eq_false_iff,decide_eq_false_iff_not]
 omega
theorem acp {t:List UInt8} (h: ∀c∈t,nrI (c.toNat:Int)=true):aq t=true:=by
 rw [aq,List.all_eq_true];intro c hc;have:=h c hc;simp only [nrI,cf,Bool.or_eq_true,Bool.and_eq_true,decide_eq_true_eq,beq_iff_eq] at this;simp only [bV,Bool.and_eq_true,decide_eq_true_eq];omega
theorem tM {t:List UInt8} (h: ∀c∈t,nmI (c.toNat:Int)=true):aq t=true:=by
 rw [aq,List.all_eq_true];intro c hc;have:=h c hc;simp only [nmI,cU,bS,cf,Bool.or_eq_true,Bool.and_eq_true,decide_eq_true_eq,beq_iff_eq] at this;simp only [bV,Bool.and_eq_true,decide_eq_true_eq];omega
theorem afE (t b:Nat) (hb:1≤b): ∃c r,aO t b=c::r∧isD c=true∧ ∀x∈aO t b,nrI (x.toNat:Int)=true:=by
 obtain ⟨c,l,h1,h2⟩:=nT (t/b)
 have hd: ∀{l:List UInt8},d8 l=true→ ∀x∈l,nrI (x.toNat:Int)=true:=fun h x hx=>by
  rw [d8,List.all_eq_true] at h;rw [nrI,(nj (h x hx)).1];rfl
 refine ⟨c,l++(if t % b=0 then [] else 46::frs 6 (t % b) b),by rw [aO,h1];rfl,h2,fun x hx=> ?_⟩;rw [aO] at hx
 rcases List.mem_append.mp hx with hx|hx
 ·exact hd (cd (t/b)).1 x hx
 ·split at hx
  ·cases hx
  ·rcases List.mem_cons.mp hx with rfl|hx
   ·decide
   ·exact hd (iD 6 (t % b) b (Nat.mod_lt _ hb)) x hx
theorem acq {s:ByteArray} (h:kf s=true):iw s=true∧kB s=s∧ ∃t b:Nat,1≤b∧s.data.toList=aO t b:=by
 simp only [kf,Bool.and_eq_true,decide_eq_true_eq,beq_iff_eq] at h;obtain ⟨h1,h2,h3⟩:=h;have ht:=ng s h1;obtain ⟨b1,b2⟩:=mn s h1;obtain ⟨T,hT⟩:=agG h2;obtain ⟨B,hB⟩:=agG (show 0≤rdB s by omega);rw [hT,hB] at ht;rw [hB] at b1 b2 h3
 have T3:1≤B:=by omega
 have hm:1000000 % B=0:=by
  have:(1000000:Int).tmod (B:Int)=((1000000 % B:Nat):Int):=by rw [Int.tmod_eq_emod_of_nonneg (by omega)];rfl
  rw [this] at h3;omega
 have hv:vB (T:Int) (B:Int)=true:=by
  cases hv:vB (T:Int) (B:Int) with
  |true=>rfl
  |false=>
   rw [aJ,hv] at ht
   have ht:s.data.toList=[]:=by simpa using ht.symm
   obtain rfl:s=⟨#[]⟩:=by rw [ke ht]
   exact absurd h1 (by decide)
 have hl:s.data.toList=aO T B:=by
  rw [←ht,aJ,if_pos hv,fQ,if_neg (by omega),aA]
  simp [hm]
 obtain ⟨d1,d2,d3,d4⟩:=nR T B hv hm;refine ⟨?_, ?_,T,B,T3,hl⟩
 ·rw [iw,hl,fs,d1,d2];rfl
 ·rw [kB,hl,opT,opB,if_pos d1,if_pos d1,d3,d4,ht]
theorem rh (l:List UInt8): ∀n,bT n l=true→ ∀c∈l,nmI (c.toNat:Int)=true:=by
 induction l with
 |nil=>intro n _ c hc;cases hc
 |cons b t ih=>
  intro n h c hc;simp only [bT] at h
  by_cases h1:(((b.toNat:Int)==46)&&decide (0<n))=true
  ·rw [if_pos h1] at h
   simp only [Bool.and_eq_true] at h1
   rcases List.mem_cons.mp hc with rfl|hc
   ·rw [nmI,h1.1];simp
   ·exact ih 0 h c hc
  ·rw [if_neg h1] at h
   by_cases h2:iE n (b.toNat:Int)=true
   ·rw [if_pos h2] at h;cases h
   ·rw [if_neg h2] at h
    by_cases h3:12<n+1
    ·rw [if_pos h3] at h;cases h
    ·rw [if_neg h3] at h
     rcases List.mem_cons.mp hc with rfl|hc
     ·simp only [iE,Bool.and_eq_true,Bool.not_eq_true',Bool.or_eq_true,not_and,bne_iff_ne,ne_eq] at h2
      rw [nmI,cU]
      cases hl:bS (c.toNat:Int) with
      |true=>rfl
      |false=>
       have:=h2 hl
       cases hd:cf (c.toNat:Int) with
       |true=>rfl
       |false=>
        simp only [hd,not_or,true_and,Decidable.not_not] at this;rw [this.2];rfl
     ·exact ih _ h c hc
theorem ir {l:List UInt8} (h:cI l=true): ∃b t,l=b::t∧bS (b.toNat:Int)=true∧(∀c∈t,nmI (c.toNat:Int)=true)∧l≠b7∧l≠bE:=by
 simp only [cI,Bool.and_eq_true,bne_iff_ne,ne_eq] at h;obtain ⟨h,ht,hf⟩:=h
 cases l with
 |nil=>simp [bT] at h
 |cons b t=>
  refine ⟨b,t,rfl, ?_,fun c hc=>rh _ 0 h c (by simp [hc]),ht,hf⟩;simp only [bT,Nat.lt_irrefl,decide_false,Bool.and_false,Bool.false_eq_true,if_false] at h
  by_cases h2:iE 0 (b.toNat:Int)=true
  ·rw [if_pos h2] at h;cases h
  ·simp only [iE,Bool.and_eq_true,Bool.not_eq_true',beq_self_eq_true,Bool.true_or,and_true,Bool.not_eq_false] at h2;exact h2
theorem wL {c:UInt8} (h:bS (c.toNat:Int)=true∨cf (c.toNat:Int)=true):((c.toNat:Int)==61)=false:=by
 simp only [bS,cf,Bool.and_eq_true,decide_eq_true_eq] at h;exact beq_eq_false_iff_ne.mpr (by omega)
theorem tN {w:List UInt8} (h:0<ap w):aq w=true:=by
 have key: ∀(q:List UInt8) (r x:Int),aq q=true→(0<x→aq w=true)→0<(if w=q then r else x)→aq w=true:=by
  intro q r x hq hx hp
  by_cases e:w=q
  ·rw [e];exact hq
  ·rw [if_neg e] at hp;exact hx hp
 revert h
 unfold ap
 iterate 13 (refine key _ _ _ (by decide) ?_)
 intro h;exact absurd h (by decide)
theorem jV {k m:Int} {s:ByteArray} {kw:Kw} (Uc:kw=(kw.1,kw.2)) (J3:bF (k,s,m) []=kw.2) (C4:kA (k,s,m) []=[kw]) (Da:rkC (k,s,m)=8) (Ay:kw.1≠4) (J4:Lex kw.2 [kw]) (hh: ∃c r,kw.2=c::r∧((c.toNat:Int)==61)=false) (hp:aq kw.2=true)
  (hr: ∀(tk:List Tk) (p:Nat),tk[p]? =some (kw.1,⟨kw.2.toArray⟩)→isT tk (p+1) [40]=false→Rg tk .single p [(k,s,m)] (p+1) 0 0):Good (b8 (k,s,m) []):=by
 have Dx:qi (b8 (k,s,m) []):=by
  intro tk p hk hf;simp only [b8,C4,List.length_cons,List.length_nil] at hk hf⊢;have h0:tk[p]? =some (kw.1,⟨kw.2.toArray⟩):=AtK.head (by rw [Uc] at hk;exact hk);exact Reads.single (hr tk p h0 hf.1) (by rw [bA,(gz h0 Ay).1,(gz h0 Ay).1];rfl) (agH _)
 have h2:2≤(b8 (k,s,m) []).rk:=by simp only [b8,Da];omega
 refine ⟨by simp only [b8,Da];omega,by simp [b8,kU], ?_, ?_, ?_, ?_,fun _=>Dx,gc h2 Dx⟩
 ·simp only [b8,List.map_nil,J3,C4];exact J4
 ·simp only [b8,List.map_nil,J3];exact hh
 ·simp only [b8,List.map_nil,J3];exact hp
 ·exact ⟨kw.1,kw.2,[],by simp only [b8,C4],fun h=>absurd h Ay⟩
theorem z5 {k m:Int} {s:ByteArray} (h:okC (k,s,m)=true) (hk:k=1∨k=2∨k=3∨k=4):Good (b8 (k,s,m) []):=by
 have hm:m=0:=by
  simp only [okC,aF,aQ,Bool.and_eq_true] at h;have:=h.2;rw [if_pos hk] at this
  simpa using this
 subst hm;simp only [okC,aF,Bool.and_eq_true] at h;have hw:=h.1
 rcases hk with rfl|rfl|rfl|rfl
 ·have hn:kf s=true:=by simpa [ar] using hw
  obtain ⟨n1,n2,t,b,hb,hl⟩:=acq hn;obtain ⟨c,r,hc,hd,hall⟩:=afE t b hb;rw [hl.symm] at hc hall
  have Nh: ∀x∈r,nrI (x.toNat:Int)=true:=fun x hx=>hall x (by rw [hc];simp [hx])
  refine jV (kw:=(2,s.data.toList)) rfl rfl rfl rfl (by simp) ?_ ⟨c,r,hc,wL (.inr (nj hd).1)⟩ (acp hall) (fun tk p h0 _=> ?_)
  ·simp only;rw [hc];exact aek (nj hd).2 (nj hd).1 Nh
  ·simp only [fG] at h0
   have:=Rg.num h0 n1
   rwa [n2] at this
 ·have ht:aD s=true:=by
   have:aD s=true∧s.size≤60:=by simpa [ar] using hw
   exact this.1
  have Aj:okL s.data.toList=true:=by simp only [aD,Bool.and_eq_true] at ht;exact ht.2
  refine jV (kw:=(3,bc s.data.toList)) rfl rfl rfl rfl (by simp) (zZ _) ⟨34,_,rfl,by decide⟩ ?_ (fun tk p h0 _=> ?_)
  ·simp only [bc];rw [cH,cE,qV _ Aj];decide
  ·have hq:(⟨(bc s.data.toList).toArray⟩:ByteArray)=cA s:=by rw [cA,if_pos ht]
   rw [hq] at h0;have:=Rg.text h0 (pX ht).1
   rwa [(pX ht).2] at this
 ·have ht:s.data.toList=b7∨s.data.toList=bE:=by simpa [ar] using hw
  refine jV (kw:=(1,s.data.toList)) rfl rfl rfl rfl (by simp) ?_ ?_ ?_ (fun tk p h0 _=> ?_)
  ·simp only
   rcases ht with ht|ht<;>(rw [ht];exact oA (by decide) (by decide))
  ·rcases ht with ht|ht<;>(simp only;rw [ht];exact ⟨_,_,rfl,by decide⟩)
  ·simp only
   rcases ht with ht|ht<;>(rw [ht];decide)
  ·simp only [fG] at h0
   exact .truth h0 ht
 ·have hn:cI s.data.toList=true:=by
   have:cI s.data.toList=true∧s.size≤60:=by simpa [ar] using hw
   exact this.1
  obtain ⟨b,t,hl,hb,Du,n1,n2⟩:=ir hn;refine jV (kw:=(1,s.data.toList)) rfl rfl rfl rfl (by simp) ?_ ⟨b,t,hl,wL (.inl hb)⟩ ?_ (fun tk p h0 DA=> ?_)
  ·simp only;rw [hl];exact oA hb Du
  ·simp only;rw [hl];exact tM (fun c hc=>by
    rcases List.mem_cons.mp hc with rfl|hc
    ·rw [nmI,cU,hb];rfl
    ·exact Du c hc)
  ·simp only [fG] at h0
   exact .name h0 n1 n2 DA
theorem iu (ks:List Pz) (i:Nat) (h:i<ks.length):dH (ks.map ee) i=ee (bw ks i):=by
 unfold dH bw;rw [List.getD_eq_getElem?_getD,List.getD_eq_getElem?_getD,List.getElem?_map,List.getElem?_eq_getElem h];rfl
theorem acr {c:UInt8} (hc:c=41∨c=93) (xs:List Pz) (hg: ∀x∈xs,Good x):Lex (fi (xs.map ee)++[c]) (en xs++[(4,[c])])∧kz (fi (xs.map ee)++[c])=true∧fi (xs.map ee)++[c]≠[]∧aq (fi (xs.map ee)++[c])=true:=by
 induction xs with
 |nil=>rcases hc with rfl|rfl<;>exact ⟨fc (by decide),by decide,by decide,by decide⟩
 |cons x xs ih=>
  obtain ⟨i1,i2,i3,i4⟩:=ih (fun y hy=>hg y (by simp [hy]));have hx:=hg x (by simp)
  have e:fi ((x::xs).map ee)++[c]=44::(32::(x.tx++(fi (xs.map ee)++[c]))):=by simp [fi,ee]
  have ek:en (x::xs)++[(4,[c])]=(4,[44])::(x.tk++(en xs++[(4,[c])])):=by simp [en]
  rw [e,ek];refine ⟨fU (by decide) ((hx.lex.app i1 i3 i2).space),rfl,by simp, ?_⟩;rw [cH,cH,cE,hx.plain,i4];rfl
theorem tO {c:UInt8} (hc:c=41∨c=93) (xs:List Pz) (hg: ∀x∈xs,Good x):Lex (cJ (xs.map ee)++[c]) (fV xs++[(4,[c])])∧aq (cJ (xs.map ee)++[c])=true:=by
 cases xs with
 |nil=>rcases hc with rfl|rfl<;>exact ⟨fc (by decide),by decide⟩
 |cons x xs=>
  obtain ⟨i1,i2,i3,i4⟩:=acr hc xs (fun y hy=>hg y (by simp [hy]));have hx:=hg x (by simp)
  have e:cJ ((x::xs).map ee)++[c]=x.tx++(fi (xs.map ee)++[c]):=by simp [cJ,ee]
  have ek:fV (x::xs)++[(4,[c])]=x.tk++(en xs++[(4,[c])]):=by simp [fV]
  rw [e,ek,cE,hx.plain,i4];exact ⟨hx.lex.app i1 i3 i2,rfl⟩
theorem nl {x:Pz} (hg:Good x) (r:Int):Lex (cR r (ee x)) (gI r x)∧(∃c t,cR r (ee x)=c::t∧((c.toNat:Int)==61)=false)∧aq (cR r (ee x))=true:=by
 unfold cR gI ee
 by_cases h:x.rk<r
 ·rw [if_pos h,if_pos h]
  refine ⟨fU (by decide) (hg.lex.app (fc (by decide)) (by simp) (by decide)),⟨40,_,rfl,by decide⟩, ?_⟩;rw [cH,cE,hg.plain];decide
 ·rw [if_neg h,if_neg h]
  exact ⟨hg.lex,hg.head,hg.plain⟩
theorem mU {c:Cl} {ks:List Pz} (Da:rkC c=8) (J4:Lex (bF c (ks.map ee)) (kA c ks)) (hh: ∃b r,bF c (ks.map ee)=b::r∧((b.toNat:Int)==61)=false) (hp:aq (bF c (ks.map ee))=true) (hk:xW (b8 c ks))
  (hr: ∀(tk:List Tk) (p:Nat),AtK tk p (kA c ks)→bA tk p=false∧ ∃n,n≤2*kU ks+1∧Rg tk .single p (c::ks.flatMap Pz.cl) (p+(kA c ks).length) 0 n):Good (b8 c ks):=by
 have Dx:qi (b8 c ks):=by
  intro tk p hk hf;obtain ⟨hu,n,hn,hd⟩:=hr tk p hk;exact Reads.single hd hu (by simp only [b8];omega)
 have h2:2≤(b8 c ks).rk:=by simp only [b8,Da];omega
 exact ⟨by simp only [b8,Da];omega,by simp [b8],J4,hh,hp,hk,fun _=>Dx,gc h2 Dx⟩
theorem z6 {m:Int} {s:ByteArray} {ks:List Pz} (h:okC (5,s,m)=true) (hl:ks.length=m.toNat) (hg: ∀x∈ks,Good x):Good (b8 (5,s,m) ks):=by
 have hm:0≤m∧m≤8:=jl h
 have hs:s=⟨#[]⟩:=by
  simp only [okC,aF,Bool.and_eq_true] at h
  have:s.data.toList=[]:=by simpa [ar] using h.1
  exact dW (by rw [this])
 subst hs;obtain ⟨j1,j2⟩:=tO (c:=93) (.inr rfl) ks hg;have et:bF (5,⟨#[]⟩,m) (ks.map ee)=91::(cJ (ks.map ee)++[93]):=rfl;have ek:kA (5,⟨#[]⟩,m) ks=(4,[91])::(fV ks++[(4,[93])]):=rfl;refine mU rfl (by rw [et,ek];exact fU (by decide) j1) ⟨91,_,et,by decide⟩ (by rw [et,cH,j2];decide) ⟨4,[91],_,ek,fun _=>by simp⟩ (fun tk p hk=> ?_);rw [ek] at hk⊢;have h0:=hk.head;obtain ⟨n,hn,hr⟩:=oB (w:=[93]) (.inr rfl) ks hg tk (p+1) hk.tail;refine ⟨by rw [bA,bf h0,bf h0];decide,n+1,by omega, ?_⟩
 have e:p+((4,[91])::(fV ks++[(4,[93])]):List Kw).length=p+1+(fV ks++[(4,[93])]).length:=by simp;omega
 rw [e,show m=(ks.length:Int) by omega];exact .list (by rw [bf h0];decide) hr
theorem z7 {m:Int} {s:ByteArray} {ks:List Pz} (h:okC (6,s,m)=true) (hl:ks.length=m.toNat) (hg: ∀x∈ks,Good x):Good (b8 (6,s,m) ks):=by
 have hm:0≤m∧m≤8:=jl h
 have hn:cI s.data.toList=true:=by
  simp only [okC,aF,Bool.and_eq_true] at h
  have:cI s.data.toList=true∧dV s.data.toList 46=false:=by simpa [ar] using h.1
  exact this.1
 obtain ⟨b,t,hw,hb,Du,n1,n2⟩:=ir hn
 have hall: ∀c∈s.data.toList,nmI (c.toNat:Int)=true:=fun c hc=>by
  rw [hw] at hc
  rcases List.mem_cons.mp hc with rfl|hc
  ·rw [nmI,cU,hb];rfl
  ·exact Du c hc
 obtain ⟨j1,j2⟩:=tO (c:=41) (.inl rfl) ks hg;have et:bF (6,s,m) (ks.map ee)=s.data.toList++(40::(cJ (ks.map ee)++[41])):=rfl;have ek:kA (6,s,m) ks=(1,s.data.toList)::((4,[40])::(fV ks++[(4,[41])])):=rfl
 have DB:Lex s.data.toList [(1,s.data.toList)]:=by rw [hw];exact oA hb Du
 refine mU rfl (by rw [et,ek];exact DB.app (fU (by decide) j1) (by simp) rfl) ⟨b,_,by rw [et,hw];rfl,wL (.inl hb)⟩ (by rw [et,cE,cH,j2,tM hall];decide) ⟨1,_,_,ek,fun h=>by cases h⟩ (fun tk p hk=> ?_);rw [ek] at hk⊢;have h0:=hk.head;have h1:=hk.tail.head;simp only [fG] at h0;obtain ⟨n,hn,hr⟩:=oB (w:=[41]) (.inl rfl) ks hg tk (p+1+1) hk.tail.tail;refine ⟨by rw [bA,(gz h0 (by decide)).1,(gz h0 (by decide)).1];rfl,n+1,by omega, ?_⟩
 have e:p+((1,s.data.toList)::((4,[40])::(fV ks++[(4,[41])])):List Kw).length=p+2+(fV ks++[(4,[41])]).length:=by simp;omega
 rw [e,show m=(ks.length:Int) by omega];exact .call h0 n1 n2 (by rw [bf h1];decide) hr
theorem acs {ks:List Pz} (h:ks.length=1):ks=[bw ks 0]:=by
 match ks,h with
 |[x],_=>rfl
theorem z9 {ks:List Pz} (h:ks.length=2):ks=[bw ks 0,bw ks 1]:=by
 match ks,h with
 |[x,y],_=>rfl
theorem tP {ks:List Pz} (h:ks.length=3):ks=[bw ks 0,bw ks 1,bw ks 2]:=by
 match ks,h with
 |[x,y,z],_=>rfl
theorem afF (tk:List Tk) (q:Nat):rkT tk q≤6:=by have:=rB tk q;omega
theorem wM {m:Int} {s:ByteArray} {ks:List Pz} (h:okC (7,s,m)=true) (hl:ks.length=m.toNat) (hg: ∀x∈ks,Good x):Good (b8 (7,s,m) ks):=by
 have hw:(s.data.toList=[33]∨s.data.toList=[45])∧m=1:=by
  simp only [okC,aF,Bool.and_eq_true] at h;exact ⟨by simpa [ar] using h.1,by simpa [aQ] using h.2⟩
 obtain ⟨hw,rfl⟩:=hw
 have FF:ks.length=1:=by simpa using hl
 have Cm:=acs FF;have hx:=hg (bw ks 0) (qj (by omega));have hd:=jU ks 0;obtain ⟨p1,p2,p3⟩:=nl hx 7
 have et:bF (7,s,1) (ks.map ee)=s.data.toList++cR 7 (ee (bw ks 0)):=by rw [←iu ks 0 (by omega)];rfl
 have ek:kA (7,s,1) ks=(4,s.data.toList)::gI 7 (bw ks 0):=rfl
 have Dx:qi (b8 (7,s,1) ks):=by
  intro tk p hk hf;simp only [b8] at hk hf⊢;rw [ek] at hk hf⊢;have h0:=hk.head
  have he:p+((4,s.data.toList)::gI 7 (bw ks 0):List Kw).length=p+1+(gI 7 (bw ks 0)).length:=by simp;omega
  rw [he] at hf⊢;have T4:=afF tk (p+1+(gI 7 (bw ks 0)).length)
  have T5:7≤(if (bw ks 0).rk<7 then 8 else (bw ks 0).rk):=by split<;>omega
  obtain ⟨a0,q0,n0,n,hn,hu,My,I3⟩:=jT hx 7 tk (p+1) (by omega) hk.tail ⟨hf.1,by omega,fun _=>by omega⟩;obtain ⟨rfl,rfl,rfl⟩:=My T5
  have JK:ks.flatMap Pz.cl=(bw ks 0).cl:=by rw [Cm];simp [bw]
  rw [JK];simp only [fG] at h0
  have T6:bA tk p=true:=by
   have Ru:tk[p]? =some (4,⟨s.data.toList.toArray⟩):=by rw [fG];exact h0
   rw [bA,bf Ru,bf Ru]
   rcases hw with e|e<;>(rw [e];decide)
  exact ⟨_,_,_,n0+1,by omega, .sign T6 h0 hu,fun _=>⟨rfl,rfl,rfl⟩,fun r _ _ c q2 n2 k=>k⟩
 have h2:2≤(b8 (7,s,1) ks).rk:=by simp [b8,rkC]
 refine ⟨by simp [b8,rkC],by simp [b8], ?_, ?_, ?_, ?_,fun _=>Dx,gc h2 Dx⟩
 ·simp only [b8];rw [et,ek]
  rcases hw with e|e
  ·rw [e];exact ael p1 p2
  ·rw [e];exact fU (by decide) p1
 ·simp only [b8];rw [et]
  rcases hw with e|e<;>(rw [e];exact ⟨_,_,rfl,by decide⟩)
 ·simp only [b8];rw [et,cE,p3]
  rcases hw with e|e<;>(rw [e];decide)
 ·exact ⟨4,_,_,ek,fun _=>by rcases hw with e|e<;>simp [e]⟩
theorem tQ {m:Int} {s:ByteArray} {ks:List Pz} (h:okC (8,s,m)=true) (hl:ks.length=m.toNat) (hg: ∀x∈ks,Good x):Good (b8 (8,s,m) ks):=by
 have hw:0<ap s.data.toList∧m=2:=by
  simp only [okC,aF,Bool.and_eq_true] at h;exact ⟨by simpa [ar] using h.1,by simpa [aQ] using h.2⟩
 obtain ⟨hw,rfl⟩:=hw;have Pv:=lF _ hw
 have Df:ks.length=2:=by simpa using hl
 have Cm:=z9 Df;have hx:=hg (bw ks 0) (qj (by omega));have hy:=hg (bw ks 1) (qj (by omega));have Rt:=jU ks 0;have T7:=jU ks 1
 have VP:cC (ap s.data.toList)=5∧ap s.data.toList=4∨cC (ap s.data.toList)=ap s.data.toList∧ap s.data.toList≠4:=by
  unfold cC;split<;>omega
 obtain ⟨p1,p2,p3⟩:=nl hx (cC (ap s.data.toList));obtain ⟨p4,p5,p6⟩:=nl hy (ap s.data.toList+1)
 have et:bF (8,s,2) (ks.map ee)=cR (cC (ap s.data.toList)) (ee (bw ks 0))++(32::(s.data.toList++(32::cR (ap s.data.toList+1) (ee (bw ks 1))))):=by
  rw [←iu ks 0 (by omega),←iu ks 1 (by omega)]
  simp [bF]
 have ek:kA (8,s,2) ks=gI (cC (ap s.data.toList)) (bw ks 0)++((4,s.data.toList)::gI (ap s.data.toList+1) (bw ks 1)):=rfl
 have Dx:qi (b8 (8,s,2) ks):=by
  intro tk p hk hf;have Da:(b8 (8,s,2) ks).rk=ap s.data.toList:=rfl;rw [Da] at hf⊢;simp only [b8] at hk hf⊢;rw [ek] at hk hf⊢;generalize hA:gI (cC (ap s.data.toList)) (bw ks 0)=A at hk hf⊢;generalize hBB:gI (ap s.data.toList+1) (bw ks 1)=BB at hk hf⊢;have h1:=hk.right;have h0:=h1.head;have h2:=h1.tail
  have he:p+(A++((4,s.data.toList)::BB):List Kw).length=p+A.length+1+BB.length:=by simp;omega
  rw [he] at hf⊢;obtain ⟨f1,f2,f3⟩:=hf;have Fv:rkT tk (p+A.length)=ap s.data.toList:=jS h0
  have Pw:isT tk (p+A.length) [40]=false:=by
   rw [bf h0];refine decide_eq_false (fun e=> ?_);rw [e] at hw;exact absurd hw (by decide)
  have T8:=hx.rk;have VQ:=hy.rk
  have Px:cC (ap s.data.toList)≤(if (bw ks 0).rk<cC (ap s.data.toList) then 8 else (bw ks 0).rk):=by split<;>omega
  have T9:ap s.data.toList+1≤(if (bw ks 1).rk<ap s.data.toList+1 then 8 else (bw ks 1).rk):=by split<;>omega
  generalize hE0:(if (bw ks 0).rk<cC (ap s.data.toList) then 8 else (bw ks 0).rk)=E0 at Px;generalize hE1:(if (bw ks 1).rk<ap s.data.toList+1 then 8 else (bw ks 1).rk)=E1 at T9;have r0:=jT hx (cC (ap s.data.toList)) tk p (by omega) (by rw [hA];exact hk.left) (by rw [hA,hE0];exact ⟨Pw,by omega,fun _=>by omega⟩);have r1:=jT hy (ap s.data.toList+1) tk (p+A.length+1) (by omega) (by rw [hBB];exact h2) (by rw [hBB,hE1];exact ⟨f1,by omega,fun _=>by omega⟩);rw [hA,hE0] at r0;rw [hBB,hE1] at r1;obtain ⟨kk,EF⟩:=agG (show 0≤ap s.data.toList by omega);obtain ⟨n1,BO,hb⟩:=r1.bin (r:=kk+1) (by omega) (by omega) (by omega);obtain ⟨a0,q0,n0,n,hn,hu,-,I3⟩:=r0
  have JK:ks.flatMap Pz.cl=(bw ks 0).cl++(bw ks 1).cl:=by rw [Cm];simp [bw]
  rw [JK];refine ⟨a0,q0,n0,max n n1,by omega,hu,fun h7=>by omega,fun r AM hr c q2 n2 Mz=>I3 r AM (by omega) c q2 n2 ?_⟩;simp only [fG] at h0;exact .more (k:=kk) (by rw [Fv,EF]) (by omega) (by omega) h0 hb (fun ⟨e1,e2⟩=>f3 (by omega) e2) Mz
 have h2:2≤(b8 (8,s,2) ks).rk:=Pv.1;refine ⟨⟨by show 1≤ap s.data.toList;omega,by show ap s.data.toList≤8;omega⟩,by simp [b8], ?_, ?_, ?_, ?_,fun _=>Dx,gc h2 Dx⟩
 ·simp only [b8];rw [et,ek]
  exact p1.app (((aem hw).app p4.space (by simp) rfl).space) (by simp) rfl
 ·simp only [b8];rw [et]
  obtain ⟨c,t,e,hc⟩:=p2;exact ⟨c,_,by rw [e];rfl,hc⟩
 ·simp only [b8];rw [et,cE,cH,cE,cH,p3,p6,tN hw];decide
 ·obtain ⟨k0,w0,r0,e,h4⟩:=hx.headK
  unfold xW;simp only [b8];rw [ek];unfold gI
  split
  ·exact ⟨4,[40],_,rfl,fun _=>by simp⟩
  ·rw [e];exact ⟨k0,w0,_,rfl,h4⟩
theorem tR {m:Int} {s:ByteArray} {ks:List Pz} (h:okC (9,s,m)=true) (hl:ks.length=m.toNat) (hg: ∀x∈ks,Good x):Good (b8 (9,s,m) ks):=by
 have hw:s.data.toList=[]∧m=3:=by
  simp only [okC,aF,Bool.and_eq_true] at h;exact ⟨by simpa [ar] using h.1,by simpa [aQ] using h.2⟩
 obtain ⟨hw,rfl⟩:=hw;obtain rfl:s=⟨#[]⟩:=dW (by rw [hw])
 have Ua:ks.length=3:=by simpa using hl
 have Cm:=tP Ua;have hx:=hg (bw ks 0) (qj (by omega));have hy:=hg (bw ks 1) (qj (by omega));have hz:=hg (bw ks 2) (qj (by omega));have Rt:=jU ks 0;have T7:=jU ks 1;have VR:=jU ks 2;obtain ⟨p1,p2,p3⟩:=nl hx 2
 have et:bF (9,⟨#[]⟩,3) (ks.map ee)=cR 2 (ee (bw ks 0))++(32::(63::(32::((bw ks 1).tx++(32::(58::(32::(bw ks 2).tx))))))):=by
  rw [←iu ks 0 (by omega)]
  have e1:(bw ks 1).tx=(dH (ks.map ee) 1).2:=by rw [iu ks 1 (by omega)];rfl
  have e2:(bw ks 2).tx=(dH (ks.map ee) 2).2:=by rw [iu ks 2 (by omega)];rfl
  rw [e1,e2]
  simp [bF]
 have ek:kA (9,⟨#[]⟩,3) ks=gI 2 (bw ks 0)++((4,[63])::((bw ks 1).tk++((4,[58])::(bw ks 2).tk))):=rfl
 have Nr:Chc (b8 (9,⟨#[]⟩,3) ks):=by
  intro tk p hk DA Dq EV;simp only [b8] at hk DA Dq EV⊢;rw [ek] at hk DA Dq EV⊢;generalize hA:gI 2 (bw ks 0)=A at hk DA Dq EV⊢;have h1:=hk.right;have t1:=h1.head;have h2:=h1.tail;have h3:=h2.right;have t3:=h3.head;have h4:=h3.tail
  have he:p+(A++((4,[63])::((bw ks 1).tk++((4,[58])::(bw ks 2).tk))):List Kw).length=p+A.length+1+(bw ks 1).tk.length+1+(bw ks 2).tk.length:=by simp;omega
  rw [he] at DA Dq EV⊢;have T8:=hx.rk
  have Px:2≤(if (bw ks 0).rk<2 then 8 else (bw ks 0).rk):=by split<;>omega
  generalize hE0:(if (bw ks 0).rk<2 then 8 else (bw ks 0).rk)=E0 at Px
  have Fv:rkT tk (p+A.length)=0:=by rw [jS t1];decide
  have r0:=jT hx 2 tk p (by omega) (by rw [hA];exact hk.left) (by rw [hA,hE0];exact ⟨by rw [bf t1];decide,by omega,fun _=>by omega⟩);rw [hA,hE0] at r0;obtain ⟨n0,Ch,Cu⟩:=r0.bin (r:=2) (by omega) (by omega) (by omega);obtain ⟨n1,BO,Es⟩:=hy.chc tk (p+A.length+1) h2.left (by rw [bf t3];decide) (by rw [jS t3];decide) (by rw [bf t3];decide);obtain ⟨n2,DE,DS⟩:=hz.chc tk (p+A.length+1+(bw ks 1).tk.length+1) h4 DA Dq EV
  have JK:ks.flatMap Pz.cl=(bw ks 0).cl++((bw ks 1).cl++(bw ks 2).cl):=by rw [Cm];simp [bw]
  rw [JK];have d1:=hy.dp;have d2:=hz.dp;exact ⟨_,by omega, .three Cu (by rw [bf t1];decide) Es (by rw [bf t3];decide) DS⟩
 refine ⟨by simp [b8,rkC],by simp [b8], ?_, ?_, ?_, ?_,fun h=>by simp [b8,rkC] at h,Nr⟩
 ·simp only [b8];rw [et,ek]
  exact p1.app ((fU (by decide) ((hy.lex.app ((fU (by decide) hz.lex.space).space) (by simp) rfl).space)).space) (by simp) rfl
 ·simp only [b8];rw [et]
  obtain ⟨c,t,e,hc⟩:=p2;exact ⟨c,_,by rw [e];rfl,hc⟩
 ·simp only [b8];rw [et]
  simp only [cE,cH,p3,hy.plain,hz.plain];decide
 ·obtain ⟨k0,w0,r0,e,h4⟩:=hx.headK
  unfold xW;simp only [b8];rw [ek];unfold gI
  split
  ·exact ⟨4,[40],_,rfl,fun _=>by simp⟩
  ·rw [e];exact ⟨k0,w0,_,rfl,h4⟩
theorem aeo {c:Cl} {ks:List Pz} (h:okC c=true) (hl:ks.length=c.2.2.toNat) (hg: ∀x∈ks,Good x):Good (b8 c ks):=by
 obtain ⟨k,s,m⟩:=c
 by_cases h14:k=1∨k=2∨k=3∨k=4
 ·have hm:m=0:=by
   simp only [okC,aF,aQ,Bool.and_eq_true] at h;have:=h.2;rw [if_pos h14] at this
   simpa using this
  subst hm;obtain rfl:ks=[]:=List.eq_nil_of_length_eq_zero (by simpa using hl);exact z5 h h14
 by_cases h5:k=5
 ·subst h5;exact z6 h hl hg
 by_cases h6:k=6
 ·subst h6;exact z7 h hl hg
 by_cases h7:k=7
 ·subst h7;exact wM h hl hg
 by_cases h8:k=8
 ·subst h8;exact tQ h hl hg
 by_cases h9:k=9
 ·subst h9;exact tR h hl hg
 ·exfalso
  simp only [okC,aF,ar,Bool.and_eq_true] at h;have:=h.1;simp only [not_or] at h14;rw [if_neg h14.1,if_neg h14.2.1,if_neg h14.2.2.1,if_neg h14.2.2.2,if_neg h5,if_neg h6,if_neg h7,if_neg h8,if_neg h9] at this
  cases this
end Go.Proofs.YtegdjjjpoahamaaGreatDoor
