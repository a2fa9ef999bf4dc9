/-
  Part of the proof of FnReadDocument.
-/
import Derived.Test.YtegdjjjpoahamaaGreatDoorQQRac
import Derived.Below
import Derived.Laws.OwnMore
import Derived.Deep.Draws
import Derived.Laws.Rows
import Derived.Deep.AppendLies
import Derived.Deep.RegionHeld3
import Derived.RegionTactic
import Derived.Deep.RegionLaw
import Derived.Deep.DrawnRows
import Derived.OwnWalk
set_option linter.unusedVariables false
set_option maxHeartbeats 4000000
set_option maxRecDepth 100000
namespace Go.Proofs.YtegdjjjpoahamaaGreatDoor
def rN (n:Int):Bool:=n==45||n==42||n==47||n==37||n==43||n==63||n==58||n==40||n==41||n==91||n==93||n==44
def aaI (n:Int):Bool:=n==60||n==62||n==33
def aL (n:Int):Int:=if bS n=true then 1 else if cf n=true then 2 else if (n==32)=true then 0 else if (n==34)=true then 3 else if aaI n=true then 6 else if (n==61)=true then 7 else if (n==38)=true then 8 else if (n==124)=true then 9 else if rN n=true then 10 else 11
def dl (n:Int):Int:=if (n==34)=true then 5 else if (n==92)=true then 4 else 3
def nS (st n:Int):Int:=if st=1 then 1 else if st=2 then 2 else if st=3 then dl n else if st=4 then 3 else if st=6∨st=7∨st=8∨st=9 then 10 else if st=11 then 11 else 0
def nB (st n:Int):Bool:=if st=1 then (cU n||n==46) else if st=2 then (cf n||n==46) else if st=3∨st=4 then true else if st=6∨st=7 then n==61 else if st=8 then n==38 else if st=9 then n==124 else decide (st=11)
def kI (st:Int):Int:=if st=1 then 1 else if st=2 then 2 else if st=5 then 3 else if st=6∨st=10 then 4 else 0
def bJ (m:Int×Nat×List (Int×Nat×Nat)) (a:Nat) (n:Int):Int×Nat×List (Int×Nat×Nat):=
 if nB m.1 n=true then (nS m.1 n,m.2.1,m.2.2)
 else if m.1=0 then (aL n,a,m.2.2)
 else if kI m.1=0 then (11,m.2.1,m.2.2)
 else (aL n,a,m.2.2++[(kI m.1,m.2.1,a)])
def cQ:(Int×Nat×List (Int×Nat×Nat))→Nat→List UInt8→Int×Nat×List (Int×Nat×Nat)
 |m,_,[]=>m
 |m,a,b::t=>cQ (bJ m a (b.toNat:Int)) (a+1) t
def b6 (m:Int×Nat×List (Int×Nat×Nat)) (a:Nat) (l:List UInt8):Int×Nat×List (Int×Nat×Nat):=bJ (cQ m a l) (a+l.length) 32
def ez (m:Int×Nat×List (Int×Nat×Nat)) (a:Nat) (l:List UInt8):Bool:=decide ((b6 m a l).1=0)
def i8 (m:Int×Nat×List (Int×Nat×Nat)) (a:Nat) (l:List UInt8):List (Int×Nat×Nat):=if ez m a l=true then (b6 m a l).2.2 else []
theorem rO (l r:List UInt8): ∀m a,cQ m a (l++r)=cQ (cQ m a l) (a+l.length) r:=by
 induction l with
 |nil=>intro m a;rfl
 |cons b t ih=>intro m a;simp only [List.cons_append,cQ,List.length_cons];rw [ih];congr 1;omega
theorem pr (l:List UInt8) (b:UInt8) (m:Int×Nat×List (Int×Nat×Nat)):cQ m 0 (l++[b])=bJ (cQ m 0 l) l.length (b.toNat:Int):=by
 rw [rO];simp [cQ]
theorem xo (n:Int):nB 0 n=false:=by simp [nB]
theorem bN (f a:Nat) (acc:List (Int×Nat×Nat)) (n:Int):bJ (0,f,acc) a n=(aL n,a,acc):=by
 simp [bJ,xo]
theorem eS:aL 32=0:=by decide
theorem ns (f f' a:Nat) (acc:List (Int×Nat×Nat)) (l:List UInt8):b6 (0,f,acc) a l=b6 (0,f',acc) a l:=by
 cases l with
 |nil=>unfold b6;rw [cQ,cQ,bN,bN]
 |cons b t=>unfold b6;rw [cQ,cQ,bN,bN]
theorem jC (f a:Nat) (acc:List (Int×Nat×Nat)) (b:UInt8) (t:List UInt8) (h:(b.toNat:Int)=32):b6 (0,f,acc) a (b::t)=b6 (0,a,acc) (a+1) t:=by
 unfold b6;rw [cQ,bN,h,eS,List.length_cons];congr 1;omega
theorem iz (f a:Nat) (acc:List (Int×Nat×Nat)) (n:Int):bJ (11,f,acc) a n=(11,f,acc):=by
 simp [bJ,nB,nS]
theorem pu (f:Nat) (acc:List (Int×Nat×Nat)) (l:List UInt8): ∀a,cQ (11,f,acc) a l=(11,f,acc):=by
 induction l with
 |nil=>intro a;rfl
 |cons b t ih=>intro a;rw [cQ,iz,ih]
def dS:Int→List UInt8→Bool
 |_,[]=>true
 |st,b::t=>nB st (b.toNat:Int)&&dS (nS st (b.toNat:Int)) t
def fin:Int→List UInt8→Int
 |st,[]=>st
 |st,b::t=>fin (nS st (b.toNat:Int)) t
theorem pw (f:Nat) (acc:List (Int×Nat×Nat)) (l:List UInt8): ∀st a,dS st l=true→cQ (st,f,acc) a l=(fin st l,f,acc):=by
 induction l with
 |nil=>intro st a _;rfl
 |cons b t ih=>
  intro st a h;simp only [dS,Bool.and_eq_true] at h;rw [cQ,fin,bJ,if_pos h.1];exact ih _ _ h.2
theorem rP {st:Int} (h:kI st≠0):st≠0∧nB st 32=false:=by
 unfold kI at h
 split at h
 ·rename_i e;subst e;decide
 ·split at h
  ·rename_i e;subst e;decide
  ·split at h
   ·rename_i e;subst e;decide
   ·split at h
    ·rename_i e;rcases e with rfl|rfl<;>decide
    ·exact absurd rfl h
theorem lY (st:Int) (f a:Nat) (acc:List (Int×Nat×Nat)) (n:Int) (hk:kI st≠0) (hb:nB st n=false):bJ (st,f,acc) a n=(aL n,a,acc++[(kI st,f,a)]):=by
 have:=(rP hk).1
 simp [bJ,hb,this,hk]
theorem yj (f a:Nat) (acc:List (Int×Nat×Nat)) (b:UInt8) (t r:List UInt8) (h:dS (aL (b.toNat:Int)) t=true) (hk:kI (fin (aL (b.toNat:Int)) t)≠0)
  (hr: ∀c r',r=c::r'→nB (fin (aL (b.toNat:Int)) t) (c.toNat:Int)=false):
  b6 (0,f,acc) a (b::(t++r))=b6 (0,0,acc++[(kI (fin (aL (b.toNat:Int)) t),a,a+(t.length+1))]) (a+(t.length+1)) r:=by
 unfold b6;rw [cQ,bN,rO,pw _ _ _ _ _ h]
 cases r with
 |nil=>
  rw [cQ,cQ,lY _ _ _ _ _ hk (rP hk).2,bN];simp only [List.append_nil,List.length_cons,List.length_nil,Nat.add_zero]
 |cons c r'=>
  rw [cQ,cQ,lY _ _ _ _ _ hk (hr c r' rfl),bN];simp only [List.length_cons,agE];rw [show a+1+t.length=a+(t.length+1) by omega,show a+(t.length+(r'.length+1)+1)=a+(t.length+1)+(r'.length+1) by omega]
def fM (p:Int→Bool):List UInt8→Nat
 |[]=>0
 |b::t=>if p (b.toNat:Int)=true then fM p t+1 else 0
def nmI (n:Int):Bool:=cU n||n==46
def nrI (n:Int):Bool:=cf n||n==46
def clo:Bool→List UInt8→Nat
 |false,[]=>0
 |true,[]=>1
 |true,b::t=>clo false t+1
 |false,b::t=>if ((b.toNat:Int)==34)=true then 0 else if ((b.toNat:Int)==92)=true then clo true t+1 else clo false t+1
def two (b c:Int):Bool:=((b==60)&&(c==61))||((b==62)&&(c==61))||((b==61)&&(c==61))||((b==33)&&(c==61))||((b==38)&&(c==38))||((b==124)&&(c==124))
def one (b:Int):Bool:=b==33||b==45||b==42||b==47||b==37||b==43||b==60||b==62||b==63||b==58||b==40||b==41||b==91||b==93||b==44
def eB:List UInt8→Nat
 |[]=>0
 |[b]=>if one (b.toNat:Int)=true then 1 else 0
 |b::c::_=>if two (b.toNat:Int) (c.toNat:Int)=true then 2 else if one (b.toNat:Int)=true then 1 else 0
def fe:List UInt8→Nat
 |[]=>0
 |b::t=>if bS (b.toNat:Int)=true then fM nmI (b::t) else if cf (b.toNat:Int)=true then fM nrI (b::t) else if ((b.toNat:Int)==34)=true then (if clo false t<t.length then clo false t+2 else 0) else eB (b::t)
def eC:List UInt8→Int
 |[]=>0
 |b::t=>if bS (b.toNat:Int)=true then 1 else if cf (b.toNat:Int)=true then 2 else if ((b.toNat:Int)==34)=true then (if clo false t<t.length then 3 else 0) else if eB (b::t)=0 then 0 else 4
theorem xp (p:Int→Bool) (l:List UInt8):fM p l≤l.length:=by
 induction l with
 |nil=>exact agD _
 |cons b t ih=>simp only [fM];split<;>simp [ih]
theorem px (p:Int→Bool) (st:Int) (h1: ∀n,nB st n=p n) (h2: ∀n,nS st n=st) (l:List UInt8):dS st (l.take (fM p l))=true∧fin st (l.take (fM p l))=st∧ ∀c r',l.drop (fM p l)=c::r'→nB st (c.toNat:Int)=false:=by
 induction l with
 |nil=>simp [fM,dS,fin]
 |cons b t ih=>
  simp only [fM]
  split
  ·rename_i h
   simp only [List.take_succ_cons,dS,fin,h1,h,h2,Bool.true_and,List.drop_succ_cons];simp only [h1] at ih;exact ih
  ·rename_i h
   refine ⟨rfl,rfl,fun c r' e=> ?_⟩;simp only [List.drop_zero,List.cons.injEq] at e;rw [←e.1,h1];exact Bool.eq_false_iff.mpr h
theorem rQ (l:List UInt8): ∀fl,(clo fl l<l.length→dS (if fl=true then 4 else 3) (l.take (clo fl l+1))=true∧fin (if fl=true then 4 else 3) (l.take (clo fl l+1))=5)∧
  (¬clo fl l<l.length→dS (if fl=true then 4 else 3) l=true∧(fin (if fl=true then 4 else 3) l=3∨fin (if fl=true then 4 else 3) l=4)):=by
 induction l with
 |nil=>intro fl;cases fl<;>simp [clo,dS,fin]
 |cons b t ih=>
  intro fl
  cases fl with
  |true=>
   have h:=ih false;simp only [if_true,Bool.false_eq_true,if_false] at h⊢;simp only [clo,List.length_cons,List.take_succ_cons,dS,fin,show nB 4 (b.toNat:Int)=true by simp [nB],show nS 4 (b.toNat:Int)=3 by simp [nS],Bool.true_and];exact ⟨fun g=>h.1 (by omega),fun g=>h.2 (by omega)⟩
  |false=>
   simp only [Bool.false_eq_true,if_false]
   have e1:nB 3 (b.toNat:Int)=true:=by simp [nB]
   have e2:nS 3 (b.toNat:Int)=dl (b.toNat:Int):=by simp [nS]
   by_cases h34:((b.toNat:Int)==34)=true
   ·simp only [clo,h34,if_true,List.length_cons,List.take_succ_cons,List.take_zero,dS,fin,e1,e2,dl]
    exact ⟨fun _=>⟨rfl,trivial⟩,fun g=>absurd (by omega) g⟩
   ·by_cases h92:((b.toNat:Int)==92)=true
    ·have h:=ih true
     simp only [if_true] at h;simp only [clo,h34,h92,if_true,Bool.false_eq_true,if_false,List.length_cons,List.take_succ_cons,dS,fin,e1,e2,dl,Bool.true_and];exact ⟨fun g=>h.1 (by omega),fun g=>h.2 (by omega)⟩
    ·have h:=ih false
     simp only [Bool.false_eq_true,if_false] at h;simp only [clo,h34,h92,Bool.false_eq_true,if_false,List.length_cons,List.take_succ_cons,dS,fin,e1,e2,dl,Bool.true_and];exact ⟨fun g=>h.1 (by omega),fun g=>h.2 (by omega)⟩
def TokAt (l:List UInt8) (n:Nat) (k:Int):Prop:=
 ∃b t,l.take n=b::t∧dS (aL (b.toNat:Int)) t=true∧kI (fin (aL (b.toNat:Int)) t)=k∧k≠0∧n≤l.length∧ ∀c r',l.drop n=c::r'→nB (fin (aL (b.toNat:Int)) t) (c.toNat:Int)=false
theorem TokAt.read {l:List UInt8} {n:Nat} {k:Int} (h:TokAt l n k) (f a:Nat) (acc:List (Int×Nat×Nat)):1≤n∧b6 (0,f,acc) a l=b6 (0,0,acc++[(k,a,a+n)]) (a+n) (l.drop n):=by
 obtain ⟨b,t,ht,hs,hk,Bo,hn,hr⟩:=h
 have Ai:(l.take n).length=n:=by rw [List.length_take];omega
 rw [ht,List.length_cons] at Ai;refine ⟨by omega, ?_⟩
 have hl:l=b::(t++l.drop n):=by rw [←List.cons_append,←ht,List.take_append_drop]
 have e:=yj f a acc b t (l.drop n) hs (by rw [hk];exact Bo) hr;rw [←hl,hk,Ai] at e;exact e
theorem gV {n:Int} (h:bS n=true):aL n=1:=by simp [aL,h]
theorem gW {n:Int} (h:bS n=false) (hd:cf n=true):aL n=2:=by simp [aL,h,hd]
theorem uA (b:UInt8) (t:List UInt8) (h:(b.toNat:Int)≠32) (hk:eC (b::t)≠0):TokAt (b::t) (fe (b::t)) (eC (b::t)):=by
 simp only [eC] at hk;simp only [fe,eC]
 cases hl:bS (b.toNat:Int) with
 |true=>
  simp only [if_true]
  have hm:nmI (b.toNat:Int)=true:=by simp [nmI,cU,hl]
  have g:=px nmI 1 (fun n=>by simp [nB,nmI]) (fun n=>by simp [nS]) t;simp only [fM,hm,if_true];refine ⟨b,t.take (fM nmI t),rfl, ?_, ?_,by omega,by simp [xp], ?_⟩
  ·rw [gV hl];exact g.1
  ·rw [gV hl,g.2.1];decide
  ·rw [gV hl,g.2.1,List.drop_succ_cons];exact g.2.2
 |false=>
  simp only [hl,Bool.false_eq_true,if_false] at hk⊢
  cases hd:cf (b.toNat:Int) with
  |true=>
   simp only [if_true]
   have hm:nrI (b.toNat:Int)=true:=by simp [nrI,hd]
   have g:=px nrI 2 (fun n=>by simp [nB,nrI]) (fun n=>by simp [nS]) t;simp only [fM,hm,if_true];refine ⟨b,t.take (fM nrI t),rfl, ?_, ?_,by omega,by simp [xp], ?_⟩
   ·rw [gW hl hd];exact g.1
   ·rw [gW hl hd,g.2.1];decide
   ·rw [gW hl hd,g.2.1,List.drop_succ_cons];exact g.2.2
  |false=>
   simp only [hd,Bool.false_eq_true,if_false] at hk⊢
   by_cases h34:((b.toNat:Int)==34)=true
   ·simp only [h34,if_true] at hk⊢
    have hf:aL (b.toNat:Int)=3:=by rw [beq_iff_eq] at h34;rw [h34];decide
    split at hk
    ·rename_i hc
     simp only [hc,if_true];have g:=(rQ t false).1 hc;simp only [Bool.false_eq_true,if_false] at g;refine ⟨b,t.take (clo false t+1),rfl, ?_, ?_,by omega,by simp;omega, ?_⟩
     ·rw [hf];exact g.1
     ·rw [hf,g.2];decide
     ·rw [hf,g.2];intro c r' _;simp [nB]
    ·exact absurd rfl hk
   ·have Hu:=Bool.eq_false_iff.mpr h34
    simp only [Hu,Bool.false_eq_true,if_false] at hk⊢
    have hs:eB (b::t)≠0:=by intro e;rw [if_pos e] at hk;exact hk rfl
    rw [if_neg hs];generalize hx:(b.toNat:Int)=x at*
    have sgl:one x=true→(∀c r',t=c::r'→two x (c.toNat:Int)=false)→TokAt (b::t) 1 4:=by
     intro h1 h2
     have key:kI (aL x)=4∧ ∀c:UInt8,two x (c.toNat:Int)=false→nB (aL x) (c.toNat:Int)=false:=by
      simp only [one,Bool.or_eq_true,beq_iff_eq] at h1
      rcases h1 with ((((((((((((((e|e)|e)|e)|e)|e)|e)|e)|e)|e)|e)|e)|e)|e)|e)<;>subst e<;>refine ⟨by decide,fun c hc=> ?_⟩<;>simp_all [two,nB,aL,bS,cf,aaI,rN]
     refine ⟨b,[],rfl,rfl,by rw [hx];exact key.1,by omega,by simp,fun c r' e=> ?_⟩;rw [hx];exact key.2 c (h2 c r' (by simpa using e))
    cases t with
    |nil=>
     simp only [eB,hx] at hs⊢
     split at hs
     ·rename_i h1;rw [if_pos h1];exact sgl h1 (by intro c r' e;cases e)
     ·exact absurd rfl hs
    |cons c r=>
     simp only [eB,hx] at hs⊢
     by_cases h2:two x (c.toNat:Int)=true
     ·rw [if_pos h2]
      have key:nB (aL x) (c.toNat:Int)=true∧nS (aL x) (c.toNat:Int)=10:=by
       simp only [two,Bool.or_eq_true,Bool.and_eq_true,beq_iff_eq] at h2
       rcases h2 with (((((⟨e,g⟩|⟨e,g⟩)|⟨e,g⟩)|⟨e,g⟩)|⟨e,g⟩)|⟨e,g⟩)<;>rw [e,g]<;>decide
      refine ⟨b,[c],rfl, ?_, ?_,by omega,by simp,fun d r' _=> ?_⟩
      ·rw [hx];simp [dS,key.1]
      ·rw [hx];simp only [fin,key.2];decide
      ·rw [hx];simp only [fin,key.2];simp [nB]
     ·rw [if_neg h2] at hs⊢
      split at hs
      ·rename_i h1;rw [if_pos h1]
       refine sgl h1 ?_
       intro c' r' e;cases e;exact Bool.eq_false_iff.mpr h2
      ·exact absurd rfl hs
theorem xq (f a:Nat) (acc:List (Int×Nat×Nat)) (b:UInt8) (t:List UInt8) (h:(b.toNat:Int)≠32) (hk:eC (b::t)=0):(b6 (0,f,acc) a (b::t)).1≠0:=by
 simp only [eC] at hk
 cases hl:bS (b.toNat:Int) with
 |true=>simp [hl] at hk
 |false=>
  simp only [hl,Bool.false_eq_true,if_false] at hk
  cases hd:cf (b.toNat:Int) with
  |true=>simp [hd] at hk
  |false=>
   simp only [hd,Bool.false_eq_true,if_false] at hk
   by_cases h34:((b.toNat:Int)==34)=true
   ·have hf:aL (b.toNat:Int)=3:=by rw [beq_iff_eq] at h34;rw [h34];decide
    simp only [h34,if_true] at hk
    split at hk
    ·omega
    ·rename_i hc
     have g:=(rQ t false).2 hc;simp only [Bool.false_eq_true,if_false] at g;unfold b6;rw [cQ,bN,hf,pw _ _ _ _ _ g.1]
     rcases g.2 with e|e<;>rw [e]<;>simp [bJ,nB,nS,dl]
   ·have Hu:=Bool.eq_false_iff.mpr h34
    simp only [Hu,Bool.false_eq_true,if_false] at hk
    have hs:eB (b::t)=0:=by
     by_cases e:eB (b::t)=0
     ·exact e
     ·rw [if_neg e] at hk;omega
    have Ej:one (b.toNat:Int)=false:=by
     cases t with
     |nil=>simp only [eB] at hs;by_cases e:one (b.toNat:Int)=true
           ·rw [if_pos e] at hs;omega
           ·exact Bool.eq_false_iff.mpr e
     |cons c r=>simp only [eB] at hs;split at hs
                ·omega
                ·by_cases e:one (b.toNat:Int)=true
                 ·rw [if_pos e] at hs;omega
                 ·exact Bool.eq_false_iff.mpr e
    have stop: ∀(st:Int) (g:Nat),st≠0→kI st=0→nB st 32=false→(∀c r',t=c::r'→nB st (c.toNat:Int)=false)→aL (b.toNat:Int)=st→(b6 (0,f,acc) a (b::t)).1≠0:=by
     intro st g h1 h2 h3 h4 h5;unfold b6;rw [cQ,bN,h5]
     cases t with
     |nil=>rw [cQ];simp [bJ,h1,h2,h3]
     |cons c r=>
      rw [cQ,show bJ (st,a,acc) (a+1) (c.toNat:Int)=(11,a,acc) by simp [bJ,h1,h2,h4 c r rfl],pu,iz]
      simp
    have h2: ∀c r',t=c::r'→two (b.toNat:Int) (c.toNat:Int)=false:=by
     intro c r' e;subst e;simp only [eB] at hs
     by_cases e:two (b.toNat:Int) (c.toNat:Int)=true
     ·rw [if_pos e] at hs;omega
     ·exact Bool.eq_false_iff.mpr e
    have Fj:((b.toNat:Int)==32)=false:=by simpa using h
    by_cases e61:((b.toNat:Int)==61)=true
    ·refine stop 7 0 (by omega) (by decide) (by decide) (fun c r' e=> ?_) (by rw [beq_iff_eq] at e61;rw [e61];decide)
     have:=h2 c r' e;rw [beq_iff_eq] at e61;rw [e61] at this
     simp [two] at this
     simp [nB];omega
    by_cases e38:((b.toNat:Int)==38)=true
    ·refine stop 8 0 (by omega) (by decide) (by decide) (fun c r' e=> ?_) (by rw [beq_iff_eq] at e38;rw [e38];decide)
     have:=h2 c r' e;rw [beq_iff_eq] at e38;rw [e38] at this
     simp [two] at this
     simp [nB];omega
    by_cases e124:((b.toNat:Int)==124)=true
    ·refine stop 9 0 (by omega) (by decide) (by decide) (fun c r' e=> ?_) (by rw [beq_iff_eq] at e124;rw [e124];decide)
     have:=h2 c r' e;rw [beq_iff_eq] at e124;rw [e124] at this
     simp [two] at this
     simp [nB];omega
    ·have hf:aL (b.toNat:Int)=11:=by
      have g1:aaI (b.toNat:Int)=false:=by simp_all [one,aaI]
      have g2:rN (b.toNat:Int)=false:=by simp_all [one,rN]
      simp only [aL,hl,hd,Fj,Hu,g1,g2,Bool.eq_false_iff.mpr e61,Bool.eq_false_iff.mpr e38,Bool.eq_false_iff.mpr e124,Bool.false_eq_true,if_false]
     unfold b6;rw [cQ,bN,hf,pu,iz]
     simp
open Go.RowKit
theorem i9 (n:Int) (w:World) (h0:0≤n) (h1:n≤255):
  Calls Tryz.prog 225 #[.int .u8 n] w fun e w'=>e= .returned (.int .i64 (aL n))∧w=w':=by
 cases hl:bS n with
 |true=>
  have HL:=agC hl;rw [show aL n=1 by simp [aL,hl]];clear hl
  go_enter Tryz.func225,Tryz.ntmps225
  go_wp2_with fail;refine (bZ _ _ (by omega) (by omega)).mono ?_;rintro e w' ⟨rfl,rfl⟩;rw [HL.out];go_wp2;go_ret;exact ⟨rfl,rfl⟩
 |false=>
  have HL:=agC hl
  cases hd:cf n with
  |true=>
   have HD:=agC hd;rw [show aL n=2 by simp [aL,hl,hd]];clear hl hd
   go_enter Tryz.func225,Tryz.ntmps225
   go_wp2_with fail;refine (bZ _ _ (by omega) (by omega)).mono ?_;rintro e w' ⟨rfl,rfl⟩;rw [HL.out];go_wp2_with fail;refine (gf _ _ (by omega) (by omega)).mono ?_;rintro e w' ⟨rfl,rfl⟩;rw [HD.out];go_wp2;go_ret;exact ⟨rfl,rfl⟩
  |false=>
   have HD:=agC hd
   go_enter Tryz.func225,Tryz.ntmps225
   go_wp2_with fail;refine (bZ _ _ (by omega) (by omega)).mono ?_;rintro e w' ⟨rfl,rfl⟩;rw [HL.out];go_wp2_with fail;refine (gf _ _ (by omega) (by omega)).mono ?_;rintro e w' ⟨rfl,rfl⟩;rw [HD.out];go_wp2
   all_goals
    go_ret;refine ⟨?_,rfl⟩
    simp_all [aL,aaI,rN]
theorem mY (n:Int) (w:World):
  Calls Tryz.prog 235 #[.int .u8 n] w fun e w'=>e= .returned (.int .i64 (dl n))∧w=w':=by
 by_cases J8:n=34
 ·subst J8;rw [show dl 34=5 by decide]
  go_enter Tryz.func235,Tryz.ntmps235
  go_wp2;go_ret;exact ⟨rfl,rfl⟩
 by_cases J9:n=92
 ·subst J9;rw [show dl 92=4 by decide]
  go_enter Tryz.func235,Tryz.ntmps235
  go_wp2;go_ret;exact ⟨rfl,rfl⟩
 have z1:(n==34)=false:=beq_eq_false_iff_ne.mpr J8;have z2:(n==92)=false:=beq_eq_false_iff_ne.mpr J9
 have hf:dl n=3:=by simp only [dl,z1,z2,Bool.false_eq_true,if_false]
 rw [hf];clear hf J8 J9
 go_enter Tryz.func235,Tryz.ntmps235
 go_wp2;go_ret;exact ⟨rfl,rfl⟩
theorem rR {st:Int} (h0:0≤st) (h1:st≤11):st=0∨st=1∨st=2∨st=3∨st=4∨st=5∨st=6∨st=7∨st=8∨st=9∨st=10∨st=11:=by omega
theorem rS (st:Int) (w:World) (h0:0≤st) (h1:st≤11):
  Calls Tryz.prog 236 #[.int .i64 st] w fun e w'=>e= .returned (.int .i64 (kI st))∧w=w':=by
 rcases rR h0 h1 with rfl|rfl|rfl|rfl|rfl|rfl|rfl|rfl|rfl|rfl|rfl|rfl
 all_goals
  clear h0 h1
  go_enter Tryz.func236,Tryz.ntmps236
  go_wp2;go_ret;exact ⟨rfl,rfl⟩
theorem la (st n:Int) (w:World) (h0:0≤st) (h1:st≤11) (Ch:0≤n) (BO:n≤255):
  Calls Tryz.prog 223 #[.int .i64 st, .int .u8 n] w fun e w'=>e= .returned (.tuple #[.int .i64 (nS st n), .bool (nB st n)])∧w=w':=by
 rcases rR h0 h1 with rfl|rfl|rfl|rfl|rfl|rfl|rfl|rfl|rfl|rfl|rfl|rfl
 ·clear h0 h1
  go_enter Tryz.func223,Tryz.ntmps223
  go_wp2;go_ret2;exact ⟨rfl,rfl⟩
 ·clear h0 h1
  rw [show nS 1 n=1 from rfl,show nB 1 n=(cU n||n==46) from rfl]
  cases hp:cU n with
  |true=>
   have HP:=agC hp;clear hp
   go_enter Tryz.func223,Tryz.ntmps223
   go_wp2_with fail;refine (es n _ Ch BO).mono ?_;rintro e w' ⟨rfl,rfl⟩;rw [HP.out];go_wp2;go_ret2;exact ⟨rfl,rfl⟩
  |false=>
   have HP:=agC hp;clear hp
   go_enter Tryz.func223,Tryz.ntmps223
   go_wp2_with fail;refine (es n _ Ch BO).mono ?_;rintro e w' ⟨rfl,rfl⟩;rw [HP.out];go_wp2;go_ret2;exact ⟨rfl,rfl⟩
 ·clear h0 h1
  rw [show nS 2 n=2 from rfl,show nB 2 n=(cf n||n==46) from rfl]
  cases hp:cf n with
  |true=>
   have HP:=agC hp;clear hp
   go_enter Tryz.func223,Tryz.ntmps223
   go_wp2_with fail;refine (gf n _ Ch BO).mono ?_;rintro e w' ⟨rfl,rfl⟩;rw [HP.out];go_wp2;go_ret2;exact ⟨rfl,rfl⟩
  |false=>
   have HP:=agC hp;clear hp
   go_enter Tryz.func223,Tryz.ntmps223
   go_wp2_with fail;refine (gf n _ Ch BO).mono ?_;rintro e w' ⟨rfl,rfl⟩;rw [HP.out];go_wp2;go_ret2;exact ⟨rfl,rfl⟩
 ·clear h0 h1
  rw [show nS 3 n=dl n from rfl,show nB 3 n=true from rfl]
  go_enter Tryz.func223,Tryz.ntmps223
  go_wp2_with fail;refine (mY n _).mono ?_;rintro e w' ⟨rfl,rfl⟩;go_wp2;go_ret2;exact ⟨rfl,rfl⟩
 ·clear h0 h1
  go_enter Tryz.func223,Tryz.ntmps223
  go_wp2;go_ret2;exact ⟨rfl,rfl⟩
 ·clear h0 h1
  go_enter Tryz.func223,Tryz.ntmps223
  go_wp2;go_ret2;exact ⟨rfl,rfl⟩
 ·clear h0 h1
  go_enter Tryz.func223,Tryz.ntmps223
  go_wp2;go_ret2;exact ⟨rfl,rfl⟩
 ·clear h0 h1
  go_enter Tryz.func223,Tryz.ntmps223
  go_wp2;go_ret2;exact ⟨rfl,rfl⟩
 ·clear h0 h1
  go_enter Tryz.func223,Tryz.ntmps223
  go_wp2;go_ret2;exact ⟨rfl,rfl⟩
 ·clear h0 h1
  go_enter Tryz.func223,Tryz.ntmps223
  go_wp2;go_ret2;exact ⟨rfl,rfl⟩
 ·clear h0 h1
  go_enter Tryz.func223,Tryz.ntmps223
  go_wp2;go_ret2;exact ⟨rfl,rfl⟩
 ·clear h0 h1
  go_enter Tryz.func223,Tryz.ntmps223
  go_wp2;go_ret2;exact ⟨rfl,rfl⟩
def BlkM (w:World) (g:Nat) (t:TypeId) (cs:Array Value):Prop:=w.heap[g]? =some (.cells cs t (0,0))
section
variable {w w':World} {g:Nat} {t:TypeId} {cs:Array Value}
theorem BlkM.lt (h:BlkM w g t cs):g<w.heap.size:=by
 rcases Nat.lt_or_ge g w.heap.size with Ab|DQ
 ·exact Ab
 ·unfold BlkM at h;rw [Array.getElem?_eq_none DQ] at h;cases h
theorem BlkM.cell (h:BlkM w g t cs) (i:Nat):w.cell? ⟨g,i,none⟩=cs[i]? :=cell_of_row w g i cs t (0,0) h
theorem BlkM.frozen (h:BlkM w g t cs) (i:Nat):w.frozen? ⟨g,i,none⟩=false:=by
 unfold BlkM at h
 simp [World.frozen?,h]
theorem BlkM.new (w:World) (t:TypeId) (cs:Array Value):BlkM (w.alloc (.cells cs t)) w.heap.size t cs:=heap_alloc_new w _
theorem BlkM.drew (h:BlkM w g t cs):BlkM w.drew g t cs:=h
theorem BlkM.alloc (h:BlkM w g t cs) (o:Obj):BlkM (w.alloc o) g t cs:=(Below.heap_alloc w o g h.lt).trans h
theorem BlkM.set_ (h:BlkM w g t cs) (i:Nat) (u:Value):BlkM (w.setCell ⟨g,i,none⟩ u) g t (cs.setIfInBounds i u):=by
 unfold BlkM at h⊢
 simp [World.setCell,Array.getElem?_modify,h]
theorem BlkM.grown {row:Option Nat} (h:BlkM w g t cs) (hb:w.grownBy w' row) (hg:some g≠row):BlkM w' g t cs:=(hb.block g h.lt hg).trans h
theorem gK {base:Nat} {e:TypeId} {size n:Nat} {v:Value} {xs:List Value} (h:w.ownsRow base e size v n xs) (hg:BlkM w g t cs) (At:e≠t):v.ownBlock≠some g:=by
 rcases h.2 with ⟨rfl,_⟩|⟨g',cap,cur,rfl,_,hh,_⟩
 ·simp [Value.ownBlock]
 ·intro he
  have:g'=g:=by simpa [Value.ownBlock] using he
  subst this;unfold BlkM at hg;rw [hh] at hg
  injection hg with hg
  injection hg with _ ht
  exact At ht
end
def gX (l:List (Int×Nat×Nat)):List Value:=l.flatMap fun t=>[.int .i64 t.1, .int .i64 (t.2.1:Int), .int .i64 (t.2.2:Int)]
theorem nu (l:List (Int×Nat×Nat)) (k:Int) (f t:Nat):gX (l++[(k,f,t)])=gX l++[.int .i64 k, .int .i64 (f:Int), .int .i64 (t:Int)]:=by simp [gX]
def Mach (B:Nat) (w:World) (M:Nat) (m:Int×Nat×List (Int×Nat×Nat)):Prop:=
 ∃v,BlkM w M 217 #[.int .i64 m.1, .int .i64 (m.2.1:Int),v]∧w.ownsRow B 158 3 v m.2.2.length (gX m.2.2)∧B≤M
theorem xr:(Tryz.prog.info? 158).map (fun i=>(i.zero,i.size,i.bytes))=some (some (.agg #[.int .i64 0, .int .i64 0, .int .i64 0]),3,24):=by kernel_rfl
theorem Mach.lt {B M:Nat} {w:World} {m:Int×Nat×List (Int×Nat×Nat)} (h:Mach B w M m):B≤M∧M<w.heap.size:=by
 obtain ⟨v,h1,h2,h3⟩:=h;exact ⟨h3,h1.lt⟩
theorem Mach.cells {B M:Nat} {w:World} {st:Int} {f:Nat} {acc:List (Int×Nat×Nat)} (h:Mach B w M (st,f,acc)):w.cell? ⟨M,0,none⟩=some (.int .i64 st)∧w.frozen? ⟨M,0,none⟩=false∧w.cell? ⟨M,1,none⟩=some (.int .i64 (f:Int))∧w.frozen? ⟨M,1,none⟩=false:=by
 obtain ⟨v,h1,h2,h3⟩:=h;exact ⟨h1.cell 0,h1.frozen 0,h1.cell 1,h1.frozen 1⟩
theorem Mach.set0 {B M:Nat} {w:World} {st:Int} {f:Nat} {acc:List (Int×Nat×Nat)} (h:Mach B w M (st,f,acc)) (x:Int):Mach B (w.setCell ⟨M,0,none⟩ (.int .i64 x)) M (x,f,acc):=by
 obtain ⟨v,h1,h2,h3⟩:=h;refine ⟨v,h1.set_ 0 _, ?_,h3⟩;refine h2.kept (row:=some M) ⟨rfl,rfl,rfl,by simp [World.setCell],fun k _ hn=>Below.heap_setCell _ _ _ _ (fun e=>hn (by simp [e]))⟩ (.inr ?_);exact gK h2 h1 (by decide)
theorem Mach.set1 {B M:Nat} {w:World} {st:Int} {f:Nat} {acc:List (Int×Nat×Nat)} (h:Mach B w M (st,f,acc)) (x:Nat):Mach B (w.setCell ⟨M,1,none⟩ (.int .i64 (x:Int))) M (st,x,acc):=by
 obtain ⟨v,h1,h2,h3⟩:=h;refine ⟨v,h1.set_ 1 _, ?_,h3⟩;refine h2.kept (row:=some M) ⟨rfl,rfl,rfl,by simp [World.setCell],fun k _ hn=>Below.heap_setCell _ _ _ _ (fun e=>hn (by simp [e]))⟩ (.inr ?_);exact gK h2 h1 (by decide)
theorem aeR (B M Dc f:Nat) (st:Int) (acc:List (Int×Nat×Nat)) (w:World) (h:Mach B w M (st,f,acc)) (h0:0≤st) (h1:st≤11) (hk:kI st=0):
  Calls Tryz.prog 224 #[.pointer (some ⟨M,0,none⟩), .int .i64 (Dc:Int)] w fun e w'=>e= .returned (.bool false)∧w=w':=by
 obtain ⟨c0,f0,c1,f1⟩:=h.cells;have HK:=agC hk;clear hk
 go_enter Tryz.func224,Tryz.ntmps224
 go_wp2_with fail;refine (rS st _ h0 h1).mono ?_;rintro e w' ⟨rfl,rfl⟩;rw [HK.out];go_wp2;go_ret;exact ⟨rfl,rfl⟩
theorem adg (B M Dc f:Nat) (st:Int) (acc:List (Int×Nat×Nat)) (w:World) (h:Mach B w M (st,f,acc)) (h0:0≤st) (h1:st≤11) (hk:kI st≠0) (Ai:acc.length≤100000):
 Calls Tryz.prog 224 #[.pointer (some ⟨M,0,none⟩), .int .i64 (Dc:Int)] w fun e w'=>e= .returned (.bool true)∧Mach B w' M (st,f,acc++[(kI st,f,Dc)])∧Below B w w':=by
 obtain ⟨i0,hi,Az,Ax,AC⟩:=info_parts xr;obtain ⟨v,hb,Ad,Hv⟩:=h;have c0:w.cell? ⟨M,0,none⟩=some (.int .i64 st):=hb.cell 0;have c1:w.cell? ⟨M,1,none⟩=some (.int .i64 (f:Int)):=hb.cell 1;have c2:w.cell? ⟨M,2,none⟩=some v:=hb.cell 2;have f2:w.frozen? ⟨M,2,none⟩=false:=hb.frozen 2;have hM:=hb.lt;have NE:=agC (gK Ad hb (by decide));have DR:=agC hb;clear hb;have Kf:(kI st==0)=false:=beq_eq_false_iff_ne.mpr hk;clear hk
 obtain ⟨av,cv,hv⟩: ∃a c,v= .slice a acc.length c:=by
  rcases Ad.2 with ⟨rfl,h0⟩|⟨g',cap,cur,rfl,_⟩
  ·exact ⟨none,0,by rw [h0]⟩
  ·exact ⟨_,_,rfl⟩
 subst hv
 go_enter Tryz.func224,Tryz.ntmps224
 go_wp2_with fail;refine (rS st _ h0 h1).mono ?_;rintro e w' ⟨rfl,rfl⟩;generalize EF:kI st=kk at*;have RS:=agC EF;clear EF;go_wp2_with fail
 go_region_law
  ((refine step_append_lies _ (by rfl) _ _ _ (by rfl) B 158 i0 _ 3 24 Tryz.underlying152 hi Az Ax AC rfl (by omega) (.slice av acc.length cv) acc.length _ (by rfl) ((Ad.alloc _).drew)
     ⟨w.heap.size,0,none⟩ 1 1 [.int .i64 kk, .int .i64 (f:Int), .int .i64 (Dc:Int)] (by rfl) (by rfl) (World.news_of_block (cs:= #[.int .i64 kk, .int .i64 (f:Int), .int .i64 (Dc:Int)]) (t:=158) (fr:=(0,0)) (heap_alloc_new w _)) (by simp [Value.oneCell'])
     (by omega) (by unfold maxLen;omega) (by omega) (by simp;omega) (w.heap.size+1) (by simp) ?_;intro gg cap' w2 Ah Ac Bc ES;have hfz:w2.frozen? ⟨M,2,none⟩=false:=((Ac.frozen_far _ (by simp;omega) (fun hq=>NE.out hq.symm)).trans (((agF w _ none).frozen_far ⟨M,2,none⟩ hM (by simp)).trans f2));have DS:w2.cell? ⟨M,2,none⟩=some (.slice av acc.length cv):=((Ac.cell_far _ (by simp;omega) (fun hq=>NE.out hq.symm)).trans (((agF w _ none).cell_far ⟨M,2,none⟩ hM (by simp)).trans c2))))
 all_goals
  have K2:=agC (BlkM.grown ((DR.out.alloc _).drew) Ac (fun hq=>NE.out hq.symm));have HO:=agC Ah;have HG:=agC Ac;clear Ah Ac Bc;go_wp2;go_ret;refine ⟨rfl,⟨_,K2.out.set_ 2 _, ?_,Hv⟩, ?_⟩
  ·have h2:=HO.out.kept (row:=some M) (w':=w2.setCell ⟨M,2,none⟩ (.slice (some ⟨gg,0,none⟩) (acc.length+1) cap')) ⟨rfl,rfl,rfl,by simp [World.setCell],fun k _ hn=>Below.heap_setCell _ _ _ _ (fun e=>hn (by simp [e]))⟩ (.inr (gK HO.out K2.out (by decide)))
   simp only [nu,agE,List.length_cons,List.length_nil];rw [RS.out];exact h2
  ·exact ((((Below.refl B w).alloc (by omega) _).drew).grown HG.out (by simp;omega) (fun q hq=>(Ad.lt q hq).1)).setCell Hv _
theorem rT (B M Dc:Nat) (n:Int) (m:Int×Nat×List (Int×Nat×Nat)) (w:World) (h:Mach B w M m) (h0:0≤m.1) (h1:m.1≤11) (Ch:0≤n) (BO:n≤255) (Ai:m.2.2.length≤100000):
  Calls Tryz.prog 203 #[.pointer (some ⟨M,0,none⟩), .int .i64 (Dc:Int), .int .u8 n] w fun e w'=>e= .returned (.tuple #[])∧Mach B w' M (bJ m Dc n)∧Below B w w':=by
 obtain ⟨st,f,acc⟩:=m;simp only at h0 h1 Ai;obtain ⟨c0,f0,c1,f1⟩:=h.cells;have Hv:=h.lt.1
 cases hb:nB st n with
 |true=>
  have HB:=agC hb;have HS:=agC (show bJ (st,f,acc) Dc n=(nS st n,f,acc) by simp [bJ,hb]);clear hb;have HM:=agC (h.set0 (nS st n));clear h
  go_enter Tryz.func203,Tryz.ntmps203
  go_wp2_with fail;refine (la st n _ h0 h1 Ch BO).mono ?_;rintro e w' ⟨rfl,rfl⟩;rw [HB.out];generalize nS st n=s1 at*;go_wp2;refine bodyPost_ret (results_none rfl _ _ _) rfl ?_;exact ⟨rfl,by rw [HS.out];exact HM.out,(Below.refl B w).setCell Hv _⟩
 |false=>
  have HB:=agC hb
  by_cases hz:st=0
  ·subst hz
   have HS:=agC (show bJ (0,f,acc) Dc n=(aL n,Dc,acc) from bN f Dc acc n);clear hb;have HM:=agC ((h.set0 (aL n)).set1 Dc);clear h
   go_enter Tryz.func203,Tryz.ntmps203
   go_wp2_with fail;refine (la 0 n _ h0 h1 Ch BO).mono ?_;rintro e w' ⟨rfl,rfl⟩;rw [HB.out];generalize nS 0 n=s1;go_wp2_with fail;refine (i9 n _ Ch BO).mono ?_;rintro e w' ⟨rfl,rfl⟩;generalize aL n=s2 at*;go_wp2;go_end0;exact ⟨rfl,by rw [HS.out];exact HM.out,((Below.refl B w).setCell Hv _).setCell Hv _⟩
  ·have NM:(st !=0)=true:=bne_iff_ne.mpr hz
   by_cases hk:kI st=0
   ·have HS:=agC (show bJ (st,f,acc) Dc n=(11,f,acc) by simp [bJ,hb,hz,hk])
    have HM:=agC (h.set0 11);have HH:=agC h;have HK:=agC hk;clear hb hk h hz
    go_enter Tryz.func203,Tryz.ntmps203
    go_wp2_with fail;refine (la st n _ h0 h1 Ch BO).mono ?_;rintro e w' ⟨rfl,rfl⟩;rw [HB.out];generalize nS st n=s1;go_wp2_with fail;refine (aeR B M Dc f st acc _ HH.out h0 h1 HK.out).mono ?_;rintro e w' ⟨rfl,rfl⟩;go_wp2;refine bodyPost_ret (results_none rfl _ _ _) rfl ?_;exact ⟨rfl,by rw [HS.out];exact HM.out,(Below.refl B w).setCell Hv _⟩
   ·have HS:=agC (show bJ (st,f,acc) Dc n=(aL n,Dc,acc++[(kI st,f,Dc)]) by simp [bJ,hb,hz,hk])
    have HH:=agC h;have HK:=agC hk;clear hb hk h hz
    go_enter Tryz.func203,Tryz.ntmps203
    go_wp2_with fail;refine (la st n _ h0 h1 Ch BO).mono ?_;rintro e w' ⟨rfl,rfl⟩;rw [HB.out];generalize nS st n=s1;go_wp2_with fail;refine (adg B M Dc f st acc _ HH.out h0 h1 HK.out Ai).mono ?_;rintro e w1 ⟨rfl,Co,Aa⟩;have HM:=agC ((Co.set0 (aL n)).set1 Dc);have Af:=agC Aa;obtain ⟨d0,g0,d1,g1⟩:=Co.cells;clear Co Aa c0 f0 c1 f1;go_wp2_with fail;refine (i9 n _ Ch BO).mono ?_;rintro e w' ⟨rfl,rfl⟩;generalize aL n=s2 at*;go_wp2;go_end0;exact ⟨rfl,by rw [HS.out];exact HM.out,(Af.out.setCell Hv _).setCell Hv _⟩
theorem fA (s:ByteArray) (w:World) (hs:s.size≤maxLen):
  Calls Tryz.prog 160 #[.string s] w fun e w'=>e= .returned (.bool (aq s.data.toList))∧w=w':=by
 unfold maxLen at hs
 go_enter Tryz.func160,Tryz.ntmps160
 go_wp2
 go_loop [3,6] (fun _ i=> ∃k:Nat,k≤s.size∧i= .int .i64 k∧aq (s.data.toList.take k)=true) (fun _ i=>s.size-(intOf i).toNat)
 case atStart=>exact ⟨0,agH _,rfl,rfl⟩
 case round=>
  obtain ⟨k,hk,rfl,Aj⟩:=hrel;have HK:=agC Aj;clear Aj
  by_cases Ab:k<s.size
  ·have Cu:(s[k].toNat:Int)≤255:=by have:=s[k].toNat_lt;omega
   go_wp2_with fail;refine (fE _ _ (by omega) (by omega)).mono ?_;rintro e w' ⟨rfl,rfl⟩
   by_cases he:bV (s[k].toNat:Int)=true
   ·have HE:=agC (sO s k Ab HK.out he)
    rw [he];clear he;go_wp2
    go_round
    case rel=>exact ⟨k+1,by omega,by go_num,HE.out⟩
    case measure=>simp [intOf];omega
   ·have HE:=agC (uW s k Ab (Bool.eq_false_iff.mpr he))
    rw [Bool.eq_false_iff.mpr he];clear he;go_wp2;go_ret;exact ⟨fg HE.out.symm,rfl⟩
  ·go_wp2
   go_ret;have:=HK.out;rw [List.take_of_length_le (by simp;omega)] at this;exact ⟨fg this.symm,rfl⟩
def okT (s:ByteArray):Bool:=decide (s.size≤20000)&&aq s.data.toList&&ez (0,0,[]) 0 s.data.toList
def aI (s:ByteArray):List (Int×Nat×Nat):=if okT s=true then i8 (0,0,[]) 0 s.data.toList else []
def xt (ok:Bool) (L:List (Int×Nat×Nat)) (w:World) (e:Ending) (w':World):Prop:=
 ∃v,e= .returned (.tuple #[v, .bool ok])∧w'.ownsRow w.heap.size 158 3 v L.length (gX L)∧Below w.heap.size w w'
theorem aaJ (l:List UInt8): ∀m a,(cQ m a l).2.2.length≤m.2.2.length+l.length:=by
 induction l with
 |nil=>intro m a;simp [cQ]
 |cons b t ih=>
  intro m a;rw [cQ];have h1:=ih (bJ m a (b.toNat:Int)) (a+1)
  have h2:(bJ m a (b.toNat:Int)).2.2.length≤m.2.2.length+1:=by
   unfold bJ
   split
   ·simp
   ·split
    ·simp
    ·split<;>simp
  rw [List.length_cons];omega
theorem yk (n:Int):0≤dl n∧dl n≤11:=by
 unfold dl;split
 ·omega
 ·split<;>omega
theorem afZ (st n:Int):0≤nS st n∧nS st n≤11:=by
 have:=yk n
 unfold nS;repeat' split
 all_goals omega
theorem aaK (n:Int):0≤aL n∧aL n≤11:=by
 unfold aL;repeat' split
 all_goals omega
theorem rU (m:Int×Nat×List (Int×Nat×Nat)) (a:Nat) (n:Int):0≤(bJ m a n).1∧(bJ m a n).1≤11:=by
 have h1:=afZ m.1 n;have h2:=aaK n;unfold bJ
 split
 ·exact h1
 ·split
  ·exact h2
  ·split
   ·simp
   ·exact h2
theorem adh (l:List UInt8): ∀m a,0≤m.1→m.1≤11→0≤(cQ m a l).1∧(cQ m a l).1≤11:=by
 induction l with
 |nil=>intro m a h0 h1;exact ⟨h0,h1⟩
 |cons b t ih=>intro m a h0 h1;rw [cQ];exact ih _ _ (rU _ _ _).1 (rU _ _ _).2
theorem yl (s:ByteArray) (k:Nat) (h:k<s.size):cQ (0,0,[]) 0 (s.data.toList.take (k+1))=bJ (cQ (0,0,[]) 0 (s.data.toList.take k)) k (s[k].toNat:Int):=by
 have hl:s.data.toList.length=s.size:=by rw [Array.length_toList];rfl
 rw [eu s k h,pr,List.length_take,Nat.min_eq_left (by omega)]
theorem cM {fn:Func} {t u:Tmp} (h:fn.results= #[.tmp t, .tmp u]) (tmps:Array Value) (P:Program) (w:World):
  (results fn tmps).run P w= .ok (.tuple #[tmps.getD t undef,tmps.getD u undef]) w:=by simp [results,h]
theorem o0 (s:ByteArray) (w:World) (hs:s.size≤maxLen):
  Calls Tryz.prog 185 #[.string s] w (xt (okT s) (aI s) w):=by
 have Ds:=agC hs;unfold maxLen at hs
 have Ai:s.data.toList.length=s.size:=by rw [Array.length_toList];rfl
 by_cases AP:s.size≤20000
 ·cases hp:aq s.data.toList with
  |true=>
   have HP:=agC hp;have Bj:=agC (show okT s=ez (0,0,[]) 0 s.data.toList by rw [okT,hp,decide_eq_true AP];rfl);have Ek:=agC Ai;clear hp Ai
   go_enter Tryz.func185,Tryz.ntmps185
   go_wp2_with fail;refine (fA s _ Ds.out).mono ?_;rintro e w' ⟨rfl,rfl⟩;rw [HP.out];go_wp2_with fail
   go_loopw [5,16] (fun _ i wr=> ∃k:Nat,k≤s.size∧i= .int .i64 (k:Int)∧Mach w.heap.size wr w.heap.size (cQ (0,0,[]) 0 (s.data.toList.take k))∧Below w.heap.size w wr) (fun _ i _=>s.size-(intOf i).toNat)
   case atStart=>
    refine ⟨0,agH _,rfl,⟨_,BlkM.new w _ _,World.ownsRow_nil _ _ _ _,agD _⟩,(Below.refl _ _).alloc (agD _) _⟩
   case round=>
    obtain ⟨k,hk,rfl,hm,Bd⟩:=hrel;have HB:=agC Bd;clear Bd;have HM:=agC hm;clear hm;have Dt:=adh (s.data.toList.take k) (0,0,[]) 0 (by simp) (by simp);have DB:=aaJ (s.data.toList.take k) (0,0,[]) 0;rw [List.length_take,Ek.out] at DB;simp only [List.length_nil] at DB
    have Jf:(cQ (0,0,[]) 0 (s.data.toList.take k)).2.2.length≤100000:=by omega
    clear DB
    by_cases Ab:k<s.size
    ·have Cu:(s[k].toNat:Int)≤255:=by have:=s[k].toNat_lt;omega
     have HN:=agC (yl s k Ab);go_wp2_with fail;refine (rT w.heap.size w.heap.size k (s[k].toNat:Int) _ _ HM.out Dt.1 Dt.2 (by omega) (by omega) Jf).mono ?_;rintro e w1 ⟨rfl,Co,Aa⟩;have RU:=agC Co;have Af:=agC (HB.out.trans Aa);clear Co Aa;go_wp2;go_roundw
     case rel=>exact ⟨k+1,by omega,by go_num,by rw [HN.out];exact RU.out,Af.out⟩
     case measure=>simp [intOf];omega
    ·obtain rfl:k=s.size:=by omega
     have HT:=agC (show s.data.toList.take s.size=s.data.toList from List.take_of_length_le (by rw [Ek.out];exact agD _));rw [HT.out] at HM Dt Jf;go_wp2_with fail;refine (rT w.heap.size w.heap.size s.size 32 _ _ HM.out Dt.1 Dt.2 (by omega) (by omega) Jf).mono ?_;rintro e w1 ⟨rfl,Co,Aa⟩;have Af:=agC (HB.out.trans Aa);have HE:=agC (show bJ (cQ (0,0,[]) 0 s.data.toList) s.size 32=b6 (0,0,[]) 0 s.data.toList by unfold b6;rw [Ek.out,Nat.zero_add]);rw [HE.out] at Co;clear Aa;generalize hm:b6 (0,0,[]) 0 s.data.toList=m at Co;have ID:=agC hm;clear hm;obtain ⟨st,f,acc⟩:=m;obtain ⟨d0,g0,d1,g1⟩:=Co.cells;obtain ⟨v,AJ,Ad,-⟩:=Co;have d2:w1.cell? ⟨w.heap.size,2,none⟩=some v:=AJ.cell 2;have HO:=agC Ad
     obtain ⟨av,cv,hv⟩: ∃a c,v= .slice a acc.length c:=by
      rcases Ad.2 with ⟨rfl,h0⟩|⟨g',cap,cur,rfl,_⟩
      ·exact ⟨none,0,by rw [h0]⟩
      ·exact ⟨_,_,rfl⟩
     subst hv;clear AJ Ad
     by_cases hz:st=0
     ·subst hz
      have HR:=agC (show okT s=true by rw [Bj.out,ez,ID.out];rfl);have HL:=agC (show aI s=acc by rw [aI,HR.out,if_pos rfl,i8,ez,ID.out];simp);go_wp2;refine bodyPost_ret (cM rfl _ _ _) rfl ?_;exact ⟨_,by rw [HR.out];rfl,by rw [HL.out];exact HO.out,Af.out⟩
     ·have NM:(st !=0)=true:=bne_iff_ne.mpr hz
      have HR:=agC (show okT s=false by rw [Bj.out,ez,ID.out];simp [hz]);have HL:=agC (show aI s=[] by rw [aI,HR.out];rfl);clear hz;go_wp2;refine bodyPost_ret (cM rfl _ _ _) rfl ?_;exact ⟨_,by rw [HR.out];rfl,by rw [HL.out];exact World.ownsRow_nil _ _ _ _,Af.out⟩
  |false=>
   have HP:=agC hp;have HR:=agC (show okT s=false by rw [okT,hp];simp);have HL:=agC (show aI s=[] by rw [aI,HR.out];rfl);clear hp Ai
   go_enter Tryz.func185,Tryz.ntmps185
   go_wp2_with fail;refine (fA s _ Ds.out).mono ?_;rintro e w' ⟨rfl,rfl⟩;rw [HP.out];go_wp2;refine bodyPost_ret (cM rfl _ _ _) rfl ?_;exact ⟨_,by rw [HR.out];rfl,by rw [HL.out];exact World.ownsRow_nil _ _ _ _,Below.refl _ _⟩
 ·have HR:=agC (show okT s=false by rw [okT,decide_eq_false AP];rfl)
  have HL:=agC (show aI s=[] by rw [aI,HR.out];rfl);clear Ai
  go_enter Tryz.func185,Tryz.ntmps185
  go_wp2;refine bodyPost_ret (cM rfl _ _ _) rfl ?_;exact ⟨_,by rw [HR.out];rfl,by rw [HL.out];exact World.ownsRow_nil _ _ _ _,Below.refl _ _⟩
def RowT (w:World) (v:Value) (n:Nat) (L:List Value):Prop:=
 L.length=n*3∧ ∃ao cap,v= .slice ao n cap∧n≤cap∧cap≤maxLen∧(n=0∨ ∃b,ao=some ⟨b,0,none⟩∧b<w.heap.size∧ ∀(j:Nat) t,L[j]? =some t→w.cell? ⟨b,j,none⟩=some t)
theorem RowT.of_own {w:World} {base:Nat} {e:TypeId} {v:Value} {n:Nat} {L:List Value} (h:w.ownsRow base e 3 v n L):RowT w v n L:=by
 have h0:=h;obtain ⟨hl,h2⟩:=h;refine ⟨hl, ?_⟩
 rcases h2 with ⟨rfl,rfl⟩|⟨g,cap,cur,rfl,hg,hh,h1,h2,_⟩
 ·exact ⟨none,0,rfl,agD _,by unfold maxLen;omega, .inl rfl⟩
 ·refine ⟨_,cap,rfl,h1,h2, .inr ⟨g,rfl, ?_, ?_⟩⟩
  ·by_cases hk:g<w.heap.size
   ·exact hk
   ·rw [Array.getElem?_eq_none (by omega)] at hh;cases hh
  ·intro j t ht
   have Ab:j<L.length:=by
    by_cases hk:j<L.length
    ·exact hk
    ·rw [List.getElem?_eq_none (by omega)] at ht;cases ht
   rw [h0.cellAt j (by omega)];exact ht
theorem rV (L:List (Int×Nat×Nat)): ∀(k:Nat) (h:k<L.length),(gX L)[k*3]? =some (.int .i64 L[k].1)∧(gX L)[k*3+1]? =some (.int .i64 (L[k].2.1:Int))∧(gX L)[k*3+2]? =some (.int .i64 (L[k].2.2:Int)):=by
 induction L with
 |nil=>intro k h;simp at h
 |cons a t ih=>
  intro k h
  have e:gX (a::t)= .int .i64 a.1:: .int .i64 (a.2.1:Int):: .int .i64 (a.2.2:Int)::gX t:=by simp [gX]
  cases k with
  |zero=>rw [e];exact ⟨rfl,rfl,rfl⟩
  |succ k=>
   have hk:k<t.length:=by simpa using h
   obtain ⟨h1,h2,h3⟩:=ih k hk;rw [e,show (k+1)*3=k*3+3 by omega];exact ⟨h1,h2,h3⟩
def gl (l:List UInt8):Bool:=l.all fun b=>(b.toNat:Int)==32
def kh:Nat→List UInt8→List (Int×Nat×Nat)→Prop
 |a,l,[]=>gl l=true
 |a,l,(k,f,t)::ts=> ∃j n,f=a+j∧t=a+j+n∧j≤l.length∧gl (l.take j)=true∧TokAt (l.drop j) n k∧kh (a+j+n) (l.drop (j+n)) ts
theorem rW (a:Nat) (b:UInt8) (l:List UInt8) (ts:List (Int×Nat×Nat)) (hb:(b.toNat:Int)=32) (h:kh (a+1) l ts):kh a (b::l) ts:=by
 cases ts with
 |nil=>simp only [kh,gl,List.all_cons,hb] at h⊢;simpa using h
 |cons x ts=>
  obtain ⟨k,f,t⟩:=x;obtain ⟨j,n,h1,h2,h3,h4,h5,h6⟩:=h;refine ⟨j+1,n,by omega,by omega,by simpa using h3, ?_,by simpa using h5, ?_⟩
  ·simp only [gl,List.take_succ_cons,List.all_cons,hb] at h4⊢;simpa using h4
  ·rw [show a+(j+1)+n=a+1+j+n by omega,show j+1+n=(j+n)+1 by omega,List.drop_succ_cons];exact h6
theorem aaL (m:Nat): ∀(l:List UInt8) (a f:Nat) (acc:List (Int×Nat×Nat)),l.length≤m→(b6 (0,f,acc) a l).1=0→ ∃ts,(b6 (0,f,acc) a l).2.2=acc++ts∧kh a l ts:=by
 induction m with
 |zero=>
  intro l a f acc hl h;obtain rfl:l=[]:=List.eq_nil_of_length_eq_zero (by omega);refine ⟨[], ?_,rfl⟩;unfold b6;rw [cQ,bN];simp
 |succ m ih=>
  intro l a f acc hl h
  cases l with
  |nil=>
   refine ⟨[], ?_,rfl⟩;unfold b6;rw [cQ,bN];simp
  |cons b t=>
   by_cases hb:(b.toNat:Int)=32
   ·rw [jC _ _ _ _ _ hb] at h⊢
    obtain ⟨ts,h1,h2⟩:=ih t (a+1) a acc (by simpa using hl) h;exact ⟨ts,h1,rW a b t ts hb h2⟩
   ·by_cases hk:eC (b::t)=0
    ·exact absurd h (xq f a acc b t hb hk)
    ·have ht:=uA b t hb hk
     have hr:=ht.read f a acc;rw [hr.2] at h⊢;obtain ⟨ts,h1,h2⟩:=ih _ _ _ _ (by rw [List.length_drop];omega) h;refine ⟨(eC (b::t),a,a+fe (b::t))::ts,by rw [h1];simp,0,fe (b::t),rfl,rfl,by omega,rfl,ht, ?_⟩
     simpa using h2
theorem ym {l:List UInt8} (h:ez (0,0,[]) 0 l=true):kh 0 l (i8 (0,0,[]) 0 l):=by
 have h0:(b6 (0,0,[]) 0 l).1=0:=by simpa [ez] using h
 obtain ⟨ts,h1,h2⟩:=aaL l.length l 0 0 [] (agD _) h0;rw [List.nil_append] at h1;rw [i8,if_pos h,h1];exact h2
theorem TokAt.le {l:List UInt8} {n:Nat} {k:Int} (h:TokAt l n k):1≤n∧n≤l.length:=by
 have h1:=(h.read 0 0 []).1;obtain ⟨b,t,-,-,-,-,CJ,-⟩:=h;exact ⟨h1,CJ⟩
theorem nv (ts:List (Int×Nat×Nat)): ∀(a:Nat) (l:List UInt8),kh a l ts→ ∀x∈ts,a≤x.2.1∧x.2.1<x.2.2∧x.2.2≤a+l.length:=by
 induction ts with
 |nil=>intro a l _ x hx;cases hx
 |cons y ts ih=>
  intro a l h x hx;obtain ⟨k,f,t⟩:=y;obtain ⟨j,n,h1,h2,h3,h4,h5,h6⟩:=h;have CJ:=h5.le;rw [List.length_drop] at CJ
  rcases List.mem_cons.mp hx with rfl|hx
  ·simp only;omega
  ·have:=ih _ _ h6 x hx
   rw [List.length_drop] at this
   omega
def shT (d:Nat) (x:Int×Nat×Nat):Int×Nat×Nat:=(x.1,x.2.1+d,x.2.2+d)
def shM (d:Nat) (acc:List (Int×Nat×Nat)) (m:Int×Nat×List (Int×Nat×Nat)):Int×Nat×List (Int×Nat×Nat):=(m.1,m.2.1+d,acc++m.2.2.map (shT d))
theorem xu (d:Nat) (acc:List (Int×Nat×Nat)) (m:Int×Nat×List (Int×Nat×Nat)) (a:Nat) (n:Int):bJ (shM d acc m) (a+d) n=shM d acc (bJ m a n):=by
 obtain ⟨st,f,X⟩:=m
 by_cases h1:nB st n=true
 ·simp [bJ,shM,h1]
 ·by_cases h2:st=0
  ·subst h2;simp [bJ,shM,xo]
  ·by_cases h3:kI st=0
   ·simp [bJ,shM,h1,h2,h3]
   ·simp [bJ,shM,shT,h1,h2,h3]
theorem aeS (d:Nat) (acc:List (Int×Nat×Nat)) (l:List UInt8): ∀m a,cQ (shM d acc m) (a+d) l=shM d acc (cQ m a l):=by
 induction l with
 |nil=>intro m a;rfl
 |cons b t ih=>intro m a;rw [cQ,cQ,xu,show a+d+1=a+1+d by omega,ih]
theorem aeT (d:Nat) (acc:List (Int×Nat×Nat)) (l:List UInt8) (m:Int×Nat×List (Int×Nat×Nat)) (a:Nat):b6 (shM d acc m) (a+d) l=shM d acc (b6 m a l):=by
 unfold b6;rw [aeS,show a+d+l.length=a+l.length+d by omega,xu]
def W (l:List UInt8):List (List UInt8):=(i8 (0,0,[]) 0 l).map fun t=>(l.drop t.2.1).take (t.2.2-t.2.1)
end Go.Proofs.YtegdjjjpoahamaaGreatDoor
