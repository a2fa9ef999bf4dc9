/-
  Part of the proof of FnReadItem.
-/
import Derived.Test.YthijkjnngfnfdaaGreatDoorPBaseC
import Derived.Below
import Derived.Laws.OwnMore
import Derived.Deep.Draws
import Derived.Laws.Rows
import Derived.Deep.AppendLies
import Derived.Deep.RegionHeld3
import Derived.RegionTactic
import Derived.Deep.RegionLaw
import Derived.Deep.DrawnRows
import Derived.OwnWalk
set_option linter.unusedVariables false
set_option maxHeartbeats 4000000
set_option maxRecDepth 100000
namespace Go.Proofs.YthijkjnngfnfdaaGreatDoor
def vo (n:Int):Bool:=n==45||n==42||n==47||n==37||n==43||n==63||n==58||n==40||n==41||n==91||n==93||n==44
def ad1 (n:Int):Bool:=n==60||n==62||n==33
def aF (n:Int):Int:=if cA n=true then 1 else if cP n=true then 2 else if (n==32)=true then 0 else if (n==34)=true then 3 else if ad1 n=true then 6 else if (n==61)=true then 7 else if (n==38)=true then 8 else if (n==124)=true then 9 else if vo n=true then 10 else 11
def dW (n:Int):Int:=if (n==34)=true then 5 else if (n==92)=true then 4 else 3
def nS (st n:Int):Int:=if st=1 then 1 else if st=2 then 2 else if st=3 then dW n else if st=4 then 3 else if st=6∨st=7∨st=8∨st=9 then 10 else if st=11 then 11 else 0
def nB (st n:Int):Bool:=if st=1 then (dH n||n==46) else if st=2 then (cP n||n==46) else if st=3∨st=4 then true else if st=6∨st=7 then n==61 else if st=8 then n==38 else if st=9 then n==124 else decide (st=11)
def kI (st:Int):Int:=if st=1 then 1 else if st=2 then 2 else if st=5 then 3 else if st=6∨st=10 then 4 else 0
def b7 (m:Int×Nat×List (Int×Nat×Nat)) (a:Nat) (n:Int):Int×Nat×List (Int×Nat×Nat):=
 if nB m.1 n=true then (nS m.1 n,m.2.1,m.2.2)
 else if m.1=0 then (aF n,a,m.2.2)
 else if kI m.1=0 then (11,m.2.1,m.2.2)
 else (aF n,a,m.2.2++[(kI m.1,m.2.1,a)])
def dD:(Int×Nat×List (Int×Nat×Nat))→Nat→List UInt8→Int×Nat×List (Int×Nat×Nat)
 |m,_,[]=>m
 |m,a,b::t=>dD (b7 m a (b.toNat:Int)) (a+1) t
def cL (m:Int×Nat×List (Int×Nat×Nat)) (a:Nat) (l:List UInt8):Int×Nat×List (Int×Nat×Nat):=b7 (dD m a l) (a+l.length) 32
def fd (m:Int×Nat×List (Int×Nat×Nat)) (a:Nat) (l:List UInt8):Bool:=decide ((cL m a l).1=0)
def kE (m:Int×Nat×List (Int×Nat×Nat)) (a:Nat) (l:List UInt8):List (Int×Nat×Nat):=if fd m a l=true then (cL m a l).2.2 else []
theorem vr (l r:List UInt8): ∀m a,dD m a (l++r)=dD (dD m a l) (a+l.length) r:=by
 induction l with
 |nil=>intro m a;rfl
 |cons b t ih=>intro m a;simp only [List.cons_append,dD,List.length_cons];rw [ih];congr 1;omega
theorem rS (l:List UInt8) (b:UInt8) (m:Int×Nat×List (Int×Nat×Nat)):dD m 0 (l++[b])=b7 (dD m 0 l) l.length (b.toNat:Int):=by
 rw [vr];simp [dD]
theorem zw (n:Int):nB 0 n=false:=by simp [nB]
theorem cg (f a:Nat) (acc:List (Int×Nat×Nat)) (n:Int):b7 (0,f,acc) a n=(aF n,a,acc):=by
 simp [b7,zw]
theorem fK:aF 32=0:=by decide
theorem pV (f f' a:Nat) (acc:List (Int×Nat×Nat)) (l:List UInt8):cL (0,f,acc) a l=cL (0,f',acc) a l:=by
 cases l with
 |nil=>unfold cL;rw [dD,dD,cg,cg]
 |cons b t=>unfold cL;rw [dD,dD,cg,cg]
theorem lz (f a:Nat) (acc:List (Int×Nat×Nat)) (b:UInt8) (t:List UInt8) (h:(b.toNat:Int)=32):cL (0,f,acc) a (b::t)=cL (0,a,acc) (a+1) t:=by
 unfold cL;rw [dD,cg,h,fK,List.length_cons];congr 1;omega
theorem jI (f a:Nat) (acc:List (Int×Nat×Nat)) (n:Int):b7 (11,f,acc) a n=(11,f,acc):=by
 simp [b7,nB,nS]
theorem rT (f:Nat) (acc:List (Int×Nat×Nat)) (l:List UInt8): ∀a,dD (11,f,acc) a l=(11,f,acc):=by
 induction l with
 |nil=>intro a;rfl
 |cons b t ih=>intro a;rw [dD,jI,ih]
def eE:Int→List UInt8→Bool
 |_,[]=>true
 |st,b::t=>nB st (b.toNat:Int)&&eE (nS st (b.toNat:Int)) t
def fin:Int→List UInt8→Int
 |st,[]=>st
 |st,b::t=>fin (nS st (b.toNat:Int)) t
theorem rU (f:Nat) (acc:List (Int×Nat×Nat)) (l:List UInt8): ∀st a,eE st l=true→dD (st,f,acc) a l=(fin st l,f,acc):=by
 induction l with
 |nil=>intro st a _;rfl
 |cons b t ih=>
  intro st a h;simp only [eE,Bool.and_eq_true] at h;rw [dD,fin,b7,if_pos h.1];exact ih _ _ h.2
theorem vs {st:Int} (h:kI st≠0):st≠0∧nB st 32=false:=by
 unfold kI at h
 split at h
 ·rename_i e;subst e;decide
 ·split at h
  ·rename_i e;subst e;decide
  ·split at h
   ·rename_i e;subst e;decide
   ·split at h
    ·rename_i e;rcases e with rfl|rfl<;>decide
    ·exact absurd rfl h
theorem oe (st:Int) (f a:Nat) (acc:List (Int×Nat×Nat)) (n:Int) (hk:kI st≠0) (hb:nB st n=false):b7 (st,f,acc) a n=(aF n,a,acc++[(kI st,f,a)]):=by
 have:=(vs hk).1
 simp [b7,hb,this,hk]
theorem abC (f a:Nat) (acc:List (Int×Nat×Nat)) (b:UInt8) (t r:List UInt8) (h:eE (aF (b.toNat:Int)) t=true) (hk:kI (fin (aF (b.toNat:Int)) t)≠0)
  (hr: ∀c r',r=c::r'→nB (fin (aF (b.toNat:Int)) t) (c.toNat:Int)=false):
  cL (0,f,acc) a (b::(t++r))=cL (0,0,acc++[(kI (fin (aF (b.toNat:Int)) t),a,a+(t.length+1))]) (a+(t.length+1)) r:=by
 unfold cL;rw [dD,cg,vr,rU _ _ _ _ _ h]
 cases r with
 |nil=>
  rw [dD,dD,oe _ _ _ _ _ hk (vs hk).2,cg];simp only [List.append_nil,List.length_cons,List.length_nil,Nat.add_zero]
 |cons c r'=>
  rw [dD,dD,oe _ _ _ _ _ hk (hr c r' rfl),cg];simp only [List.length_cons,aio];rw [show a+1+t.length=a+(t.length+1) by omega,show a+(t.length+(r'.length+1)+1)=a+(t.length+1)+(r'.length+1) by omega]
def gO (p:Int→Bool):List UInt8→Nat
 |[]=>0
 |b::t=>if p (b.toNat:Int)=true then gO p t+1 else 0
def nmI (n:Int):Bool:=dH n||n==46
def nrI (n:Int):Bool:=cP n||n==46
def clo:Bool→List UInt8→Nat
 |false,[]=>0
 |true,[]=>1
 |true,b::t=>clo false t+1
 |false,b::t=>if ((b.toNat:Int)==34)=true then 0 else if ((b.toNat:Int)==92)=true then clo true t+1 else clo false t+1
def two (b c:Int):Bool:=((b==60)&&(c==61))||((b==62)&&(c==61))||((b==61)&&(c==61))||((b==33)&&(c==61))||((b==38)&&(c==38))||((b==124)&&(c==124))
def one (b:Int):Bool:=b==33||b==45||b==42||b==47||b==37||b==43||b==60||b==62||b==63||b==58||b==40||b==41||b==91||b==93||b==44
def fk:List UInt8→Nat
 |[]=>0
 |[b]=>if one (b.toNat:Int)=true then 1 else 0
 |b::c::_=>if two (b.toNat:Int) (c.toNat:Int)=true then 2 else if one (b.toNat:Int)=true then 1 else 0
def fN:List UInt8→Nat
 |[]=>0
 |b::t=>if cA (b.toNat:Int)=true then gO nmI (b::t) else if cP (b.toNat:Int)=true then gO nrI (b::t) else if ((b.toNat:Int)==34)=true then (if clo false t<t.length then clo false t+2 else 0) else fk (b::t)
def fm:List UInt8→Int
 |[]=>0
 |b::t=>if cA (b.toNat:Int)=true then 1 else if cP (b.toNat:Int)=true then 2 else if ((b.toNat:Int)==34)=true then (if clo false t<t.length then 3 else 0) else if fk (b::t)=0 then 0 else 4
theorem zx (p:Int→Bool) (l:List UInt8):gO p l≤l.length:=by
 induction l with
 |nil=>exact ain _
 |cons b t ih=>simp only [gO];split<;>simp [ih]
theorem rV (p:Int→Bool) (st:Int) (h1: ∀n,nB st n=p n) (h2: ∀n,nS st n=st) (l:List UInt8):eE st (l.take (gO p l))=true∧fin st (l.take (gO p l))=st∧ ∀c r',l.drop (gO p l)=c::r'→nB st (c.toNat:Int)=false:=by
 induction l with
 |nil=>simp [gO,eE,fin]
 |cons b t ih=>
  simp only [gO]
  split
  ·rename_i h
   simp only [List.take_succ_cons,eE,fin,h1,h,h2,Bool.true_and,List.drop_succ_cons];simp only [h1] at ih;exact ih
  ·rename_i h
   refine ⟨rfl,rfl,fun c r' e=> ?_⟩;simp only [List.drop_zero,List.cons.injEq] at e;rw [←e.1,h1];exact Bool.eq_false_iff.mpr h
theorem vt (l:List UInt8): ∀fl,(clo fl l<l.length→eE (if fl=true then 4 else 3) (l.take (clo fl l+1))=true∧fin (if fl=true then 4 else 3) (l.take (clo fl l+1))=5)∧
  (¬clo fl l<l.length→eE (if fl=true then 4 else 3) l=true∧(fin (if fl=true then 4 else 3) l=3∨fin (if fl=true then 4 else 3) l=4)):=by
 induction l with
 |nil=>intro fl;cases fl<;>simp [clo,eE,fin]
 |cons b t ih=>
  intro fl
  cases fl with
  |true=>
   have h:=ih false;simp only [if_true,Bool.false_eq_true,if_false] at h⊢;simp only [clo,List.length_cons,List.take_succ_cons,eE,fin,show nB 4 (b.toNat:Int)=true by simp [nB],show nS 4 (b.toNat:Int)=3 by simp [nS],Bool.true_and];exact ⟨fun g=>h.1 (by omega),fun g=>h.2 (by omega)⟩
  |false=>
   simp only [Bool.false_eq_true,if_false]
   have e1:nB 3 (b.toNat:Int)=true:=by simp [nB]
   have e2:nS 3 (b.toNat:Int)=dW (b.toNat:Int):=by simp [nS]
   by_cases h34:((b.toNat:Int)==34)=true
   ·simp only [clo,h34,if_true,List.length_cons,List.take_succ_cons,List.take_zero,eE,fin,e1,e2,dW]
    exact ⟨fun _=>⟨rfl,trivial⟩,fun g=>absurd (by omega) g⟩
   ·by_cases h92:((b.toNat:Int)==92)=true
    ·have h:=ih true
     simp only [if_true] at h;simp only [clo,h34,h92,if_true,Bool.false_eq_true,if_false,List.length_cons,List.take_succ_cons,eE,fin,e1,e2,dW,Bool.true_and];exact ⟨fun g=>h.1 (by omega),fun g=>h.2 (by omega)⟩
    ·have h:=ih false
     simp only [Bool.false_eq_true,if_false] at h;simp only [clo,h34,h92,Bool.false_eq_true,if_false,List.length_cons,List.take_succ_cons,eE,fin,e1,e2,dW,Bool.true_and];exact ⟨fun g=>h.1 (by omega),fun g=>h.2 (by omega)⟩
def TokAt (l:List UInt8) (n:Nat) (k:Int):Prop:=
 ∃b t,l.take n=b::t∧eE (aF (b.toNat:Int)) t=true∧kI (fin (aF (b.toNat:Int)) t)=k∧k≠0∧n≤l.length∧ ∀c r',l.drop n=c::r'→nB (fin (aF (b.toNat:Int)) t) (c.toNat:Int)=false
theorem TokAt.read {l:List UInt8} {n:Nat} {k:Int} (h:TokAt l n k) (f a:Nat) (acc:List (Int×Nat×Nat)):1≤n∧cL (0,f,acc) a l=cL (0,0,acc++[(k,a,a+n)]) (a+n) (l.drop n):=by
 obtain ⟨b,t,ht,hs,hk,hk0,hn,hr⟩:=h
 have hlen:(l.take n).length=n:=by rw [List.length_take];omega
 rw [ht,List.length_cons] at hlen;refine ⟨by omega, ?_⟩
 have hl:l=b::(t++l.drop n):=by rw [←List.cons_append,←ht,List.take_append_drop]
 have e:=abC f a acc b t (l.drop n) hs (by rw [hk];exact hk0) hr;rw [←hl,hk,hlen] at e;exact e
theorem jj {n:Int} (h:cA n=true):aF n=1:=by simp [aF,h]
theorem jk {n:Int} (h:cA n=false) (hd:cP n=true):aF n=2:=by simp [aF,h,hd]
theorem xS (b:UInt8) (t:List UInt8) (h:(b.toNat:Int)≠32) (hk:fm (b::t)≠0):TokAt (b::t) (fN (b::t)) (fm (b::t)):=by
 simp only [fm] at hk;simp only [fN,fm]
 cases hl:cA (b.toNat:Int) with
 |true=>
  simp only [if_true]
  have hm:nmI (b.toNat:Int)=true:=by simp [nmI,dH,hl]
  have g:=rV nmI 1 (fun n=>by simp [nB,nmI]) (fun n=>by simp [nS]) t;simp only [gO,hm,if_true];refine ⟨b,t.take (gO nmI t),rfl, ?_, ?_,by omega,by simp [zx], ?_⟩
  ·rw [jj hl];exact g.1
  ·rw [jj hl,g.2.1];decide
  ·rw [jj hl,g.2.1,List.drop_succ_cons];exact g.2.2
 |false=>
  simp only [hl,Bool.false_eq_true,if_false] at hk⊢
  cases hd:cP (b.toNat:Int) with
  |true=>
   simp only [if_true]
   have hm:nrI (b.toNat:Int)=true:=by simp [nrI,hd]
   have g:=rV nrI 2 (fun n=>by simp [nB,nrI]) (fun n=>by simp [nS]) t;simp only [gO,hm,if_true];refine ⟨b,t.take (gO nrI t),rfl, ?_, ?_,by omega,by simp [zx], ?_⟩
   ·rw [jk hl hd];exact g.1
   ·rw [jk hl hd,g.2.1];decide
   ·rw [jk hl hd,g.2.1,List.drop_succ_cons];exact g.2.2
  |false=>
   simp only [hd,Bool.false_eq_true,if_false] at hk⊢
   by_cases h34:((b.toNat:Int)==34)=true
   ·simp only [h34,if_true] at hk⊢
    have hf:aF (b.toNat:Int)=3:=by rw [beq_iff_eq] at h34;rw [h34];decide
    split at hk
    ·rename_i hc
     simp only [hc,if_true];have g:=(vt t false).1 hc;simp only [Bool.false_eq_true,if_false] at g;refine ⟨b,t.take (clo false t+1),rfl, ?_, ?_,by omega,by simp;omega, ?_⟩
     ·rw [hf];exact g.1
     ·rw [hf,g.2];decide
     ·rw [hf,g.2];intro c r' _;simp [nB]
    ·exact absurd rfl hk
   ·have h34':=Bool.eq_false_iff.mpr h34
    simp only [h34',Bool.false_eq_true,if_false] at hk⊢
    have hs:fk (b::t)≠0:=by intro e;rw [if_pos e] at hk;exact hk rfl
    rw [if_neg hs];generalize hx:(b.toNat:Int)=x at*
    have sgl:one x=true→(∀c r',t=c::r'→two x (c.toNat:Int)=false)→TokAt (b::t) 1 4:=by
     intro h1 h2
     have key:kI (aF x)=4∧ ∀c:UInt8,two x (c.toNat:Int)=false→nB (aF x) (c.toNat:Int)=false:=by
      simp only [one,Bool.or_eq_true,beq_iff_eq] at h1
      rcases h1 with ((((((((((((((e|e)|e)|e)|e)|e)|e)|e)|e)|e)|e)|e)|e)|e)|e)<;>subst e<;>refine ⟨by decide,fun c hc=> ?_⟩<;>simp_all [two,nB,aF,cA,cP,ad1,vo]
     refine ⟨b,[],rfl,rfl,by rw [hx];exact key.1,by omega,by simp,fun c r' e=> ?_⟩;rw [hx];exact key.2 c (h2 c r' (by simpa using e))
    cases t with
    |nil=>
     simp only [fk,hx] at hs⊢
     split at hs
     ·rename_i h1;rw [if_pos h1];exact sgl h1 (by intro c r' e;cases e)
     ·exact absurd rfl hs
    |cons c r=>
     simp only [fk,hx] at hs⊢
     by_cases h2:two x (c.toNat:Int)=true
     ·rw [if_pos h2]
      have key:nB (aF x) (c.toNat:Int)=true∧nS (aF x) (c.toNat:Int)=10:=by
       simp only [two,Bool.or_eq_true,Bool.and_eq_true,beq_iff_eq] at h2
       rcases h2 with (((((⟨e,g⟩|⟨e,g⟩)|⟨e,g⟩)|⟨e,g⟩)|⟨e,g⟩)|⟨e,g⟩)<;>rw [e,g]<;>decide
      refine ⟨b,[c],rfl, ?_, ?_,by omega,by simp,fun d r' _=> ?_⟩
      ·rw [hx];simp [eE,key.1]
      ·rw [hx];simp only [fin,key.2];decide
      ·rw [hx];simp only [fin,key.2];simp [nB]
     ·rw [if_neg h2] at hs⊢
      split at hs
      ·rename_i h1;rw [if_pos h1]
       refine sgl h1 ?_
       intro c' r' e;cases e;exact Bool.eq_false_iff.mpr h2
      ·exact absurd rfl hs
theorem zy (f a : Nat) (acc : List (Int × Nat × Nat)) (b : UInt8) (t : List UInt8) (h : (b.toNat : Int) ≠ 32) (hk : fm (b :: t) = 0) : (cL (0, f, acc) a (b :: t)).1 ≠ 0 := by
  simp only [fm] at hk
  cases hl : cA (b.toNat : Int) with
  | true => simp [hl] at hk
  | false =>
    simp only [hl, Bool.false_eq_true, if_false] at hk
    cases hd : cP (b.toNat : Int) with
    | true => simp [hd] at hk
    | false =>
      simp only [hd, Bool.false_eq_true, if_false] at hk
      by_cases h34 : ((b.toNat : Int) == 34) = true
      · have hf : aF (b.toNat : Int) = 3 := by rw [beq_iff_eq] at h34; rw [h34]; decide
        simp only [h34, if_true] at hk
        split at hk
        · omega
        · rename_i hc
          have g := (vt t false).2 hc;simp only [Bool.false_eq_true, if_false] at g;unfold cL;rw [dD, cg, hf, rU _ _ _ _ _ g.1]
          rcases g.2 with e | e <;> rw [e] <;> simp [b7, nB, nS, dW]
      · have h34' := Bool.eq_false_iff.mpr h34
        simp only [h34', Bool.false_eq_true, if_false] at hk
        have hs : fk (b :: t) = 0 := by
          by_cases e : fk (b :: t) = 0
          · exact e
          · rw [if_neg e] at hk; omega
        have hone : one (b.toNat : Int) = false := by
          cases t with
          | nil => simp only [fk] at hs; by_cases e : one (b.toNat : Int) = true
                   · rw [if_pos e] at hs; omega
                   · exact Bool.eq_false_iff.mpr e
          | cons c r => simp only [fk] at hs; split at hs
                        · omega
                        · by_cases e : one (b.toNat : Int) = true
                          · rw [if_pos e] at hs; omega
                          · exact Bool.eq_false_iff.mpr e
        have stop : ∀ (st : Int) (g : Nat), st ≠ 0 → kI st = 0 → nB st 32 = false → (∀ c r', t = c :: r' → nB st (c.toNat : Int) = false) → aF (b.toNat : Int) = st → (cL (0, f, acc) a (b :: t)).1 ≠ 0 := by
          intro st g h1 h2 h3 h4 h5;unfold cL;rw [dD, cg, h5]
          cases t with
          | nil => rw [dD]; simp [b7, h1, h2, h3]
          | cons c r =>
            rw [dD, show b7 (st, a, acc) (a + 1) (c.toNat : Int) = (11, a, acc) by simp [b7, h1, h2, h4 c r rfl], rT, jI]
            simp
        have h2 : ∀ c r', t = c :: r' → two (b.toNat : Int) (c.toNat : Int) = false := by
          intro c r' e; subst e;simp only [fk] at hs
          by_cases e : two (b.toNat : Int) (c.toNat : Int) = true
          · rw [if_pos e] at hs; omega
          · exact Bool.eq_false_iff.mpr e
        have h32 : ((b.toNat : Int) == 32) = false := by simpa using h
        by_cases e61 : ((b.toNat : Int) == 61) = true
        · refine stop 7 0 (by omega) (by decide) (by decide) (fun c r' e => ?_) (by rw [beq_iff_eq] at e61; rw [e61]; decide)
          have := h2 c r' e;rw [beq_iff_eq] at e61;rw [e61] at this
          simp [two] at this
          simp [nB]; omega
        by_cases e38 : ((b.toNat : Int) == 38) = true
        · refine stop 8 0 (by omega) (by decide) (by decide) (fun c r' e => ?_) (by rw [beq_iff_eq] at e38; rw [e38]; decide)
          have := h2 c r' e;rw [beq_iff_eq] at e38;rw [e38] at this
          simp [two] at this
          simp [nB]; omega
        by_cases e124 : ((b.toNat : Int) == 124) = true
        · refine stop 9 0 (by omega) (by decide) (by decide) (fun c r' e => ?_) (by rw [beq_iff_eq] at e124; rw [e124]; decide)
          have := h2 c r' e;rw [beq_iff_eq] at e124;rw [e124] at this
          simp [two] at this
          simp [nB]; omega
        · have hf : aF (b.toNat : Int) = 11 := by
            have g1 : ad1 (b.toNat : Int) = false := by simp_all [one, ad1]
            have g2 : vo (b.toNat : Int) = false := by simp_all [one, vo]
            simp only [aF, hl, hd, h32, h34', g1, g2, Bool.eq_false_iff.mpr e61, Bool.eq_false_iff.mpr e38, Bool.eq_false_iff.mpr e124, Bool.false_eq_true, if_false]
          unfold cL;rw [dD, cg, hf, rT, jI]
          simp
open Go.RowKit
theorem kF (n:Int) (w:World) (h0:0≤n) (h1:n≤255):
  Calls Tryz.prog 208 #[.int .u8 n] w fun e w'=>e= .returned (.int .i64 (aF n))∧w=w':=by
 cases hl:cA n with
 |true=>
  have HL:=aim hl;rw [show aF n=1 by simp [aF,hl]];clear hl
  go_enter Tryz.func208,Tryz.ntmps208
  go_wp2_with fail;refine (aA _ _ (by omega) (by omega)).mono ?_;rintro e w' ⟨rfl,rfl⟩;rw [HL.out];go_wp2;go_ret;exact ⟨rfl,rfl⟩
 |false=>
  have HL:=aim hl
  cases hd:cP n with
  |true=>
   have HD:=aim hd;rw [show aF n=2 by simp [aF,hl,hd]];clear hl hd
   go_enter Tryz.func208,Tryz.ntmps208
   go_wp2_with fail;refine (aA _ _ (by omega) (by omega)).mono ?_;rintro e w' ⟨rfl,rfl⟩;rw [HL.out];go_wp2_with fail;refine (bc _ _ (by omega) (by omega)).mono ?_;rintro e w' ⟨rfl,rfl⟩;rw [HD.out];go_wp2;go_ret;exact ⟨rfl,rfl⟩
  |false=>
   have HD:=aim hd
   by_cases e32:n=32
   ·subst e32;rw [show aF 32=0 by decide];clear hl hd
    go_enter Tryz.func208,Tryz.ntmps208
    go_wp2_with fail;refine (aA _ _ (by omega) (by omega)).mono ?_;rintro e w' ⟨rfl,rfl⟩;rw [HL.out];go_wp2_with fail;refine (bc _ _ (by omega) (by omega)).mono ?_;rintro e w' ⟨rfl,rfl⟩;rw [HD.out];go_wp2;go_ret;exact ⟨rfl,rfl⟩
   have z32:(n==32)=false:=beq_eq_false_iff_ne.mpr e32;clear e32
   by_cases e34:n=34
   ·subst e34;rw [show aF 34=3 by decide];clear hl hd
    go_enter Tryz.func208,Tryz.ntmps208
    go_wp2_with fail;refine (aA _ _ (by omega) (by omega)).mono ?_;rintro e w' ⟨rfl,rfl⟩;rw [HL.out];go_wp2_with fail;refine (bc _ _ (by omega) (by omega)).mono ?_;rintro e w' ⟨rfl,rfl⟩;rw [HD.out];go_wp2;go_ret;exact ⟨rfl,rfl⟩
   have z34:(n==34)=false:=beq_eq_false_iff_ne.mpr e34;clear e34
   by_cases e60:n=60
   ·subst e60;rw [show aF 60=6 by decide];clear hl hd
    go_enter Tryz.func208,Tryz.ntmps208
    go_wp2_with fail;refine (aA _ _ (by omega) (by omega)).mono ?_;rintro e w' ⟨rfl,rfl⟩;rw [HL.out];go_wp2_with fail;refine (bc _ _ (by omega) (by omega)).mono ?_;rintro e w' ⟨rfl,rfl⟩;rw [HD.out];go_wp2;go_ret;exact ⟨rfl,rfl⟩
   have z60:(n==60)=false:=beq_eq_false_iff_ne.mpr e60;clear e60
   by_cases e62:n=62
   ·subst e62;rw [show aF 62=6 by decide];clear hl hd
    go_enter Tryz.func208,Tryz.ntmps208
    go_wp2_with fail;refine (aA _ _ (by omega) (by omega)).mono ?_;rintro e w' ⟨rfl,rfl⟩;rw [HL.out];go_wp2_with fail;refine (bc _ _ (by omega) (by omega)).mono ?_;rintro e w' ⟨rfl,rfl⟩;rw [HD.out];go_wp2;go_ret;exact ⟨rfl,rfl⟩
   have z62:(n==62)=false:=beq_eq_false_iff_ne.mpr e62;clear e62
   by_cases e33:n=33
   ·subst e33;rw [show aF 33=6 by decide];clear hl hd
    go_enter Tryz.func208,Tryz.ntmps208
    go_wp2_with fail;refine (aA _ _ (by omega) (by omega)).mono ?_;rintro e w' ⟨rfl,rfl⟩;rw [HL.out];go_wp2_with fail;refine (bc _ _ (by omega) (by omega)).mono ?_;rintro e w' ⟨rfl,rfl⟩;rw [HD.out];go_wp2;go_ret;exact ⟨rfl,rfl⟩
   have z33:(n==33)=false:=beq_eq_false_iff_ne.mpr e33;clear e33
   by_cases e61:n=61
   ·subst e61;rw [show aF 61=7 by decide];clear hl hd
    go_enter Tryz.func208,Tryz.ntmps208
    go_wp2_with fail;refine (aA _ _ (by omega) (by omega)).mono ?_;rintro e w' ⟨rfl,rfl⟩;rw [HL.out];go_wp2_with fail;refine (bc _ _ (by omega) (by omega)).mono ?_;rintro e w' ⟨rfl,rfl⟩;rw [HD.out];go_wp2;go_ret;exact ⟨rfl,rfl⟩
   have z61:(n==61)=false:=beq_eq_false_iff_ne.mpr e61;clear e61
   by_cases e38:n=38
   ·subst e38;rw [show aF 38=8 by decide];clear hl hd
    go_enter Tryz.func208,Tryz.ntmps208
    go_wp2_with fail;refine (aA _ _ (by omega) (by omega)).mono ?_;rintro e w' ⟨rfl,rfl⟩;rw [HL.out];go_wp2_with fail;refine (bc _ _ (by omega) (by omega)).mono ?_;rintro e w' ⟨rfl,rfl⟩;rw [HD.out];go_wp2;go_ret;exact ⟨rfl,rfl⟩
   have z38:(n==38)=false:=beq_eq_false_iff_ne.mpr e38;clear e38
   by_cases e124:n=124
   ·subst e124;rw [show aF 124=9 by decide];clear hl hd
    go_enter Tryz.func208,Tryz.ntmps208
    go_wp2_with fail;refine (aA _ _ (by omega) (by omega)).mono ?_;rintro e w' ⟨rfl,rfl⟩;rw [HL.out];go_wp2_with fail;refine (bc _ _ (by omega) (by omega)).mono ?_;rintro e w' ⟨rfl,rfl⟩;rw [HD.out];go_wp2;go_ret;exact ⟨rfl,rfl⟩
   have z124:(n==124)=false:=beq_eq_false_iff_ne.mpr e124;clear e124
   by_cases e45:n=45
   ·subst e45;rw [show aF 45=10 by decide];clear hl hd
    go_enter Tryz.func208,Tryz.ntmps208
    go_wp2_with fail;refine (aA _ _ (by omega) (by omega)).mono ?_;rintro e w' ⟨rfl,rfl⟩;rw [HL.out];go_wp2_with fail;refine (bc _ _ (by omega) (by omega)).mono ?_;rintro e w' ⟨rfl,rfl⟩;rw [HD.out];go_wp2;go_ret;exact ⟨rfl,rfl⟩
   have z45:(n==45)=false:=beq_eq_false_iff_ne.mpr e45;clear e45
   by_cases e42:n=42
   ·subst e42;rw [show aF 42=10 by decide];clear hl hd
    go_enter Tryz.func208,Tryz.ntmps208
    go_wp2_with fail;refine (aA _ _ (by omega) (by omega)).mono ?_;rintro e w' ⟨rfl,rfl⟩;rw [HL.out];go_wp2_with fail;refine (bc _ _ (by omega) (by omega)).mono ?_;rintro e w' ⟨rfl,rfl⟩;rw [HD.out];go_wp2;go_ret;exact ⟨rfl,rfl⟩
   have z42:(n==42)=false:=beq_eq_false_iff_ne.mpr e42;clear e42
   by_cases e47:n=47
   ·subst e47;rw [show aF 47=10 by decide];clear hl hd
    go_enter Tryz.func208,Tryz.ntmps208
    go_wp2_with fail;refine (aA _ _ (by omega) (by omega)).mono ?_;rintro e w' ⟨rfl,rfl⟩;rw [HL.out];go_wp2_with fail;refine (bc _ _ (by omega) (by omega)).mono ?_;rintro e w' ⟨rfl,rfl⟩;rw [HD.out];go_wp2;go_ret;exact ⟨rfl,rfl⟩
   have z47:(n==47)=false:=beq_eq_false_iff_ne.mpr e47;clear e47
   by_cases e37:n=37
   ·subst e37;rw [show aF 37=10 by decide];clear hl hd
    go_enter Tryz.func208,Tryz.ntmps208
    go_wp2_with fail;refine (aA _ _ (by omega) (by omega)).mono ?_;rintro e w' ⟨rfl,rfl⟩;rw [HL.out];go_wp2_with fail;refine (bc _ _ (by omega) (by omega)).mono ?_;rintro e w' ⟨rfl,rfl⟩;rw [HD.out];go_wp2;go_ret;exact ⟨rfl,rfl⟩
   have z37:(n==37)=false:=beq_eq_false_iff_ne.mpr e37;clear e37
   by_cases e43:n=43
   ·subst e43;rw [show aF 43=10 by decide];clear hl hd
    go_enter Tryz.func208,Tryz.ntmps208
    go_wp2_with fail;refine (aA _ _ (by omega) (by omega)).mono ?_;rintro e w' ⟨rfl,rfl⟩;rw [HL.out];go_wp2_with fail;refine (bc _ _ (by omega) (by omega)).mono ?_;rintro e w' ⟨rfl,rfl⟩;rw [HD.out];go_wp2;go_ret;exact ⟨rfl,rfl⟩
   have z43:(n==43)=false:=beq_eq_false_iff_ne.mpr e43;clear e43
   by_cases e63:n=63
   ·subst e63;rw [show aF 63=10 by decide];clear hl hd
    go_enter Tryz.func208,Tryz.ntmps208
    go_wp2_with fail;refine (aA _ _ (by omega) (by omega)).mono ?_;rintro e w' ⟨rfl,rfl⟩;rw [HL.out];go_wp2_with fail;refine (bc _ _ (by omega) (by omega)).mono ?_;rintro e w' ⟨rfl,rfl⟩;rw [HD.out];go_wp2;go_ret;exact ⟨rfl,rfl⟩
   have z63:(n==63)=false:=beq_eq_false_iff_ne.mpr e63;clear e63
   by_cases e58:n=58
   ·subst e58;rw [show aF 58=10 by decide];clear hl hd
    go_enter Tryz.func208,Tryz.ntmps208
    go_wp2_with fail;refine (aA _ _ (by omega) (by omega)).mono ?_;rintro e w' ⟨rfl,rfl⟩;rw [HL.out];go_wp2_with fail;refine (bc _ _ (by omega) (by omega)).mono ?_;rintro e w' ⟨rfl,rfl⟩;rw [HD.out];go_wp2;go_ret;exact ⟨rfl,rfl⟩
   have z58:(n==58)=false:=beq_eq_false_iff_ne.mpr e58;clear e58
   by_cases e40:n=40
   ·subst e40;rw [show aF 40=10 by decide];clear hl hd
    go_enter Tryz.func208,Tryz.ntmps208
    go_wp2_with fail;refine (aA _ _ (by omega) (by omega)).mono ?_;rintro e w' ⟨rfl,rfl⟩;rw [HL.out];go_wp2_with fail;refine (bc _ _ (by omega) (by omega)).mono ?_;rintro e w' ⟨rfl,rfl⟩;rw [HD.out];go_wp2;go_ret;exact ⟨rfl,rfl⟩
   have z40:(n==40)=false:=beq_eq_false_iff_ne.mpr e40;clear e40
   by_cases e41:n=41
   ·subst e41;rw [show aF 41=10 by decide];clear hl hd
    go_enter Tryz.func208,Tryz.ntmps208
    go_wp2_with fail;refine (aA _ _ (by omega) (by omega)).mono ?_;rintro e w' ⟨rfl,rfl⟩;rw [HL.out];go_wp2_with fail;refine (bc _ _ (by omega) (by omega)).mono ?_;rintro e w' ⟨rfl,rfl⟩;rw [HD.out];go_wp2;go_ret;exact ⟨rfl,rfl⟩
   have z41:(n==41)=false:=beq_eq_false_iff_ne.mpr e41;clear e41
   by_cases e91:n=91
   ·subst e91;rw [show aF 91=10 by decide];clear hl hd
    go_enter Tryz.func208,Tryz.ntmps208
    go_wp2_with fail;refine (aA _ _ (by omega) (by omega)).mono ?_;rintro e w' ⟨rfl,rfl⟩;rw [HL.out];go_wp2_with fail;refine (bc _ _ (by omega) (by omega)).mono ?_;rintro e w' ⟨rfl,rfl⟩;rw [HD.out];go_wp2;go_ret;exact ⟨rfl,rfl⟩
   have z91:(n==91)=false:=beq_eq_false_iff_ne.mpr e91;clear e91
   by_cases e93:n=93
   ·subst e93;rw [show aF 93=10 by decide];clear hl hd
    go_enter Tryz.func208,Tryz.ntmps208
    go_wp2_with fail;refine (aA _ _ (by omega) (by omega)).mono ?_;rintro e w' ⟨rfl,rfl⟩;rw [HL.out];go_wp2_with fail;refine (bc _ _ (by omega) (by omega)).mono ?_;rintro e w' ⟨rfl,rfl⟩;rw [HD.out];go_wp2;go_ret;exact ⟨rfl,rfl⟩
   have z93:(n==93)=false:=beq_eq_false_iff_ne.mpr e93;clear e93
   by_cases e44:n=44
   ·subst e44;rw [show aF 44=10 by decide];clear hl hd
    go_enter Tryz.func208,Tryz.ntmps208
    go_wp2_with fail;refine (aA _ _ (by omega) (by omega)).mono ?_;rintro e w' ⟨rfl,rfl⟩;rw [HL.out];go_wp2_with fail;refine (bc _ _ (by omega) (by omega)).mono ?_;rintro e w' ⟨rfl,rfl⟩;rw [HD.out];go_wp2;go_ret;exact ⟨rfl,rfl⟩
   have z44:(n==44)=false:=beq_eq_false_iff_ne.mpr e44;clear e44
   have hf:aF n=11:=by simp only [aF,ad1,vo,hl,hd,z32,z34,z60,z62,z33,z61,z38,z124,z45,z42,z47,z37,z43,z63,z58,z40,z41,z91,z93,z44,Bool.or_self,Bool.false_eq_true,if_false]
   rw [hf];clear hf hl hd
   go_enter Tryz.func208,Tryz.ntmps208
   go_wp2_with fail;refine (aA _ _ (by omega) (by omega)).mono ?_;rintro e w' ⟨rfl,rfl⟩;rw [HL.out];go_wp2_with fail;refine (bc _ _ (by omega) (by omega)).mono ?_;rintro e w' ⟨rfl,rfl⟩;rw [HD.out];go_wp2;go_ret;exact ⟨rfl,rfl⟩
theorem oP (n:Int) (w:World):
  Calls Tryz.prog 217 #[.int .u8 n] w fun e w'=>e= .returned (.int .i64 (dW n))∧w=w':=by
 by_cases e34:n=34
 ·subst e34;rw [show dW 34=5 by decide]
  go_enter Tryz.func217,Tryz.ntmps217
  go_wp2;go_ret;exact ⟨rfl,rfl⟩
 by_cases e92:n=92
 ·subst e92;rw [show dW 92=4 by decide]
  go_enter Tryz.func217,Tryz.ntmps217
  go_wp2;go_ret;exact ⟨rfl,rfl⟩
 have z1:(n==34)=false:=beq_eq_false_iff_ne.mpr e34;have z2:(n==92)=false:=beq_eq_false_iff_ne.mpr e92
 have hf:dW n=3:=by simp only [dW,z1,z2,Bool.false_eq_true,if_false]
 rw [hf];clear hf e34 e92
 go_enter Tryz.func217,Tryz.ntmps217
 go_wp2;go_ret;exact ⟨rfl,rfl⟩
theorem vu {st:Int} (h0:0≤st) (h1:st≤11):st=0∨st=1∨st=2∨st=3∨st=4∨st=5∨st=6∨st=7∨st=8∨st=9∨st=10∨st=11:=by omega
theorem vw (st:Int) (w:World) (h0:0≤st) (h1:st≤11):
  Calls Tryz.prog 218 #[.int .i64 st] w fun e w'=>e= .returned (.int .i64 (kI st))∧w=w':=by
 rcases vu h0 h1 with rfl|rfl|rfl|rfl|rfl|rfl|rfl|rfl|rfl|rfl|rfl|rfl
 all_goals
  clear h0 h1
  go_enter Tryz.func218,Tryz.ntmps218
  go_wp2;go_ret;exact ⟨rfl,rfl⟩
theorem m6 (st n:Int) (w:World) (h0:0≤st) (h1:st≤11) (hn0:0≤n) (hn1:n≤255):
  Calls Tryz.prog 206 #[.int .i64 st, .int .u8 n] w fun e w'=>e= .returned (.tuple #[.int .i64 (nS st n), .bool (nB st n)])∧w=w':=by
 rcases vu h0 h1 with rfl|rfl|rfl|rfl|rfl|rfl|rfl|rfl|rfl|rfl|rfl|rfl
 ·clear h0 h1
  go_enter Tryz.func206,Tryz.ntmps206
  go_wp2;go_ret2;exact ⟨rfl,rfl⟩
 ·clear h0 h1
  rw [show nS 1 n=1 from rfl,show nB 1 n=(dH n||n==46) from rfl]
  cases hp:dH n with
  |true=>
   have HP:=aim hp;clear hp
   go_enter Tryz.func206,Tryz.ntmps206
   go_wp2_with fail;refine (fa n _ hn0 hn1).mono ?_;rintro e w' ⟨rfl,rfl⟩;rw [HP.out];go_wp2;go_ret2;exact ⟨rfl,rfl⟩
  |false=>
   have HP:=aim hp;clear hp
   go_enter Tryz.func206,Tryz.ntmps206
   go_wp2_with fail;refine (fa n _ hn0 hn1).mono ?_;rintro e w' ⟨rfl,rfl⟩;rw [HP.out];go_wp2;go_ret2;exact ⟨rfl,rfl⟩
 ·clear h0 h1
  rw [show nS 2 n=2 from rfl,show nB 2 n=(cP n||n==46) from rfl]
  cases hp:cP n with
  |true=>
   have HP:=aim hp;clear hp
   go_enter Tryz.func206,Tryz.ntmps206
   go_wp2_with fail;refine (bc n _ hn0 hn1).mono ?_;rintro e w' ⟨rfl,rfl⟩;rw [HP.out];go_wp2;go_ret2;exact ⟨rfl,rfl⟩
  |false=>
   have HP:=aim hp;clear hp
   go_enter Tryz.func206,Tryz.ntmps206
   go_wp2_with fail;refine (bc n _ hn0 hn1).mono ?_;rintro e w' ⟨rfl,rfl⟩;rw [HP.out];go_wp2;go_ret2;exact ⟨rfl,rfl⟩
 ·clear h0 h1
  rw [show nS 3 n=dW n from rfl,show nB 3 n=true from rfl]
  go_enter Tryz.func206,Tryz.ntmps206
  go_wp2_with fail;refine (oP n _).mono ?_;rintro e w' ⟨rfl,rfl⟩;go_wp2;go_ret2;exact ⟨rfl,rfl⟩
 ·clear h0 h1
  go_enter Tryz.func206,Tryz.ntmps206
  go_wp2;go_ret2;exact ⟨rfl,rfl⟩
 ·clear h0 h1
  go_enter Tryz.func206,Tryz.ntmps206
  go_wp2;go_ret2;exact ⟨rfl,rfl⟩
 ·clear h0 h1
  go_enter Tryz.func206,Tryz.ntmps206
  go_wp2;go_ret2;exact ⟨rfl,rfl⟩
 ·clear h0 h1
  go_enter Tryz.func206,Tryz.ntmps206
  go_wp2;go_ret2;exact ⟨rfl,rfl⟩
 ·clear h0 h1
  go_enter Tryz.func206,Tryz.ntmps206
  go_wp2;go_ret2;exact ⟨rfl,rfl⟩
 ·clear h0 h1
  go_enter Tryz.func206,Tryz.ntmps206
  go_wp2;go_ret2;exact ⟨rfl,rfl⟩
 ·clear h0 h1
  go_enter Tryz.func206,Tryz.ntmps206
  go_wp2;go_ret2;exact ⟨rfl,rfl⟩
 ·clear h0 h1
  go_enter Tryz.func206,Tryz.ntmps206
  go_wp2;go_ret2;exact ⟨rfl,rfl⟩
def BlkM (w:World) (g:Nat) (t:TypeId) (cs:Array Value):Prop:=w.heap[g]? =some (.cells cs t (0,0))
section
variable {w w':World} {g:Nat} {t:TypeId} {cs:Array Value}
theorem BlkM.lt (h:BlkM w g t cs):g<w.heap.size:=by
 rcases Nat.lt_or_ge g w.heap.size with hlt|hge
 ·exact hlt
 ·unfold BlkM at h;rw [Array.getElem?_eq_none hge] at h;cases h
theorem BlkM.cell (h:BlkM w g t cs) (i:Nat):w.cell? ⟨g,i,none⟩=cs[i]? :=cell_of_row w g i cs t (0,0) h
theorem BlkM.frozen (h:BlkM w g t cs) (i:Nat):w.frozen? ⟨g,i,none⟩=false:=by
 unfold BlkM at h
 simp [World.frozen?,h]
theorem BlkM.new (w:World) (t:TypeId) (cs:Array Value):BlkM (w.alloc (.cells cs t)) w.heap.size t cs:=heap_alloc_new w _
theorem BlkM.drew (h:BlkM w g t cs):BlkM w.drew g t cs:=h
theorem BlkM.alloc (h:BlkM w g t cs) (o:Obj):BlkM (w.alloc o) g t cs:=(Below.heap_alloc w o g h.lt).trans h
theorem BlkM.set_ (h:BlkM w g t cs) (i:Nat) (u:Value):BlkM (w.setCell ⟨g,i,none⟩ u) g t (cs.setIfInBounds i u):=by
 unfold BlkM at h⊢
 simp [World.setCell,Array.getElem?_modify,h]
theorem BlkM.grown {row:Option Nat} (h:BlkM w g t cs) (hb:w.grownBy w' row) (hg:some g≠row):BlkM w' g t cs:=(hb.block g h.lt hg).trans h
theorem iT {base:Nat} {e:TypeId} {size n:Nat} {v:Value} {xs:List Value} (h:w.ownsRow base e size v n xs) (hg:BlkM w g t cs) (hne:e≠t):v.ownBlock≠some g:=by
 rcases h.2 with ⟨rfl,_⟩|⟨g',cap,cur,rfl,_,hh,_⟩
 ·simp [Value.ownBlock]
 ·intro he
  have:g'=g:=by simpa [Value.ownBlock] using he
  subst this;unfold BlkM at hg;rw [hh] at hg
  injection hg with hg
  injection hg with _ ht
  exact hne ht
end
def jl (l:List (Int×Nat×Nat)):List Value:=l.flatMap fun t=>[.int .i64 t.1, .int .i64 (t.2.1:Int), .int .i64 (t.2.2:Int)]
theorem pW (l:List (Int×Nat×Nat)) (k:Int) (f t:Nat):jl (l++[(k,f,t)])=jl l++[.int .i64 k, .int .i64 (f:Int), .int .i64 (t:Int)]:=by simp [jl]
def Mach (B:Nat) (w:World) (M:Nat) (m:Int×Nat×List (Int×Nat×Nat)):Prop:=
 ∃v,BlkM w M 220 #[.int .i64 m.1, .int .i64 (m.2.1:Int),v]∧w.ownsRow B 137 3 v m.2.2.length (jl m.2.2)∧B≤M
theorem zz:(Tryz.prog.info? 137).map (fun i=>(i.zero,i.size,i.bytes))=some (some (.agg #[.int .i64 0, .int .i64 0, .int .i64 0]),3,24):=by kernel_rfl
theorem Mach.lt {B M:Nat} {w:World} {m:Int×Nat×List (Int×Nat×Nat)} (h:Mach B w M m):B≤M∧M<w.heap.size:=by
 obtain ⟨v,h1,h2,h3⟩:=h;exact ⟨h3,h1.lt⟩
theorem Mach.cells {B M:Nat} {w:World} {st:Int} {f:Nat} {acc:List (Int×Nat×Nat)} (h:Mach B w M (st,f,acc)):w.cell? ⟨M,0,none⟩=some (.int .i64 st)∧w.frozen? ⟨M,0,none⟩=false∧w.cell? ⟨M,1,none⟩=some (.int .i64 (f:Int))∧w.frozen? ⟨M,1,none⟩=false:=by
 obtain ⟨v,h1,h2,h3⟩:=h;exact ⟨h1.cell 0,h1.frozen 0,h1.cell 1,h1.frozen 1⟩
theorem Mach.set0 {B M:Nat} {w:World} {st:Int} {f:Nat} {acc:List (Int×Nat×Nat)} (h:Mach B w M (st,f,acc)) (x:Int):Mach B (w.setCell ⟨M,0,none⟩ (.int .i64 x)) M (x,f,acc):=by
 obtain ⟨v,h1,h2,h3⟩:=h;refine ⟨v,h1.set_ 0 _, ?_,h3⟩;refine h2.kept (row:=some M) ⟨rfl,rfl,rfl,by simp [World.setCell],fun k _ hn=>Below.heap_setCell _ _ _ _ (fun e=>hn (by simp [e]))⟩ (.inr ?_);exact iT h2 h1 (by decide)
theorem Mach.set1 {B M:Nat} {w:World} {st:Int} {f:Nat} {acc:List (Int×Nat×Nat)} (h:Mach B w M (st,f,acc)) (x:Nat):Mach B (w.setCell ⟨M,1,none⟩ (.int .i64 (x:Int))) M (st,x,acc):=by
 obtain ⟨v,h1,h2,h3⟩:=h;refine ⟨v,h1.set_ 1 _, ?_,h3⟩;refine h2.kept (row:=some M) ⟨rfl,rfl,rfl,by simp [World.setCell],fun k _ hn=>Below.heap_setCell _ _ _ _ (fun e=>hn (by simp [e]))⟩ (.inr ?_);exact iT h2 h1 (by decide)
theorem ahn (B M at0 f:Nat) (st:Int) (acc:List (Int×Nat×Nat)) (w:World) (h:Mach B w M (st,f,acc)) (h0:0≤st) (h1:st≤11) (hk:kI st=0):
  Calls Tryz.prog 207 #[.pointer (some ⟨M,0,none⟩), .int .i64 (at0:Int)] w fun e w'=>e= .returned (.bool false)∧w=w':=by
 obtain ⟨c0,f0,c1,f1⟩:=h.cells;have HK:=aim hk;clear hk
 go_enter Tryz.func207,Tryz.ntmps207
 go_wp2_with fail;refine (vw st _ h0 h1).mono ?_;rintro e w' ⟨rfl,rfl⟩;rw [HK.out];go_wp2;go_ret;exact ⟨rfl,rfl⟩
theorem afQ (B M at0 f : Nat) (st : Int) (acc : List (Int × Nat × Nat)) (w : World) (h : Mach B w M (st, f, acc)) (h0 : 0 ≤ st) (h1 : st ≤ 11) (hk : kI st ≠ 0) (hlen : acc.length ≤ 100000) :
    Calls Tryz.prog 207 #[.pointer (some ⟨M, 0, none⟩), .int .i64 (at0 : Int)] w fun e w' => e = .returned (.bool true) ∧ Mach B w' M (st, f, acc ++ [(kI st, f, at0)]) ∧ Below B w w' := by
  obtain ⟨i0, hi, hz0, hz1, hz2⟩ := info_parts zz;obtain ⟨v, hb, hown, hBM⟩ := h;have c0 : w.cell? ⟨M, 0, none⟩ = some (.int .i64 st) := hb.cell 0;have c1 : w.cell? ⟨M, 1, none⟩ = some (.int .i64 (f : Int)) := hb.cell 1;have c2 : w.cell? ⟨M, 2, none⟩ = some v := hb.cell 2;have f2 : w.frozen? ⟨M, 2, none⟩ = false := hb.frozen 2;have hM := hb.lt;have NE := aim (iT hown hb (by decide));have HBK := aim hb; clear hb;have hkz : (kI st == 0) = false := beq_eq_false_iff_ne.mpr hk;clear hk
  obtain ⟨av, cv, hv⟩ : ∃ a c, v = .slice a acc.length c := by
    rcases hown.2 with ⟨rfl, h0⟩ | ⟨g', cap, cur, rfl, _⟩
    · exact ⟨none, 0, by rw [h0]⟩
    · exact ⟨_, _, rfl⟩
  subst hv
  go_enter Tryz.func207, Tryz.ntmps207
  go_wp2_with fail;refine (vw st _ h0 h1).mono ?_;rintro e w' ⟨rfl, rfl⟩;generalize hkk : kI st = kk at *;have HKK := aim hkk; clear hkk;go_wp2_with fail
  go_region_law
    ((refine step_append_lies _ (by rfl) _ _ _ (by rfl) B 137 i0 _ 3 24 Tryz.underlying131 hi hz0 hz1 hz2 rfl (by omega) (.slice av acc.length cv) acc.length _ (by rfl) ((hown.alloc _).drew)
        ⟨w.heap.size, 0, none⟩ 1 1 [.int .i64 kk, .int .i64 (f : Int), .int .i64 (at0 : Int)] (by rfl) (by rfl) (World.news_of_block (cs := #[.int .i64 kk, .int .i64 (f : Int), .int .i64 (at0 : Int)]) (t := 137) (fr := (0, 0)) (heap_alloc_new w _)) (by simp [Value.oneCell'])
        (by omega) (by unfold maxLen; omega) (by omega) (by simp; omega) (w.heap.size + 1) (by simp) ?_; intro gg cap' w2 hown' hgrow hat hlt'; have hfz : w2.frozen? ⟨M, 2, none⟩ = false := ((hgrow.frozen_far _ (by simp; omega) (fun hq => NE.out hq.symm)).trans (((aip w _ none).frozen_far ⟨M, 2, none⟩ hM (by simp)).trans f2)); have hc2 : w2.cell? ⟨M, 2, none⟩ = some (.slice av acc.length cv) := ((hgrow.cell_far _ (by simp; omega) (fun hq => NE.out hq.symm)).trans (((aip w _ none).cell_far ⟨M, 2, none⟩ hM (by simp)).trans c2))))
  all_goals
    have K2 := aim (BlkM.grown ((HBK.out.alloc _).drew) hgrow (fun hq => NE.out hq.symm));have HO := aim hown'; have HG := aim hgrow;clear hown' hgrow hat;go_wp2;go_ret;refine ⟨rfl, ⟨_, K2.out.set_ 2 _, ?_, hBM⟩, ?_⟩
    · have h2 := HO.out.kept (row := some M) (w' := w2.setCell ⟨M, 2, none⟩ (.slice (some ⟨gg, 0, none⟩) (acc.length + 1) cap')) ⟨rfl, rfl, rfl, by simp [World.setCell], fun k _ hn => Below.heap_setCell _ _ _ _ (fun e => hn (by simp [e]))⟩ (.inr (iT HO.out K2.out (by decide)))
      simp only [pW, aio, List.length_cons, List.length_nil];rw [HKK.out];exact h2
    · exact ((((Below.refl B w).alloc (by omega) _).drew).grown HG.out (by simp; omega) (fun q hq => (hown.lt q hq).1)).setCell hBM _
theorem vz (B M at0:Nat) (n:Int) (m:Int×Nat×List (Int×Nat×Nat)) (w:World) (h:Mach B w M m) (h0:0≤m.1) (h1:m.1≤11) (hn0:0≤n) (hn1:n≤255) (hlen:m.2.2.length≤100000):
  Calls Tryz.prog 193 #[.pointer (some ⟨M,0,none⟩), .int .i64 (at0:Int), .int .u8 n] w fun e w'=>e= .returned (.tuple #[])∧Mach B w' M (b7 m at0 n)∧Below B w w':=by
 obtain ⟨st,f,acc⟩:=m;simp only at h0 h1 hlen;obtain ⟨c0,f0,c1,f1⟩:=h.cells;have hBM:=h.lt.1
 cases hb:nB st n with
 |true=>
  have HB:=aim hb;have HS:=aim (show b7 (st,f,acc) at0 n=(nS st n,f,acc) by simp [b7,hb]);clear hb;have HM:=aim (h.set0 (nS st n));clear h
  go_enter Tryz.func193,Tryz.ntmps193
  go_wp2_with fail;refine (m6 st n _ h0 h1 hn0 hn1).mono ?_;rintro e w' ⟨rfl,rfl⟩;rw [HB.out];generalize nS st n=s1 at*;go_wp2;refine bodyPost_ret (results_none rfl _ _ _) rfl ?_;exact ⟨rfl,by rw [HS.out];exact HM.out,(Below.refl B w).setCell hBM _⟩
 |false=>
  have HB:=aim hb
  by_cases hz:st=0
  ·subst hz
   have HS:=aim (show b7 (0,f,acc) at0 n=(aF n,at0,acc) from cg f at0 acc n);clear hb;have HM:=aim ((h.set0 (aF n)).set1 at0);clear h
   go_enter Tryz.func193,Tryz.ntmps193
   go_wp2_with fail;refine (m6 0 n _ h0 h1 hn0 hn1).mono ?_;rintro e w' ⟨rfl,rfl⟩;rw [HB.out];generalize nS 0 n=s1;go_wp2_with fail;refine (kF n _ hn0 hn1).mono ?_;rintro e w' ⟨rfl,rfl⟩;generalize aF n=s2 at*;go_wp2;go_end0;exact ⟨rfl,by rw [HS.out];exact HM.out,((Below.refl B w).setCell hBM _).setCell hBM _⟩
  ·have hz':(st !=0)=true:=bne_iff_ne.mpr hz
   by_cases hk:kI st=0
   ·have HS:=aim (show b7 (st,f,acc) at0 n=(11,f,acc) by simp [b7,hb,hz,hk])
    have HM:=aim (h.set0 11);have HH:=aim h;have HK:=aim hk;clear hb hk h hz
    go_enter Tryz.func193,Tryz.ntmps193
    go_wp2_with fail;refine (m6 st n _ h0 h1 hn0 hn1).mono ?_;rintro e w' ⟨rfl,rfl⟩;rw [HB.out];generalize nS st n=s1;go_wp2_with fail;refine (ahn B M at0 f st acc _ HH.out h0 h1 HK.out).mono ?_;rintro e w' ⟨rfl,rfl⟩;go_wp2;refine bodyPost_ret (results_none rfl _ _ _) rfl ?_;exact ⟨rfl,by rw [HS.out];exact HM.out,(Below.refl B w).setCell hBM _⟩
   ·have HS:=aim (show b7 (st,f,acc) at0 n=(aF n,at0,acc++[(kI st,f,at0)]) by simp [b7,hb,hz,hk])
    have HH:=aim h;have HK:=aim hk;clear hb hk h hz
    go_enter Tryz.func193,Tryz.ntmps193
    go_wp2_with fail;refine (m6 st n _ h0 h1 hn0 hn1).mono ?_;rintro e w' ⟨rfl,rfl⟩;rw [HB.out];generalize nS st n=s1;go_wp2_with fail;refine (afQ B M at0 f st acc _ HH.out h0 h1 HK.out hlen).mono ?_;rintro e w1 ⟨rfl,hm1,hb1⟩;have HM:=aim ((hm1.set0 (aF n)).set1 at0);have HB1:=aim hb1;obtain ⟨d0,g0,d1,g1⟩:=hm1.cells;clear hm1 hb1 c0 f0 c1 f1;go_wp2_with fail;refine (kF n _ hn0 hn1).mono ?_;rintro e w' ⟨rfl,rfl⟩;generalize aF n=s2 at*;go_wp2;go_end0;exact ⟨rfl,by rw [HS.out];exact HM.out,(HB1.out.setCell hBM _).setCell hBM _⟩
theorem gE (s:ByteArray) (w:World) (hs:s.size≤maxLen):
  Calls Tryz.prog 110 #[.string s] w fun e w'=>e= .returned (.bool (aI s.data.toList))∧w=w':=by
 unfold maxLen at hs
 go_enter Tryz.func110,Tryz.ntmps110
 go_wp2
 go_loop [3,6] (fun _ i=> ∃k:Nat,k≤s.size∧i= .int .i64 k∧aI (s.data.toList.take k)=true) (fun _ i=>s.size-(intOf i).toNat)
 case atStart=>exact ⟨0,air _,rfl,rfl⟩
 case round=>
  obtain ⟨k,hk,rfl,hok⟩:=hrel;have HK:=aim hok;clear hok
  by_cases hlt:k<s.size
  ·have hb0:(s[k].toNat:Int)≤255:=by have:=s[k].toNat_lt;omega
   go_wp2_with fail;refine (gF _ _ (by omega) (by omega)).mono ?_;rintro e w' ⟨rfl,rfl⟩
   by_cases he:cC (s[k].toNat:Int)=true
   ·have HE:=aim (wi s k hlt HK.out he)
    rw [he];clear he;go_wp2
    go_round
    case rel=>exact ⟨k+1,by omega,by go_num,HE.out⟩
    case measure=>simp [intOf];omega
   ·have HE:=aim (yN s k hlt (Bool.eq_false_iff.mpr he))
    rw [Bool.eq_false_iff.mpr he];clear he;go_wp2;go_ret;exact ⟨f8 HE.out.symm,rfl⟩
  ·go_wp2
   go_ret;have:=HK.out;rw [List.take_of_length_le (by simp;omega)] at this;exact ⟨f8 this.symm,rfl⟩
def okT (s:ByteArray):Bool:=decide (s.size≤20000)&&aI s.data.toList&&fd (0,0,[]) 0 s.data.toList
def aV (s:ByteArray):List (Int×Nat×Nat):=if okT s=true then kE (0,0,[]) 0 s.data.toList else []
def zA (ok:Bool) (L:List (Int×Nat×Nat)) (w:World) (e:Ending) (w':World):Prop:=
 ∃v,e= .returned (.tuple #[v, .bool ok])∧w'.ownsRow w.heap.size 137 3 v L.length (jl L)∧Below w.heap.size w w'
theorem ad2 (l:List UInt8): ∀m a,(dD m a l).2.2.length≤m.2.2.length+l.length:=by
 induction l with
 |nil=>intro m a;simp [dD]
 |cons b t ih=>
  intro m a;rw [dD];have h1:=ih (b7 m a (b.toNat:Int)) (a+1)
  have h2:(b7 m a (b.toNat:Int)).2.2.length≤m.2.2.length+1:=by
   unfold b7
   split
   ·simp
   ·split
    ·simp
    ·split<;>simp
  rw [List.length_cons];omega
theorem abD (n:Int):0≤dW n∧dW n≤11:=by
 unfold dW;split
 ·omega
 ·split<;>omega
theorem ah3 (st n:Int):0≤nS st n∧nS st n≤11:=by
 have:=abD n
 unfold nS;repeat' split
 all_goals omega
theorem ad3 (n:Int):0≤aF n∧aF n≤11:=by
 unfold aF;repeat' split
 all_goals omega
theorem vA (m:Int×Nat×List (Int×Nat×Nat)) (a:Nat) (n:Int):0≤(b7 m a n).1∧(b7 m a n).1≤11:=by
 have h1:=ah3 m.1 n;have h2:=ad3 n;unfold b7
 split
 ·exact h1
 ·split
  ·exact h2
  ·split
   ·simp
   ·exact h2
theorem afR (l:List UInt8): ∀m a,0≤m.1→m.1≤11→0≤(dD m a l).1∧(dD m a l).1≤11:=by
 induction l with
 |nil=>intro m a h0 h1;exact ⟨h0,h1⟩
 |cons b t ih=>intro m a h0 h1;rw [dD];exact ih _ _ (vA _ _ _).1 (vA _ _ _).2
theorem abE (s:ByteArray) (k:Nat) (h:k<s.size):dD (0,0,[]) 0 (s.data.toList.take (k+1))=b7 (dD (0,0,[]) 0 (s.data.toList.take k)) k (s[k].toNat:Int):=by
 have hl:s.data.toList.length=s.size:=by rw [Array.length_toList];rfl
 rw [fb s k h,rS,List.length_take,Nat.min_eq_left (by omega)]
theorem dw {fn:Func} {t u:Tmp} (h:fn.results= #[.tmp t, .tmp u]) (tmps:Array Value) (P:Program) (w:World):
  (results fn tmps).run P w= .ok (.tuple #[tmps.getD t undef,tmps.getD u undef]) w:=by simp [results,h]
theorem qX (s:ByteArray) (w:World) (hs:s.size≤maxLen):
  Calls Tryz.prog 170 #[.string s] w (zA (okT s) (aV s) w):=by
 have HMX:=aim hs;unfold maxLen at hs
 have hlen:s.data.toList.length=s.size:=by rw [Array.length_toList];rfl
 by_cases h20:s.size≤20000
 ·cases hp:aI s.data.toList with
  |true=>
   have HP:=aim hp;have HOK:=aim (show okT s=fd (0,0,[]) 0 s.data.toList by rw [okT,hp,decide_eq_true h20];rfl);have HLEN:=aim hlen;clear hp hlen
   go_enter Tryz.func170,Tryz.ntmps170
   go_wp2_with fail;refine (gE s _ HMX.out).mono ?_;rintro e w' ⟨rfl,rfl⟩;rw [HP.out];go_wp2_with fail
   go_loopw [5,16] (fun _ i wr=> ∃k:Nat,k≤s.size∧i= .int .i64 (k:Int)∧Mach w.heap.size wr w.heap.size (dD (0,0,[]) 0 (s.data.toList.take k))∧Below w.heap.size w wr) (fun _ i _=>s.size-(intOf i).toNat)
   case atStart=>
    refine ⟨0,air _,rfl,⟨_,BlkM.new w _ _,World.ownsRow_nil _ _ _ _,ain _⟩,(Below.refl _ _).alloc (ain _) _⟩
   case round=>
    obtain ⟨k,hk,rfl,hm,hbel⟩:=hrel;have HB:=aim hbel;clear hbel;have HM:=aim hm;clear hm;have hbd:=afR (s.data.toList.take k) (0,0,[]) 0 (by simp) (by simp);have hln:=ad2 (s.data.toList.take k) (0,0,[]) 0;rw [List.length_take,HLEN.out] at hln;simp only [List.length_nil] at hln
    have hln':(dD (0,0,[]) 0 (s.data.toList.take k)).2.2.length≤100000:=by omega
    clear hln
    by_cases hlt:k<s.size
    ·have hb0:(s[k].toNat:Int)≤255:=by have:=s[k].toNat_lt;omega
     have HN:=aim (abE s k hlt);go_wp2_with fail;refine (vz w.heap.size w.heap.size k (s[k].toNat:Int) _ _ HM.out hbd.1 hbd.2 (by omega) (by omega) hln').mono ?_;rintro e w1 ⟨rfl,hm1,hb1⟩;have HM1:=aim hm1;have HB1:=aim (HB.out.trans hb1);clear hm1 hb1;go_wp2;go_roundw
     case rel=>exact ⟨k+1,by omega,by go_num,by rw [HN.out];exact HM1.out,HB1.out⟩
     case measure=>simp [intOf];omega
    ·obtain rfl:k=s.size:=by omega
     have HT:=aim (show s.data.toList.take s.size=s.data.toList from List.take_of_length_le (by rw [HLEN.out];exact ain _));rw [HT.out] at HM hbd hln';go_wp2_with fail;refine (vz w.heap.size w.heap.size s.size 32 _ _ HM.out hbd.1 hbd.2 (by omega) (by omega) hln').mono ?_;rintro e w1 ⟨rfl,hm1,hb1⟩;have HB1:=aim (HB.out.trans hb1);have HE:=aim (show b7 (dD (0,0,[]) 0 s.data.toList) s.size 32=cL (0,0,[]) 0 s.data.toList by unfold cL;rw [HLEN.out,Nat.zero_add]);rw [HE.out] at hm1;clear hb1;generalize hm:cL (0,0,[]) 0 s.data.toList=m at hm1;have HMM:=aim hm;clear hm;obtain ⟨st,f,acc⟩:=m;obtain ⟨d0,g0,d1,g1⟩:=hm1.cells;obtain ⟨v,hbk,hown,-⟩:=hm1;have d2:w1.cell? ⟨w.heap.size,2,none⟩=some v:=hbk.cell 2;have HO:=aim hown
     obtain ⟨av,cv,hv⟩: ∃a c,v= .slice a acc.length c:=by
      rcases hown.2 with ⟨rfl,h0⟩|⟨g',cap,cur,rfl,_⟩
      ·exact ⟨none,0,by rw [h0]⟩
      ·exact ⟨_,_,rfl⟩
     subst hv;clear hbk hown
     by_cases hz:st=0
     ·subst hz
      have HR:=aim (show okT s=true by rw [HOK.out,fd,HMM.out];rfl);have HL:=aim (show aV s=acc by rw [aV,HR.out,if_pos rfl,kE,fd,HMM.out];simp);go_wp2;refine bodyPost_ret (dw rfl _ _ _) rfl ?_;exact ⟨_,by rw [HR.out];rfl,by rw [HL.out];exact HO.out,HB1.out⟩
     ·have hz':(st !=0)=true:=bne_iff_ne.mpr hz
      have HR:=aim (show okT s=false by rw [HOK.out,fd,HMM.out];simp [hz]);have HL:=aim (show aV s=[] by rw [aV,HR.out];rfl);clear hz;go_wp2;refine bodyPost_ret (dw rfl _ _ _) rfl ?_;exact ⟨_,by rw [HR.out];rfl,by rw [HL.out];exact World.ownsRow_nil _ _ _ _,HB1.out⟩
  |false=>
   have HP:=aim hp;have HR:=aim (show okT s=false by rw [okT,hp];simp);have HL:=aim (show aV s=[] by rw [aV,HR.out];rfl);clear hp hlen
   go_enter Tryz.func170,Tryz.ntmps170
   go_wp2_with fail;refine (gE s _ HMX.out).mono ?_;rintro e w' ⟨rfl,rfl⟩;rw [HP.out];go_wp2;refine bodyPost_ret (dw rfl _ _ _) rfl ?_;exact ⟨_,by rw [HR.out];rfl,by rw [HL.out];exact World.ownsRow_nil _ _ _ _,Below.refl _ _⟩
 ·have HR:=aim (show okT s=false by rw [okT,decide_eq_false h20];rfl)
  have HL:=aim (show aV s=[] by rw [aV,HR.out];rfl);clear hlen
  go_enter Tryz.func170,Tryz.ntmps170
  go_wp2;refine bodyPost_ret (dw rfl _ _ _) rfl ?_;exact ⟨_,by rw [HR.out];rfl,by rw [HL.out];exact World.ownsRow_nil _ _ _ _,Below.refl _ _⟩
def RowT (w:World) (v:Value) (n:Nat) (L:List Value):Prop:=
 L.length=n*3∧ ∃ao cap,v= .slice ao n cap∧n≤cap∧cap≤maxLen∧(n=0∨ ∃b,ao=some ⟨b,0,none⟩∧b<w.heap.size∧ ∀(j:Nat) t,L[j]? =some t→w.cell? ⟨b,j,none⟩=some t)
theorem RowT.of_own {w:World} {base:Nat} {e:TypeId} {v:Value} {n:Nat} {L:List Value} (h:w.ownsRow base e 3 v n L):RowT w v n L:=by
 have h0:=h;obtain ⟨hl,h2⟩:=h;refine ⟨hl, ?_⟩
 rcases h2 with ⟨rfl,rfl⟩|⟨g,cap,cur,rfl,hg,hh,h1,h2,_⟩
 ·exact ⟨none,0,rfl,ain _,by unfold maxLen;omega, .inl rfl⟩
 ·refine ⟨_,cap,rfl,h1,h2, .inr ⟨g,rfl, ?_, ?_⟩⟩
  ·by_cases hk:g<w.heap.size
   ·exact hk
   ·rw [Array.getElem?_eq_none (by omega)] at hh;cases hh
  ·intro j t ht
   have hlt:j<L.length:=by
    by_cases hk:j<L.length
    ·exact hk
    ·rw [List.getElem?_eq_none (by omega)] at ht;cases ht
   rw [h0.cellAt j (by omega)];exact ht
theorem vC (L:List (Int×Nat×Nat)): ∀(k:Nat) (h:k<L.length),(jl L)[k*3]? =some (.int .i64 L[k].1)∧(jl L)[k*3+1]? =some (.int .i64 (L[k].2.1:Int))∧(jl L)[k*3+2]? =some (.int .i64 (L[k].2.2:Int)):=by
 induction L with
 |nil=>intro k h;simp at h
 |cons a t ih=>
  intro k h
  have e:jl (a::t)= .int .i64 a.1:: .int .i64 (a.2.1:Int):: .int .i64 (a.2.2:Int)::jl t:=by simp [jl]
  cases k with
  |zero=>rw [e];exact ⟨rfl,rfl,rfl⟩
  |succ k=>
   have hk:k<t.length:=by simpa using h
   obtain ⟨h1,h2,h3⟩:=ih k hk;rw [e,show (k+1)*3=k*3+3 by omega];exact ⟨h1,h2,h3⟩
def gp (l:List UInt8):Bool:=l.all fun b=>(b.toNat:Int)==32
def lX:Nat→List UInt8→List (Int×Nat×Nat)→Prop
 |a,l,[]=>gp l=true
 |a,l,(k,f,t)::ts=> ∃j n,f=a+j∧t=a+j+n∧j≤l.length∧gp (l.take j)=true∧TokAt (l.drop j) n k∧lX (a+j+n) (l.drop (j+n)) ts
theorem vD (a:Nat) (b:UInt8) (l:List UInt8) (ts:List (Int×Nat×Nat)) (hb:(b.toNat:Int)=32) (h:lX (a+1) l ts):lX a (b::l) ts:=by
 cases ts with
 |nil=>simp only [lX,gp,List.all_cons,hb] at h⊢;simpa using h
 |cons x ts=>
  obtain ⟨k,f,t⟩:=x;obtain ⟨j,n,h1,h2,h3,h4,h5,h6⟩:=h;refine ⟨j+1,n,by omega,by omega,by simpa using h3, ?_,by simpa using h5, ?_⟩
  ·simp only [gp,List.take_succ_cons,List.all_cons,hb] at h4⊢;simpa using h4
  ·rw [show a+(j+1)+n=a+1+j+n by omega,show j+1+n=(j+n)+1 by omega,List.drop_succ_cons];exact h6
theorem ad4 (m:Nat): ∀(l:List UInt8) (a f:Nat) (acc:List (Int×Nat×Nat)),l.length≤m→(cL (0,f,acc) a l).1=0→ ∃ts,(cL (0,f,acc) a l).2.2=acc++ts∧lX a l ts:=by
 induction m with
 |zero=>
  intro l a f acc hl h;obtain rfl:l=[]:=List.eq_nil_of_length_eq_zero (by omega);refine ⟨[], ?_,rfl⟩;unfold cL;rw [dD,cg];simp
 |succ m ih=>
  intro l a f acc hl h
  cases l with
  |nil=>
   refine ⟨[], ?_,rfl⟩;unfold cL;rw [dD,cg];simp
  |cons b t=>
   by_cases hb:(b.toNat:Int)=32
   ·rw [lz _ _ _ _ _ hb] at h⊢
    obtain ⟨ts,h1,h2⟩:=ih t (a+1) a acc (by simpa using hl) h;exact ⟨ts,h1,vD a b t ts hb h2⟩
   ·by_cases hk:fm (b::t)=0
    ·exact absurd h (zy f a acc b t hb hk)
    ·have ht:=xS b t hb hk
     have hr:=ht.read f a acc;rw [hr.2] at h⊢;obtain ⟨ts,h1,h2⟩:=ih _ _ _ _ (by rw [List.length_drop];omega) h;refine ⟨(fm (b::t),a,a+fN (b::t))::ts,by rw [h1];simp,0,fN (b::t),rfl,rfl,by omega,rfl,ht, ?_⟩
     simpa using h2
theorem abF {l:List UInt8} (h:fd (0,0,[]) 0 l=true):lX 0 l (kE (0,0,[]) 0 l):=by
 have h0:(cL (0,0,[]) 0 l).1=0:=by simpa [fd] using h
 obtain ⟨ts,h1,h2⟩:=ad4 l.length l 0 0 [] (ain _) h0;rw [List.nil_append] at h1;rw [kE,if_pos h,h1];exact h2
theorem TokAt.le {l:List UInt8} {n:Nat} {k:Int} (h:TokAt l n k):1≤n∧n≤l.length:=by
 have h1:=(h.read 0 0 []).1;obtain ⟨b,t,-,-,-,-,hle,-⟩:=h;exact ⟨h1,hle⟩
theorem pX (ts:List (Int×Nat×Nat)): ∀(a:Nat) (l:List UInt8),lX a l ts→ ∀x∈ts,a≤x.2.1∧x.2.1<x.2.2∧x.2.2≤a+l.length:=by
 induction ts with
 |nil=>intro a l _ x hx;cases hx
 |cons y ts ih=>
  intro a l h x hx;obtain ⟨k,f,t⟩:=y;obtain ⟨j,n,h1,h2,h3,h4,h5,h6⟩:=h;have hle:=h5.le;rw [List.length_drop] at hle
  rcases List.mem_cons.mp hx with rfl|hx
  ·simp only;omega
  ·have:=ih _ _ h6 x hx
   rw [List.length_drop] at this
   omega
def shT (d:Nat) (x:Int×Nat×Nat):Int×Nat×Nat:=(x.1,x.2.1+d,x.2.2+d)
def shM (d:Nat) (acc:List (Int×Nat×Nat)) (m:Int×Nat×List (Int×Nat×Nat)):Int×Nat×List (Int×Nat×Nat):=(m.1,m.2.1+d,acc++m.2.2.map (shT d))
theorem zB (d:Nat) (acc:List (Int×Nat×Nat)) (m:Int×Nat×List (Int×Nat×Nat)) (a:Nat) (n:Int):b7 (shM d acc m) (a+d) n=shM d acc (b7 m a n):=by
 obtain ⟨st,f,X⟩:=m
 by_cases h1:nB st n=true
 ·simp [b7,shM,h1]
 ·by_cases h2:st=0
  ·subst h2;simp [b7,shM,zw]
  ·by_cases h3:kI st=0
   ·simp [b7,shM,h1,h2,h3]
   ·simp [b7,shM,shT,h1,h2,h3]
theorem aho (d:Nat) (acc:List (Int×Nat×Nat)) (l:List UInt8): ∀m a,dD (shM d acc m) (a+d) l=shM d acc (dD m a l):=by
 induction l with
 |nil=>intro m a;rfl
 |cons b t ih=>intro m a;rw [dD,dD,zB,show a+d+1=a+1+d by omega,ih]
theorem ahp (d:Nat) (acc:List (Int×Nat×Nat)) (l:List UInt8) (m:Int×Nat×List (Int×Nat×Nat)) (a:Nat):cL (shM d acc m) (a+d) l=shM d acc (cL m a l):=by
 unfold cL;rw [aho,show a+d+l.length=a+l.length+d by omega,zB]
def W (l:List UInt8):List (List UInt8):=(kE (0,0,[]) 0 l).map fun t=>(l.drop t.2.1).take (t.2.2-t.2.1)
end Go.Proofs.YthijkjnngfnfdaaGreatDoor
