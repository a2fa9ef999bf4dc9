/-
  Several texts of the proof in one file: TokPlain, TokBytes, TokMach, PlainLine, TokI, RowT, TokCover.
-/
import Derived.Test.YtegdjjjpoahamaaGreatDoorBaseC
import Derived.Below
import Derived.Laws.OwnMore
import Derived.Deep.Draws
import Derived.Laws.Rows
import Derived.Deep.AppendLies
import Derived.Deep.RegionHeld3
import Derived.RegionTactic
import Derived.Deep.RegionLaw
import Derived.Deep.DrawnRows
import Derived.OwnWalk
set_option linter.unusedVariables false
set_option maxHeartbeats 4000000
set_option maxRecDepth 100000
namespace Go.Proofs.YtegdjjjpoahamaaGreatDoor
def signI (n:Int):Bool:=n==45||n==42||n==47||n==37||n==43||n==63||n==58||n==40||n==41||n==91||n==93||n==44
def cmpB (n:Int):Bool:=n==60||n==62||n==33
def firstI (n:Int):Int:=if ltrI n=true then 1 else if digI n=true then 2 else if (n==32)=true then 0 else if (n==34)=true then 3 else if cmpB n=true then 6 else if (n==61)=true then 7 else if (n==38)=true then 8 else if (n==124)=true then 9 else if signI n=true then 10 else 11
def inTextI (n:Int):Int:=if (n==34)=true then 5 else if (n==92)=true then 4 else 3
def nS (st n:Int):Int:=if st=1 then 1 else if st=2 then 2 else if st=3 then inTextI n else if st=4 then 3 else if st=6∨st=7∨st=8∨st=9 then 10 else if st=11 then 11 else 0
def nB (st n:Int):Bool:=if st=1 then (parI n||n==46) else if st=2 then (digI n||n==46) else if st=3∨st=4 then true else if st=6∨st=7 then n==61 else if st=8 then n==38 else if st=9 then n==124 else decide (st=11)
def kI (st:Int):Int:=if st=1 then 1 else if st=2 then 2 else if st=5 then 3 else if st=6∨st=10 then 4 else 0
def stepM (m:Int×Nat×List (Int×Nat×Nat)) (a:Nat) (n:Int):Int×Nat×List (Int×Nat×Nat):=
 if nB m.1 n=true then (nS m.1 n,m.2.1,m.2.2)
 else if m.1=0 then (firstI n,a,m.2.2)
 else if kI m.1=0 then (11,m.2.1,m.2.2)
 else (firstI n,a,m.2.2++[(kI m.1,m.2.1,a)])
def runM:(Int×Nat×List (Int×Nat×Nat))→Nat→List UInt8→Int×Nat×List (Int×Nat×Nat)
 |m,_,[]=>m
 |m,a,b::t=>runM (stepM m a (b.toNat:Int)) (a+1) t
def endM (m:Int×Nat×List (Int×Nat×Nat)) (a:Nat) (l:List UInt8):Int×Nat×List (Int×Nat×Nat):=stepM (runM m a l) (a+l.length) 32
def resB (m:Int×Nat×List (Int×Nat×Nat)) (a:Nat) (l:List UInt8):Bool:=decide ((endM m a l).1=0)
def resL (m:Int×Nat×List (Int×Nat×Nat)) (a:Nat) (l:List UInt8):List (Int×Nat×Nat):=if resB m a l=true then (endM m a l).2.2 else []
theorem runM_app (l r:List UInt8): ∀m a,runM m a (l++r)=runM (runM m a l) (a+l.length) r:=by
 induction l with
 |nil=>intro m a;rfl
 |cons b t ih=>intro m a;simp only [List.cons_append,runM,List.length_cons];rw [ih];congr 1;omega
theorem runM_snoc (l:List UInt8) (b:UInt8) (m:Int×Nat×List (Int×Nat×Nat)):runM m 0 (l++[b])=stepM (runM m 0 l) l.length (b.toNat:Int):=by
 rw [runM_app];simp [runM]
theorem nB_zero (n:Int):nB 0 n=false:=by simp [nB]
theorem step_zero (f a:Nat) (acc:List (Int×Nat×Nat)) (n:Int):stepM (0,f,acc) a n=(firstI n,a,acc):=by
 simp [stepM,nB_zero]
theorem first_space:firstI 32=0:=by decide
theorem res_nil (f a:Nat) (acc:List (Int×Nat×Nat)):resB (0,f,acc) a []=true∧resL (0,f,acc) a []=acc:=by
 have h:endM (0,f,acc) a []=(0,a,acc):=by unfold endM;rw [runM,step_zero,first_space];rfl
 simp [resB,resL,h]
theorem end_from (f f' a:Nat) (acc:List (Int×Nat×Nat)) (l:List UInt8):endM (0,f,acc) a l=endM (0,f',acc) a l:=by
 cases l with
 |nil=>unfold endM;rw [runM,runM,step_zero,step_zero]
 |cons b t=>unfold endM;rw [runM,runM,step_zero,step_zero]
theorem end_space (f a:Nat) (acc:List (Int×Nat×Nat)) (b:UInt8) (t:List UInt8) (h:(b.toNat:Int)=32):endM (0,f,acc) a (b::t)=endM (0,a,acc) (a+1) t:=by
 unfold endM;rw [runM,step_zero,h,first_space,List.length_cons];congr 1;omega
theorem step_stuck (f a:Nat) (acc:List (Int×Nat×Nat)) (n:Int):stepM (11,f,acc) a n=(11,f,acc):=by
 simp [stepM,nB,nS]
theorem run_stuck (f:Nat) (acc:List (Int×Nat×Nat)) (l:List UInt8): ∀a,runM (11,f,acc) a l=(11,f,acc):=by
 induction l with
 |nil=>intro a;rfl
 |cons b t ih=>intro a;rw [runM,step_stuck,ih]
theorem end_stuck (f a:Nat) (acc:List (Int×Nat×Nat)) (l:List UInt8):endM (11,f,acc) a l=(11,f,acc):=by
 unfold endM;rw [run_stuck,step_stuck]
def stays:Int→List UInt8→Bool
 |_,[]=>true
 |st,b::t=>nB st (b.toNat:Int)&&stays (nS st (b.toNat:Int)) t
def fin:Int→List UInt8→Int
 |st,[]=>st
 |st,b::t=>fin (nS st (b.toNat:Int)) t
theorem run_stays (f:Nat) (acc:List (Int×Nat×Nat)) (l:List UInt8): ∀st a,stays st l=true→runM (st,f,acc) a l=(fin st l,f,acc):=by
 induction l with
 |nil=>intro st a _;rfl
 |cons b t ih=>
  intro st a h
  simp only [stays,Bool.and_eq_true] at h
  rw [runM,fin,stepM,if_pos h.1]
  exact ih _ _ h.2
theorem kI_cases {st:Int} (h:kI st≠0):st≠0∧nB st 32=false:=by
 unfold kI at h
 split at h
 ·rename_i e;subst e;decide
 ·split at h
  ·rename_i e;subst e;decide
  ·split at h
   ·rename_i e;subst e;decide
   ·split at h
    ·rename_i e;rcases e with rfl|rfl<;>decide
    ·exact absurd rfl h
theorem step_ends (st:Int) (f a:Nat) (acc:List (Int×Nat×Nat)) (n:Int) (hk:kI st≠0) (hb:nB st n=false):stepM (st,f,acc) a n=(firstI n,a,acc++[(kI st,f,a)]):=by
 have:=(kI_cases hk).1
 simp [stepM,hb,this,hk]
theorem end_token (f a:Nat) (acc:List (Int×Nat×Nat)) (b:UInt8) (t r:List UInt8) (h:stays (firstI (b.toNat:Int)) t=true) (hk:kI (fin (firstI (b.toNat:Int)) t)≠0)
  (hr: ∀c r',r=c::r'→nB (fin (firstI (b.toNat:Int)) t) (c.toNat:Int)=false):
  endM (0,f,acc) a (b::(t++r))=endM (0,0,acc++[(kI (fin (firstI (b.toNat:Int)) t),a,a+(t.length+1))]) (a+(t.length+1)) r:=by
 unfold endM
 rw [runM,step_zero,runM_app,run_stays _ _ _ _ _ h]
 cases r with
 |nil=>
  rw [runM,runM,step_ends _ _ _ _ _ hk (kI_cases hk).2,step_zero]
  simp only [List.append_nil,List.length_cons,List.length_nil,Nat.add_zero]
 |cons c r'=>
  rw [runM,runM,step_ends _ _ _ _ _ hk (hr c r' rfl),step_zero]
  simp only [List.length_cons,List.length_append]
  rw [show a+1+t.length=a+(t.length+1) by omega,show a+(t.length+(r'.length+1)+1)=a+(t.length+1)+(r'.length+1) by omega]
def lead (p:Int→Bool):List UInt8→Nat
 |[]=>0
 |b::t=>if p (b.toNat:Int)=true then lead p t+1 else 0
def nmI (n:Int):Bool:=parI n||n==46
def nrI (n:Int):Bool:=digI n||n==46
def clo:Bool→List UInt8→Nat
 |false,[]=>0
 |true,[]=>1
 |true,b::t=>clo false t+1
 |false,b::t=>if ((b.toNat:Int)==34)=true then 0 else if ((b.toNat:Int)==92)=true then clo true t+1 else clo false t+1
def two (b c:Int):Bool:=((b==60)&&(c==61))||((b==62)&&(c==61))||((b==61)&&(c==61))||((b==33)&&(c==61))||((b==38)&&(c==38))||((b==124)&&(c==124))
def one (b:Int):Bool:=b==33||b==45||b==42||b==47||b==37||b==43||b==60||b==62||b==63||b==58||b==40||b==41||b==91||b==93||b==44
def signL:List UInt8→Nat
 |[]=>0
 |[b]=>if one (b.toNat:Int)=true then 1 else 0
 |b::c::_=>if two (b.toNat:Int) (c.toNat:Int)=true then 2 else if one (b.toNat:Int)=true then 1 else 0
def endN:List UInt8→Nat
 |[]=>0
 |b::t=>if ltrI (b.toNat:Int)=true then lead nmI (b::t) else if digI (b.toNat:Int)=true then lead nrI (b::t) else if ((b.toNat:Int)==34)=true then (if clo false t<t.length then clo false t+2 else 0) else signL (b::t)
def endK:List UInt8→Int
 |[]=>0
 |b::t=>if ltrI (b.toNat:Int)=true then 1 else if digI (b.toNat:Int)=true then 2 else if ((b.toNat:Int)==34)=true then (if clo false t<t.length then 3 else 0) else if signL (b::t)=0 then 0 else 4
theorem lead_le (p:Int→Bool) (l:List UInt8):lead p l≤l.length:=by
 induction l with
 |nil=>exact Nat.le_refl _
 |cons b t ih=>simp only [lead];split<;>simp [ih]
theorem lead_stay (p:Int→Bool) (st:Int) (h1: ∀n,nB st n=p n) (h2: ∀n,nS st n=st) (l:List UInt8):stays st (l.take (lead p l))=true∧fin st (l.take (lead p l))=st∧ ∀c r',l.drop (lead p l)=c::r'→nB st (c.toNat:Int)=false:=by
 induction l with
 |nil=>simp [lead,stays,fin]
 |cons b t ih=>
  simp only [lead]
  split
  ·rename_i h
   simp only [List.take_succ_cons,stays,fin,h1,h,h2,Bool.true_and,List.drop_succ_cons]
   simp only [h1] at ih
   exact ih
  ·rename_i h
   refine ⟨rfl,rfl,fun c r' e=> ?_⟩
   simp only [List.drop_zero,List.cons.injEq] at e
   rw [←e.1,h1];exact Bool.eq_false_iff.mpr h
theorem clo_stay (l:List UInt8): ∀fl,(clo fl l<l.length→stays (if fl=true then 4 else 3) (l.take (clo fl l+1))=true∧fin (if fl=true then 4 else 3) (l.take (clo fl l+1))=5)∧
  (¬clo fl l<l.length→stays (if fl=true then 4 else 3) l=true∧(fin (if fl=true then 4 else 3) l=3∨fin (if fl=true then 4 else 3) l=4)):=by
 induction l with
 |nil=>intro fl;cases fl<;>simp [clo,stays,fin]
 |cons b t ih=>
  intro fl
  cases fl with
  |true=>
   have h:=ih false
   simp only [if_true,Bool.false_eq_true,if_false] at h⊢
   simp only [clo,List.length_cons,List.take_succ_cons,stays,fin,show nB 4 (b.toNat:Int)=true by simp [nB],show nS 4 (b.toNat:Int)=3 by simp [nS],Bool.true_and]
   exact ⟨fun g=>h.1 (by omega),fun g=>h.2 (by omega)⟩
  |false=>
   simp only [Bool.false_eq_true,if_false]
   have e1:nB 3 (b.toNat:Int)=true:=by simp [nB]
   have e2:nS 3 (b.toNat:Int)=inTextI (b.toNat:Int):=by simp [nS]
   by_cases h34:((b.toNat:Int)==34)=true
   ·simp only [clo,h34,if_true,List.length_cons,List.take_succ_cons,List.take_zero,stays,fin,e1,e2,inTextI]
    exact ⟨fun _=>⟨rfl,trivial⟩,fun g=>absurd (by omega) g⟩
   ·by_cases h92:((b.toNat:Int)==92)=true
    ·have h:=ih true
     simp only [if_true] at h
     simp only [clo,h34,h92,if_true,Bool.false_eq_true,if_false,List.length_cons,List.take_succ_cons,stays,fin,e1,e2,inTextI,Bool.true_and]
     exact ⟨fun g=>h.1 (by omega),fun g=>h.2 (by omega)⟩
    ·have h:=ih false
     simp only [Bool.false_eq_true,if_false] at h
     simp only [clo,h34,h92,Bool.false_eq_true,if_false,List.length_cons,List.take_succ_cons,stays,fin,e1,e2,inTextI,Bool.true_and]
     exact ⟨fun g=>h.1 (by omega),fun g=>h.2 (by omega)⟩
def TokAt (l:List UInt8) (n:Nat) (k:Int):Prop:=
 ∃b t,l.take n=b::t∧stays (firstI (b.toNat:Int)) t=true∧kI (fin (firstI (b.toNat:Int)) t)=k∧k≠0∧n≤l.length∧ ∀c r',l.drop n=c::r'→nB (fin (firstI (b.toNat:Int)) t) (c.toNat:Int)=false
theorem TokAt.read {l:List UInt8} {n:Nat} {k:Int} (h:TokAt l n k) (f a:Nat) (acc:List (Int×Nat×Nat)):1≤n∧endM (0,f,acc) a l=endM (0,0,acc++[(k,a,a+n)]) (a+n) (l.drop n):=by
 obtain ⟨b,t,ht,hs,hk,hk0,hn,hr⟩:=h
 have hlen:(l.take n).length=n:=by rw [List.length_take];omega
 rw [ht,List.length_cons] at hlen
 refine ⟨by omega, ?_⟩
 have hl:l=b::(t++l.drop n):=by rw [←List.cons_append,←ht,List.take_append_drop]
 have e:=end_token f a acc b t (l.drop n) hs (by rw [hk];exact hk0) hr
 rw [←hl,hk,hlen] at e
 exact e
theorem TokAt.alone {l:List UInt8} {n:Nat} {k:Int} (h:TokAt l n k):endM (0,0,[]) 0 (l.take n)=(0,n,[(k,0,n)]):=by
 obtain ⟨b,t,ht,hs,hk,hk0,hn,hr⟩:=h
 have hlen:(l.take n).length=n:=by rw [List.length_take];omega
 rw [ht,List.length_cons] at hlen
 have e:=end_token 0 0 [] b t [] hs (by rw [hk];exact hk0) (by intro c r' e;cases e)
 rw [List.append_nil,hk,hlen] at e
 rw [ht,e]
 unfold endM
 rw [runM,step_zero,first_space]
 simp
theorem ltrI_one {n:Int} (h:ltrI n=true):firstI n=1:=by simp [firstI,h]
theorem digI_not {n:Int} (h:ltrI n=false) (hd:digI n=true):firstI n=2:=by simp [firstI,h,hd]
theorem end_ok (b:UInt8) (t:List UInt8) (h:(b.toNat:Int)≠32) (hk:endK (b::t)≠0):TokAt (b::t) (endN (b::t)) (endK (b::t)):=by
 simp only [endK] at hk
 simp only [endN,endK]
 cases hl:ltrI (b.toNat:Int) with
 |true=>
  simp only [if_true]
  have hm:nmI (b.toNat:Int)=true:=by simp [nmI,parI,hl]
  have g:=lead_stay nmI 1 (fun n=>by simp [nB,nmI]) (fun n=>by simp [nS]) t
  simp only [lead,hm,if_true]
  refine ⟨b,t.take (lead nmI t),rfl, ?_, ?_,by omega,by simp [lead_le], ?_⟩
  ·rw [ltrI_one hl];exact g.1
  ·rw [ltrI_one hl,g.2.1];decide
  ·rw [ltrI_one hl,g.2.1,List.drop_succ_cons];exact g.2.2
 |false=>
  simp only [hl,Bool.false_eq_true,if_false] at hk⊢
  cases hd:digI (b.toNat:Int) with
  |true=>
   simp only [if_true]
   have hm:nrI (b.toNat:Int)=true:=by simp [nrI,hd]
   have g:=lead_stay nrI 2 (fun n=>by simp [nB,nrI]) (fun n=>by simp [nS]) t
   simp only [lead,hm,if_true]
   refine ⟨b,t.take (lead nrI t),rfl, ?_, ?_,by omega,by simp [lead_le], ?_⟩
   ·rw [digI_not hl hd];exact g.1
   ·rw [digI_not hl hd,g.2.1];decide
   ·rw [digI_not hl hd,g.2.1,List.drop_succ_cons];exact g.2.2
  |false=>
   simp only [hd,Bool.false_eq_true,if_false] at hk⊢
   by_cases h34:((b.toNat:Int)==34)=true
   ·simp only [h34,if_true] at hk⊢
    have hf:firstI (b.toNat:Int)=3:=by rw [beq_iff_eq] at h34;rw [h34];decide
    split at hk
    ·rename_i hc
     simp only [hc,if_true]
     have g:=(clo_stay t false).1 hc
     simp only [Bool.false_eq_true,if_false] at g
     refine ⟨b,t.take (clo false t+1),rfl, ?_, ?_,by omega,by simp;omega, ?_⟩
     ·rw [hf];exact g.1
     ·rw [hf,g.2];decide
     ·rw [hf,g.2];intro c r' _;simp [nB]
    ·exact absurd rfl hk
   ·have h34':=Bool.eq_false_iff.mpr h34
    simp only [h34',Bool.false_eq_true,if_false] at hk⊢
    have hs:signL (b::t)≠0:=by intro e;rw [if_pos e] at hk;exact hk rfl
    rw [if_neg hs]
    generalize hx:(b.toNat:Int)=x at*
    have sgl:one x=true→(∀c r',t=c::r'→two x (c.toNat:Int)=false)→TokAt (b::t) 1 4:=by
     intro h1 h2
     have key:kI (firstI x)=4∧ ∀c:UInt8,two x (c.toNat:Int)=false→nB (firstI x) (c.toNat:Int)=false:=by
      simp only [one,Bool.or_eq_true,beq_iff_eq] at h1
      rcases h1 with ((((((((((((((e|e)|e)|e)|e)|e)|e)|e)|e)|e)|e)|e)|e)|e)|e)<;>subst e<;>refine ⟨by decide,fun c hc=> ?_⟩<;>simp_all [two,nB,firstI,ltrI,digI,cmpB,signI]
     refine ⟨b,[],rfl,rfl,by rw [hx];exact key.1,by omega,by simp,fun c r' e=> ?_⟩
     rw [hx];exact key.2 c (h2 c r' (by simpa using e))
    cases t with
    |nil=>
     simp only [signL,hx] at hs⊢
     split at hs
     ·rename_i h1;rw [if_pos h1];exact sgl h1 (by intro c r' e;cases e)
     ·exact absurd rfl hs
    |cons c r=>
     simp only [signL,hx] at hs⊢
     by_cases h2:two x (c.toNat:Int)=true
     ·rw [if_pos h2]
      have key:nB (firstI x) (c.toNat:Int)=true∧nS (firstI x) (c.toNat:Int)=10:=by
       simp only [two,Bool.or_eq_true,Bool.and_eq_true,beq_iff_eq] at h2
       rcases h2 with (((((⟨e,g⟩|⟨e,g⟩)|⟨e,g⟩)|⟨e,g⟩)|⟨e,g⟩)|⟨e,g⟩)<;>rw [e,g]<;>decide
      refine ⟨b,[c],rfl, ?_, ?_,by omega,by simp,fun d r' _=> ?_⟩
      ·rw [hx];simp [stays,key.1]
      ·rw [hx];simp only [fin,key.2];decide
      ·rw [hx];simp only [fin,key.2];simp [nB]
     ·rw [if_neg h2] at hs⊢
      split at hs
      ·rename_i h1;rw [if_pos h1]
       refine sgl h1 ?_
       intro c' r' e;cases e;exact Bool.eq_false_iff.mpr h2
      ·exact absurd rfl hs
theorem end_bad (f a:Nat) (acc:List (Int×Nat×Nat)) (b:UInt8) (t:List UInt8) (h:(b.toNat:Int)≠32) (hk:endK (b::t)=0):(endM (0,f,acc) a (b::t)).1≠0:=by
 simp only [endK] at hk
 cases hl:ltrI (b.toNat:Int) with
 |true=>simp [hl] at hk
 |false=>
  simp only [hl,Bool.false_eq_true,if_false] at hk
  cases hd:digI (b.toNat:Int) with
  |true=>simp [hd] at hk
  |false=>
   simp only [hd,Bool.false_eq_true,if_false] at hk
   by_cases h34:((b.toNat:Int)==34)=true
   ·have hf:firstI (b.toNat:Int)=3:=by rw [beq_iff_eq] at h34;rw [h34];decide
    simp only [h34,if_true] at hk
    split at hk
    ·omega
    ·rename_i hc
     have g:=(clo_stay t false).2 hc
     simp only [Bool.false_eq_true,if_false] at g
     unfold endM
     rw [runM,step_zero,hf,run_stays _ _ _ _ _ g.1]
     rcases g.2 with e|e<;>rw [e]<;>simp [stepM,nB,nS,inTextI]
   ·have h34':=Bool.eq_false_iff.mpr h34
    simp only [h34',Bool.false_eq_true,if_false] at hk
    have hs:signL (b::t)=0:=by
     by_cases e:signL (b::t)=0
     ·exact e
     ·rw [if_neg e] at hk;omega
    have hone:one (b.toNat:Int)=false:=by
     cases t with
     |nil=>simp only [signL] at hs;by_cases e:one (b.toNat:Int)=true
           ·rw [if_pos e] at hs;omega
           ·exact Bool.eq_false_iff.mpr e
     |cons c r=>simp only [signL] at hs;split at hs
                ·omega
                ·by_cases e:one (b.toNat:Int)=true
                 ·rw [if_pos e] at hs;omega
                 ·exact Bool.eq_false_iff.mpr e
    have stop: ∀(st:Int) (g:Nat),st≠0→kI st=0→nB st 32=false→(∀c r',t=c::r'→nB st (c.toNat:Int)=false)→firstI (b.toNat:Int)=st→(endM (0,f,acc) a (b::t)).1≠0:=by
     intro st g h1 h2 h3 h4 h5
     unfold endM
     rw [runM,step_zero,h5]
     cases t with
     |nil=>rw [runM];simp [stepM,h1,h2,h3]
     |cons c r=>
      rw [runM,show stepM (st,a,acc) (a+1) (c.toNat:Int)=(11,a,acc) by simp [stepM,h1,h2,h4 c r rfl],run_stuck,step_stuck]
      simp
    have h2: ∀c r',t=c::r'→two (b.toNat:Int) (c.toNat:Int)=false:=by
     intro c r' e;subst e
     simp only [signL] at hs
     by_cases e:two (b.toNat:Int) (c.toNat:Int)=true
     ·rw [if_pos e] at hs;omega
     ·exact Bool.eq_false_iff.mpr e
    have h32:((b.toNat:Int)==32)=false:=by simpa using h
    by_cases e61:((b.toNat:Int)==61)=true
    ·refine stop 7 0 (by omega) (by decide) (by decide) (fun c r' e=> ?_) (by rw [beq_iff_eq] at e61;rw [e61];decide)
     have:=h2 c r' e
     rw [beq_iff_eq] at e61
     rw [e61] at this
     simp [two] at this
     simp [nB];omega
    by_cases e38:((b.toNat:Int)==38)=true
    ·refine stop 8 0 (by omega) (by decide) (by decide) (fun c r' e=> ?_) (by rw [beq_iff_eq] at e38;rw [e38];decide)
     have:=h2 c r' e
     rw [beq_iff_eq] at e38
     rw [e38] at this
     simp [two] at this
     simp [nB];omega
    by_cases e124:((b.toNat:Int)==124)=true
    ·refine stop 9 0 (by omega) (by decide) (by decide) (fun c r' e=> ?_) (by rw [beq_iff_eq] at e124;rw [e124];decide)
     have:=h2 c r' e
     rw [beq_iff_eq] at e124
     rw [e124] at this
     simp [two] at this
     simp [nB];omega
    ·have hf:firstI (b.toNat:Int)=11:=by
      have g1:cmpB (b.toNat:Int)=false:=by simp_all [one,cmpB]
      have g2:signI (b.toNat:Int)=false:=by simp_all [one,signI]
      simp only [firstI,hl,hd,h32,h34',g1,g2,Bool.eq_false_iff.mpr e61,Bool.eq_false_iff.mpr e38,Bool.eq_false_iff.mpr e124,Bool.false_eq_true,if_false]
     unfold endM
     rw [runM,step_zero,hf,run_stuck,step_stuck]
     simp
open Go.RowKit
theorem firstState_any (n:Int) (w:World) (h0:0≤n) (h1:n≤255):
  Calls Tryz.prog 225 #[.int .u8 n] w fun e w'=>e= .returned (.int .i64 (firstI n))∧w=w':=by
 cases hl:ltrI n with
 |true=>
  have HL:=Lib.hid hl
  rw [show firstI n=1 by simp [firstI,hl]];clear hl
  go_enter Tryz.func225,Tryz.ntmps225
  go_wp2_with fail
  refine (smallLetter_any _ _ (by omega) (by omega)).mono ?_
  rintro e w' ⟨rfl,rfl⟩
  rw [HL.out]
  go_wp2
  go_ret
  exact ⟨rfl,rfl⟩
 |false=>
  have HL:=Lib.hid hl
  cases hd:digI n with
  |true=>
   have HD:=Lib.hid hd
   rw [show firstI n=2 by simp [firstI,hl,hd]];clear hl hd
   go_enter Tryz.func225,Tryz.ntmps225
   go_wp2_with fail
   refine (smallLetter_any _ _ (by omega) (by omega)).mono ?_
   rintro e w' ⟨rfl,rfl⟩
   rw [HL.out]
   go_wp2_with fail
   refine (digit_any _ _ (by omega) (by omega)).mono ?_
   rintro e w' ⟨rfl,rfl⟩
   rw [HD.out]
   go_wp2
   go_ret
   exact ⟨rfl,rfl⟩
  |false=>
   have HD:=Lib.hid hd
   go_enter Tryz.func225,Tryz.ntmps225
   go_wp2_with fail
   refine (smallLetter_any _ _ (by omega) (by omega)).mono ?_
   rintro e w' ⟨rfl,rfl⟩
   rw [HL.out]
   go_wp2_with fail
   refine (digit_any _ _ (by omega) (by omega)).mono ?_
   rintro e w' ⟨rfl,rfl⟩
   rw [HD.out]
   go_wp2
   all_goals
    go_ret
    refine ⟨?_,rfl⟩
    simp_all [firstI,cmpB,signI]
theorem stateInText_any (n:Int) (w:World):
  Calls Tryz.prog 235 #[.int .u8 n] w fun e w'=>e= .returned (.int .i64 (inTextI n))∧w=w':=by
 by_cases e34:n=34
 ·subst e34;rw [show inTextI 34=5 by decide]
  go_enter Tryz.func235,Tryz.ntmps235
  go_wp2
  go_ret
  exact ⟨rfl,rfl⟩
 by_cases e92:n=92
 ·subst e92;rw [show inTextI 92=4 by decide]
  go_enter Tryz.func235,Tryz.ntmps235
  go_wp2
  go_ret
  exact ⟨rfl,rfl⟩
 have z1:(n==34)=false:=beq_eq_false_iff_ne.mpr e34
 have z2:(n==92)=false:=beq_eq_false_iff_ne.mpr e92
 have hf:inTextI n=3:=by simp only [inTextI,z1,z2,Bool.false_eq_true,if_false]
 rw [hf];clear hf e34 e92
 go_enter Tryz.func235,Tryz.ntmps235
 go_wp2
 go_ret
 exact ⟨rfl,rfl⟩
theorem st_cases {st:Int} (h0:0≤st) (h1:st≤11):st=0∨st=1∨st=2∨st=3∨st=4∨st=5∨st=6∨st=7∨st=8∨st=9∨st=10∨st=11:=by omega
theorem kind_any (st:Int) (w:World) (h0:0≤st) (h1:st≤11):
  Calls Tryz.prog 236 #[.int .i64 st] w fun e w'=>e= .returned (.int .i64 (kI st))∧w=w':=by
 rcases st_cases h0 h1 with rfl|rfl|rfl|rfl|rfl|rfl|rfl|rfl|rfl|rfl|rfl|rfl
 all_goals
  clear h0 h1
  go_enter Tryz.func236,Tryz.ntmps236
  go_wp2
  go_ret
  exact ⟨rfl,rfl⟩
theorem next_any (st n:Int) (w:World) (h0:0≤st) (h1:st≤11) (hn0:0≤n) (hn1:n≤255):
  Calls Tryz.prog 223 #[.int .i64 st, .int .u8 n] w fun e w'=>e= .returned (.tuple #[.int .i64 (nS st n), .bool (nB st n)])∧w=w':=by
 rcases st_cases h0 h1 with rfl|rfl|rfl|rfl|rfl|rfl|rfl|rfl|rfl|rfl|rfl|rfl
 ·clear h0 h1
  go_enter Tryz.func223,Tryz.ntmps223
  go_wp2
  go_ret2
  exact ⟨rfl,rfl⟩
 ·clear h0 h1
  rw [show nS 1 n=1 from rfl,show nB 1 n=(parI n||n==46) from rfl]
  cases hp:parI n with
  |true=>
   have HP:=Lib.hid hp;clear hp
   go_enter Tryz.func223,Tryz.ntmps223
   go_wp2_with fail
   refine (partByte_any n _ hn0 hn1).mono ?_
   rintro e w' ⟨rfl,rfl⟩
   rw [HP.out]
   go_wp2
   go_ret2
   exact ⟨rfl,rfl⟩
  |false=>
   have HP:=Lib.hid hp;clear hp
   go_enter Tryz.func223,Tryz.ntmps223
   go_wp2_with fail
   refine (partByte_any n _ hn0 hn1).mono ?_
   rintro e w' ⟨rfl,rfl⟩
   rw [HP.out]
   go_wp2
   go_ret2
   exact ⟨rfl,rfl⟩
 ·clear h0 h1
  rw [show nS 2 n=2 from rfl,show nB 2 n=(digI n||n==46) from rfl]
  cases hp:digI n with
  |true=>
   have HP:=Lib.hid hp;clear hp
   go_enter Tryz.func223,Tryz.ntmps223
   go_wp2_with fail
   refine (digit_any n _ hn0 hn1).mono ?_
   rintro e w' ⟨rfl,rfl⟩
   rw [HP.out]
   go_wp2
   go_ret2
   exact ⟨rfl,rfl⟩
  |false=>
   have HP:=Lib.hid hp;clear hp
   go_enter Tryz.func223,Tryz.ntmps223
   go_wp2_with fail
   refine (digit_any n _ hn0 hn1).mono ?_
   rintro e w' ⟨rfl,rfl⟩
   rw [HP.out]
   go_wp2
   go_ret2
   exact ⟨rfl,rfl⟩
 ·clear h0 h1
  rw [show nS 3 n=inTextI n from rfl,show nB 3 n=true from rfl]
  go_enter Tryz.func223,Tryz.ntmps223
  go_wp2_with fail
  refine (stateInText_any n _).mono ?_
  rintro e w' ⟨rfl,rfl⟩
  go_wp2
  go_ret2
  exact ⟨rfl,rfl⟩
 ·clear h0 h1
  go_enter Tryz.func223,Tryz.ntmps223
  go_wp2
  go_ret2
  exact ⟨rfl,rfl⟩
 ·clear h0 h1
  go_enter Tryz.func223,Tryz.ntmps223
  go_wp2
  go_ret2
  exact ⟨rfl,rfl⟩
 ·clear h0 h1
  go_enter Tryz.func223,Tryz.ntmps223
  go_wp2
  go_ret2
  exact ⟨rfl,rfl⟩
 ·clear h0 h1
  go_enter Tryz.func223,Tryz.ntmps223
  go_wp2
  go_ret2
  exact ⟨rfl,rfl⟩
 ·clear h0 h1
  go_enter Tryz.func223,Tryz.ntmps223
  go_wp2
  go_ret2
  exact ⟨rfl,rfl⟩
 ·clear h0 h1
  go_enter Tryz.func223,Tryz.ntmps223
  go_wp2
  go_ret2
  exact ⟨rfl,rfl⟩
 ·clear h0 h1
  go_enter Tryz.func223,Tryz.ntmps223
  go_wp2
  go_ret2
  exact ⟨rfl,rfl⟩
 ·clear h0 h1
  go_enter Tryz.func223,Tryz.ntmps223
  go_wp2
  go_ret2
  exact ⟨rfl,rfl⟩
def BlkM (w:World) (g:Nat) (t:TypeId) (cs:Array Value):Prop:=w.heap[g]? =some (.cells cs t (0,0))
section
variable {w w':World} {g:Nat} {t:TypeId} {cs:Array Value}
theorem BlkM.lt (h:BlkM w g t cs):g<w.heap.size:=by
 rcases Nat.lt_or_ge g w.heap.size with hlt|hge
 ·exact hlt
 ·unfold BlkM at h;rw [Array.getElem?_eq_none hge] at h;cases h
theorem BlkM.cell (h:BlkM w g t cs) (i:Nat):w.cell? ⟨g,i,none⟩=cs[i]? :=cell_of_row w g i cs t (0,0) h
theorem BlkM.frozen (h:BlkM w g t cs) (i:Nat):w.frozen? ⟨g,i,none⟩=false:=by
 unfold BlkM at h
 simp [World.frozen?,h]
theorem BlkM.new (w:World) (t:TypeId) (cs:Array Value):BlkM (w.alloc (.cells cs t)) w.heap.size t cs:=heap_alloc_new w _
theorem BlkM.drew (h:BlkM w g t cs):BlkM w.drew g t cs:=h
theorem BlkM.alloc (h:BlkM w g t cs) (o:Obj):BlkM (w.alloc o) g t cs:=(Below.heap_alloc w o g h.lt).trans h
theorem BlkM.set_ (h:BlkM w g t cs) (i:Nat) (u:Value):BlkM (w.setCell ⟨g,i,none⟩ u) g t (cs.setIfInBounds i u):=by
 unfold BlkM at h⊢
 simp [World.setCell,Array.getElem?_modify,h]
theorem BlkM.grown {row:Option Nat} (h:BlkM w g t cs) (hb:w.grownBy w' row) (hg:some g≠row):BlkM w' g t cs:=(hb.block g h.lt hg).trans h
theorem own_blkM_ne {base:Nat} {e:TypeId} {size n:Nat} {v:Value} {xs:List Value} (h:w.ownsRow base e size v n xs) (hg:BlkM w g t cs) (hne:e≠t):v.ownBlock≠some g:=by
 rcases h.2 with ⟨rfl,_⟩|⟨g',cap,cur,rfl,_,hh,_⟩
 ·simp [Value.ownBlock]
 ·intro he
  have:g'=g:=by simpa [Value.ownBlock] using he
  subst this
  unfold BlkM at hg
  rw [hh] at hg
  injection hg with hg
  injection hg with _ ht
  exact hne ht
end
def flatT (l:List (Int×Nat×Nat)):List Value:=l.flatMap fun t=>[.int .i64 t.1, .int .i64 (t.2.1:Int), .int .i64 (t.2.2:Int)]
theorem flatT_snoc (l:List (Int×Nat×Nat)) (k:Int) (f t:Nat):flatT (l++[(k,f,t)])=flatT l++[.int .i64 k, .int .i64 (f:Int), .int .i64 (t:Int)]:=by simp [flatT]
theorem flatT_length (l:List (Int×Nat×Nat)):(flatT l).length=l.length*3:=by
 induction l with
 |nil=>rfl
 |cons a t ih=>simp only [flatT,List.flatMap_cons,List.length_append,List.length_cons,List.length_nil] at ih⊢;omega
def Mach (B:Nat) (w:World) (M:Nat) (m:Int×Nat×List (Int×Nat×Nat)):Prop:=
 ∃v,BlkM w M 217 #[.int .i64 m.1, .int .i64 (m.2.1:Int),v]∧w.ownsRow B 158 3 v m.2.2.length (flatT m.2.2)∧B≤M
theorem infoTok:(Tryz.prog.info? 158).map (fun i=>(i.zero,i.size,i.bytes))=some (some (.agg #[.int .i64 0, .int .i64 0, .int .i64 0]),3,24):=by kernel_rfl
theorem Mach.lt {B M:Nat} {w:World} {m:Int×Nat×List (Int×Nat×Nat)} (h:Mach B w M m):B≤M∧M<w.heap.size:=by
 obtain ⟨v,h1,h2,h3⟩:=h;exact ⟨h3,h1.lt⟩
theorem Mach.cells {B M:Nat} {w:World} {st:Int} {f:Nat} {acc:List (Int×Nat×Nat)} (h:Mach B w M (st,f,acc)):w.cell? ⟨M,0,none⟩=some (.int .i64 st)∧w.frozen? ⟨M,0,none⟩=false∧w.cell? ⟨M,1,none⟩=some (.int .i64 (f:Int))∧w.frozen? ⟨M,1,none⟩=false:=by
 obtain ⟨v,h1,h2,h3⟩:=h
 exact ⟨h1.cell 0,h1.frozen 0,h1.cell 1,h1.frozen 1⟩
theorem Mach.set0 {B M:Nat} {w:World} {st:Int} {f:Nat} {acc:List (Int×Nat×Nat)} (h:Mach B w M (st,f,acc)) (x:Int):Mach B (w.setCell ⟨M,0,none⟩ (.int .i64 x)) M (x,f,acc):=by
 obtain ⟨v,h1,h2,h3⟩:=h
 refine ⟨v,h1.set_ 0 _, ?_,h3⟩
 refine h2.kept (row:=some M) ⟨rfl,rfl,rfl,by simp [World.setCell],fun k _ hn=>Below.heap_setCell _ _ _ _ (fun e=>hn (by simp [e]))⟩ (.inr ?_)
 exact own_blkM_ne h2 h1 (by decide)
theorem Mach.set1 {B M:Nat} {w:World} {st:Int} {f:Nat} {acc:List (Int×Nat×Nat)} (h:Mach B w M (st,f,acc)) (x:Nat):Mach B (w.setCell ⟨M,1,none⟩ (.int .i64 (x:Int))) M (st,x,acc):=by
 obtain ⟨v,h1,h2,h3⟩:=h
 refine ⟨v,h1.set_ 1 _, ?_,h3⟩
 refine h2.kept (row:=some M) ⟨rfl,rfl,rfl,by simp [World.setCell],fun k _ hn=>Below.heap_setCell _ _ _ _ (fun e=>hn (by simp [e]))⟩ (.inr ?_)
 exact own_blkM_ne h2 h1 (by decide)
theorem end_no (B M at0 f:Nat) (st:Int) (acc:List (Int×Nat×Nat)) (w:World) (h:Mach B w M (st,f,acc)) (h0:0≤st) (h1:st≤11) (hk:kI st=0):
  Calls Tryz.prog 224 #[.pointer (some ⟨M,0,none⟩), .int .i64 (at0:Int)] w fun e w'=>e= .returned (.bool false)∧w=w':=by
 obtain ⟨c0,f0,c1,f1⟩:=h.cells
 have HK:=Lib.hid hk;clear hk
 go_enter Tryz.func224,Tryz.ntmps224
 go_wp2_with fail
 refine (kind_any st _ h0 h1).mono ?_
 rintro e w' ⟨rfl,rfl⟩
 rw [HK.out]
 go_wp2
 go_ret
 exact ⟨rfl,rfl⟩
theorem end_yes (B M at0 f:Nat) (st:Int) (acc:List (Int×Nat×Nat)) (w:World) (h:Mach B w M (st,f,acc)) (h0:0≤st) (h1:st≤11) (hk:kI st≠0) (hlen:acc.length≤100000):
 Calls Tryz.prog 224 #[.pointer (some ⟨M,0,none⟩), .int .i64 (at0:Int)] w fun e w'=>e= .returned (.bool true)∧Mach B w' M (st,f,acc++[(kI st,f,at0)])∧Below B w w':=by
 obtain ⟨i0,hi,hz0,hz1,hz2⟩:=info_parts infoTok
 obtain ⟨v,hb,hown,hBM⟩:=h
 have c0:w.cell? ⟨M,0,none⟩=some (.int .i64 st):=hb.cell 0
 have c1:w.cell? ⟨M,1,none⟩=some (.int .i64 (f:Int)):=hb.cell 1
 have c2:w.cell? ⟨M,2,none⟩=some v:=hb.cell 2
 have f2:w.frozen? ⟨M,2,none⟩=false:=hb.frozen 2
 have hM:=hb.lt
 have NE:=Lib.hid (own_blkM_ne hown hb (by decide))
 have HBK:=Lib.hid hb;clear hb
 have hkz:(kI st==0)=false:=beq_eq_false_iff_ne.mpr hk
 clear hk
 obtain ⟨av,cv,hv⟩: ∃a c,v= .slice a acc.length c:=by
  rcases hown.2 with ⟨rfl,h0⟩|⟨g',cap,cur,rfl,_⟩
  ·exact ⟨none,0,by rw [h0]⟩
  ·exact ⟨_,_,rfl⟩
 subst hv
 go_enter Tryz.func224,Tryz.ntmps224
 go_wp2_with fail
 refine (kind_any st _ h0 h1).mono ?_
 rintro e w' ⟨rfl,rfl⟩
 generalize hkk:kI st=kk at*
 have HKK:=Lib.hid hkk;clear hkk
 go_wp2_with fail
 go_region_law
  ((refine step_append_lies _ (by rfl) _ _ _ (by rfl) B 158 i0 _ 3 24 Tryz.underlying152 hi hz0 hz1 hz2 rfl (by omega) (.slice av acc.length cv) acc.length _ (by rfl) ((hown.alloc _).drew)
     ⟨w.heap.size,0,none⟩ 1 1 [.int .i64 kk, .int .i64 (f:Int), .int .i64 (at0:Int)] (by rfl) (by rfl) (World.news_of_block (cs:= #[.int .i64 kk, .int .i64 (f:Int), .int .i64 (at0:Int)]) (t:=158) (fr:=(0,0)) (heap_alloc_new w _)) (by simp [Value.oneCell'])
     (by omega) (by unfold maxLen;omega) (by omega) (by simp;omega) (w.heap.size+1) (by simp) ?_;intro gg cap' w2 hown' hgrow hat hlt';have hfz:w2.frozen? ⟨M,2,none⟩=false:=((hgrow.frozen_far _ (by simp;omega) (fun hq=>NE.out hq.symm)).trans (((World.grownBy_alloc w _ none).frozen_far ⟨M,2,none⟩ hM (by simp)).trans f2));have hc2:w2.cell? ⟨M,2,none⟩=some (.slice av acc.length cv):=((hgrow.cell_far _ (by simp;omega) (fun hq=>NE.out hq.symm)).trans (((World.grownBy_alloc w _ none).cell_far ⟨M,2,none⟩ hM (by simp)).trans c2))))
 all_goals
  have K2:=Lib.hid (BlkM.grown ((HBK.out.alloc _).drew) hgrow (fun hq=>NE.out hq.symm))
  have HO:=Lib.hid hown';have HG:=Lib.hid hgrow
  clear hown' hgrow hat
  go_wp2
  go_ret
  refine ⟨rfl,⟨_,K2.out.set_ 2 _, ?_,hBM⟩, ?_⟩
  ·have h2:=HO.out.kept (row:=some M) (w':=w2.setCell ⟨M,2,none⟩ (.slice (some ⟨gg,0,none⟩) (acc.length+1) cap')) ⟨rfl,rfl,rfl,by simp [World.setCell],fun k _ hn=>Below.heap_setCell _ _ _ _ (fun e=>hn (by simp [e]))⟩ (.inr (own_blkM_ne HO.out K2.out (by decide)))
   simp only [flatT_snoc,List.length_append,List.length_cons,List.length_nil]
   rw [HKK.out]
   exact h2
  ·exact ((((Below.refl B w).alloc (by omega) _).drew).grown HG.out (by simp;omega) (fun q hq=>(hown.lt q hq).1)).setCell hBM _
theorem step_any (B M at0:Nat) (n:Int) (m:Int×Nat×List (Int×Nat×Nat)) (w:World) (h:Mach B w M m) (h0:0≤m.1) (h1:m.1≤11) (hn0:0≤n) (hn1:n≤255) (hlen:m.2.2.length≤100000):
  Calls Tryz.prog 203 #[.pointer (some ⟨M,0,none⟩), .int .i64 (at0:Int), .int .u8 n] w fun e w'=>e= .returned (.tuple #[])∧Mach B w' M (stepM m at0 n)∧Below B w w':=by
 obtain ⟨st,f,acc⟩:=m
 simp only at h0 h1 hlen
 obtain ⟨c0,f0,c1,f1⟩:=h.cells
 have hBM:=h.lt.1
 cases hb:nB st n with
 |true=>
  have HB:=Lib.hid hb
  have HS:=Lib.hid (show stepM (st,f,acc) at0 n=(nS st n,f,acc) by simp [stepM,hb]);clear hb
  have HM:=Lib.hid (h.set0 (nS st n));clear h
  go_enter Tryz.func203,Tryz.ntmps203
  go_wp2_with fail
  refine (next_any st n _ h0 h1 hn0 hn1).mono ?_
  rintro e w' ⟨rfl,rfl⟩
  rw [HB.out]
  generalize nS st n=s1 at*
  go_wp2
  refine bodyPost_ret (results_none rfl _ _ _) rfl ?_
  exact ⟨rfl,by rw [HS.out];exact HM.out,(Below.refl B w).setCell hBM _⟩
 |false=>
  have HB:=Lib.hid hb
  by_cases hz:st=0
  ·subst hz
   have HS:=Lib.hid (show stepM (0,f,acc) at0 n=(firstI n,at0,acc) from step_zero f at0 acc n);clear hb
   have HM:=Lib.hid ((h.set0 (firstI n)).set1 at0);clear h
   go_enter Tryz.func203,Tryz.ntmps203
   go_wp2_with fail
   refine (next_any 0 n _ h0 h1 hn0 hn1).mono ?_
   rintro e w' ⟨rfl,rfl⟩
   rw [HB.out]
   generalize nS 0 n=s1
   go_wp2_with fail
   refine (firstState_any n _ hn0 hn1).mono ?_
   rintro e w' ⟨rfl,rfl⟩
   generalize firstI n=s2 at*
   go_wp2
   go_end0
   exact ⟨rfl,by rw [HS.out];exact HM.out,((Below.refl B w).setCell hBM _).setCell hBM _⟩
  ·have hz':(st !=0)=true:=bne_iff_ne.mpr hz
   by_cases hk:kI st=0
   ·have HS:=Lib.hid (show stepM (st,f,acc) at0 n=(11,f,acc) by simp [stepM,hb,hz,hk])
    have HM:=Lib.hid (h.set0 11)
    have HH:=Lib.hid h
    have HK:=Lib.hid hk
    clear hb hk h hz
    go_enter Tryz.func203,Tryz.ntmps203
    go_wp2_with fail
    refine (next_any st n _ h0 h1 hn0 hn1).mono ?_
    rintro e w' ⟨rfl,rfl⟩
    rw [HB.out]
    generalize nS st n=s1
    go_wp2_with fail
    refine (end_no B M at0 f st acc _ HH.out h0 h1 HK.out).mono ?_
    rintro e w' ⟨rfl,rfl⟩
    go_wp2
    refine bodyPost_ret (results_none rfl _ _ _) rfl ?_
    exact ⟨rfl,by rw [HS.out];exact HM.out,(Below.refl B w).setCell hBM _⟩
   ·have HS:=Lib.hid (show stepM (st,f,acc) at0 n=(firstI n,at0,acc++[(kI st,f,at0)]) by simp [stepM,hb,hz,hk])
    have HH:=Lib.hid h
    have HK:=Lib.hid hk
    clear hb hk h hz
    go_enter Tryz.func203,Tryz.ntmps203
    go_wp2_with fail
    refine (next_any st n _ h0 h1 hn0 hn1).mono ?_
    rintro e w' ⟨rfl,rfl⟩
    rw [HB.out]
    generalize nS st n=s1
    go_wp2_with fail
    refine (end_yes B M at0 f st acc _ HH.out h0 h1 HK.out hlen).mono ?_
    rintro e w1 ⟨rfl,hm1,hb1⟩
    have HM:=Lib.hid ((hm1.set0 (firstI n)).set1 at0)
    have HB1:=Lib.hid hb1
    obtain ⟨d0,g0,d1,g1⟩:=hm1.cells
    clear hm1 hb1 c0 f0 c1 f1
    go_wp2_with fail
    refine (firstState_any n _ hn0 hn1).mono ?_
    rintro e w' ⟨rfl,rfl⟩
    generalize firstI n=s2 at*
    go_wp2
    go_end0
    exact ⟨rfl,by rw [HS.out];exact HM.out,(HB1.out.setCell hBM _).setCell hBM _⟩
theorem plainLine_any (s:ByteArray) (w:World) (hs:s.size≤maxLen):
  Calls Tryz.prog 160 #[.string s] w fun e w'=>e= .returned (.bool (plainL s.data.toList))∧w=w':=by
 unfold maxLen at hs
 go_enter Tryz.func160,Tryz.ntmps160
 go_wp2
 go_loop [3,6] (fun _ i=> ∃k:Nat,k≤s.size∧i= .int .i64 k∧plainL (s.data.toList.take k)=true) (fun _ i=>s.size-(intOf i).toNat)
 case atStart=>exact ⟨0,Nat.zero_le _,rfl,rfl⟩
 case round=>
  obtain ⟨k,hk,rfl,hok⟩:=hrel
  have HK:=Lib.hid hok;clear hok
  by_cases hlt:k<s.size
  ·have hb0:(s[k].toNat:Int)≤255:=by have:=s[k].toNat_lt;omega
   go_wp2_with fail
   refine (plainByte_any _ _ (by omega) (by omega)).mono ?_
   rintro e w' ⟨rfl,rfl⟩
   by_cases he:plainI (s[k].toNat:Int)=true
   ·have HE:=Lib.hid (plainL_next s k hlt HK.out he)
    rw [he];clear he
    go_wp2
    go_round
    case rel=>exact ⟨k+1,by omega,by go_num,HE.out⟩
    case measure=>simp [intOf];omega
   ·have HE:=Lib.hid (plainL_bad s k hlt (Bool.eq_false_iff.mpr he))
    rw [Bool.eq_false_iff.mpr he];clear he
    go_wp2
    go_ret
    exact ⟨ret_bool HE.out.symm,rfl⟩
  ·go_wp2
   go_ret
   have:=HK.out
   rw [List.take_of_length_le (by simp;omega)] at this
   exact ⟨ret_bool this.symm,rfl⟩
def okT (s:ByteArray):Bool:=decide (s.size≤20000)&&plainL s.data.toList&&resB (0,0,[]) 0 s.data.toList
def toksT (s:ByteArray):List (Int×Nat×Nat):=if okT s=true then resL (0,0,[]) 0 s.data.toList else []
def NewToks (ok:Bool) (L:List (Int×Nat×Nat)) (w:World) (e:Ending) (w':World):Prop:=
 ∃v,e= .returned (.tuple #[v, .bool ok])∧w'.ownsRow w.heap.size 158 3 v L.length (flatT L)∧Below w.heap.size w w'
theorem runM_len (l:List UInt8): ∀m a,(runM m a l).2.2.length≤m.2.2.length+l.length:=by
 induction l with
 |nil=>intro m a;simp [runM]
 |cons b t ih=>
  intro m a
  rw [runM]
  have h1:=ih (stepM m a (b.toNat:Int)) (a+1)
  have h2:(stepM m a (b.toNat:Int)).2.2.length≤m.2.2.length+1:=by
   unfold stepM
   split
   ·simp
   ·split
    ·simp
    ·split<;>simp
  rw [List.length_cons];omega
theorem inText_bd (n:Int):0≤inTextI n∧inTextI n≤11:=by
 unfold inTextI;split
 ·omega
 ·split<;>omega
theorem nS_bd (st n:Int):0≤nS st n∧nS st n≤11:=by
 have:=inText_bd n
 unfold nS;repeat' split
 all_goals omega
theorem first_bd (n:Int):0≤firstI n∧firstI n≤11:=by
 unfold firstI;repeat' split
 all_goals omega
theorem stepM_bd (m:Int×Nat×List (Int×Nat×Nat)) (a:Nat) (n:Int):0≤(stepM m a n).1∧(stepM m a n).1≤11:=by
 have h1:=nS_bd m.1 n;have h2:=first_bd n
 unfold stepM
 split
 ·exact h1
 ·split
  ·exact h2
  ·split
   ·simp
   ·exact h2
theorem runM_bd (l:List UInt8): ∀m a,0≤m.1→m.1≤11→0≤(runM m a l).1∧(runM m a l).1≤11:=by
 induction l with
 |nil=>intro m a h0 h1;exact ⟨h0,h1⟩
 |cons b t ih=>intro m a h0 h1;rw [runM];exact ih _ _ (stepM_bd _ _ _).1 (stepM_bd _ _ _).2
theorem runM_next (s:ByteArray) (k:Nat) (h:k<s.size):runM (0,0,[]) 0 (s.data.toList.take (k+1))=stepM (runM (0,0,[]) 0 (s.data.toList.take k)) k (s[k].toNat:Int):=by
 have hl:s.data.toList.length=s.size:=by rw [Array.length_toList];rfl
 rw [take_snoc s k h,runM_snoc,List.length_take,Nat.min_eq_left (by omega)]
theorem results_tmp2' {fn:Func} {t u:Tmp} (h:fn.results= #[.tmp t, .tmp u]) (tmps:Array Value) (P:Program) (w:World):
  (results fn tmps).run P w= .ok (.tuple #[tmps.getD t undef,tmps.getD u undef]) w:=by simp [results,h]
theorem tokensOf_impl (s:ByteArray) (w:World) (hs:s.size≤maxLen):
  Calls Tryz.prog 185 #[.string s] w (NewToks (okT s) (toksT s) w):=by
 have HMX:=Lib.hid hs
 unfold maxLen at hs
 have hlen:s.data.toList.length=s.size:=by rw [Array.length_toList];rfl
 by_cases h20:s.size≤20000
 ·cases hp:plainL s.data.toList with
  |true=>
   have HP:=Lib.hid hp
   have HOK:=Lib.hid (show okT s=resB (0,0,[]) 0 s.data.toList by rw [okT,hp,decide_eq_true h20];rfl)
   have HLEN:=Lib.hid hlen
   clear hp hlen
   go_enter Tryz.func185,Tryz.ntmps185
   go_wp2_with fail
   refine (plainLine_any s _ HMX.out).mono ?_
   rintro e w' ⟨rfl,rfl⟩
   rw [HP.out]
   go_wp2_with fail
   go_loopw [5,16] (fun _ i wr=> ∃k:Nat,k≤s.size∧i= .int .i64 (k:Int)∧Mach w.heap.size wr w.heap.size (runM (0,0,[]) 0 (s.data.toList.take k))∧Below w.heap.size w wr) (fun _ i _=>s.size-(intOf i).toNat)
   case atStart=>
    refine ⟨0,Nat.zero_le _,rfl,⟨_,BlkM.new w _ _,World.ownsRow_nil _ _ _ _,Nat.le_refl _⟩,(Below.refl _ _).alloc (Nat.le_refl _) _⟩
   case round=>
    obtain ⟨k,hk,rfl,hm,hbel⟩:=hrel
    have HB:=Lib.hid hbel;clear hbel
    have HM:=Lib.hid hm;clear hm
    have hbd:=runM_bd (s.data.toList.take k) (0,0,[]) 0 (by simp) (by simp)
    have hln:=runM_len (s.data.toList.take k) (0,0,[]) 0
    rw [List.length_take,HLEN.out] at hln
    simp only [List.length_nil] at hln
    have hln':(runM (0,0,[]) 0 (s.data.toList.take k)).2.2.length≤100000:=by omega
    clear hln
    by_cases hlt:k<s.size
    ·have hb0:(s[k].toNat:Int)≤255:=by have:=s[k].toNat_lt;omega
     have HN:=Lib.hid (runM_next s k hlt)
     go_wp2_with fail
     refine (step_any w.heap.size w.heap.size k (s[k].toNat:Int) _ _ HM.out hbd.1 hbd.2 (by omega) (by omega) hln').mono ?_
     rintro e w1 ⟨rfl,hm1,hb1⟩
     have HM1:=Lib.hid hm1;have HB1:=Lib.hid (HB.out.trans hb1)
     clear hm1 hb1
     go_wp2
     go_roundw
     case rel=>exact ⟨k+1,by omega,by go_num,by rw [HN.out];exact HM1.out,HB1.out⟩
     case measure=>simp [intOf];omega
    ·obtain rfl:k=s.size:=by omega
     have HT:=Lib.hid (show s.data.toList.take s.size=s.data.toList from List.take_of_length_le (by rw [HLEN.out];exact Nat.le_refl _))
     rw [HT.out] at HM hbd hln'
     go_wp2_with fail
     refine (step_any w.heap.size w.heap.size s.size 32 _ _ HM.out hbd.1 hbd.2 (by omega) (by omega) hln').mono ?_
     rintro e w1 ⟨rfl,hm1,hb1⟩
     have HB1:=Lib.hid (HB.out.trans hb1)
     have HE:=Lib.hid (show stepM (runM (0,0,[]) 0 s.data.toList) s.size 32=endM (0,0,[]) 0 s.data.toList by unfold endM;rw [HLEN.out,Nat.zero_add])
     rw [HE.out] at hm1
     clear hb1
     generalize hm:endM (0,0,[]) 0 s.data.toList=m at hm1
     have HMM:=Lib.hid hm;clear hm
     obtain ⟨st,f,acc⟩:=m
     obtain ⟨d0,g0,d1,g1⟩:=hm1.cells
     obtain ⟨v,hbk,hown,-⟩:=hm1
     have d2:w1.cell? ⟨w.heap.size,2,none⟩=some v:=hbk.cell 2
     have HO:=Lib.hid hown
     obtain ⟨av,cv,hv⟩: ∃a c,v= .slice a acc.length c:=by
      rcases hown.2 with ⟨rfl,h0⟩|⟨g',cap,cur,rfl,_⟩
      ·exact ⟨none,0,by rw [h0]⟩
      ·exact ⟨_,_,rfl⟩
     subst hv
     clear hbk hown
     by_cases hz:st=0
     ·subst hz
      have HR:=Lib.hid (show okT s=true by rw [HOK.out,resB,HMM.out];rfl)
      have HL:=Lib.hid (show toksT s=acc by rw [toksT,HR.out,if_pos rfl,resL,resB,HMM.out];simp)
      go_wp2
      refine bodyPost_ret (results_tmp2' rfl _ _ _) rfl ?_
      exact ⟨_,by rw [HR.out];rfl,by rw [HL.out];exact HO.out,HB1.out⟩
     ·have hz':(st !=0)=true:=bne_iff_ne.mpr hz
      have HR:=Lib.hid (show okT s=false by rw [HOK.out,resB,HMM.out];simp [hz])
      have HL:=Lib.hid (show toksT s=[] by rw [toksT,HR.out];rfl)
      clear hz
      go_wp2
      refine bodyPost_ret (results_tmp2' rfl _ _ _) rfl ?_
      exact ⟨_,by rw [HR.out];rfl,by rw [HL.out];exact World.ownsRow_nil _ _ _ _,HB1.out⟩
  |false=>
   have HP:=Lib.hid hp
   have HR:=Lib.hid (show okT s=false by rw [okT,hp];simp)
   have HL:=Lib.hid (show toksT s=[] by rw [toksT,HR.out];rfl)
   clear hp hlen
   go_enter Tryz.func185,Tryz.ntmps185
   go_wp2_with fail
   refine (plainLine_any s _ HMX.out).mono ?_
   rintro e w' ⟨rfl,rfl⟩
   rw [HP.out]
   go_wp2
   refine bodyPost_ret (results_tmp2' rfl _ _ _) rfl ?_
   exact ⟨_,by rw [HR.out];rfl,by rw [HL.out];exact World.ownsRow_nil _ _ _ _,Below.refl _ _⟩
 ·have HR:=Lib.hid (show okT s=false by rw [okT,decide_eq_false h20];rfl)
  have HL:=Lib.hid (show toksT s=[] by rw [toksT,HR.out];rfl)
  clear hlen
  go_enter Tryz.func185,Tryz.ntmps185
  go_wp2
  refine bodyPost_ret (results_tmp2' rfl _ _ _) rfl ?_
  exact ⟨_,by rw [HR.out];rfl,by rw [HL.out];exact World.ownsRow_nil _ _ _ _,Below.refl _ _⟩
def RowT (w:World) (v:Value) (n:Nat) (L:List Value):Prop:=
 L.length=n*3∧ ∃ao cap,v= .slice ao n cap∧n≤cap∧cap≤maxLen∧(n=0∨ ∃b,ao=some ⟨b,0,none⟩∧b<w.heap.size∧ ∀(j:Nat) t,L[j]? =some t→w.cell? ⟨b,j,none⟩=some t)
theorem RowT.mono {w w':World} {v:Value} {n:Nat} {L:List Value} (h:RowT w v n L) (hb:Below w.heap.size w w'):RowT w' v n L:=by
 obtain ⟨h0,ao,cap,hv,h1,h2,h3⟩:=h
 refine ⟨h0,ao,cap,hv,h1,h2, ?_⟩
 rcases h3 with h3|⟨b,ha,hlt,hj⟩
 ·exact .inl h3
 ·exact .inr ⟨b,ha,Nat.lt_of_lt_of_le hlt hb.size,fun j t ht=>by rw [hb.cell (by exact hlt)];exact hj j t ht⟩
theorem RowT.of_own {w:World} {base:Nat} {e:TypeId} {v:Value} {n:Nat} {L:List Value} (h:w.ownsRow base e 3 v n L):RowT w v n L:=by
 have h0:=h
 obtain ⟨hl,h2⟩:=h
 refine ⟨hl, ?_⟩
 rcases h2 with ⟨rfl,rfl⟩|⟨g,cap,cur,rfl,hg,hh,h1,h2,_⟩
 ·exact ⟨none,0,rfl,Nat.le_refl _,by unfold maxLen;omega, .inl rfl⟩
 ·refine ⟨_,cap,rfl,h1,h2, .inr ⟨g,rfl, ?_, ?_⟩⟩
  ·by_cases hk:g<w.heap.size
   ·exact hk
   ·rw [Array.getElem?_eq_none (by omega)] at hh;cases hh
  ·intro j t ht
   have hlt:j<L.length:=by
    by_cases hk:j<L.length
    ·exact hk
    ·rw [List.getElem?_eq_none (by omega)] at ht;cases ht
   rw [h0.cellAt j (by omega)]
   exact ht
theorem flatT_at (L:List (Int×Nat×Nat)): ∀(k:Nat) (h:k<L.length),(flatT L)[k*3]? =some (.int .i64 L[k].1)∧(flatT L)[k*3+1]? =some (.int .i64 (L[k].2.1:Int))∧(flatT L)[k*3+2]? =some (.int .i64 (L[k].2.2:Int)):=by
 induction L with
 |nil=>intro k h;simp at h
 |cons a t ih=>
  intro k h
  have e:flatT (a::t)= .int .i64 a.1:: .int .i64 (a.2.1:Int):: .int .i64 (a.2.2:Int)::flatT t:=by simp [flatT]
  cases k with
  |zero=>rw [e];exact ⟨rfl,rfl,rfl⟩
  |succ k=>
   have hk:k<t.length:=by simpa using h
   obtain ⟨h1,h2,h3⟩:=ih k hk
   rw [e,show (k+1)*3=k*3+3 by omega]
   exact ⟨h1,h2,h3⟩
def spaces (l:List UInt8):Bool:=l.all fun b=>(b.toNat:Int)==32
def Cover:Nat→List UInt8→List (Int×Nat×Nat)→Prop
 |a,l,[]=>spaces l=true
 |a,l,(k,f,t)::ts=> ∃j n,f=a+j∧t=a+j+n∧j≤l.length∧spaces (l.take j)=true∧TokAt (l.drop j) n k∧Cover (a+j+n) (l.drop (j+n)) ts
theorem cover_space (a:Nat) (b:UInt8) (l:List UInt8) (ts:List (Int×Nat×Nat)) (hb:(b.toNat:Int)=32) (h:Cover (a+1) l ts):Cover a (b::l) ts:=by
 cases ts with
 |nil=>simp only [Cover,spaces,List.all_cons,hb] at h⊢;simpa using h
 |cons x ts=>
  obtain ⟨k,f,t⟩:=x
  obtain ⟨j,n,h1,h2,h3,h4,h5,h6⟩:=h
  refine ⟨j+1,n,by omega,by omega,by simpa using h3, ?_,by simpa using h5, ?_⟩
  ·simp only [spaces,List.take_succ_cons,List.all_cons,hb] at h4⊢;simpa using h4
  ·rw [show a+(j+1)+n=a+1+j+n by omega,show j+1+n=(j+n)+1 by omega,List.drop_succ_cons];exact h6
theorem cover_of (m:Nat): ∀(l:List UInt8) (a f:Nat) (acc:List (Int×Nat×Nat)),l.length≤m→(endM (0,f,acc) a l).1=0→ ∃ts,(endM (0,f,acc) a l).2.2=acc++ts∧Cover a l ts:=by
 induction m with
 |zero=>
  intro l a f acc hl h
  obtain rfl:l=[]:=List.eq_nil_of_length_eq_zero (by omega)
  refine ⟨[], ?_,rfl⟩
  unfold endM;rw [runM,step_zero];simp
 |succ m ih=>
  intro l a f acc hl h
  cases l with
  |nil=>
   refine ⟨[], ?_,rfl⟩
   unfold endM;rw [runM,step_zero];simp
  |cons b t=>
   by_cases hb:(b.toNat:Int)=32
   ·rw [end_space _ _ _ _ _ hb] at h⊢
    obtain ⟨ts,h1,h2⟩:=ih t (a+1) a acc (by simpa using hl) h
    exact ⟨ts,h1,cover_space a b t ts hb h2⟩
   ·by_cases hk:endK (b::t)=0
    ·exact absurd h (end_bad f a acc b t hb hk)
    ·have ht:=end_ok b t hb hk
     have hr:=ht.read f a acc
     rw [hr.2] at h⊢
     obtain ⟨ts,h1,h2⟩:=ih _ _ _ _ (by rw [List.length_drop];omega) h
     refine ⟨(endK (b::t),a,a+endN (b::t))::ts,by rw [h1];simp,0,endN (b::t),rfl,rfl,by omega,rfl,ht, ?_⟩
     simpa using h2
theorem res_cover {l:List UInt8} (h:resB (0,0,[]) 0 l=true):Cover 0 l (resL (0,0,[]) 0 l):=by
 have h0:(endM (0,0,[]) 0 l).1=0:=by simpa [resB] using h
 obtain ⟨ts,h1,h2⟩:=cover_of l.length l 0 0 [] (Nat.le_refl _) h0
 rw [List.nil_append] at h1
 rw [resL,if_pos h,h1];exact h2
theorem TokAt.le {l:List UInt8} {n:Nat} {k:Int} (h:TokAt l n k):1≤n∧n≤l.length:=by
 have h1:=(h.read 0 0 []).1
 obtain ⟨b,t,-,-,-,-,hle,-⟩:=h
 exact ⟨h1,hle⟩
theorem cover_in (ts:List (Int×Nat×Nat)): ∀(a:Nat) (l:List UInt8),Cover a l ts→ ∀x∈ts,a≤x.2.1∧x.2.1<x.2.2∧x.2.2≤a+l.length:=by
 induction ts with
 |nil=>intro a l _ x hx;cases hx
 |cons y ts ih=>
  intro a l h x hx
  obtain ⟨k,f,t⟩:=y
  obtain ⟨j,n,h1,h2,h3,h4,h5,h6⟩:=h
  have hle:=h5.le
  rw [List.length_drop] at hle
  rcases List.mem_cons.mp hx with rfl|hx
  ·simp only;omega
  ·have:=ih _ _ h6 x hx
   rw [List.length_drop] at this
   omega
def shT (d:Nat) (x:Int×Nat×Nat):Int×Nat×Nat:=(x.1,x.2.1+d,x.2.2+d)
def shM (d:Nat) (acc:List (Int×Nat×Nat)) (m:Int×Nat×List (Int×Nat×Nat)):Int×Nat×List (Int×Nat×Nat):=(m.1,m.2.1+d,acc++m.2.2.map (shT d))
theorem step_sh (d:Nat) (acc:List (Int×Nat×Nat)) (m:Int×Nat×List (Int×Nat×Nat)) (a:Nat) (n:Int):stepM (shM d acc m) (a+d) n=shM d acc (stepM m a n):=by
 obtain ⟨st,f,X⟩:=m
 by_cases h1:nB st n=true
 ·simp [stepM,shM,h1]
 ·by_cases h2:st=0
  ·subst h2;simp [stepM,shM,nB_zero]
  ·by_cases h3:kI st=0
   ·simp [stepM,shM,h1,h2,h3]
   ·simp [stepM,shM,shT,h1,h2,h3]
theorem run_sh (d:Nat) (acc:List (Int×Nat×Nat)) (l:List UInt8): ∀m a,runM (shM d acc m) (a+d) l=shM d acc (runM m a l):=by
 induction l with
 |nil=>intro m a;rfl
 |cons b t ih=>intro m a;rw [runM,runM,step_sh,show a+d+1=a+1+d by omega,ih]
theorem end_sh (d:Nat) (acc:List (Int×Nat×Nat)) (l:List UInt8) (m:Int×Nat×List (Int×Nat×Nat)) (a:Nat):endM (shM d acc m) (a+d) l=shM d acc (endM m a l):=by
 unfold endM;rw [run_sh,show a+d+l.length=a+l.length+d by omega,step_sh]
theorem end_both (l1 l2:List UInt8) (b:UInt8) (hb:(b.toNat:Int)=32) (h1:(endM (0,0,[]) 0 l1).1=0):
  endM (0,0,[]) 0 (l1++b::l2)=shM (l1.length+1) (endM (0,0,[]) 0 l1).2.2 (endM (0,0,[]) 0 l2):=by
 generalize hm:endM (0,0,[]) 0 l1=m at h1
 obtain ⟨st,f,T1⟩:=m
 simp only at h1
 subst h1
 have e:endM (0,0,[]) 0 (l1++b::l2)=endM (0,f,T1) (l1.length+1) l2:=by
  conv=>lhs;unfold endM
  rw [runM_app,runM,hb]
  have:stepM (runM (0,0,[]) 0 l1) (0+l1.length) 32=(0,f,T1):=hm
  rw [this]
  unfold endM
  simp only [List.length_append,List.length_cons,Nat.zero_add]
  congr 1;omega
 rw [e,end_from f (0+(l1.length+1))]
 have:=end_sh (l1.length+1) T1 l2 (0,0,[]) 0
 simp only [shM,List.map_nil,List.append_nil,Nat.zero_add] at this⊢
 exact this
def W (l:List UInt8):List (List UInt8):=(resL (0,0,[]) 0 l).map fun t=>(l.drop t.2.1).take (t.2.2-t.2.1)
theorem W_both (l1 l2:List UInt8) (b:UInt8) (hb:(b.toNat:Int)=32) (h1:resB (0,0,[]) 0 l1=true) (h2:resB (0,0,[]) 0 l2=true):
  resB (0,0,[]) 0 (l1++b::l2)=true∧W (l1++b::l2)=W l1++W l2:=by
 have e1:(endM (0,0,[]) 0 l1).1=0:=by simpa [resB] using h1
 have e2:(endM (0,0,[]) 0 l2).1=0:=by simpa [resB] using h2
 have e:=end_both l1 l2 b hb e1
 have hr:resB (0,0,[]) 0 (l1++b::l2)=true:=by simp [resB,e,shM,e2]
 refine ⟨hr, ?_⟩
 have c1:=cover_in _ _ _ (res_cover h1)
 unfold W
 have eL:resL (0,0,[]) 0 (l1++b::l2)=resL (0,0,[]) 0 l1++(resL (0,0,[]) 0 l2).map (shT (l1.length+1)):=by
  rw [resL,if_pos hr,resL,if_pos h1,resL,if_pos h2,e];rfl
 rw [eL,List.map_append,List.map_map]
 congr 1
 ·apply List.map_congr_left
  intro x hx
  have:=c1 x hx
  rw [List.drop_append_of_le_length (by omega),List.take_append_of_le_length (by rw [List.length_drop];omega)]
 ·apply List.map_congr_left
  intro x hx
  simp only [Function.comp,shT]
  rw [show x.2.1+(l1.length+1)=(l1.length+1)+x.2.1 by omega,←List.drop_drop]
  rw [show (l1++b::l2).drop (l1.length+1)=l2 by
   rw [←List.drop_drop,List.drop_left];rfl]
  congr 1;omega
theorem W_nil:resB (0,0,[]) 0 []=true∧W []=[]:=by
 have:=res_nil 0 0 []
 exact ⟨this.1,by unfold W;rw [this.2];rfl⟩
theorem W_space (b:UInt8) (l:List UInt8) (hb:(b.toNat:Int)=32) (h:resB (0,0,[]) 0 l=true):resB (0,0,[]) 0 (b::l)=true∧W (b::l)=W l:=by
 have:=W_both [] l b hb W_nil.1 h
 rw [W_nil.2] at this
 simpa using this
theorem cover_alone (ts:List (Int×Nat×Nat)): ∀(a:Nat) (l:List UInt8),Cover a l ts→ ∀x∈ts,endM (0,0,[]) 0 ((l.drop (x.2.1-a)).take (x.2.2-x.2.1))=(0,x.2.2-x.2.1,[(x.1,0,x.2.2-x.2.1)]):=by
 induction ts with
 |nil=>intro a l _ x hx;cases hx
 |cons y ts ih=>
  intro a l h x hx
  have hin:=cover_in _ _ _ h
  obtain ⟨k,f,t⟩:=y
  obtain ⟨j,n,h1,h2,h3,h4,h5,h6⟩:=h
  rcases List.mem_cons.mp hx with rfl|hx
  ·simp only
   rw [show f-a=j by omega,show t-f=n by omega]
   exact h5.alone
  ·have h7:=ih _ _ h6 x hx
   have h8:=cover_in _ _ _ h6 x hx
   rw [List.drop_drop,show j+n+(x.2.1-(a+j+n))=x.2.1-a by omega] at h7
   exact h7
theorem W_alone {l:List UInt8} (h:resB (0,0,[]) 0 l=true): ∀u∈W l,resB (0,0,[]) 0 u=true∧W u=[u]:=by
 intro u hu
 unfold W at hu
 rw [List.mem_map] at hu
 obtain ⟨x,hx,rfl⟩:=hu
 have hc:=res_cover h
 have ha:=cover_alone _ _ _ hc x hx
 have hi:=cover_in _ _ _ hc x hx
 rw [Nat.sub_zero] at ha
 have hr:resB (0,0,[]) 0 ((l.drop x.2.1).take (x.2.2-x.2.1))=true:=by simp [resB,ha]
 refine ⟨hr, ?_⟩
 have hlen:((l.drop x.2.1).take (x.2.2-x.2.1)).length=x.2.2-x.2.1:=by rw [List.length_take,List.length_drop];omega
 conv=>lhs;unfold W
 rw [resL,if_pos hr,ha]
 simp only [List.map_cons,List.map_nil,List.drop_zero,Nat.sub_zero]
 rw [List.take_of_length_le (by rw [hlen];exact Nat.le_refl _)]
def joinW:List (List UInt8)→List UInt8
 |[]=>[]
 |u::us=>u++32::32::joinW us
theorem W_join (us:List (List UInt8)) (h: ∀u∈us,resB (0,0,[]) 0 u=true∧W u=[u]):resB (0,0,[]) 0 (joinW us)=true∧W (joinW us)=us:=by
 induction us with
 |nil=>exact W_nil
 |cons u us ih=>
  have h1:=h u List.mem_cons_self
  have h2:=ih (fun v hv=>h v (List.mem_cons_of_mem _ hv))
  have h3:=W_space 32 (joinW us) rfl h2.1
  have h4:=W_both u (32::joinW us) 32 rfl h1.1 h3.1
  refine ⟨h4.1, ?_⟩
  show W (u++32::32::joinW us)=_
  rw [h4.2,h1.2,h3.2,h2.2];rfl
end Go.Proofs.YtegdjjjpoahamaaGreatDoor
