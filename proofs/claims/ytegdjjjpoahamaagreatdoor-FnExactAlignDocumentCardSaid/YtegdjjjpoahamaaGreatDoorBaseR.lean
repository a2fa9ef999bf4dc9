/-
  Several texts of the proof in one file: TkPlain, RgPlain, RdrI, RdrT, RdrM, RdrG, RdrU, RdrC, RdrB, RdrS, RdrN, RdrL, RdrA.
-/
import Derived.Test.YtegdjjjpoahamaaGreatDoorBaseE
import Derived.Test.YtegdjjjpoahamaaGreatDoorBaseP
import Derived.Test.YtegdjjjpoahamaaGreatDoorBaseX
import Derived.Test.YtegdjjjpoahamaaGreatDoorBaseT
import Derived.Deep.RegionWith
import Derived.Deep.QuietTactic
import Derived.BigQuiet
import Derived.Deep.DeepCutAuto
import Derived.Deep.AppendLies
import Derived.Test.YtegdjjjpoahamaaGreatDoorUnqImpl
import Derived.Test.YtegdjjjpoahamaaGreatDoorBaseA
set_option linter.unusedVariables false
set_option maxHeartbeats 4000000
set_option maxRecDepth 100000
namespace Go.Proofs.YtegdjjjpoahamaaGreatDoor
abbrev Tk:=Int×ByteArray
def isT (tk:List Tk) (at_:Nat) (w:List UInt8):Bool:=match tk[at_]? with
 |some (k,s)=>k==4&&s.data.toList==w
 |none=>false
def rkT (tk:List Tk) (at_:Nat):Int:=match tk[at_]? with
 |some (k,s)=>if k=4 then rankL s.data.toList else 0
 |none=>0
def numOK (s:ByteArray):Bool:=opOK (decV s.data.toList) (decX s.data.toList) (decY s.data.toList)
def numWd (s:ByteArray):ByteArray:=⟨(textF (opT (decV s.data.toList) (decX s.data.toList) (decY s.data.toList)) (opB (decV s.data.toList) (decX s.data.toList) (decY s.data.toList))).toArray⟩
def unaryT (tk:List Tk) (at_:Nat):Bool:=isT tk at_ [33]||isT tk at_ [45]
theorem isT_lt {tk:List Tk} {p:Nat} {w:List UInt8} (h:isT tk p w=true):p<tk.length:=by
 unfold isT at h
 cases hk:tk[p]? with
 |none=>rw [hk] at h;cases h
 |some x=>exact (List.getElem?_eq_some_iff.mp hk).1
theorem at_lt {tk:List Tk} {p:Nat} {x:Tk} (h:tk[p]? =some x):p<tk.length:=(List.getElem?_eq_some_iff.mp h).1
theorem isT_kind {tk:List Tk} {p:Nat} {w:List UInt8} (h:isT tk p w=true): ∃s,tk[p]? =some (4,s)∧s.data.toList=w:=by
 unfold isT at h
 cases hk:tk[p]? with
 |none=>rw [hk] at h;cases h
 |some x=>
  obtain ⟨k,s⟩:=x
  rw [hk] at h
  simp only [Bool.and_eq_true,beq_iff_eq] at h
  exact ⟨s,by rw [h.1],h.2⟩
inductive GJob
 |choice
 |bin (r:Nat)
 |loop (r:Nat) (a:List Cl) (na:Nat)
 |unary
 |single
 |series (close:List UInt8) (many:Nat) (out:List Cl) (no:Nat)
inductive Rg (tk:List Tk):GJob→Nat→List Cl→Nat→Nat→Nat→Prop
 |one {p a q m n}:Rg tk (.bin 2) p a q m n→isT tk q [63]=false→Rg tk .choice p a q 0 n
 |three {p a q m n b q2 m2 n2 c q3 m3 n3}:Rg tk (.bin 2) p a q m n→isT tk q [63]=true→Rg tk .choice (q+1) b q2 m2 n2→isT tk q2 [58]=true→Rg tk .choice (q2+1) c q3 m3 n3→
   Rg tk .choice p ((9,⟨#[]⟩,3)::(a++(b++c))) q3 0 (max n (max n2 n3)+1)
 |bin {r p a q m n c q2 m2 n2}:Rg tk .unary p a q m n→Rg tk (.loop r a n) q c q2 m2 n2→Rg tk (.bin r) p c q2 0 n2
 |stop {r:Nat} {a:List Cl} {na p:Nat}:rkT tk p<(r:Int)→Rg tk (.loop r a na) p a p 0 na
 |more {r k:Nat} {a:List Cl} {na p:Nat} {s:ByteArray} {b:List Cl} {q m n:Nat} {c:List Cl} {q2 m2 n2:Nat}:rkT tk p=(k:Int)→r≤k→0<k→tk[p]? =some (4,s)→Rg tk (.bin (k+1)) (p+1) b q m n→ ¬(k=4∧rkT tk q=4)→
   Rg tk (.loop r ((8,s,2)::(a++b)) (max na n)) q c q2 m2 n2→Rg tk (.loop r a na) p c q2 0 n2
 |sign {p s a q m n}:unaryT tk p=true→tk[p]? =some (4,s)→Rg tk .unary (p+1) a q m n→Rg tk .unary p ((7,s,1)::a) q 0 (n+1)
 |plain {p a q m n}:unaryT tk p=false→Rg tk .single p a q m n→Rg tk .unary p a q 0 n
 |num {p s}:tk[p]? =some (2,s)→numOK s=true→Rg tk .single p [(1,numWd s,0)] (p+1) 0 0
 |text {p s}:tk[p]? =some (3,s)→unqOK s=true→Rg tk .single p [(2,unqT s,0)] (p+1) 0 0
 |truth {p s}:tk[p]? =some (1,s)→(s.data.toList=trueL∨s.data.toList=falseL)→Rg tk .single p [(3,s,0)] (p+1) 0 0
 |name {p s}:tk[p]? =some (1,s)→s.data.toList≠trueL→s.data.toList≠falseL→isT tk (p+1) [40]=false→Rg tk .single p [(4,s,0)] (p+1) 0 0
 |call {p s l q m n}:tk[p]? =some (1,s)→s.data.toList≠trueL→s.data.toList≠falseL→isT tk (p+1) [40]=true→Rg tk (.series [41] 0 [] 0) (p+2) l q m n→Rg tk .single p ((6,s,(m:Int))::l) q 0 (n+1)
 |paren {p a q m n}:isT tk p [40]=true→Rg tk .choice (p+1) a q m n→isT tk q [41]=true→Rg tk .single p a (q+1) 0 (n+1)
 |list {p l q m n}:isT tk p [91]=true→Rg tk (.series [93] 0 [] 0) (p+1) l q m n→Rg tk .single p ((5,⟨#[]⟩,(m:Int))::l) q 0 (n+1)
 |close {w k out no p}:isT tk p w=true→Rg tk (.series w k out no) p out (p+1) k no
 |part {w k out no p p0 a q m n c q2 m2 n2}:isT tk p w=false→(k=0→p0=p)→(k≠0→isT tk p [44]=true∧p0=p+1)→Rg tk .choice p0 a q m n→Rg tk (.series w (k+1) (out++a) (max no n)) q c q2 m2 n2→Rg tk (.series w k out no) p c q2 m2 n2
theorem tf' {b:Bool} (h:b=true) (k:b=false):False:=by rw [h] at k;cases k
theorem tk_uniq {tk:List Tk} {p:Nat} {x y:Tk} (h:tk[p]? =some x) (k:tk[p]? =some y):x=y:=by rw [h] at k;injection k
theorem isT_not {tk:List Tk} {p:Nat} {k:Int} {s:ByteArray} {w:List UInt8} (h:tk[p]? =some (k,s)) (hk:k≠4):isT tk p w=false:=by
 unfold isT;rw [h];simp [hk]
theorem isT_two {tk:List Tk} {p:Nat} {v w:List UInt8} (h:isT tk p v=true) (k:isT tk p w=true):v=w:=by
 obtain ⟨s,h1,rfl⟩:=isT_kind h
 obtain ⟨s',h2,rfl⟩:=isT_kind k
 have:=tk_uniq h1 h2
 simp only [Prod.mk.injEq,true_and] at this
 rw [this]
theorem Rg.uniq {tk:List Tk} {j:GJob} {p:Nat} {c:List Cl} {q m n:Nat} (h:Rg tk j p c q m n): ∀{c':List Cl} {q' m' n':Nat},Rg tk j p c' q' m' n'→c=c'∧q=q'∧m=m'∧n=n':=by
 induction h with
 |one h1 h2 i1=>
  intro c' q' m' n' k
  cases k with
  |one k1 k2=>obtain ⟨rfl,rfl,-,rfl⟩:=i1 k1;exact ⟨rfl,rfl,rfl,rfl⟩
  |three k1 k2 k3 k4 k5=>obtain ⟨rfl,rfl,-,rfl⟩:=i1 k1;exact (tf' k2 h2).elim
 |three h1 h2 h3 h4 h5 i1 i2 i3=>
  intro c' q' m' n' k
  cases k with
  |one k1 k2=>obtain ⟨rfl,rfl,-,rfl⟩:=i1 k1;exact (tf' h2 k2).elim
  |three k1 k2 k3 k4 k5=>
   obtain ⟨rfl,rfl,-,rfl⟩:=i1 k1
   obtain ⟨rfl,rfl,-,rfl⟩:=i2 k3
   obtain ⟨rfl,rfl,-,rfl⟩:=i3 k5
   exact ⟨rfl,rfl,rfl,rfl⟩
 |bin h1 h2 i1 i2=>
  intro c' q' m' n' k
  cases k with
  |bin k1 k2=>
   obtain ⟨rfl,rfl,-,rfl⟩:=i1 k1
   obtain ⟨rfl,rfl,-,rfl⟩:=i2 k2
   exact ⟨rfl,rfl,rfl,rfl⟩
 |stop h=>
  intro c' q' m' n' k
  cases k with
  |stop k=>exact ⟨rfl,rfl,rfl,rfl⟩
  |more k1 k2 k3 k4 k5 k6 k7=>omega
 |more h1 h2 h3 h4 h5 h6 h7 i1 i2=>
  intro c' q' m' n' k
  cases k with
  |stop k=>omega
  |more k1 k2 k3 k4 k5 k6 k7=>
   rw [h1] at k1
   have k1:=Int.ofNat_inj.mp k1
   subst k1
   have e:=tk_uniq h4 k4
   simp only [Prod.mk.injEq,true_and] at e
   subst e
   obtain ⟨rfl,rfl,-,rfl⟩:=i1 k5
   obtain ⟨rfl,rfl,-,rfl⟩:=i2 k7
   exact ⟨rfl,rfl,rfl,rfl⟩
 |sign h1 h2 h3 i1=>
  intro c' q' m' n' k
  cases k with
  |sign k1 k2 k3=>
   have e:=tk_uniq h2 k2
   simp only [Prod.mk.injEq,true_and] at e
   subst e
   obtain ⟨rfl,rfl,-,rfl⟩:=i1 k3
   exact ⟨rfl,rfl,rfl,rfl⟩
  |plain k1 k2=>exact (tf' h1 k1).elim
 |plain h1 h2 i1=>
  intro c' q' m' n' k
  cases k with
  |sign k1 k2 k3=>exact (tf' k1 h1).elim
  |plain k1 k2=>obtain ⟨rfl,rfl,-,rfl⟩:=i1 k2;exact ⟨rfl,rfl,rfl,rfl⟩
 |num h1 h2=>
  intro c' q' m' n' k
  cases k with
  |num k1 k2=>have e:=tk_uniq h1 k1;simp only [Prod.mk.injEq,true_and] at e;subst e;exact ⟨rfl,rfl,rfl,rfl⟩
  |paren k1 k2 k3=>exact (tf' k1 (isT_not h1 (by decide))).elim
  |list k1 k2=>exact (tf' k1 (isT_not h1 (by decide))).elim
  |_ k1=>have e:=tk_uniq h1 (by assumption);simp at e
 |text h1 h2=>
  intro c' q' m' n' k
  cases k with
  |text k1 k2=>have e:=tk_uniq h1 k1;simp only [Prod.mk.injEq,true_and] at e;subst e;exact ⟨rfl,rfl,rfl,rfl⟩
  |paren k1 k2 k3=>exact (tf' k1 (isT_not h1 (by decide))).elim
  |list k1 k2=>exact (tf' k1 (isT_not h1 (by decide))).elim
  |_ k1=>have e:=tk_uniq h1 (by assumption);simp at e
 |truth h1 h2=>
  intro c' q' m' n' k
  cases k with
  |truth k1 k2=>have e:=tk_uniq h1 k1;simp only [Prod.mk.injEq,true_and] at e;subst e;exact ⟨rfl,rfl,rfl,rfl⟩
  |name k1 k2 k3 k4=>have e:=tk_uniq h1 k1;simp only [Prod.mk.injEq,true_and] at e;subst e;rcases h2 with h2|h2;exact (k2 h2).elim;exact (k3 h2).elim
  |call k1 k2 k3 k4 k5=>have e:=tk_uniq h1 k1;simp only [Prod.mk.injEq,true_and] at e;subst e;rcases h2 with h2|h2;exact (k2 h2).elim;exact (k3 h2).elim
  |paren k1 k2 k3=>exact (tf' k1 (isT_not h1 (by decide))).elim
  |list k1 k2=>exact (tf' k1 (isT_not h1 (by decide))).elim
  |_ k1=>have e:=tk_uniq h1 (by assumption);simp at e
 |name h1 h2 h3 h4=>
  intro c' q' m' n' k
  cases k with
  |truth k1 k2=>have e:=tk_uniq h1 k1;simp only [Prod.mk.injEq,true_and] at e;subst e;rcases k2 with k2|k2;exact (h2 k2).elim;exact (h3 k2).elim
  |name k1 k2 k3 k4=>have e:=tk_uniq h1 k1;simp only [Prod.mk.injEq,true_and] at e;subst e;exact ⟨rfl,rfl,rfl,rfl⟩
  |call k1 k2 k3 k4 k5=>exact (tf' k4 h4).elim
  |paren k1 k2 k3=>exact (tf' k1 (isT_not h1 (by decide))).elim
  |list k1 k2=>exact (tf' k1 (isT_not h1 (by decide))).elim
  |_ k1=>have e:=tk_uniq h1 (by assumption);simp at e
 |call h1 h2 h3 h4 h5 i1=>
  intro c' q' m' n' k
  cases k with
  |truth k1 k2=>have e:=tk_uniq h1 k1;simp only [Prod.mk.injEq,true_and] at e;subst e;rcases k2 with k2|k2;exact (h2 k2).elim;exact (h3 k2).elim
  |name k1 k2 k3 k4=>exact (tf' h4 k4).elim
  |call k1 k2 k3 k4 k5=>have e:=tk_uniq h1 k1;simp only [Prod.mk.injEq,true_and] at e;subst e;obtain ⟨rfl,rfl,rfl,rfl⟩:=i1 k5;exact ⟨rfl,rfl,rfl,rfl⟩
  |paren k1 k2 k3=>exact (tf' k1 (isT_not h1 (by decide))).elim
  |list k1 k2=>exact (tf' k1 (isT_not h1 (by decide))).elim
  |_ k1=>have e:=tk_uniq h1 (by assumption);simp at e
 |paren h1 h2 h3 i1=>
  intro c' q' m' n' k
  cases k with
  |paren k1 k2 k3=>obtain ⟨rfl,rfl,-,rfl⟩:=i1 k2;exact ⟨rfl,rfl,rfl,rfl⟩
  |list k1 k2=>have:=isT_two h1 k1;simp at this
  |_ k1=>exact (tf' h1 (isT_not (by assumption) (by decide))).elim
 |list h1 h2 i1=>
  intro c' q' m' n' k
  cases k with
  |paren k1 k2 k3=>have:=isT_two h1 k1;simp at this
  |list k1 k2=>obtain ⟨rfl,rfl,rfl,rfl⟩:=i1 k2;exact ⟨rfl,rfl,rfl,rfl⟩
  |_ k1=>exact (tf' h1 (isT_not (by assumption) (by decide))).elim
 |close h=>
  intro c' q' m' n' k
  cases k with
  |close k=>exact ⟨rfl,rfl,rfl,rfl⟩
  |part k1 k2 k3 k4 k5=>exact (tf' h k1).elim
 | @part w kk out no p p0 a q m n c q2 m2 n2 h1 h2 h3 h4 h5 i1 i2=>
  intro c' q' m' n' k
  cases k with
  |close k=>exact (tf' k h1).elim
  | @part _ _ _ _ _ p0' _ _ _ _ _ _ _ _ k1 k2 k3 k4 k5=>
   have e:p0=p0':=by
    by_cases hn:kk=0
    ·rw [h2 hn,k2 hn]
    ·rw [(h3 hn).2,(k3 hn).2]
   subst e
   obtain ⟨rfl,rfl,-,rfl⟩:=i1 k4
   exact i2 k5
def GJob.held:GJob→List Cl
 | .loop _ a _=>a
 | .series _ _ out _=>out
 |_=>[]
theorem Rg.le {tk:List Tk} {j:GJob} {p:Nat} {c:List Cl} {q m n:Nat} (h:Rg tk j p c q m n):c.length+p≤q+j.held.length∧(p≤tk.length→q≤tk.length)∧j.held.length≤c.length∧p≤q:=by
 induction h with
 |one h1 h2 i=>simp only [GJob.held,List.length_nil] at i⊢;omega
 |three h1 h2 h3 h4 h5 i1 i2 i3=>
  have l1:=isT_lt h2;have l2:=isT_lt h4
  simp only [GJob.held,List.length_nil,List.length_cons,List.length_append] at i1 i2 i3⊢
  omega
 |bin h1 h2 i1 i2=>simp only [GJob.held,List.length_nil] at i1 i2⊢;omega
 |stop h=>simp only [GJob.held];omega
 |more h1 h2 h3 h4 h5 h6 h7 i1 i2=>
  have l1:=at_lt h4
  simp only [GJob.held,List.length_nil,List.length_cons,List.length_append] at i1 i2⊢
  omega
 |sign h1 h2 h3 i=>
  have l1:=at_lt h2
  simp only [GJob.held,List.length_nil,List.length_cons] at i⊢
  omega
 |plain h1 h2 i=>simp only [GJob.held,List.length_nil] at i⊢;omega
 |num h1 h2=>have l1:=at_lt h1;simp only [GJob.held,List.length_nil,List.length_cons];omega
 |text h1 h2=>have l1:=at_lt h1;simp only [GJob.held,List.length_nil,List.length_cons];omega
 |truth h1 h2=>have l1:=at_lt h1;simp only [GJob.held,List.length_nil,List.length_cons];omega
 |name h1 h2 h3 h4=>have l1:=at_lt h1;simp only [GJob.held,List.length_nil,List.length_cons];omega
 |call h1 h2 h3 h4 h5 i=>
  have l1:=at_lt h1;have l2:=isT_lt h4
  simp only [GJob.held,List.length_nil,List.length_cons] at i⊢
  omega
 |paren h1 h2 h3 i=>
  have l1:=isT_lt h1;have l2:=isT_lt h3
  simp only [GJob.held,List.length_nil] at i⊢
  omega
 |list h1 h2 i=>
  have l1:=isT_lt h1
  simp only [GJob.held,List.length_nil,List.length_cons] at i⊢
  omega
 |close h=>have l1:=isT_lt h;simp only [GJob.held];omega
 | @part w k out no p p0 a q m n c q2 m2 n2 h1 h2 h3 h4 h5 i1 i2=>
  simp only [GJob.held,List.length_nil,List.length_append] at i1 i2⊢
  by_cases hn:k=0
  ·have:=h2 hn;omega
  ·have hc:=h3 hn
   have:=isT_lt hc.1
   omega
open Go.RowKit
def sgB (b:UInt8):Bool:=b==33||b==45||b==42||b==47||b==37||b==43||b==60||b==62||b==63||b==58||b==40||b==41||b==91||b==93||b==44||b==61||b==38||b==124
def Signed (tk:List Tk):Prop:= ∀(p:Nat) (k:Int) (s:ByteArray),tk[p]? =some (k,s)→k≠4→ ∀b t,s.data.toList=b::t→sgB b=false
def wdT (tk:List Tk) (p:Nat):Tk:=tk[p]?.getD (0,⟨#[]⟩)
theorem wdT_in {tk:List Tk} {p:Nat} {x:Tk} (h:tk[p]? =some x):wdT tk p=x:=by rw [wdT,h];rfl
theorem wdT_out {tk:List Tk} {p:Nat} (h:tk.length≤p):wdT tk p=(0,⟨#[]⟩):=by rw [wdT,List.getElem?_eq_none h];rfl
theorem wd_isT {tk:List Tk} (hs:Signed tk) (p:Nat) {b:UInt8} {t:List UInt8} (hb:sgB b=true):((wdT tk p).2.data.toList=b::t)↔isT tk p (b::t)=true:=by
 unfold isT wdT
 cases hk:tk[p]? with
 |none=>simp
 |some x=>
  obtain ⟨k,s⟩:=x
  simp only [Option.getD_some,Bool.and_eq_true,beq_iff_eq]
  constructor
  ·intro h
   refine ⟨?_,h⟩
   by_cases hk4:k=4
   ·exact hk4
   ·have:=hs p k s hk hk4 b t h;rw [hb] at this;cases this
  ·exact fun h=>h.2
theorem rank_first {l:List UInt8} (h:rankL l≠0): ∃b t,l=b::t∧sgB b=true:=by
 have key: ∀(q:List UInt8) (r x:Int),(∃b t,q=b::t∧sgB b=true)→(x≠0→ ∃b t,l=b::t∧sgB b=true)→(if l=q then r else x)≠0→ ∃b t,l=b::t∧sgB b=true:=by
  intro q r x hq hx hne
  by_cases e:l=q
  ·rw [e];exact hq
  ·rw [if_neg e] at hne;exact hx hne
 revert h
 unfold rankL
 iterate 13 (refine key _ _ _ ⟨_,_,rfl,by decide⟩ ?_)
 intro h;exact absurd rfl h
theorem wd_rank {tk:List Tk} (hs:Signed tk) (p:Nat):rankL (wdT tk p).2.data.toList=rkT tk p:=by
 unfold rkT wdT
 cases hk:tk[p]? with
 |none=>simp;decide
 |some x=>
  obtain ⟨k,s⟩:=x
  simp only [Option.getD_some]
  by_cases hk4:k=4
  ·rw [if_pos hk4]
  ·rw [if_neg hk4]
   by_cases hr:rankL s.data.toList=0
   ·exact hr
   ·obtain ⟨b,t,e,hb⟩:=rank_first hr
    have:=hs p k s hk hk4 b t e;rw [hb] at this;cases this
theorem rkT_bd (tk:List Tk) (p:Nat):rkT tk p=0∨(2≤rkT tk p∧rkT tk p≤6):=by
 unfold rkT
 split
 ·split
  ·exact rankL_bd _
  ·exact .inl rfl
 ·exact .inl rfl
def RdAt (w:World) (R:Nat) (s:ByteArray) (tv:Value) (p o:Nat):Prop:=w.heap[R]? =some (.cells #[.string s,tv, .int .i64 (p:Int), .int .i64 (o:Int)] 191 (0,0))
section
variable {w w':World} {R:Nat} {s:ByteArray} {tv:Value} {p o:Nat}
theorem RdAt.lt (h:RdAt w R s tv p o):R<w.heap.size:=by
 rcases Nat.lt_or_ge R w.heap.size with hlt|hge
 ·exact hlt
 ·unfold RdAt at h;rw [Array.getElem?_eq_none hge] at h;cases h
theorem RdAt.cells (h:RdAt w R s tv p o):(w.cell? ⟨R,0,none⟩=some (.string s)∧w.cell? ⟨R,1,none⟩=some tv∧w.cell? ⟨R,2,none⟩=some (.int .i64 (p:Int))∧w.cell? ⟨R,3,none⟩=some (.int .i64 (o:Int)))∧w.frozen? ⟨R,2,none⟩=false∧w.frozen? ⟨R,3,none⟩=false:=by
 refine ⟨⟨?_, ?_, ?_, ?_⟩, ?_, ?_⟩
 iterate 4 (rw [cell_of_row _ _ _ _ _ (0,0) h];rfl)
 all_goals (unfold RdAt at h;simp [World.frozen?,h])
theorem RdAt.below (h:RdAt w R s tv p o) (hb:Below w.heap.size w w'):RdAt w' R s tv p o:=(hb.block R h.lt).trans h
theorem RdAt.at_ (h:RdAt w R s tv p o) (q:Nat):RdAt (w.setCell ⟨R,2,none⟩ (.int .i64 (q:Int))) R s tv q o:=by
 unfold RdAt at h⊢;simp [World.setCell,Array.getElem?_modify,h]
theorem RdAt.op (h:RdAt w R s tv p o) (q:Nat):RdAt (w.setCell ⟨R,3,none⟩ (.int .i64 (q:Int))) R s tv p q:=by
 unfold RdAt at h⊢;simp [World.setCell,Array.getElem?_modify,h]
end
structure Cx (w1:World) (R:Nat) (s:ByteArray) (tv:Value) (L:List (Int×Nat×Nat)) (tk:List Tk):Prop where
 row:RowT w1 tv L.length (flatT L)
 len:L.length≤20000
 words:tk=L.map fun x=>(x.1,s.extract x.2.1 x.2.2)
 inn: ∀x∈L,x.2.1≤x.2.2∧x.2.2≤s.size
 size:s.size≤2097152
 sig:Signed tk
 kinds: ∀x∈L,1≤x.1∧x.1≤4
 low:w1.heap.size≤R
theorem Cx.length {w1:World} {R:Nat} {s:ByteArray} {tv:Value} {L:List (Int×Nat×Nat)} {tk:List Tk} (h:Cx w1 R s tv L tk):tk.length=L.length:=by rw [h.words];simp
theorem Cx.at {w1:World} {R:Nat} {s:ByteArray} {tv:Value} {L:List (Int×Nat×Nat)} {tk:List Tk} (h:Cx w1 R s tv L tk) {p:Nat} (hp:p<tk.length): ∃k wd,tk[p]? =some (k,wd)∧1≤k∧k≤4∧wd.size≤2097152:=by
 have hl:p<L.length:=by rw [←h.length];exact hp
 have hk:=h.kinds L[p] (List.getElem_mem hl)
 have hz:=h.size
 refine ⟨L[p].1,s.extract L[p].2.1 L[p].2.2,by rw [h.words,List.getElem?_map,List.getElem?_eq_getElem hl];rfl,hk.1,hk.2, ?_⟩
 have:(s.extract L[p].2.1 L[p].2.2).size≤s.size:=by rw [ByteArray.size_extract];omega
 omega
theorem grown_bel {R:Nat} {w1 w w':World} (h:Below w1.heap.size w1 w) (hg:w.grownBy w' (some R)) (hR:w1.heap.size≤R):Below w1.heap.size w1 w':=
 h.grown hg h.size (fun r hr=>by injection hr with hr;omega)
theorem grown_of {w w':World} (h:Below w.heap.size w w') (row:Option Nat):w.grownBy w' row:=⟨h.os,h.tape,h.output,h.size,fun i hi _=>h.block i hi⟩
theorem grown_tr {a b c:World} {R:Nat} (h:a.grownBy b (some R)) (k:b.grownBy c (some R)):a.grownBy c (some R):=
 ⟨k.os.trans h.os,k.tape.trans h.tape,k.output.trans h.output,Nat.le_trans h.size k.size,fun i hi hn=>(k.block i (Nat.lt_of_lt_of_le hi h.size) hn).trans (h.block i hi hn)⟩
theorem grown_st (w:World) (R j:Nat) (u:Value):w.grownBy (w.setCell ⟨R,j,none⟩ u) (some R):=
 ⟨rfl,rfl,rfl,by simp [World.setCell],fun i hi hn=>Below.heap_setCell _ _ _ _ (fun e=>hn (by rw [e]))⟩
theorem rdNext {w1 w:World} {R:Nat} {s:ByteArray} {tv:Value} {L:List (Int×Nat×Nat)} {tk:List Tk} {p o:Nat} (hx:Cx w1 R s tv L tk) (hb:Below w1.heap.size w1 w) (hr:RdAt w R s tv p o) (hp:p≤tk.length):
  Calls Tryz.prog 227 #[.pointer (some ⟨R,0,none⟩)] w fun e w'=>e= .returned (.tuple #[.int .i64 (wdT tk p).1, .string (wdT tk p).2])∧Below w.heap.size w w':=by
 obtain ⟨⟨e0,e1,e2,e3⟩,-⟩:=hr.cells
 have hlen:=hx.length
 have hL:=hx.len
 obtain ⟨-,ao,cap,rfl,g1,g2,g3⟩:=hx.row
 have hsz:=hx.size
 unfold maxLen at g2
 by_cases hlt:p<L.length
 ·obtain ⟨b,rfl,hbl,cc⟩:=g3.resolve_left (by omega)
  obtain ⟨f1,f2,f3⟩:=flatT_at L p hlt
  have c0:=(hb.cell (p:=⟨b,_,none⟩) hbl).trans (cc _ _ f1)
  have c1:=(hb.cell (p:=⟨b,_,none⟩) hbl).trans (cc _ _ f2)
  have c2:=(hb.cell (p:=⟨b,_,none⟩) hbl).trans (cc _ _ f3)
  have hin:=hx.inn L[p] (List.getElem_mem hlt)
  have hw:wdT tk p=(L[p].1,s.extract L[p].2.1 L[p].2.2):=wdT_in (by rw [hx.words,List.getElem?_map,List.getElem?_eq_getElem hlt];rfl)
  rw [hw]
  generalize L[p].1=tkd at c0⊢
  generalize L[p].2.1=tf at c1 hin⊢
  generalize L[p].2.2=tt at c2 hin⊢
  have hne:((p:Int)==(L.length:Int))=false:=beq_eq_false_iff_ne.mpr (by omega)
  have b1:(tf:Int)≤(tt:Int):=by omega
  have b2:(tt:Int)≤(s.size:Int):=by omega
  have hne2:(p==L.length)=false:=beq_eq_false_iff_ne.mpr (by omega)
  clear g3 cc f1 f2 f3 hw hx hb hr
  go_enter Tryz.func227,Tryz.ntmps227
  go_wp2_with fail
  go_quiet (fail)
  have hBq:Below w.heap.size w (w.drewN nq):=⟨rfl,rfl,rfl,Nat.le_refl _,fun _ _=>rfl⟩
  have HBq:=Lib.hid hBq;clear hBq
  generalize hwq:w.drewN nq=wq at HBq⊢
  have q1:wq.cell? ⟨R,1,none⟩=some (.slice (some ⟨b,0,none⟩) L.length cap):=by rw [←hwq];exact e1
  have q0:wq.cell? ⟨R,0,none⟩=some (.string s):=by rw [←hwq];exact e0
  have q2:wq.cell? ⟨R,2,none⟩=some (.int .i64 (p:Int)):=by rw [←hwq];exact e2
  have d0:wq.cell? ⟨b,p*3,none⟩=some (.int .i64 tkd):=by rw [←hwq];exact c0
  have d1:wq.cell? ⟨b,p*3+1,none⟩=some (.int .i64 (tf:Int)):=by rw [←hwq];exact c1
  have d2:wq.cell? ⟨b,p*3+2,none⟩=some (.int .i64 (tt:Int)):=by rw [←hwq];exact c2
  have m1:R<wq.heap.size:=(cell_low q0).2
  have m2:b<wq.heap.size:=(cell_low d0).2
  have l1: ¬R=wq.heap.size:=by omega
  have l2: ¬b=wq.heap.size:=by omega
  clear hwq e0 e1 e2 e3 c0 c1 c2
  go_upto_region 3 with fail
  go_cut [4] (fun x wx=>x= .pointer (some ⟨wq.heap.size,0,none⟩)∧wx=(wq.alloc (.cells #[.int .i64 tkd, .int .i64 (tf:Int), .int .i64 (tt:Int)] 158)).drew)
  case first=>
   go_region
   all_goals (go_wp2_with fail;go_meet;exact ⟨rfl,rfl⟩)
  case rest=>
   obtain ⟨rfl,hwc⟩:=hcut
   have hbA:Below wq.heap.size wq wc:=by rw [hwc];exact ((Below.refl _ _).alloc (Nat.le_refl _) _).drew
   have HBA:=Lib.hid hbA
   have hrl:=(cell_low q0).2
   have r0:wc.cell? ⟨R,0,none⟩=some (.string s):=(hbA.cell (p:=⟨R,0,none⟩) hrl).trans q0
   have hh:wc.heap[wq.heap.size]? =some (.cells #[.int .i64 tkd, .int .i64 (tf:Int), .int .i64 (tt:Int)] 158 (0,0)):=by rw [hwc];exact heap_alloc_new wq _
   have t0:wc.cell? ⟨wq.heap.size,0,none⟩=some (.int .i64 tkd):=by rw [cell_of_row _ _ _ _ _ (0,0) hh];rfl
   have t1:wc.cell? ⟨wq.heap.size,1,none⟩=some (.int .i64 (tf:Int)):=by rw [cell_of_row _ _ _ _ _ (0,0) hh];rfl
   have t2:wc.cell? ⟨wq.heap.size,2,none⟩=some (.int .i64 (tt:Int)):=by rw [cell_of_row _ _ _ _ _ (0,0) hh];rfl
   clear hwc hbA q0 q1 q2 d0 d1 d2 l1 l2 hh hrl
   generalize wq.heap.size=CG at t0 t1 t2⊢
   go_wp2_with fail
   go_quiet (fail)
   go_wp2
   go_ret2
   exact ⟨rfl,(HBq.out.trans (HBA.out.mono HBq.out.size)).trans ⟨rfl,rfl,rfl,Nat.le_refl _,fun _ _=>rfl⟩⟩
 ·obtain rfl:p=L.length:=by omega
  have hw:wdT tk L.length=(0,⟨#[]⟩):=wdT_out (by omega)
  rw [hw]
  clear g3 hw hx hb hr
  go_enter Tryz.func227,Tryz.ntmps227
  go_wp2_with fail
  go_quiet (fail)
  go_wp2
  go_ret2
  exact ⟨rfl,⟨rfl,rfl,rfl,Nat.le_refl _,fun _ _=>rfl⟩⟩
def BlkB (w:World) (g:Nat) (cs:Array Value):Prop:=w.heap[g]? =some (.cells cs 196 (0,0))
section
variable {w w':World} {g:Nat} {cs:Array Value}
theorem BlkB.lt (h:BlkB w g cs):g<w.heap.size:=by
 rcases Nat.lt_or_ge g w.heap.size with hlt|hge
 ·exact hlt
 ·unfold BlkB at h;rw [Array.getElem?_eq_none hge] at h;cases h
theorem BlkB.cell (h:BlkB w g cs) (i:Nat):w.cell? ⟨g,i,none⟩=cs[i]? :=cell_of_row w g i cs _ (0,0) h
theorem BlkB.frozen (h:BlkB w g cs) (i:Nat):w.frozen? ⟨g,i,none⟩=false:=by
 unfold BlkB at h;simp [World.frozen?,h]
theorem BlkB.new (w:World) (cs:Array Value):BlkB (w.alloc (.cells cs 196)) w.heap.size cs:=heap_alloc_new w _
theorem BlkB.set_ (h:BlkB w g cs) (i:Nat) (u:Value):BlkB (w.setCell ⟨g,i,none⟩ u) g (cs.setIfInBounds i u):=by
 unfold BlkB at h⊢
 simp [World.setCell,Array.getElem?_modify,h]
end
inductive TrB (w:World) (lo:Nat):Nat→List Nat→List Cl→Prop
 |nil (hi:Nat):TrB w lo hi [] []
 |cons {hi N:Nat} {k n:Int} {s:ByteArray} {v:Value} {qs ps:List Nat} {c1 c2:List Cl}:lo≤N→N<hi→BlkB w N #[.int .i64 k, .string s, .int .i64 (qs.length:Int),v, .int .i64 n]→w.ownsRow lo 192 1 v qs.length (ptrs qs)→
   (∀r,v.ownBlock=some r→r<N)→TrB w lo N qs c1→TrB w lo hi ps c2→TrB w lo hi (N::ps) ((k,s,(qs.length:Int))::(c1++c2))
theorem TrB.keep {w w':World} {lo hi:Nat} {ps:List Nat} {c:List Cl} (h:TrB w lo hi ps c):(∀b,lo≤b→b<hi→b<w.heap.size→w'.heap[b]? =w.heap[b]?)→TrB w' lo hi ps c:=by
 induction h with
 |nil hi=>intro _;exact .nil hi
 | @cons hi N k n s v qs ps c1 c2 h1 h2 hb ho hr t1 t2 i1 i2=>
  intro hw
  refine .cons h1 h2 ((hw N h1 h2 hb.lt).trans hb) ?_ hr (i1 (fun b x1 x2 x3=>hw b x1 (by omega) x3)) (i2 hw)
  refine ⟨ho.1, ?_⟩
  rcases ho.2 with hn|⟨g',cap,cur,rfl,hb',hgg,rest⟩
  ·exact .inl hn
  ·refine .inr ⟨g',cap,cur,rfl,hb', ?_,rest⟩
   have hl:=ho.lt g' rfl
   have:=hr g' rfl
   rw [hw g' hl.1 (by omega) hl.2]
   exact hgg
theorem TrB.mono {w:World} {lo hi lo' hi':Nat} {ps:List Nat} {c:List Cl} (h:TrB w lo hi ps c):lo'≤lo→hi≤hi'→TrB w lo' hi' ps c:=by
 induction h generalizing hi' with
 |nil hi=>intro _ _;exact .nil _
 | @cons hi N k n s v qs ps c1 c2 h1 h2 hb ho hr t1 t2 i1 i2=>
  intro x1 x2
  exact .cons (by omega) (by omega) hb (ho.mono x1) hr (i1 x1 (Nat.le_refl _)) (i2 x1 x2)
theorem TrB.app {w:World} {lo hi:Nat} {ps:List Nat} {c:List Cl} (h:TrB w lo hi ps c): ∀{qs:List Nat} {d:List Cl},TrB w lo hi qs d→TrB w lo hi (ps++qs) (c++d):=by
 induction h with
 |nil hi=>intro qs d k;exact k
 | @cons hi N k n s v qs ps c1 c2 h1 h2 hb ho hr t1 t2 i1 i2=>
  intro qs' d k'
  have:=TrB.cons h1 h2 hb ho hr t1 (i2 k')
  rw [List.cons_append,List.cons_append,List.append_assoc]
  exact this
theorem TrB.blocks {w:World} {lo hi:Nat} {ps:List Nat} {c:List Cl} (h:TrB w lo hi ps c): ∀N∈ps,lo≤N∧N<hi∧N<w.heap.size:=by
 induction h with
 |nil hi=>intro N hN;cases hN
 | @cons hi N k n s v qs ps c1 c2 h1 h2 hb ho hr t1 t2 i1 i2=>
  intro M hM
  rcases List.mem_cons.mp hM with rfl|hM
  ·exact ⟨h1,h2,hb.lt⟩
  ·exact i2 M hM
def RtB (w:World) (lo N:Nat) (c:List Cl) (n:Nat):Prop:= ∃(k:Int) (s:ByteArray) (v:Value) (qs:List Nat) (c1:List Cl),c=(k,s,(qs.length:Int))::c1∧lo≤N∧BlkB w N #[.int .i64 k, .string s, .int .i64 (qs.length:Int),v, .int .i64 (n:Int)]∧w.ownsRow lo 192 1 v qs.length (ptrs qs)∧(∀r,v.ownBlock=some r→r<N)∧TrB w lo N qs c1
theorem RtB.tree {w:World} {lo N n:Nat} {c:List Cl} (h:RtB w lo N c n) {hi:Nat} (hh:N<hi):TrB w lo hi [N] c:=by
 obtain ⟨k,s,v,qs,c1,rfl,h1,hb,ho,hr,ht⟩:=h
 have:=TrB.cons h1 hh hb ho hr ht (.nil hi)
 rwa [List.append_nil] at this
theorem RtB.lt {w:World} {lo N n:Nat} {c:List Cl} (h:RtB w lo N c n):lo≤N∧N<w.heap.size:=by
 obtain ⟨k,s,v,qs,c1,rfl,h1,hb,ho,hr,ht⟩:=h
 exact ⟨h1,hb.lt⟩
theorem RtB.nest {w:World} {lo N n:Nat} {c:List Cl} (h:RtB w lo N c n):w.cell? ⟨N,4,none⟩=some (.int .i64 (n:Int))∧w.frozen? ⟨N,4,none⟩=false:=by
 obtain ⟨k,s,v,qs,c1,rfl,h1,hb,ho,hr,ht⟩:=h
 exact ⟨hb.cell 4,hb.frozen 4⟩
theorem RtB.keep {w w':World} {lo N n:Nat} {c:List Cl} (h:RtB w lo N c n) (hw: ∀b,lo≤b→b<w.heap.size→w'.heap[b]? =w.heap[b]?):RtB w' lo N c n:=by
 obtain ⟨k,s,v,qs,c1,rfl,h1,hb,ho,hr,ht⟩:=h
 refine ⟨k,s,v,qs,c1,rfl,h1,(hw N h1 hb.lt).trans hb, ?_,hr,ht.keep (fun b x1 x2 x3=>hw b x1 x3)⟩
 refine ⟨ho.1, ?_⟩
 rcases ho.2 with hn|⟨g',cap,cur,rfl,hb',hgg,rest⟩
 ·exact .inl hn
 ·refine .inr ⟨g',cap,cur,rfl,hb', ?_,rest⟩
  have hl:=ho.lt g' rfl
  rw [hw g' hl.1 hl.2]
  exact hgg
theorem RtB.mono {w:World} {lo lo' N n:Nat} {c:List Cl} (h:RtB w lo N c n) (hl:lo'≤lo):RtB w lo' N c n:=by
 obtain ⟨k,s,v,qs,c1,rfl,h1,hb,ho,hr,ht⟩:=h
 exact ⟨k,s,v,qs,c1,rfl,by omega,hb,ho.mono hl,hr,ht.mono hl (Nat.le_refl _)⟩
theorem RtB.set {w:World} {lo N n:Nat} {c:List Cl} (h:RtB w lo N c n) (m:Nat):RtB (w.setCell ⟨N,4,none⟩ (.int .i64 (m:Int))) lo N c m:=by
 obtain ⟨k,s,v,qs,c1,rfl,h1,hb,ho,hr,ht⟩:=h
 refine ⟨k,s,v,qs,c1,rfl,h1, ?_, ?_,hr,ht.keep (fun b x1 x2 x3=>Below.heap_setCell _ _ _ _ (by show b≠N;omega))⟩
 ·have:=hb.set_ 4 (.int .i64 (m:Int));exact this
 ·refine ho.kept (row:=some N) ⟨rfl,rfl,rfl,by simp [World.setCell],fun b _ hn=>Below.heap_setCell _ _ _ _ (fun e=>hn (by rw [e]))⟩ (.inr ?_)
  intro he
  have:=hr N he
  omega
theorem RtB.grown {w w':World} {lo N n R:Nat} {c:List Cl} (h:RtB w lo N c n) (hg:w.grownBy w' (some R)) (hR:R<lo):RtB w' lo N c n:=
 h.keep (fun b x1 x2=>hg.block b x2 (by intro e;injection e with e;omega))
theorem TrB.grown {w w':World} {lo hi R:Nat} {ps:List Nat} {c:List Cl} (h:TrB w lo hi ps c) (hg:w.grownBy w' (some R)) (hR:R<lo):TrB w' lo hi ps c:=
 h.keep (fun b x1 x2 x3=>hg.block b x3 (by intro e;injection e with e;omega))
def NoG (tk:List Tk) (j:GJob) (p o:Nat):Prop:= ∀c q m n,Rg tk j p c q m n→40<o+n
def GRes (R:Nat) (s:ByteArray) (tv:Value) (tk:List Tk) (j:GJob) (p o x:Nat) (w:World) (e:Ending) (w':World):Prop:=
 w.grownBy w' (some R)∧ ∃q,q≤tk.length∧RdAt w' R s tv q o∧
  ((∃N c n,e= .returned (.pointer (some ⟨N,0,none⟩))∧RtB w' w.heap.size N c n∧Rg tk j p c q 0 n)∨(e= .returned (.pointer none)∧NoG tk j p (o+x)))
theorem rdTake {w1 w:World} {R:Nat} {s:ByteArray} {tv:Value} {L:List (Int×Nat×Nat)} {tk:List Tk} {p o:Nat} (c:UInt8) (hc:sgB c=true) (hx:Cx w1 R s tv L tk) (hb:Below w1.heap.size w1 w) (hr:RdAt w R s tv p o) (hp:p≤tk.length):
  Calls Tryz.prog 205 #[.pointer (some ⟨R,0,none⟩), .string ⟨#[c]⟩] w fun e w'=>e= .returned (.bool (isT tk p [c]))∧w.grownBy w' (some R)∧RdAt w' R s tv (if isT tk p [c]=true then p+1 else p) o:=by
 have HNX:=Lib.hid (rdNext hx hb hr hp)
 have HR:=Lib.hid hr
 have hpl:tk.length≤20000:=by rw [hx.length];exact hx.len
 have HW:=Lib.hid (wd_isT hx.sig p (b:=c) (t:=[]) hc)
 clear hr hb hx
 generalize (wdT tk p).1=wk at HNX
 generalize (wdT tk p).2=wd at HNX HW
 cases hi:isT tk p [c] with
 |true=>
  have he:(wd.toList==[c])=true:=ls_yes (HW.out.mpr hi)
  clear hi
  go_enter Tryz.func205,Tryz.ntmps205
  go_wp2_with fail
  refine HNX.out.mono ?_
  rintro e w2 ⟨rfl,hb2⟩
  have hr2:=HR.out.below hb2
  obtain ⟨⟨e0,e1,e2,e3⟩,f2,f3⟩:=hr2.cells
  have HG:=Lib.hid (grown_tr (grown_of hb2 (some R)) (grown_st w2 R 2 (.int .i64 ((p+1:Nat):Int))))
  have HA:=Lib.hid (hr2.at_ (p+1))
  rw [show ((p+1:Nat):Int)=(p:Int)+1 by omega] at HG HA
  clear hr2 hb2
  go_wp2
  go_ret
  exact ⟨rfl,HG.out,HA.out⟩
 |false=>
  have he:(wd.toList==[c])=false:=ls_no (fun h=>by rw [HW.out.mp h] at hi;cases hi)
  clear hi
  go_enter Tryz.func205,Tryz.ntmps205
  go_wp2_with fail
  refine HNX.out.mono ?_
  rintro e w2 ⟨rfl,hb2⟩
  have HA:=Lib.hid (HR.out.below hb2)
  have HG:=Lib.hid (grown_of hb2 (some R))
  clear hb2
  go_wp2
  go_ret
  exact ⟨rfl,HG.out,HA.out⟩
theorem inside_choice {w1 w:World} {R:Nat} {s:ByteArray} {tv:Value} {L:List (Int×Nat×Nat)} {tk:List Tk} {p o:Nat} (hx:Cx w1 R s tv L tk) (hb:Below w1.heap.size w1 w) (hr:RdAt w R s tv p o) (hp:p≤tk.length) (ho:o≤40)
  (ih:o+1≤40→ ∀wX,Below w1.heap.size w1 wX→RdAt wX R s tv p (o+1)→Calls Tryz.prog 186 #[.pointer (some ⟨R,0,none⟩)] wX (GRes R s tv tk .choice p (o+1) 0 wX)):
  Calls Tryz.prog 206 #[.pointer (some ⟨R,0,none⟩), .func (.func 186) #[.pointer (some ⟨R,0,none⟩)] #[]] w (GRes R s tv tk .choice p o 1 w):=by
 have HR:=Lib.hid hr;have HB:=Lib.hid hb;have HX:=Lib.hid hx;have HIH:=Lib.hid ih
 obtain ⟨⟨e0,e1,e2,e3⟩,f2,f3⟩:=hr.cells
 clear hr hb hx ih
 by_cases h40:o=40
 ·subst h40
  have HN:=Lib.hid (show NoG tk .choice p (40+1) from fun c q m n _=>by omega)
  go_enter Tryz.func206,Tryz.ntmps206
  go_wp2
  go_ret
  exact ⟨World.grownBy.refl _ _,p,hp,HR.out, .inr ⟨rfl,HN.out⟩⟩
 ·have n40:((o:Int)==40)=false:=beq_eq_false_iff_ne.mpr (by omega)
  have n40':(o==40)=false:=beq_eq_false_iff_ne.mpr h40
  have HR1:=Lib.hid (HR.out.op (o+1))
  have HG1:=Lib.hid (grown_st w R 3 (.int .i64 ((o+1:Nat):Int)))
  rw [show ((o+1:Nat):Int)=(o:Int)+1 by omega] at HR1 HG1
  have hlow:=HX.out.low
  have hRlt:=HR.out.lt
  go_enter Tryz.func206,Tryz.ntmps206
  go_wp2_with fail
  refine (HIH.out (by omega) _ (grown_bel HB.out HG1.out hlow) (by have:=HR1.out;unfold RdAt at this⊢;rwa [show ((o+1:Nat):Int)=(o:Int)+1 by omega])).mono ?_
  rintro e w2 ⟨hg2,q,hq,hr2,hres⟩
  have HG2:=Lib.hid (grown_tr HG1.out hg2)
  have HR2:=Lib.hid hr2
  obtain ⟨⟨a0,a1,a2,a3⟩,b2,b3⟩:=hr2.cells
  rw [show ((o+1:Nat):Int)=(o:Int)+1 by omega] at a3
  have HG3:=Lib.hid (grown_tr HG2.out (grown_st w2 R 3 (.int .i64 (o:Int))))
  have HR3:=Lib.hid (HR2.out.op o)
  have hss:(w.setCell ⟨R,3,none⟩ (.int .i64 ((o:Int)+1))).heap.size=w.heap.size:=by simp [World.setCell]
  rcases hres with ⟨N,c,n,rfl,ht,hd⟩|⟨rfl,hno⟩
  ·rw [hss] at ht
   have HT:=Lib.hid (RtB.grown ht (grown_st w2 R 3 (.int .i64 (o:Int))) hRlt);have HD:=Lib.hid hd
   clear ht hd hr2 hg2 hss
   go_wp2
   go_ret
   exact ⟨HG3.out,q,hq,HR3.out, .inl ⟨N,c,n,rfl,HT.out,HD.out⟩⟩
  ·have HN:=Lib.hid hno
   clear hno hr2 hg2 hss
   go_wp2
   go_ret
   exact ⟨HG3.out,q,hq,HR3.out, .inr ⟨rfl,HN.out⟩⟩
theorem inside_unary {w1 w:World} {R:Nat} {s:ByteArray} {tv:Value} {L:List (Int×Nat×Nat)} {tk:List Tk} {p o:Nat} (hx:Cx w1 R s tv L tk) (hb:Below w1.heap.size w1 w) (hr:RdAt w R s tv p o) (hp:p≤tk.length) (ho:o≤40)
  (ih:o+1≤40→ ∀wX,Below w1.heap.size w1 wX→RdAt wX R s tv p (o+1)→Calls Tryz.prog 226 #[.pointer (some ⟨R,0,none⟩)] wX (GRes R s tv tk .unary p (o+1) 0 wX)):
  Calls Tryz.prog 206 #[.pointer (some ⟨R,0,none⟩), .func (.func 226) #[.pointer (some ⟨R,0,none⟩)] #[]] w (GRes R s tv tk .unary p o 1 w):=by
 have HR:=Lib.hid hr;have HB:=Lib.hid hb;have HX:=Lib.hid hx;have HIH:=Lib.hid ih
 obtain ⟨⟨e0,e1,e2,e3⟩,f2,f3⟩:=hr.cells
 clear hr hb hx ih
 by_cases h40:o=40
 ·subst h40
  have HN:=Lib.hid (show NoG tk .unary p (40+1) from fun c q m n _=>by omega)
  go_enter Tryz.func206,Tryz.ntmps206
  go_wp2
  go_ret
  exact ⟨World.grownBy.refl _ _,p,hp,HR.out, .inr ⟨rfl,HN.out⟩⟩
 ·have n40:((o:Int)==40)=false:=beq_eq_false_iff_ne.mpr (by omega)
  have n40':(o==40)=false:=beq_eq_false_iff_ne.mpr h40
  have HR1:=Lib.hid (HR.out.op (o+1))
  have HG1:=Lib.hid (grown_st w R 3 (.int .i64 ((o+1:Nat):Int)))
  rw [show ((o+1:Nat):Int)=(o:Int)+1 by omega] at HR1 HG1
  have hlow:=HX.out.low
  have hRlt:=HR.out.lt
  go_enter Tryz.func206,Tryz.ntmps206
  go_wp2_with fail
  refine (HIH.out (by omega) _ (grown_bel HB.out HG1.out hlow) (by have:=HR1.out;unfold RdAt at this⊢;rwa [show ((o+1:Nat):Int)=(o:Int)+1 by omega])).mono ?_
  rintro e w2 ⟨hg2,q,hq,hr2,hres⟩
  have HG2:=Lib.hid (grown_tr HG1.out hg2)
  have HR2:=Lib.hid hr2
  obtain ⟨⟨a0,a1,a2,a3⟩,b2,b3⟩:=hr2.cells
  rw [show ((o+1:Nat):Int)=(o:Int)+1 by omega] at a3
  have HG3:=Lib.hid (grown_tr HG2.out (grown_st w2 R 3 (.int .i64 (o:Int))))
  have HR3:=Lib.hid (HR2.out.op o)
  have hss:(w.setCell ⟨R,3,none⟩ (.int .i64 ((o:Int)+1))).heap.size=w.heap.size:=by simp [World.setCell]
  rcases hres with ⟨N,c,n,rfl,ht,hd⟩|⟨rfl,hno⟩
  ·rw [hss] at ht
   have HT:=Lib.hid (RtB.grown ht (grown_st w2 R 3 (.int .i64 (o:Int))) hRlt);have HD:=Lib.hid hd
   clear ht hd hr2 hg2 hss
   go_wp2
   go_ret
   exact ⟨HG3.out,q,hq,HR3.out, .inl ⟨N,c,n,rfl,HT.out,HD.out⟩⟩
  ·have HN:=Lib.hid hno
   clear hno hr2 hg2 hss
   go_wp2
   go_ret
   exact ⟨HG3.out,q,hq,HR3.out, .inr ⟨rfl,HN.out⟩⟩
abbrev Op2:=Option (Nat×Nat)
def opPtr (x:Op2):Value:=match x with
 |some (N,_)=> .pointer (some ⟨N,0,none⟩)
 |none=> .pointer none
def opPtrs (ps:List Op2):List Value:=ps.map opPtr
theorem opPtrs_at (ps:List Op2) (k:Nat) (h:k<ps.length):(opPtrs ps)[k]? =some (opPtr ps[k]):=by simp [opPtrs,h]
theorem opPtrs_length (ps:List Op2):(opPtrs ps).length=ps.length:=by simp [opPtrs]
def nestL:List Op2→Nat
 |[]=>0
 |x::xs=>max (match x with|some (_,n)=>n|none=>0) (nestL xs)
theorem nestL_app (a b:List Op2):nestL (a++b)=max (nestL a) (nestL b):=by
 induction a with
 |nil=>simp [nestL]
 |cons x xs ih=>simp only [List.cons_append,nestL,ih];omega
theorem opCells {w:World} {lo m:Nat} {v:Value} {ps:List Op2} (ho:w.ownsRow lo 192 1 v m (opPtrs ps)):
  ∃ao cap,v= .slice ao ps.length cap∧ps.length=m∧ps.length≤cap∧cap≤maxLen∧(ps=[]∨ ∃b,ao=some ⟨b,0,none⟩∧b<w.heap.size∧ ∀k (h:k<ps.length),w.cell? ⟨b,k,none⟩=some (opPtr ps[k])):=by
 have hl:ps.length=m:=by have:=ho.1;rw [opPtrs_length] at this;omega
 subst hl
 rcases ho.2 with ⟨rfl,h0⟩|⟨g,cap,cur,rfl,hg,hh,h1,h2,_⟩
 ·exact ⟨none,0,by rw [h0],rfl,by omega,by unfold maxLen;omega, .inl (List.length_eq_zero_iff.mp h0)⟩
 ·refine ⟨_,cap,rfl,rfl,h1,h2, .inr ⟨g,rfl,(ho.lt g rfl).2,fun k hk=> ?_⟩⟩
  rw [ho.cellAt k (by omega)]
  exact opPtrs_at ps k hk
theorem grow_br (kd:Int) (s:ByteArray) (v:Value) (ps:List Op2) (lo m:Nat) (w:World) (ho:w.ownsRow lo 192 1 v m (opPtrs ps)) (hm:m≤100000)
  (hn: ∀(i N n:Nat),ps[i]? =some (some (N,n))→w.cell? ⟨N,4,none⟩=some (.int .i64 (n:Int))∧N<w.heap.size∧n≤100000):
  Calls Tryz.prog 207 #[.int .i64 kd, .string s,v] w fun e w'=>Below w.heap.size w w'∧
   ((none∈ps∧e= .returned (.pointer none))∨(none∉ps∧e= .returned (.pointer (some ⟨w.heap.size,0,none⟩))∧BlkB w' w.heap.size #[.int .i64 kd, .string s, .int .i64 (m:Int),v, .int .i64 (nestL ps:Int)])):=by
 obtain ⟨ao,cap,rfl,hlm,h1,h2,h3⟩:=opCells ho
 subst hlm
 unfold maxLen at h2
 have H3:=Lib.hid h3;have HN:=Lib.hid hn
 have HB0:=Lib.hid (BlkB.new w #[.int .i64 kd, .string s, .int .i64 (ps.length:Int), .slice ao ps.length cap, .int .i64 0])
 have HW0:=Lib.hid ((Below.refl w.heap.size w).alloc (Nat.le_refl _) (.cells #[.int .i64 kd, .string s, .int .i64 (ps.length:Int), .slice ao ps.length cap, .int .i64 0] 196))
 clear h3 hn ho
 go_enter Tryz.func207,Tryz.ntmps207
 go_wp2_with fail
 go_loopw [20] (fun i wr=> ∃k:Nat,k≤ps.length∧i= .int .i64 (k:Int)∧none∉ps.take k∧nestL (ps.take k)≤100000∧BlkB wr w.heap.size #[.int .i64 kd, .string s, .int .i64 (ps.length:Int), .slice ao ps.length cap, .int .i64 (nestL (ps.take k):Int)]∧Below w.heap.size w wr) (fun i _=>ps.length-(intOf i).toNat)
 case atStart=>exact ⟨0,Nat.zero_le _,rfl,by simp,by simp [nestL],HB0.out,HW0.out⟩
 case round=>
  obtain ⟨k,hk,rfl,hno,hnb,hB,hW⟩:=hrel
  have HB:=Lib.hid hB;have HW:=Lib.hid hW;have HNO:=Lib.hid hno
  by_cases hlt:k<ps.length
  ·obtain ⟨b,rfl,hbl,cc⟩:=H3.out.resolve_left (by rintro rfl;simp at hlt)
   have d1:wr.cell? ⟨b,k,none⟩=_:=(HW.out.cell (p:=⟨b,k,none⟩) hbl).trans (cc k hlt)
   have e4:wr.cell? ⟨w.heap.size,4,none⟩=some (.int .i64 (nestL (ps.take k):Int)):=hB.cell 4
   have f4:=hB.frozen 4
   have htk:ps.take (k+1)=ps.take k++[ps[k]]:=List.take_succ_eq_append_getElem hlt
   have hpk:ps[k]? =some ps[k]:=List.getElem?_eq_getElem hlt
   cases hx:ps[k] with
   |none=>
    rw [hx] at d1 hpk
    have HM:=Lib.hid (show none∈ps from List.mem_of_getElem? hpk)
    simp only [opPtr] at d1
    clear cc hno hB hW htk hpk hx
    go_wp2
    go_ret
    exact ⟨HW.out, .inl ⟨HM.out,rfl⟩⟩
   |some x=>
    obtain ⟨N,n⟩:=x
    rw [hx] at d1 hpk htk
    obtain ⟨n1,n2,n3⟩:=HN.out k N n hpk
    have g1:wr.cell? ⟨N,4,none⟩=_:=(HW.out.cell (p:=⟨N,4,none⟩) n2).trans n1
    have HT:=Lib.hid (show nestL (ps.take (k+1))=max (nestL (ps.take k)) n by rw [htk,nestL_app];simp [nestL])
    have HNN:=Lib.hid (show none∉ps.take (k+1) by rw [htk];simp only [List.mem_append,List.mem_singleton];rintro (h|h);exact hno h;cases h)
    generalize nestL (ps.take k)=NN at e4 hnb HB HT
    have HS:=Lib.hid (HB.out.set_ 4 (.int .i64 ((max NN n:Nat):Int)))
    have HW2:=Lib.hid (HW.out.setCell (p:=⟨w.heap.size,4,none⟩) (Nat.le_refl _) (.int .i64 ((max NN n:Nat):Int)))
    simp only [opPtr] at d1
    clear cc hno hB hW htk hpk hx n1
    have hcast:((max NN n:Nat):Int)=max (NN:Int) (n:Int):=by omega
    rw [hcast] at HS HW2
    clear hcast
    go_wp2_with fail
    go_region
    all_goals
     go_wp2_with fail
     go_roundw
     case rel=>exact ⟨k+1,by omega,by go_num,HNN.out,by rw [HT.out];omega,by rw [HT.out];have:=HS.out;rw [show ((max NN n:Nat):Int)=max (NN:Int) (n:Int) by omega];exact this,HW2.out.drew⟩
     case measure=>simp [intOf];omega
  ·obtain rfl:k=ps.length:=by omega
   have HE:=Lib.hid (show ps.take ps.length=ps from List.take_length)
   clear hno hB hW
   go_wp2
   go_ret
   exact ⟨HW.out, .inr ⟨by have:=HNO.out;rwa [HE.out] at this,rfl,by have:=HB.out;rwa [HE.out] at this⟩⟩
theorem nested_nil (w:World):Calls Tryz.prog 208 #[.pointer none] w fun e w'=>e= .returned (.pointer none)∧w=w':=by
 go_enter Tryz.func208,Tryz.ntmps208
 go_wp2
 go_ret
 exact ⟨rfl,rfl⟩
theorem nested_some (w:World) (lo N n:Nat) (c:List Cl) (h:RtB w lo N c n) (hn:n≤100000):Calls Tryz.prog 208 #[.pointer (some ⟨N,0,none⟩)] w fun e w'=>e= .returned (.pointer (some ⟨N,0,none⟩))∧w'=w.setCell ⟨N,4,none⟩ (.int .i64 ((n+1:Nat):Int)):=by
 obtain ⟨c4,f4⟩:=h.nest
 clear h
 go_enter Tryz.func208,Tryz.ntmps208
 go_wp2
 go_ret
 exact ⟨rfl,by rw [show ((n+1:Nat):Int)=(n:Int)+1 by omega]⟩
theorem ptrs_of (rs:List (Nat×Nat)):opPtrs (rs.map some)=ptrs (rs.map Prod.fst):=by
 induction rs with
 |nil=>rfl
 |cons x xs ih=>simp only [List.map_cons,opPtrs,ptrs,opPtr] at ih⊢;rw [ih]
def Nested (w:World) (rs:List (Nat×Nat)):Prop:= ∀x∈rs,w.cell? ⟨x.1,4,none⟩=some (.int .i64 (x.2:Int))∧x.1<w.heap.size∧x.2≤100000
theorem Nested.keep {w w':World} {rs:List (Nat×Nat)} (h:Nested w rs) (hb:Below w.heap.size w w'):Nested w' rs:=fun x hx=>by
 obtain ⟨h1,h2,h3⟩:=h x hx
 exact ⟨(hb.cell (p:=⟨x.1,4,none⟩) h2).trans h1,Nat.lt_of_lt_of_le h2 hb.size,h3⟩
theorem RtB.nested {w:World} {lo N n:Nat} {c:List Cl} (h:RtB w lo N c n) (hn:n≤100000):Nested w [(N,n)]:=by
 intro x hx
 simp only [List.mem_singleton] at hx
 subst hx
 exact ⟨h.nest.1,h.lt.2,hn⟩
theorem grow_parts (kd:Int) (s:ByteArray) (v:Value) (rs:List (Nat×Nat)) (lo m:Nat) (c1:List Cl) (w:World) (hlo:lo≤w.heap.size) (ho:w.ownsRow lo 192 1 v m (opPtrs (rs.map some))) (hm:m≤100000) (ht:TrB w lo w.heap.size (rs.map Prod.fst) c1) (hn:Nested w rs):
  Calls Tryz.prog 207 #[.int .i64 kd, .string s,v] w fun e w'=>Below w.heap.size w w'∧ ∃N,e= .returned (.pointer (some ⟨N,0,none⟩))∧RtB w' lo N ((kd,s,(rs.length:Int))::c1) (nestL (rs.map some)):=by
 have hl:rs.length=m:=by have:=ho.1;rw [opPtrs_length] at this;simp at this;omega
 refine (grow_br kd s v (rs.map some) lo m w ho hm ?_).mono ?_
 ·intro i N n hi
  simp only [List.getElem?_map,Option.map_eq_some_iff] at hi
  obtain ⟨x,hx,he⟩:=hi
  injection he with he
  subst he
  exact hn _ (List.mem_of_getElem? hx)
 ·rintro e w' ⟨hb,⟨hm',-⟩|⟨-,rfl,hB⟩⟩
  ·simp at hm'
  ·refine ⟨hb,w.heap.size,rfl,kd,s,v,rs.map Prod.fst,c1,by simp,hlo, ?_, ?_,fun r hr=>(ho.lt r hr).2,ht.keep (fun b x1 x2 x3=>hb.block b x3)⟩
   ·rw [List.length_map,hl];exact hB
   ·rw [ptrs_of] at ho
    rw [List.length_map,hl]
    exact ho.kept (row:=none) ⟨hb.os,hb.tape,hb.output,hb.size,fun i hi _=>hb.block i hi⟩ (by cases hv:v.ownBlock with|none=>exact .inl rfl|some x=>exact .inr (by simp))
theorem grow_none (kd:Int) (s:ByteArray) (v:Value) (ps:List Op2) (lo m:Nat) (w:World) (ho:w.ownsRow lo 192 1 v m (opPtrs ps)) (hm:m≤100000) (hno:none∈ps)
  (hn: ∀(i N n:Nat),ps[i]? =some (some (N,n))→w.cell? ⟨N,4,none⟩=some (.int .i64 (n:Int))∧N<w.heap.size∧n≤100000):
  Calls Tryz.prog 207 #[.int .i64 kd, .string s,v] w fun e w'=>Below w.heap.size w w'∧e= .returned (.pointer none):=by
 refine (grow_br kd s v ps lo m w ho hm hn).mono ?_
 rintro e w' ⟨hb,⟨-,h⟩|⟨h,-⟩⟩
 ·exact ⟨hb,h⟩
 ·exact absurd hno h
theorem lit_row {w:World} {lo:Nat} (hlo:lo≤w.heap.size) (ps:List Op2) (h:ps.length≤100):(w.alloc (.cells (opPtrs ps).toArray 192)).ownsRow lo 192 1 (.slice (some ⟨w.heap.size,0,none⟩) ps.length ps.length) ps.length (opPtrs ps):=by
 have:=World.ownsRow_lit (e:=192) (size:=1) (base:=lo) w (opPtrs ps).toArray ps.length hlo (by unfold maxLen;omega) (by simp [opPtrs])
 simpa using this
theorem grown_new {w a:World} {R N:Nat} (h:w.grownBy a (some R)) (hN:w.heap.size≤N) (j:Nat) (u:Value):w.grownBy (a.setCell ⟨N,j,none⟩ u) (some R):=
 ⟨h.os,h.tape,h.output,by have:=h.size;simpa [World.setCell] using this,fun i hi hn=>(Below.heap_setCell _ _ _ _ (by show i≠N;omega)).trans (h.block i hi hn)⟩
theorem grown_al {w a:World} {R:Nat} (h:w.grownBy a (some R)) (o:Obj):w.grownBy (a.alloc o) (some R):=grown_tr h (grown_of ((Below.refl _ _).alloc (Nat.le_refl _) _) _)
structure AllG (w1:World) (R:Nat) (s:ByteArray) (tv:Value) (tk:List Tk) (N:Nat):Prop where
 choice: ∀(p o:Nat) (w:World),Below w1.heap.size w1 w→RdAt w R s tv p o→p≤tk.length→o≤40→10*(tk.length-p)+8≤N→Calls Tryz.prog 186 #[.pointer (some ⟨R,0,none⟩)] w (GRes R s tv tk .choice p o 0 w)
 bin: ∀(r p o:Nat) (w:World),2≤r→r≤7→Below w1.heap.size w1 w→RdAt w R s tv p o→p≤tk.length→o≤40→10*(tk.length-p)+6≤N→Calls Tryz.prog 204 #[.pointer (some ⟨R,0,none⟩), .int .i64 ((r:Int)-1)] w (GRes R s tv tk (.bin r) p o 0 w)
 unary: ∀(p o:Nat) (w:World),Below w1.heap.size w1 w→RdAt w R s tv p o→p≤tk.length→o≤40→10*(tk.length-p)+4≤N→Calls Tryz.prog 226 #[.pointer (some ⟨R,0,none⟩)] w (GRes R s tv tk .unary p o 0 w)
 single: ∀(p o:Nat) (w:World),Below w1.heap.size w1 w→RdAt w R s tv p o→p≤tk.length→o≤40→10*(tk.length-p)+2≤N→Calls Tryz.prog 237 #[.pointer (some ⟨R,0,none⟩)] w (GRes R s tv tk .single p o 0 w)
theorem Rg.nest {tk:List Tk} {j:GJob} {p:Nat} {c:List Cl} {q m n:Nat} (h:Rg tk j p c q m n):n+p≤q+(match j with| .loop _ _ na=>na| .series _ _ _ no=>no|_=>0):=by
 induction h with
 |one h1 h2 i=>simp only at i⊢;omega
 |three h1 h2 h3 h4 h5 i1 i2 i3=>
  have l1:=h1.le;have l2:=h3.le;have l3:=h5.le
  simp only [GJob.held,List.length_nil] at i1 i2 i3 l1 l2 l3⊢;omega
 |bin h1 h2 i1 i2=>simp only at i1 i2⊢;omega
 |stop h=>simp only;omega
 |more h1 h2 h3 h4 h5 h6 h7 i1 i2=>have l1:=h5.le;simp only at i1 i2 l1⊢;omega
 |sign h1 h2 h3 i=>simp only at i⊢;omega
 |plain h1 h2 i=>simp only at i⊢;omega
 |num h1 h2=>simp only;omega
 |text h1 h2=>simp only;omega
 |truth h1 h2=>simp only;omega
 |name h1 h2 h3 h4=>simp only;omega
 |call h1 h2 h3 h4 h5 i=>simp only at i⊢;omega
 |paren h1 h2 h3 i=>simp only at i⊢;omega
 |list h1 h2 i=>simp only at i⊢;omega
 |close h=>simp only;omega
 | @part w k out no p p0 a q m n c q2 m2 n2 h1 h2 h3 h4 h5 i1 i2=>
  have l1:=h4.le
  have hp:p≤p0:=by
   by_cases hk:k=0
   ·rw [h2 hk];exact Nat.le_refl _
   ·rw [(h3 hk).2];omega
  simp only at i1 i2 l1⊢;omega
theorem noG_plain {tk:List Tk} {p o:Nat} (hu:unaryT tk p=false) (h:NoG tk .single p o):NoG tk .unary p o:=by
 intro c q m n k
 cases k with
 |sign k1 k2 k3=>exact (tf' k1 hu).elim
 |plain k1 k2=>exact h _ _ _ _ k2
theorem noG_sign {tk:List Tk} {p o:Nat} (hu:unaryT tk p=true) (h:NoG tk .unary (p+1) (o+1)):NoG tk .unary p o:=by
 intro c q m n k
 cases k with
 |sign k1 k2 k3=>have:=h _ _ _ _ k3;omega
 |plain k1 k2=>exact (tf' hu k1).elim
theorem unary_gstep {w1:World} {R:Nat} {s:ByteArray} {tv:Value} {L:List (Int×Nat×Nat)} {tk:List Tk} {N:Nat} (hx:Cx w1 R s tv L tk) (ih:AllG w1 R s tv tk N) (p o:Nat) (w:World) (hb:Below w1.heap.size w1 w) (hr:RdAt w R s tv p o) (hp:p≤tk.length) (ho:o≤40) (hN:10*(tk.length-p)+4≤N+1):
  Calls Tryz.prog 226 #[.pointer (some ⟨R,0,none⟩)] w (GRes R s tv tk .unary p o 0 w):=by
 have HNX:=Lib.hid (rdNext hx hb hr hp)
 have HR:=Lib.hid hr;have HB:=Lib.hid hb;have HX:=Lib.hid hx;have IH:=Lib.hid ih
 have hpl:tk.length≤20000:=by rw [hx.length];exact hx.len
 have H1:=Lib.hid (wd_isT hx.sig p (b:=33) (t:=[]) (by decide));have H2:=Lib.hid (wd_isT hx.sig p (b:=45) (t:=[]) (by decide))
 have HWD:=Lib.hid (show∀x,tk[p]? =some x→wdT tk p=x from fun x h=>wdT_in h)
 have hlow:=hx.low
 have hRlt:=hr.lt
 clear hr hb hx ih
 generalize hwk:(wdT tk p).1=wk at HNX
 generalize hwd:(wdT tk p).2=wd at HNX H1 H2
 have HWDE:=Lib.hid hwd;clear hwk hwd
 by_cases hu:unaryT tk p=true
 ·have HU:=Lib.hid hu
  have hlt:p<tk.length:=by
   simp only [unaryT,Bool.or_eq_true] at hu
   rcases hu with h|h<;>exact isT_lt h
  have htk:tk[p]? =some (4,wd):=by
   simp only [unaryT,Bool.or_eq_true] at hu
   rcases hu with h|h<;>
   ·obtain ⟨x,h1,h2⟩:=isT_kind h
    have:=HWD.out _ h1
    rw [show wd=x by rw [←HWDE.out,this]]
    exact h1
  have HTK:=Lib.hid htk
  have key:((wd.toList==[33])=true)∨((wd.toList==[33])=false∧(wd.toList==[45])=true):=by
   by_cases h33:wd.data.toList=[33]
   ·exact .inl (ls_yes h33)
   ·right
    refine ⟨ls_no h33, ?_⟩
    simp only [unaryT,Bool.or_eq_true] at hu
    rcases hu with h|h
    ·exact absurd (H1.out.mpr h) h33
    ·exact ls_yes (H2.out.mpr h)
  clear hu htk
  rcases key with e1|⟨e1,e2⟩
  all_goals
   go_enter Tryz.func226,Tryz.ntmps226
   go_wp2_with fail
   refine HNX.out.mono ?_
   rintro e w2 ⟨rfl,hb2⟩
   have hr2:=HR.out.below hb2
   obtain ⟨⟨q0,q1,q2,q3⟩,f2,f3⟩:=hr2.cells
   have HG:=Lib.hid (grown_tr (grown_of hb2 (some R)) (grown_st w2 R 2 (.int .i64 ((p+1:Nat):Int))))
   have HA:=Lib.hid (hr2.at_ (p+1))
   rw [show ((p+1:Nat):Int)=(p:Int)+1 by omega] at HG HA
   clear hr2 hb2
   have HB3:=Lib.hid (grown_bel HB.out HG.out hlow)
   have hsz:w.heap.size≤(w2.setCell ⟨R,2,none⟩ (.int .i64 ((p:Int)+1))).heap.size:=HG.out.size
   go_wp2_with fail
   refine (inside_unary (p:=p+1) HX.out HB3.out HA.out (by omega) ho (fun h wX k1 k2=>IH.out.unary (p+1) (o+1) wX k1 k2 (by omega) h (by omega))).mono ?_
   rintro e w3 ⟨hg3,q,hq,hr3,hres⟩
   have HG3:=Lib.hid (grown_tr HG.out hg3)
   have HR3:=Lib.hid hr3
   have hs3:w.heap.size≤w3.heap.size:=HG3.out.size
   rcases hres with ⟨M,c,n,rfl,ht,hd⟩|⟨rfl,hno⟩
   ·have hn:=hd.nest
    have hql:n≤100000:=by simp only at hn;omega
    have ht3:=ht.mono hsz
    have hMlt:=ht3.lt
    have HT4:=Lib.hid (RtB.keep (w':=w3.alloc (.cells (opPtrs [some (M,n)]).toArray 192)) ht3 (fun b x1 x2=>Below.heap_alloc _ _ _ x2))
    have HO4:=Lib.hid (lit_row hs3 [some (M,n)] (by simp))
    have HNS:=Lib.hid (HT4.out.nested hql)
    have HTR:=Lib.hid (HT4.out.tree (hi:=(w3.alloc (.cells (opPtrs [some (M,n)]).toArray 192)).heap.size) (by simp;omega))
    have HG4:=Lib.hid (grown_al HG3.out (.cells (opPtrs [some (M,n)]).toArray 192))
    have HD:=Lib.hid hd
    clear ht hd hg3 hr3 hn ht3
    go_wp2_with fail
    refine (grow_parts 7 wd _ [(M,n)] w.heap.size 1 c _ (by simp;omega) HO4.out (by omega) HTR.out HNS.out).mono ?_
    rintro e w5 ⟨hb5,K,rfl,ht5⟩
    have HT5:=Lib.hid (show RtB w5 w.heap.size K ((7,wd,1)::c) n by simpa [nestL] using ht5)
    have HG5:=Lib.hid (grown_tr HG4.out (grown_of hb5 (some R)))
    have HR5:=Lib.hid ((HR3.out.below ((Below.refl _ _).alloc (Nat.le_refl _) _)).below hb5)
    clear hb5 ht5
    go_wp2_with fail
    refine (nested_some _ w.heap.size K n _ HT5.out hql).mono ?_
    rintro e w6 ⟨rfl,rfl⟩
    have HT6:=Lib.hid (HT5.out.set (n+1))
    have hKl:=HT5.out.lt.1
    have HG6:=Lib.hid (grown_new HG5.out hKl 4 (.int .i64 ((n+1:Nat):Int)))
    have HR6:=Lib.hid (show RdAt (w5.setCell ⟨K,4,none⟩ (.int .i64 ((n+1:Nat):Int))) R s tv q o from (Below.heap_setCell _ _ _ _ (by show R≠K;omega)).trans HR5.out)
    go_wp2
    go_ret
    exact ⟨HG6.out,q,hq,HR6.out, .inl ⟨K,_,_,rfl,HT6.out, .sign HU.out HTK.out HD.out⟩⟩
   ·have HN:=Lib.hid (noG_sign HU.out hno)
    have HO4:=Lib.hid (lit_row hs3 [none] (by simp))
    have HG4:=Lib.hid (grown_al HG3.out (.cells (opPtrs [none]).toArray 192))
    clear hno hg3 hr3
    go_wp2_with fail
    refine (grow_none 7 wd _ [none] w.heap.size 1 _ HO4.out (by omega) (by simp) (fun i N n h=>by match i,h with|0,h=>simp at h)).mono ?_
    rintro e w5 ⟨hb5,rfl⟩
    have HG5:=Lib.hid (grown_tr HG4.out (grown_of hb5 (some R)))
    have HR5:=Lib.hid ((HR3.out.below ((Below.refl _ _).alloc (Nat.le_refl _) _)).below hb5)
    clear hb5
    go_wp2_with fail
    refine (nested_nil _).mono ?_
    rintro e w6 ⟨rfl,rfl⟩
    go_wp2
    go_ret
    exact ⟨HG5.out,q,hq,HR5.out, .inr ⟨rfl,HN.out⟩⟩
 ·have hu':unaryT tk p=false:=by simpa using hu
  have HU:=Lib.hid hu'
  have e1:(wd.toList==[33])=false:=ls_no (fun h=>hu (by rw [unaryT,H1.out.mp h];rfl))
  have e2:(wd.toList==[45])=false:=ls_no (fun h=>hu (by rw [unaryT,H2.out.mp h];simp))
  clear hu hu'
  go_enter Tryz.func226,Tryz.ntmps226
  go_wp2_with fail
  refine HNX.out.mono ?_
  rintro e w2 ⟨rfl,hb2⟩
  have HR2:=Lib.hid (HR.out.below hb2)
  have HG2:=Lib.hid (grown_of hb2 (some R))
  have HB2:=Lib.hid (grown_bel HB.out HG2.out hlow)
  have hs2:=hb2.size
  clear hb2
  go_wp2_with fail
  refine (IH.out.single p o w2 HB2.out HR2.out hp ho (by omega)).mono ?_
  rintro e w3 ⟨hg3,q,hq,hr3,hres⟩
  have HG3:=Lib.hid (grown_tr HG2.out hg3)
  have HR3:=Lib.hid hr3
  rcases hres with ⟨M,c,n,rfl,ht,hd⟩|⟨rfl,hno⟩
  ·have HT:=Lib.hid (ht.mono hs2)
   have HD:=Lib.hid hd
   clear ht hd hg3 hr3
   go_wp2
   go_ret
   exact ⟨HG3.out,q,hq,HR3.out, .inl ⟨M,c,n,rfl,HT.out, .plain HU.out HD.out⟩⟩
  ·have HN:=Lib.hid (noG_plain HU.out hno)
   clear hno hg3 hr3
   go_wp2
   go_ret
   exact ⟨HG3.out,q,hq,HR3.out, .inr ⟨rfl,HN.out⟩⟩
theorem noG_first {tk:List Tk} {p o:Nat} (h:NoG tk (.bin 2) p o):NoG tk .choice p o:=by
 intro c q m n k
 cases k with
 |one k1 k2=>exact h _ _ _ _ k1
 |three k1 k2 k3 k4 k5=>have:=h _ _ _ _ k1;omega
theorem noG_second {tk:List Tk} {p o:Nat} {a:List Cl} {q m n:Nat} (h:Rg tk (.bin 2) p a q m n) (hq:isT tk q [63]=true) (hn:NoG tk .choice (q+1) (o+1)):NoG tk .choice p o:=by
 intro c q' m' n' k
 cases k with
 |one k1 k2=>obtain ⟨rfl,rfl,-,-⟩:=h.uniq k1;exact (tf' hq k2).elim
 |three k1 k2 k3 k4 k5=>obtain ⟨rfl,rfl,-,-⟩:=h.uniq k1;have:=hn _ _ _ _ k3;omega
theorem noG_colon {tk:List Tk} {p o:Nat} {a b:List Cl} {q m n q2 m2 n2:Nat} (h:Rg tk (.bin 2) p a q m n) (hq:isT tk q [63]=true) (h2:Rg tk .choice (q+1) b q2 m2 n2) (hc:isT tk q2 [58]=false):NoG tk .choice p o:=by
 intro c q' m' n' k
 cases k with
 |one k1 k2=>obtain ⟨rfl,rfl,-,-⟩:=h.uniq k1;exact (tf' hq k2).elim
 |three k1 k2 k3 k4 k5=>
  obtain ⟨rfl,rfl,-,-⟩:=h.uniq k1
  obtain ⟨rfl,rfl,-,-⟩:=h2.uniq k3
  exact (tf' k4 hc).elim
theorem noG_third {tk:List Tk} {p o:Nat} {a b:List Cl} {q m n q2 m2 n2:Nat} (h:Rg tk (.bin 2) p a q m n) (hq:isT tk q [63]=true) (h2:Rg tk .choice (q+1) b q2 m2 n2) (hn:NoG tk .choice (q2+1) (o+1)):NoG tk .choice p o:=by
 intro c q' m' n' k
 cases k with
 |one k1 k2=>obtain ⟨rfl,rfl,-,-⟩:=h.uniq k1;exact (tf' hq k2).elim
 |three k1 k2 k3 k4 k5=>
  obtain ⟨rfl,rfl,-,-⟩:=h.uniq k1
  obtain ⟨rfl,rfl,-,-⟩:=h2.uniq k3
  have:=hn _ _ _ _ k5;omega
theorem Nested.app {w:World} {a b:List (Nat×Nat)} (h:Nested w a) (k:Nested w b):Nested w (a++b):=fun x hx=>by
 rcases List.mem_append.mp hx with hx|hx
 ·exact h x hx
 ·exact k x hx
theorem choice_gstep {w1:World} {R:Nat} {s:ByteArray} {tv:Value} {L:List (Int×Nat×Nat)} {tk:List Tk} {N:Nat} (hx:Cx w1 R s tv L tk) (ih:AllG w1 R s tv tk N) (p o:Nat) (w:World) (hb:Below w1.heap.size w1 w) (hr:RdAt w R s tv p o) (hp:p≤tk.length) (ho:o≤40) (hN:10*(tk.length-p)+8≤N+1):
  Calls Tryz.prog 186 #[.pointer (some ⟨R,0,none⟩)] w (GRes R s tv tk .choice p o 0 w):=by
 have HB:=Lib.hid hb;have HX:=Lib.hid hx;have IH:=Lib.hid ih
 have HBIN:=Lib.hid (ih.bin 2 p o w (by omega) (by omega) hb hr hp ho (by omega))
 have hpl:tk.length≤20000:=by rw [hx.length];exact hx.len
 have hlow:=hx.low
 have hRlt:=hr.lt
 clear hr hb hx ih
 go_enter Tryz.func186,Tryz.ntmps186
 go_wp2_with fail
 refine ((show Calls Tryz.prog 204 #[.pointer (some ⟨R,0,none⟩), .int .i64 1] w _ from HBIN.out)).mono ?_
 rintro e w2 ⟨hg2,q,hq,hr2,hres⟩
 have HG2:=Lib.hid hg2;have HR2:=Lib.hid hr2
 have HB2:=Lib.hid (grown_bel HB.out hg2 hlow)
 rcases hres with ⟨M,c,n,rfl,ht,hd⟩|⟨rfl,hno⟩
 ·have HT2:=Lib.hid ht;have HD:=Lib.hid hd
  have hpq:=hd.le.2.2.2
  have hn1:=hd.nest
  simp only at hn1
  clear ht hd hg2 hr2
  go_wp2_with fail
  refine (rdTake 63 (by decide) HX.out HB2.out HR2.out hq).mono ?_
  rintro e w3 ⟨rfl,hg3,hr3⟩
  have HG3:=Lib.hid (grown_tr HG2.out hg3)
  have HB3:=Lib.hid (grown_bel HB2.out hg3 hlow)
  have HT3:=Lib.hid (HT2.out.grown hg3 hRlt)
  cases hq63:isT tk q [63] with
  |false=>
   rw [hq63] at hr3
   have HR3:=Lib.hid hr3;have HQ:=Lib.hid hq63
   clear hg3 hr3 hq63
   go_wp2
   go_ret
   exact ⟨HG3.out,q,hq,HR3.out, .inl ⟨M,c,n,rfl,HT3.out, .one HD.out HQ.out⟩⟩
  |true=>
   rw [hq63,if_pos rfl] at hr3
   have hqlt:=isT_lt hq63
   have HR3:=Lib.hid hr3;have HQ:=Lib.hid hq63
   clear hg3 hr3 hq63
   go_wp2_with fail
   refine (inside_choice (p:=q+1) HX.out HB3.out HR3.out (by omega) ho (fun h wX k1 k2=>IH.out.choice (q+1) (o+1) wX k1 k2 (by omega) h (by omega))).mono ?_
   rintro e w4 ⟨hg4,q2,hq2,hr4,hres⟩
   have HG4:=Lib.hid (grown_tr HG3.out hg4);have HR4:=Lib.hid hr4
   have HB4:=Lib.hid (grown_bel HB3.out hg4 hlow)
   have HT4:=Lib.hid (HT3.out.grown hg4 hRlt)
   have hs3:w.heap.size≤w3.heap.size:=HG3.out.size
   rcases hres with ⟨M2,c2,n2,rfl,ht,hd⟩|⟨rfl,hno⟩
   ·have HU4:=Lib.hid (ht.mono hs3);have HD2:=Lib.hid hd
    have hpq2:=hd.le.2.2.2
    have hn2:=hd.nest
    simp only at hn2
    clear ht hd hg4 hr4
    go_wp2_with fail
    refine (rdTake 58 (by decide) HX.out HB4.out HR4.out hq2).mono ?_
    rintro e w5 ⟨rfl,hg5,hr5⟩
    have HG5:=Lib.hid (grown_tr HG4.out hg5)
    have HB5:=Lib.hid (grown_bel HB4.out hg5 hlow)
    have HT5:=Lib.hid (HT4.out.grown hg5 hRlt)
    have HU5:=Lib.hid (HU4.out.grown hg5 hRlt)
    cases hq58:isT tk q2 [58] with
    |false=>
     rw [hq58] at hr5
     have HR5:=Lib.hid hr5
     have HN:=Lib.hid (noG_colon (o:=o) HD.out HQ.out HD2.out hq58)
     clear hg5 hr5 hq58
     go_wp2
     go_ret
     exact ⟨HG5.out,q2,hq2,HR5.out, .inr ⟨rfl,HN.out⟩⟩
    |true=>
     rw [hq58,if_pos rfl] at hr5
     have hqlt2:=isT_lt hq58
     have HR5:=Lib.hid hr5;have HQ2:=Lib.hid hq58
     clear hg5 hr5 hq58
     go_wp2_with fail
     refine (inside_choice (p:=q2+1) HX.out HB5.out HR5.out (by omega) ho (fun h wX k1 k2=>IH.out.choice (q2+1) (o+1) wX k1 k2 (by omega) h (by omega))).mono ?_
     rintro e w6 ⟨hg6,q3,hq3,hr6,hres⟩
     have HG6:=Lib.hid (grown_tr HG5.out hg6);have HR6:=Lib.hid hr6
     have HB6:=Lib.hid (grown_bel HB5.out hg6 hlow)
     have HT6:=Lib.hid (HT5.out.grown hg6 hRlt)
     have HU6:=Lib.hid (HU5.out.grown hg6 hRlt)
     have hs5:w.heap.size≤w5.heap.size:=HG5.out.size
     have hs6:w.heap.size≤w6.heap.size:=HG6.out.size
     rcases hres with ⟨M3,c3,n3,rfl,ht,hd⟩|⟨rfl,hno⟩
     ·have HV6:=Lib.hid (ht.mono hs5);have HD3:=Lib.hid hd
      have hn3:=hd.nest
      simp only at hn3
      have hm1:=HT6.out.lt;have hm2:=HU6.out.lt;have hm3:=HV6.out.lt
      have HT7:=Lib.hid (RtB.keep (w':=w6.alloc (.cells (opPtrs [some (M,n),some (M2,n2),some (M3,n3)]).toArray 192)) HT6.out (fun b x1 x2=>Below.heap_alloc _ _ _ x2))
      have HU7:=Lib.hid (RtB.keep (w':=w6.alloc (.cells (opPtrs [some (M,n),some (M2,n2),some (M3,n3)]).toArray 192)) HU6.out (fun b x1 x2=>Below.heap_alloc _ _ _ x2))
      have HV7:=Lib.hid (RtB.keep (w':=w6.alloc (.cells (opPtrs [some (M,n),some (M2,n2),some (M3,n3)]).toArray 192)) HV6.out (fun b x1 x2=>Below.heap_alloc _ _ _ x2))
      have HO7:=Lib.hid (lit_row hs6 [some (M,n),some (M2,n2),some (M3,n3)] (by simp))
      have HNS:=Lib.hid ((HT7.out.nested (by omega)).app ((HU7.out.nested (by omega)).app (HV7.out.nested (by omega))))
      have HTR:=Lib.hid ((HT7.out.tree (hi:=(w6.alloc (.cells (opPtrs [some (M,n),some (M2,n2),some (M3,n3)]).toArray 192)).heap.size) (by simp;omega)).app ((HU7.out.tree (by simp;omega)).app (HV7.out.tree (by simp;omega))))
      have HG7:=Lib.hid (grown_al HG6.out (.cells (opPtrs [some (M,n),some (M2,n2),some (M3,n3)]).toArray 192))
      clear ht hd hg6 hr6
      go_wp2_with fail
      refine (grow_parts 9 ⟨#[]⟩ _ [(M,n),(M2,n2),(M3,n3)] w.heap.size 3 (c++(c2++c3)) _ (by simp;omega) HO7.out (by omega) HTR.out HNS.out).mono ?_
      rintro e w8 ⟨hb8,K,rfl,ht8⟩
      have HT8:=Lib.hid (show RtB w8 w.heap.size K ((9,⟨#[]⟩,3)::(c++(c2++c3))) (max n (max n2 n3)) by simpa [nestL] using ht8)
      have HG8:=Lib.hid (grown_tr HG7.out (grown_of hb8 (some R)))
      have HR8:=Lib.hid ((HR6.out.below ((Below.refl _ _).alloc (Nat.le_refl _) _)).below hb8)
      clear hb8 ht8
      go_wp2_with fail
      refine (nested_some _ w.heap.size K (max n (max n2 n3)) _ HT8.out (by omega)).mono ?_
      rintro e w9 ⟨rfl,rfl⟩
      have HT9:=Lib.hid (HT8.out.set (max n (max n2 n3)+1))
      have hKl:=HT8.out.lt.1
      have HG9:=Lib.hid (grown_new HG8.out hKl 4 (.int .i64 ((max n (max n2 n3)+1:Nat):Int)))
      have HR9:=Lib.hid (show RdAt (w8.setCell ⟨K,4,none⟩ (.int .i64 ((max n (max n2 n3)+1:Nat):Int))) R s tv q3 o from (Below.heap_setCell _ _ _ _ (by show R≠K;omega)).trans HR8.out)
      go_wp2
      go_ret
      exact ⟨HG9.out,q3,hq3,HR9.out, .inl ⟨K,_,_,rfl,HT9.out, .three HD.out HQ.out HD2.out HQ2.out HD3.out⟩⟩
     ·have HN:=Lib.hid (noG_third HD.out HQ.out HD2.out hno)
      have HO7:=Lib.hid (lit_row hs6 [some (M,n),some (M2,n2),none] (by simp))
      have HT7:=Lib.hid (RtB.keep (w':=w6.alloc (.cells (opPtrs [some (M,n),some (M2,n2),none]).toArray 192)) HT6.out (fun b x1 x2=>Below.heap_alloc _ _ _ x2))
      have HU7:=Lib.hid (RtB.keep (w':=w6.alloc (.cells (opPtrs [some (M,n),some (M2,n2),none]).toArray 192)) HU6.out (fun b x1 x2=>Below.heap_alloc _ _ _ x2))
      have HG7:=Lib.hid (grown_al HG6.out (.cells (opPtrs [some (M,n),some (M2,n2),none]).toArray 192))
      have HNN:=Lib.hid (show∀(i N' n':Nat),([some (M,n),some (M2,n2),none]:List Op2)[i]? =some (some (N',n'))→(w6.alloc (.cells (opPtrs [some (M,n),some (M2,n2),none]).toArray 192)).cell? ⟨N',4,none⟩=some (.int .i64 (n':Int))∧N'<(w6.alloc (.cells (opPtrs [some (M,n),some (M2,n2),none]).toArray 192)).heap.size∧n'≤100000 from fun i N' n' h=>by
       match i,h with
       |0,h=>simp at h;obtain ⟨rfl,rfl⟩:=h;exact ⟨HT7.out.nest.1,HT7.out.lt.2,by omega⟩
       |1,h=>simp at h;obtain ⟨rfl,rfl⟩:=h;exact ⟨HU7.out.nest.1,HU7.out.lt.2,by omega⟩
       |2,h=>simp at h)
      clear hno hg6 hr6
      go_wp2_with fail
      refine (grow_none 9 ⟨#[]⟩ _ [some (M,n),some (M2,n2),none] w.heap.size 3 _ HO7.out (by omega) (by simp) HNN.out).mono ?_
      rintro e w8 ⟨hb8,rfl⟩
      have HG8:=Lib.hid (grown_tr HG7.out (grown_of hb8 (some R)))
      have HR8:=Lib.hid ((HR6.out.below ((Below.refl _ _).alloc (Nat.le_refl _) _)).below hb8)
      clear hb8
      go_wp2_with fail
      refine (nested_nil _).mono ?_
      rintro e w9 ⟨rfl,rfl⟩
      go_wp2
      go_ret
      exact ⟨HG8.out,q3,hq3,HR8.out, .inr ⟨rfl,HN.out⟩⟩
   ·have HN:=Lib.hid (noG_second HD.out HQ.out hno)
    clear hno hg4 hr4
    go_wp2
    go_ret
    exact ⟨HG4.out,q2,hq2,HR4.out, .inr ⟨rfl,HN.out⟩⟩
 ·have HN:=Lib.hid (noG_first hno)
  clear hno hg2 hr2
  go_wp2
  go_ret
  exact ⟨HG2.out,q,hq,HR2.out, .inr ⟨rfl,HN.out⟩⟩
theorem Rg.deeper {tk:List Tk} {j:GJob} {p:Nat} {c:List Cl} {q m n:Nat} (h:Rg tk j p c q m n):(match j with| .loop _ _ na=>na| .series _ _ _ no=>no|_=>0)≤n:=by
 induction h with
 |stop h=>exact Nat.le_refl _
 |more h1 h2 h3 h4 h5 h6 h7 i1 i2=>simp only at i2⊢;omega
 |close h=>exact Nat.le_refl _
 |part h1 h2 h3 h4 h5 i1 i2=>simp only at i2⊢;omega
 |_=>exact Nat.zero_le _
theorem Rg.mz {tk:List Tk} {j:GJob} {p:Nat} {c:List Cl} {q m n:Nat} (h:Rg tk j p c q m n) (hj: ∀w k o no,j≠ .series w k o no):m=0:=by
 cases h with
 |close h=>exact absurd rfl (hj _ _ _ _)
 |part h1 h2 h3 h4 h5=>exact absurd rfl (hj _ _ _ _)
 |_=>rfl
def GThru (tk:List Tk) (r p:Nat) (a:List Cl) (na q:Nat):Prop:=
 (∀c q2 m2 n2,Rg tk (.loop r a na) q c q2 m2 n2→Rg tk (.bin r) p c q2 0 n2)∧(∀c q2 m2 n2,Rg tk (.bin r) p c q2 m2 n2→Rg tk (.loop r a na) q c q2 0 n2)
theorem GThru.start {tk:List Tk} {r p:Nat} {a:List Cl} {q m na:Nat} (h:Rg tk .unary p a q m na):GThru tk r p a na q:=by
 refine ⟨fun c q2 m2 n2 k=> .bin h k,fun c q2 m2 n2 k=> ?_⟩
 cases k with
 |bin k1 k2=>
  obtain ⟨rfl,rfl,-,rfl⟩:=h.uniq k1
  have:=k2.mz (by intros;simp)
  subst this
  exact k2
theorem GThru.next {tk:List Tk} {r p k:Nat} {a b:List Cl} {na q q1 m n:Nat} {s:ByteArray} (h:GThru tk r p a na q) (h1:rkT tk q=(k:Int)) (h2:r≤k) (h0:0<k) (h3:tk[q]? =some (4,s)) (h4:Rg tk (.bin (k+1)) (q+1) b q1 m n) (h5: ¬(k=4∧rkT tk q1=4)):
  GThru tk r p ((8,s,2)::(a++b)) (max na n) q1:=by
 refine ⟨fun c q2 m2 n2 z=>h.1 c q2 0 n2 (.more h1 h2 h0 h3 h4 h5 z),fun c q2 m2 n2 z=> ?_⟩
 have z':=h.2 c q2 m2 n2 z
 clear z
 cases z' with
 |stop y=>omega
 |more k1 k2 k3 k4 k5 k6 k7=>
  rw [h1] at k1
  have k1:=Int.ofNat_inj.mp k1
  subst k1
  have e:=tk_uniq h3 k4
  simp only [Prod.mk.injEq,true_and] at e
  subst e
  obtain ⟨rfl,rfl,-,rfl⟩:=h4.uniq k5
  have:=k7.mz (by intros;simp)
  subst this
  exact k7
theorem GThru.done {tk:List Tk} {r p:Nat} {a:List Cl} {na q:Nat} (h:GThru tk r p a na q) (hs:rkT tk q<(r:Int)):Rg tk (.bin r) p a q 0 na:=h.1 a q 0 na (.stop hs)
theorem GThru.fail {tk:List Tk} {r p k o:Nat} {a:List Cl} {na q:Nat} (h:GThru tk r p a na q) (h1:rkT tk q=(k:Int)) (h2:r≤k) (hn:NoG tk (.bin (k+1)) (q+1) o):NoG tk (.bin r) p o:=by
 intro c q2 m2 n2 z
 have z':=h.2 c q2 m2 n2 z
 clear z
 cases z' with
 |stop y=>omega
 |more k1 k2 k3 k4 k5 k6 k7=>
  rw [h1] at k1
  have k1:=Int.ofNat_inj.mp k1
  subst k1
  have:=hn _ _ _ _ k5
  have:=k7.deeper
  simp only at this
  omega
theorem GThru.comp {tk:List Tk} {r p o:Nat} {a b:List Cl} {na q q1 m n:Nat} (h:GThru tk r p a na q) (h1:rkT tk q=4) (h2:r≤4) (h4:Rg tk (.bin 5) (q+1) b q1 m n) (h5:rkT tk q1=4):NoG tk (.bin r) p o:=by
 intro c q2 m2 n2 z
 have z':=h.2 c q2 m2 n2 z
 clear z
 cases z' with
 |stop y=>omega
 |more k1 k2 k3 k4 k5 k6 k7=>
  rename_i kk _ _ _ _ _ _
  have k1:kk=4:=by rw [h1] at k1;omega
  subst k1
  obtain ⟨rfl,rfl,-,rfl⟩:=h4.uniq k5
  exact absurd ⟨rfl,h5⟩ k6
theorem noG_unary {tk:List Tk} {r p o:Nat} (h:NoG tk .unary p o):NoG tk (.bin r) p o:=by
 intro c q m n k
 cases k with
 |bin k1 k2=>
  have:=h _ _ _ _ k1
  have:=k2.deeper
  simp only at this
  omega
theorem rk_tok {tk:List Tk} {q:Nat} (h:rkT tk q≠0):q<tk.length∧tk[q]? =some (4,(wdT tk q).2):=by
 unfold rkT at h
 cases hk:tk[q]? with
 |none=>rw [hk] at h;exact absurd rfl h
 |some x=>
  obtain ⟨k,s⟩:=x
  rw [hk] at h
  by_cases hk4:k=4
  ·subst hk4
   exact ⟨at_lt hk,by rw [wdT,hk];rfl⟩
  ·exact absurd (if_neg hk4) h
def BInv (R:Nat) (s:ByteArray) (tv:Value) (tk:List Tk) (r p o lo:Nat) (w:World) (left:Value) (wr:World):Prop:=
 w.grownBy wr (some R)∧ ∃q,q≤tk.length∧RdAt wr R s tv q o∧
  ((∃M a na,left= .pointer (some ⟨M,0,none⟩)∧RtB wr lo M a na∧p≤q∧na≤q∧GThru tk r p a na q)∨(left= .pointer none∧NoG tk (.bin r) p o))
def atOf (w:World) (R:Nat):Nat:=match w.cell? ⟨R,2,none⟩ with
 |some (.int _ i)=>i.toNat
 |_=>0
def leftM (R n:Nat) (lv:Value) (w:World):Nat:=match lv with
 | .pointer (some _)=>2*(n-atOf w R)+1
 |_=>0
theorem RdAt.atOf {w:World} {R:Nat} {s:ByteArray} {tv:Value} {p o:Nat} (h:RdAt w R s tv p o):atOf w R=p:=by
 unfold Proofs.YtegdjjjpoahamaaGreatDoor.atOf
 rw [h.cells.1.2.2.1];simp
theorem bin_gstep {w1:World} {R:Nat} {s:ByteArray} {tv:Value} {L:List (Int×Nat×Nat)} {tk:List Tk} {N:Nat} (hx:Cx w1 R s tv L tk) (ih:AllG w1 R s tv tk N) (r p o:Nat) (w:World) (hr2:2≤r) (hr7:r≤7) (hb:Below w1.heap.size w1 w) (hr:RdAt w R s tv p o) (hp:p≤tk.length) (ho:o≤40) (hN:10*(tk.length-p)+6≤N+1):
  Calls Tryz.prog 204 #[.pointer (some ⟨R,0,none⟩), .int .i64 ((r:Int)-1)] w (GRes R s tv tk (.bin r) p o 0 w):=by
 have HB:=Lib.hid hb;have HX:=Lib.hid hx;have IH:=Lib.hid ih
 have HUN:=Lib.hid (ih.unary p o w hb hr hp ho (by omega))
 have hpl:tk.length≤20000:=by rw [hx.length];exact hx.len
 have hlow:=hx.low
 have hRlt:=hr.lt
 clear hr hb hx ih
 go_enter Tryz.func204,Tryz.ntmps204
 go_wp2_with fail
 refine HUN.out.mono ?_
 rintro e w2 ⟨hg2,q,hq,hrd2,hres⟩
 have HST:Hid (∃lv,e= .returned lv∧BInv R s tv tk r p o w.heap.size w lv w2):=by
  rcases hres with ⟨M,c,n,rfl,ht,hd⟩|⟨rfl,hno⟩
  ·have:=hd.nest
   simp only at this
   exact ⟨_,rfl,hg2,q,hq,hrd2, .inl ⟨M,c,n,rfl,ht,hd.le.2.2.2,by omega, .start hd⟩⟩
  ·exact ⟨_,rfl,hg2,q,hq,hrd2, .inr ⟨rfl,noG_unary hno⟩⟩
 obtain ⟨lv,rfl,hinv⟩:=HST.out
 have HI:=Lib.hid hinv
 clear hres hg2 hrd2 HST hinv hq
 go_wp2_with fail
 go_loopw [5] (fun l wr=>BInv R s tv tk r p o w.heap.size w l wr) (fun l wr=>leftM R tk.length l wr)
 case atStart=>exact HI.out
 case round=>
  obtain ⟨hgr,q,hq,hrd,⟨M,a,na,rfl,ht,hpq,hnq,hthru⟩|⟨rfl,hno⟩⟩:=hrel
  ·have HGR:=Lib.hid hgr;have HRD:=Lib.hid hrd;have HT:=Lib.hid ht;have HTH:=Lib.hid hthru
   have HBR:=Lib.hid (grown_bel HB.out hgr hlow)
   have HNX:=Lib.hid (rdNext HX.out HBR.out hrd hq)
   have HRK:=Lib.hid (wd_rank HX.out.sig q)
   have HTK:=Lib.hid (show rkT tk q≠0→q<tk.length∧tk[q]? =some (4,(wdT tk q).2) from rk_tok)
   have hbd:=rkT_bd tk q
   have hlv:leftM R tk.length (.pointer (some ⟨M,0,none⟩)) wr=2*(tk.length-q)+1:=by rw [leftM,hrd.atOf]
   have HLV:=Lib.hid hlv
   clear hgr hrd ht hthru hlv
   generalize (wdT tk q).1=wk at HNX
   generalize (wdT tk q).2=wd at HNX HRK HTK
   go_wp2_with fail
   refine HNX.out.mono ?_
   rintro e w3 ⟨rfl,hb3⟩
   have HG3:=Lib.hid (grown_tr HGR.out (grown_of hb3 (some R)))
   have HR3:=Lib.hid (HRD.out.below hb3)
   have HB3:=Lib.hid (HBR.out.trans (hb3.mono HBR.out.size))
   have HT3:=Lib.hid (HT.out.keep (fun b x1 x2=>hb3.block b x2))
   clear hb3
   go_wp2_with fail
   refine (binaryRank_any wd _).mono ?_
   rintro e w' ⟨rfl,rfl⟩
   by_cases hlt:rkT tk q<(r:Int)
   ·have hri:rkI wd.data.toList<(r:Int)-1:=by
     unfold rkI;rw [HRK.out];split<;>omega
    have HDONE:=Lib.hid (HTH.out.done hlt)
    generalize rkI wd.data.toList=ri at hri⊢
    go_wp2
    go_ret
    exact ⟨HG3.out,q,hq,HR3.out, .inl ⟨M,a,na,rfl,HT3.out,HDONE.out⟩⟩
   ·obtain ⟨k,hk⟩:=Int.eq_ofNat_of_zero_le (show 0≤rkT tk q by omega)
    have hri:rkI wd.data.toList=(k:Int)-1:=by
     unfold rkI;rw [HRK.out,hk];split<;>omega
    rw [hri]
    have hkr:r≤k:=by omega
    have hk6:k≤6:=by omega
    have hnl: ¬(k:Int)-1<(r:Int)-1:=by omega
    obtain ⟨hqlt,htk⟩:=HTK.out (by omega)
    have HTQ:=Lib.hid htk;have HK:=Lib.hid hk
    obtain ⟨⟨a0,a1,a2,a3⟩,b2,b3⟩:=HR3.out.cells
    have HG4:=Lib.hid (grown_tr HG3.out (grown_st w3 R 2 (.int .i64 ((q+1:Nat):Int))))
    have HR4:=Lib.hid (HR3.out.at_ (q+1))
    have HB4:=Lib.hid (grown_bel HB3.out (grown_st w3 R 2 (.int .i64 ((q+1:Nat):Int))) hlow)
    have HT4:=Lib.hid (HT3.out.grown (grown_st w3 R 2 (.int .i64 ((q+1:Nat):Int))) hRlt)
    rw [show ((q+1:Nat):Int)=(q:Int)+1 by omega] at HG4 HR4 HB4 HT4
    have HNX2:=Lib.hid (show Calls Tryz.prog 204 #[.pointer (some ⟨R,0,none⟩), .int .i64 (k:Int)] (w3.setCell ⟨R,2,none⟩ (.int .i64 ((q:Int)+1))) (GRes R s tv tk (.bin (k+1)) (q+1) o 0 (w3.setCell ⟨R,2,none⟩ (.int .i64 ((q:Int)+1)))) by
     have:=IH.out.bin (k+1) (q+1) o _ (by omega) (by omega) HB4.out HR4.out (by omega) ho (by omega)
     rwa [show ((k+1:Nat):Int)-1=(k:Int) by omega] at this)
    clear hlt hk htk hri
    go_wp2_with fail
    refine HNX2.out.mono ?_
    rintro e w5 ⟨hg5,q1,hq1,hr5,hres⟩
    have HG5:=Lib.hid (grown_tr HG4.out hg5);have HR5:=Lib.hid hr5
    have HT5:=Lib.hid (HT4.out.grown hg5 hRlt)
    have hs4:w.heap.size≤(w3.setCell ⟨R,2,none⟩ (.int .i64 ((q:Int)+1))).heap.size:=HG4.out.size
    have hs5:w.heap.size≤w5.heap.size:=HG5.out.size
    rcases hres with ⟨M2,b,n2,rfl,ht,hd⟩|⟨rfl,hno⟩
    ·have HU5:=Lib.hid (ht.mono hs4);have HD:=Lib.hid hd
     have hn2:=hd.nest
     have hqq:=hd.le.2.2.2
     simp only at hn2
     have hm1:=HT5.out.lt;have hm2:=HU5.out.lt
     have HT7:=Lib.hid (RtB.keep (w':=w5.alloc (.cells (opPtrs [some (M,na),some (M2,n2)]).toArray 192)) HT5.out (fun b x1 x2=>Below.heap_alloc _ _ _ x2))
     have HU7:=Lib.hid (RtB.keep (w':=w5.alloc (.cells (opPtrs [some (M,na),some (M2,n2)]).toArray 192)) HU5.out (fun b x1 x2=>Below.heap_alloc _ _ _ x2))
     have HO7:=Lib.hid (lit_row hs5 [some (M,na),some (M2,n2)] (by simp))
     have HNS:=Lib.hid ((HT7.out.nested (by omega)).app (HU7.out.nested (by omega)))
     have HTR:=Lib.hid ((HT7.out.tree (hi:=(w5.alloc (.cells (opPtrs [some (M,na),some (M2,n2)]).toArray 192)).heap.size) (by simp;omega)).app (HU7.out.tree (by simp;omega)))
     have HG7:=Lib.hid (grown_al HG5.out (.cells (opPtrs [some (M,na),some (M2,n2)]).toArray 192))
     clear ht hd hg5 hr5
     go_wp2_with fail
     refine (grow_parts 8 wd _ [(M,na),(M2,n2)] w.heap.size 2 (a++b) _ (by simp;omega) HO7.out (by omega) HTR.out HNS.out).mono ?_
     rintro e w8 ⟨hb8,K,rfl,ht8⟩
     have HT8:=Lib.hid (show RtB w8 w.heap.size K ((8,wd,2)::(a++b)) (max na n2) by simpa [nestL] using ht8)
     have HG8:=Lib.hid (grown_tr HG7.out (grown_of hb8 (some R)))
     have HR8:=Lib.hid ((HR5.out.below ((Below.refl _ _).alloc (Nat.le_refl _) _)).below hb8)
     have HB8:=Lib.hid (grown_bel HB.out HG8.out hlow)
     clear hb8 ht8
     have HNX3:=Lib.hid (rdNext HX.out HB8.out HR8.out hq1)
     have HRK3:=Lib.hid (wd_rank HX.out.sig q1)
     generalize (wdT tk q1).1=wk3 at HNX3
     generalize (wdT tk q1).2=wd3 at HNX3 HRK3
     go_wp2_with fail
     refine HNX3.out.mono ?_
     rintro e w9 ⟨rfl,hb9⟩
     have HG9:=Lib.hid (grown_tr HG8.out (grown_of hb9 (some R)))
     have HR9:=Lib.hid (HR8.out.below hb9)
     have HT9:=Lib.hid (HT8.out.keep (fun b x1 x2=>hb9.block b x2))
     clear hb9
     by_cases hk4:k=4
     ·subst hk4
      go_wp2_with fail
      refine (binaryRank_any wd3 _).mono ?_
      rintro e w' ⟨rfl,rfl⟩
      by_cases h4:rkT tk q1=4
      ·have hri3:rkI wd3.data.toList=3:=by unfold rkI;rw [HRK3.out,h4];rfl
       rw [hri3]
       have HNN:=Lib.hid (GThru.comp (o:=o) HTH.out HK.out hkr HD.out h4)
       go_wp2
       go_ret
       exact ⟨HG9.out,q1,hq1,HR9.out, .inr ⟨rfl,HNN.out⟩⟩
      ·have hri3:(rkI wd3.data.toList==3)=false:=beq_eq_false_iff_ne.mpr (by unfold rkI;rw [HRK3.out];have:=rkT_bd tk q1;split<;>omega)
       generalize rkI wd3.data.toList=ri3 at hri3⊢
       go_wp2
       go_roundw
       case rel=>exact ⟨HG9.out,q1,hq1,HR9.out, .inl ⟨K,_,_,rfl,HT9.out,by omega,by omega,HTH.out.next HK.out hkr (by omega) HTQ.out HD.out (fun h=>h4 h.2)⟩⟩
       case measure=>rw [HLV.out];rw [leftM,HR9.out.atOf];omega
     ·have hk4':((k:Int)-1==3)=false:=beq_eq_false_iff_ne.mpr (by omega)
      have hk4'':((k:Int)==4)=false:=beq_eq_false_iff_ne.mpr (by omega)
      go_wp2_with fail
      go_roundw
      case rel=>exact ⟨HG9.out,q1,hq1,HR9.out, .inl ⟨K,_,_,rfl,HT9.out,by omega,by omega,HTH.out.next HK.out hkr (by omega) HTQ.out HD.out (fun h=>hk4 h.1)⟩⟩
      case measure=>rw [HLV.out];rw [leftM,HR9.out.atOf];omega
    ·have HNN:=Lib.hid (HTH.out.fail HK.out hkr hno)
     have HO7:=Lib.hid (lit_row hs5 [some (M,na),none] (by simp))
     have HT7:=Lib.hid (RtB.keep (w':=w5.alloc (.cells (opPtrs [some (M,na),none]).toArray 192)) HT5.out (fun b x1 x2=>Below.heap_alloc _ _ _ x2))
     have HG7:=Lib.hid (grown_al HG5.out (.cells (opPtrs [some (M,na),none]).toArray 192))
     have HNO:=Lib.hid (show∀(i N' n':Nat),([some (M,na),none]:List Op2)[i]? =some (some (N',n'))→(w5.alloc (.cells (opPtrs [some (M,na),none]).toArray 192)).cell? ⟨N',4,none⟩=some (.int .i64 (n':Int))∧N'<(w5.alloc (.cells (opPtrs [some (M,na),none]).toArray 192)).heap.size∧n'≤100000 from fun i N' n' h=>by
      match i,h with
      |0,h=>simp at h;obtain ⟨rfl,rfl⟩:=h;exact ⟨HT7.out.nest.1,HT7.out.lt.2,by omega⟩
      |1,h=>simp at h)
     clear hno hg5 hr5
     go_wp2_with fail
     refine (grow_none 8 wd _ [some (M,na),none] w.heap.size 2 _ HO7.out (by omega) (by simp) HNO.out).mono ?_
     rintro e w8 ⟨hb8,rfl⟩
     have HG8:=Lib.hid (grown_tr HG7.out (grown_of hb8 (some R)))
     have HR8:=Lib.hid ((HR5.out.below ((Below.refl _ _).alloc (Nat.le_refl _) _)).below hb8)
     have HB8:=Lib.hid (grown_bel HB.out HG8.out hlow)
     clear hb8
     have HNX3:=Lib.hid (rdNext HX.out HB8.out HR8.out hq1)
     have HRK3:=Lib.hid (wd_rank HX.out.sig q1)
     generalize (wdT tk q1).1=wk3 at HNX3
     generalize (wdT tk q1).2=wd3 at HNX3 HRK3
     go_wp2_with fail
     refine HNX3.out.mono ?_
     rintro e w9 ⟨rfl,hb9⟩
     have HG9:=Lib.hid (grown_tr HG8.out (grown_of hb9 (some R)))
     have HR9:=Lib.hid (HR8.out.below hb9)
     clear hb9
     by_cases hk4:k=4
     ·subst hk4
      go_wp2_with fail
      refine (binaryRank_any wd3 _).mono ?_
      rintro e w' ⟨rfl,rfl⟩
      by_cases h4:rkT tk q1=4
      ·have hri3:rkI wd3.data.toList=3:=by unfold rkI;rw [HRK3.out,h4];rfl
       rw [hri3]
       go_wp2
       go_ret
       exact ⟨HG9.out,q1,hq1,HR9.out, .inr ⟨rfl,HNN.out⟩⟩
      ·have hri3:(rkI wd3.data.toList==3)=false:=beq_eq_false_iff_ne.mpr (by unfold rkI;rw [HRK3.out];have:=rkT_bd tk q1;split<;>omega)
       generalize rkI wd3.data.toList=ri3 at hri3⊢
       go_wp2
       go_roundw
       case rel=>exact ⟨HG9.out,q1,hq1,HR9.out, .inr ⟨rfl,HNN.out⟩⟩
       case measure=>rw [HLV.out];simp [leftM]
     ·have hk4':((k:Int)-1==3)=false:=beq_eq_false_iff_ne.mpr (by omega)
      have hk4'':((k:Int)==4)=false:=beq_eq_false_iff_ne.mpr (by omega)
      go_wp2_with fail
      go_roundw
      case rel=>exact ⟨HG9.out,q1,hq1,HR9.out, .inr ⟨rfl,HNN.out⟩⟩
      case measure=>rw [HLV.out];simp [leftM]
  ·have HGR:=Lib.hid hgr;have HRD:=Lib.hid hrd;have HN:=Lib.hid hno
   clear hgr hrd hno
   go_wp2
   go_ret
   exact ⟨HGR.out,q,hq,HRD.out, .inr ⟨rfl,HN.out⟩⟩
def GAmong (tk:List Tk) (w:List UInt8) (p k:Nat) (out:List Cl) (no q:Nat):Prop:=
 (∀c q2 m2 n2,Rg tk (.series w k out no) q c q2 m2 n2→Rg tk (.series w 0 [] 0) p c q2 m2 n2)∧(∀c q2 m2 n2,Rg tk (.series w 0 [] 0) p c q2 m2 n2→Rg tk (.series w k out no) q c q2 m2 n2)
theorem GAmong.start (tk:List Tk) (w:List UInt8) (p:Nat):GAmong tk w p 0 [] 0 p:=⟨fun _ _ _ _ k=>k,fun _ _ _ _ k=>k⟩
theorem GAmong.done {tk:List Tk} {w:List UInt8} {p k:Nat} {out:List Cl} {no q:Nat} (h:GAmong tk w p k out no q) (hs:isT tk q w=true):Rg tk (.series w 0 [] 0) p out (q+1) k no:=h.1 out (q+1) k no (.close hs)
theorem GAmong.next {tk:List Tk} {w:List UInt8} {p k:Nat} {out a:List Cl} {no n q q0 q1 m:Nat} (h:GAmong tk w p k out no q) (hs:isT tk q w=false) (h1:k=0→q0=q) (h2:k≠0→isT tk q [44]=true∧q0=q+1) (hr:Rg tk .choice q0 a q1 m n):GAmong tk w p (k+1) (out++a) (max no n) q1:=by
 refine ⟨fun c q2 m2 n2 z=>h.1 c q2 m2 n2 (.part hs h1 h2 hr z),fun c q2 m2 n2 z=> ?_⟩
 have z':=h.2 c q2 m2 n2 z
 clear z
 cases z' with
 |close y=>exact (tf' y hs).elim
 | @part _ _ _ _ _ q0' _ _ _ _ _ _ _ _ k1 k2 k3 k4 k5=>
  have e:q0=q0':=by
   by_cases hn:k=0
   ·rw [h1 hn,k2 hn]
   ·rw [(h2 hn).2,(k3 hn).2]
  subst e
  obtain ⟨rfl,rfl,-,rfl⟩:=hr.uniq k4
  exact k5
theorem GAmong.comma {tk:List Tk} {w:List UInt8} {p k o:Nat} {out:List Cl} {no q:Nat} (h:GAmong tk w p k out no q) (hs:isT tk q w=false) (hn:k≠0) (hc:isT tk q [44]=false):NoG tk (.series w 0 [] 0) p o:=by
 intro c q2 m2 n2 z
 have z':=h.2 c q2 m2 n2 z
 clear z
 cases z' with
 |close y=>exact (tf' y hs).elim
 |part k1 k2 k3 k4 k5=>exact (tf' (k3 hn).1 hc).elim
theorem GAmong.fail {tk:List Tk} {w:List UInt8} {p k o:Nat} {out:List Cl} {no q q0:Nat} (h:GAmong tk w p k out no q) (hs:isT tk q w=false) (h1:k=0→q0=q) (h2:k≠0→isT tk q [44]=true∧q0=q+1) (hr:NoG tk .choice q0 o):NoG tk (.series w 0 [] 0) p o:=by
 intro c q2 m2 n2 z
 have z':=h.2 c q2 m2 n2 z
 clear z
 cases z' with
 |close y=>exact (tf' y hs).elim
 | @part _ _ _ _ _ q0' _ _ _ _ _ _ _ _ k1 k2 k3 k4 k5=>
  have e:q0=q0':=by
   by_cases hn:k=0
   ·rw [h1 hn,k2 hn]
   ·rw [(h2 hn).2,(k3 hn).2]
  subst e
  have:=hr _ _ _ _ k4
  have:=k5.deeper
  simp only at this
  omega
theorem RtB.keepI {w w':World} {lo N n:Nat} {c:List Cl} (h:RtB w lo N c n) (hw: ∀b,lo≤b→b≤N→b<w.heap.size→w'.heap[b]? =w.heap[b]?):RtB w' lo N c n:=by
 obtain ⟨k,s,v,qs,c1,rfl,h1,hb,ho,hr,ht⟩:=h
 refine ⟨k,s,v,qs,c1,rfl,h1,(hw N h1 (Nat.le_refl _) hb.lt).trans hb, ?_,hr,ht.keep (fun b x1 x2 x3=>hw b x1 (by omega) x3)⟩
 refine ⟨ho.1, ?_⟩
 rcases ho.2 with hn|⟨g',cap,cur,rfl,hb',hgg,rest⟩
 ·exact .inl hn
 ·refine .inr ⟨g',cap,cur,rfl,hb', ?_,rest⟩
  have hl:=ho.lt g' rfl
  have:=hr g' rfl
  rw [hw g' hl.1 (by omega) hl.2]
  exact hgg
structure Prt where
 lo:Nat
 root:Nat
 nn:Nat
 cl:List Cl
def PrtsOK (w:World) (lo:Nat) (v:Value) (ts:List Prt):Prop:= ∀t∈ts,RtB w t.lo t.root t.cl t.nn∧lo≤t.lo∧t.nn≤30000∧ ∀g,v.ownBlock=some g→g<t.lo∨t.root<g
def rsOf (ts:List Prt):List (Nat×Nat):=ts.map fun t=>(t.root,t.nn)
def clOf (ts:List Prt):List Cl:=ts.flatMap Prt.cl
theorem rsOf_snoc (ts:List Prt) (t:Prt):rsOf (ts++[t])=rsOf ts++[(t.root,t.nn)]:=by simp [rsOf]
theorem clOf_snoc (ts:List Prt) (t:Prt):clOf (ts++[t])=clOf ts++t.cl:=by simp [clOf]
theorem PrtsOK.tree {w:World} {lo:Nat} {v:Value} {ts:List Prt} (h:PrtsOK w lo v ts):TrB w lo w.heap.size ((rsOf ts).map Prod.fst) (clOf ts)∧Nested w (rsOf ts):=by
 induction ts with
 |nil=>exact ⟨.nil _,fun x hx=>by cases hx⟩
 |cons t ts ih=>
  obtain ⟨h1,h2,h3,h4⟩:=h t (by simp)
  obtain ⟨i1,i2⟩:=ih (fun x hx=>h x (by simp [hx]))
  refine ⟨((h1.tree (hi:=w.heap.size) h1.lt.2).mono h2 (Nat.le_refl _)).app i1,fun x hx=> ?_⟩
  simp only [rsOf,List.map_cons,List.mem_cons] at hx
  rcases hx with rfl|hx
  ·exact ⟨h1.nest.1,h1.lt.2,by omega⟩
  ·exact i2 x hx
theorem PrtsOK.grown {w w':World} {lo R:Nat} {v:Value} {ts:List Prt} (h:PrtsOK w lo v ts) (hg:w.grownBy w' (some R)) (hR:R<lo):PrtsOK w' lo v ts:=fun t ht=>by
 obtain ⟨h1,h2,h3,h4⟩:=h t ht
 exact ⟨h1.grown hg (by omega),h2,h3,h4⟩
theorem nestL_rs (ts:List Prt) (t:Prt):nestL ((rsOf (ts++[t])).map some)=max (nestL ((rsOf ts).map some)) t.nn:=by
 rw [rsOf_snoc,List.map_append,nestL_app];simp [nestL]
theorem infoBr:(Tryz.prog.info? 192).map (fun i=>(i.zero,i.size,i.bytes))=some (some (.pointer none),1,8):=by kernel_rfl
def SInv (R:Nat) (s:ByteArray) (tv:Value) (tk:List Tk) (c:UInt8) (p o:Nat) (w:World) (pv:Value) (wr:World):Prop:=
 w.grownBy wr (some R)∧ ∃(q:Nat) (ts:List Prt),q≤tk.length∧p≤q∧RdAt wr R s tv q o∧wr.ownsRow w.heap.size 192 1 pv ts.length (opPtrs ((rsOf ts).map some))∧PrtsOK wr w.heap.size pv ts∧ts.length≤q∧nestL ((rsOf ts).map some)≤30000∧GAmong tk [c] p ts.length (clOf ts) (nestL ((rsOf ts).map some)) q
theorem grown_row {w a b:World} {R:Nat} {v:Value} (h:w.grownBy a (some R)) (k:a.grownBy b v.ownBlock) (hv: ∀g,v.ownBlock=some g→w.heap.size≤g):w.grownBy b (some R):=
 ⟨k.os.trans h.os,k.tape.trans h.tape,k.output.trans h.output,Nat.le_trans h.size k.size,fun i hi hn=>(k.block i (Nat.lt_of_lt_of_le hi h.size) (fun e=>by have:=hv i e.symm;omega)).trans (h.block i hi hn)⟩
theorem own_grown {w w':World} {base R m:Nat} {v:Value} {xs:List Value} (h:w.ownsRow base 192 1 v m xs) (hg:w.grownBy w' (some R)) (hR:R<base):w'.ownsRow base 192 1 v m xs:=
 h.kept hg (.inr (fun e=>by have:=(h.lt R e).1;omega))
theorem SInv.start {R:Nat} {s:ByteArray} {tv:Value} {tk:List Tk} {c:UInt8} {p o:Nat} {w:World} (hr:RdAt w R s tv p o) (hp:p≤tk.length):SInv R s tv tk c p o w (.slice none 0 0) w:=
 ⟨World.grownBy.refl _ _,p,[],hp,Nat.le_refl _,hr,World.ownsRow_nil _ _ _ _,(fun t ht=>by cases ht),Nat.zero_le _,(by simp [rsOf,nestL]),GAmong.start tk [c] p⟩
theorem SInv.more {R:Nat} {s:ByteArray} {tv:Value} {tk:List Tk} {c:UInt8} {p o q q0 q1 n m cap' gg N:Nat} {w w4 w5 w7:World} {pv:Value} {ts:List Prt} {a:List Cl}
  (hg5:w.grownBy w5 (some R)) (hRlt:R<w.heap.size) (hw4:w.heap.size≤w4.heap.size) (ho5:w5.ownsRow w.heap.size 192 1 pv ts.length (opPtrs ((rsOf ts).map some))) (hlt4: ∀g,pv.ownBlock=some g→g<w4.heap.size) (hpt:PrtsOK w5 w.heap.size pv ts) (hr5:RdAt w5 R s tv q1 o) (hq1:q1≤tk.length) (hpq:p≤q) (hqq:q<q1) (hl:ts.length≤q) (hnl:nestL ((rsOf ts).map some)≤30000)
  (ham:GAmong tk [c] p ts.length (clOf ts) (nestL ((rsOf ts).map some)) q) (hs:isT tk q [c]=false) (h1:ts.length=0→q0=q) (h2:ts.length≠0→isT tk q [44]=true∧q0=q+1) (hrt:RtB w5 w4.heap.size N a n) (hn:n≤30000) (hd:Rg tk .choice q0 a q1 m n)
  (ob:Obj) (hgrow:(w5.alloc ob).grownBy w7 pv.ownBlock) (hat:pv.ownBlock=some gg∨gg=w5.heap.size+1) (hown:w7.ownsRow w.heap.size 192 1 (.slice (some ⟨gg,0,none⟩) (ts.length+1) cap') (ts.length+1) (opPtrs ((rsOf ts).map some)++[.pointer (some ⟨N,0,none⟩)])):
  SInv R s tv tk c p o w (.slice (some ⟨gg,0,none⟩) (ts.length+1) cap') w7:=by
 have hlo: ∀g,pv.ownBlock=some g→w.heap.size≤g:=fun g hg=>(ho5.lt g hg).1
 have hs5:w.heap.size≤w5.heap.size:=hg5.size
 have hblk: ∀b,b<w5.heap.size→(∀g,pv.ownBlock=some g→b≠g)→w7.heap[b]? =w5.heap[b]? :=fun b hb hne=>by
  rw [hgrow.block b (by simp;omega) (fun e=>hne b e.symm rfl),Below.heap_alloc _ _ _ hb]
 refine ⟨grown_row (grown_al hg5 ob) hgrow hlo,q1,ts++[⟨w4.heap.size,N,n,a⟩],hq1,by omega,(hblk R (by omega) (fun g hg e=>by have:=hlo g hg;omega)).trans hr5, ?_, ?_, ?_, ?_, ?_⟩
 ·rw [List.length_append,rsOf_snoc,List.map_append,show opPtrs ((rsOf ts).map some++[(N,n)].map some)=opPtrs ((rsOf ts).map some)++[.pointer (some ⟨N,0,none⟩)] by simp [opPtrs,opPtr]]
  exact hown
 ·intro t ht
  rcases List.mem_append.mp ht with ht|ht
  ·obtain ⟨x1,x2,x3,x4⟩:=hpt t ht
   refine ⟨x1.keepI (fun b y1 y2 y3=>hblk b y3 (fun g hg e=>by have:=x4 g hg;omega)),x2,x3,fun g hg=> ?_⟩
   have hg:gg=g:=by simpa [Value.ownBlock] using hg
   subst hg
   rcases hat with h|h
   ·exact x4 _ h
   ·have:=x1.lt;omega
  ·simp only [List.mem_singleton] at ht
   subst ht
   refine ⟨hrt.keepI (fun b y1 y2 y3=>hblk b y3 (fun g hg e=>by have:=hlt4 g hg;omega)),hw4,hn,fun g hg=> ?_⟩
   have hg:gg=g:=by simpa [Value.ownBlock] using hg
   subst hg
   rcases hat with h|h
   ·exact .inl (hlt4 _ h)
   ·have:=hrt.lt;right;simp only;omega
 ·rw [List.length_append];simp only [List.length_cons,List.length_nil];omega
 ·rw [nestL_rs];simp only;omega
 ·rw [nestL_rs,clOf_snoc,List.length_append]
  exact ham.next hs h1 h2 hd
theorem series_gstep {w1:World} {R:Nat} {s:ByteArray} {tv:Value} {L:List (Int×Nat×Nat)} {tk:List Tk} {N:Nat} (hx:Cx w1 R s tv L tk) (ih:AllG w1 R s tv tk N) (kd:Int) (wd:ByteArray) (c:UInt8) (hc:sgB c=true) (p o:Nat) (w:World) (hb:Below w1.heap.size w1 w) (hr:RdAt w R s tv p o) (hp:p≤tk.length) (ho:o≤40) (hN:10*(tk.length-p)+8≤N):
  Calls Tryz.prog 244 #[.pointer (some ⟨R,0,none⟩), .int .i64 kd, .string wd, .string ⟨#[c]⟩] w fun e w'=>w.grownBy w' (some R)∧ ∃q,q≤tk.length∧RdAt w' R s tv q o∧
   ((∃(K:Nat) (l:List Cl) (m n:Nat),e= .returned (.pointer (some ⟨K,0,none⟩))∧RtB w' w.heap.size K ((kd,wd,(m:Int))::l) (n+1)∧Rg tk (.series [c] 0 [] 0) p l q m n)∨(e= .returned (.pointer none)∧NoG tk (.series [c] 0 [] 0) p (o+1))):=by
 have HB:=Lib.hid hb;have HX:=Lib.hid hx;have IH:=Lib.hid ih;have HRD:=Lib.hid hr
 have hpl:tk.length≤20000:=by rw [hx.length];exact hx.len
 have hlow:=hx.low
 have hRlt:=hr.lt
 obtain ⟨i0,hi,hz0,hz1,hz2⟩:=info_parts infoBr
 clear hr hb hx ih
 go_enter Tryz.func244,Tryz.ntmps244
 have HST:=Lib.hid (SInv.start (c:=c) HRD.out hp)
 go_wp2_with fail
 go_loopw [9] (fun pv wr=>SInv R s tv tk c p o w pv wr) (fun _ wr=>tk.length-atOf wr R)
 case atStart=>exact HST.out
 case round=>
  obtain ⟨hgr,q,ts,hq,hpq,hrd,hown,hpt,hl,hnl,ham⟩:=hrel
  have HGR:=Lib.hid hgr;have HRR:=Lib.hid hrd;have HO:=Lib.hid hown;have HPT:=Lib.hid hpt;have HAM:=Lib.hid ham
  have HBR:=Lib.hid (grown_bel HB.out hgr hlow)
  have HAT0:=Lib.hid hrd.atOf
  have hsl: ∃a c,u9=Value.slice a ts.length c:=by
   rcases hown.2 with ⟨h,h0⟩|⟨g',cap',cur,h,_⟩
   ·exact ⟨none,0,by rw [h,h0]⟩
   ·exact ⟨_,_,h⟩
  clear hgr hrd hown hpt ham
  obtain ⟨av0,cv0,rfl⟩:=hsl
  go_wp2_with fail
  refine (rdTake c hc HX.out HBR.out HRR.out hq).mono ?_
  rintro e w3 ⟨rfl,hg3,hr3⟩
  have HG3:=Lib.hid (grown_tr HGR.out hg3)
  have HB3:=Lib.hid (grown_bel HBR.out hg3 hlow)
  have HO3:=Lib.hid (own_grown HO.out hg3 hRlt)
  have HP3:=Lib.hid (HPT.out.grown hg3 hRlt)
  cases hqc:isT tk q [c] with
  |true=>
   rw [hqc,if_pos rfl] at hr3
   have hqlt:=isT_lt hqc
   have HR3:=Lib.hid hr3
   have HD:=Lib.hid (HAM.out.done hqc)
   obtain ⟨htr,hns⟩:=HP3.out.tree
   have HTR:=Lib.hid htr;have HNS:=Lib.hid hns
   have hrl:(rsOf ts).length=ts.length:=by simp [rsOf]
   clear hg3 hr3 hqc htr hns
   go_wp2_with fail
   refine (grow_parts kd wd _ (rsOf ts) w.heap.size ts.length (clOf ts) _ HG3.out.size HO3.out (by omega) HTR.out HNS.out).mono ?_
   rintro e w8 ⟨hb8,K,rfl,ht8⟩
   rw [hrl] at ht8
   have HT8:=Lib.hid ht8
   have HG8:=Lib.hid (grown_tr HG3.out (grown_of hb8 (some R)))
   have HR8:=Lib.hid (HR3.out.below hb8)
   clear hb8 ht8
   generalize nestL ((rsOf ts).map some)=nn at HT8 HD hnl
   go_wp2_with fail
   refine (nested_some _ w.heap.size K nn _ HT8.out (by omega)).mono ?_
   rintro e w9 ⟨rfl,rfl⟩
   have HT9:=Lib.hid (HT8.out.set (nn+1))
   have hKl:=HT8.out.lt.1
   have HG9:=Lib.hid (grown_new HG8.out hKl 4 (.int .i64 ((nn+1:Nat):Int)))
   have HR9:=Lib.hid (show RdAt (w8.setCell ⟨K,4,none⟩ (.int .i64 ((nn+1:Nat):Int))) R s tv (q+1) o from (Below.heap_setCell _ _ _ _ (by show R≠K;omega)).trans HR8.out)
   go_wp2
   go_ret
   exact ⟨HG9.out,q+1,by omega,HR9.out, .inl ⟨K,_,_,_,rfl,HT9.out,HD.out⟩⟩
  |false=>
   rw [hqc] at hr3
   replace hr3:RdAt w3 R s tv q o:=hr3
   have HR3:=Lib.hid hr3;have HS:=Lib.hid hqc
   clear hg3 hr3 hqc
   by_cases hk0:ts.length=0
   ·have hk0':decide ((0:Int)<(ts.length:Int))=false:=decide_eq_false (by omega)
    have hk0'':decide (0<ts.length)=false:=decide_eq_false (by omega)
    have HK0:=Lib.hid hk0;clear hk0
    go_wp2_with fail
    refine (inside_choice (p:=q) HX.out HB3.out HR3.out (by omega) ho (fun h wX k1 k2=>IH.out.choice (q) (o+1) wX k1 k2 (by omega) h (by omega))).mono ?_
    rintro e w5 ⟨hg5,q1,hq1,hr5,hres⟩
    have HG5:=Lib.hid (grown_tr HG3.out hg5);have HR5:=Lib.hid hr5
    have HO5:=Lib.hid (own_grown HO3.out hg5 hRlt)
    have HP5:=Lib.hid (HP3.out.grown hg5 hRlt)
    have hwX:w.heap.size≤w3.heap.size:=HG3.out.size
    have hltX: ∀g,(Value.slice av0 ts.length cv0).ownBlock=some g→g<w3.heap.size:=fun g hg=>(HO3.out.lt g hg).2
    have HLTX:=Lib.hid hltX;clear hltX
    rcases hres with ⟨M,a,n,rfl,ht,hd⟩|⟨rfl,hno⟩
    ·have HT5:=Lib.hid ht;have HD:=Lib.hid hd
     have hnn:=hd.nest
     simp only at hnn
     have hqq:q<q1:=by
      have:=hd.le.1
      obtain ⟨_,_,_,_,_,rfl,_⟩:=ht
      simp only [GJob.held,List.length_nil,List.length_cons] at this;omega
     clear ht hd hg5 hr5
     go_wp2_with (at_builtin;refine wpList_append_lies _ rfl _ _ 194 rfl w.heap.size 192 i0 (.pointer none) 1 8 Tryz.underlying194 hi hz0 hz1 hz2 rfl (by decide) (.slice av0 ts.length cv0) ts.length _ rfl (HO5.out.alloc _) ⟨w5.heap.size,0,none⟩ 1 1 [.pointer (some ⟨M,0,none⟩)] rfl rfl (World.news_of_block (cs:= #[.pointer (some ⟨M,0,none⟩)]) (t:=192) (fr:=(0,0)) (heap_alloc_new w5 _)) (by simp [Value.oneCell']) (by omega) (by unfold maxLen;omega) (by omega) (by have:=HG5.out.size;simp;omega) (w5.heap.size+1) (by simp) ?_;intro gg cap' w7 hown' hgrow hat hlt';have HO7:=Lib.hid hown';have HG7:=Lib.hid hgrow;have HAT:=Lib.hid hat;clear hown' hgrow hat)
     have HNX:=Lib.hid (SInv.more HG5.out hRlt hwX HO5.out HLTX.out HP5.out HR5.out hq1 hpq (by omega) hl hnl HAM.out HS.out (q0:=q) (fun _=>rfl) (fun h=>absurd HK0.out h) HT5.out (by omega) HD.out _ HG7.out HAT.out HO7.out)
     go_roundw
     case rel=>exact HNX.out
     case measure=>
      obtain ⟨_,q',ts',hq',hpq',hrd',_⟩:=HNX.out
      have hqe:q'=q1:=by
       have e1:=(HR5.out.below ((Below.refl _ _).alloc (Nat.le_refl _) (.cells #[.pointer (some ⟨M,0,none⟩)] 192)))
       have e2:RdAt w7 R s tv q1 o:=(HG7.out.block R (by have:=HR5.out.lt;simp;omega) (fun e=>by have:=(HO5.out.lt R e.symm).1;omega)).trans e1
       have:=e2.atOf;have:=hrd'.atOf;omega
      rw [HAT0.out,hrd'.atOf];omega
    ·have HN:=Lib.hid (HAM.out.fail HS.out (q0:=q) (fun _=>rfl) (fun h=>absurd HK0.out h) hno)
     clear hno hg5 hr5
     go_wp2
     go_ret
     exact ⟨HG5.out,q1,hq1,HR5.out, .inr ⟨rfl,HN.out⟩⟩
   ·have hk0':(0:Int)<(ts.length:Int):=by omega
    go_wp2_with fail
    refine (rdTake 44 (by decide) HX.out HB3.out HR3.out hq).mono ?_
    rintro e w4 ⟨rfl,hg4,hr4⟩
    have HG4:=Lib.hid (grown_tr HG3.out hg4)
    have HB4:=Lib.hid (grown_bel HB3.out hg4 hlow)
    have HO4:=Lib.hid (own_grown HO3.out hg4 hRlt)
    have HP4:=Lib.hid (HP3.out.grown hg4 hRlt)
    cases hqm:isT tk q [44] with
    |false=>
     rw [hqm] at hr4
     replace hr4:RdAt w4 R s tv q o:=hr4
     have HR4:=Lib.hid hr4
     have HN:=Lib.hid (HAM.out.comma (o:=o+1) HS.out hk0 hqm)
     clear hg4 hr4 hqm
     go_wp2
     go_ret
     exact ⟨HG4.out,q,hq,HR4.out, .inr ⟨rfl,HN.out⟩⟩
    |true=>
     rw [hqm,if_pos rfl] at hr4
     have hqlt:=isT_lt hqm
     have HR4:=Lib.hid hr4;have HCM:=Lib.hid hqm
     clear hg4 hr4 hqm
     go_wp2_with fail
     refine (inside_choice (p:=q+1) HX.out HB4.out HR4.out (by omega) ho (fun h wX k1 k2=>IH.out.choice (q+1) (o+1) wX k1 k2 (by omega) h (by omega))).mono ?_
     rintro e w5 ⟨hg5,q1,hq1,hr5,hres⟩
     have HG5:=Lib.hid (grown_tr HG4.out hg5);have HR5:=Lib.hid hr5
     have HO5:=Lib.hid (own_grown HO4.out hg5 hRlt)
     have HP5:=Lib.hid (HP4.out.grown hg5 hRlt)
     have hwX:w.heap.size≤w4.heap.size:=HG4.out.size
     have hltX: ∀g,(Value.slice av0 ts.length cv0).ownBlock=some g→g<w4.heap.size:=fun g hg=>(HO4.out.lt g hg).2
     have HLTX:=Lib.hid hltX;clear hltX
     rcases hres with ⟨M,a,n,rfl,ht,hd⟩|⟨rfl,hno⟩
     ·have HT5:=Lib.hid ht;have HD:=Lib.hid hd
      have hnn:=hd.nest
      simp only at hnn
      have hqq:q+1<q1:=by
       have:=hd.le.1
       obtain ⟨_,_,_,_,_,rfl,_⟩:=ht
       simp only [GJob.held,List.length_nil,List.length_cons] at this;omega
      clear ht hd hg5 hr5
      go_wp2_with (at_builtin;refine wpList_append_lies _ rfl _ _ 194 rfl w.heap.size 192 i0 (.pointer none) 1 8 Tryz.underlying194 hi hz0 hz1 hz2 rfl (by decide) (.slice av0 ts.length cv0) ts.length _ rfl (HO5.out.alloc _) ⟨w5.heap.size,0,none⟩ 1 1 [.pointer (some ⟨M,0,none⟩)] rfl rfl (World.news_of_block (cs:= #[.pointer (some ⟨M,0,none⟩)]) (t:=192) (fr:=(0,0)) (heap_alloc_new w5 _)) (by simp [Value.oneCell']) (by omega) (by unfold maxLen;omega) (by omega) (by have:=HG5.out.size;simp;omega) (w5.heap.size+1) (by simp) ?_;intro gg cap' w7 hown' hgrow hat hlt';have HO7:=Lib.hid hown';have HG7:=Lib.hid hgrow;have HAT:=Lib.hid hat;clear hown' hgrow hat)
      have HNX:=Lib.hid (SInv.more HG5.out hRlt hwX HO5.out HLTX.out HP5.out HR5.out hq1 hpq (by omega) hl hnl HAM.out HS.out (q0:=q+1) (fun h=>absurd h hk0) (fun _=>⟨HCM.out,rfl⟩) HT5.out (by omega) HD.out _ HG7.out HAT.out HO7.out)
      go_roundw
      case rel=>exact HNX.out
      case measure=>
       obtain ⟨_,q',ts',hq',hpq',hrd',_⟩:=HNX.out
       have hqe:q'=q1:=by
        have e1:=(HR5.out.below ((Below.refl _ _).alloc (Nat.le_refl _) (.cells #[.pointer (some ⟨M,0,none⟩)] 192)))
        have e2:RdAt w7 R s tv q1 o:=(HG7.out.block R (by have:=HR5.out.lt;simp;omega) (fun e=>by have:=(HO5.out.lt R e.symm).1;omega)).trans e1
        have:=e2.atOf;have:=hrd'.atOf;omega
       rw [HAT0.out,hrd'.atOf];omega
     ·have HN:=Lib.hid (HAM.out.fail HS.out (q0:=q+1) (fun h=>absurd h hk0) (fun _=>⟨HCM.out,rfl⟩) hno)
      clear hno hg5 hr5
      go_wp2
      go_ret
      exact ⟨HG5.out,q1,hq1,HR5.out, .inr ⟨rfl,HN.out⟩⟩
theorem ls_yes' {s:ByteArray} {l:List UInt8} (h:s.data.toList=l):(s.toList==l)=true:=ls_yes h
theorem grow_leaf (kd:Int) (s:ByteArray) (w:World):
  Calls Tryz.prog 207 #[.int .i64 kd, .string s, .slice none 0 0] w fun e w'=>Below w.heap.size w w'∧ ∃N,e= .returned (.pointer (some ⟨N,0,none⟩))∧RtB w' w.heap.size N [(kd,s,0)] 0:=by
 refine (grow_parts kd s _ [] w.heap.size 0 [] w (Nat.le_refl _) (World.ownsRow_nil _ _ _ _) (by omega) (.nil _) (fun x hx=>by cases hx)).mono ?_
 rintro e w' ⟨hb,N,he,ht⟩
 exact ⟨hb,N,he,ht⟩
theorem numberBranch_any (s:ByteArray) (w:World) (hs:s.size≤2097152) (htab:Tab w):
  Calls Tryz.prog 241 #[.string s] w fun e w'=>Below w.heap.size w w'∧((∃N,e= .returned (.pointer (some ⟨N,0,none⟩))∧RtB w' w.heap.size N [(1,numWd s,0)] 0∧numOK s=true)∨(e= .returned (.pointer none)∧numOK s=false)):=by
 have HD:=Lib.hid (decimal_impl s w (by omega))
 have HT:=Lib.hid htab
 have HW:=Lib.hid (show numWd s=⟨(textF (opT (decV s.data.toList) (decX s.data.toList) (decY s.data.toList)) (opB (decV s.data.toList) (decX s.data.toList) (decY s.data.toList))).toArray⟩ from rfl)
 have HO:=Lib.hid (show numOK s=opOK (decV s.data.toList) (decX s.data.toList) (decY s.data.toList) from rfl)
 generalize opT (decV s.data.toList) (decX s.data.toList) (decY s.data.toList)=T at HD HW
 generalize opB (decV s.data.toList) (decX s.data.toList) (decY s.data.toList)=B at HD HW
 rw [HO.out,HW.out]
 generalize opOK (decV s.data.toList) (decX s.data.toList) (decY s.data.toList)=ok at HD HO⊢
 clear HW HO htab
 have HFR:=Lib.hid (fun w' (h:Tab w')=>fractionText_impl T B w' h)
 generalize (⟨(textF T B).toArray⟩:ByteArray)=word at HFR⊢
 have HGL:=Lib.hid (fun w'=>grow_leaf 1 word w')
 cases ok with
 |true=>
  go_enter Tryz.func241,Tryz.ntmps241
  go_wp2_with fail
  refine HD.out.mono ?_
  rintro e w2 ⟨rfl,hb2⟩
  have HB2:=Lib.hid hb2;have HT2:=Lib.hid (HT.out.keep hb2);clear hb2
  unfold fr
  have HBA:=Lib.hid ((Below.refl w2.heap.size w2).alloc (Nat.le_refl _) (.cells #[.int .i64 T, .int .i64 B] 170))
  go_wp2_with fail
  refine (HFR.out _ (HT2.out.al _)).mono ?_
  rintro e w3 ⟨rfl,hb3⟩
  have HB3:=Lib.hid (HB2.out.trans ((HBA.out.trans (hb3.mono HBA.out.size)).mono HB2.out.size));clear hb3
  go_wp2_with fail
  refine (HGL.out _).mono ?_
  rintro e w4 ⟨hb4,N,rfl,ht⟩
  have HTT:=Lib.hid (ht.mono HB3.out.size);have HB4:=Lib.hid (HB3.out.trans (hb4.mono HB3.out.size));clear ht hb4
  go_wp2
  go_ret
  exact ⟨HB4.out, .inl ⟨N,rfl,HTT.out,by trivial⟩⟩
 |false=>
  go_enter Tryz.func241,Tryz.ntmps241
  go_wp2_with fail
  refine HD.out.mono ?_
  rintro e w2 ⟨rfl,hb2⟩
  have HB2:=Lib.hid hb2;clear hb2
  unfold fr
  go_wp2
  go_ret
  exact ⟨HB2.out.alloc HB2.out.size _, .inr ⟨rfl,by trivial⟩⟩
theorem textBranch_any (s:ByteArray) (w:World) (hs:s.size≤2097152):
  Calls Tryz.prog 242 #[.string s] w fun e w'=>Below w.heap.size w w'∧((∃N,e= .returned (.pointer (some ⟨N,0,none⟩))∧RtB w' w.heap.size N [(2,unqT s,0)] 0∧unqOK s=true)∨(e= .returned (.pointer none)∧unqOK s=false)):=by
 have HD:=Lib.hid (unquoteText_impl s w (by unfold maxLen;omega))
 generalize unqT s=word at HD⊢
 generalize unqOK s=ok at HD⊢
 have HGL:=Lib.hid (fun w'=>grow_leaf 2 word w')
 cases ok with
 |true=>
  go_enter Tryz.func242,Tryz.ntmps242
  go_wp2_with fail
  refine HD.out.mono ?_
  rintro e w2 ⟨rfl,hb2⟩
  have HB2:=Lib.hid hb2;clear hb2
  go_wp2_with fail
  refine (HGL.out _).mono ?_
  rintro e w3 ⟨hb3,N,rfl,ht⟩
  have HT:=Lib.hid (ht.mono HB2.out.size);have HB3:=Lib.hid (HB2.out.trans (hb3.mono HB2.out.size));clear ht hb3
  go_wp2
  go_ret
  exact ⟨HB3.out, .inl ⟨N,rfl,HT.out,by trivial⟩⟩
 |false=>
  go_enter Tryz.func242,Tryz.ntmps242
  go_wp2_with fail
  refine HD.out.mono ?_
  rintro e w2 ⟨rfl,hb2⟩
  have HB2:=Lib.hid hb2;clear hb2
  go_wp2
  go_ret
  exact ⟨HB2.out, .inr ⟨rfl,by trivial⟩⟩
theorem noG_call {tk:List Tk} {p o:Nat} {s:ByteArray} (h1:tk[p]? =some (1,s)) (h2:s.data.toList≠trueL) (h3:s.data.toList≠falseL) (h4:isT tk (p+1) [40]=true) (h:NoG tk (.series [41] 0 [] 0) (p+2) (o+1)):NoG tk .single p o:=by
 intro c q m n k
 cases k with
 |call k1 k2 k3 k4 k5=>have:=h _ _ _ _ k5;omega
 |truth k1 k2=>have e:=tk_uniq h1 k1;simp only [Prod.mk.injEq,true_and] at e;subst e;rcases k2 with k2|k2;exact (h2 k2).elim;exact (h3 k2).elim
 |name k1 k2 k3 k4=>exact (tf' h4 k4).elim
 |paren k1 k2 k3=>exact (tf' k1 (isT_not h1 (by decide))).elim
 |list k1 k2=>exact (tf' k1 (isT_not h1 (by decide))).elim
 |_ k1=>have e:=tk_uniq h1 (by assumption);simp at e
theorem named_gstep {w1:World} {R:Nat} {s:ByteArray} {tv:Value} {L:List (Int×Nat×Nat)} {tk:List Tk} {N:Nat} (hx:Cx w1 R s tv L tk) (ih:AllG w1 R s tv tk N) (wd:ByteArray) (p o:Nat) (w:World) (hb:Below w1.heap.size w1 w) (hr:RdAt w R s tv (p+1) o) (hp:p<tk.length) (htk:tk[p]? =some (1,wd)) (ho:o≤40) (hN:10*(tk.length-p)≤N+1):
  Calls Tryz.prog 243 #[.pointer (some ⟨R,0,none⟩), .string wd] w (GRes R s tv tk .single p o 0 w):=by
 have HB:=Lib.hid hb;have HX:=Lib.hid hx;have IH:=Lib.hid ih;have HR:=Lib.hid hr;have HTK:=Lib.hid htk
 have hpl:tk.length≤20000:=by rw [hx.length];exact hx.len
 have hlow:=hx.low
 have hRlt:=hr.lt
 clear hr hb hx ih htk
 by_cases ht:wd.data.toList=trueL
 ·have e1:(wd.toList==trueL)=true:=ls_yes ht
  unfold trueL at e1
  have HD:=Lib.hid (Rg.truth HTK.out (.inl ht))
  clear ht
  go_enter Tryz.func243,Tryz.ntmps243
  go_wp2_with fail
  refine (grow_leaf 3 wd _).mono ?_
  rintro e w2 ⟨hb2,K,rfl,ht2⟩
  have HR2:=Lib.hid (HR.out.below hb2);have HG2:=Lib.hid (grown_of hb2 (some R));have HT2:=Lib.hid ht2
  clear hb2 ht2
  go_wp2
  go_ret
  exact ⟨HG2.out,p+1,hp,HR2.out, .inl ⟨K,_,0,rfl,HT2.out,HD.out⟩⟩
 by_cases hf:wd.data.toList=falseL
 ·have e1:(wd.toList==trueL)=false:=ls_no ht
  have e2:(wd.toList==falseL)=true:=ls_yes hf
  unfold trueL at e1
  unfold falseL at e2
  have HD:=Lib.hid (Rg.truth HTK.out (.inr hf))
  clear ht hf
  go_enter Tryz.func243,Tryz.ntmps243
  go_wp2_with fail
  refine (grow_leaf 3 wd _).mono ?_
  rintro e w2 ⟨hb2,K,rfl,ht2⟩
  have HR2:=Lib.hid (HR.out.below hb2);have HG2:=Lib.hid (grown_of hb2 (some R));have HT2:=Lib.hid ht2
  clear hb2 ht2
  go_wp2
  go_ret
  exact ⟨HG2.out,p+1,hp,HR2.out, .inl ⟨K,_,0,rfl,HT2.out,HD.out⟩⟩
 ·have e1:(wd.toList==trueL)=false:=ls_no ht
  have e2:(wd.toList==falseL)=false:=ls_no hf
  unfold trueL at e1
  unfold falseL at e2
  have HNT:=Lib.hid ht;have HNF:=Lib.hid hf
  clear ht hf
  go_enter Tryz.func243,Tryz.ntmps243
  go_wp2_with fail
  refine (rdTake 40 (by decide) HX.out HB.out HR.out hp).mono ?_
  rintro e w3 ⟨rfl,hg3,hr3⟩
  have HG3:=Lib.hid hg3
  have HB3:=Lib.hid (grown_bel HB.out hg3 hlow)
  cases hq:isT tk (p+1) [40] with
  |true=>
   rw [hq,if_pos rfl] at hr3
   have hqlt:=isT_lt hq
   have HR3:=Lib.hid hr3;have HQ:=Lib.hid hq
   clear hg3 hr3 hq
   go_wp2_with fail
   refine (series_gstep HX.out IH.out 6 wd 41 (by decide) (p+2) o w3 HB3.out HR3.out (by omega) ho (by omega)).mono ?_
   rintro e w4 ⟨hg4,q,hq,hr4,hres⟩
   have HG4:=Lib.hid (grown_tr HG3.out hg4);have HR4:=Lib.hid hr4
   have hs3:w.heap.size≤w3.heap.size:=HG3.out.size
   rcases hres with ⟨K,l,m,n,rfl,ht,hd⟩|⟨rfl,hno⟩
   ·have HT:=Lib.hid (ht.mono hs3)
    have HD:=Lib.hid (Rg.call HTK.out HNT.out HNF.out HQ.out hd)
    clear ht hd hg4 hr4
    go_wp2
    go_ret
    exact ⟨HG4.out,q,hq,HR4.out, .inl ⟨K,_,_,rfl,HT.out,HD.out⟩⟩
   ·have HN:=Lib.hid (noG_call HTK.out HNT.out HNF.out HQ.out hno)
    clear hno hg4 hr4
    go_wp2
    go_ret
    exact ⟨HG4.out,q,hq,HR4.out, .inr ⟨rfl,HN.out⟩⟩
  |false=>
   rw [hq] at hr3
   replace hr3:RdAt w3 R s tv (p+1) o:=hr3
   have HR3:=Lib.hid hr3;have HQ:=Lib.hid hq
   have HD:=Lib.hid (Rg.name HTK.out HNT.out HNF.out hq)
   have hs3:w.heap.size≤w3.heap.size:=HG3.out.size
   clear hg3 hr3 hq
   go_wp2_with fail
   refine (grow_leaf 4 wd _).mono ?_
   rintro e w4 ⟨hb4,K,rfl,ht4⟩
   have HR4:=Lib.hid (HR3.out.below hb4);have HG4:=Lib.hid (grown_tr HG3.out (grown_of hb4 (some R)));have HT4:=Lib.hid (ht4.mono hs3)
   clear hb4 ht4
   go_wp2
   go_ret
   exact ⟨HG4.out,p+1,hp,HR4.out, .inl ⟨K,_,0,rfl,HT4.out,HD.out⟩⟩
theorem noG_end {tk:List Tk} {p o:Nat} (h:tk[p]? =none):NoG tk .single p o:=by
 intro c q m n k
 have hno: ∀w,isT tk p w=false:=fun w=>by unfold isT;rw [h]
 cases k with
 |paren k1 k2 k3=>exact (tf' k1 (hno _)).elim
 |list k1 k2=>exact (tf' k1 (hno _)).elim
 |_ k1=>rename_i h1;first|(rw [h] at k1;cases k1;done)|(simp_all;done)
theorem noG_kind {tk:List Tk} {p o:Nat} {k:Int} {s:ByteArray} (h:tk[p]? =some (k,s)) (hk:k=4) (h1:isT tk p [40]=false) (h2:isT tk p [91]=false):NoG tk .single p o:=by
 intro c q m n z
 subst hk
 cases z with
 |paren k1 k2 k3=>exact (tf' k1 h1).elim
 |list k1 k2=>exact (tf' k1 h2).elim
 |num k1 k2=>have e:=tk_uniq h k1;simp at e
 |text k1 k2=>have e:=tk_uniq h k1;simp at e
 |truth k1 k2=>have e:=tk_uniq h k1;simp at e
 |name k1 k2 k3 k4=>have e:=tk_uniq h k1;simp at e
 |call k1 k2 k3 k4 k5=>have e:=tk_uniq h k1;simp at e
theorem noG_num {tk:List Tk} {p o:Nat} {s:ByteArray} (h:tk[p]? =some (2,s)) (hn:numOK s=false):NoG tk .single p o:=by
 intro c q m n z
 cases z with
 |paren k1 k2 k3=>exact (tf' k1 (isT_not h (by decide))).elim
 |list k1 k2=>exact (tf' k1 (isT_not h (by decide))).elim
 |num k1 k2=>have e:=tk_uniq h k1;simp only [Prod.mk.injEq,true_and] at e;subst e;exact (tf' k2 hn).elim
 |text k1 k2=>have e:=tk_uniq h k1;simp at e
 |truth k1 k2=>have e:=tk_uniq h k1;simp at e
 |name k1 k2 k3 k4=>have e:=tk_uniq h k1;simp at e
 |call k1 k2 k3 k4 k5=>have e:=tk_uniq h k1;simp at e
theorem noG_text {tk:List Tk} {p o:Nat} {s:ByteArray} (h:tk[p]? =some (3,s)) (hn:unqOK s=false):NoG tk .single p o:=by
 intro c q m n z
 cases z with
 |paren k1 k2 k3=>exact (tf' k1 (isT_not h (by decide))).elim
 |list k1 k2=>exact (tf' k1 (isT_not h (by decide))).elim
 |num k1 k2=>have e:=tk_uniq h k1;simp at e
 |text k1 k2=>have e:=tk_uniq h k1;simp only [Prod.mk.injEq,true_and] at e;subst e;exact (tf' k2 hn).elim
 |truth k1 k2=>have e:=tk_uniq h k1;simp at e
 |name k1 k2 k3 k4=>have e:=tk_uniq h k1;simp at e
 |call k1 k2 k3 k4 k5=>have e:=tk_uniq h k1;simp at e
theorem noG_list {tk:List Tk} {p o:Nat} (h:isT tk p [91]=true) (hn:NoG tk (.series [93] 0 [] 0) (p+1) (o+1)):NoG tk .single p o:=by
 intro c q m n z
 cases z with
 |paren k1 k2 k3=>have:=isT_two h k1;simp at this
 |list k1 k2=>have:=hn _ _ _ _ k2;omega
 |num k1 k2=>exact (tf' h (isT_not k1 (by decide))).elim
 |text k1 k2=>exact (tf' h (isT_not k1 (by decide))).elim
 |truth k1 k2=>exact (tf' h (isT_not k1 (by decide))).elim
 |name k1 k2 k3 k4=>exact (tf' h (isT_not k1 (by decide))).elim
 |call k1 k2 k3 k4 k5=>exact (tf' h (isT_not k1 (by decide))).elim
theorem noG_paren {tk:List Tk} {p o:Nat} (h:isT tk p [40]=true) (hn: ∀a q m n,Rg tk .choice (p+1) a q m n→isT tk q [41]=true→40<o+1+n):NoG tk .single p o:=by
 intro c q m n z
 cases z with
 |paren k1 k2 k3=>have:=hn _ _ _ _ k2 k3;omega
 |list k1 k2=>have:=isT_two h k1;simp at this
 |num k1 k2=>exact (tf' h (isT_not k1 (by decide))).elim
 |text k1 k2=>exact (tf' h (isT_not k1 (by decide))).elim
 |truth k1 k2=>exact (tf' h (isT_not k1 (by decide))).elim
 |name k1 k2 k3 k4=>exact (tf' h (isT_not k1 (by decide))).elim
 |call k1 k2 k3 k4 k5=>exact (tf' h (isT_not k1 (by decide))).elim
theorem single_gstep {w1:World} {R:Nat} {s:ByteArray} {tv:Value} {L:List (Int×Nat×Nat)} {tk:List Tk} {N:Nat} (htab:Tab w1) (hx:Cx w1 R s tv L tk) (ih:AllG w1 R s tv tk N) (p o:Nat) (w:World) (hb:Below w1.heap.size w1 w) (hr:RdAt w R s tv p o) (hp:p≤tk.length) (ho:o≤40) (hN:10*(tk.length-p)+2≤N+1):
  Calls Tryz.prog 237 #[.pointer (some ⟨R,0,none⟩)] w (GRes R s tv tk .single p o 0 w):=by
 have HNX:=Lib.hid (rdNext hx hb hr hp)
 have HB:=Lib.hid hb;have HX:=Lib.hid hx;have IH:=Lib.hid ih;have HR:=Lib.hid hr;have HTAB:=Lib.hid htab
 have hpl:tk.length≤20000:=by rw [hx.length];exact hx.len
 have hlow:=hx.low
 have hRlt:=hr.lt
 by_cases hlt:p<tk.length
 ·obtain ⟨k,wd,htk,hk1,hk4,hwz⟩:=hx.at hlt
  rw [wdT_in htk] at HNX
  have HTK:=Lib.hid htk
  have H40:=Lib.hid (wd_isT hx.sig p (b:=40) (t:=[]) (by decide));have H91:=Lib.hid (wd_isT hx.sig p (b:=91) (t:=[]) (by decide))
  rw [wdT_in htk] at H40 H91
  clear hr hb hx ih htk htab
  have key: ∃(hk0:((k==0)=false)),True:=⟨beq_eq_false_iff_ne.mpr (by omega),trivial⟩
  obtain ⟨hk0,-⟩:=key
  simp only at HNX H40 H91
  have HA:=Lib.hid (show∀w2,Below w.heap.size w w2→RdAt (w2.setCell ⟨R,2,none⟩ (.int .i64 ((p:Int)+1))) R s tv (p+1) o∧w.grownBy (w2.setCell ⟨R,2,none⟩ (.int .i64 ((p:Int)+1))) (some R) from fun w2 hb2=>by
   have h1:=(HR.out.below hb2).at_ (p+1)
   have h2:=grown_tr (grown_of hb2 (some R)) (grown_st w2 R 2 (.int .i64 ((p+1:Nat):Int)))
   rw [show ((p+1:Nat):Int)=(p:Int)+1 by omega] at h1 h2
   exact ⟨h1,h2⟩)
  by_cases h2:k=2
  ·subst h2
   go_enter Tryz.func237,Tryz.ntmps237
   go_wp2_with fail
   refine HNX.out.mono ?_
   rintro e w2 ⟨rfl,hb2⟩
   obtain ⟨a1,a2⟩:=HA.out w2 hb2
   have HR3:=Lib.hid a1;have HG3:=Lib.hid a2
   have HB3:=Lib.hid (grown_bel HB.out a2 hlow)
   obtain ⟨⟨q0,q1,q2,q3⟩,f2,f3⟩:=(HR.out.below hb2).cells
   clear a1 a2 hb2
   go_wp2_with fail
   refine (numberBranch_any wd _ hwz (HTAB.out.keep HB3.out)).mono ?_
   rintro e w4 ⟨hb4,⟨K,rfl,ht,hok⟩|⟨rfl,hno⟩⟩
   ·have HT:=Lib.hid (ht.mono HG3.out.size);have HD:=Lib.hid (Rg.num HTK.out hok)
    have HR4:=Lib.hid (HR3.out.below hb4);have HG4:=Lib.hid (grown_tr HG3.out (grown_of hb4 (some R)))
    clear ht hb4
    go_wp2
    go_ret
    exact ⟨HG4.out,p+1,hlt,HR4.out, .inl ⟨K,_,0,rfl,HT.out,HD.out⟩⟩
   ·have HN:=Lib.hid (noG_num (o:=o) HTK.out hno)
    have HR4:=Lib.hid (HR3.out.below hb4);have HG4:=Lib.hid (grown_tr HG3.out (grown_of hb4 (some R)))
    clear hb4
    go_wp2
    go_ret
    exact ⟨HG4.out,p+1,hlt,HR4.out, .inr ⟨rfl,HN.out⟩⟩
  by_cases h3:k=3
  ·subst h3
   go_enter Tryz.func237,Tryz.ntmps237
   go_wp2_with fail
   refine HNX.out.mono ?_
   rintro e w2 ⟨rfl,hb2⟩
   obtain ⟨a1,a2⟩:=HA.out w2 hb2
   have HR3:=Lib.hid a1;have HG3:=Lib.hid a2
   obtain ⟨⟨q0,q1,q2,q3⟩,f2,f3⟩:=(HR.out.below hb2).cells
   clear a1 a2 hb2
   go_wp2_with fail
   refine (textBranch_any wd _ hwz).mono ?_
   rintro e w4 ⟨hb4,⟨K,rfl,ht,hok⟩|⟨rfl,hno⟩⟩
   ·have HT:=Lib.hid (ht.mono HG3.out.size);have HD:=Lib.hid (Rg.text HTK.out hok)
    have HR4:=Lib.hid (HR3.out.below hb4);have HG4:=Lib.hid (grown_tr HG3.out (grown_of hb4 (some R)))
    clear ht hb4
    go_wp2
    go_ret
    exact ⟨HG4.out,p+1,hlt,HR4.out, .inl ⟨K,_,0,rfl,HT.out,HD.out⟩⟩
   ·have HN:=Lib.hid (noG_text (o:=o) HTK.out hno)
    have HR4:=Lib.hid (HR3.out.below hb4);have HG4:=Lib.hid (grown_tr HG3.out (grown_of hb4 (some R)))
    clear hb4
    go_wp2
    go_ret
    exact ⟨HG4.out,p+1,hlt,HR4.out, .inr ⟨rfl,HN.out⟩⟩
  by_cases h1:k=1
  ·subst h1
   go_enter Tryz.func237,Tryz.ntmps237
   go_wp2_with fail
   refine HNX.out.mono ?_
   rintro e w2 ⟨rfl,hb2⟩
   obtain ⟨a1,a2⟩:=HA.out w2 hb2
   have HR3:=Lib.hid a1;have HG3:=Lib.hid a2
   have HB3:=Lib.hid (grown_bel HB.out a2 hlow)
   obtain ⟨⟨q0,q1,q2,q3⟩,f2,f3⟩:=(HR.out.below hb2).cells
   clear a1 a2 hb2
   go_wp2_with fail
   refine (named_gstep HX.out IH.out wd p o _ HB3.out HR3.out hlt HTK.out ho (by omega)).mono ?_
   rintro e w4 ⟨hg4,q,hq,hr4,hres⟩
   have HG4:=Lib.hid (grown_tr HG3.out hg4);have HR4:=Lib.hid hr4
   rcases hres with ⟨K,c,n,rfl,ht,hd⟩|⟨rfl,hno⟩
   ·have HT:=Lib.hid (ht.mono HG3.out.size);have HD:=Lib.hid hd
    clear ht hd hg4 hr4
    go_wp2
    go_ret
    exact ⟨HG4.out,q,hq,HR4.out, .inl ⟨K,_,_,rfl,HT.out,HD.out⟩⟩
   ·have HN:=Lib.hid hno
    clear hno hg4 hr4
    go_wp2
    go_ret
    exact ⟨HG4.out,q,hq,HR4.out, .inr ⟨rfl,HN.out⟩⟩
  obtain rfl:k=4:=by omega
  clear h1 h2 h3 hk1 hk4
  by_cases h91:wd.data.toList=[91]
  ·have e1:(wd.toList==[91])=true:=ls_yes h91
   have HI:=Lib.hid (H91.out.mp h91)
   clear h91
   go_enter Tryz.func237,Tryz.ntmps237
   go_wp2_with fail
   refine HNX.out.mono ?_
   rintro e w2 ⟨rfl,hb2⟩
   obtain ⟨a1,a2⟩:=HA.out w2 hb2
   have HR3:=Lib.hid a1;have HG3:=Lib.hid a2
   have HB3:=Lib.hid (grown_bel HB.out a2 hlow)
   obtain ⟨⟨q0,q1,q2,q3⟩,f2,f3⟩:=(HR.out.below hb2).cells
   clear a1 a2 hb2
   go_wp2_with fail
   refine (series_gstep HX.out IH.out 5 ⟨#[]⟩ 93 (by decide) (p+1) o _ HB3.out HR3.out hlt ho (by omega)).mono ?_
   rintro e w4 ⟨hg4,q,hq,hr4,hres⟩
   have HG4:=Lib.hid (grown_tr HG3.out hg4);have HR4:=Lib.hid hr4
   rcases hres with ⟨K,l,m,n,rfl,ht,hd⟩|⟨rfl,hno⟩
   ·have HT:=Lib.hid (ht.mono HG3.out.size);have HD:=Lib.hid (Rg.list HI.out hd)
    clear ht hd hg4 hr4
    go_wp2
    go_ret
    exact ⟨HG4.out,q,hq,HR4.out, .inl ⟨K,_,_,rfl,HT.out,HD.out⟩⟩
   ·have HN:=Lib.hid (noG_list HI.out hno)
    clear hno hg4 hr4
    go_wp2
    go_ret
    exact ⟨HG4.out,q,hq,HR4.out, .inr ⟨rfl,HN.out⟩⟩
  by_cases h40:wd.data.toList=[40]
  ·have e1:(wd.toList==[91])=false:=ls_no h91
   have e2:(wd.toList==[40])=true:=ls_yes h40
   have HI:=Lib.hid (H40.out.mp h40)
   clear h91 h40
   go_enter Tryz.func237,Tryz.ntmps237
   go_wp2_with fail
   refine HNX.out.mono ?_
   rintro e w2 ⟨rfl,hb2⟩
   obtain ⟨a1,a2⟩:=HA.out w2 hb2
   have HR3:=Lib.hid a1;have HG3:=Lib.hid a2
   have HB3:=Lib.hid (grown_bel HB.out a2 hlow)
   obtain ⟨⟨q0,q1,q2,q3⟩,f2,f3⟩:=(HR.out.below hb2).cells
   clear a1 a2 hb2
   go_wp2_with fail
   refine (inside_choice (p:=p+1) HX.out HB3.out HR3.out hlt ho (fun h wX k1 k2=>IH.out.choice (p+1) (o+1) wX k1 k2 hlt h (by omega))).mono ?_
   rintro e w4 ⟨hg4,q,hq,hr4,hres⟩
   have HG4:=Lib.hid (grown_tr HG3.out hg4);have HR4:=Lib.hid hr4
   have HB4:=Lib.hid (grown_bel HB3.out hg4 hlow)
   rcases hres with ⟨M,c,n,rfl,ht,hd⟩|⟨rfl,hno⟩
   ·have HT4:=Lib.hid (ht.mono HG3.out.size);have HD:=Lib.hid hd
    have hn:=hd.nest
    simp only at hn
    clear ht hd hg4 hr4
    go_wp2_with fail
    refine (rdTake 41 (by decide) HX.out HB4.out HR4.out hq).mono ?_
    rintro e w5 ⟨rfl,hg5,hr5⟩
    have HG5:=Lib.hid (grown_tr HG4.out hg5)
    have HT5:=Lib.hid (HT4.out.grown hg5 hRlt)
    cases hq41:isT tk q [41] with
    |true=>
     rw [hq41,if_pos rfl] at hr5
     have hqlt:=isT_lt hq41
     have HR5:=Lib.hid hr5
     have HDD:=Lib.hid (Rg.paren HI.out HD.out hq41)
     clear hg5 hr5 hq41
     go_wp2_with fail
     refine (nested_some _ w.heap.size M n _ HT5.out (by omega)).mono ?_
     rintro e w6 ⟨rfl,rfl⟩
     have HT6:=Lib.hid (HT5.out.set (n+1))
     have hKl:=HT5.out.lt.1
     have HG6:=Lib.hid (grown_new HG5.out hKl 4 (.int .i64 ((n+1:Nat):Int)))
     have HR6:=Lib.hid (show RdAt (w5.setCell ⟨M,4,none⟩ (.int .i64 ((n+1:Nat):Int))) R s tv (q+1) o from (Below.heap_setCell _ _ _ _ (by show R≠M;omega)).trans HR5.out)
     go_wp2
     go_ret
     exact ⟨HG6.out,q+1,by omega,HR6.out, .inl ⟨M,_,_,rfl,HT6.out,HDD.out⟩⟩
    |false=>
     rw [hq41] at hr5
     replace hr5:RdAt w5 R s tv q o:=hr5
     have HR5:=Lib.hid hr5
     have HN:=Lib.hid (noG_paren (o:=o) HI.out (fun a q' m' n' z1 z2=>by
      obtain ⟨rfl,rfl,-,-⟩:=HD.out.uniq z1
      exact (tf' z2 hq41).elim))
     clear hg5 hr5 hq41
     go_wp2
     go_ret
     exact ⟨HG5.out,q,hq,HR5.out, .inr ⟨rfl,HN.out⟩⟩
   ·have HN:=Lib.hid (noG_paren (o:=o) HI.out (fun a q' m' n' z1 z2=>hno _ _ _ _ z1))
    clear hno hg4 hr4
    go_wp2_with fail
    refine (rdTake 41 (by decide) HX.out HB4.out HR4.out hq).mono ?_
    rintro e w5 ⟨rfl,hg5,hr5⟩
    have HG5:=Lib.hid (grown_tr HG4.out hg5)
    cases hq41:isT tk q [41] with
    |true=>
     rw [hq41,if_pos rfl] at hr5
     have hqlt:=isT_lt hq41
     have HR5:=Lib.hid hr5
     clear hg5 hr5 hq41
     go_wp2_with fail
     refine (nested_nil _).mono ?_
     rintro e w6 ⟨rfl,rfl⟩
     go_wp2
     go_ret
     exact ⟨HG5.out,q+1,by omega,HR5.out, .inr ⟨rfl,HN.out⟩⟩
    |false=>
     rw [hq41] at hr5
     replace hr5:RdAt w5 R s tv q o:=hr5
     have HR5:=Lib.hid hr5
     clear hg5 hr5 hq41
     go_wp2
     go_ret
     exact ⟨HG5.out,q,hq,HR5.out, .inr ⟨rfl,HN.out⟩⟩
  ·have e1:(wd.toList==[91])=false:=ls_no h91
   have e2:(wd.toList==[40])=false:=ls_no h40
   have i1:isT tk p [40]=false:=by
    cases h:isT tk p [40] with
    |false=>rfl
    |true=>exact absurd (H40.out.mpr h) h40
   have i2:isT tk p [91]=false:=by
    cases h:isT tk p [91] with
    |false=>rfl
    |true=>exact absurd (H91.out.mpr h) h91
   have HN:=Lib.hid (noG_kind (o:=o) HTK.out rfl i1 i2)
   clear h91 h40 i1 i2
   go_enter Tryz.func237,Tryz.ntmps237
   go_wp2_with fail
   refine HNX.out.mono ?_
   rintro e w2 ⟨rfl,hb2⟩
   obtain ⟨a1,a2⟩:=HA.out w2 hb2
   have HR3:=Lib.hid a1;have HG3:=Lib.hid a2
   obtain ⟨⟨q0,q1,q2,q3⟩,f2,f3⟩:=(HR.out.below hb2).cells
   clear a1 a2 hb2
   go_wp2
   go_ret
   exact ⟨HG3.out,p+1,hlt,HR3.out, .inr ⟨rfl,HN.out⟩⟩
 ·have hnone:tk[p]? =none:=List.getElem?_eq_none (by omega)
  have HN:=Lib.hid (noG_end (o:=o) hnone)
  rw [wdT_out (by omega)] at HNX
  simp only at HNX
  clear hr hb hx ih htab hnone
  go_enter Tryz.func237,Tryz.ntmps237
  go_wp2_with fail
  refine HNX.out.mono ?_
  rintro e w2 ⟨rfl,hb2⟩
  have HR2:=Lib.hid (HR.out.below hb2);have HG2:=Lib.hid (grown_of hb2 (some R))
  clear hb2
  go_wp2
  go_ret
  exact ⟨HG2.out,p,hp,HR2.out, .inr ⟨rfl,HN.out⟩⟩
theorem all_g {w1:World} {R:Nat} {s:ByteArray} {tv:Value} {L:List (Int×Nat×Nat)} {tk:List Tk} (htab:Tab w1) (hx:Cx w1 R s tv L tk): ∀N,AllG w1 R s tv tk N:=by
 intro N
 induction N with
 |zero=>exact ⟨fun p o w _ _ _ _ h=>by omega,fun r p o w _ _ _ _ _ _ h=>by omega,fun p o w _ _ _ _ h=>by omega,fun p o w _ _ _ _ h=>by omega⟩
 |succ N ih=>
  exact ⟨fun p o w a b c d h=>choice_gstep hx ih p o w a b c d h,fun r p o w x y a b c d h=>bin_gstep hx ih r p o w x y a b c d h,fun p o w a b c d h=>unary_gstep hx ih p o w a b c d h,fun p o w a b c d h=>single_gstep htab hx ih p o w a b c d h⟩
theorem TrB.inv {w:World} {lo hi N:Nat} {c:List Cl} (h:TrB w lo hi [N] c): ∃(k n:Int) (s:ByteArray) (v:Value) (qs:List Nat) (c1:List Cl),c=(k,s,(qs.length:Int))::c1∧BlkB w N #[.int .i64 k, .string s, .int .i64 (qs.length:Int),v, .int .i64 n]∧w.ownsRow lo 192 1 v qs.length (ptrs qs)∧TrB w lo N qs c1:=by
 cases h with
 | @cons _ _ k n s v qs _ c1 c2 h1 h2 hb ho hr t1 t2=>
  cases t2
  exact ⟨k,n,s,v,qs,c1,by rw [List.append_nil],hb,ho,t1⟩
theorem TrB.inv2 {w:World} {lo hi N:Nat} {ps:List Nat} {c:List Cl} (h:TrB w lo hi (N::ps) c): ∃d e,c=d++e∧TrB w lo hi [N] d∧TrB w lo hi ps e:=by
 cases h with
 | @cons _ _ k n s v qs _ c1 c2 h1 h2 hb ho hr t1 t2=>
  refine ⟨(k,s,(qs.length:Int))::c1,c2,rfl, ?_,t2⟩
  have:=TrB.cons h1 h2 hb ho hr t1 (.nil hi)
  rwa [List.append_nil] at this
theorem TrB.inv0 {w:World} {lo hi:Nat} {c:List Cl} (h:TrB w lo hi [] c):c=[]:=by cases h;rfl
theorem TrB.nil_len {w:World} {lo hi:Nat} {ps:List Nat} {c:List Cl} (h:TrB w lo hi ps c):ps.length≤c.length:=by
 induction h with
 |nil hi=>exact Nat.le_refl _
 |cons h1 h2 hb ho hr t1 t2 i1 i2=>simp only [List.length_cons,List.length_append];omega
theorem brow_ptr {w:World} {lo m:Nat} {v:Value} {qs:List Nat} (ho:w.ownsRow lo 192 1 v m (ptrs qs)):
  ∃ao cap,v= .slice ao qs.length cap∧qs.length≤cap∧cap≤maxLen∧(qs=[]∨ ∃b,ao=some ⟨b,0,none⟩∧b<w.heap.size∧ ∀k (h:k<qs.length),w.cell? ⟨b,k,none⟩=some (.pointer (some ⟨qs[k],0,none⟩))):=by
 have hl:qs.length=m:=by have:=ho.1;rw [ptrs_length] at this;omega
 subst hl
 rcases ho.2 with ⟨rfl,h0⟩|⟨g,cap,cur,rfl,hg,hh,h1,h2,_⟩
 ·exact ⟨none,0,by rw [h0],by omega,by unfold maxLen;omega, .inl (List.length_eq_zero_iff.mp h0)⟩
 ·refine ⟨_,cap,rfl,h1,h2, .inr ⟨g,rfl,(ho.lt g rfl).2,fun k hk=> ?_⟩⟩
  rw [ho.cellAt k (by omega)]
  exact ptrs_at qs k hk
def Appd (B:Nat) (l:List Cl) (w1:World) (e:Ending) (w':World):Prop:= ∃v',e= .returned v'∧w'.ownsRow B 110 3 v' l.length (flatC l)∧Below B w1 w'
theorem appendTo_any (w1:World) (lo:Nat) (j:Nat): ∀(hi N:Nat) (c l:List Cl) (v:Value) (w:World),TrB w1 lo hi [N] c→c.length≤j→l.length+c.length≤60000→Below w1.heap.size w1 w→w.ownsRow w1.heap.size 110 3 v l.length (flatC l)→
  Calls Tryz.prog 187 #[.pointer (some ⟨N,0,none⟩),v] w (Appd w1.heap.size (l++c) w1):=by
 induction j with
 |zero=>
  intro hi N c l v w ht hj
  obtain ⟨k,n,s,v1,qs,c1,rfl,-⟩:=ht.inv
  simp at hj
 |succ j ih=>
  intro hi N c l v w ht hj hlen hb ho
  obtain ⟨k,n,s,v1,qs,c1,rfl,hN,hor,t1⟩:=ht.inv
  obtain ⟨i0,hi0,hz0,hz1,hz2⟩:=info_parts infoC
  obtain ⟨ao,cap,rfl,g1,g2,g3⟩:=brow_ptr hor
  unfold maxLen at g2
  have hNl:=hN.lt
  have n0:w.cell? ⟨N,0,none⟩=some (.int .i64 k):=(hb.cell (p:=⟨N,0,none⟩) hNl).trans (hN.cell 0)
  have n1:w.cell? ⟨N,1,none⟩=some (.string s):=(hb.cell (p:=⟨N,1,none⟩) hNl).trans (hN.cell 1)
  have n2:w.cell? ⟨N,2,none⟩=some (.int .i64 (qs.length:Int)):=(hb.cell (p:=⟨N,2,none⟩) hNl).trans (hN.cell 2)
  have HN3:=Lib.hid (show w1.cell? ⟨N,3,none⟩=some (.slice ao qs.length cap) from hN.cell 3)
  have HG3:=Lib.hid g3;have HT1:=Lib.hid t1;have HIH:=Lib.hid ih;have HB:=Lib.hid hb;have HO:=Lib.hid ho
  simp only [List.length_cons] at hj hlen
  clear g3 t1 ih hb ht hN hor ho
  have hbs:=HB.out.size
  go_enter Tryz.func187,Tryz.ntmps187
  go_wp2_with (at_builtin;refine wpList_append_own _ rfl _ _ 30 rfl w1.heap.size 110 i0 _ 3 32 Tryz.underlying30 hi0 hz0 hz1 hz2 rfl (by decide) v l.length _ rfl (HO.out.alloc _) ⟨w.heap.size,0,none⟩ 1 1 [.int .i64 k, .string s, .int .i64 (qs.length:Int)] rfl rfl ?c1 ?c2 ?c3 ?c4 ?c5 ?_)
  case c1=>
   intro i u hi
   match i,hi with
   |0,hi=>simp at hi;subst hi;simp [Addr.add]
   |1,hi=>simp at hi;subst hi;simp [Addr.add]
   |2,hi=>simp at hi;subst hi;simp [Addr.add]
  case c2=>intro u hu;simp at hu;rcases hu with rfl|rfl|rfl<;>rfl
  case c3=>unfold maxLen;omega
  case c4=>omega
  case c5=>simp;omega
  intro v5 w5 hown5 hgrow5 _
  have HO5:=Lib.hid (show w5.ownsRow w1.heap.size 110 3 v5 (l++[(k,s,(qs.length:Int))]).length (flatC (l++[(k,s,(qs.length:Int))])) by
   rw [List.length_append,flatC_append];exact hown5)
  have HB5:=Lib.hid ((HB.out.alloc hbs _).grown hgrow5 (by simp;omega) (fun r hr=>(HO.out.lt r hr).1))
  have n3:w5.cell? ⟨N,3,none⟩=some (.slice ao qs.length cap):=(HB5.out.cell (p:=⟨N,3,none⟩) hNl).trans HN3.out
  clear hown5 hgrow5 n0 n1 n2
  go_wp2_with fail
  go_loopw [1,19] (fun lv i wr=> ∃(q:Nat) (c0 c2:List Cl),q≤qs.length∧i= .int .i64 (q:Int)∧c1=c0++c2∧TrB w1 lo N (qs.drop q) c2∧wr.ownsRow w1.heap.size 110 3 lv (l++(k,s,(qs.length:Int))::c0).length (flatC (l++(k,s,(qs.length:Int))::c0))∧Below w1.heap.size w1 wr) (fun _ i _=>qs.length-(intOf i).toNat)
  case atStart=>exact ⟨0,[],c1,Nat.zero_le _,rfl,rfl,HT1.out,HO5.out,HB5.out⟩
  case round=>
   obtain ⟨q,c0,c2,hq,rfl,hc,ht,ho,hb⟩:=hrel
   have HT:=Lib.hid ht;have HO:=Lib.hid ho;have HB:=Lib.hid hb;have HC:=Lib.hid hc
   by_cases hlt:q<qs.length
   ·obtain ⟨b,rfl,hbl,cc⟩:=HG3.out.resolve_left (by rintro rfl;simp at hlt)
    have d1:wr.cell? ⟨b,q,none⟩=_:=(hb.cell (p:=⟨b,q,none⟩) hbl).trans (cc q hlt)
    rw [List.drop_eq_getElem_cons hlt] at ht
    obtain ⟨d,e2,rfl,hd,he⟩:=ht.inv2
    have hll:c1.length=c0.length+(d.length+e2.length):=by rw [hc];simp
    have HCALL:=Lib.hid (HIH.out N qs[q] d (l++(k,s,(qs.length:Int))::c0) _ wr hd (by omega) (by simp only [List.length_append,List.length_cons];omega) hb ho)
    have HE:=Lib.hid he
    clear cc ht ho hb hc hd he
    go_wp2_with fail
    refine HCALL.out.mono ?_
    rintro e w7 ⟨v7,rfl,ho7,hb7⟩
    have HO7:=Lib.hid ho7;have HB7:=Lib.hid hb7
    clear ho7 hb7
    go_wp2
    go_roundw
    case rel=>exact ⟨q+1,c0++d,e2,by omega,by go_num,by rw [HC.out,List.append_assoc],HE.out,by have:=HO7.out;simpa using this,HB7.out⟩
    case measure=>simp [intOf];omega
   ·obtain rfl:q=qs.length:=by omega
    have hc2:c2=[]:=by
     have:=HT.out
     rw [List.drop_length] at this
     exact this.inv0
    have HCC:=Lib.hid (show c1=c0 by rw [HC.out,hc2,List.append_nil])
    clear ht ho hb hc hc2
    go_wp2
    go_ret
    exact ⟨_,rfl,by rw [HCC.out];exact HO.out,HB.out⟩
end Go.Proofs.YtegdjjjpoahamaaGreatDoor
