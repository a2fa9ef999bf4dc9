/-
  Part of the proof of FnReadDocument.
-/
import Derived.Test.YtegdjjjpoahamaaGreatDoorQQRan
import Derived.Deep.RegionWith
import Derived.Deep.QuietTactic
import Derived.BigQuiet
import Derived.Deep.DeepCutAuto
import Derived.Deep.AppendLies
set_option linter.unusedVariables false
set_option maxHeartbeats 4000000
set_option maxRecDepth 100000
namespace Go.Proofs.YtegdjjjpoahamaaGreatDoor
abbrev Tk:=Int×ByteArray
def isT (tk:List Tk) (at_:Nat) (w:List UInt8):Bool:=match tk[at_]? with
 |some (k,s)=>k==4&&s.data.toList==w
 |none=>false
def rkT (tk:List Tk) (at_:Nat):Int:=match tk[at_]? with
 |some (k,s)=>if k=4 then ap s.data.toList else 0
 |none=>0
def iw (s:ByteArray):Bool:=fs (bu s.data.toList) (aW s.data.toList) (aX s.data.toList)
def kB (s:ByteArray):ByteArray:=⟨(aJ (opT (bu s.data.toList) (aW s.data.toList) (aX s.data.toList)) (opB (bu s.data.toList) (aW s.data.toList) (aX s.data.toList))).toArray⟩
def bA (tk:List Tk) (at_:Nat):Bool:=isT tk at_ [33]||isT tk at_ [45]
theorem bG {tk:List Tk} {p:Nat} {w:List UInt8} (h:isT tk p w=true):p<tk.length:=by
 unfold isT at h
 cases hk:tk[p]? with
 |none=>rw [hk] at h;cases h
 |some x=>exact (List.getElem?_eq_some_iff.mp hk).1
theorem df {tk:List Tk} {p:Nat} {x:Tk} (h:tk[p]? =some x):p<tk.length:=(List.getElem?_eq_some_iff.mp h).1
theorem dK {tk:List Tk} {p:Nat} {w:List UInt8} (h:isT tk p w=true): ∃s,tk[p]? =some (4,s)∧s.data.toList=w:=by
 unfold isT at h
 cases hk:tk[p]? with
 |none=>rw [hk] at h;cases h
 |some x=>
  obtain ⟨k,s⟩:=x;rw [hk] at h;simp only [Bool.and_eq_true,beq_iff_eq] at h;exact ⟨s,by rw [h.1],h.2⟩
inductive GJob
 |choice
 |bin (r:Nat)
 |loop (r:Nat) (a:List Cl) (na:Nat)
 |unary
 |single
 |series (close:List UInt8) (many:Nat) (out:List Cl) (no:Nat)
inductive Rg (tk:List Tk):GJob→Nat→List Cl→Nat→Nat→Nat→Prop
 |one {p a q m n}:Rg tk (.bin 2) p a q m n→isT tk q [63]=false→Rg tk .choice p a q 0 n
 |three {p a q m n b q2 m2 n2 c q3 m3 n3}:Rg tk (.bin 2) p a q m n→isT tk q [63]=true→Rg tk .choice (q+1) b q2 m2 n2→isT tk q2 [58]=true→Rg tk .choice (q2+1) c q3 m3 n3→
   Rg tk .choice p ((9,⟨#[]⟩,3)::(a++(b++c))) q3 0 (max n (max n2 n3)+1)
 |bin {r p a q m n c q2 m2 n2}:Rg tk .unary p a q m n→Rg tk (.loop r a n) q c q2 m2 n2→Rg tk (.bin r) p c q2 0 n2
 |stop {r:Nat} {a:List Cl} {na p:Nat}:rkT tk p<(r:Int)→Rg tk (.loop r a na) p a p 0 na
 |more {r k:Nat} {a:List Cl} {na p:Nat} {s:ByteArray} {b:List Cl} {q m n:Nat} {c:List Cl} {q2 m2 n2:Nat}:rkT tk p=(k:Int)→r≤k→0<k→tk[p]? =some (4,s)→Rg tk (.bin (k+1)) (p+1) b q m n→ ¬(k=4∧rkT tk q=4)→
   Rg tk (.loop r ((8,s,2)::(a++b)) (max na n)) q c q2 m2 n2→Rg tk (.loop r a na) p c q2 0 n2
 |sign {p s a q m n}:bA tk p=true→tk[p]? =some (4,s)→Rg tk .unary (p+1) a q m n→Rg tk .unary p ((7,s,1)::a) q 0 (n+1)
 |plain {p a q m n}:bA tk p=false→Rg tk .single p a q m n→Rg tk .unary p a q 0 n
 |num {p s}:tk[p]? =some (2,s)→iw s=true→Rg tk .single p [(1,kB s,0)] (p+1) 0 0
 |text {p s}:tk[p]? =some (3,s)→bH s=true→Rg tk .single p [(2,ga s,0)] (p+1) 0 0
 |truth {p s}:tk[p]? =some (1,s)→(s.data.toList=b7∨s.data.toList=bE)→Rg tk .single p [(3,s,0)] (p+1) 0 0
 |name {p s}:tk[p]? =some (1,s)→s.data.toList≠b7→s.data.toList≠bE→isT tk (p+1) [40]=false→Rg tk .single p [(4,s,0)] (p+1) 0 0
 |call {p s l q m n}:tk[p]? =some (1,s)→s.data.toList≠b7→s.data.toList≠bE→isT tk (p+1) [40]=true→Rg tk (.series [41] 0 [] 0) (p+2) l q m n→Rg tk .single p ((6,s,(m:Int))::l) q 0 (n+1)
 |paren {p a q m n}:isT tk p [40]=true→Rg tk .choice (p+1) a q m n→isT tk q [41]=true→Rg tk .single p a (q+1) 0 (n+1)
 |list {p l q m n}:isT tk p [91]=true→Rg tk (.series [93] 0 [] 0) (p+1) l q m n→Rg tk .single p ((5,⟨#[]⟩,(m:Int))::l) q 0 (n+1)
 |close {w k out no p}:isT tk p w=true→Rg tk (.series w k out no) p out (p+1) k no
 |part {w k out no p p0 a q m n c q2 m2 n2}:isT tk p w=false→(k=0→p0=p)→(k≠0→isT tk p [44]=true∧p0=p+1)→Rg tk .choice p0 a q m n→Rg tk (.series w (k+1) (out++a) (max no n)) q c q2 m2 n2→Rg tk (.series w k out no) p c q2 m2 n2
theorem tf' {b:Bool} (h:b=true) (k:b=false):False:=by rw [h] at k;cases k
theorem aU {tk:List Tk} {p:Nat} {x y:Tk} (h:tk[p]? =some x) (k:tk[p]? =some y):x=y:=by rw [h] at k;injection k
theorem bB {tk:List Tk} {p:Nat} {k:Int} {s:ByteArray} {w:List UInt8} (h:tk[p]? =some (k,s)) (hk:k≠4):isT tk p w=false:=by
 unfold isT;rw [h];simp [hk]
theorem np {tk:List Tk} {p:Nat} {v w:List UInt8} (h:isT tk p v=true) (k:isT tk p w=true):v=w:=by
 obtain ⟨s,h1,rfl⟩:=dK h;obtain ⟨s',h2,rfl⟩:=dK k;have:=aU h1 h2;simp only [Prod.mk.injEq,true_and] at this;rw [this]
theorem Rg.uniq {tk:List Tk} {j:GJob} {p:Nat} {c:List Cl} {q m n:Nat} (h:Rg tk j p c q m n): ∀{c':List Cl} {q' m' n':Nat},Rg tk j p c' q' m' n'→c=c'∧q=q'∧m=m'∧n=n':=by
 induction h with
 |one h1 h2 i1=>
  intro c' q' m' n' k
  cases k with
  |one k1 k2=>obtain ⟨rfl,rfl,-,rfl⟩:=i1 k1;exact ⟨rfl,rfl,rfl,rfl⟩
  |three k1 k2 k3 k4 k5=>obtain ⟨rfl,rfl,-,rfl⟩:=i1 k1;exact (tf' k2 h2).elim
 |three h1 h2 h3 h4 h5 i1 i2 i3=>
  intro c' q' m' n' k
  cases k with
  |one k1 k2=>obtain ⟨rfl,rfl,-,rfl⟩:=i1 k1;exact (tf' h2 k2).elim
  |three k1 k2 k3 k4 k5=>
   obtain ⟨rfl,rfl,-,rfl⟩:=i1 k1;obtain ⟨rfl,rfl,-,rfl⟩:=i2 k3;obtain ⟨rfl,rfl,-,rfl⟩:=i3 k5;exact ⟨rfl,rfl,rfl,rfl⟩
 |bin h1 h2 i1 i2=>
  intro c' q' m' n' k
  cases k with
  |bin k1 k2=>
   obtain ⟨rfl,rfl,-,rfl⟩:=i1 k1;obtain ⟨rfl,rfl,-,rfl⟩:=i2 k2;exact ⟨rfl,rfl,rfl,rfl⟩
 |stop h=>
  intro c' q' m' n' k
  cases k with
  |stop k=>exact ⟨rfl,rfl,rfl,rfl⟩
  |more k1 k2 k3 k4 k5 k6 k7=>omega
 |more h1 h2 h3 h4 h5 h6 h7 i1 i2=>
  intro c' q' m' n' k
  cases k with
  |stop k=>omega
  |more k1 k2 k3 k4 k5 k6 k7=>
   rw [h1] at k1;have k1:=Int.ofNat_inj.mp k1;subst k1;have e:=aU h4 k4;simp only [Prod.mk.injEq,true_and] at e;subst e;obtain ⟨rfl,rfl,-,rfl⟩:=i1 k5;obtain ⟨rfl,rfl,-,rfl⟩:=i2 k7;exact ⟨rfl,rfl,rfl,rfl⟩
 |sign h1 h2 h3 i1=>
  intro c' q' m' n' k
  cases k with
  |sign k1 k2 k3=>
   have e:=aU h2 k2;simp only [Prod.mk.injEq,true_and] at e;subst e;obtain ⟨rfl,rfl,-,rfl⟩:=i1 k3;exact ⟨rfl,rfl,rfl,rfl⟩
  |plain k1 k2=>exact (tf' h1 k1).elim
 |plain h1 h2 i1=>
  intro c' q' m' n' k
  cases k with
  |sign k1 k2 k3=>exact (tf' k1 h1).elim
  |plain k1 k2=>obtain ⟨rfl,rfl,-,rfl⟩:=i1 k2;exact ⟨rfl,rfl,rfl,rfl⟩
 |num h1 h2=>
  intro c' q' m' n' k
  cases k with
  |num k1 k2=>have e:=aU h1 k1;simp only [Prod.mk.injEq,true_and] at e;subst e;exact ⟨rfl,rfl,rfl,rfl⟩
  |paren k1 k2 k3=>exact (tf' k1 (bB h1 (by decide))).elim
  |list k1 k2=>exact (tf' k1 (bB h1 (by decide))).elim
  |_ k1=>have e:=aU h1 (by assumption);simp at e
 |text h1 h2=>
  intro c' q' m' n' k
  cases k with
  |text k1 k2=>have e:=aU h1 k1;simp only [Prod.mk.injEq,true_and] at e;subst e;exact ⟨rfl,rfl,rfl,rfl⟩
  |paren k1 k2 k3=>exact (tf' k1 (bB h1 (by decide))).elim
  |list k1 k2=>exact (tf' k1 (bB h1 (by decide))).elim
  |_ k1=>have e:=aU h1 (by assumption);simp at e
 |truth h1 h2=>
  intro c' q' m' n' k
  cases k with
  |truth k1 k2=>have e:=aU h1 k1;simp only [Prod.mk.injEq,true_and] at e;subst e;exact ⟨rfl,rfl,rfl,rfl⟩
  |name k1 k2 k3 k4=>have e:=aU h1 k1;simp only [Prod.mk.injEq,true_and] at e;subst e;rcases h2 with h2|h2;exact (k2 h2).elim;exact (k3 h2).elim
  |call k1 k2 k3 k4 k5=>have e:=aU h1 k1;simp only [Prod.mk.injEq,true_and] at e;subst e;rcases h2 with h2|h2;exact (k2 h2).elim;exact (k3 h2).elim
  |paren k1 k2 k3=>exact (tf' k1 (bB h1 (by decide))).elim
  |list k1 k2=>exact (tf' k1 (bB h1 (by decide))).elim
  |_ k1=>have e:=aU h1 (by assumption);simp at e
 |name h1 h2 h3 h4=>
  intro c' q' m' n' k
  cases k with
  |truth k1 k2=>have e:=aU h1 k1;simp only [Prod.mk.injEq,true_and] at e;subst e;rcases k2 with k2|k2;exact (h2 k2).elim;exact (h3 k2).elim
  |name k1 k2 k3 k4=>have e:=aU h1 k1;simp only [Prod.mk.injEq,true_and] at e;subst e;exact ⟨rfl,rfl,rfl,rfl⟩
  |call k1 k2 k3 k4 k5=>exact (tf' k4 h4).elim
  |paren k1 k2 k3=>exact (tf' k1 (bB h1 (by decide))).elim
  |list k1 k2=>exact (tf' k1 (bB h1 (by decide))).elim
  |_ k1=>have e:=aU h1 (by assumption);simp at e
 |call h1 h2 h3 h4 h5 i1=>
  intro c' q' m' n' k
  cases k with
  |truth k1 k2=>have e:=aU h1 k1;simp only [Prod.mk.injEq,true_and] at e;subst e;rcases k2 with k2|k2;exact (h2 k2).elim;exact (h3 k2).elim
  |name k1 k2 k3 k4=>exact (tf' h4 k4).elim
  |call k1 k2 k3 k4 k5=>have e:=aU h1 k1;simp only [Prod.mk.injEq,true_and] at e;subst e;obtain ⟨rfl,rfl,rfl,rfl⟩:=i1 k5;exact ⟨rfl,rfl,rfl,rfl⟩
  |paren k1 k2 k3=>exact (tf' k1 (bB h1 (by decide))).elim
  |list k1 k2=>exact (tf' k1 (bB h1 (by decide))).elim
  |_ k1=>have e:=aU h1 (by assumption);simp at e
 |paren h1 h2 h3 i1=>
  intro c' q' m' n' k
  cases k with
  |paren k1 k2 k3=>obtain ⟨rfl,rfl,-,rfl⟩:=i1 k2;exact ⟨rfl,rfl,rfl,rfl⟩
  |list k1 k2=>have:=np h1 k1;simp at this
  |_ k1=>exact (tf' h1 (bB (by assumption) (by decide))).elim
 |list h1 h2 i1=>
  intro c' q' m' n' k
  cases k with
  |paren k1 k2 k3=>have:=np h1 k1;simp at this
  |list k1 k2=>obtain ⟨rfl,rfl,rfl,rfl⟩:=i1 k2;exact ⟨rfl,rfl,rfl,rfl⟩
  |_ k1=>exact (tf' h1 (bB (by assumption) (by decide))).elim
 |close h=>
  intro c' q' m' n' k
  cases k with
  |close k=>exact ⟨rfl,rfl,rfl,rfl⟩
  |part k1 k2 k3 k4 k5=>exact (tf' h k1).elim
 | @part w kk out no p p0 a q m n c q2 m2 n2 h1 h2 h3 h4 h5 i1 i2=>
  intro c' q' m' n' k
  cases k with
  |close k=>exact (tf' k h1).elim
  | @part _ _ _ _ _ p0' _ _ _ _ _ _ _ _ k1 k2 k3 k4 k5=>
   have e:p0=p0':=by
    by_cases hn:kk=0
    ·rw [h2 hn,k2 hn]
    ·rw [(h3 hn).2,(k3 hn).2]
   subst e;obtain ⟨rfl,rfl,-,rfl⟩:=i1 k4;exact i2 k5
def GJob.held:GJob→List Cl
 | .loop _ a _=>a
 | .series _ _ out _=>out
 |_=>[]
theorem Rg.le {tk:List Tk} {j:GJob} {p:Nat} {c:List Cl} {q m n:Nat} (h:Rg tk j p c q m n):c.length+p≤q+j.held.length∧(p≤tk.length→q≤tk.length)∧j.held.length≤c.length∧p≤q:=by
 induction h with
 |one h1 h2 i=>simp only [GJob.held,List.length_nil] at i⊢;omega
 |three h1 h2 h3 h4 h5 i1 i2 i3=>
  have l1:=bG h2;have l2:=bG h4;simp only [GJob.held,List.length_nil,List.length_cons,agE] at i1 i2 i3⊢
  omega
 |bin h1 h2 i1 i2=>simp only [GJob.held,List.length_nil] at i1 i2⊢;omega
 |stop h=>simp only [GJob.held];omega
 |more h1 h2 h3 h4 h5 h6 h7 i1 i2=>
  have l1:=df h4;simp only [GJob.held,List.length_nil,List.length_cons,agE] at i1 i2⊢
  omega
 |sign h1 h2 h3 i=>
  have l1:=df h2;simp only [GJob.held,List.length_nil,List.length_cons] at i⊢
  omega
 |plain h1 h2 i=>simp only [GJob.held,List.length_nil] at i⊢;omega
 |num h1 h2=>have l1:=df h1;simp only [GJob.held,List.length_nil,List.length_cons];omega
 |text h1 h2=>have l1:=df h1;simp only [GJob.held,List.length_nil,List.length_cons];omega
 |truth h1 h2=>have l1:=df h1;simp only [GJob.held,List.length_nil,List.length_cons];omega
 |name h1 h2 h3 h4=>have l1:=df h1;simp only [GJob.held,List.length_nil,List.length_cons];omega
 |call h1 h2 h3 h4 h5 i=>
  have l1:=df h1;have l2:=bG h4;simp only [GJob.held,List.length_nil,List.length_cons] at i⊢
  omega
 |paren h1 h2 h3 i=>
  have l1:=bG h1;have l2:=bG h3;simp only [GJob.held,List.length_nil] at i⊢
  omega
 |list h1 h2 i=>
  have l1:=bG h1;simp only [GJob.held,List.length_nil,List.length_cons] at i⊢
  omega
 |close h=>have l1:=bG h;simp only [GJob.held];omega
 | @part w k out no p p0 a q m n c q2 m2 n2 h1 h2 h3 h4 h5 i1 i2=>
  simp only [GJob.held,List.length_nil,agE] at i1 i2⊢
  by_cases hn:k=0
  ·have:=h2 hn;omega
  ·have hc:=h3 hn
   have:=bG hc.1
   omega
open Go.RowKit
def sgB (b:UInt8):Bool:=b==33||b==45||b==42||b==47||b==37||b==43||b==60||b==62||b==63||b==58||b==40||b==41||b==91||b==93||b==44||b==61||b==38||b==124
def ry (tk:List Tk):Prop:= ∀(p:Nat) (k:Int) (s:ByteArray),tk[p]? =some (k,s)→k≠4→ ∀b t,s.data.toList=b::t→sgB b=false
def wdT (tk:List Tk) (p:Nat):Tk:=tk[p]?.getD (0,⟨#[]⟩)
theorem rz {tk:List Tk} {p:Nat} {x:Tk} (h:tk[p]? =some x):wdT tk p=x:=by rw [wdT,h];rfl
theorem ye {tk:List Tk} {p:Nat} (h:tk.length≤p):wdT tk p=(0,⟨#[]⟩):=by rw [wdT,List.getElem?_eq_none h];rfl
theorem oO {tk:List Tk} (hs:ry tk) (p:Nat) {b:UInt8} {t:List UInt8} (hb:sgB b=true):((wdT tk p).2.data.toList=b::t)↔isT tk p (b::t)=true:=by
 unfold isT wdT
 cases hk:tk[p]? with
 |none=>simp
 |some x=>
  obtain ⟨k,s⟩:=x;simp only [Option.getD_some,Bool.and_eq_true,beq_iff_eq]
  constructor
  ·intro h
   refine ⟨?_,h⟩
   by_cases Ay:k=4
   ·exact Ay
   ·have:=hs p k s hk Ay b t h;rw [hb] at this;cases this
  ·exact fun h=>h.2
theorem xe {l:List UInt8} (h:ap l≠0): ∃b t,l=b::t∧sgB b=true:=by
 have key: ∀(q:List UInt8) (r x:Int),(∃b t,q=b::t∧sgB b=true)→(x≠0→ ∃b t,l=b::t∧sgB b=true)→(if l=q then r else x)≠0→ ∃b t,l=b::t∧sgB b=true:=by
  intro q r x hq hx At
  by_cases e:l=q
  ·rw [e];exact hq
  ·rw [if_neg e] at At;exact hx At
 revert h
 unfold ap
 iterate 13 (refine key _ _ _ ⟨_,_,rfl,by decide⟩ ?_)
 intro h;exact absurd rfl h
theorem rA {tk:List Tk} (hs:ry tk) (p:Nat):ap (wdT tk p).2.data.toList=rkT tk p:=by
 unfold rkT wdT
 cases hk:tk[p]? with
 |none=>simp;decide
 |some x=>
  obtain ⟨k,s⟩:=x;simp only [Option.getD_some]
  by_cases Ay:k=4
  ·rw [if_pos Ay]
  ·rw [if_neg Ay]
   by_cases hr:ap s.data.toList=0
   ·exact hr
   ·obtain ⟨b,t,e,hb⟩:=xe hr
    have:=hs p k s hk Ay b t e;rw [hb] at this;cases this
theorem rB (tk:List Tk) (p:Nat):rkT tk p=0∨(2≤rkT tk p∧rkT tk p≤6):=by
 unfold rkT
 split
 ·split
  ·exact oG _
  ·exact .inl rfl
 ·exact .inl rfl
def RdAt (w:World) (R:Nat) (s:ByteArray) (tv:Value) (p o:Nat):Prop:=w.heap[R]? =some (.cells #[.string s,tv, .int .i64 (p:Int), .int .i64 (o:Int)] 191 (0,0))
section
variable {w w':World} {R:Nat} {s:ByteArray} {tv:Value} {p o:Nat}
theorem RdAt.lt (h:RdAt w R s tv p o):R<w.heap.size:=by
 rcases Nat.lt_or_ge R w.heap.size with Ab|DQ
 ·exact Ab
 ·unfold RdAt at h;rw [Array.getElem?_eq_none DQ] at h;cases h
theorem RdAt.cells (h:RdAt w R s tv p o):(w.cell? ⟨R,0,none⟩=some (.string s)∧w.cell? ⟨R,1,none⟩=some tv∧w.cell? ⟨R,2,none⟩=some (.int .i64 (p:Int))∧w.cell? ⟨R,3,none⟩=some (.int .i64 (o:Int)))∧w.frozen? ⟨R,2,none⟩=false∧w.frozen? ⟨R,3,none⟩=false:=by
 refine ⟨⟨?_, ?_, ?_, ?_⟩, ?_, ?_⟩
 iterate 4 (rw [cell_of_row _ _ _ _ _ (0,0) h];rfl)
 all_goals (unfold RdAt at h;simp [World.frozen?,h])
theorem RdAt.below (h:RdAt w R s tv p o) (hb:Below w.heap.size w w'):RdAt w' R s tv p o:=(hb.block R h.lt).trans h
theorem RdAt.at_ (h:RdAt w R s tv p o) (q:Nat):RdAt (w.setCell ⟨R,2,none⟩ (.int .i64 (q:Int))) R s tv q o:=by
 unfold RdAt at h⊢;simp [World.setCell,Array.getElem?_modify,h]
theorem RdAt.op (h:RdAt w R s tv p o) (q:Nat):RdAt (w.setCell ⟨R,3,none⟩ (.int .i64 (q:Int))) R s tv p q:=by
 unfold RdAt at h⊢;simp [World.setCell,Array.getElem?_modify,h]
end
structure Cx (w1:World) (R:Nat) (s:ByteArray) (tv:Value) (L:List (Int×Nat×Nat)) (tk:List Tk):Prop where
 row:RowT w1 tv L.length (gX L)
 len:L.length≤20000
 words:tk=L.map fun x=>(x.1,s.extract x.2.1 x.2.2)
 inn: ∀x∈L,x.2.1≤x.2.2∧x.2.2≤s.size
 size:s.size≤2097152
 sig:ry tk
 kinds: ∀x∈L,1≤x.1∧x.1≤4
 low:w1.heap.size≤R
theorem Cx.length {w1:World} {R:Nat} {s:ByteArray} {tv:Value} {L:List (Int×Nat×Nat)} {tk:List Tk} (h:Cx w1 R s tv L tk):tk.length=L.length:=by rw [h.words];simp
theorem Cx.at {w1:World} {R:Nat} {s:ByteArray} {tv:Value} {L:List (Int×Nat×Nat)} {tk:List Tk} (h:Cx w1 R s tv L tk) {p:Nat} (hp:p<tk.length): ∃k wd,tk[p]? =some (k,wd)∧1≤k∧k≤4∧wd.size≤2097152:=by
 have hl:p<L.length:=by rw [←h.length];exact hp
 have hk:=h.kinds L[p] (List.getElem_mem hl);have hz:=h.size;refine ⟨L[p].1,s.extract L[p].2.1 L[p].2.2,by rw [h.words,List.getElem?_map,List.getElem?_eq_getElem hl];rfl,hk.1,hk.2, ?_⟩
 have:(s.extract L[p].2.1 L[p].2.2).size≤s.size:=by rw [ByteArray.size_extract];omega
 omega
theorem bg {R:Nat} {w1 w w':World} (h:Below w1.heap.size w1 w) (hg:w.grownBy w' (some R)) (hR:w1.heap.size≤R):Below w1.heap.size w1 w':=
 h.grown hg h.size (fun r hr=>by injection hr with hr;omega)
theorem bz {w w':World} (h:Below w.heap.size w w') (row:Option Nat):w.grownBy w' row:=⟨h.os,h.tape,h.output,h.size,fun i hi _=>h.block i hi⟩
theorem aE {a b c:World} {R:Nat} (h:a.grownBy b (some R)) (k:b.grownBy c (some R)):a.grownBy c (some R):=
 ⟨k.os.trans h.os,k.tape.trans h.tape,k.output.trans h.output,Nat.le_trans h.size k.size,fun i hi hn=>(k.block i (Nat.lt_of_lt_of_le hi h.size) hn).trans (h.block i hi hn)⟩
theorem dY (w:World) (R j:Nat) (u:Value):w.grownBy (w.setCell ⟨R,j,none⟩ u) (some R):=
 ⟨rfl,rfl,rfl,by simp [World.setCell],fun i hi hn=>Below.heap_setCell _ _ _ _ (fun e=>hn (by rw [e]))⟩
theorem mH {w1 w:World} {R:Nat} {s:ByteArray} {tv:Value} {L:List (Int×Nat×Nat)} {tk:List Tk} {p o:Nat} (hx:Cx w1 R s tv L tk) (hb:Below w1.heap.size w1 w) (hr:RdAt w R s tv p o) (hp:p≤tk.length):
  Calls Tryz.prog 227 #[.pointer (some ⟨R,0,none⟩)] w fun e w'=>e= .returned (.tuple #[.int .i64 (wdT tk p).1, .string (wdT tk p).2])∧Below w.heap.size w w':=by
 obtain ⟨⟨e0,e1,e2,e3⟩,-⟩:=hr.cells;have Ai:=hx.length;have hL:=hx.len;obtain ⟨-,ao,cap,rfl,g1,g2,g3⟩:=hx.row;have Au:=hx.size;unfold maxLen at g2
 by_cases Ab:p<L.length
 ·obtain ⟨b,rfl,Av,cc⟩:=g3.resolve_left (by omega)
  obtain ⟨f1,f2,f3⟩:=rV L p Ab;have c0:=(hb.cell (p:=⟨b,_,none⟩) Av).trans (cc _ _ f1);have c1:=(hb.cell (p:=⟨b,_,none⟩) Av).trans (cc _ _ f2);have c2:=(hb.cell (p:=⟨b,_,none⟩) Av).trans (cc _ _ f3);have CN:=hx.inn L[p] (List.getElem_mem Ab);have hw:wdT tk p=(L[p].1,s.extract L[p].2.1 L[p].2.2):=rz (by rw [hx.words,List.getElem?_map,List.getElem?_eq_getElem Ab];rfl);rw [hw];generalize L[p].1=tkd at c0⊢;generalize L[p].2.1=tf at c1 CN⊢;generalize L[p].2.2=tt at c2 CN⊢;have At:((p:Int)==(L.length:Int))=false:=beq_eq_false_iff_ne.mpr (by omega)
  have b1:(tf:Int)≤(tt:Int):=by omega
  have b2:(tt:Int)≤(s.size:Int):=by omega
  have FM:(p==L.length)=false:=beq_eq_false_iff_ne.mpr (by omega);clear g3 cc f1 f2 f3 hw hx hb hr
  go_enter Tryz.func227,Tryz.ntmps227
  go_wp2_with fail
  go_quiet (fail)
  have RC:Below w.heap.size w (w.drewN nq):=⟨rfl,rfl,rfl,agD _,fun _ _=>rfl⟩;have PV:=agC RC;clear RC;generalize D8:w.drewN nq=wq at PV⊢
  have q1:wq.cell? ⟨R,1,none⟩=some (.slice (some ⟨b,0,none⟩) L.length cap):=by rw [←D8];exact e1
  have q0:wq.cell? ⟨R,0,none⟩=some (.string s):=by rw [←D8];exact e0
  have q2:wq.cell? ⟨R,2,none⟩=some (.int .i64 (p:Int)):=by rw [←D8];exact e2
  have d0:wq.cell? ⟨b,p*3,none⟩=some (.int .i64 tkd):=by rw [←D8];exact c0
  have d1:wq.cell? ⟨b,p*3+1,none⟩=some (.int .i64 (tf:Int)):=by rw [←D8];exact c1
  have d2:wq.cell? ⟨b,p*3+2,none⟩=some (.int .i64 (tt:Int)):=by rw [←D8];exact c2
  have m1:R<wq.heap.size:=(jm q0).2;have m2:b<wq.heap.size:=(jm d0).2
  have l1: ¬R=wq.heap.size:=by omega
  have l2: ¬b=wq.heap.size:=by omega
  clear D8 e0 e1 e2 e3 c0 c1 c2
  go_upto_region 3 with fail
  go_cut [4] (fun x wx=>x= .pointer (some ⟨wq.heap.size,0,none⟩)∧wx=(wq.alloc (.cells #[.int .i64 tkd, .int .i64 (tf:Int), .int .i64 (tt:Int)] 158)).drew)
  case first=>
   go_region
   all_goals (go_wp2_with fail;go_meet;exact ⟨rfl,rfl⟩)
  case rest=>
   obtain ⟨rfl,J7⟩:=hcut
   have Gb:Below wq.heap.size wq wc:=by rw [J7];exact ((Below.refl _ _).alloc (agD _) _).drew
   have BR:=agC Gb;have Io:=(jm q0).2;have r0:wc.cell? ⟨R,0,none⟩=some (.string s):=(Gb.cell (p:=⟨R,0,none⟩) Io).trans q0
   have hh:wc.heap[wq.heap.size]? =some (.cells #[.int .i64 tkd, .int .i64 (tf:Int), .int .i64 (tt:Int)] 158 (0,0)):=by rw [J7];exact heap_alloc_new wq _
   have t0:wc.cell? ⟨wq.heap.size,0,none⟩=some (.int .i64 tkd):=by rw [cell_of_row _ _ _ _ _ (0,0) hh];rfl
   have t1:wc.cell? ⟨wq.heap.size,1,none⟩=some (.int .i64 (tf:Int)):=by rw [cell_of_row _ _ _ _ _ (0,0) hh];rfl
   have t2:wc.cell? ⟨wq.heap.size,2,none⟩=some (.int .i64 (tt:Int)):=by rw [cell_of_row _ _ _ _ _ (0,0) hh];rfl
   clear J7 Gb q0 q1 q2 d0 d1 d2 l1 l2 hh Io;generalize wq.heap.size=CG at t0 t1 t2⊢;go_wp2_with fail
   go_quiet (fail)
   go_wp2;go_ret2;exact ⟨rfl,(PV.out.trans (BR.out.mono PV.out.size)).trans ⟨rfl,rfl,rfl,agD _,fun _ _=>rfl⟩⟩
 ·obtain rfl:p=L.length:=by omega
  have hw:wdT tk L.length=(0,⟨#[]⟩):=ye (by omega);rw [hw];clear g3 hw hx hb hr
  go_enter Tryz.func227,Tryz.ntmps227
  go_wp2_with fail
  go_quiet (fail)
  go_wp2;go_ret2;exact ⟨rfl,⟨rfl,rfl,rfl,agD _,fun _ _=>rfl⟩⟩
def BlkB (w:World) (g:Nat) (cs:Array Value):Prop:=w.heap[g]? =some (.cells cs 196 (0,0))
section
variable {w w':World} {g:Nat} {cs:Array Value}
theorem BlkB.lt (h:BlkB w g cs):g<w.heap.size:=by
 rcases Nat.lt_or_ge g w.heap.size with Ab|DQ
 ·exact Ab
 ·unfold BlkB at h;rw [Array.getElem?_eq_none DQ] at h;cases h
theorem BlkB.cell (h:BlkB w g cs) (i:Nat):w.cell? ⟨g,i,none⟩=cs[i]? :=cell_of_row w g i cs _ (0,0) h
theorem BlkB.frozen (h:BlkB w g cs) (i:Nat):w.frozen? ⟨g,i,none⟩=false:=by
 unfold BlkB at h;simp [World.frozen?,h]
theorem BlkB.new (w:World) (cs:Array Value):BlkB (w.alloc (.cells cs 196)) w.heap.size cs:=heap_alloc_new w _
theorem BlkB.set_ (h:BlkB w g cs) (i:Nat) (u:Value):BlkB (w.setCell ⟨g,i,none⟩ u) g (cs.setIfInBounds i u):=by
 unfold BlkB at h⊢
 simp [World.setCell,Array.getElem?_modify,h]
end
inductive TrB (w:World) (lo:Nat):Nat→List Nat→List Cl→Prop
 |nil (hi:Nat):TrB w lo hi [] []
 |cons {hi N:Nat} {k n:Int} {s:ByteArray} {v:Value} {qs ps:List Nat} {c1 c2:List Cl}:lo≤N→N<hi→BlkB w N #[.int .i64 k, .string s, .int .i64 (qs.length:Int),v, .int .i64 n]→w.ownsRow lo 192 1 v qs.length (ef qs)→
   (∀r,v.ownBlock=some r→r<N)→TrB w lo N qs c1→TrB w lo hi ps c2→TrB w lo hi (N::ps) ((k,s,(qs.length:Int))::(c1++c2))
theorem TrB.keep {w w':World} {lo hi:Nat} {ps:List Nat} {c:List Cl} (h:TrB w lo hi ps c):(∀b,lo≤b→b<hi→b<w.heap.size→w'.heap[b]? =w.heap[b]?)→TrB w' lo hi ps c:=by
 induction h with
 |nil hi=>intro _;exact .nil hi
 | @cons hi N k n s v qs ps c1 c2 h1 h2 hb ho hr t1 t2 i1 i2=>
  intro hw;refine .cons h1 h2 ((hw N h1 h2 hb.lt).trans hb) ?_ hr (i1 (fun b x1 x2 x3=>hw b x1 (by omega) x3)) (i2 hw);refine ⟨ho.1, ?_⟩
  rcases ho.2 with hn|⟨g',cap,cur,rfl,Dy,DV,rest⟩
  ·exact .inl hn
  ·refine .inr ⟨g',cap,cur,rfl,Dy, ?_,rest⟩
   have hl:=ho.lt g' rfl;have:=hr g' rfl;rw [hw g' hl.1 (by omega) hl.2];exact DV
theorem TrB.mono {w:World} {lo hi lo' Qa:Nat} {ps:List Nat} {c:List Cl} (h:TrB w lo hi ps c):lo'≤lo→hi≤Qa→TrB w lo' Qa ps c:=by
 induction h generalizing Qa with
 |nil hi=>intro _ _;exact .nil _
 | @cons hi N k n s v qs ps c1 c2 h1 h2 hb ho hr t1 t2 i1 i2=>
  intro x1 x2;exact .cons (by omega) (by omega) hb (ho.mono x1) hr (i1 x1 (agD _)) (i2 x1 x2)
theorem TrB.app {w:World} {lo hi:Nat} {ps:List Nat} {c:List Cl} (h:TrB w lo hi ps c): ∀{qs:List Nat} {d:List Cl},TrB w lo hi qs d→TrB w lo hi (ps++qs) (c++d):=by
 induction h with
 |nil hi=>intro qs d k;exact k
 | @cons hi N k n s v qs ps c1 c2 h1 h2 hb ho hr t1 t2 i1 i2=>
  intro qs' d k';have:=TrB.cons h1 h2 hb ho hr t1 (i2 k');rw [List.cons_append,List.cons_append,List.append_assoc];exact this
def RtB (w:World) (lo N:Nat) (c:List Cl) (n:Nat):Prop:= ∃(k:Int) (s:ByteArray) (v:Value) (qs:List Nat) (c1:List Cl),c=(k,s,(qs.length:Int))::c1∧lo≤N∧BlkB w N #[.int .i64 k, .string s, .int .i64 (qs.length:Int),v, .int .i64 (n:Int)]∧w.ownsRow lo 192 1 v qs.length (ef qs)∧(∀r,v.ownBlock=some r→r<N)∧TrB w lo N qs c1
theorem RtB.tree {w:World} {lo N n:Nat} {c:List Cl} (h:RtB w lo N c n) {hi:Nat} (hh:N<hi):TrB w lo hi [N] c:=by
 obtain ⟨k,s,v,qs,c1,rfl,h1,hb,ho,hr,ht⟩:=h;have:=TrB.cons h1 hh hb ho hr ht (.nil hi)
 rwa [List.append_nil] at this
theorem RtB.lt {w:World} {lo N n:Nat} {c:List Cl} (h:RtB w lo N c n):lo≤N∧N<w.heap.size:=by
 obtain ⟨k,s,v,qs,c1,rfl,h1,hb,ho,hr,ht⟩:=h;exact ⟨h1,hb.lt⟩
theorem RtB.nest {w:World} {lo N n:Nat} {c:List Cl} (h:RtB w lo N c n):w.cell? ⟨N,4,none⟩=some (.int .i64 (n:Int))∧w.frozen? ⟨N,4,none⟩=false:=by
 obtain ⟨k,s,v,qs,c1,rfl,h1,hb,ho,hr,ht⟩:=h;exact ⟨hb.cell 4,hb.frozen 4⟩
theorem RtB.keep {w w':World} {lo N n:Nat} {c:List Cl} (h:RtB w lo N c n) (hw: ∀b,lo≤b→b<w.heap.size→w'.heap[b]? =w.heap[b]?):RtB w' lo N c n:=by
 obtain ⟨k,s,v,qs,c1,rfl,h1,hb,ho,hr,ht⟩:=h;refine ⟨k,s,v,qs,c1,rfl,h1,(hw N h1 hb.lt).trans hb, ?_,hr,ht.keep (fun b x1 x2 x3=>hw b x1 x3)⟩;refine ⟨ho.1, ?_⟩
 rcases ho.2 with hn|⟨g',cap,cur,rfl,Dy,DV,rest⟩
 ·exact .inl hn
 ·refine .inr ⟨g',cap,cur,rfl,Dy, ?_,rest⟩
  have hl:=ho.lt g' rfl;rw [hw g' hl.1 hl.2];exact DV
theorem RtB.mono {w:World} {lo lo' N n:Nat} {c:List Cl} (h:RtB w lo N c n) (hl:lo'≤lo):RtB w lo' N c n:=by
 obtain ⟨k,s,v,qs,c1,rfl,h1,hb,ho,hr,ht⟩:=h;exact ⟨k,s,v,qs,c1,rfl,by omega,hb,ho.mono hl,hr,ht.mono hl (agD _)⟩
theorem RtB.set {w:World} {lo N n:Nat} {c:List Cl} (h:RtB w lo N c n) (m:Nat):RtB (w.setCell ⟨N,4,none⟩ (.int .i64 (m:Int))) lo N c m:=by
 obtain ⟨k,s,v,qs,c1,rfl,h1,hb,ho,hr,ht⟩:=h;refine ⟨k,s,v,qs,c1,rfl,h1, ?_, ?_,hr,ht.keep (fun b x1 x2 x3=>Below.heap_setCell _ _ _ _ (by show b≠N;omega))⟩
 ·have:=hb.set_ 4 (.int .i64 (m:Int));exact this
 ·refine ho.kept (row:=some N) ⟨rfl,rfl,rfl,by simp [World.setCell],fun b _ hn=>Below.heap_setCell _ _ _ _ (fun e=>hn (by rw [e]))⟩ (.inr ?_)
  intro he;have:=hr N he
  omega
theorem RtB.grown {w w':World} {lo N n R:Nat} {c:List Cl} (h:RtB w lo N c n) (hg:w.grownBy w' (some R)) (hR:R<lo):RtB w' lo N c n:=
 h.keep (fun b x1 x2=>hg.block b x2 (by intro e;injection e with e;omega))
def NoG (tk:List Tk) (j:GJob) (p o:Nat):Prop:= ∀c q m n,Rg tk j p c q m n→40<o+n
def lR (R:Nat) (s:ByteArray) (tv:Value) (tk:List Tk) (j:GJob) (p o x:Nat) (w:World) (e:Ending) (w':World):Prop:=
 w.grownBy w' (some R)∧ ∃q,q≤tk.length∧RdAt w' R s tv q o∧
  ((∃N c n,e= .returned (.pointer (some ⟨N,0,none⟩))∧RtB w' w.heap.size N c n∧Rg tk j p c q 0 n)∨(e= .returned (.pointer none)∧NoG tk j p (o+x)))
theorem k8 {w1 w:World} {R:Nat} {s:ByteArray} {tv:Value} {L:List (Int×Nat×Nat)} {tk:List Tk} {p o:Nat} (c:UInt8) (hc:sgB c=true) (hx:Cx w1 R s tv L tk) (hb:Below w1.heap.size w1 w) (hr:RdAt w R s tv p o) (hp:p≤tk.length):
  Calls Tryz.prog 205 #[.pointer (some ⟨R,0,none⟩), .string ⟨#[c]⟩] w fun e w'=>e= .returned (.bool (isT tk p [c]))∧w.grownBy w' (some R)∧RdAt w' R s tv (if isT tk p [c]=true then p+1 else p) o:=by
 have BV:=agC (mH hx hb hr hp);have HR:=agC hr
 have AN:tk.length≤20000:=by rw [hx.length];exact hx.len
 have HW:=agC (oO hx.sig p (b:=c) (t:=[]) hc);clear hr hb hx;generalize (wdT tk p).1=wk at BV;generalize (wdT tk p).2=wd at BV HW
 cases hi:isT tk p [c] with
 |true=>
  have he:(wd.toList==[c])=true:=dR (HW.out.mpr hi);clear hi
  go_enter Tryz.func205,Tryz.ntmps205
  go_wp2_with fail;refine BV.out.mono ?_;rintro e w2 ⟨rfl,Ae⟩;have AM:=HR.out.below Ae;obtain ⟨⟨e0,e1,e2,e3⟩,f2,f3⟩:=AM.cells;have HG:=agC (aE (bz Ae (some R)) (dY w2 R 2 (.int .i64 ((p+1:Nat):Int))));have HA:=agC (AM.at_ (p+1));rw [show ((p+1:Nat):Int)=(p:Int)+1 by omega] at HG HA;clear AM Ae;go_wp2;go_ret;exact ⟨rfl,HG.out,HA.out⟩
 |false=>
  have he:(wd.toList==[c])=false:=dg (fun h=>by rw [HW.out.mp h] at hi;cases hi);clear hi
  go_enter Tryz.func205,Tryz.ntmps205
  go_wp2_with fail;refine BV.out.mono ?_;rintro e w2 ⟨rfl,Ae⟩;have HA:=agC (HR.out.below Ae);have HG:=agC (bz Ae (some R));clear Ae;go_wp2;go_ret;exact ⟨rfl,HG.out,HA.out⟩
theorem eH {w1 w:World} {R:Nat} {s:ByteArray} {tv:Value} {L:List (Int×Nat×Nat)} {tk:List Tk} {p o:Nat} (hx:Cx w1 R s tv L tk) (hb:Below w1.heap.size w1 w) (hr:RdAt w R s tv p o) (hp:p≤tk.length) (ho:o≤40)
  (ih:o+1≤40→ ∀wX,Below w1.heap.size w1 wX→RdAt wX R s tv p (o+1)→Calls Tryz.prog 186 #[.pointer (some ⟨R,0,none⟩)] wX (lR R s tv tk .choice p (o+1) 0 wX)):
  Calls Tryz.prog 206 #[.pointer (some ⟨R,0,none⟩), .func (.func 186) #[.pointer (some ⟨R,0,none⟩)] #[]] w (lR R s tv tk .choice p o 1 w):=by
 have HR:=agC hr;have HB:=agC hb;have HX:=agC hx;have Di:=agC ih;obtain ⟨⟨e0,e1,e2,e3⟩,f2,f3⟩:=hr.cells;clear hr hb hx ih
 by_cases DA:o=40
 ·subst DA
  have HN:=agC (show NoG tk .choice p (40+1) from fun c q m n _=>by omega)
  go_enter Tryz.func206,Tryz.ntmps206
  go_wp2;go_ret;exact ⟨World.grownBy.refl _ _,p,hp,HR.out, .inr ⟨rfl,HN.out⟩⟩
 ·have Uz:((o:Int)==40)=false:=beq_eq_false_iff_ne.mpr (by omega)
  have PW:(o==40)=false:=beq_eq_false_iff_ne.mpr DA;have DI:=agC (HR.out.op (o+1));have Cr:=agC (dY w R 3 (.int .i64 ((o+1:Nat):Int)));rw [show ((o+1:Nat):Int)=(o:Int)+1 by omega] at DI Cr;have Ba:=HX.out.low;have Bb:=HR.out.lt
  go_enter Tryz.func206,Tryz.ntmps206
  go_wp2_with fail;refine (Di.out (by omega) _ (bg HB.out Cr.out Ba) (by have:=DI.out;unfold RdAt at this⊢;rwa [show ((o+1:Nat):Int)=(o:Int)+1 by omega])).mono ?_;rintro e w2 ⟨hg2,q,hq,AM,Am⟩;have Bi:=agC (aE Cr.out hg2);have EL:=agC AM;obtain ⟨⟨a0,a1,a2,a3⟩,b2,b3⟩:=AM.cells;rw [show ((o+1:Nat):Int)=(o:Int)+1 by omega] at a3;have AE:=agC (aE Bi.out (dY w2 R 3 (.int .i64 (o:Int))));have BF:=agC (EL.out.op o)
  have Et:(w.setCell ⟨R,3,none⟩ (.int .i64 ((o:Int)+1))).heap.size=w.heap.size:=by simp [World.setCell]
  rcases Am with ⟨N,c,n,rfl,ht,hd⟩|⟨rfl,Ar⟩
  ·rw [Et] at ht
   have HT:=agC (RtB.grown ht (dY w2 R 3 (.int .i64 (o:Int))) Bb);have HD:=agC hd;clear ht hd AM hg2 Et;go_wp2;go_ret;exact ⟨AE.out,q,hq,BF.out, .inl ⟨N,c,n,rfl,HT.out,HD.out⟩⟩
  ·have HN:=agC Ar
   clear Ar AM hg2 Et;go_wp2;go_ret;exact ⟨AE.out,q,hq,BF.out, .inr ⟨rfl,HN.out⟩⟩
theorem rC {w1 w:World} {R:Nat} {s:ByteArray} {tv:Value} {L:List (Int×Nat×Nat)} {tk:List Tk} {p o:Nat} (hx:Cx w1 R s tv L tk) (hb:Below w1.heap.size w1 w) (hr:RdAt w R s tv p o) (hp:p≤tk.length) (ho:o≤40)
  (ih:o+1≤40→ ∀wX,Below w1.heap.size w1 wX→RdAt wX R s tv p (o+1)→Calls Tryz.prog 226 #[.pointer (some ⟨R,0,none⟩)] wX (lR R s tv tk .unary p (o+1) 0 wX)):
  Calls Tryz.prog 206 #[.pointer (some ⟨R,0,none⟩), .func (.func 226) #[.pointer (some ⟨R,0,none⟩)] #[]] w (lR R s tv tk .unary p o 1 w):=by
 have HR:=agC hr;have HB:=agC hb;have HX:=agC hx;have Di:=agC ih;obtain ⟨⟨e0,e1,e2,e3⟩,f2,f3⟩:=hr.cells;clear hr hb hx ih
 by_cases DA:o=40
 ·subst DA
  have HN:=agC (show NoG tk .unary p (40+1) from fun c q m n _=>by omega)
  go_enter Tryz.func206,Tryz.ntmps206
  go_wp2;go_ret;exact ⟨World.grownBy.refl _ _,p,hp,HR.out, .inr ⟨rfl,HN.out⟩⟩
 ·have Uz:((o:Int)==40)=false:=beq_eq_false_iff_ne.mpr (by omega)
  have PW:(o==40)=false:=beq_eq_false_iff_ne.mpr DA;have DI:=agC (HR.out.op (o+1));have Cr:=agC (dY w R 3 (.int .i64 ((o+1:Nat):Int)));rw [show ((o+1:Nat):Int)=(o:Int)+1 by omega] at DI Cr;have Ba:=HX.out.low;have Bb:=HR.out.lt
  go_enter Tryz.func206,Tryz.ntmps206
  go_wp2_with fail;refine (Di.out (by omega) _ (bg HB.out Cr.out Ba) (by have:=DI.out;unfold RdAt at this⊢;rwa [show ((o+1:Nat):Int)=(o:Int)+1 by omega])).mono ?_;rintro e w2 ⟨hg2,q,hq,AM,Am⟩;have Bi:=agC (aE Cr.out hg2);have EL:=agC AM;obtain ⟨⟨a0,a1,a2,a3⟩,b2,b3⟩:=AM.cells;rw [show ((o+1:Nat):Int)=(o:Int)+1 by omega] at a3;have AE:=agC (aE Bi.out (dY w2 R 3 (.int .i64 (o:Int))));have BF:=agC (EL.out.op o)
  have Et:(w.setCell ⟨R,3,none⟩ (.int .i64 ((o:Int)+1))).heap.size=w.heap.size:=by simp [World.setCell]
  rcases Am with ⟨N,c,n,rfl,ht,hd⟩|⟨rfl,Ar⟩
  ·rw [Et] at ht
   have HT:=agC (RtB.grown ht (dY w2 R 3 (.int .i64 (o:Int))) Bb);have HD:=agC hd;clear ht hd AM hg2 Et;go_wp2;go_ret;exact ⟨AE.out,q,hq,BF.out, .inl ⟨N,c,n,rfl,HT.out,HD.out⟩⟩
  ·have HN:=agC Ar
   clear Ar AM hg2 Et;go_wp2;go_ret;exact ⟨AE.out,q,hq,BF.out, .inr ⟨rfl,HN.out⟩⟩
abbrev Op2:=Option (Nat×Nat)
def oP (x:Op2):Value:=match x with
 |some (N,_)=> .pointer (some ⟨N,0,none⟩)
 |none=> .pointer none
def aY (ps:List Op2):List Value:=ps.map oP
theorem aaj (ps:List Op2) (k:Nat) (h:k<ps.length):(aY ps)[k]? =some (oP ps[k]):=by simp [aY,h]
theorem kC (ps:List Op2):(aY ps).length=ps.length:=by simp [aY]
def dC:List Op2→Nat
 |[]=>0
 |x::xs=>max (match x with|some (_,n)=>n|none=>0) (dC xs)
theorem qv (a b:List Op2):dC (a++b)=max (dC a) (dC b):=by
 induction a with
 |nil=>simp [dC]
 |cons x xs ih=>simp only [List.cons_append,dC,ih];omega
theorem aex {w:World} {lo m:Nat} {v:Value} {ps:List Op2} (ho:w.ownsRow lo 192 1 v m (aY ps)):
  ∃ao cap,v= .slice ao ps.length cap∧ps.length=m∧ps.length≤cap∧cap≤maxLen∧(ps=[]∨ ∃b,ao=some ⟨b,0,none⟩∧b<w.heap.size∧ ∀k (h:k<ps.length),w.cell? ⟨b,k,none⟩=some (oP ps[k])):=by
 have hl:ps.length=m:=by have:=ho.1;rw [kC] at this;omega
 subst hl
 rcases ho.2 with ⟨rfl,h0⟩|⟨g,cap,cur,rfl,hg,hh,h1,h2,_⟩
 ·exact ⟨none,0,by rw [h0],rfl,by omega,by unfold maxLen;omega, .inl (List.length_eq_zero_iff.mp h0)⟩
 ·refine ⟨_,cap,rfl,rfl,h1,h2, .inr ⟨g,rfl,(ho.lt g rfl).2,fun k hk=> ?_⟩⟩
  rw [ho.cellAt k (by omega)];exact aaj ps k hk
theorem yf (kd:Int) (s:ByteArray) (v:Value) (ps:List Op2) (lo m:Nat) (w:World) (ho:w.ownsRow lo 192 1 v m (aY ps)) (hm:m≤100000)
  (hn: ∀(i N n:Nat),ps[i]? =some (some (N,n))→w.cell? ⟨N,4,none⟩=some (.int .i64 (n:Int))∧N<w.heap.size∧n≤100000):
  Calls Tryz.prog 207 #[.int .i64 kd, .string s,v] w fun e w'=>Below w.heap.size w w'∧
   ((none∈ps∧e= .returned (.pointer none))∨(none∉ps∧e= .returned (.pointer (some ⟨w.heap.size,0,none⟩))∧BlkB w' w.heap.size #[.int .i64 kd, .string s, .int .i64 (m:Int),v, .int .i64 (dC ps:Int)])):=by
 obtain ⟨ao,cap,rfl,PN,h1,h2,h3⟩:=aex ho;subst PN;unfold maxLen at h2;have H3:=agC h3;have HN:=agC hn;have AK:=agC (BlkB.new w #[.int .i64 kd, .string s, .int .i64 (ps.length:Int), .slice ao ps.length cap, .int .i64 0]);have UA:=agC ((Below.refl w.heap.size w).alloc (agD _) (.cells #[.int .i64 kd, .string s, .int .i64 (ps.length:Int), .slice ao ps.length cap, .int .i64 0] 196));clear h3 hn ho
 go_enter Tryz.func207,Tryz.ntmps207
 go_wp2_with fail
 go_loopw [20] (fun i wr=> ∃k:Nat,k≤ps.length∧i= .int .i64 (k:Int)∧none∉ps.take k∧dC (ps.take k)≤100000∧BlkB wr w.heap.size #[.int .i64 kd, .string s, .int .i64 (ps.length:Int), .slice ao ps.length cap, .int .i64 (dC (ps.take k):Int)]∧Below w.heap.size w wr) (fun i _=>ps.length-(intOf i).toNat)
 case atStart=>exact ⟨0,agH _,rfl,by simp,by simp [dC],AK.out,UA.out⟩
 case round=>
  obtain ⟨k,hk,rfl,Ar,Kl,hB,hW⟩:=hrel;have HB:=agC hB;have HW:=agC hW;have CO:=agC Ar
  by_cases Ab:k<ps.length
  ·obtain ⟨b,rfl,Av,cc⟩:=H3.out.resolve_left (by rintro rfl;simp at Ab)
   have d1:wr.cell? ⟨b,k,none⟩=_:=(HW.out.cell (p:=⟨b,k,none⟩) Av).trans (cc k Ab);have e4:wr.cell? ⟨w.heap.size,4,none⟩=some (.int .i64 (dC (ps.take k):Int)):=hB.cell 4;have f4:=hB.frozen 4;have C4:ps.take (k+1)=ps.take k++[ps[k]]:=List.take_succ_eq_append_getElem Ab;have KJ:ps[k]? =some ps[k]:=List.getElem?_eq_getElem Ab
   cases hx:ps[k] with
   |none=>
    rw [hx] at d1 KJ;have HM:=agC (show none∈ps from List.mem_of_getElem? KJ);simp only [oP] at d1;clear cc Ar hB hW C4 KJ hx;go_wp2;go_ret;exact ⟨HW.out, .inl ⟨HM.out,rfl⟩⟩
   |some x=>
    obtain ⟨N,n⟩:=x;rw [hx] at d1 KJ C4;obtain ⟨n1,n2,n3⟩:=HN.out k N n KJ;have g1:wr.cell? ⟨N,4,none⟩=_:=(HW.out.cell (p:=⟨N,4,none⟩) n2).trans n1;have HT:=agC (show dC (ps.take (k+1))=max (dC (ps.take k)) n by rw [C4,qv];simp [dC]);have EY:=agC (show none∉ps.take (k+1) by rw [C4];simp only [List.mem_append,List.mem_singleton];rintro (h|h);exact Ar h;cases h);generalize dC (ps.take k)=NN at e4 Kl HB HT;have HS:=agC (HB.out.set_ 4 (.int .i64 ((max NN n:Nat):Int)));have I4:=agC (HW.out.setCell (p:=⟨w.heap.size,4,none⟩) (agD _) (.int .i64 ((max NN n:Nat):Int)));simp only [oP] at d1;clear cc Ar hB hW C4 KJ hx n1
    have Ja:((max NN n:Nat):Int)=max (NN:Int) (n:Int):=by omega
    rw [Ja] at HS I4;clear Ja;go_wp2_with fail
    go_region
    all_goals
     go_wp2_with fail;go_roundw
     case rel=>exact ⟨k+1,by omega,by go_num,EY.out,by rw [HT.out];omega,by rw [HT.out];have:=HS.out;rw [show ((max NN n:Nat):Int)=max (NN:Int) (n:Int) by omega];exact this,I4.out.drew⟩
     case measure=>simp [intOf];omega
  ·obtain rfl:k=ps.length:=by omega
   have HE:=agC (show ps.take ps.length=ps from List.take_length);clear Ar hB hW;go_wp2;go_ret;exact ⟨HW.out, .inr ⟨by have:=CO.out;rwa [HE.out] at this,rfl,by have:=HB.out;rwa [HE.out] at this⟩⟩
theorem k9 (w:World):Calls Tryz.prog 208 #[.pointer none] w fun e w'=>e= .returned (.pointer none)∧w=w':=by
 go_enter Tryz.func208,Tryz.ntmps208
 go_wp2;go_ret;exact ⟨rfl,rfl⟩
theorem gR (w:World) (lo N n:Nat) (c:List Cl) (h:RtB w lo N c n) (hn:n≤100000):Calls Tryz.prog 208 #[.pointer (some ⟨N,0,none⟩)] w fun e w'=>e= .returned (.pointer (some ⟨N,0,none⟩))∧w'=w.setCell ⟨N,4,none⟩ (.int .i64 ((n+1:Nat):Int)):=by
 obtain ⟨c4,f4⟩:=h.nest;clear h
 go_enter Tryz.func208,Tryz.ntmps208
 go_wp2;go_ret;exact ⟨rfl,by rw [show ((n+1:Nat):Int)=(n:Int)+1 by omega]⟩
theorem aey (rs:List (Nat×Nat)):aY (rs.map some)=ef (rs.map Prod.fst):=by
 induction rs with
 |nil=>rfl
 |cons x xs ih=>simp only [List.map_cons,aY,ef,oP] at ih⊢;rw [ih]
def Nested (w:World) (rs:List (Nat×Nat)):Prop:= ∀x∈rs,w.cell? ⟨x.1,4,none⟩=some (.int .i64 (x.2:Int))∧x.1<w.heap.size∧x.2≤100000
theorem RtB.nested {w:World} {lo N n:Nat} {c:List Cl} (h:RtB w lo N c n) (hn:n≤100000):Nested w [(N,n)]:=by
 intro x hx;simp only [List.mem_singleton] at hx;subst hx;exact ⟨h.nest.1,h.lt.2,hn⟩
theorem gD (kd:Int) (s:ByteArray) (v:Value) (rs:List (Nat×Nat)) (lo m:Nat) (c1:List Cl) (w:World) (Hr:lo≤w.heap.size) (ho:w.ownsRow lo 192 1 v m (aY (rs.map some))) (hm:m≤100000) (ht:TrB w lo w.heap.size (rs.map Prod.fst) c1) (hn:Nested w rs):
  Calls Tryz.prog 207 #[.int .i64 kd, .string s,v] w fun e w'=>Below w.heap.size w w'∧ ∃N,e= .returned (.pointer (some ⟨N,0,none⟩))∧RtB w' lo N ((kd,s,(rs.length:Int))::c1) (dC (rs.map some)):=by
 have hl:rs.length=m:=by have:=ho.1;rw [kC] at this;simp at this;omega
 refine (yf kd s v (rs.map some) lo m w ho hm ?_).mono ?_
 ·intro i N n hi
  simp only [List.getElem?_map,Option.map_eq_some_iff] at hi;obtain ⟨x,hx,he⟩:=hi
  injection he with he
  subst he;exact hn _ (List.mem_of_getElem? hx)
 ·rintro e w' ⟨hb,⟨EO,-⟩|⟨-,rfl,hB⟩⟩
  ·simp at EO
  ·refine ⟨hb,w.heap.size,rfl,kd,s,v,rs.map Prod.fst,c1,by simp,Hr, ?_, ?_,fun r hr=>(ho.lt r hr).2,ht.keep (fun b x1 x2 x3=>hb.block b x3)⟩
   ·rw [List.length_map,hl];exact hB
   ·rw [aey] at ho
    rw [List.length_map,hl];exact ho.kept (row:=none) ⟨hb.os,hb.tape,hb.output,hb.size,fun i hi _=>hb.block i hi⟩ (by cases hv:v.ownBlock with|none=>exact .inl rfl|some x=>exact .inr (by simp))
theorem mI (kd:Int) (s:ByteArray) (v:Value) (ps:List Op2) (lo m:Nat) (w:World) (ho:w.ownsRow lo 192 1 v m (aY ps)) (hm:m≤100000) (Ar:none∈ps)
  (hn: ∀(i N n:Nat),ps[i]? =some (some (N,n))→w.cell? ⟨N,4,none⟩=some (.int .i64 (n:Int))∧N<w.heap.size∧n≤100000):
  Calls Tryz.prog 207 #[.int .i64 kd, .string s,v] w fun e w'=>Below w.heap.size w w'∧e= .returned (.pointer none):=by
 refine (yf kd s v ps lo m w ho hm hn).mono ?_;rintro e w' ⟨hb,⟨-,h⟩|⟨h,-⟩⟩
 ·exact ⟨hb,h⟩
 ·exact absurd Ar h
theorem jZ {w:World} {lo:Nat} (Hr:lo≤w.heap.size) (ps:List Op2) (h:ps.length≤100):(w.alloc (.cells (aY ps).toArray 192)).ownsRow lo 192 1 (.slice (some ⟨w.heap.size,0,none⟩) ps.length ps.length) ps.length (aY ps):=by
 have:=World.ownsRow_lit (e:=192) (size:=1) (base:=lo) w (aY ps).toArray ps.length Hr (by unfold maxLen;omega) (by simp [aY])
 simpa using this
theorem j7 {w a:World} {R N:Nat} (h:w.grownBy a (some R)) (hN:w.heap.size≤N) (j:Nat) (u:Value):w.grownBy (a.setCell ⟨N,j,none⟩ u) (some R):=
 ⟨h.os,h.tape,h.output,by have:=h.size;simpa [World.setCell] using this,fun i hi hn=>(Below.heap_setCell _ _ _ _ (by show i≠N;omega)).trans (h.block i hi hn)⟩
theorem gE {w a:World} {R:Nat} (h:w.grownBy a (some R)) (o:Obj):w.grownBy (a.alloc o) (some R):=aE h (bz ((Below.refl _ _).alloc (agD _) _) _)
structure AllG (w1:World) (R:Nat) (s:ByteArray) (tv:Value) (tk:List Tk) (N:Nat):Prop where
 choice: ∀(p o:Nat) (w:World),Below w1.heap.size w1 w→RdAt w R s tv p o→p≤tk.length→o≤40→10*(tk.length-p)+8≤N→Calls Tryz.prog 186 #[.pointer (some ⟨R,0,none⟩)] w (lR R s tv tk .choice p o 0 w)
 bin: ∀(r p o:Nat) (w:World),2≤r→r≤7→Below w1.heap.size w1 w→RdAt w R s tv p o→p≤tk.length→o≤40→10*(tk.length-p)+6≤N→Calls Tryz.prog 204 #[.pointer (some ⟨R,0,none⟩), .int .i64 ((r:Int)-1)] w (lR R s tv tk (.bin r) p o 0 w)
 unary: ∀(p o:Nat) (w:World),Below w1.heap.size w1 w→RdAt w R s tv p o→p≤tk.length→o≤40→10*(tk.length-p)+4≤N→Calls Tryz.prog 226 #[.pointer (some ⟨R,0,none⟩)] w (lR R s tv tk .unary p o 0 w)
 single: ∀(p o:Nat) (w:World),Below w1.heap.size w1 w→RdAt w R s tv p o→p≤tk.length→o≤40→10*(tk.length-p)+2≤N→Calls Tryz.prog 237 #[.pointer (some ⟨R,0,none⟩)] w (lR R s tv tk .single p o 0 w)
theorem Rg.nest {tk:List Tk} {j:GJob} {p:Nat} {c:List Cl} {q m n:Nat} (h:Rg tk j p c q m n):n+p≤q+(match j with| .loop _ _ na=>na| .series _ _ _ no=>no|_=>0):=by
 induction h with
 |one h1 h2 i=>simp only at i⊢;omega
 |three h1 h2 h3 h4 h5 i1 i2 i3=>
  have l1:=h1.le;have l2:=h3.le;have l3:=h5.le;simp only [GJob.held,List.length_nil] at i1 i2 i3 l1 l2 l3⊢;omega
 |bin h1 h2 i1 i2=>simp only at i1 i2⊢;omega
 |stop h=>simp only;omega
 |more h1 h2 h3 h4 h5 h6 h7 i1 i2=>have l1:=h5.le;simp only at i1 i2 l1⊢;omega
 |sign h1 h2 h3 i=>simp only at i⊢;omega
 |plain h1 h2 i=>simp only at i⊢;omega
 |num h1 h2=>simp only;omega
 |text h1 h2=>simp only;omega
 |truth h1 h2=>simp only;omega
 |name h1 h2 h3 h4=>simp only;omega
 |call h1 h2 h3 h4 h5 i=>simp only at i⊢;omega
 |paren h1 h2 h3 i=>simp only at i⊢;omega
 |list h1 h2 i=>simp only at i⊢;omega
 |close h=>simp only;omega
 | @part w k out no p p0 a q m n c q2 m2 n2 h1 h2 h3 h4 h5 i1 i2=>
  have l1:=h4.le
  have hp:p≤p0:=by
   by_cases hk:k=0
   ·rw [h2 hk];exact agD _
   ·rw [(h3 hk).2];omega
  simp only at i1 i2 l1⊢;omega
theorem aak {tk:List Tk} {p o:Nat} (hu:bA tk p=false) (h:NoG tk .single p o):NoG tk .unary p o:=by
 intro c q m n k
 cases k with
 |sign k1 k2 k3=>exact (tf' k1 hu).elim
 |plain k1 k2=>exact h _ _ _ _ k2
theorem acV {tk:List Tk} {p o:Nat} (hu:bA tk p=true) (h:NoG tk .unary (p+1) (o+1)):NoG tk .unary p o:=by
 intro c q m n k
 cases k with
 |sign k1 k2 k3=>have:=h _ _ _ _ k3;omega
 |plain k1 k2=>exact (tf' hu k1).elim
theorem ui {w1:World} {R:Nat} {s:ByteArray} {tv:Value} {L:List (Int×Nat×Nat)} {tk:List Tk} {N:Nat} (hx:Cx w1 R s tv L tk) (ih:AllG w1 R s tv tk N) (p o:Nat) (w:World) (hb:Below w1.heap.size w1 w) (hr:RdAt w R s tv p o) (hp:p≤tk.length) (ho:o≤40) (hN:10*(tk.length-p)+4≤N+1):
  Calls Tryz.prog 226 #[.pointer (some ⟨R,0,none⟩)] w (lR R s tv tk .unary p o 0 w):=by
 have BV:=agC (mH hx hb hr hp);have HR:=agC hr;have HB:=agC hb;have HX:=agC hx;have IH:=agC ih
 have AN:tk.length≤20000:=by rw [hx.length];exact hx.len
 have H1:=agC (oO hx.sig p (b:=33) (t:=[]) (by decide));have H2:=agC (oO hx.sig p (b:=45) (t:=[]) (by decide));have UB:=agC (show∀x,tk[p]? =some x→wdT tk p=x from fun x h=>rz h);have Ba:=hx.low;have Bb:=hr.lt;clear hr hb hx ih;generalize KH:(wdT tk p).1=wk at BV;generalize PK:(wdT tk p).2=wd at BV H1 H2;have PX:=agC PK;clear KH PK
 by_cases hu:bA tk p=true
 ·have HU:=agC hu
  have Ab:p<tk.length:=by
   simp only [bA,Bool.or_eq_true] at hu
   rcases hu with h|h<;>exact bG h
  have C4:tk[p]? =some (4,wd):=by
   simp only [bA,Bool.or_eq_true] at hu
   rcases hu with h|h<;>
   ·obtain ⟨x,h1,h2⟩:=dK h
    have:=UB.out _ h1;rw [show wd=x by rw [←PX.out,this]];exact h1
  have Cz:=agC C4
  have key:((wd.toList==[33])=true)∨((wd.toList==[33])=false∧(wd.toList==[45])=true):=by
   by_cases h33:wd.data.toList=[33]
   ·exact .inl (dR h33)
   ·right
    refine ⟨dg h33, ?_⟩;simp only [bA,Bool.or_eq_true] at hu
    rcases hu with h|h
    ·exact absurd (H1.out.mpr h) h33
    ·exact dR (H2.out.mpr h)
  clear hu C4
  rcases key with e1|⟨e1,e2⟩
  all_goals
   go_enter Tryz.func226,Tryz.ntmps226
   go_wp2_with fail;refine BV.out.mono ?_;rintro e w2 ⟨rfl,Ae⟩;have AM:=HR.out.below Ae;obtain ⟨⟨q0,q1,q2,q3⟩,f2,f3⟩:=AM.cells;have HG:=agC (aE (bz Ae (some R)) (dY w2 R 2 (.int .i64 ((p+1:Nat):Int))));have HA:=agC (AM.at_ (p+1));rw [show ((p+1:Nat):Int)=(p:Int)+1 by omega] at HG HA;clear AM Ae;have Ap:=agC (bg HB.out HG.out Ba);have Au:w.heap.size≤(w2.setCell ⟨R,2,none⟩ (.int .i64 ((p:Int)+1))).heap.size:=HG.out.size;go_wp2_with fail;refine (rC (p:=p+1) HX.out Ap.out HA.out (by omega) ho (fun h wX k1 k2=>IH.out.unary (p+1) (o+1) wX k1 k2 (by omega) h (by omega))).mono ?_;rintro e w3 ⟨AF,q,hq,AR,Am⟩;have AE:=agC (aE HG.out AF);have BF:=agC AR;have BZ:w.heap.size≤w3.heap.size:=AE.out.size
   rcases Am with ⟨M,c,n,rfl,ht,hd⟩|⟨rfl,Ar⟩
   ·have hn:=hd.nest
    have Fk:n≤100000:=by simp only at hn;omega
    have PY:=ht.mono Au;have UC:=PY.lt;have FJ:=agC (RtB.keep (w':=w3.alloc (.cells (aY [some (M,n)]).toArray 192)) PY (fun b x1 x2=>Below.heap_alloc _ _ _ x2));have Cd:=agC (jZ BZ [some (M,n)] (by simp));have GB:=agC (FJ.out.nested Fk);have Hz:=agC (FJ.out.tree (hi:=(w3.alloc (.cells (aY [some (M,n)]).toArray 192)).heap.size) (by simp;omega));have AV:=agC (gE AE.out (.cells (aY [some (M,n)]).toArray 192));have HD:=agC hd;clear ht hd AF AR hn PY;go_wp2_with fail;refine (gD 7 wd _ [(M,n)] w.heap.size 1 c _ (by simp;omega) Cd.out (by omega) Hz.out GB.out).mono ?_;rintro e w5 ⟨AI,K,rfl,RK⟩;have D9:=agC (show RtB w5 w.heap.size K ((7,wd,1)::c) n by simpa [dC] using RK);have Bk:=agC (aE AV.out (bz AI (some R)));have CM:=agC ((BF.out.below ((Below.refl _ _).alloc (agD _) _)).below AI);clear AI RK;go_wp2_with fail;refine (gR _ w.heap.size K n _ D9.out Fk).mono ?_;rintro e w6 ⟨rfl,rfl⟩;have Kb:=agC (D9.out.set (n+1));have Kc:=D9.out.lt.1;have CV:=agC (j7 Bk.out Kc 4 (.int .i64 ((n+1:Nat):Int)));have Hm:=agC (show RdAt (w5.setCell ⟨K,4,none⟩ (.int .i64 ((n+1:Nat):Int))) R s tv q o from (Below.heap_setCell _ _ _ _ (by show R≠K;omega)).trans CM.out);go_wp2;go_ret;exact ⟨CV.out,q,hq,Hm.out, .inl ⟨K,_,_,rfl,Kb.out, .sign HU.out Cz.out HD.out⟩⟩
   ·have HN:=agC (acV HU.out Ar)
    have Cd:=agC (jZ BZ [none] (by simp));have AV:=agC (gE AE.out (.cells (aY [none]).toArray 192));clear Ar AF AR;go_wp2_with fail;refine (mI 7 wd _ [none] w.heap.size 1 _ Cd.out (by omega) (by simp) (fun i N n h=>by match i,h with|0,h=>simp at h)).mono ?_;rintro e w5 ⟨AI,rfl⟩;have Bk:=agC (aE AV.out (bz AI (some R)));have CM:=agC ((BF.out.below ((Below.refl _ _).alloc (agD _) _)).below AI);clear AI;go_wp2_with fail;refine (k9 _).mono ?_;rintro e w6 ⟨rfl,rfl⟩;go_wp2;go_ret;exact ⟨Bk.out,q,hq,CM.out, .inr ⟨rfl,HN.out⟩⟩
 ·have RD:bA tk p=false:=by simpa using hu
  have HU:=agC RD;have e1:(wd.toList==[33])=false:=dg (fun h=>hu (by rw [bA,H1.out.mp h];rfl));have e2:(wd.toList==[45])=false:=dg (fun h=>hu (by rw [bA,H2.out.mp h];simp));clear hu RD
  go_enter Tryz.func226,Tryz.ntmps226
  go_wp2_with fail;refine BV.out.mono ?_;rintro e w2 ⟨rfl,Ae⟩;have EL:=agC (HR.out.below Ae);have Bi:=agC (bz Ae (some R));have Ak:=agC (bg HB.out Bi.out Ba);have D7:=Ae.size;clear Ae;go_wp2_with fail;refine (IH.out.single p o w2 Ak.out EL.out hp ho (by omega)).mono ?_;rintro e w3 ⟨AF,q,hq,AR,Am⟩;have AE:=agC (aE Bi.out AF);have BF:=agC AR
  rcases Am with ⟨M,c,n,rfl,ht,hd⟩|⟨rfl,Ar⟩
  ·have HT:=agC (ht.mono D7)
   have HD:=agC hd;clear ht hd AF AR;go_wp2;go_ret;exact ⟨AE.out,q,hq,BF.out, .inl ⟨M,c,n,rfl,HT.out, .plain HU.out HD.out⟩⟩
  ·have HN:=agC (aak HU.out Ar)
   clear Ar AF AR;go_wp2;go_ret;exact ⟨AE.out,q,hq,BF.out, .inr ⟨rfl,HN.out⟩⟩
theorem aal {tk:List Tk} {p o:Nat} (h:NoG tk (.bin 2) p o):NoG tk .choice p o:=by
 intro c q m n k
 cases k with
 |one k1 k2=>exact h _ _ _ _ k1
 |three k1 k2 k3 k4 k5=>have:=h _ _ _ _ k1;omega
theorem xf {tk:List Tk} {p o:Nat} {a:List Cl} {q m n:Nat} (h:Rg tk (.bin 2) p a q m n) (hq:isT tk q [63]=true) (hn:NoG tk .choice (q+1) (o+1)):NoG tk .choice p o:=by
 intro c q' m' n' k
 cases k with
 |one k1 k2=>obtain ⟨rfl,rfl,-,-⟩:=h.uniq k1;exact (tf' hq k2).elim
 |three k1 k2 k3 k4 k5=>obtain ⟨rfl,rfl,-,-⟩:=h.uniq k1;have:=hn _ _ _ _ k3;omega
theorem aam {tk:List Tk} {p o:Nat} {a b:List Cl} {q m n q2 m2 n2:Nat} (h:Rg tk (.bin 2) p a q m n) (hq:isT tk q [63]=true) (h2:Rg tk .choice (q+1) b q2 m2 n2) (hc:isT tk q2 [58]=false):NoG tk .choice p o:=by
 intro c q' m' n' k
 cases k with
 |one k1 k2=>obtain ⟨rfl,rfl,-,-⟩:=h.uniq k1;exact (tf' hq k2).elim
 |three k1 k2 k3 k4 k5=>
  obtain ⟨rfl,rfl,-,-⟩:=h.uniq k1;obtain ⟨rfl,rfl,-,-⟩:=h2.uniq k3;exact (tf' k4 hc).elim
theorem aan {tk:List Tk} {p o:Nat} {a b:List Cl} {q m n q2 m2 n2:Nat} (h:Rg tk (.bin 2) p a q m n) (hq:isT tk q [63]=true) (h2:Rg tk .choice (q+1) b q2 m2 n2) (hn:NoG tk .choice (q2+1) (o+1)):NoG tk .choice p o:=by
 intro c q' m' n' k
 cases k with
 |one k1 k2=>obtain ⟨rfl,rfl,-,-⟩:=h.uniq k1;exact (tf' hq k2).elim
 |three k1 k2 k3 k4 k5=>
  obtain ⟨rfl,rfl,-,-⟩:=h.uniq k1;obtain ⟨rfl,rfl,-,-⟩:=h2.uniq k3;have:=hn _ _ _ _ k5;omega
theorem Nested.app {w:World} {a b:List (Nat×Nat)} (h:Nested w a) (k:Nested w b):Nested w (a++b):=fun x hx=>by
 rcases List.mem_append.mp hx with hx|hx
 ·exact h x hx
 ·exact k x hx
theorem rD {w1:World} {R:Nat} {s:ByteArray} {tv:Value} {L:List (Int×Nat×Nat)} {tk:List Tk} {N:Nat} (hx:Cx w1 R s tv L tk) (ih:AllG w1 R s tv tk N) (p o:Nat) (w:World) (hb:Below w1.heap.size w1 w) (hr:RdAt w R s tv p o) (hp:p≤tk.length) (ho:o≤40) (hN:10*(tk.length-p)+8≤N+1):
  Calls Tryz.prog 186 #[.pointer (some ⟨R,0,none⟩)] w (lR R s tv tk .choice p o 0 w):=by
 have HB:=agC hb;have HX:=agC hx;have IH:=agC ih;have GD:=agC (ih.bin 2 p o w (by omega) (by omega) hb hr hp ho (by omega))
 have AN:tk.length≤20000:=by rw [hx.length];exact hx.len
 have Ba:=hx.low;have Bb:=hr.lt;clear hr hb hx ih
 go_enter Tryz.func186,Tryz.ntmps186
 go_wp2_with fail;refine ((show Calls Tryz.prog 204 #[.pointer (some ⟨R,0,none⟩), .int .i64 1] w _ from GD.out)).mono ?_;rintro e w2 ⟨hg2,q,hq,AM,Am⟩;have Bi:=agC hg2;have EL:=agC AM;have Ak:=agC (bg HB.out hg2 Ba)
 rcases Am with ⟨M,c,n,rfl,ht,hd⟩|⟨rfl,Ar⟩
 ·have Ca:=agC ht;have HD:=agC hd
  have KC:=hd.le.2.2.2;have BO:=hd.nest;simp only at BO;clear ht hd hg2 AM;go_wp2_with fail;refine (k8 63 (by decide) HX.out Ak.out EL.out hq).mono ?_;rintro e w3 ⟨rfl,AF,AR⟩;have AE:=agC (aE Bi.out AF);have Ap:=agC (bg Ak.out AF Ba);have Gd:=agC (Ca.out.grown AF Bb)
  cases hq63:isT tk q [63] with
  |false=>
   rw [hq63] at AR;have BF:=agC AR;have HQ:=agC hq63;clear AF AR hq63;go_wp2;go_ret;exact ⟨AE.out,q,hq,BF.out, .inl ⟨M,c,n,rfl,Gd.out, .one HD.out HQ.out⟩⟩
  |true=>
   rw [hq63,if_pos rfl] at AR;have FR:=bG hq63;have BF:=agC AR;have HQ:=agC hq63;clear AF AR hq63;go_wp2_with fail;refine (eH (p:=q+1) HX.out Ap.out BF.out (by omega) ho (fun h wX k1 k2=>IH.out.choice (q+1) (o+1) wX k1 k2 (by omega) h (by omega))).mono ?_;rintro e w4 ⟨AW,q2,CL,Bg,Am⟩;have AV:=agC (aE AE.out AW);have BJ:=agC Bg;have Aw:=agC (bg Ap.out AW Ba);have FJ:=agC (Gd.out.grown AW Bb);have BZ:w.heap.size≤w3.heap.size:=AE.out.size
   rcases Am with ⟨M2,c2,n2,rfl,ht,hd⟩|⟨rfl,Ar⟩
   ·have UD:=agC (ht.mono BZ);have PZ:=agC hd
    have UE:=hd.le.2.2.2;have DE:=hd.nest;simp only at DE;clear ht hd AW Bg;go_wp2_with fail;refine (k8 58 (by decide) HX.out Aw.out BJ.out CL).mono ?_;rintro e w5 ⟨rfl,AS,Bh⟩;have Bk:=agC (aE AV.out AS);have AQ:=agC (bg Aw.out AS Ba);have D9:=agC (FJ.out.grown AS Bb);have NA:=agC (UD.out.grown AS Bb)
    cases hq58:isT tk q2 [58] with
    |false=>
     rw [hq58] at Bh;have CM:=agC Bh;have HN:=agC (aam (o:=o) HD.out HQ.out PZ.out hq58);clear AS Bh hq58;go_wp2;go_ret;exact ⟨Bk.out,q2,CL,CM.out, .inr ⟨rfl,HN.out⟩⟩
    |true=>
     rw [hq58,if_pos rfl] at Bh;have RE:=bG hq58;have CM:=agC Bh;have FX:=agC hq58;clear AS Bh hq58;go_wp2_with fail;refine (eH (p:=q2+1) HX.out AQ.out CM.out (by omega) ho (fun h wX k1 k2=>IH.out.choice (q2+1) (o+1) wX k1 k2 (by omega) h (by omega))).mono ?_;rintro e w6 ⟨CW,q3,Kq,D6,Am⟩;have CV:=agC (aE Bk.out CW);have Hm:=agC D6;have CK:=agC (bg AQ.out CW Ba);have Kb:=agC (D9.out.grown CW Bb);have P0:=agC (NA.out.grown CW Bb);have FG:w.heap.size≤w5.heap.size:=Bk.out.size;have Ev:w.heap.size≤w6.heap.size:=CV.out.size
     rcases Am with ⟨M3,c3,n3,rfl,ht,hd⟩|⟨rfl,Ar⟩
     ·have RF:=agC (ht.mono FG);have UF:=agC hd
      have Ki:=hd.nest;simp only at Ki;have Co:=Kb.out.lt;have DZ:=P0.out.lt;have Nc:=RF.out.lt;have G6:=agC (RtB.keep (w':=w6.alloc (.cells (aY [some (M,n),some (M2,n2),some (M3,n3)]).toArray 192)) Kb.out (fun b x1 x2=>Below.heap_alloc _ _ _ x2));have Jb:=agC (RtB.keep (w':=w6.alloc (.cells (aY [some (M,n),some (M2,n2),some (M3,n3)]).toArray 192)) P0.out (fun b x1 x2=>Below.heap_alloc _ _ _ x2));have RG:=agC (RtB.keep (w':=w6.alloc (.cells (aY [some (M,n),some (M2,n2),some (M3,n3)]).toArray 192)) RF.out (fun b x1 x2=>Below.heap_alloc _ _ _ x2));have EQ:=agC (jZ Ev [some (M,n),some (M2,n2),some (M3,n3)] (by simp));have GB:=agC ((G6.out.nested (by omega)).app ((Jb.out.nested (by omega)).app (RG.out.nested (by omega))));have Hz:=agC ((G6.out.tree (hi:=(w6.alloc (.cells (aY [some (M,n),some (M2,n2),some (M3,n3)]).toArray 192)).heap.size) (by simp;omega)).app ((Jb.out.tree (by simp;omega)).app (RG.out.tree (by simp;omega))));have FS:=agC (gE CV.out (.cells (aY [some (M,n),some (M2,n2),some (M3,n3)]).toArray 192));clear ht hd CW D6;go_wp2_with fail;refine (gD 9 ⟨#[]⟩ _ [(M,n),(M2,n2),(M3,n3)] w.heap.size 3 (c++(c2++c3)) _ (by simp;omega) EQ.out (by omega) Hz.out GB.out).mono ?_;rintro e w8 ⟨CX,K,rfl,IA⟩;have Ht:=agC (show RtB w8 w.heap.size K ((9,⟨#[]⟩,3)::(c++(c2++c3))) (max n (max n2 n3)) by simpa [dC] using IA);have G7:=agC (aE FS.out (bz CX (some R)));have G8:=agC ((Hm.out.below ((Below.refl _ _).alloc (agD _) _)).below CX);clear CX IA;go_wp2_with fail;refine (gR _ w.heap.size K (max n (max n2 n3)) _ Ht.out (by omega)).mono ?_;rintro e w9 ⟨rfl,rfl⟩;have KK:=agC (Ht.out.set (max n (max n2 n3)+1));have Kc:=Ht.out.lt.1;have G9:=agC (j7 G7.out Kc 4 (.int .i64 ((max n (max n2 n3)+1:Nat):Int)));have FT:=agC (show RdAt (w8.setCell ⟨K,4,none⟩ (.int .i64 ((max n (max n2 n3)+1:Nat):Int))) R s tv q3 o from (Below.heap_setCell _ _ _ _ (by show R≠K;omega)).trans G8.out);go_wp2;go_ret;exact ⟨G9.out,q3,Kq,FT.out, .inl ⟨K,_,_,rfl,KK.out, .three HD.out HQ.out PZ.out FX.out UF.out⟩⟩
     ·have HN:=agC (aan HD.out HQ.out PZ.out Ar)
      have EQ:=agC (jZ Ev [some (M,n),some (M2,n2),none] (by simp));have G6:=agC (RtB.keep (w':=w6.alloc (.cells (aY [some (M,n),some (M2,n2),none]).toArray 192)) Kb.out (fun b x1 x2=>Below.heap_alloc _ _ _ x2));have Jb:=agC (RtB.keep (w':=w6.alloc (.cells (aY [some (M,n),some (M2,n2),none]).toArray 192)) P0.out (fun b x1 x2=>Below.heap_alloc _ _ _ x2));have FS:=agC (gE CV.out (.cells (aY [some (M,n),some (M2,n2),none]).toArray 192))
      have EY:=agC (show∀(i N' n':Nat),([some (M,n),some (M2,n2),none]:List Op2)[i]? =some (some (N',n'))→(w6.alloc (.cells (aY [some (M,n),some (M2,n2),none]).toArray 192)).cell? ⟨N',4,none⟩=some (.int .i64 (n':Int))∧N'<(w6.alloc (.cells (aY [some (M,n),some (M2,n2),none]).toArray 192)).heap.size∧n'≤100000 from fun i N' n' h=>by
       match i,h with
       |0,h=>simp at h;obtain ⟨rfl,rfl⟩:=h;exact ⟨G6.out.nest.1,G6.out.lt.2,by omega⟩
       |1,h=>simp at h;obtain ⟨rfl,rfl⟩:=h;exact ⟨Jb.out.nest.1,Jb.out.lt.2,by omega⟩
       |2,h=>simp at h)
      clear Ar CW D6;go_wp2_with fail;refine (mI 9 ⟨#[]⟩ _ [some (M,n),some (M2,n2),none] w.heap.size 3 _ EQ.out (by omega) (by simp) EY.out).mono ?_;rintro e w8 ⟨CX,rfl⟩;have G7:=agC (aE FS.out (bz CX (some R)));have G8:=agC ((Hm.out.below ((Below.refl _ _).alloc (agD _) _)).below CX);clear CX;go_wp2_with fail;refine (k9 _).mono ?_;rintro e w9 ⟨rfl,rfl⟩;go_wp2;go_ret;exact ⟨G7.out,q3,Kq,G8.out, .inr ⟨rfl,HN.out⟩⟩
   ·have HN:=agC (xf HD.out HQ.out Ar)
    clear Ar AW Bg;go_wp2;go_ret;exact ⟨AV.out,q2,CL,BJ.out, .inr ⟨rfl,HN.out⟩⟩
 ·have HN:=agC (aal Ar)
  clear Ar hg2 AM;go_wp2;go_ret;exact ⟨Bi.out,q,hq,EL.out, .inr ⟨rfl,HN.out⟩⟩
theorem Rg.deeper {tk:List Tk} {j:GJob} {p:Nat} {c:List Cl} {q m n:Nat} (h:Rg tk j p c q m n):(match j with| .loop _ _ na=>na| .series _ _ _ no=>no|_=>0)≤n:=by
 induction h with
 |stop h=>exact agD _
 |more h1 h2 h3 h4 h5 h6 h7 i1 i2=>simp only at i2⊢;omega
 |close h=>exact agD _
 |part h1 h2 h3 h4 h5 i1 i2=>simp only at i2⊢;omega
 |_=>exact agH _
theorem Rg.mz {tk:List Tk} {j:GJob} {p:Nat} {c:List Cl} {q m n:Nat} (h:Rg tk j p c q m n) (hj: ∀w k o no,j≠ .series w k o no):m=0:=by
 cases h with
 |close h=>exact absurd rfl (hj _ _ _ _)
 |part h1 h2 h3 h4 h5=>exact absurd rfl (hj _ _ _ _)
 |_=>rfl
def GThru (tk:List Tk) (r p:Nat) (a:List Cl) (na q:Nat):Prop:=
 (∀c q2 m2 n2,Rg tk (.loop r a na) q c q2 m2 n2→Rg tk (.bin r) p c q2 0 n2)∧(∀c q2 m2 n2,Rg tk (.bin r) p c q2 m2 n2→Rg tk (.loop r a na) q c q2 0 n2)
theorem GThru.start {tk:List Tk} {r p:Nat} {a:List Cl} {q m na:Nat} (h:Rg tk .unary p a q m na):GThru tk r p a na q:=by
 refine ⟨fun c q2 m2 n2 k=> .bin h k,fun c q2 m2 n2 k=> ?_⟩
 cases k with
 |bin k1 k2=>
  obtain ⟨rfl,rfl,-,rfl⟩:=h.uniq k1;have:=k2.mz (by intros;simp);subst this;exact k2
theorem GThru.next {tk:List Tk} {r p k:Nat} {a b:List Cl} {na q q1 m n:Nat} {s:ByteArray} (h:GThru tk r p a na q) (h1:rkT tk q=(k:Int)) (h2:r≤k) (h0:0<k) (h3:tk[q]? =some (4,s)) (h4:Rg tk (.bin (k+1)) (q+1) b q1 m n) (h5: ¬(k=4∧rkT tk q1=4)):
  GThru tk r p ((8,s,2)::(a++b)) (max na n) q1:=by
 refine ⟨fun c q2 m2 n2 z=>h.1 c q2 0 n2 (.more h1 h2 h0 h3 h4 h5 z),fun c q2 m2 n2 z=> ?_⟩;have z':=h.2 c q2 m2 n2 z;clear z
 cases z' with
 |stop y=>omega
 |more k1 k2 k3 k4 k5 k6 k7=>
  rw [h1] at k1;have k1:=Int.ofNat_inj.mp k1;subst k1;have e:=aU h3 k4;simp only [Prod.mk.injEq,true_and] at e;subst e;obtain ⟨rfl,rfl,-,rfl⟩:=h4.uniq k5;have:=k7.mz (by intros;simp);subst this;exact k7
theorem GThru.done {tk:List Tk} {r p:Nat} {a:List Cl} {na q:Nat} (h:GThru tk r p a na q) (hs:rkT tk q<(r:Int)):Rg tk (.bin r) p a q 0 na:=h.1 a q 0 na (.stop hs)
theorem GThru.fail {tk:List Tk} {r p k o:Nat} {a:List Cl} {na q:Nat} (h:GThru tk r p a na q) (h1:rkT tk q=(k:Int)) (h2:r≤k) (hn:NoG tk (.bin (k+1)) (q+1) o):NoG tk (.bin r) p o:=by
 intro c q2 m2 n2 z;have z':=h.2 c q2 m2 n2 z;clear z
 cases z' with
 |stop y=>omega
 |more k1 k2 k3 k4 k5 k6 k7=>
  rw [h1] at k1;have k1:=Int.ofNat_inj.mp k1;subst k1;have:=hn _ _ _ _ k5;have:=k7.deeper;simp only at this
  omega
theorem GThru.comp {tk:List Tk} {r p o:Nat} {a b:List Cl} {na q q1 m n:Nat} (h:GThru tk r p a na q) (h1:rkT tk q=4) (h2:r≤4) (h4:Rg tk (.bin 5) (q+1) b q1 m n) (h5:rkT tk q1=4):NoG tk (.bin r) p o:=by
 intro c q2 m2 n2 z;have z':=h.2 c q2 m2 n2 z;clear z
 cases z' with
 |stop y=>omega
 |more k1 k2 k3 k4 k5 k6 k7=>
  rename_i kk _ _ _ _ _ _
  have k1:kk=4:=by rw [h1] at k1;omega
  subst k1;obtain ⟨rfl,rfl,-,rfl⟩:=h4.uniq k5;exact absurd ⟨rfl,h5⟩ k6
theorem aao {tk:List Tk} {r p o:Nat} (h:NoG tk .unary p o):NoG tk (.bin r) p o:=by
 intro c q m n k
 cases k with
 |bin k1 k2=>
  have:=h _ _ _ _ k1;have:=k2.deeper;simp only at this
  omega
theorem afS {tk:List Tk} {q:Nat} (h:rkT tk q≠0):q<tk.length∧tk[q]? =some (4,(wdT tk q).2):=by
 unfold rkT at h
 cases hk:tk[q]? with
 |none=>rw [hk] at h;exact absurd rfl h
 |some x=>
  obtain ⟨k,s⟩:=x;rw [hk] at h
  by_cases Ay:k=4
  ·subst Ay
   exact ⟨df hk,by rw [wdT,hk];rfl⟩
  ·exact absurd (if_neg Ay) h
def agz (R:Nat) (s:ByteArray) (tv:Value) (tk:List Tk) (r p o lo:Nat) (w:World) (left:Value) (wr:World):Prop:=
 w.grownBy wr (some R)∧ ∃q,q≤tk.length∧RdAt wr R s tv q o∧
  ((∃M a na,left= .pointer (some ⟨M,0,none⟩)∧RtB wr lo M a na∧p≤q∧na≤q∧GThru tk r p a na q)∨(left= .pointer none∧NoG tk (.bin r) p o))
def afT (w:World) (R:Nat):Nat:=match w.cell? ⟨R,2,none⟩ with
 |some (.int _ i)=>i.toNat
 |_=>0
def oQ (R n:Nat) (lv:Value) (w:World):Nat:=match lv with
 | .pointer (some _)=>2*(n-afT w R)+1
 |_=>0
theorem RdAt.atOf {w:World} {R:Nat} {s:ByteArray} {tv:Value} {p o:Nat} (h:RdAt w R s tv p o):afT w R=p:=by
 unfold Proofs.YtegdjjjpoahamaaGreatDoor.afT;rw [h.cells.1.2.2.1];simp
theorem aap {w1:World} {R:Nat} {s:ByteArray} {tv:Value} {L:List (Int×Nat×Nat)} {tk:List Tk} {N:Nat} (hx:Cx w1 R s tv L tk) (ih:AllG w1 R s tv tk N) (r p o:Nat) (w:World) (AM:2≤r) (EI:r≤7) (hb:Below w1.heap.size w1 w) (hr:RdAt w R s tv p o) (hp:p≤tk.length) (ho:o≤40) (hN:10*(tk.length-p)+6≤N+1):
  Calls Tryz.prog 204 #[.pointer (some ⟨R,0,none⟩), .int .i64 ((r:Int)-1)] w (lR R s tv tk (.bin r) p o 0 w):=by
 have HB:=agC hb;have HX:=agC hx;have IH:=agC ih;have UG:=agC (ih.unary p o w hb hr hp ho (by omega))
 have AN:tk.length≤20000:=by rw [hx.length];exact hx.len
 have Ba:=hx.low;have Bb:=hr.lt;clear hr hb hx ih
 go_enter Tryz.func204,Tryz.ntmps204
 go_wp2_with fail;refine UG.out.mono ?_;rintro e w2 ⟨hg2,q,hq,BW,Am⟩
 have EM:Hid (∃lv,e= .returned lv∧agz R s tv tk r p o w.heap.size w lv w2):=by
  rcases Am with ⟨M,c,n,rfl,ht,hd⟩|⟨rfl,Ar⟩
  ·have:=hd.nest
   simp only at this;exact ⟨_,rfl,hg2,q,hq,BW, .inl ⟨M,c,n,rfl,ht,hd.le.2.2.2,by omega, .start hd⟩⟩
  ·exact ⟨_,rfl,hg2,q,hq,BW, .inr ⟨rfl,aao Ar⟩⟩
 obtain ⟨lv,rfl,MI⟩:=EM.out;have HI:=agC MI;clear Am hg2 BW EM MI hq;go_wp2_with fail
 go_loopw [5] (fun l wr=>agz R s tv tk r p o w.heap.size w l wr) (fun l wr=>oQ R tk.length l wr)
 case atStart=>exact HI.out
 case round=>
  obtain ⟨IC,q,hq,De,⟨M,a,na,rfl,ht,KC,Rq,Jd⟩|⟨rfl,Ar⟩⟩:=hrel
  ·have MD:=agC IC;have AT:=agC De;have HT:=agC ht;have Gc:=agC Jd
   have BI:=agC (bg HB.out IC Ba);have BV:=agC (mH HX.out BI.out De hq);have F4:=agC (rA HX.out.sig q);have Cz:=agC (show rkT tk q≠0→q<tk.length∧tk[q]? =some (4,(wdT tk q).2) from afS);have Dt:=rB tk q
   have RH:oQ R tk.length (.pointer (some ⟨M,0,none⟩)) wr=2*(tk.length-q)+1:=by rw [oQ,De.atOf]
   have Kn:=agC RH;clear IC De ht Jd RH;generalize (wdT tk q).1=wk at BV;generalize (wdT tk q).2=wd at BV F4 Cz;go_wp2_with fail;refine BV.out.mono ?_;rintro e w3 ⟨rfl,Ag⟩;have AE:=agC (aE MD.out (bz Ag (some R)));have BF:=agC (AT.out.below Ag);have Ap:=agC (BI.out.trans (Ag.mono BI.out.size));have Gd:=agC (HT.out.keep (fun b x1 x2=>Ag.block b x2));clear Ag;go_wp2_with fail;refine (fo wd _).mono ?_;rintro e w' ⟨rfl,rfl⟩
   by_cases Ab:rkT tk q<(r:Int)
   ·have Eg:rkI wd.data.toList<(r:Int)-1:=by
     unfold rkI;rw [F4.out];split<;>omega
    have ME:=agC (Gc.out.done Ab);generalize rkI wd.data.toList=ri at Eg⊢;go_wp2;go_ret;exact ⟨AE.out,q,hq,BF.out, .inl ⟨M,a,na,rfl,Gd.out,ME.out⟩⟩
   ·obtain ⟨k,hk⟩:=agG (show 0≤rkT tk q by omega)
    have Eg:rkI wd.data.toList=(k:Int)-1:=by
     unfold rkI;rw [F4.out,hk];split<;>omega
    rw [Eg]
    have NB:r≤k:=by omega
    have PG:k≤6:=by omega
    have J6: ¬(k:Int)-1<(r:Int)-1:=by omega
    obtain ⟨FR,C4⟩:=Cz.out (by omega);have FQ:=agC C4;have HK:=agC hk;obtain ⟨⟨a0,a1,a2,a3⟩,b2,b3⟩:=BF.out.cells;have AV:=agC (aE AE.out (dY w3 R 2 (.int .i64 ((q+1:Nat):Int))));have BJ:=agC (BF.out.at_ (q+1));have Aw:=agC (bg Ap.out (dY w3 R 2 (.int .i64 ((q+1:Nat):Int))) Ba);have FJ:=agC (Gd.out.grown (dY w3 R 2 (.int .i64 ((q+1:Nat):Int))) Bb);rw [show ((q+1:Nat):Int)=(q:Int)+1 by omega] at AV BJ Aw FJ
    have P1:=agC (show Calls Tryz.prog 204 #[.pointer (some ⟨R,0,none⟩), .int .i64 (k:Int)] (w3.setCell ⟨R,2,none⟩ (.int .i64 ((q:Int)+1))) (lR R s tv tk (.bin (k+1)) (q+1) o 0 (w3.setCell ⟨R,2,none⟩ (.int .i64 ((q:Int)+1)))) by
     have:=IH.out.bin (k+1) (q+1) o _ (by omega) (by omega) Aw.out BJ.out (by omega) ho (by omega)
     rwa [show ((k+1:Nat):Int)-1=(k:Int) by omega] at this)
    clear Ab hk C4 Eg;go_wp2_with fail;refine P1.out.mono ?_;rintro e w5 ⟨AS,q1,Cn,Bh,Am⟩;have Bk:=agC (aE AV.out AS);have CM:=agC Bh;have D9:=agC (FJ.out.grown AS Bb);have FW:w.heap.size≤(w3.setCell ⟨R,2,none⟩ (.int .i64 ((q:Int)+1))).heap.size:=AV.out.size;have FG:w.heap.size≤w5.heap.size:=Bk.out.size
    rcases Am with ⟨M2,b,n2,rfl,ht,hd⟩|⟨rfl,Ar⟩
    ·have NA:=agC (ht.mono FW);have HD:=agC hd
     have DE:=hd.nest;have Kd:=hd.le.2.2.2;simp only at DE;have Co:=D9.out.lt;have DZ:=NA.out.lt;have G6:=agC (RtB.keep (w':=w5.alloc (.cells (aY [some (M,na),some (M2,n2)]).toArray 192)) D9.out (fun b x1 x2=>Below.heap_alloc _ _ _ x2));have Jb:=agC (RtB.keep (w':=w5.alloc (.cells (aY [some (M,na),some (M2,n2)]).toArray 192)) NA.out (fun b x1 x2=>Below.heap_alloc _ _ _ x2));have EQ:=agC (jZ FG [some (M,na),some (M2,n2)] (by simp));have GB:=agC ((G6.out.nested (by omega)).app (Jb.out.nested (by omega)));have Hz:=agC ((G6.out.tree (hi:=(w5.alloc (.cells (aY [some (M,na),some (M2,n2)]).toArray 192)).heap.size) (by simp;omega)).app (Jb.out.tree (by simp;omega)));have FS:=agC (gE Bk.out (.cells (aY [some (M,na),some (M2,n2)]).toArray 192));clear ht hd AS Bh;go_wp2_with fail;refine (gD 8 wd _ [(M,na),(M2,n2)] w.heap.size 2 (a++b) _ (by simp;omega) EQ.out (by omega) Hz.out GB.out).mono ?_;rintro e w8 ⟨CX,K,rfl,IA⟩;have Ht:=agC (show RtB w8 w.heap.size K ((8,wd,2)::(a++b)) (max na n2) by simpa [dC] using IA);have G7:=agC (aE FS.out (bz CX (some R)));have G8:=agC ((CM.out.below ((Below.refl _ _).alloc (agD _) _)).below CX);have IT:=agC (bg HB.out G7.out Ba);clear CX IA;have Fe:=agC (mH HX.out IT.out G8.out Cn);have Ff:=agC (rA HX.out.sig q1);generalize (wdT tk q1).1=wk3 at Fe;generalize (wdT tk q1).2=wd3 at Fe Ff;go_wp2_with fail;refine Fe.out.mono ?_;rintro e w9 ⟨rfl,Dh⟩;have G9:=agC (aE G7.out (bz Dh (some R)));have FT:=agC (G8.out.below Dh);have KK:=agC (Ht.out.keep (fun b x1 x2=>Dh.block b x2));clear Dh
     by_cases Ay:k=4
     ·subst Ay
      go_wp2_with fail;refine (fo wd3 _).mono ?_;rintro e w' ⟨rfl,rfl⟩
      by_cases h4:rkT tk q1=4
      ·have Fg:rkI wd3.data.toList=3:=by unfold rkI;rw [Ff.out,h4];rfl
       rw [Fg];have EY:=agC (GThru.comp (o:=o) Gc.out HK.out NB HD.out h4);go_wp2;go_ret;exact ⟨G9.out,q1,Cn,FT.out, .inr ⟨rfl,EY.out⟩⟩
      ·have Fg:(rkI wd3.data.toList==3)=false:=beq_eq_false_iff_ne.mpr (by unfold rkI;rw [Ff.out];have:=rB tk q1;split<;>omega)
       generalize rkI wd3.data.toList=ri3 at Fg⊢;go_wp2;go_roundw
       case rel=>exact ⟨G9.out,q1,Cn,FT.out, .inl ⟨K,_,_,rfl,KK.out,by omega,by omega,Gc.out.next HK.out NB (by omega) FQ.out HD.out (fun h=>h4 h.2)⟩⟩
       case measure=>rw [Kn.out];rw [oQ,FT.out.atOf];omega
     ·have P2:((k:Int)-1==3)=false:=beq_eq_false_iff_ne.mpr (by omega)
      have MF:((k:Int)==4)=false:=beq_eq_false_iff_ne.mpr (by omega);go_wp2_with fail;go_roundw
      case rel=>exact ⟨G9.out,q1,Cn,FT.out, .inl ⟨K,_,_,rfl,KK.out,by omega,by omega,Gc.out.next HK.out NB (by omega) FQ.out HD.out (fun h=>Ay h.1)⟩⟩
      case measure=>rw [Kn.out];rw [oQ,FT.out.atOf];omega
    ·have EY:=agC (Gc.out.fail HK.out NB Ar)
     have EQ:=agC (jZ FG [some (M,na),none] (by simp));have G6:=agC (RtB.keep (w':=w5.alloc (.cells (aY [some (M,na),none]).toArray 192)) D9.out (fun b x1 x2=>Below.heap_alloc _ _ _ x2));have FS:=agC (gE Bk.out (.cells (aY [some (M,na),none]).toArray 192))
     have CO:=agC (show∀(i N' n':Nat),([some (M,na),none]:List Op2)[i]? =some (some (N',n'))→(w5.alloc (.cells (aY [some (M,na),none]).toArray 192)).cell? ⟨N',4,none⟩=some (.int .i64 (n':Int))∧N'<(w5.alloc (.cells (aY [some (M,na),none]).toArray 192)).heap.size∧n'≤100000 from fun i N' n' h=>by
      match i,h with
      |0,h=>simp at h;obtain ⟨rfl,rfl⟩:=h;exact ⟨G6.out.nest.1,G6.out.lt.2,by omega⟩
      |1,h=>simp at h)
     clear Ar AS Bh;go_wp2_with fail;refine (mI 8 wd _ [some (M,na),none] w.heap.size 2 _ EQ.out (by omega) (by simp) CO.out).mono ?_;rintro e w8 ⟨CX,rfl⟩;have G7:=agC (aE FS.out (bz CX (some R)));have G8:=agC ((CM.out.below ((Below.refl _ _).alloc (agD _) _)).below CX);have IT:=agC (bg HB.out G7.out Ba);clear CX;have Fe:=agC (mH HX.out IT.out G8.out Cn);have Ff:=agC (rA HX.out.sig q1);generalize (wdT tk q1).1=wk3 at Fe;generalize (wdT tk q1).2=wd3 at Fe Ff;go_wp2_with fail;refine Fe.out.mono ?_;rintro e w9 ⟨rfl,Dh⟩;have G9:=agC (aE G7.out (bz Dh (some R)));have FT:=agC (G8.out.below Dh);clear Dh
     by_cases Ay:k=4
     ·subst Ay
      go_wp2_with fail;refine (fo wd3 _).mono ?_;rintro e w' ⟨rfl,rfl⟩
      by_cases h4:rkT tk q1=4
      ·have Fg:rkI wd3.data.toList=3:=by unfold rkI;rw [Ff.out,h4];rfl
       rw [Fg];go_wp2;go_ret;exact ⟨G9.out,q1,Cn,FT.out, .inr ⟨rfl,EY.out⟩⟩
      ·have Fg:(rkI wd3.data.toList==3)=false:=beq_eq_false_iff_ne.mpr (by unfold rkI;rw [Ff.out];have:=rB tk q1;split<;>omega)
       generalize rkI wd3.data.toList=ri3 at Fg⊢;go_wp2;go_roundw
       case rel=>exact ⟨G9.out,q1,Cn,FT.out, .inr ⟨rfl,EY.out⟩⟩
       case measure=>rw [Kn.out];simp [oQ]
     ·have P2:((k:Int)-1==3)=false:=beq_eq_false_iff_ne.mpr (by omega)
      have MF:((k:Int)==4)=false:=beq_eq_false_iff_ne.mpr (by omega);go_wp2_with fail;go_roundw
      case rel=>exact ⟨G9.out,q1,Cn,FT.out, .inr ⟨rfl,EY.out⟩⟩
      case measure=>rw [Kn.out];simp [oQ]
  ·have MD:=agC IC;have AT:=agC De;have HN:=agC Ar
   clear IC De Ar;go_wp2;go_ret;exact ⟨MD.out,q,hq,AT.out, .inr ⟨rfl,HN.out⟩⟩
def GAmong (tk:List Tk) (w:List UInt8) (p k:Nat) (out:List Cl) (no q:Nat):Prop:=
 (∀c q2 m2 n2,Rg tk (.series w k out no) q c q2 m2 n2→Rg tk (.series w 0 [] 0) p c q2 m2 n2)∧(∀c q2 m2 n2,Rg tk (.series w 0 [] 0) p c q2 m2 n2→Rg tk (.series w k out no) q c q2 m2 n2)
theorem GAmong.start (tk:List Tk) (w:List UInt8) (p:Nat):GAmong tk w p 0 [] 0 p:=⟨fun _ _ _ _ k=>k,fun _ _ _ _ k=>k⟩
theorem GAmong.done {tk:List Tk} {w:List UInt8} {p k:Nat} {out:List Cl} {no q:Nat} (h:GAmong tk w p k out no q) (hs:isT tk q w=true):Rg tk (.series w 0 [] 0) p out (q+1) k no:=h.1 out (q+1) k no (.close hs)
theorem GAmong.next {tk:List Tk} {w:List UInt8} {p k:Nat} {out a:List Cl} {no n q q0 q1 m:Nat} (h:GAmong tk w p k out no q) (hs:isT tk q w=false) (h1:k=0→q0=q) (h2:k≠0→isT tk q [44]=true∧q0=q+1) (hr:Rg tk .choice q0 a q1 m n):GAmong tk w p (k+1) (out++a) (max no n) q1:=by
 refine ⟨fun c q2 m2 n2 z=>h.1 c q2 m2 n2 (.part hs h1 h2 hr z),fun c q2 m2 n2 z=> ?_⟩;have z':=h.2 c q2 m2 n2 z;clear z
 cases z' with
 |close y=>exact (tf' y hs).elim
 | @part _ _ _ _ _ q0' _ _ _ _ _ _ _ _ k1 k2 k3 k4 k5=>
  have e:q0=q0':=by
   by_cases hn:k=0
   ·rw [h1 hn,k2 hn]
   ·rw [(h2 hn).2,(k3 hn).2]
  subst e;obtain ⟨rfl,rfl,-,rfl⟩:=hr.uniq k4;exact k5
theorem GAmong.comma {tk:List Tk} {w:List UInt8} {p k o:Nat} {out:List Cl} {no q:Nat} (h:GAmong tk w p k out no q) (hs:isT tk q w=false) (hn:k≠0) (hc:isT tk q [44]=false):NoG tk (.series w 0 [] 0) p o:=by
 intro c q2 m2 n2 z;have z':=h.2 c q2 m2 n2 z;clear z
 cases z' with
 |close y=>exact (tf' y hs).elim
 |part k1 k2 k3 k4 k5=>exact (tf' (k3 hn).1 hc).elim
theorem GAmong.fail {tk:List Tk} {w:List UInt8} {p k o:Nat} {out:List Cl} {no q q0:Nat} (h:GAmong tk w p k out no q) (hs:isT tk q w=false) (h1:k=0→q0=q) (h2:k≠0→isT tk q [44]=true∧q0=q+1) (hr:NoG tk .choice q0 o):NoG tk (.series w 0 [] 0) p o:=by
 intro c q2 m2 n2 z;have z':=h.2 c q2 m2 n2 z;clear z
 cases z' with
 |close y=>exact (tf' y hs).elim
 | @part _ _ _ _ _ q0' _ _ _ _ _ _ _ _ k1 k2 k3 k4 k5=>
  have e:q0=q0':=by
   by_cases hn:k=0
   ·rw [h1 hn,k2 hn]
   ·rw [(h2 hn).2,(k3 hn).2]
  subst e;have:=hr _ _ _ _ k4;have:=k5.deeper;simp only at this
  omega
theorem RtB.keepI {w w':World} {lo N n:Nat} {c:List Cl} (h:RtB w lo N c n) (hw: ∀b,lo≤b→b≤N→b<w.heap.size→w'.heap[b]? =w.heap[b]?):RtB w' lo N c n:=by
 obtain ⟨k,s,v,qs,c1,rfl,h1,hb,ho,hr,ht⟩:=h;refine ⟨k,s,v,qs,c1,rfl,h1,(hw N h1 (agD _) hb.lt).trans hb, ?_,hr,ht.keep (fun b x1 x2 x3=>hw b x1 (by omega) x3)⟩;refine ⟨ho.1, ?_⟩
 rcases ho.2 with hn|⟨g',cap,cur,rfl,Dy,DV,rest⟩
 ·exact .inl hn
 ·refine .inr ⟨g',cap,cur,rfl,Dy, ?_,rest⟩
  have hl:=ho.lt g' rfl;have:=hr g' rfl;rw [hw g' hl.1 (by omega) hl.2];exact DV
structure Prt where
 lo:Nat
 root:Nat
 nn:Nat
 cl:List Cl
def PrtsOK (w:World) (lo:Nat) (v:Value) (ts:List Prt):Prop:= ∀t∈ts,RtB w t.lo t.root t.cl t.nn∧lo≤t.lo∧t.nn≤30000∧ ∀g,v.ownBlock=some g→g<t.lo∨t.root<g
def gJ (ts:List Prt):List (Nat×Nat):=ts.map fun t=>(t.root,t.nn)
def xg (ts:List Prt):List Cl:=ts.flatMap Prt.cl
theorem qw (ts:List Prt) (t:Prt):gJ (ts++[t])=gJ ts++[(t.root,t.nn)]:=by simp [gJ]
theorem aaq (ts:List Prt) (t:Prt):xg (ts++[t])=xg ts++t.cl:=by simp [xg]
theorem PrtsOK.tree {w:World} {lo:Nat} {v:Value} {ts:List Prt} (h:PrtsOK w lo v ts):TrB w lo w.heap.size ((gJ ts).map Prod.fst) (xg ts)∧Nested w (gJ ts):=by
 induction ts with
 |nil=>exact ⟨.nil _,fun x hx=>by cases hx⟩
 |cons t ts ih=>
  obtain ⟨h1,h2,h3,h4⟩:=h t (by simp);obtain ⟨i1,i2⟩:=ih (fun x hx=>h x (by simp [hx]));refine ⟨((h1.tree (hi:=w.heap.size) h1.lt.2).mono h2 (agD _)).app i1,fun x hx=> ?_⟩;simp only [gJ,List.map_cons,List.mem_cons] at hx
  rcases hx with rfl|hx
  ·exact ⟨h1.nest.1,h1.lt.2,by omega⟩
  ·exact i2 x hx
theorem PrtsOK.grown {w w':World} {lo R:Nat} {v:Value} {ts:List Prt} (h:PrtsOK w lo v ts) (hg:w.grownBy w' (some R)) (hR:R<lo):PrtsOK w' lo v ts:=fun t ht=>by
 obtain ⟨h1,h2,h3,h4⟩:=h t ht;exact ⟨h1.grown hg (by omega),h2,h3,h4⟩
theorem uj (ts:List Prt) (t:Prt):dC ((gJ (ts++[t])).map some)=max (dC ((gJ ts).map some)) t.nn:=by
 rw [qw,List.map_append,qv];simp [dC]
theorem afU:(Tryz.prog.info? 192).map (fun i=>(i.zero,i.size,i.bytes))=some (some (.pointer none),1,8):=by kernel_rfl
def SInv (R:Nat) (s:ByteArray) (tv:Value) (tk:List Tk) (c:UInt8) (p o:Nat) (w:World) (pv:Value) (wr:World):Prop:=
 w.grownBy wr (some R)∧ ∃(q:Nat) (ts:List Prt),q≤tk.length∧p≤q∧RdAt wr R s tv q o∧wr.ownsRow w.heap.size 192 1 pv ts.length (aY ((gJ ts).map some))∧PrtsOK wr w.heap.size pv ts∧ts.length≤q∧dC ((gJ ts).map some)≤30000∧GAmong tk [c] p ts.length (xg ts) (dC ((gJ ts).map some)) q
theorem aar {w a b:World} {R:Nat} {v:Value} (h:w.grownBy a (some R)) (k:a.grownBy b v.ownBlock) (hv: ∀g,v.ownBlock=some g→w.heap.size≤g):w.grownBy b (some R):=
 ⟨k.os.trans h.os,k.tape.trans h.tape,k.output.trans h.output,Nat.le_trans h.size k.size,fun i hi hn=>(k.block i (Nat.lt_of_lt_of_le hi h.size) (fun e=>by have:=hv i e.symm;omega)).trans (h.block i hi hn)⟩
theorem j8 {w w':World} {base R m:Nat} {v:Value} {xs:List Value} (h:w.ownsRow base 192 1 v m xs) (hg:w.grownBy w' (some R)) (hR:R<base):w'.ownsRow base 192 1 v m xs:=
 h.kept hg (.inr (fun e=>by have:=(h.lt R e).1;omega))
theorem SInv.start {R:Nat} {s:ByteArray} {tv:Value} {tk:List Tk} {c:UInt8} {p o:Nat} {w:World} (hr:RdAt w R s tv p o) (hp:p≤tk.length):SInv R s tv tk c p o w (.slice none 0 0) w:=
 ⟨World.grownBy.refl _ _,p,[],hp,agD _,hr,World.ownsRow_nil _ _ _ _,(fun t ht=>by cases ht),agH _,(by simp [gJ,dC]),GAmong.start tk [c] p⟩
theorem SInv.more {R:Nat} {s:ByteArray} {tv:Value} {tk:List Tk} {c:UInt8} {p o q q0 q1 n m cap' gg N:Nat} {w w4 w5 w7:World} {pv:Value} {ts:List Prt} {a:List Cl}
  (AS:w.grownBy w5 (some R)) (Bb:R<w.heap.size) (IK:w.heap.size≤w4.heap.size) (DK:w5.ownsRow w.heap.size 192 1 pv ts.length (aY ((gJ ts).map some))) (Dd: ∀g,pv.ownBlock=some g→g<w4.heap.size) (Jl:PrtsOK w5 w.heap.size pv ts) (Bh:RdAt w5 R s tv q1 o) (Cn:q1≤tk.length) (KC:p≤q) (Kd:q<q1) (hl:ts.length≤q) (J6:dC ((gJ ts).map some)≤30000)
  (EP:GAmong tk [c] p ts.length (xg ts) (dC ((gJ ts).map some)) q) (hs:isT tk q [c]=false) (h1:ts.length=0→q0=q) (h2:ts.length≠0→isT tk q [44]=true∧q0=q+1) (RO:RtB w5 w4.heap.size N a n) (hn:n≤30000) (hd:Rg tk .choice q0 a q1 m n)
  (ob:Obj) (Ac:(w5.alloc ob).grownBy w7 pv.ownBlock) (Bc:pv.ownBlock=some gg∨gg=w5.heap.size+1) (Ad:w7.ownsRow w.heap.size 192 1 (.slice (some ⟨gg,0,none⟩) (ts.length+1) cap') (ts.length+1) (aY ((gJ ts).map some)++[.pointer (some ⟨N,0,none⟩)])):
  SInv R s tv tk c p o w (.slice (some ⟨gg,0,none⟩) (ts.length+1) cap') w7:=by
 have Hr: ∀g,pv.ownBlock=some g→w.heap.size≤g:=fun g hg=>(DK.lt g hg).1
 have FG:w.heap.size≤w5.heap.size:=AS.size
 have DD: ∀b,b<w5.heap.size→(∀g,pv.ownBlock=some g→b≠g)→w7.heap[b]? =w5.heap[b]? :=fun b hb At=>by
  rw [Ac.block b (by simp;omega) (fun e=>At b e.symm rfl),Below.heap_alloc _ _ _ hb]
 refine ⟨aar (gE AS ob) Ac Hr,q1,ts++[⟨w4.heap.size,N,n,a⟩],Cn,by omega,(DD R (by omega) (fun g hg e=>by have:=Hr g hg;omega)).trans Bh, ?_, ?_, ?_, ?_, ?_⟩
 ·rw [agE,qw,List.map_append,show aY ((gJ ts).map some++[(N,n)].map some)=aY ((gJ ts).map some)++[.pointer (some ⟨N,0,none⟩)] by simp [aY,oP]]
  exact Ad
 ·intro t ht
  rcases List.mem_append.mp ht with ht|ht
  ·obtain ⟨x1,x2,x3,x4⟩:=Jl t ht
   refine ⟨x1.keepI (fun b y1 y2 y3=>DD b y3 (fun g hg e=>by have:=x4 g hg;omega)),x2,x3,fun g hg=> ?_⟩
   have hg:gg=g:=by simpa [Value.ownBlock] using hg
   subst hg
   rcases Bc with h|h
   ·exact x4 _ h
   ·have:=x1.lt;omega
  ·simp only [List.mem_singleton] at ht
   subst ht;refine ⟨RO.keepI (fun b y1 y2 y3=>DD b y3 (fun g hg e=>by have:=Dd g hg;omega)),IK,hn,fun g hg=> ?_⟩
   have hg:gg=g:=by simpa [Value.ownBlock] using hg
   subst hg
   rcases Bc with h|h
   ·exact .inl (Dd _ h)
   ·have:=RO.lt;right;simp only;omega
 ·rw [agE];simp only [List.length_cons,List.length_nil];omega
 ·rw [uj];simp only;omega
 ·rw [uj,aaq,agE]
  exact EP.next hs h1 h2 hd
theorem lS {w1:World} {R:Nat} {s:ByteArray} {tv:Value} {L:List (Int×Nat×Nat)} {tk:List Tk} {N:Nat} (hx:Cx w1 R s tv L tk) (ih:AllG w1 R s tv tk N) (kd:Int) (wd:ByteArray) (c:UInt8) (hc:sgB c=true) (p o:Nat) (w:World) (hb:Below w1.heap.size w1 w) (hr:RdAt w R s tv p o) (hp:p≤tk.length) (ho:o≤40) (hN:10*(tk.length-p)+8≤N):
  Calls Tryz.prog 244 #[.pointer (some ⟨R,0,none⟩), .int .i64 kd, .string wd, .string ⟨#[c]⟩] w fun e w'=>w.grownBy w' (some R)∧ ∃q,q≤tk.length∧RdAt w' R s tv q o∧
   ((∃(K:Nat) (l:List Cl) (m n:Nat),e= .returned (.pointer (some ⟨K,0,none⟩))∧RtB w' w.heap.size K ((kd,wd,(m:Int))::l) (n+1)∧Rg tk (.series [c] 0 [] 0) p l q m n)∨(e= .returned (.pointer none)∧NoG tk (.series [c] 0 [] 0) p (o+1))):=by
 have HB:=agC hb;have HX:=agC hx;have IH:=agC ih;have AT:=agC hr
 have AN:tk.length≤20000:=by rw [hx.length];exact hx.len
 have Ba:=hx.low;have Bb:=hr.lt;obtain ⟨i0,hi,Az,Ax,AC⟩:=info_parts afU;clear hr hb hx ih
 go_enter Tryz.func244,Tryz.ntmps244
 have EM:=agC (SInv.start (c:=c) AT.out hp);go_wp2_with fail
 go_loopw [9] (fun pv wr=>SInv R s tv tk c p o w pv wr) (fun _ wr=>tk.length-afT wr R)
 case atStart=>exact EM.out
 case round=>
  obtain ⟨IC,q,ts,hq,KC,De,Ad,Jl,hl,J6,EP⟩:=hrel;have MD:=agC IC;have N2:=agC De;have HO:=agC Ad;have Hg:=agC Jl;have EZ:=agC EP;have BI:=agC (bg HB.out IC Ba);have MG:=agC De.atOf
  have BT: ∃a c,u9=Value.slice a ts.length c:=by
   rcases Ad.2 with ⟨h,h0⟩|⟨g',cap',cur,h,_⟩
   ·exact ⟨none,0,by rw [h,h0]⟩
   ·exact ⟨_,_,h⟩
  clear IC De Ad Jl EP;obtain ⟨NG,NH,rfl⟩:=BT;go_wp2_with fail;refine (k8 c hc HX.out BI.out N2.out hq).mono ?_;rintro e w3 ⟨rfl,AF,AR⟩;have AE:=agC (aE MD.out AF);have Ap:=agC (bg BI.out AF Ba);have BY:=agC (j8 HO.out AF Bb);have P3:=agC (Hg.out.grown AF Bb)
  cases I2:isT tk q [c] with
  |true=>
   rw [I2,if_pos rfl] at AR;have FR:=bG I2;have BF:=agC AR;have HD:=agC (EZ.out.done I2);obtain ⟨H9,RL⟩:=P3.out.tree;have Hz:=agC H9;have GB:=agC RL
   have Io:(gJ ts).length=ts.length:=by simp [gJ]
   clear AF AR I2 H9 RL;go_wp2_with fail;refine (gD kd wd _ (gJ ts) w.heap.size ts.length (xg ts) _ AE.out.size BY.out (by omega) Hz.out GB.out).mono ?_;rintro e w8 ⟨CX,K,rfl,IA⟩;rw [Io] at IA;have Ht:=agC IA;have G7:=agC (aE AE.out (bz CX (some R)));have G8:=agC (BF.out.below CX);clear CX IA;generalize dC ((gJ ts).map some)=nn at Ht HD J6;go_wp2_with fail;refine (gR _ w.heap.size K nn _ Ht.out (by omega)).mono ?_;rintro e w9 ⟨rfl,rfl⟩;have KK:=agC (Ht.out.set (nn+1));have Kc:=Ht.out.lt.1;have G9:=agC (j7 G7.out Kc 4 (.int .i64 ((nn+1:Nat):Int)));have FT:=agC (show RdAt (w8.setCell ⟨K,4,none⟩ (.int .i64 ((nn+1:Nat):Int))) R s tv (q+1) o from (Below.heap_setCell _ _ _ _ (by show R≠K;omega)).trans G8.out);go_wp2;go_ret;exact ⟨G9.out,q+1,by omega,FT.out, .inl ⟨K,_,_,_,rfl,KK.out,HD.out⟩⟩
  |false=>
   rw [I2] at AR
   replace AR:RdAt w3 R s tv q o:=AR
   have BF:=agC AR;have HS:=agC I2;clear AF AR I2
   by_cases Bo:ts.length=0
   ·have P4:decide ((0:Int)<(ts.length:Int))=false:=decide_eq_false (by omega)
    have RI:decide (0<ts.length)=false:=decide_eq_false (by omega);have Lm:=agC Bo;clear Bo;go_wp2_with fail;refine (eH (p:=q) HX.out Ap.out BF.out (by omega) ho (fun h wX k1 k2=>IH.out.choice (q) (o+1) wX k1 k2 (by omega) h (by omega))).mono ?_;rintro e w5 ⟨AS,q1,Cn,Bh,Am⟩;have Bk:=agC (aE AE.out AS);have CM:=agC Bh;have BQ:=agC (j8 BY.out AS Bb);have MH:=agC (P3.out.grown AS Bb);have P5:w.heap.size≤w3.heap.size:=AE.out.size
    have Ha: ∀g,(Value.slice NG ts.length NH).ownBlock=some g→g<w3.heap.size:=fun g hg=>(BY.out.lt g hg).2
    have Ke:=agC Ha;clear Ha
    rcases Am with ⟨M,a,n,rfl,ht,hd⟩|⟨rfl,Ar⟩
    ·have D9:=agC ht;have HD:=agC hd
     have Hq:=hd.nest;simp only at Hq
     have Kd:q<q1:=by
      have:=hd.le.1;obtain ⟨_,_,_,_,_,rfl,_⟩:=ht;simp only [GJob.held,List.length_nil,List.length_cons] at this;omega
     clear ht hd AS Bh
     go_wp2_with (at_builtin;refine wpList_append_lies _ rfl _ _ 194 rfl w.heap.size 192 i0 (.pointer none) 1 8 Tryz.underlying194 hi Az Ax AC rfl (by decide) (.slice NG ts.length NH) ts.length _ rfl (BQ.out.alloc _) ⟨w5.heap.size,0,none⟩ 1 1 [.pointer (some ⟨M,0,none⟩)] rfl rfl (World.news_of_block (cs:= #[.pointer (some ⟨M,0,none⟩)]) (t:=192) (fr:=(0,0)) (heap_alloc_new w5 _)) (by simp [Value.oneCell']) (by omega) (by unfold maxLen;omega) (by omega) (by have:=Bk.out.size;simp;omega) (w5.heap.size+1) (by simp) ?_;intro gg cap' w7 Ah Ac Bc ES;have EQ:=agC Ah;have FS:=agC Ac;have He:=agC Bc;clear Ah Ac Bc)
     have BV:=agC (SInv.more Bk.out Bb P5 BQ.out Ke.out MH.out CM.out Cn KC (by omega) hl J6 EZ.out HS.out (q0:=q) (fun _=>rfl) (fun h=>absurd Lm.out h) D9.out (by omega) HD.out _ FS.out He.out EQ.out);go_roundw
     case rel=>exact BV.out
     case measure=>
      obtain ⟨_,q',ts',K0,P9,Hb,_⟩:=BV.out
      have UH:q'=q1:=by
       have e1:=(CM.out.below ((Below.refl _ _).alloc (agD _) (.cells #[.pointer (some ⟨M,0,none⟩)] 192)));have e2:RdAt w7 R s tv q1 o:=(FS.out.block R (by have:=CM.out.lt;simp;omega) (fun e=>by have:=(BQ.out.lt R e.symm).1;omega)).trans e1;have:=e2.atOf;have:=Hb.atOf;omega
      rw [MG.out,Hb.atOf];omega
    ·have HN:=agC (EZ.out.fail HS.out (q0:=q) (fun _=>rfl) (fun h=>absurd Lm.out h) Ar)
     clear Ar AS Bh;go_wp2;go_ret;exact ⟨Bk.out,q1,Cn,CM.out, .inr ⟨rfl,HN.out⟩⟩
   ·have P4:(0:Int)<(ts.length:Int):=by omega
    go_wp2_with fail;refine (k8 44 (by decide) HX.out Ap.out BF.out hq).mono ?_;rintro e w4 ⟨rfl,AW,Bg⟩;have AV:=agC (aE AE.out AW);have Aw:=agC (bg Ap.out AW Ba);have Cd:=agC (j8 BY.out AW Bb);have JO:=agC (P3.out.grown AW Bb)
    cases hqm:isT tk q [44] with
    |false=>
     rw [hqm] at Bg
     replace Bg:RdAt w4 R s tv q o:=Bg
     have BJ:=agC Bg;have HN:=agC (EZ.out.comma (o:=o+1) HS.out Bo hqm);clear AW Bg hqm;go_wp2;go_ret;exact ⟨AV.out,q,hq,BJ.out, .inr ⟨rfl,HN.out⟩⟩
    |true=>
     rw [hqm,if_pos rfl] at Bg;have FR:=bG hqm;have BJ:=agC Bg;have RJ:=agC hqm;clear AW Bg hqm;go_wp2_with fail;refine (eH (p:=q+1) HX.out Aw.out BJ.out (by omega) ho (fun h wX k1 k2=>IH.out.choice (q+1) (o+1) wX k1 k2 (by omega) h (by omega))).mono ?_;rintro e w5 ⟨AS,q1,Cn,Bh,Am⟩;have Bk:=agC (aE AV.out AS);have CM:=agC Bh;have BQ:=agC (j8 Cd.out AS Bb);have MH:=agC (JO.out.grown AS Bb);have P5:w.heap.size≤w4.heap.size:=AV.out.size
     have Ha: ∀g,(Value.slice NG ts.length NH).ownBlock=some g→g<w4.heap.size:=fun g hg=>(Cd.out.lt g hg).2
     have Ke:=agC Ha;clear Ha
     rcases Am with ⟨M,a,n,rfl,ht,hd⟩|⟨rfl,Ar⟩
     ·have D9:=agC ht;have HD:=agC hd
      have Hq:=hd.nest;simp only at Hq
      have Kd:q+1<q1:=by
       have:=hd.le.1;obtain ⟨_,_,_,_,_,rfl,_⟩:=ht;simp only [GJob.held,List.length_nil,List.length_cons] at this;omega
      clear ht hd AS Bh
      go_wp2_with (at_builtin;refine wpList_append_lies _ rfl _ _ 194 rfl w.heap.size 192 i0 (.pointer none) 1 8 Tryz.underlying194 hi Az Ax AC rfl (by decide) (.slice NG ts.length NH) ts.length _ rfl (BQ.out.alloc _) ⟨w5.heap.size,0,none⟩ 1 1 [.pointer (some ⟨M,0,none⟩)] rfl rfl (World.news_of_block (cs:= #[.pointer (some ⟨M,0,none⟩)]) (t:=192) (fr:=(0,0)) (heap_alloc_new w5 _)) (by simp [Value.oneCell']) (by omega) (by unfold maxLen;omega) (by omega) (by have:=Bk.out.size;simp;omega) (w5.heap.size+1) (by simp) ?_;intro gg cap' w7 Ah Ac Bc ES;have EQ:=agC Ah;have FS:=agC Ac;have He:=agC Bc;clear Ah Ac Bc)
      have BV:=agC (SInv.more Bk.out Bb P5 BQ.out Ke.out MH.out CM.out Cn KC (by omega) hl J6 EZ.out HS.out (q0:=q+1) (fun h=>absurd h Bo) (fun _=>⟨RJ.out,rfl⟩) D9.out (by omega) HD.out _ FS.out He.out EQ.out);go_roundw
      case rel=>exact BV.out
      case measure=>
       obtain ⟨_,q',ts',K0,P9,Hb,_⟩:=BV.out
       have UH:q'=q1:=by
        have e1:=(CM.out.below ((Below.refl _ _).alloc (agD _) (.cells #[.pointer (some ⟨M,0,none⟩)] 192)));have e2:RdAt w7 R s tv q1 o:=(FS.out.block R (by have:=CM.out.lt;simp;omega) (fun e=>by have:=(BQ.out.lt R e.symm).1;omega)).trans e1;have:=e2.atOf;have:=Hb.atOf;omega
       rw [MG.out,Hb.atOf];omega
     ·have HN:=agC (EZ.out.fail HS.out (q0:=q+1) (fun h=>absurd h Bo) (fun _=>⟨RJ.out,rfl⟩) Ar)
      clear Ar AS Bh;go_wp2;go_ret;exact ⟨Bk.out,q1,Cn,CM.out, .inr ⟨rfl,HN.out⟩⟩
theorem ix (kd:Int) (s:ByteArray) (w:World):
  Calls Tryz.prog 207 #[.int .i64 kd, .string s, .slice none 0 0] w fun e w'=>Below w.heap.size w w'∧ ∃N,e= .returned (.pointer (some ⟨N,0,none⟩))∧RtB w' w.heap.size N [(kd,s,0)] 0:=by
 refine (gD kd s _ [] w.heap.size 0 [] w (agD _) (World.ownsRow_nil _ _ _ _) (by omega) (.nil _) (fun x hx=>by cases hx)).mono ?_;rintro e w' ⟨hb,N,he,ht⟩;exact ⟨hb,N,he,ht⟩
theorem mJ (s:ByteArray) (w:World) (hs:s.size≤2097152) (Al:Tab w):
  Calls Tryz.prog 241 #[.string s] w fun e w'=>Below w.heap.size w w'∧((∃N,e= .returned (.pointer (some ⟨N,0,none⟩))∧RtB w' w.heap.size N [(1,kB s,0)] 0∧iw s=true)∨(e= .returned (.pointer none)∧iw s=false)):=by
 have HD:=agC (lp s w (by omega));have HT:=agC Al;have HW:=agC (show kB s=⟨(aJ (opT (bu s.data.toList) (aW s.data.toList) (aX s.data.toList)) (opB (bu s.data.toList) (aW s.data.toList) (aX s.data.toList))).toArray⟩ from rfl);have HO:=agC (show iw s=fs (bu s.data.toList) (aW s.data.toList) (aX s.data.toList) from rfl);generalize opT (bu s.data.toList) (aW s.data.toList) (aX s.data.toList)=T at HD HW;generalize opB (bu s.data.toList) (aW s.data.toList) (aX s.data.toList)=B at HD HW;rw [HO.out,HW.out];generalize fs (bu s.data.toList) (aW s.data.toList) (aX s.data.toList)=ok at HD HO⊢;clear HW HO Al;have Kt:=agC (fun w' (h:Tab w')=>gO T B w' h);generalize (⟨(aJ T B).toArray⟩:ByteArray)=word at Kt⊢;have P6:=agC (fun w'=>ix 1 word w')
 cases ok with
 |true=>
  go_enter Tryz.func241,Tryz.ntmps241
  go_wp2_with fail;refine HD.out.mono ?_;rintro e w2 ⟨rfl,Ae⟩;have Ak:=agC Ae;have Ca:=agC (HT.out.keep Ae);clear Ae;unfold fr;have BR:=agC ((Below.refl w2.heap.size w2).alloc (agD _) (.cells #[.int .i64 T, .int .i64 B] 170));go_wp2_with fail;refine (Kt.out _ (Ca.out.al _)).mono ?_;rintro e w3 ⟨rfl,Ag⟩;have Ap:=agC (Ak.out.trans ((BR.out.trans (Ag.mono BR.out.size)).mono Ak.out.size));clear Ag;go_wp2_with fail;refine (P6.out _).mono ?_;rintro e w4 ⟨As,N,rfl,ht⟩;have Hs:=agC (ht.mono Ap.out.size);have Aw:=agC (Ap.out.trans (As.mono Ap.out.size));clear ht As;go_wp2;go_ret;exact ⟨Aw.out, .inl ⟨N,rfl,Hs.out,by trivial⟩⟩
 |false=>
  go_enter Tryz.func241,Tryz.ntmps241
  go_wp2_with fail;refine HD.out.mono ?_;rintro e w2 ⟨rfl,Ae⟩;have Ak:=agC Ae;clear Ae;unfold fr;go_wp2;go_ret;exact ⟨Ak.out.alloc Ak.out.size _, .inr ⟨rfl,by trivial⟩⟩
theorem oR (s:ByteArray) (w:World) (hs:s.size≤2097152):
  Calls Tryz.prog 242 #[.string s] w fun e w'=>Below w.heap.size w w'∧((∃N,e= .returned (.pointer (some ⟨N,0,none⟩))∧RtB w' w.heap.size N [(2,ga s,0)] 0∧bH s=true)∨(e= .returned (.pointer none)∧bH s=false)):=by
 have HD:=agC (mD s w (by unfold maxLen;omega));generalize ga s=word at HD⊢;generalize bH s=ok at HD⊢;have P6:=agC (fun w'=>ix 2 word w')
 cases ok with
 |true=>
  go_enter Tryz.func242,Tryz.ntmps242
  go_wp2_with fail;refine HD.out.mono ?_;rintro e w2 ⟨rfl,Ae⟩;have Ak:=agC Ae;clear Ae;go_wp2_with fail;refine (P6.out _).mono ?_;rintro e w3 ⟨Ag,N,rfl,ht⟩;have HT:=agC (ht.mono Ak.out.size);have Ap:=agC (Ak.out.trans (Ag.mono Ak.out.size));clear ht Ag;go_wp2;go_ret;exact ⟨Ap.out, .inl ⟨N,rfl,HT.out,by trivial⟩⟩
 |false=>
  go_enter Tryz.func242,Tryz.ntmps242
  go_wp2_with fail;refine HD.out.mono ?_;rintro e w2 ⟨rfl,Ae⟩;have Ak:=agC Ae;clear Ae;go_wp2;go_ret;exact ⟨Ak.out, .inr ⟨rfl,by trivial⟩⟩
theorem acW {tk:List Tk} {p o:Nat} {s:ByteArray} (h1:tk[p]? =some (1,s)) (h2:s.data.toList≠b7) (h3:s.data.toList≠bE) (h4:isT tk (p+1) [40]=true) (h:NoG tk (.series [41] 0 [] 0) (p+2) (o+1)):NoG tk .single p o:=by
 intro c q m n k
 cases k with
 |call k1 k2 k3 k4 k5=>have:=h _ _ _ _ k5;omega
 |truth k1 k2=>have e:=aU h1 k1;simp only [Prod.mk.injEq,true_and] at e;subst e;rcases k2 with k2|k2;exact (h2 k2).elim;exact (h3 k2).elim
 |name k1 k2 k3 k4=>exact (tf' h4 k4).elim
 |paren k1 k2 k3=>exact (tf' k1 (bB h1 (by decide))).elim
 |list k1 k2=>exact (tf' k1 (bB h1 (by decide))).elim
 |_ k1=>have e:=aU h1 (by assumption);simp at e
theorem uk {w1:World} {R:Nat} {s:ByteArray} {tv:Value} {L:List (Int×Nat×Nat)} {tk:List Tk} {N:Nat} (hx:Cx w1 R s tv L tk) (ih:AllG w1 R s tv tk N) (wd:ByteArray) (p o:Nat) (w:World) (hb:Below w1.heap.size w1 w) (hr:RdAt w R s tv (p+1) o) (hp:p<tk.length) (C4:tk[p]? =some (1,wd)) (ho:o≤40) (hN:10*(tk.length-p)≤N+1):
  Calls Tryz.prog 243 #[.pointer (some ⟨R,0,none⟩), .string wd] w (lR R s tv tk .single p o 0 w):=by
 have HB:=agC hb;have HX:=agC hx;have IH:=agC ih;have HR:=agC hr;have Cz:=agC C4
 have AN:tk.length≤20000:=by rw [hx.length];exact hx.len
 have Ba:=hx.low;have Bb:=hr.lt;clear hr hb hx ih C4
 by_cases ht:wd.data.toList=b7
 ·have e1:(wd.toList==b7)=true:=dR ht
  unfold b7 at e1;have HD:=agC (Rg.truth Cz.out (.inl ht));clear ht
  go_enter Tryz.func243,Tryz.ntmps243
  go_wp2_with fail;refine (ix 3 wd _).mono ?_;rintro e w2 ⟨Ae,K,rfl,ht2⟩;have EL:=agC (HR.out.below Ae);have Bi:=agC (bz Ae (some R));have Ca:=agC ht2;clear Ae ht2;go_wp2;go_ret;exact ⟨Bi.out,p+1,hp,EL.out, .inl ⟨K,_,0,rfl,Ca.out,HD.out⟩⟩
 by_cases hf:wd.data.toList=bE
 ·have e1:(wd.toList==b7)=false:=dg ht
  have e2:(wd.toList==bE)=true:=dR hf;unfold b7 at e1;unfold bE at e2;have HD:=agC (Rg.truth Cz.out (.inr hf));clear ht hf
  go_enter Tryz.func243,Tryz.ntmps243
  go_wp2_with fail;refine (ix 3 wd _).mono ?_;rintro e w2 ⟨Ae,K,rfl,ht2⟩;have EL:=agC (HR.out.below Ae);have Bi:=agC (bz Ae (some R));have Ca:=agC ht2;clear Ae ht2;go_wp2;go_ret;exact ⟨Bi.out,p+1,hp,EL.out, .inl ⟨K,_,0,rfl,Ca.out,HD.out⟩⟩
 ·have e1:(wd.toList==b7)=false:=dg ht
  have e2:(wd.toList==bE)=false:=dg hf;unfold b7 at e1;unfold bE at e2;have P7:=agC ht;have P8:=agC hf;clear ht hf
  go_enter Tryz.func243,Tryz.ntmps243
  go_wp2_with fail;refine (k8 40 (by decide) HX.out HB.out HR.out hp).mono ?_;rintro e w3 ⟨rfl,AF,AR⟩;have AE:=agC AF;have Ap:=agC (bg HB.out AF Ba)
  cases hq:isT tk (p+1) [40] with
  |true=>
   rw [hq,if_pos rfl] at AR;have FR:=bG hq;have BF:=agC AR;have HQ:=agC hq;clear AF AR hq;go_wp2_with fail;refine (lS HX.out IH.out 6 wd 41 (by decide) (p+2) o w3 Ap.out BF.out (by omega) ho (by omega)).mono ?_;rintro e w4 ⟨AW,q,hq,Bg,Am⟩;have AV:=agC (aE AE.out AW);have BJ:=agC Bg;have BZ:w.heap.size≤w3.heap.size:=AE.out.size
   rcases Am with ⟨K,l,m,n,rfl,ht,hd⟩|⟨rfl,Ar⟩
   ·have HT:=agC (ht.mono BZ)
    have HD:=agC (Rg.call Cz.out P7.out P8.out HQ.out hd);clear ht hd AW Bg;go_wp2;go_ret;exact ⟨AV.out,q,hq,BJ.out, .inl ⟨K,_,_,rfl,HT.out,HD.out⟩⟩
   ·have HN:=agC (acW Cz.out P7.out P8.out HQ.out Ar)
    clear Ar AW Bg;go_wp2;go_ret;exact ⟨AV.out,q,hq,BJ.out, .inr ⟨rfl,HN.out⟩⟩
  |false=>
   rw [hq] at AR
   replace AR:RdAt w3 R s tv (p+1) o:=AR
   have BF:=agC AR;have HQ:=agC hq;have HD:=agC (Rg.name Cz.out P7.out P8.out hq);have BZ:w.heap.size≤w3.heap.size:=AE.out.size;clear AF AR hq;go_wp2_with fail;refine (ix 4 wd _).mono ?_;rintro e w4 ⟨As,K,rfl,RM⟩;have BJ:=agC (BF.out.below As);have AV:=agC (aE AE.out (bz As (some R)));have FJ:=agC (RM.mono BZ);clear As RM;go_wp2;go_ret;exact ⟨AV.out,p+1,hp,BJ.out, .inl ⟨K,_,0,rfl,FJ.out,HD.out⟩⟩
theorem aez {tk:List Tk} {p o:Nat} (h:tk[p]? =none):NoG tk .single p o:=by
 intro c q m n k
 have Ar: ∀w,isT tk p w=false:=fun w=>by unfold isT;rw [h]
 cases k with
 |paren k1 k2 k3=>exact (tf' k1 (Ar _)).elim
 |list k1 k2=>exact (tf' k1 (Ar _)).elim
 |_ k1=>rename_i h1;first|(rw [h] at k1;cases k1;done)|(simp_all;done)
theorem acX {tk:List Tk} {p o:Nat} {k:Int} {s:ByteArray} (h:tk[p]? =some (k,s)) (hk:k=4) (h1:isT tk p [40]=false) (h2:isT tk p [91]=false):NoG tk .single p o:=by
 intro c q m n z;subst hk
 cases z with
 |paren k1 k2 k3=>exact (tf' k1 h1).elim
 |list k1 k2=>exact (tf' k1 h2).elim
 |num k1 k2=>have e:=aU h k1;simp at e
 |text k1 k2=>have e:=aU h k1;simp at e
 |truth k1 k2=>have e:=aU h k1;simp at e
 |name k1 k2 k3 k4=>have e:=aU h k1;simp at e
 |call k1 k2 k3 k4 k5=>have e:=aU h k1;simp at e
theorem aeA {tk:List Tk} {p o:Nat} {s:ByteArray} (h:tk[p]? =some (2,s)) (hn:iw s=false):NoG tk .single p o:=by
 intro c q m n z
 cases z with
 |paren k1 k2 k3=>exact (tf' k1 (bB h (by decide))).elim
 |list k1 k2=>exact (tf' k1 (bB h (by decide))).elim
 |num k1 k2=>have e:=aU h k1;simp only [Prod.mk.injEq,true_and] at e;subst e;exact (tf' k2 hn).elim
 |text k1 k2=>have e:=aU h k1;simp at e
 |truth k1 k2=>have e:=aU h k1;simp at e
 |name k1 k2 k3 k4=>have e:=aU h k1;simp at e
 |call k1 k2 k3 k4 k5=>have e:=aU h k1;simp at e
theorem acY {tk:List Tk} {p o:Nat} {s:ByteArray} (h:tk[p]? =some (3,s)) (hn:bH s=false):NoG tk .single p o:=by
 intro c q m n z
 cases z with
 |paren k1 k2 k3=>exact (tf' k1 (bB h (by decide))).elim
 |list k1 k2=>exact (tf' k1 (bB h (by decide))).elim
 |num k1 k2=>have e:=aU h k1;simp at e
 |text k1 k2=>have e:=aU h k1;simp only [Prod.mk.injEq,true_and] at e;subst e;exact (tf' k2 hn).elim
 |truth k1 k2=>have e:=aU h k1;simp at e
 |name k1 k2 k3 k4=>have e:=aU h k1;simp at e
 |call k1 k2 k3 k4 k5=>have e:=aU h k1;simp at e
theorem acZ {tk:List Tk} {p o:Nat} (h:isT tk p [91]=true) (hn:NoG tk (.series [93] 0 [] 0) (p+1) (o+1)):NoG tk .single p o:=by
 intro c q m n z
 cases z with
 |paren k1 k2 k3=>have:=np h k1;simp at this
 |list k1 k2=>have:=hn _ _ _ _ k2;omega
 |num k1 k2=>exact (tf' h (bB k1 (by decide))).elim
 |text k1 k2=>exact (tf' h (bB k1 (by decide))).elim
 |truth k1 k2=>exact (tf' h (bB k1 (by decide))).elim
 |name k1 k2 k3 k4=>exact (tf' h (bB k1 (by decide))).elim
 |call k1 k2 k3 k4 k5=>exact (tf' h (bB k1 (by decide))).elim
theorem qx {tk:List Tk} {p o:Nat} (h:isT tk p [40]=true) (hn: ∀a q m n,Rg tk .choice (p+1) a q m n→isT tk q [41]=true→40<o+1+n):NoG tk .single p o:=by
 intro c q m n z
 cases z with
 |paren k1 k2 k3=>have:=hn _ _ _ _ k2 k3;omega
 |list k1 k2=>have:=np h k1;simp at this
 |num k1 k2=>exact (tf' h (bB k1 (by decide))).elim
 |text k1 k2=>exact (tf' h (bB k1 (by decide))).elim
 |truth k1 k2=>exact (tf' h (bB k1 (by decide))).elim
 |name k1 k2 k3 k4=>exact (tf' h (bB k1 (by decide))).elim
 |call k1 k2 k3 k4 k5=>exact (tf' h (bB k1 (by decide))).elim
theorem rE {w1:World} {R:Nat} {s:ByteArray} {tv:Value} {L:List (Int×Nat×Nat)} {tk:List Tk} {N:Nat} (Al:Tab w1) (hx:Cx w1 R s tv L tk) (ih:AllG w1 R s tv tk N) (p o:Nat) (w:World) (hb:Below w1.heap.size w1 w) (hr:RdAt w R s tv p o) (hp:p≤tk.length) (ho:o≤40) (hN:10*(tk.length-p)+2≤N+1):
  Calls Tryz.prog 237 #[.pointer (some ⟨R,0,none⟩)] w (lR R s tv tk .single p o 0 w):=by
 have BV:=agC (mH hx hb hr hp);have HB:=agC hb;have HX:=agC hx;have IH:=agC ih;have HR:=agC hr;have JX:=agC Al
 have AN:tk.length≤20000:=by rw [hx.length];exact hx.len
 have Ba:=hx.low;have Bb:=hr.lt
 by_cases Ab:p<tk.length
 ·obtain ⟨k,wd,C4,CB,Ay,hwz⟩:=hx.at Ab
  rw [rz C4] at BV;have Cz:=agC C4;have NC:=agC (oO hx.sig p (b:=40) (t:=[]) (by decide));have ND:=agC (oO hx.sig p (b:=91) (t:=[]) (by decide));rw [rz C4] at NC ND;clear hr hb hx ih C4 Al
  have key: ∃(Bo:((k==0)=false)),True:=⟨beq_eq_false_iff_ne.mpr (by omega),trivial⟩
  obtain ⟨Bo,-⟩:=key;simp only at BV NC ND
  have HA:=agC (show∀w2,Below w.heap.size w w2→RdAt (w2.setCell ⟨R,2,none⟩ (.int .i64 ((p:Int)+1))) R s tv (p+1) o∧w.grownBy (w2.setCell ⟨R,2,none⟩ (.int .i64 ((p:Int)+1))) (some R) from fun w2 Ae=>by
   have h1:=(HR.out.below Ae).at_ (p+1);have h2:=aE (bz Ae (some R)) (dY w2 R 2 (.int .i64 ((p+1:Nat):Int)));rw [show ((p+1:Nat):Int)=(p:Int)+1 by omega] at h1 h2
   exact ⟨h1,h2⟩)
  by_cases h2:k=2
  ·subst h2
   go_enter Tryz.func237,Tryz.ntmps237
   go_wp2_with fail;refine BV.out.mono ?_;rintro e w2 ⟨rfl,Ae⟩;obtain ⟨a1,a2⟩:=HA.out w2 Ae;have BF:=agC a1;have AE:=agC a2;have Ap:=agC (bg HB.out a2 Ba);obtain ⟨⟨q0,q1,q2,q3⟩,f2,f3⟩:=(HR.out.below Ae).cells;clear a1 a2 Ae;go_wp2_with fail;refine (mJ wd _ hwz (JX.out.keep Ap.out)).mono ?_;rintro e w4 ⟨As,⟨K,rfl,ht,Aj⟩|⟨rfl,Ar⟩⟩
   ·have HT:=agC (ht.mono AE.out.size);have HD:=agC (Rg.num Cz.out Aj)
    have BJ:=agC (BF.out.below As);have AV:=agC (aE AE.out (bz As (some R)));clear ht As;go_wp2;go_ret;exact ⟨AV.out,p+1,Ab,BJ.out, .inl ⟨K,_,0,rfl,HT.out,HD.out⟩⟩
   ·have HN:=agC (aeA (o:=o) Cz.out Ar)
    have BJ:=agC (BF.out.below As);have AV:=agC (aE AE.out (bz As (some R)));clear As;go_wp2;go_ret;exact ⟨AV.out,p+1,Ab,BJ.out, .inr ⟨rfl,HN.out⟩⟩
  by_cases h3:k=3
  ·subst h3
   go_enter Tryz.func237,Tryz.ntmps237
   go_wp2_with fail;refine BV.out.mono ?_;rintro e w2 ⟨rfl,Ae⟩;obtain ⟨a1,a2⟩:=HA.out w2 Ae;have BF:=agC a1;have AE:=agC a2;obtain ⟨⟨q0,q1,q2,q3⟩,f2,f3⟩:=(HR.out.below Ae).cells;clear a1 a2 Ae;go_wp2_with fail;refine (oR wd _ hwz).mono ?_;rintro e w4 ⟨As,⟨K,rfl,ht,Aj⟩|⟨rfl,Ar⟩⟩
   ·have HT:=agC (ht.mono AE.out.size);have HD:=agC (Rg.text Cz.out Aj)
    have BJ:=agC (BF.out.below As);have AV:=agC (aE AE.out (bz As (some R)));clear ht As;go_wp2;go_ret;exact ⟨AV.out,p+1,Ab,BJ.out, .inl ⟨K,_,0,rfl,HT.out,HD.out⟩⟩
   ·have HN:=agC (acY (o:=o) Cz.out Ar)
    have BJ:=agC (BF.out.below As);have AV:=agC (aE AE.out (bz As (some R)));clear As;go_wp2;go_ret;exact ⟨AV.out,p+1,Ab,BJ.out, .inr ⟨rfl,HN.out⟩⟩
  by_cases h1:k=1
  ·subst h1
   go_enter Tryz.func237,Tryz.ntmps237
   go_wp2_with fail;refine BV.out.mono ?_;rintro e w2 ⟨rfl,Ae⟩;obtain ⟨a1,a2⟩:=HA.out w2 Ae;have BF:=agC a1;have AE:=agC a2;have Ap:=agC (bg HB.out a2 Ba);obtain ⟨⟨q0,q1,q2,q3⟩,f2,f3⟩:=(HR.out.below Ae).cells;clear a1 a2 Ae;go_wp2_with fail;refine (uk HX.out IH.out wd p o _ Ap.out BF.out Ab Cz.out ho (by omega)).mono ?_;rintro e w4 ⟨AW,q,hq,Bg,Am⟩;have AV:=agC (aE AE.out AW);have BJ:=agC Bg
   rcases Am with ⟨K,c,n,rfl,ht,hd⟩|⟨rfl,Ar⟩
   ·have HT:=agC (ht.mono AE.out.size);have HD:=agC hd
    clear ht hd AW Bg;go_wp2;go_ret;exact ⟨AV.out,q,hq,BJ.out, .inl ⟨K,_,_,rfl,HT.out,HD.out⟩⟩
   ·have HN:=agC Ar
    clear Ar AW Bg;go_wp2;go_ret;exact ⟨AV.out,q,hq,BJ.out, .inr ⟨rfl,HN.out⟩⟩
  obtain rfl:k=4:=by omega
  clear h1 h2 h3 CB Ay
  by_cases h91:wd.data.toList=[91]
  ·have e1:(wd.toList==[91])=true:=dR h91
   have HI:=agC (ND.out.mp h91);clear h91
   go_enter Tryz.func237,Tryz.ntmps237
   go_wp2_with fail;refine BV.out.mono ?_;rintro e w2 ⟨rfl,Ae⟩;obtain ⟨a1,a2⟩:=HA.out w2 Ae;have BF:=agC a1;have AE:=agC a2;have Ap:=agC (bg HB.out a2 Ba);obtain ⟨⟨q0,q1,q2,q3⟩,f2,f3⟩:=(HR.out.below Ae).cells;clear a1 a2 Ae;go_wp2_with fail;refine (lS HX.out IH.out 5 ⟨#[]⟩ 93 (by decide) (p+1) o _ Ap.out BF.out Ab ho (by omega)).mono ?_;rintro e w4 ⟨AW,q,hq,Bg,Am⟩;have AV:=agC (aE AE.out AW);have BJ:=agC Bg
   rcases Am with ⟨K,l,m,n,rfl,ht,hd⟩|⟨rfl,Ar⟩
   ·have HT:=agC (ht.mono AE.out.size);have HD:=agC (Rg.list HI.out hd)
    clear ht hd AW Bg;go_wp2;go_ret;exact ⟨AV.out,q,hq,BJ.out, .inl ⟨K,_,_,rfl,HT.out,HD.out⟩⟩
   ·have HN:=agC (acZ HI.out Ar)
    clear Ar AW Bg;go_wp2;go_ret;exact ⟨AV.out,q,hq,BJ.out, .inr ⟨rfl,HN.out⟩⟩
  by_cases DA:wd.data.toList=[40]
  ·have e1:(wd.toList==[91])=false:=dg h91
   have e2:(wd.toList==[40])=true:=dR DA;have HI:=agC (NC.out.mp DA);clear h91 DA
   go_enter Tryz.func237,Tryz.ntmps237
   go_wp2_with fail;refine BV.out.mono ?_;rintro e w2 ⟨rfl,Ae⟩;obtain ⟨a1,a2⟩:=HA.out w2 Ae;have BF:=agC a1;have AE:=agC a2;have Ap:=agC (bg HB.out a2 Ba);obtain ⟨⟨q0,q1,q2,q3⟩,f2,f3⟩:=(HR.out.below Ae).cells;clear a1 a2 Ae;go_wp2_with fail;refine (eH (p:=p+1) HX.out Ap.out BF.out Ab ho (fun h wX k1 k2=>IH.out.choice (p+1) (o+1) wX k1 k2 Ab h (by omega))).mono ?_;rintro e w4 ⟨AW,q,hq,Bg,Am⟩;have AV:=agC (aE AE.out AW);have BJ:=agC Bg;have Aw:=agC (bg Ap.out AW Ba)
   rcases Am with ⟨M,c,n,rfl,ht,hd⟩|⟨rfl,Ar⟩
   ·have FJ:=agC (ht.mono AE.out.size);have HD:=agC hd
    have hn:=hd.nest;simp only at hn;clear ht hd AW Bg;go_wp2_with fail;refine (k8 41 (by decide) HX.out Aw.out BJ.out hq).mono ?_;rintro e w5 ⟨rfl,AS,Bh⟩;have Bk:=agC (aE AV.out AS);have D9:=agC (FJ.out.grown AS Bb)
    cases hq41:isT tk q [41] with
    |true=>
     rw [hq41,if_pos rfl] at Bh;have FR:=bG hq41;have CM:=agC Bh;have EX:=agC (Rg.paren HI.out HD.out hq41);clear AS Bh hq41;go_wp2_with fail;refine (gR _ w.heap.size M n _ D9.out (by omega)).mono ?_;rintro e w6 ⟨rfl,rfl⟩;have Kb:=agC (D9.out.set (n+1));have Kc:=D9.out.lt.1;have CV:=agC (j7 Bk.out Kc 4 (.int .i64 ((n+1:Nat):Int)));have Hm:=agC (show RdAt (w5.setCell ⟨M,4,none⟩ (.int .i64 ((n+1:Nat):Int))) R s tv (q+1) o from (Below.heap_setCell _ _ _ _ (by show R≠M;omega)).trans CM.out);go_wp2;go_ret;exact ⟨CV.out,q+1,by omega,Hm.out, .inl ⟨M,_,_,rfl,Kb.out,EX.out⟩⟩
    |false=>
     rw [hq41] at Bh
     replace Bh:RdAt w5 R s tv q o:=Bh
     have CM:=agC Bh
     have HN:=agC (qx (o:=o) HI.out (fun a q' m' n' z1 z2=>by
      obtain ⟨rfl,rfl,-,-⟩:=HD.out.uniq z1
      exact (tf' z2 hq41).elim))
     clear AS Bh hq41;go_wp2;go_ret;exact ⟨Bk.out,q,hq,CM.out, .inr ⟨rfl,HN.out⟩⟩
   ·have HN:=agC (qx (o:=o) HI.out (fun a q' m' n' z1 z2=>Ar _ _ _ _ z1))
    clear Ar AW Bg;go_wp2_with fail;refine (k8 41 (by decide) HX.out Aw.out BJ.out hq).mono ?_;rintro e w5 ⟨rfl,AS,Bh⟩;have Bk:=agC (aE AV.out AS)
    cases hq41:isT tk q [41] with
    |true=>
     rw [hq41,if_pos rfl] at Bh;have FR:=bG hq41;have CM:=agC Bh;clear AS Bh hq41;go_wp2_with fail;refine (k9 _).mono ?_;rintro e w6 ⟨rfl,rfl⟩;go_wp2;go_ret;exact ⟨Bk.out,q+1,by omega,CM.out, .inr ⟨rfl,HN.out⟩⟩
    |false=>
     rw [hq41] at Bh
     replace Bh:RdAt w5 R s tv q o:=Bh
     have CM:=agC Bh;clear AS Bh hq41;go_wp2;go_ret;exact ⟨Bk.out,q,hq,CM.out, .inr ⟨rfl,HN.out⟩⟩
  ·have e1:(wd.toList==[91])=false:=dg h91
   have e2:(wd.toList==[40])=false:=dg DA
   have i1:isT tk p [40]=false:=by
    cases h:isT tk p [40] with
    |false=>rfl
    |true=>exact absurd (NC.out.mpr h) DA
   have i2:isT tk p [91]=false:=by
    cases h:isT tk p [91] with
    |false=>rfl
    |true=>exact absurd (ND.out.mpr h) h91
   have HN:=agC (acX (o:=o) Cz.out rfl i1 i2);clear h91 DA i1 i2
   go_enter Tryz.func237,Tryz.ntmps237
   go_wp2_with fail;refine BV.out.mono ?_;rintro e w2 ⟨rfl,Ae⟩;obtain ⟨a1,a2⟩:=HA.out w2 Ae;have BF:=agC a1;have AE:=agC a2;obtain ⟨⟨q0,q1,q2,q3⟩,f2,f3⟩:=(HR.out.below Ae).cells;clear a1 a2 Ae;go_wp2;go_ret;exact ⟨AE.out,p+1,Ab,BF.out, .inr ⟨rfl,HN.out⟩⟩
 ·have Jc:tk[p]? =none:=List.getElem?_eq_none (by omega)
  have HN:=agC (aez (o:=o) Jc);rw [ye (by omega)] at BV;simp only at BV;clear hr hb hx ih Al Jc
  go_enter Tryz.func237,Tryz.ntmps237
  go_wp2_with fail;refine BV.out.mono ?_;rintro e w2 ⟨rfl,Ae⟩;have EL:=agC (HR.out.below Ae);have Bi:=agC (bz Ae (some R));clear Ae;go_wp2;go_ret;exact ⟨Bi.out,p,hp,EL.out, .inr ⟨rfl,HN.out⟩⟩
theorem agA {w1:World} {R:Nat} {s:ByteArray} {tv:Value} {L:List (Int×Nat×Nat)} {tk:List Tk} (Al:Tab w1) (hx:Cx w1 R s tv L tk): ∀N,AllG w1 R s tv tk N:=by
 intro N
 induction N with
 |zero=>exact ⟨fun p o w _ _ _ _ h=>by omega,fun r p o w _ _ _ _ _ _ h=>by omega,fun p o w _ _ _ _ h=>by omega,fun p o w _ _ _ _ h=>by omega⟩
 |succ N ih=>
  exact ⟨fun p o w a b c d h=>rD hx ih p o w a b c d h,fun r p o w x y a b c d h=>aap hx ih r p o w x y a b c d h,fun p o w a b c d h=>ui hx ih p o w a b c d h,fun p o w a b c d h=>rE Al hx ih p o w a b c d h⟩
theorem TrB.inv {w:World} {lo hi N:Nat} {c:List Cl} (h:TrB w lo hi [N] c): ∃(k n:Int) (s:ByteArray) (v:Value) (qs:List Nat) (c1:List Cl),c=(k,s,(qs.length:Int))::c1∧BlkB w N #[.int .i64 k, .string s, .int .i64 (qs.length:Int),v, .int .i64 n]∧w.ownsRow lo 192 1 v qs.length (ef qs)∧TrB w lo N qs c1:=by
 cases h with
 | @cons _ _ k n s v qs _ c1 c2 h1 h2 hb ho hr t1 t2=>
  cases t2
  exact ⟨k,n,s,v,qs,c1,by rw [List.append_nil],hb,ho,t1⟩
theorem TrB.inv2 {w:World} {lo hi N:Nat} {ps:List Nat} {c:List Cl} (h:TrB w lo hi (N::ps) c): ∃d e,c=d++e∧TrB w lo hi [N] d∧TrB w lo hi ps e:=by
 cases h with
 | @cons _ _ k n s v qs _ c1 c2 h1 h2 hb ho hr t1 t2=>
  refine ⟨(k,s,(qs.length:Int))::c1,c2,rfl, ?_,t2⟩;have:=TrB.cons h1 h2 hb ho hr t1 (.nil hi)
  rwa [List.append_nil] at this
theorem TrB.inv0 {w:World} {lo hi:Nat} {c:List Cl} (h:TrB w lo hi [] c):c=[]:=by cases h;rfl
theorem ac1 {w:World} {lo m:Nat} {v:Value} {qs:List Nat} (ho:w.ownsRow lo 192 1 v m (ef qs)):
  ∃ao cap,v= .slice ao qs.length cap∧qs.length≤cap∧cap≤maxLen∧(qs=[]∨ ∃b,ao=some ⟨b,0,none⟩∧b<w.heap.size∧ ∀k (h:k<qs.length),w.cell? ⟨b,k,none⟩=some (.pointer (some ⟨qs[k],0,none⟩))):=by
 have hl:qs.length=m:=by have:=ho.1;rw [ju] at this;omega
 subst hl
 rcases ho.2 with ⟨rfl,h0⟩|⟨g,cap,cur,rfl,hg,hh,h1,h2,_⟩
 ·exact ⟨none,0,by rw [h0],by omega,by unfold maxLen;omega, .inl (List.length_eq_zero_iff.mp h0)⟩
 ·refine ⟨_,cap,rfl,h1,h2, .inr ⟨g,rfl,(ho.lt g rfl).2,fun k hk=> ?_⟩⟩
  rw [ho.cellAt k (by omega)];exact qY qs k hk
def Appd (B:Nat) (l:List Cl) (w1:World) (e:Ending) (w':World):Prop:= ∃v',e= .returned v'∧w'.ownsRow B 110 3 v' l.length (ai l)∧Below B w1 w'
theorem rF (w1:World) (lo:Nat) (j:Nat): ∀(hi N:Nat) (c l:List Cl) (v:Value) (w:World),TrB w1 lo hi [N] c→c.length≤j→l.length+c.length≤60000→Below w1.heap.size w1 w→w.ownsRow w1.heap.size 110 3 v l.length (ai l)→
  Calls Tryz.prog 187 #[.pointer (some ⟨N,0,none⟩),v] w (Appd w1.heap.size (l++c) w1):=by
 induction j with
 |zero=>
  intro hi N c l v w ht hj;obtain ⟨k,n,s,v1,qs,c1,rfl,-⟩:=ht.inv
  simp at hj
 |succ j ih=>
  intro hi N c l v w ht hj Ai hb ho;obtain ⟨k,n,s,v1,qs,c1,rfl,hN,RN,t1⟩:=ht.inv;obtain ⟨i0,Fp,Az,Ax,AC⟩:=info_parts f5;obtain ⟨ao,cap,rfl,g1,g2,g3⟩:=ac1 RN;unfold maxLen at g2;have NF:=hN.lt;have n0:w.cell? ⟨N,0,none⟩=some (.int .i64 k):=(hb.cell (p:=⟨N,0,none⟩) NF).trans (hN.cell 0);have n1:w.cell? ⟨N,1,none⟩=some (.string s):=(hb.cell (p:=⟨N,1,none⟩) NF).trans (hN.cell 1);have n2:w.cell? ⟨N,2,none⟩=some (.int .i64 (qs.length:Int)):=(hb.cell (p:=⟨N,2,none⟩) NF).trans (hN.cell 2);have UI:=agC (show w1.cell? ⟨N,3,none⟩=some (.slice ao qs.length cap) from hN.cell 3);have AE:=agC g3;have GN:=agC t1;have Di:=agC ih;have HB:=agC hb;have HO:=agC ho;simp only [List.length_cons] at hj Ai;clear g3 t1 ih hb ht hN RN ho;have Ga:=HB.out.size
  go_enter Tryz.func187,Tryz.ntmps187
  go_wp2_with (at_builtin;refine wpList_append_own _ rfl _ _ 30 rfl w1.heap.size 110 i0 _ 3 32 Tryz.underlying30 Fp Az Ax AC rfl (by decide) v l.length _ rfl (HO.out.alloc _) ⟨w.heap.size,0,none⟩ 1 1 [.int .i64 k, .string s, .int .i64 (qs.length:Int)] rfl rfl ?c1 ?c2 ?c3 ?c4 ?c5 ?_)
  case c1=>
   intro i u hi
   match i,hi with
   |0,hi=>simp at hi;subst hi;simp [Addr.add]
   |1,hi=>simp at hi;subst hi;simp [Addr.add]
   |2,hi=>simp at hi;subst hi;simp [Addr.add]
  case c2=>intro u hu;simp at hu;rcases hu with rfl|rfl|rfl<;>rfl
  case c3=>unfold maxLen;omega
  case c4=>omega
  case c5=>simp;omega
  intro v5 w5 Bw AD _
  have BQ:=agC (show w5.ownsRow w1.heap.size 110 3 v5 (l++[(k,s,(qs.length:Int))]).length (ai (l++[(k,s,(qs.length:Int))])) by
   rw [agE,dt];exact Bw)
  have AQ:=agC ((HB.out.alloc Ga _).grown AD (by simp;omega) (fun r hr=>(HO.out.lt r hr).1));have n3:w5.cell? ⟨N,3,none⟩=some (.slice ao qs.length cap):=(AQ.out.cell (p:=⟨N,3,none⟩) NF).trans UI.out;clear Bw AD n0 n1 n2;go_wp2_with fail
  go_loopw [1,19] (fun lv i wr=> ∃(q:Nat) (c0 c2:List Cl),q≤qs.length∧i= .int .i64 (q:Int)∧c1=c0++c2∧TrB w1 lo N (qs.drop q) c2∧wr.ownsRow w1.heap.size 110 3 lv (l++(k,s,(qs.length:Int))::c0).length (ai (l++(k,s,(qs.length:Int))::c0))∧Below w1.heap.size w1 wr) (fun _ i _=>qs.length-(intOf i).toNat)
  case atStart=>exact ⟨0,[],c1,agH _,rfl,rfl,GN.out,BQ.out,AQ.out⟩
  case round=>
   obtain ⟨q,c0,c2,hq,rfl,hc,ht,ho,hb⟩:=hrel;have HT:=agC ht;have HO:=agC ho;have HB:=agC hb;have HC:=agC hc
   by_cases Ab:q<qs.length
   ·obtain ⟨b,rfl,Av,cc⟩:=AE.out.resolve_left (by rintro rfl;simp at Ab)
    have d1:wr.cell? ⟨b,q,none⟩=_:=(hb.cell (p:=⟨b,q,none⟩) Av).trans (cc q Ab);rw [List.drop_eq_getElem_cons Ab] at ht;obtain ⟨d,e2,rfl,hd,he⟩:=ht.inv2
    have NL:c1.length=c0.length+(d.length+e2.length):=by rw [hc];simp
    have C5:=agC (Di.out N qs[q] d (l++(k,s,(qs.length:Int))::c0) _ wr hd (by omega) (by simp only [agE,List.length_cons];omega) hb ho);have HE:=agC he;clear cc ht ho hb hc hd he;go_wp2_with fail;refine C5.out.mono ?_;rintro e w7 ⟨v7,rfl,Kx,BK⟩;have EQ:=agC Kx;have Em:=agC BK;clear Kx BK;go_wp2;go_roundw
    case rel=>exact ⟨q+1,c0++d,e2,by omega,by go_num,by rw [HC.out,List.append_assoc],HE.out,by have:=EQ.out;simpa using this,Em.out⟩
    case measure=>simp [intOf];omega
   ·obtain rfl:q=qs.length:=by omega
    have DS:c2=[]:=by
     have:=HT.out;rw [List.drop_length] at this;exact this.inv0
    have Oa:=agC (show c1=c0 by rw [HC.out,DS,List.append_nil]);clear ht ho hb hc DS;go_wp2;go_ret;exact ⟨_,rfl,by rw [Oa.out];exact HO.out,HB.out⟩
end Go.Proofs.YtegdjjjpoahamaaGreatDoor
