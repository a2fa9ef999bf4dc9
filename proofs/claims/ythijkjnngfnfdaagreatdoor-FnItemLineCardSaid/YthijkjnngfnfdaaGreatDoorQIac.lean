/-
  Part of the proof of FnItemLine.
-/
import Derived.Test.YthijkjnngfnfdaaGreatDoorQIaa
set_option linter.unusedVariables false
namespace Go.Proofs.YthijkjnngfnfdaaGreatDoor
inductive Job
 |choice
 |level (r:Nat)
 |loop (r many:Nat) (a:List Cl)
 |unary
 |atom
 |parts (close:List UInt8) (many:Nat) (out:List Cl)
inductive Rs (tk:List Tk):Job→Nat→Nat→List Cl→Nat→Nat→Prop
 |one {p d a q m}:d+1≤41→Rs tk (.level 2) p (d+1) a q m→isT tk q [63]=false→Rs tk .choice p d a q 0
 |three {p d a q m b q2 m2 c q3 m3}:d+1≤41→Rs tk (.level 2) p (d+1) a q m→isT tk q [63]=true→Rs tk .choice (q+1) (d+1) b q2 m2→isT tk q2 [58]=true→Rs tk .choice (q2+1) (d+1) c q3 m3→
   Rs tk .choice p d ((9,⟨#[]⟩,3)::(a++(b++c))) q3 0
 |seven {p d a q m}:Rs tk .unary p d a q m→Rs tk (.level 7) p d a q 0
 |level {r p d a q m c q2 m2}:r<7→Rs tk (.level (r+1)) p d a q m→Rs tk (.loop r 0 a) q d c q2 m2→Rs tk (.level r) p d c q2 0
 |stop {r n:Nat} {a:List Cl} {p d:Nat}:(rkT tk p≠(r:Int)∨(r=4∧n≠0))→Rs tk (.loop r n a) p d a p 0
 |more {r n:Nat} {a:List Cl} {p d:Nat} {s:ByteArray} {b:List Cl} {q m:Nat} {c:List Cl} {q2 m2:Nat}:rkT tk p=(r:Int)→(r≠4∨n=0)→tk[p]? =some (4,s)→Rs tk (.level (r+1)) (p+1) d b q m→Rs tk (.loop r (n+1) ((8,s,2)::(a++b))) q d c q2 m2→Rs tk (.loop r n a) p d c q2 0
 |sign {p d s a q m}:unaryT tk p=true→tk[p]? =some (4,s)→d+1≤41→Rs tk .unary (p+1) (d+1) a q m→Rs tk .unary p d ((7,s,1)::a) q 0
 |plain {p d a q m}:unaryT tk p=false→Rs tk .atom p d a q m→Rs tk .unary p d a q 0
 |num {p d s}:tk[p]? =some (2,s)→numOK s=true→Rs tk .atom p d [(1,numWd s,0)] (p+1) 0
 |text {p d s}:tk[p]? =some (3,s)→unqOK s=true→Rs tk .atom p d [(2,unqT s,0)] (p+1) 0
 |truth {p d s}:tk[p]? =some (1,s)→(s.data.toList=trueL∨s.data.toList=falseL)→Rs tk .atom p d [(3,s,0)] (p+1) 0
 |name {p d s}:tk[p]? =some (1,s)→s.data.toList≠trueL→s.data.toList≠falseL→isT tk (p+1) [40]=false→Rs tk .atom p d [(4,s,0)] (p+1) 0
 |call {p d s l q m}:tk[p]? =some (1,s)→s.data.toList≠trueL→s.data.toList≠falseL→isT tk (p+1) [40]=true→Rs tk (.parts [41] 0 []) (p+2) d l q m→Rs tk .atom p d ((6,s,(m:Int))::l) q 0
 |paren {p d a q m}:isT tk p [40]=true→Rs tk .choice (p+1) d a q m→isT tk q [41]=true→Rs tk .atom p d a (q+1) 0
 |list {p d l q m}:isT tk p [91]=true→Rs tk (.parts [93] 0 []) (p+1) d l q m→Rs tk .atom p d ((5,⟨#[]⟩,(m:Int))::l) q 0
 |close {w n out p d}:isT tk p w=true→Rs tk (.parts w n out) p d out (p+1) n
 |part {w n out p p0 d a q m c q2 m2}:isT tk p w=false→(n=0→p0=p)→(n≠0→isT tk p [44]=true∧p0=p+1)→Rs tk .choice p0 d a q m→Rs tk (.parts w (n+1) (out++a)) q d c q2 m2→Rs tk (.parts w n out) p d c q2 m2
def Job.held:Job→List Cl
 | .loop _ _ a=>a
 | .parts _ _ out=>out
 |_=>[]
theorem Rs.le {tk:List Tk} {j:Job} {p d:Nat} {c:List Cl} {q m:Nat} (h:Rs tk j p d c q m):c.length+p≤q+j.held.length∧(p≤tk.length→q≤tk.length)∧j.held.length≤c.length∧p≤q:=by
 induction h with
 |one h1 h2 h3 i=>simp only [Job.held,List.length_nil] at i⊢;omega
 |three h1 h2 h3 h4 h5 h6 i1 i2 i3=>
  have l1:=isT_lt h3;have l2:=isT_lt h5
  simp only [Job.held,List.length_nil,List.length_cons,List.length_append] at i1 i2 i3⊢
  omega
 |seven h i=>simp only [Job.held,List.length_nil] at i⊢;omega
 |level h1 h2 h3 i1 i2=>simp only [Job.held,List.length_nil] at i1 i2⊢;omega
 |stop h=>simp only [Job.held];omega
 |more h1 h2 h3 h4 h5 i1 i2=>
  have l1:=at_lt h3
  simp only [Job.held,List.length_nil,List.length_cons,List.length_append] at i1 i2⊢
  omega
 |sign h1 h2 h3 h4 i=>
  have l1:=at_lt h2
  simp only [Job.held,List.length_nil,List.length_cons] at i⊢
  omega
 |plain h1 h2 i=>simp only [Job.held,List.length_nil] at i⊢;omega
 |num h1 h2=>have l1:=at_lt h1;simp only [Job.held,List.length_nil,List.length_cons];omega
 |text h1 h2=>have l1:=at_lt h1;simp only [Job.held,List.length_nil,List.length_cons];omega
 |truth h1 h2=>have l1:=at_lt h1;simp only [Job.held,List.length_nil,List.length_cons];omega
 |name h1 h2 h3 h4=>have l1:=at_lt h1;simp only [Job.held,List.length_nil,List.length_cons];omega
 |call h1 h2 h3 h4 h5 i=>
  have l1:=at_lt h1;have l2:=isT_lt h4
  simp only [Job.held,List.length_nil,List.length_cons] at i⊢
  omega
 |paren h1 h2 h3 i=>
  have l1:=isT_lt h1;have l2:=isT_lt h3
  simp only [Job.held,List.length_nil] at i⊢
  omega
 |list h1 h2 i=>
  have l1:=isT_lt h1
  simp only [Job.held,List.length_nil,List.length_cons] at i⊢
  omega
 |close h=>have l1:=isT_lt h;simp only [Job.held];omega
 | @part w n out p p0 d a q m c q2 m2 h1 h2 h3 h4 h5 i1 i2=>
  simp only [Job.held,List.length_nil,List.length_append] at i1 i2⊢
  by_cases hn:n=0
  ·have:=h2 hn;omega
  ·have hc:=h3 hn
   have:=isT_lt hc.1
   omega
theorem tk_one {tk:List Tk} {p:Nat} {x y:Tk} (h:tk[p]? =some x) (k:tk[p]? =some y):x=y:=by
 rw [h] at k;injection k
theorem tf {P:Prop} {b:Bool} (h:b=true) (k:b=false):P:=by rw [h] at k;cases k
theorem sign_no {tk:List Tk} {p:Nat} {w:List UInt8} {k:Int} {s:ByteArray} (h:isT tk p w=true) (hk:tk[p]? =some (k,s)) (hn:k≠4) {P:Prop}:P:=by
 obtain ⟨s',h',-⟩:=isT_kind h
 have:=tk_one h' hk
 simp only [Prod.mk.injEq] at this
 exact absurd this.1.symm hn
theorem two_signs {tk:List Tk} {p:Nat} {w v:List UInt8} (h:isT tk p w=true) (k:isT tk p v=true) (hn:w≠v) {P:Prop}:P:=by
 obtain ⟨s,h1,h2⟩:=isT_kind h
 obtain ⟨s',k1,k2⟩:=isT_kind k
 have:=tk_one h1 k1
 simp only [Prod.mk.injEq,true_and] at this
 subst this
 exact absurd (h2.symm.trans k2) hn
theorem Rs.uniq {tk:List Tk} {j:Job} {p d:Nat} {c:List Cl} {q m:Nat} (h:Rs tk j p d c q m): ∀{c':List Cl} {q' m':Nat},Rs tk j p d c' q' m'→c=c'∧q=q'∧m=m':=by
 induction h with
 |one h1 h2 h3 i=>
  intro c' q' m' h'
  cases h' with
  |one k1 k2 k3=>obtain ⟨rfl,rfl,-⟩:=i k2;exact ⟨rfl,rfl,rfl⟩
  |three k1 k2 k3 k4 k5 k6=>obtain ⟨rfl,rfl,-⟩:=i k2;exact tf k3 h3
 |three h1 h2 h3 h4 h5 h6 i1 i2 i3=>
  intro c' q' m' h'
  cases h' with
  |one k1 k2 k3=>obtain ⟨rfl,rfl,-⟩:=i1 k2;exact tf h3 k3
  |three k1 k2 k3 k4 k5 k6=>
   obtain ⟨rfl,rfl,-⟩:=i1 k2
   obtain ⟨rfl,rfl,-⟩:=i2 k4
   obtain ⟨rfl,rfl,-⟩:=i3 k6
   exact ⟨rfl,rfl,rfl⟩
 |seven h i=>
  intro c' q' m' h'
  cases h' with
  |seven k=>obtain ⟨rfl,rfl,-⟩:=i k;exact ⟨rfl,rfl,rfl⟩
  |level k1 k2 k3=>omega
 |level h1 h2 h3 i1 i2=>
  intro c' q' m' h'
  cases h' with
  |seven k=>omega
  |level k1 k2 k3=>
   obtain ⟨rfl,rfl,-⟩:=i1 k2
   obtain ⟨rfl,rfl,-⟩:=i2 k3
   exact ⟨rfl,rfl,rfl⟩
 |stop h=>
  intro c' q' m' h'
  cases h' with
  |stop k=>exact ⟨rfl,rfl,rfl⟩
  |more k1 k2 k3 k4 k5=>
   rcases h with h|⟨h,hn⟩
   ·exact absurd k1 h
   ·rcases k2 with k2|k2
    ·exact absurd h k2
    ·exact absurd k2 hn
 |more h1 h2 h3 h4 h5 i1 i2=>
  intro c' q' m' h'
  cases h' with
  |stop k=>
   rcases k with k|⟨k,hn⟩
   ·exact absurd h1 k
   ·rcases h2 with h2|h2
    ·exact absurd k h2
    ·exact absurd h2 hn
  |more k1 k2 k3 k4 k5=>
   have e:=tk_one h3 k3
   simp only [Prod.mk.injEq,true_and] at e
   subst e
   obtain ⟨rfl,rfl,-⟩:=i1 k4
   obtain ⟨rfl,rfl,-⟩:=i2 k5
   exact ⟨rfl,rfl,rfl⟩
 |sign h1 h2 h3 h4 i=>
  intro c' q' m' h'
  cases h' with
  |sign k1 k2 k3 k4=>
   have e:=tk_one h2 k2
   simp only [Prod.mk.injEq,true_and] at e
   subst e
   obtain ⟨rfl,rfl,-⟩:=i k4
   exact ⟨rfl,rfl,rfl⟩
  |plain k1 k2=>exact tf h1 k1
 |plain h1 h2 i=>
  intro c' q' m' h'
  cases h' with
  |sign k1 k2 k3 k4=>exact tf k1 h1
  |plain k1 k2=>obtain ⟨rfl,rfl,-⟩:=i k2;exact ⟨rfl,rfl,rfl⟩
 |num h1 h2=>
  intro c' q' m' h'
  cases h' with
  |num k1 k2=>have e:=tk_one h1 k1;simp only [Prod.mk.injEq,true_and] at e;subst e;exact ⟨rfl,rfl,rfl⟩
  |text k1 k2=>have e:=tk_one h1 k1;simp at e
  |truth k1 k2=>have e:=tk_one h1 k1;simp at e
  |name k1 k2 k3 k4=>have e:=tk_one h1 k1;simp at e
  |call k1 k2 k3 k4 k5=>have e:=tk_one h1 k1;simp at e
  |paren k1 k2 k3=>exact sign_no k1 h1 (by decide)
  |list k1 k2=>exact sign_no k1 h1 (by decide)
 |text h1 h2=>
  intro c' q' m' h'
  cases h' with
  |num k1 k2=>have e:=tk_one h1 k1;simp at e
  |text k1 k2=>have e:=tk_one h1 k1;simp only [Prod.mk.injEq,true_and] at e;subst e;exact ⟨rfl,rfl,rfl⟩
  |truth k1 k2=>have e:=tk_one h1 k1;simp at e
  |name k1 k2 k3 k4=>have e:=tk_one h1 k1;simp at e
  |call k1 k2 k3 k4 k5=>have e:=tk_one h1 k1;simp at e
  |paren k1 k2 k3=>exact sign_no k1 h1 (by decide)
  |list k1 k2=>exact sign_no k1 h1 (by decide)
 |truth h1 h2=>
  intro c' q' m' h'
  cases h' with
  |num k1 k2=>have e:=tk_one h1 k1;simp at e
  |text k1 k2=>have e:=tk_one h1 k1;simp at e
  |truth k1 k2=>have e:=tk_one h1 k1;simp only [Prod.mk.injEq,true_and] at e;subst e;exact ⟨rfl,rfl,rfl⟩
  |name k1 k2 k3 k4=>
   have e:=tk_one h1 k1;simp only [Prod.mk.injEq,true_and] at e;subst e
   rcases h2 with h2|h2
   ·exact absurd h2 k2
   ·exact absurd h2 k3
  |call k1 k2 k3 k4 k5=>
   have e:=tk_one h1 k1;simp only [Prod.mk.injEq,true_and] at e;subst e
   rcases h2 with h2|h2
   ·exact absurd h2 k2
   ·exact absurd h2 k3
  |paren k1 k2 k3=>exact sign_no k1 h1 (by decide)
  |list k1 k2=>exact sign_no k1 h1 (by decide)
 |name h1 h2 h3 h4=>
  intro c' q' m' h'
  cases h' with
  |num k1 k2=>have e:=tk_one h1 k1;simp at e
  |text k1 k2=>have e:=tk_one h1 k1;simp at e
  |truth k1 k2=>
   have e:=tk_one h1 k1;simp only [Prod.mk.injEq,true_and] at e;subst e
   rcases k2 with k2|k2
   ·exact absurd k2 h2
   ·exact absurd k2 h3
  |name k1 k2 k3 k4=>have e:=tk_one h1 k1;simp only [Prod.mk.injEq,true_and] at e;subst e;exact ⟨rfl,rfl,rfl⟩
  |call k1 k2 k3 k4 k5=>exact tf k4 h4
  |paren k1 k2 k3=>exact sign_no k1 h1 (by decide)
  |list k1 k2=>exact sign_no k1 h1 (by decide)
 |call h1 h2 h3 h4 h5 i=>
  intro c' q' m' h'
  cases h' with
  |num k1 k2=>have e:=tk_one h1 k1;simp at e
  |text k1 k2=>have e:=tk_one h1 k1;simp at e
  |truth k1 k2=>
   have e:=tk_one h1 k1;simp only [Prod.mk.injEq,true_and] at e;subst e
   rcases k2 with k2|k2
   ·exact absurd k2 h2
   ·exact absurd k2 h3
  |name k1 k2 k3 k4=>exact tf h4 k4
  |call k1 k2 k3 k4 k5=>
   have e:=tk_one h1 k1;simp only [Prod.mk.injEq,true_and] at e;subst e
   obtain ⟨rfl,rfl,rfl⟩:=i k5
   exact ⟨rfl,rfl,rfl⟩
  |paren k1 k2 k3=>exact sign_no k1 h1 (by decide)
  |list k1 k2=>exact sign_no k1 h1 (by decide)
 |paren h1 h2 h3 i=>
  intro c' q' m' h'
  cases h' with
  |num k1 k2=>exact sign_no h1 k1 (by decide)
  |text k1 k2=>exact sign_no h1 k1 (by decide)
  |truth k1 k2=>exact sign_no h1 k1 (by decide)
  |name k1 k2 k3 k4=>exact sign_no h1 k1 (by decide)
  |call k1 k2 k3 k4 k5=>exact sign_no h1 k1 (by decide)
  |paren k1 k2 k3=>obtain ⟨rfl,rfl,-⟩:=i k2;exact ⟨rfl,rfl,rfl⟩
  |list k1 k2=>exact two_signs h1 k1 (by decide)
 |list h1 h2 i=>
  intro c' q' m' h'
  cases h' with
  |num k1 k2=>exact sign_no h1 k1 (by decide)
  |text k1 k2=>exact sign_no h1 k1 (by decide)
  |truth k1 k2=>exact sign_no h1 k1 (by decide)
  |name k1 k2 k3 k4=>exact sign_no h1 k1 (by decide)
  |call k1 k2 k3 k4 k5=>exact sign_no h1 k1 (by decide)
  |paren k1 k2 k3=>exact two_signs h1 k1 (by decide)
  |list k1 k2=>obtain ⟨rfl,rfl,rfl⟩:=i k2;exact ⟨rfl,rfl,rfl⟩
 |close h=>
  intro c' q' m' h'
  cases h' with
  |close k=>exact ⟨rfl,rfl,rfl⟩
  |part k1 k2 k3 k4 k5=>exact tf h k1
 | @part w n out p p0 d a q m c q2 m2 h1 h2 h3 h4 h5 i1 i2=>
  intro c' q' m' h'
  cases h' with
  |close k=>exact tf k h1
  | @part _ _ _ _ p0' _ _ _ _ _ _ _ k1 k2 k3 k4 k5=>
   have e:p0=p0':=by
    by_cases hn:n=0
    ·rw [h2 hn,k2 hn]
    ·rw [(h3 hn).2,(k3 hn).2]
   subst e
   obtain ⟨rfl,rfl,-⟩:=i1 k4
   exact i2 k5
def fineC (c:List Cl):Prop:=c.length≤60∧ ∀x∈c,okC x=true
theorem fineC.sub {a c:List Cl} (h:fineC c) (hl:a.length≤c.length) (hm: ∀x∈a,x∈c):fineC a:=⟨Nat.le_trans hl h.1,fun x hx=>h.2 x (hm x hx)⟩
def NoRd (tk:List Tk) (j:Job) (p d:Nat):Prop:= ¬ ∃c q m,Rs tk j p d c q m∧fineC c∧m≤8
theorem Rs.mem {tk:List Tk} {j:Job} {p d:Nat} {c:List Cl} {q m:Nat} (h:Rs tk j p d c q m): ∀x∈j.held,x∈c:=by
 induction h with
 |stop h=>intro x hx;exact hx
 |more h1 h2 h3 h4 h5 i1 i2=>intro x hx;exact i2 x (by simp only [Job.held] at hx⊢;simp [hx])
 |close h=>intro x hx;exact hx
 |part h1 h2 h3 h4 h5 i1 i2=>intro x hx;exact i2 x (by simp only [Job.held] at hx⊢;simp [hx])
 |_=>intro x hx;simp [Job.held] at hx
def Job.many:Job→Nat
 | .parts _ n _=>n
 |_=>0
theorem Rs.many {tk:List Tk} {j:Job} {p d:Nat} {c:List Cl} {q m:Nat} (h:Rs tk j p d c q m):j.many≤m:=by
 induction h with
 |close h=>exact Nat.le_refl _
 |part h1 h2 h3 h4 h5 i1 i2=>simp only [Job.many] at i2⊢;omega
 |_=>exact Nat.zero_le _
theorem Rs.zero {tk:List Tk} {j:Job} {p d:Nat} {c:List Cl} {q m:Nat} (h:Rs tk j p d c q m) (hj: ∀w n o,j≠ .parts w n o):m=0:=by
 cases h with
 |close h=>exact absurd rfl (hj _ _ _)
 |part h1 h2 h3 h4 h5=>exact absurd rfl (hj _ _ _)
 |_=>rfl
theorem NoRd.use {tk:List Tk} {j:Job} {p d:Nat} {c:List Cl} {q m:Nat} (h:NoRd tk j p d) (k:Rs tk j p d c q m) (hf:fineC c) (hm:m≤8):False:=h ⟨c,q,m,k,hf,hm⟩
def Through (tk:List Tk) (r p d n:Nat) (a:List Cl) (q:Nat):Prop:=
 (∀c q2 m2,Rs tk (.loop r n a) q d c q2 m2→Rs tk (.level r) p d c q2 0)∧(∀c q2 m2,Rs tk (.level r) p d c q2 m2→Rs tk (.loop r n a) q d c q2 0)
theorem Through.start {tk:List Tk} {r p d:Nat} {a:List Cl} {q m:Nat} (hr:r<7) (h:Rs tk (.level (r+1)) p d a q m):Through tk r p d 0 a q:=by
 refine ⟨fun c q2 m2 k=> .level hr h k,fun c q2 m2 k=> ?_⟩
 cases k with
 |seven k=>omega
 |level k1 k2 k3=>
  obtain ⟨rfl,rfl,-⟩:=h.uniq k2
  have:=k3.zero (by intros;simp)
  subst this
  exact k3
theorem Through.next {tk:List Tk} {r p d n:Nat} {a b:List Cl} {q q1 m:Nat} {s:ByteArray} (h:Through tk r p d n a q) (h1:rkT tk q=(r:Int)) (h2:r≠4∨n=0) (h3:tk[q]? =some (4,s)) (h4:Rs tk (.level (r+1)) (q+1) d b q1 m):
  Through tk r p d (n+1) ((8,s,2)::(a++b)) q1:=by
 refine ⟨fun c q2 m2 k=>h.1 c q2 0 (.more h1 h2 h3 h4 k),fun c q2 m2 k=> ?_⟩
 have k':=h.2 c q2 m2 k
 clear k
 cases k' with
 |stop z=>
  rcases z with z|⟨z,zn⟩
  ·exact absurd h1 z
  ·rcases h2 with h2|h2
   ·exact absurd z h2
   ·exact absurd h2 zn
 |more k1 k2 k3 k4 k5=>
  have e:=tk_one h3 k3
  simp only [Prod.mk.injEq,true_and] at e
  subst e
  obtain ⟨rfl,rfl,-⟩:=h4.uniq k4
  have:=k5.zero (by intros;simp)
  subst this
  exact k5
theorem Through.done {tk:List Tk} {r p d n:Nat} {a:List Cl} {q:Nat} (h:Through tk r p d n a q) (hs:rkT tk q≠(r:Int)∨(r=4∧n≠0)):Rs tk (.level r) p d a q 0:=h.1 a q 0 (.stop hs)
theorem Through.fail {tk:List Tk} {r p d n:Nat} {a:List Cl} {q:Nat} (h:Through tk r p d n a q) (h1:rkT tk q=(r:Int)) (h2:r≠4∨n=0) (hn:NoRd tk (.level (r+1)) (q+1) d):NoRd tk (.level r) p d:=by
 rintro ⟨c,q2,m2,k,hf,-⟩
 have k':=h.2 c q2 m2 k
 clear k
 cases k' with
 |stop z=>
  rcases z with z|⟨z,zn⟩
  ·exact absurd h1 z
  ·rcases h2 with h2|h2
   ·exact absurd z h2
   ·exact absurd h2 zn
 |more k1 k2 k3 k4 k5=>
  have l1:=k5.le.2.2.1
  have l2:=k5.mem
  simp only [Job.held,List.length_cons,List.length_append] at l1 l2
  exact hn.use k4 (hf.sub (by omega) (fun x hx=>l2 x (by simp [hx]))) (by rw [k4.zero (by intros;simp)];omega)
def Among (tk:List Tk) (w:List UInt8) (p d n:Nat) (out:List Cl) (q:Nat):Prop:=
 (∀c q2 m2,Rs tk (.parts w n out) q d c q2 m2→Rs tk (.parts w 0 []) p d c q2 m2)∧(∀c q2 m2,Rs tk (.parts w 0 []) p d c q2 m2→Rs tk (.parts w n out) q d c q2 m2)
theorem Among.start (tk:List Tk) (w:List UInt8) (p d:Nat):Among tk w p d 0 [] p:=⟨fun _ _ _ k=>k,fun _ _ _ k=>k⟩
theorem Among.done {tk:List Tk} {w:List UInt8} {p d n:Nat} {out:List Cl} {q:Nat} (h:Among tk w p d n out q) (hs:isT tk q w=true):Rs tk (.parts w 0 []) p d out (q+1) n:=h.1 out (q+1) n (.close hs)
theorem Among.next {tk:List Tk} {w:List UInt8} {p d n:Nat} {out a:List Cl} {q q0 q1 m:Nat} (h:Among tk w p d n out q) (hs:isT tk q w=false) (h1:n=0→q0=q) (h2:n≠0→isT tk q [44]=true∧q0=q+1) (hr:Rs tk .choice q0 d a q1 m):Among tk w p d (n+1) (out++a) q1:=by
 refine ⟨fun c q2 m2 k=>h.1 c q2 m2 (.part hs h1 h2 hr k),fun c q2 m2 k=> ?_⟩
 have k':=h.2 c q2 m2 k
 clear k
 cases k' with
 |close z=>exact tf z hs
 | @part _ _ _ _ q0' _ _ _ _ _ _ _ k1 k2 k3 k4 k5=>
  have e:q0=q0':=by
   by_cases hn:n=0
   ·rw [h1 hn,k2 hn]
   ·rw [(h2 hn).2,(k3 hn).2]
  subst e
  obtain ⟨rfl,rfl,-⟩:=hr.uniq k4
  exact k5
theorem Among.comma {tk:List Tk} {w:List UInt8} {p d n:Nat} {out:List Cl} {q:Nat} (h:Among tk w p d n out q) (hs:isT tk q w=false) (hn:n≠0) (hc:isT tk q [44]=false):NoRd tk (.parts w 0 []) p d:=by
 rintro ⟨c,q2,m2,k,hf,-⟩
 have k':=h.2 c q2 m2 k
 clear k
 cases k' with
 |close z=>exact tf z hs
 |part k1 k2 k3 k4 k5=>exact tf (k3 hn).1 hc
theorem Among.fail {tk:List Tk} {w:List UInt8} {p d n:Nat} {out:List Cl} {q q0:Nat} (h:Among tk w p d n out q) (hs:isT tk q w=false) (h1:n=0→q0=q) (h2:n≠0→isT tk q [44]=true∧q0=q+1) (hr:NoRd tk .choice q0 d):NoRd tk (.parts w 0 []) p d:=by
 rintro ⟨c,q2,m2,k,hf,-⟩
 have k':=h.2 c q2 m2 k
 clear k
 cases k' with
 |close z=>exact tf z hs
 | @part _ _ _ _ q0' _ _ _ _ _ _ _ k1 k2 k3 k4 k5=>
  have e:q0=q0':=by
   by_cases hn:n=0
   ·rw [h1 hn,k2 hn]
   ·rw [(h2 hn).2,(k3 hn).2]
  subst e
  have l1:=k5.le.2.2.1
  have l2:=k5.mem
  simp only [Job.held,List.length_append] at l1 l2
  exact hr.use k4 (hf.sub (by omega) (fun x hx=>l2 x (by simp [hx]))) (by rw [k4.zero (by intros;simp)];omega)
theorem Among.many {tk:List Tk} {w:List UInt8} {p d n:Nat} {out:List Cl} {q:Nat} (h:Among tk w p d n out q) (hs:isT tk q w=false) (hn:8≤n):NoRd tk (.parts w 0 []) p d:=by
 rintro ⟨c,q2,m2,k,hf,hm⟩
 have k':=h.2 c q2 m2 k
 clear k
 cases k' with
 |close z=>exact tf z hs
 |part k1 k2 k3 k4 k5=>
  have:=k5.many
  simp only [Job.many] at this
  omega
def nestW (w:List UInt8):Bool:=w==[40]||w==[91]||w==[63]||w==[33]||w==[45]
def nestK (x:Tk):Bool:=x.1==4&&nestW x.2.data.toList
def preN (tk:List Tk) (p:Nat):Nat:=(tk.take p).countP nestK
theorem preN_mono (tk:List Tk) {p q:Nat} (h:p≤q):preN tk p≤preN tk q:=by
 unfold preN
 have:tk.take q=tk.take p++(tk.drop p).take (q-p):=by
  rw [←List.take_add];congr 1;omega
 rw [this,List.countP_append];omega
theorem preN_step {tk:List Tk} {p:Nat} {w:List UInt8} (h:isT tk p w=true) (hw:w=[40]∨w=[91]∨w=[63]∨w=[33]∨w=[45]):preN tk (p+1)=preN tk p+1:=by
 obtain ⟨s,hs,rfl⟩:=isT_kind h
 obtain ⟨hl,he⟩:=List.getElem?_eq_some_iff.mp hs
 unfold preN
 rw [←List.take_append_getElem hl,List.countP_append,he]
 have hn:nestK (4,s)=true:=by
  unfold nestK nestW
  rcases hw with hw|hw|hw|hw|hw<;>simp [hw]
 rw [List.countP_cons,if_pos hn,List.countP_nil]
theorem unaryT_w {tk:List Tk} {p:Nat} (h:unaryT tk p=true):preN tk (p+1)=preN tk p+1:=by
 unfold unaryT at h
 rw [Bool.or_eq_true] at h
 rcases h with h|h
 ·exact preN_step h (by simp)
 ·exact preN_step h (by simp)
theorem rkT_top (tk:List Tk) (p:Nat):rkT tk p≤6∧0≤rkT tk p:=by
 unfold rkT
 split
 ·rename_i k s hs
  split
  ·unfold rankL;repeat' split
   all_goals omega
  ·omega
 ·omega
def GJob.hn:GJob→Nat
 | .loop _ _ na=>na
 | .series _ _ _ no=>no
 |_=>0
theorem Rg.few {tk:List Tk} {j:GJob} {p:Nat} {c:List Cl} {q m n:Nat} (h:Rg tk j p c q m n):n≤j.hn∨n+preN tk p≤preN tk q:=by
 induction h with
 |one h1 h2 i=>exact i
 | @three p a q m n b q2 m2 n2 c q3 m3 n3 h1 h2 h3 h4 h5 i1 i2 i3=>
  have e:=preN_step h2 (by simp)
  have l1:=preN_mono tk h1.le.2.2.2;have l2:=preN_mono tk h3.le.2.2.2;have l3:=preN_mono tk h5.le.2.2.2
  have l4:=preN_mono tk (Nat.le_succ q2)
  simp only [GJob.hn] at i1 i2 i3⊢
  right;simp only [Nat.succ_eq_add_one] at l4;omega
 |bin h1 h2 i1 i2=>
  have l1:=preN_mono tk h1.le.2.2.2;have l2:=preN_mono tk h2.le.2.2.2
  simp only [GJob.hn] at i1 i2⊢
  omega
 |stop h=>left;exact Nat.le_refl _
 | @more r k a na p s b q m n c q2 m2 n2 h1 h2 h3 h4 h5 h6 h7 i1 i2=>
  have l1:=preN_mono tk h5.le.2.2.2;have l2:=preN_mono tk h7.le.2.2.2;have l4:=preN_mono tk (Nat.le_succ p)
  simp only [GJob.hn,Nat.succ_eq_add_one] at i1 i2 l4⊢
  omega
 | @sign p s a q m n h1 h2 h3 i=>
  have e:=unaryT_w h1
  simp only [GJob.hn] at i⊢
  have l1:=preN_mono tk h3.le.2.2.2
  omega
 |plain h1 h2 i=>exact i
 |num h1 h2=>left;exact Nat.zero_le _
 |text h1 h2=>left;exact Nat.zero_le _
 |truth h1 h2=>left;exact Nat.zero_le _
 |name h1 h2 h3 h4=>left;exact Nat.zero_le _
 | @call p s l q m n h1 h2 h3 h4 h5 i=>
  have e:preN tk (p+2)=preN tk (p+1)+1:=preN_step h4 (by simp)
  have l1:=preN_mono tk h5.le.2.2.2;have l4:=preN_mono tk (Nat.le_succ p)
  simp only [GJob.hn,Nat.succ_eq_add_one] at i l4⊢
  omega
 | @paren p a q m n h1 h2 h3 i=>
  have e:=preN_step h1 (by simp)
  have l1:=preN_mono tk h2.le.2.2.2;have l4:=preN_mono tk (Nat.le_succ q)
  simp only [GJob.hn,Nat.succ_eq_add_one] at i l4⊢
  omega
 | @list p l q m n h1 h2 i=>
  have e:=preN_step h1 (by simp)
  have l1:=preN_mono tk h2.le.2.2.2
  simp only [GJob.hn] at i⊢
  omega
 |close h=>left;exact Nat.le_refl _
 | @part w k out no p p0 a q m n c q2 m2 n2 h1 h2 h3 h4 h5 i1 i2=>
  have hp0:p≤p0:=by
   by_cases hk:k=0
   ·rw [h2 hk];exact Nat.le_refl _
   ·rw [(h3 hk).2];omega
  have l0:=preN_mono tk hp0
  have l1:=preN_mono tk h4.le.2.2.2;have l2:=preN_mono tk h5.le.2.2.2
  simp only [GJob.hn] at i1 i2⊢
  omega
inductive Fd (tk:List Tk) (d:Nat):Nat→List Cl→Nat→List Cl→Nat→Prop
 |top {a p}:Fd tk d 7 a p a p
 |step {r a p a' p' c q}:r<7→Fd tk d (r+1) a p a' p'→Rs tk (.loop r 0 a') p' d c q 0→Fd tk d r a p c q
theorem Fd.level {tk:List Tk} {d r p0 m:Nat} {a c:List Cl} {p q:Nat} (h:Fd tk d r a p c q) (hu:Rs tk .unary p0 d a p m):Rs tk (.level r) p0 d c q 0:=by
 induction h with
 |top=>exact .seven hu
 |step h1 h2 h3 i=>exact .level h1 (i hu) h3
theorem Fd.same {tk : List Tk} (d : Nat) (a : List Cl) (p : Nat) : ∀ (k r : Nat), r + k = 7 → rkT tk p < (r : Int) → Fd tk d r a p a p := by
  intro k
  induction k with
  | zero => intro r hr hk; obtain rfl : r = 7 := by omega
            exact .top
  | succ k ih => intro r hr hk; exact .step (by omega) (ih (r + 1) (by omega) (by omega)) (.stop (.inl (by omega)))
theorem Fd.still {tk:List Tk} {d r:Nat} {a c:List Cl} {p q:Nat} (h:Fd tk d r a p c q) (hr:rkT tk p<(r:Int)):c=a∧q=p:=by
 induction h with
 |top=>exact ⟨rfl,rfl⟩
 |step h1 h2 h3 i=>
  obtain ⟨rfl,rfl⟩:=i (by omega)
  cases h3 with
  |stop k=>exact ⟨rfl,rfl⟩
  |more k1 k2 k3 k4 k5=>omega
theorem loop_many {tk:List Tk} {r n:Nat} {a:List Cl} {p d:Nat} {c:List Cl} {q m:Nat} (hr:r≠4) (h:Rs tk (.loop r n a) p d c q m): ∀n',Rs tk (.loop r n' a) p d c q 0:=by
 generalize hj:Job.loop r n a=j at h
 induction h generalizing n a with
 |stop h=>
  cases hj
  intro n'
  exact .stop (.inl (h.resolve_right (fun h=>hr h.1)))
 |more h1 h2 h3 h4 h5 i1 i2=>
  cases hj
  intro n'
  exact .more h1 (.inl hr) h3 h4 (i2 rfl (n'+1))
 |_=>cases hj
theorem Fd.more {tk:List Tk} {d r k:Nat} {A a b c:List Cl} {p q q2:Nat} {s:ByteArray} (hk:k≤6) (h1:rkT tk p=(k:Int)) (h2:tk[p]? =some (4,s)) (h3:Rs tk (.level (k+1)) (p+1) d b q 0)
  (h4:rkT tk q<((k+1:Nat):Int)) (h5: ¬(k=4∧rkT tk q=4)) (hA:A=(8,s,2)::(a++b)) (h:Fd tk d r A q c q2) (hr:r≤k):Fd tk d r a p c q2:=by
 induction h with
 |top=>omega
 | @step r A q a' p' c q2 g1 g2 g3 i=>
  subst hA
  by_cases hrk:r=k
  ·subst hrk
   obtain ⟨rfl,rfl⟩:=g2.still h4
   refine .step g1 (Fd.same d a p (6-r) (r+1) (by omega) (by omega)) (.more (m2:=0) h1 (.inr rfl) h2 h3 ?_)
   by_cases h44:r=4
   ·subst h44
    cases g3 with
    |stop k=>exact .stop (.inl (fun e=>h5 ⟨rfl,e⟩))
    |more k1 k2 k3 k4 k5=>exact absurd ⟨rfl,k1⟩ h5
   ·exact loop_many h44 g3 1
  ·exact .step g1 (i h3 h4 h5 rfl (by omega)) g3
theorem Rg.ends {tk : List Tk} {j : GJob} {p : Nat} {c : List Cl} {q m n : Nat} (h : Rg tk j p c q m n) : ∀ r, (j = .bin r ∨ ∃ a na, j = .loop r a na) → rkT tk q < (r : Int) := by
  induction h with
  | bin h1 h2 i1 i2 => intro r hr; rcases hr with hr | ⟨a, na, hr⟩
                       · cases hr; exact i2 _ (.inr ⟨_, _, rfl⟩)
                       · cases hr
  | stop h => intro r hr; rcases hr with hr | ⟨a, na, hr⟩
              · cases hr
              · cases hr; exact h
  | more h1 h2 h3 h4 h5 h6 h7 i1 i2 => intro r hr; rcases hr with hr | ⟨a, na, hr⟩
                                       · cases hr
                                       · cases hr; exact i2 _ (.inr ⟨_, _, rfl⟩)
  | _ => intro r hr; rcases hr with hr | ⟨a, na, hr⟩ <;> cases hr
def AgL (tk:List Tk):GJob→Nat→List Cl→Nat→Nat→Nat→Prop
 | .choice,p,c,q,m,n=> ∀d,n+d≤40→Rs tk .choice p d c q 0
 | .bin r,p,c,q,m,n=>r≤7→ ∀d,n+d≤41→Rs tk (.level r) p d c q 0
 | .loop r a na,p,c,q,m,n=>r≤7→ ∀d,n+d≤41→Fd tk d r a p c q
 | .unary,p,c,q,m,n=> ∀d,n+d≤41→Rs tk .unary p d c q 0
 | .single,p,c,q,m,n=> ∀d,n+d≤41→Rs tk .atom p d c q 0
 | .series w k out no,p,c,q,m,n=> ∀d,n+d≤40→Rs tk (.parts w k out) p d c q m
theorem Rg.least {tk:List Tk} {j:GJob} {p:Nat} {c:List Cl} {q m n:Nat} (h:Rg tk j p c q m n):j.hn≤n:=by
 induction h with
 |stop h=>exact Nat.le_refl _
 |close h=>exact Nat.le_refl _
 |more h1 h2 h3 h4 h5 h6 h7 i1 i2=>simp only [GJob.hn] at i2⊢;omega
 |part h1 h2 h3 h4 h5 i1 i2=>simp only [GJob.hn] at i2⊢;omega
 |_=>exact Nat.zero_le _
theorem Rg.levels {tk:List Tk} {j:GJob} {p:Nat} {c:List Cl} {q m n:Nat} (h:Rg tk j p c q m n):AgL tk j p c q m n:=by
 induction h with
 |one h1 h2 i=>intro d hd;exact .one (by omega) (i (by omega) (d+1) (by omega)) h2
 |three h1 h2 h3 h4 h5 i1 i2 i3=>intro d hd;exact .three (by omega) (i1 (by omega) (d+1) (by omega)) h2 (i2 (d+1) (by omega)) h4 (i3 (d+1) (by omega))
 |bin h1 h2 i1 i2=>
  intro hr d hd
  have:=h2.least
  simp only [GJob.hn] at this
  exact (i2 hr d hd).level (i1 d (by omega))
 | @stop r a na p h=>intro hr d hd;exact Fd.same d a p (7-r) r (by omega) h
 | @more r k a na p s b q m n c q2 m2 n2 h1 h2 h3 h4 h5 h6 h7 i1 i2=>
  intro hr d hd
  have hk:=(rkT_top tk p).1
  rw [h1] at hk
  have:=h7.least
  simp only [GJob.hn] at this
  exact Fd.more (by omega) h1 h4 (i1 (by omega) d (by omega)) (h5.ends _ (.inl rfl)) h6 rfl (i2 hr d hd) h2
 |sign h1 h2 h3 i=>intro d hd;exact .sign h1 h2 (by omega) (i (d+1) (by omega))
 |plain h1 h2 i=>intro d hd;exact .plain h1 (i d hd)
 |num h1 h2=>intro d hd;exact .num h1 h2
 |text h1 h2=>intro d hd;exact .text h1 h2
 |truth h1 h2=>intro d hd;exact .truth h1 h2
 |name h1 h2 h3 h4=>intro d hd;exact .name h1 h2 h3 h4
 |call h1 h2 h3 h4 h5 i=>intro d hd;exact .call h1 h2 h3 h4 (i d (by omega))
 |paren h1 h2 h3 i=>intro d hd;exact .paren h1 (i d (by omega)) h3
 |list h1 h2 i=>intro d hd;exact .list h1 (i d (by omega))
 |close h=>intro d hd;exact .close h
 |part h1 h2 h3 h4 h5 i1 i2=>
  intro d hd
  have:=h5.least
  simp only [GJob.hn] at this
  exact .part h1 h2 h3 (i1 d (by omega)) (i2 d hd)
theorem read_levels {tk:List Tk} {c:List Cl} {n:Nat} (h:Rg tk .choice 0 c tk.length 0 n) (hn:n≤40):Rs tk .choice 0 0 c tk.length 0:=h.levels 0 (by omega)
end Go.Proofs.YthijkjnngfnfdaaGreatDoor
