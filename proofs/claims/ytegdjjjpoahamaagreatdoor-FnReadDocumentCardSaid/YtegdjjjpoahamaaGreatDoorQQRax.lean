/-
  Part of the proof of FnReadDocument.
-/
import Derived.Test.YtegdjjjpoahamaaGreatDoorQQRau
import Derived.Test.YtegdjjjpoahamaaGreatDoorQQRat
set_option linter.unusedVariables false
namespace Go.Proofs.YtegdjjjpoahamaaGreatDoor
def af2 (b:UInt8):Bool:=b==40||b==91||b==63||b==33||b==45
def nbL (l:List UInt8):Nat:=l.countP af2
inductive Job
 |choice
 |level (r:Nat)
 |loop (r many:Nat) (a:List Cl)
 |unary
 |atom
 |parts (close:List UInt8) (many:Nat) (out:List Cl)
inductive Rs (tk:List Tk):Job→Nat→Nat→List Cl→Nat→Nat→Prop
 |one {p d a q m}:d+1≤41→Rs tk (.level 2) p (d+1) a q m→isT tk q [63]=false→Rs tk .choice p d a q 0
 |three {p d a q m b q2 m2 c q3 m3}:d+1≤41→Rs tk (.level 2) p (d+1) a q m→isT tk q [63]=true→Rs tk .choice (q+1) (d+1) b q2 m2→isT tk q2 [58]=true→Rs tk .choice (q2+1) (d+1) c q3 m3→
   Rs tk .choice p d ((9,⟨#[]⟩,3)::(a++(b++c))) q3 0
 |seven {p d a q m}:Rs tk .unary p d a q m→Rs tk (.level 7) p d a q 0
 |level {r p d a q m c q2 m2}:r<7→Rs tk (.level (r+1)) p d a q m→Rs tk (.loop r 0 a) q d c q2 m2→Rs tk (.level r) p d c q2 0
 |stop {r n:Nat} {a:List Cl} {p d:Nat}:(rkT tk p≠(r:Int)∨(r=4∧n≠0))→Rs tk (.loop r n a) p d a p 0
 |more {r n:Nat} {a:List Cl} {p d:Nat} {s:ByteArray} {b:List Cl} {q m:Nat} {c:List Cl} {q2 m2:Nat}:rkT tk p=(r:Int)→(r≠4∨n=0)→tk[p]? =some (4,s)→Rs tk (.level (r+1)) (p+1) d b q m→Rs tk (.loop r (n+1) ((8,s,2)::(a++b))) q d c q2 m2→Rs tk (.loop r n a) p d c q2 0
 |sign {p d s a q m}:bA tk p=true→tk[p]? =some (4,s)→d+1≤41→Rs tk .unary (p+1) (d+1) a q m→Rs tk .unary p d ((7,s,1)::a) q 0
 |plain {p d a q m}:bA tk p=false→Rs tk .atom p d a q m→Rs tk .unary p d a q 0
 |num {p d s}:tk[p]? =some (2,s)→iw s=true→Rs tk .atom p d [(1,kB s,0)] (p+1) 0
 |text {p d s}:tk[p]? =some (3,s)→bH s=true→Rs tk .atom p d [(2,ga s,0)] (p+1) 0
 |truth {p d s}:tk[p]? =some (1,s)→(s.data.toList=b7∨s.data.toList=bE)→Rs tk .atom p d [(3,s,0)] (p+1) 0
 |name {p d s}:tk[p]? =some (1,s)→s.data.toList≠b7→s.data.toList≠bE→isT tk (p+1) [40]=false→Rs tk .atom p d [(4,s,0)] (p+1) 0
 |call {p d s l q m}:tk[p]? =some (1,s)→s.data.toList≠b7→s.data.toList≠bE→isT tk (p+1) [40]=true→Rs tk (.parts [41] 0 []) (p+2) d l q m→Rs tk .atom p d ((6,s,(m:Int))::l) q 0
 |paren {p d a q m}:isT tk p [40]=true→Rs tk .choice (p+1) d a q m→isT tk q [41]=true→Rs tk .atom p d a (q+1) 0
 |list {p d l q m}:isT tk p [91]=true→Rs tk (.parts [93] 0 []) (p+1) d l q m→Rs tk .atom p d ((5,⟨#[]⟩,(m:Int))::l) q 0
 |close {w n out p d}:isT tk p w=true→Rs tk (.parts w n out) p d out (p+1) n
 |part {w n out p p0 d a q m c q2 m2}:isT tk p w=false→(n=0→p0=p)→(n≠0→isT tk p [44]=true∧p0=p+1)→Rs tk .choice p0 d a q m→Rs tk (.parts w (n+1) (out++a)) q d c q2 m2→Rs tk (.parts w n out) p d c q2 m2
def Job.held:Job→List Cl
 | .loop _ _ a=>a
 | .parts _ _ out=>out
 |_=>[]
theorem Rs.le {tk:List Tk} {j:Job} {p d:Nat} {c:List Cl} {q m:Nat} (h:Rs tk j p d c q m):c.length+p≤q+j.held.length∧(p≤tk.length→q≤tk.length)∧j.held.length≤c.length∧p≤q:=by
 induction h with
 |one h1 h2 h3 i=>simp only [Job.held,List.length_nil] at i⊢;omega
 |three h1 h2 h3 h4 h5 h6 i1 i2 i3=>
  have l1:=bG h3;have l2:=bG h5;simp only [Job.held,List.length_nil,List.length_cons,agE] at i1 i2 i3⊢
  omega
 |seven h i=>simp only [Job.held,List.length_nil] at i⊢;omega
 |level h1 h2 h3 i1 i2=>simp only [Job.held,List.length_nil] at i1 i2⊢;omega
 |stop h=>simp only [Job.held];omega
 |more h1 h2 h3 h4 h5 i1 i2=>
  have l1:=df h3;simp only [Job.held,List.length_nil,List.length_cons,agE] at i1 i2⊢
  omega
 |sign h1 h2 h3 h4 i=>
  have l1:=df h2;simp only [Job.held,List.length_nil,List.length_cons] at i⊢
  omega
 |plain h1 h2 i=>simp only [Job.held,List.length_nil] at i⊢;omega
 |num h1 h2=>have l1:=df h1;simp only [Job.held,List.length_nil,List.length_cons];omega
 |text h1 h2=>have l1:=df h1;simp only [Job.held,List.length_nil,List.length_cons];omega
 |truth h1 h2=>have l1:=df h1;simp only [Job.held,List.length_nil,List.length_cons];omega
 |name h1 h2 h3 h4=>have l1:=df h1;simp only [Job.held,List.length_nil,List.length_cons];omega
 |call h1 h2 h3 h4 h5 i=>
  have l1:=df h1;have l2:=bG h4;simp only [Job.held,List.length_nil,List.length_cons] at i⊢
  omega
 |paren h1 h2 h3 i=>
  have l1:=bG h1;have l2:=bG h3;simp only [Job.held,List.length_nil] at i⊢
  omega
 |list h1 h2 i=>
  have l1:=bG h1;simp only [Job.held,List.length_nil,List.length_cons] at i⊢
  omega
 |close h=>have l1:=bG h;simp only [Job.held];omega
 | @part w n out p p0 d a q m c q2 m2 h1 h2 h3 h4 h5 i1 i2=>
  simp only [Job.held,List.length_nil,agE] at i1 i2⊢
  by_cases hn:n=0
  ·have:=h2 hn;omega
  ·have hc:=h3 hn
   have:=bG hc.1
   omega
theorem b5 {tk:List Tk} {p:Nat} {x y:Tk} (h:tk[p]? =some x) (k:tk[p]? =some y):x=y:=by
 rw [h] at k;injection k
theorem tf {P:Prop} {b:Bool} (h:b=true) (k:b=false):P:=by rw [h] at k;cases k
theorem bL {tk:List Tk} {p:Nat} {w:List UInt8} {k:Int} {s:ByteArray} (h:isT tk p w=true) (hk:tk[p]? =some (k,s)) (hn:k≠4) {P:Prop}:P:=by
 obtain ⟨s',h',-⟩:=dK h;have:=b5 h' hk;simp only [Prod.mk.injEq] at this;exact absurd this.1.symm hn
theorem gY {tk:List Tk} {p:Nat} {w v:List UInt8} (h:isT tk p w=true) (k:isT tk p v=true) (hn:w≠v) {P:Prop}:P:=by
 obtain ⟨s,h1,h2⟩:=dK h;obtain ⟨s',k1,k2⟩:=dK k;have:=b5 h1 k1;simp only [Prod.mk.injEq,true_and] at this;subst this;exact absurd (h2.symm.trans k2) hn
theorem Rs.uniq {tk:List Tk} {j:Job} {p d:Nat} {c:List Cl} {q m:Nat} (h:Rs tk j p d c q m): ∀{c':List Cl} {q' m':Nat},Rs tk j p d c' q' m'→c=c'∧q=q'∧m=m':=by
 induction h with
 |one h1 h2 h3 i=>
  intro c' q' m' h'
  cases h' with
  |one k1 k2 k3=>obtain ⟨rfl,rfl,-⟩:=i k2;exact ⟨rfl,rfl,rfl⟩
  |three k1 k2 k3 k4 k5 k6=>obtain ⟨rfl,rfl,-⟩:=i k2;exact tf k3 h3
 |three h1 h2 h3 h4 h5 h6 i1 i2 i3=>
  intro c' q' m' h'
  cases h' with
  |one k1 k2 k3=>obtain ⟨rfl,rfl,-⟩:=i1 k2;exact tf h3 k3
  |three k1 k2 k3 k4 k5 k6=>
   obtain ⟨rfl,rfl,-⟩:=i1 k2;obtain ⟨rfl,rfl,-⟩:=i2 k4;obtain ⟨rfl,rfl,-⟩:=i3 k6;exact ⟨rfl,rfl,rfl⟩
 |seven h i=>
  intro c' q' m' h'
  cases h' with
  |seven k=>obtain ⟨rfl,rfl,-⟩:=i k;exact ⟨rfl,rfl,rfl⟩
  |level k1 k2 k3=>omega
 |level h1 h2 h3 i1 i2=>
  intro c' q' m' h'
  cases h' with
  |seven k=>omega
  |level k1 k2 k3=>
   obtain ⟨rfl,rfl,-⟩:=i1 k2;obtain ⟨rfl,rfl,-⟩:=i2 k3;exact ⟨rfl,rfl,rfl⟩
 |stop h=>
  intro c' q' m' h'
  cases h' with
  |stop k=>exact ⟨rfl,rfl,rfl⟩
  |more k1 k2 k3 k4 k5=>
   rcases h with h|⟨h,hn⟩
   ·exact absurd k1 h
   ·rcases k2 with k2|k2
    ·exact absurd h k2
    ·exact absurd k2 hn
 |more h1 h2 h3 h4 h5 i1 i2=>
  intro c' q' m' h'
  cases h' with
  |stop k=>
   rcases k with k|⟨k,hn⟩
   ·exact absurd h1 k
   ·rcases h2 with h2|h2
    ·exact absurd k h2
    ·exact absurd h2 hn
  |more k1 k2 k3 k4 k5=>
   have e:=b5 h3 k3;simp only [Prod.mk.injEq,true_and] at e;subst e;obtain ⟨rfl,rfl,-⟩:=i1 k4;obtain ⟨rfl,rfl,-⟩:=i2 k5;exact ⟨rfl,rfl,rfl⟩
 |sign h1 h2 h3 h4 i=>
  intro c' q' m' h'
  cases h' with
  |sign k1 k2 k3 k4=>
   have e:=b5 h2 k2;simp only [Prod.mk.injEq,true_and] at e;subst e;obtain ⟨rfl,rfl,-⟩:=i k4;exact ⟨rfl,rfl,rfl⟩
  |plain k1 k2=>exact tf h1 k1
 |plain h1 h2 i=>
  intro c' q' m' h'
  cases h' with
  |sign k1 k2 k3 k4=>exact tf k1 h1
  |plain k1 k2=>obtain ⟨rfl,rfl,-⟩:=i k2;exact ⟨rfl,rfl,rfl⟩
 |num h1 h2=>
  intro c' q' m' h'
  cases h' with
  |num k1 k2=>have e:=b5 h1 k1;simp only [Prod.mk.injEq,true_and] at e;subst e;exact ⟨rfl,rfl,rfl⟩
  |text k1 k2=>have e:=b5 h1 k1;simp at e
  |truth k1 k2=>have e:=b5 h1 k1;simp at e
  |name k1 k2 k3 k4=>have e:=b5 h1 k1;simp at e
  |call k1 k2 k3 k4 k5=>have e:=b5 h1 k1;simp at e
  |paren k1 k2 k3=>exact bL k1 h1 (by decide)
  |list k1 k2=>exact bL k1 h1 (by decide)
 |text h1 h2=>
  intro c' q' m' h'
  cases h' with
  |num k1 k2=>have e:=b5 h1 k1;simp at e
  |text k1 k2=>have e:=b5 h1 k1;simp only [Prod.mk.injEq,true_and] at e;subst e;exact ⟨rfl,rfl,rfl⟩
  |truth k1 k2=>have e:=b5 h1 k1;simp at e
  |name k1 k2 k3 k4=>have e:=b5 h1 k1;simp at e
  |call k1 k2 k3 k4 k5=>have e:=b5 h1 k1;simp at e
  |paren k1 k2 k3=>exact bL k1 h1 (by decide)
  |list k1 k2=>exact bL k1 h1 (by decide)
 |truth h1 h2=>
  intro c' q' m' h'
  cases h' with
  |num k1 k2=>have e:=b5 h1 k1;simp at e
  |text k1 k2=>have e:=b5 h1 k1;simp at e
  |truth k1 k2=>have e:=b5 h1 k1;simp only [Prod.mk.injEq,true_and] at e;subst e;exact ⟨rfl,rfl,rfl⟩
  |name k1 k2 k3 k4=>
   have e:=b5 h1 k1;simp only [Prod.mk.injEq,true_and] at e;subst e
   rcases h2 with h2|h2
   ·exact absurd h2 k2
   ·exact absurd h2 k3
  |call k1 k2 k3 k4 k5=>
   have e:=b5 h1 k1;simp only [Prod.mk.injEq,true_and] at e;subst e
   rcases h2 with h2|h2
   ·exact absurd h2 k2
   ·exact absurd h2 k3
  |paren k1 k2 k3=>exact bL k1 h1 (by decide)
  |list k1 k2=>exact bL k1 h1 (by decide)
 |name h1 h2 h3 h4=>
  intro c' q' m' h'
  cases h' with
  |num k1 k2=>have e:=b5 h1 k1;simp at e
  |text k1 k2=>have e:=b5 h1 k1;simp at e
  |truth k1 k2=>
   have e:=b5 h1 k1;simp only [Prod.mk.injEq,true_and] at e;subst e
   rcases k2 with k2|k2
   ·exact absurd k2 h2
   ·exact absurd k2 h3
  |name k1 k2 k3 k4=>have e:=b5 h1 k1;simp only [Prod.mk.injEq,true_and] at e;subst e;exact ⟨rfl,rfl,rfl⟩
  |call k1 k2 k3 k4 k5=>exact tf k4 h4
  |paren k1 k2 k3=>exact bL k1 h1 (by decide)
  |list k1 k2=>exact bL k1 h1 (by decide)
 |call h1 h2 h3 h4 h5 i=>
  intro c' q' m' h'
  cases h' with
  |num k1 k2=>have e:=b5 h1 k1;simp at e
  |text k1 k2=>have e:=b5 h1 k1;simp at e
  |truth k1 k2=>
   have e:=b5 h1 k1;simp only [Prod.mk.injEq,true_and] at e;subst e
   rcases k2 with k2|k2
   ·exact absurd k2 h2
   ·exact absurd k2 h3
  |name k1 k2 k3 k4=>exact tf h4 k4
  |call k1 k2 k3 k4 k5=>
   have e:=b5 h1 k1;simp only [Prod.mk.injEq,true_and] at e;subst e;obtain ⟨rfl,rfl,rfl⟩:=i k5;exact ⟨rfl,rfl,rfl⟩
  |paren k1 k2 k3=>exact bL k1 h1 (by decide)
  |list k1 k2=>exact bL k1 h1 (by decide)
 |paren h1 h2 h3 i=>
  intro c' q' m' h'
  cases h' with
  |num k1 k2=>exact bL h1 k1 (by decide)
  |text k1 k2=>exact bL h1 k1 (by decide)
  |truth k1 k2=>exact bL h1 k1 (by decide)
  |name k1 k2 k3 k4=>exact bL h1 k1 (by decide)
  |call k1 k2 k3 k4 k5=>exact bL h1 k1 (by decide)
  |paren k1 k2 k3=>obtain ⟨rfl,rfl,-⟩:=i k2;exact ⟨rfl,rfl,rfl⟩
  |list k1 k2=>exact gY h1 k1 (by decide)
 |list h1 h2 i=>
  intro c' q' m' h'
  cases h' with
  |num k1 k2=>exact bL h1 k1 (by decide)
  |text k1 k2=>exact bL h1 k1 (by decide)
  |truth k1 k2=>exact bL h1 k1 (by decide)
  |name k1 k2 k3 k4=>exact bL h1 k1 (by decide)
  |call k1 k2 k3 k4 k5=>exact bL h1 k1 (by decide)
  |paren k1 k2 k3=>exact gY h1 k1 (by decide)
  |list k1 k2=>obtain ⟨rfl,rfl,rfl⟩:=i k2;exact ⟨rfl,rfl,rfl⟩
 |close h=>
  intro c' q' m' h'
  cases h' with
  |close k=>exact ⟨rfl,rfl,rfl⟩
  |part k1 k2 k3 k4 k5=>exact tf h k1
 | @part w n out p p0 d a q m c q2 m2 h1 h2 h3 h4 h5 i1 i2=>
  intro c' q' m' h'
  cases h' with
  |close k=>exact tf k h1
  | @part _ _ _ _ p0' _ _ _ _ _ _ _ k1 k2 k3 k4 k5=>
   have e:p0=p0':=by
    by_cases hn:n=0
    ·rw [h2 hn,k2 hn]
    ·rw [(h3 hn).2,(k3 hn).2]
   subst e;obtain ⟨rfl,rfl,-⟩:=i1 k4;exact i2 k5
def fineC (c:List Cl):Prop:=c.length≤60∧ ∀x∈c,okC x=true
theorem fineC.sub {a c:List Cl} (h:fineC c) (hl:a.length≤c.length) (hm: ∀x∈a,x∈c):fineC a:=⟨Nat.le_trans hl h.1,fun x hx=>h.2 x (hm x hx)⟩
def NoRd (tk:List Tk) (j:Job) (p d:Nat):Prop:= ¬ ∃c q m,Rs tk j p d c q m∧fineC c∧m≤8
theorem Rs.mem {tk:List Tk} {j:Job} {p d:Nat} {c:List Cl} {q m:Nat} (h:Rs tk j p d c q m): ∀x∈j.held,x∈c:=by
 induction h with
 |stop h=>intro x hx;exact hx
 |more h1 h2 h3 h4 h5 i1 i2=>intro x hx;exact i2 x (by simp only [Job.held] at hx⊢;simp [hx])
 |close h=>intro x hx;exact hx
 |part h1 h2 h3 h4 h5 i1 i2=>intro x hx;exact i2 x (by simp only [Job.held] at hx⊢;simp [hx])
 |_=>intro x hx;simp [Job.held] at hx
def Job.many:Job→Nat
 | .parts _ n _=>n
 |_=>0
theorem Rs.many {tk:List Tk} {j:Job} {p d:Nat} {c:List Cl} {q m:Nat} (h:Rs tk j p d c q m):j.many≤m:=by
 induction h with
 |close h=>exact agD _
 |part h1 h2 h3 h4 h5 i1 i2=>simp only [Job.many] at i2⊢;omega
 |_=>exact agH _
theorem Rs.zero {tk:List Tk} {j:Job} {p d:Nat} {c:List Cl} {q m:Nat} (h:Rs tk j p d c q m) (hj: ∀w n o,j≠ .parts w n o):m=0:=by
 cases h with
 |close h=>exact absurd rfl (hj _ _ _)
 |part h1 h2 h3 h4 h5=>exact absurd rfl (hj _ _ _)
 |_=>rfl
theorem NoRd.use {tk:List Tk} {j:Job} {p d:Nat} {c:List Cl} {q m:Nat} (h:NoRd tk j p d) (k:Rs tk j p d c q m) (hf:fineC c) (hm:m≤8):False:=h ⟨c,q,m,k,hf,hm⟩
theorem r8 {tk:List Tk} {p d:Nat} (h: ¬d+1≤41):NoRd tk .choice p d:=by
 rintro ⟨c,q,m,k,-,-⟩
 cases k with
 |one k1 k2 k3=>exact h k1
 |three k1 k2 k3 k4 k5 k6=>exact h k1
theorem lc {tk:List Tk} {p d:Nat} (h:NoRd tk (.level 2) p (d+1)):NoRd tk .choice p d:=by
 rintro ⟨c,q,m,k,hf,-⟩
 cases k with
 |one k1 k2 k3=>exact h.use k2 hf (by rw [k2.zero (by intros;simp)];omega)
 |three k1 k2 k3 k4 k5 k6=>exact h.use k2 (hf.sub (by simp;omega) (fun x hx=>by simp [hx])) (by rw [k2.zero (by intros;simp)];omega)
theorem o5 {tk:List Tk} {p d:Nat} {a:List Cl} {q m:Nat} (h:Rs tk (.level 2) p (d+1) a q m) (hq:isT tk q [63]=true) (hn:NoRd tk .choice (q+1) (d+1)):NoRd tk .choice p d:=by
 rintro ⟨c,q',m',k,hf,-⟩
 cases k with
 |one k1 k2 k3=>obtain ⟨rfl,rfl,-⟩:=h.uniq k2;exact tf hq k3
 |three k1 k2 k3 k4 k5 k6=>
  obtain ⟨rfl,rfl,-⟩:=h.uniq k2;exact hn.use k4 (hf.sub (by simp;omega) (fun x hx=>by simp [hx])) (by rw [k4.zero (by intros;simp)];omega)
theorem qE {tk:List Tk} {p d:Nat} {a b:List Cl} {q m q2 m2:Nat} (h:Rs tk (.level 2) p (d+1) a q m) (hq:isT tk q [63]=true) (h2:Rs tk .choice (q+1) (d+1) b q2 m2) (hc:isT tk q2 [58]=false):NoRd tk .choice p d:=by
 rintro ⟨c,q',m',k,hf,-⟩
 cases k with
 |one k1 k2 k3=>obtain ⟨rfl,rfl,-⟩:=h.uniq k2;exact tf hq k3
 |three k1 k2 k3 k4 k5 k6=>
  obtain ⟨rfl,rfl,-⟩:=h.uniq k2;obtain ⟨rfl,rfl,-⟩:=h2.uniq k4;exact tf k5 hc
theorem qF {tk:List Tk} {p d:Nat} {a b:List Cl} {q m q2 m2:Nat} (h:Rs tk (.level 2) p (d+1) a q m) (hq:isT tk q [63]=true) (h2:Rs tk .choice (q+1) (d+1) b q2 m2) (hn:NoRd tk .choice (q2+1) (d+1)):NoRd tk .choice p d:=by
 rintro ⟨c,q',m',k,hf,-⟩
 cases k with
 |one k1 k2 k3=>obtain ⟨rfl,rfl,-⟩:=h.uniq k2;exact tf hq k3
 |three k1 k2 k3 k4 k5 k6=>
  obtain ⟨rfl,rfl,-⟩:=h.uniq k2;obtain ⟨rfl,rfl,-⟩:=h2.uniq k4;exact hn.use k6 (hf.sub (by simp;omega) (fun x hx=>by simp [hx])) (by rw [k6.zero (by intros;simp)];omega)
theorem aaT {tk:List Tk} {r p d:Nat} (hr:r<7) (h:NoRd tk (.level (r+1)) p d):NoRd tk (.level r) p d:=by
 rintro ⟨c,q,m,k,hf,-⟩
 cases k with
 |seven k=>omega
 |level k1 k2 k3=>
  have l1:=k3.le.2.2.1;have l2:=k3.mem;exact h.use k2 (hf.sub l1 l2) (by rw [k2.zero (by intros;simp)];omega)
theorem r9 {tk:List Tk} {p d:Nat} (h:NoRd tk .unary p d):NoRd tk (.level 7) p d:=by
 rintro ⟨c,q,m,k,hf,-⟩
 cases k with
 |seven k=>exact h.use k hf (by rw [k.zero (by intros;simp)];omega)
 |level k1 k2 k3=>omega
def Through (tk:List Tk) (r p d n:Nat) (a:List Cl) (q:Nat):Prop:=
 (∀c q2 m2,Rs tk (.loop r n a) q d c q2 m2→Rs tk (.level r) p d c q2 0)∧(∀c q2 m2,Rs tk (.level r) p d c q2 m2→Rs tk (.loop r n a) q d c q2 0)
theorem Through.start {tk:List Tk} {r p d:Nat} {a:List Cl} {q m:Nat} (hr:r<7) (h:Rs tk (.level (r+1)) p d a q m):Through tk r p d 0 a q:=by
 refine ⟨fun c q2 m2 k=> .level hr h k,fun c q2 m2 k=> ?_⟩
 cases k with
 |seven k=>omega
 |level k1 k2 k3=>
  obtain ⟨rfl,rfl,-⟩:=h.uniq k2;have:=k3.zero (by intros;simp);subst this;exact k3
theorem Through.next {tk:List Tk} {r p d n:Nat} {a b:List Cl} {q q1 m:Nat} {s:ByteArray} (h:Through tk r p d n a q) (h1:rkT tk q=(r:Int)) (h2:r≠4∨n=0) (h3:tk[q]? =some (4,s)) (h4:Rs tk (.level (r+1)) (q+1) d b q1 m):
  Through tk r p d (n+1) ((8,s,2)::(a++b)) q1:=by
 refine ⟨fun c q2 m2 k=>h.1 c q2 0 (.more h1 h2 h3 h4 k),fun c q2 m2 k=> ?_⟩;have k':=h.2 c q2 m2 k;clear k
 cases k' with
 |stop z=>
  rcases z with z|⟨z,zn⟩
  ·exact absurd h1 z
  ·rcases h2 with h2|h2
   ·exact absurd z h2
   ·exact absurd h2 zn
 |more k1 k2 k3 k4 k5=>
  have e:=b5 h3 k3;simp only [Prod.mk.injEq,true_and] at e;subst e;obtain ⟨rfl,rfl,-⟩:=h4.uniq k4;have:=k5.zero (by intros;simp);subst this;exact k5
theorem Through.done {tk:List Tk} {r p d n:Nat} {a:List Cl} {q:Nat} (h:Through tk r p d n a q) (hs:rkT tk q≠(r:Int)∨(r=4∧n≠0)):Rs tk (.level r) p d a q 0:=h.1 a q 0 (.stop hs)
theorem Through.fail {tk:List Tk} {r p d n:Nat} {a:List Cl} {q:Nat} (h:Through tk r p d n a q) (h1:rkT tk q=(r:Int)) (h2:r≠4∨n=0) (hn:NoRd tk (.level (r+1)) (q+1) d):NoRd tk (.level r) p d:=by
 rintro ⟨c,q2,m2,k,hf,-⟩;have k':=h.2 c q2 m2 k;clear k
 cases k' with
 |stop z=>
  rcases z with z|⟨z,zn⟩
  ·exact absurd h1 z
  ·rcases h2 with h2|h2
   ·exact absurd z h2
   ·exact absurd h2 zn
 |more k1 k2 k3 k4 k5=>
  have l1:=k5.le.2.2.1;have l2:=k5.mem;simp only [Job.held,List.length_cons,agE] at l1 l2;exact hn.use k4 (hf.sub (by omega) (fun x hx=>l2 x (by simp [hx]))) (by rw [k4.zero (by intros;simp)];omega)
theorem Through.long {tk:List Tk} {r p d n:Nat} {a:List Cl} {q:Nat} (h:Through tk r p d n a q) (hl:60<a.length):NoRd tk (.level r) p d:=by
 rintro ⟨c,q2,m2,k,hf,-⟩;have l1:=(h.2 c q2 m2 k).le.2.2.1;simp only [Job.held] at l1;have:=hf.1
 omega
theorem nA {tk:List Tk} {p d:Nat} (hu:bA tk p=true) (h: ¬d+1≤41):NoRd tk .unary p d:=by
 rintro ⟨c,q,m,k,-,-⟩
 cases k with
 |sign k1 k2 k3 k4=>exact h k3
 |plain k1 k2=>exact tf hu k1
theorem sa {tk:List Tk} {p d:Nat} (hu:bA tk p=true) (h:NoRd tk .unary (p+1) (d+1)):NoRd tk .unary p d:=by
 rintro ⟨c,q,m,k,hf,-⟩
 cases k with
 |sign k1 k2 k3 k4=>exact h.use k4 (hf.sub (by simp) (fun x hx=>by simp [hx])) (by rw [k4.zero (by intros;simp)];omega)
 |plain k1 k2=>exact tf hu k1
theorem sb {tk:List Tk} {p d:Nat} (hu:bA tk p=false) (h:NoRd tk .atom p d):NoRd tk .unary p d:=by
 rintro ⟨c,q,m,k,hf,-⟩
 cases k with
 |sign k1 k2 k3 k4=>exact tf k1 hu
 |plain k1 k2=>exact h.use k2 hf (by rw [k2.zero (by intros;simp)];omega)
def Among (tk:List Tk) (w:List UInt8) (p d n:Nat) (out:List Cl) (q:Nat):Prop:=
 (∀c q2 m2,Rs tk (.parts w n out) q d c q2 m2→Rs tk (.parts w 0 []) p d c q2 m2)∧(∀c q2 m2,Rs tk (.parts w 0 []) p d c q2 m2→Rs tk (.parts w n out) q d c q2 m2)
theorem Among.start (tk:List Tk) (w:List UInt8) (p d:Nat):Among tk w p d 0 [] p:=⟨fun _ _ _ k=>k,fun _ _ _ k=>k⟩
theorem Among.done {tk:List Tk} {w:List UInt8} {p d n:Nat} {out:List Cl} {q:Nat} (h:Among tk w p d n out q) (hs:isT tk q w=true):Rs tk (.parts w 0 []) p d out (q+1) n:=h.1 out (q+1) n (.close hs)
theorem Among.next {tk:List Tk} {w:List UInt8} {p d n:Nat} {out a:List Cl} {q q0 q1 m:Nat} (h:Among tk w p d n out q) (hs:isT tk q w=false) (h1:n=0→q0=q) (h2:n≠0→isT tk q [44]=true∧q0=q+1) (hr:Rs tk .choice q0 d a q1 m):Among tk w p d (n+1) (out++a) q1:=by
 refine ⟨fun c q2 m2 k=>h.1 c q2 m2 (.part hs h1 h2 hr k),fun c q2 m2 k=> ?_⟩;have k':=h.2 c q2 m2 k;clear k
 cases k' with
 |close z=>exact tf z hs
 | @part _ _ _ _ q0' _ _ _ _ _ _ _ k1 k2 k3 k4 k5=>
  have e:q0=q0':=by
   by_cases hn:n=0
   ·rw [h1 hn,k2 hn]
   ·rw [(h2 hn).2,(k3 hn).2]
  subst e;obtain ⟨rfl,rfl,-⟩:=hr.uniq k4;exact k5
theorem Among.comma {tk:List Tk} {w:List UInt8} {p d n:Nat} {out:List Cl} {q:Nat} (h:Among tk w p d n out q) (hs:isT tk q w=false) (hn:n≠0) (hc:isT tk q [44]=false):NoRd tk (.parts w 0 []) p d:=by
 rintro ⟨c,q2,m2,k,hf,-⟩;have k':=h.2 c q2 m2 k;clear k
 cases k' with
 |close z=>exact tf z hs
 |part k1 k2 k3 k4 k5=>exact tf (k3 hn).1 hc
theorem Among.fail {tk:List Tk} {w:List UInt8} {p d n:Nat} {out:List Cl} {q q0:Nat} (h:Among tk w p d n out q) (hs:isT tk q w=false) (h1:n=0→q0=q) (h2:n≠0→isT tk q [44]=true∧q0=q+1) (hr:NoRd tk .choice q0 d):NoRd tk (.parts w 0 []) p d:=by
 rintro ⟨c,q2,m2,k,hf,-⟩;have k':=h.2 c q2 m2 k;clear k
 cases k' with
 |close z=>exact tf z hs
 | @part _ _ _ _ q0' _ _ _ _ _ _ _ k1 k2 k3 k4 k5=>
  have e:q0=q0':=by
   by_cases hn:n=0
   ·rw [h1 hn,k2 hn]
   ·rw [(h2 hn).2,(k3 hn).2]
  subst e;have l1:=k5.le.2.2.1;have l2:=k5.mem;simp only [Job.held,agE] at l1 l2;exact hr.use k4 (hf.sub (by omega) (fun x hx=>l2 x (by simp [hx]))) (by rw [k4.zero (by intros;simp)];omega)
theorem Among.many {tk:List Tk} {w:List UInt8} {p d n:Nat} {out:List Cl} {q:Nat} (h:Among tk w p d n out q) (hs:isT tk q w=false) (hn:8≤n):NoRd tk (.parts w 0 []) p d:=by
 rintro ⟨c,q2,m2,k,hf,hm⟩;have k':=h.2 c q2 m2 k;clear k
 cases k' with
 |close z=>exact tf z hs
 |part k1 k2 k3 k4 k5=>
  have:=k5.many;simp only [Job.many] at this
  omega
def nC (w:List UInt8):Bool:=w==[40]||w==[91]||w==[63]||w==[33]||w==[45]
def iX (x:Tk):Bool:=x.1==4&&nC x.2.data.toList
def ld (tk:List Tk) (p:Nat):Nat:=(tk.take p).countP iX
theorem bO (tk:List Tk) {p q:Nat} (h:p≤q):ld tk p≤ld tk q:=by
 unfold ld
 have:tk.take q=tk.take p++(tk.drop p).take (q-p):=by
  rw [←List.take_add];congr 1;omega
 rw [this,List.countP_append];omega
theorem aaU (tk:List Tk) (p:Nat):ld tk p≤tk.countP iX:=by
 unfold ld;have:=List.take_append_drop p tk
 calc (tk.take p).countP iX≤(tk.take p).countP iX+(tk.drop p).countP iX:=Nat.le_add_right _ _
  _=(tk.take p++tk.drop p).countP iX:=(List.countP_append).symm
  _=tk.countP iX:=by rw [this]
theorem gd {tk:List Tk} {p:Nat} {w:List UInt8} (h:isT tk p w=true) (hw:w=[40]∨w=[91]∨w=[63]∨w=[33]∨w=[45]):ld tk (p+1)=ld tk p+1:=by
 obtain ⟨s,hs,rfl⟩:=dK h;obtain ⟨hl,he⟩:=List.getElem?_eq_some_iff.mp hs;unfold ld;rw [←List.take_append_getElem hl,List.countP_append,he]
 have hn:iX (4,s)=true:=by
  unfold iX nC
  rcases hw with hw|hw|hw|hw|hw<;>simp [hw]
 rw [List.countP_cons,if_pos hn,List.countP_nil]
theorem aaV {tk:List Tk} {p:Nat} (h:bA tk p=true):ld tk (p+1)=ld tk p+1:=by
 unfold bA at h;rw [Bool.or_eq_true] at h
 rcases h with h|h
 ·exact gd h (by simp)
 ·exact gd h (by simp)
theorem ja {tk:List Tk} {p:Nat} {w:List UInt8} (h:isT tk p w=true) (hw:ap w=0):rkT tk p=0:=by
 obtain ⟨s,hs,rfl⟩:=dK h;unfold rkT;rw [hs];simp only [if_true];exact hw
theorem xw {tk:List Tk} {p:Nat} (h:tk.length≤p):rkT tk p=0:=by
 unfold rkT;rw [List.getElem?_eq_none h]
theorem xx (tk:List Tk) (p:Nat):rkT tk p≤6∧0≤rkT tk p:=by
 unfold rkT
 split
 ·rename_i k s hs
  split
  ·unfold ap;repeat' split
   all_goals omega
  ·omega
 ·omega
def GJob.hn:GJob→Nat
 | .loop _ _ na=>na
 | .series _ _ _ no=>no
 |_=>0
theorem Rg.few {tk:List Tk} {j:GJob} {p:Nat} {c:List Cl} {q m n:Nat} (h:Rg tk j p c q m n):n≤j.hn∨n+ld tk p≤ld tk q:=by
 induction h with
 |one h1 h2 i=>exact i
 | @three p a q m n b q2 m2 n2 c q3 m3 n3 h1 h2 h3 h4 h5 i1 i2 i3=>
  have e:=gd h2 (by simp);have l1:=bO tk h1.le.2.2.2;have l2:=bO tk h3.le.2.2.2;have l3:=bO tk h5.le.2.2.2;have l4:=bO tk (Nat.le_succ q2);simp only [GJob.hn] at i1 i2 i3⊢
  right;simp only [Nat.succ_eq_add_one] at l4;omega
 |bin h1 h2 i1 i2=>
  have l1:=bO tk h1.le.2.2.2;have l2:=bO tk h2.le.2.2.2;simp only [GJob.hn] at i1 i2⊢
  omega
 |stop h=>left;exact agD _
 | @more r k a na p s b q m n c q2 m2 n2 h1 h2 h3 h4 h5 h6 h7 i1 i2=>
  have l1:=bO tk h5.le.2.2.2;have l2:=bO tk h7.le.2.2.2;have l4:=bO tk (Nat.le_succ p);simp only [GJob.hn,Nat.succ_eq_add_one] at i1 i2 l4⊢
  omega
 | @sign p s a q m n h1 h2 h3 i=>
  have e:=aaV h1;simp only [GJob.hn] at i⊢;have l1:=bO tk h3.le.2.2.2
  omega
 |plain h1 h2 i=>exact i
 |num h1 h2=>left;exact agH _
 |text h1 h2=>left;exact agH _
 |truth h1 h2=>left;exact agH _
 |name h1 h2 h3 h4=>left;exact agH _
 | @call p s l q m n h1 h2 h3 h4 h5 i=>
  have e:ld tk (p+2)=ld tk (p+1)+1:=gd h4 (by simp);have l1:=bO tk h5.le.2.2.2;have l4:=bO tk (Nat.le_succ p);simp only [GJob.hn,Nat.succ_eq_add_one] at i l4⊢
  omega
 | @paren p a q m n h1 h2 h3 i=>
  have e:=gd h1 (by simp);have l1:=bO tk h2.le.2.2.2;have l4:=bO tk (Nat.le_succ q);simp only [GJob.hn,Nat.succ_eq_add_one] at i l4⊢
  omega
 | @list p l q m n h1 h2 i=>
  have e:=gd h1 (by simp);have l1:=bO tk h2.le.2.2.2;simp only [GJob.hn] at i⊢
  omega
 |close h=>left;exact agD _
 | @part w k out no p p0 a q m n c q2 m2 n2 h1 h2 h3 h4 h5 i1 i2=>
  have KY:p≤p0:=by
   by_cases hk:k=0
   ·rw [h2 hk];exact agD _
   ·rw [(h3 hk).2];omega
  have l0:=bO tk KY;have l1:=bO tk h4.le.2.2.2;have l2:=bO tk h5.le.2.2.2;simp only [GJob.hn] at i1 i2⊢
  omega
inductive Fd (tk:List Tk) (d:Nat):Nat→List Cl→Nat→List Cl→Nat→Prop
 |top {a p}:Fd tk d 7 a p a p
 |step {r a p a' p' c q}:r<7→Fd tk d (r+1) a p a' p'→Rs tk (.loop r 0 a') p' d c q 0→Fd tk d r a p c q
theorem Fd.level {tk:List Tk} {d r p0 m:Nat} {a c:List Cl} {p q:Nat} (h:Fd tk d r a p c q) (hu:Rs tk .unary p0 d a p m):Rs tk (.level r) p0 d c q 0:=by
 induction h with
 |top=>exact .seven hu
 |step h1 h2 h3 i=>exact .level h1 (i hu) h3
theorem Fd.same {tk:List Tk} (d:Nat) (a:List Cl) (p:Nat): ∀(k r:Nat),r+k=7→rkT tk p<(r:Int)→Fd tk d r a p a p:=by
 intro k
 induction k with
 |zero=>intro r hr hk;obtain rfl:r=7:=by omega
        exact .top
 |succ k ih=>intro r hr hk;exact .step (by omega) (ih (r+1) (by omega) (by omega)) (.stop (.inl (by omega)))
theorem Fd.still {tk:List Tk} {d r:Nat} {a c:List Cl} {p q:Nat} (h:Fd tk d r a p c q) (hr:rkT tk p<(r:Int)):c=a∧q=p:=by
 induction h with
 |top=>exact ⟨rfl,rfl⟩
 |step h1 h2 h3 i=>
  obtain ⟨rfl,rfl⟩:=i (by omega)
  cases h3 with
  |stop k=>exact ⟨rfl,rfl⟩
  |more k1 k2 k3 k4 k5=>omega
theorem yv {tk:List Tk} {r n:Nat} {a:List Cl} {p d:Nat} {c:List Cl} {q m:Nat} (hr:r≠4) (h:Rs tk (.loop r n a) p d c q m): ∀n',Rs tk (.loop r n' a) p d c q 0:=by
 generalize hj:Job.loop r n a=j at h
 induction h generalizing n a with
 |stop h=>
  cases hj
  intro n';exact .stop (.inl (h.resolve_right (fun h=>hr h.1)))
 |more h1 h2 h3 h4 h5 i1 i2=>
  cases hj
  intro n';exact .more h1 (.inl hr) h3 h4 (i2 rfl (n'+1))
 |_=>cases hj
theorem Fd.more {tk:List Tk} {d r k:Nat} {A a b c:List Cl} {p q q2:Nat} {s:ByteArray} (hk:k≤6) (h1:rkT tk p=(k:Int)) (h2:tk[p]? =some (4,s)) (h3:Rs tk (.level (k+1)) (p+1) d b q 0)
  (h4:rkT tk q<((k+1:Nat):Int)) (h5: ¬(k=4∧rkT tk q=4)) (hA:A=(8,s,2)::(a++b)) (h:Fd tk d r A q c q2) (hr:r≤k):Fd tk d r a p c q2:=by
 induction h with
 |top=>omega
 | @step r A q a' p' c q2 g1 g2 g3 i=>
  subst hA
  by_cases Da:r=k
  ·subst Da
   obtain ⟨rfl,rfl⟩:=g2.still h4;refine .step g1 (Fd.same d a p (6-r) (r+1) (by omega) (by omega)) (.more (m2:=0) h1 (.inr rfl) h2 h3 ?_)
   by_cases Nn:r=4
   ·subst Nn
    cases g3 with
    |stop k=>exact .stop (.inl (fun e=>h5 ⟨rfl,e⟩))
    |more k1 k2 k3 k4 k5=>exact absurd ⟨rfl,k1⟩ h5
   ·exact yv Nn g3 1
  ·exact .step g1 (i h3 h4 h5 rfl (by omega)) g3
theorem Rg.ends {tk:List Tk} {j:GJob} {p:Nat} {c:List Cl} {q m n:Nat} (h:Rg tk j p c q m n): ∀r,(j= .bin r∨ ∃a na,j= .loop r a na)→rkT tk q<(r:Int):=by
 induction h with
 |bin h1 h2 i1 i2=>intro r hr;rcases hr with hr|⟨a,na,hr⟩
                   ·cases hr;exact i2 _ (.inr ⟨_,_,rfl⟩)
                   ·cases hr
 |stop h=>intro r hr;rcases hr with hr|⟨a,na,hr⟩
          ·cases hr
          ·cases hr;exact h
 |more h1 h2 h3 h4 h5 h6 h7 i1 i2=>intro r hr;rcases hr with hr|⟨a,na,hr⟩
                                   ·cases hr
                                   ·cases hr;exact i2 _ (.inr ⟨_,_,rfl⟩)
 |_=>intro r hr;rcases hr with hr|⟨a,na,hr⟩<;>cases hr
def AgL (tk:List Tk):GJob→Nat→List Cl→Nat→Nat→Nat→Prop
 | .choice,p,c,q,m,n=> ∀d,n+d≤40→Rs tk .choice p d c q 0
 | .bin r,p,c,q,m,n=>r≤7→ ∀d,n+d≤41→Rs tk (.level r) p d c q 0
 | .loop r a na,p,c,q,m,n=>r≤7→ ∀d,n+d≤41→Fd tk d r a p c q
 | .unary,p,c,q,m,n=> ∀d,n+d≤41→Rs tk .unary p d c q 0
 | .single,p,c,q,m,n=> ∀d,n+d≤41→Rs tk .atom p d c q 0
 | .series w k out no,p,c,q,m,n=> ∀d,n+d≤40→Rs tk (.parts w k out) p d c q m
theorem Rg.least {tk:List Tk} {j:GJob} {p:Nat} {c:List Cl} {q m n:Nat} (h:Rg tk j p c q m n):j.hn≤n:=by
 induction h with
 |stop h=>exact agD _
 |close h=>exact agD _
 |more h1 h2 h3 h4 h5 h6 h7 i1 i2=>simp only [GJob.hn] at i2⊢;omega
 |part h1 h2 h3 h4 h5 i1 i2=>simp only [GJob.hn] at i2⊢;omega
 |_=>exact agH _
theorem Rg.levels {tk:List Tk} {j:GJob} {p:Nat} {c:List Cl} {q m n:Nat} (h:Rg tk j p c q m n):AgL tk j p c q m n:=by
 induction h with
 |one h1 h2 i=>intro d hd;exact .one (by omega) (i (by omega) (d+1) (by omega)) h2
 |three h1 h2 h3 h4 h5 i1 i2 i3=>intro d hd;exact .three (by omega) (i1 (by omega) (d+1) (by omega)) h2 (i2 (d+1) (by omega)) h4 (i3 (d+1) (by omega))
 |bin h1 h2 i1 i2=>
  intro hr d hd;have:=h2.least;simp only [GJob.hn] at this;exact (i2 hr d hd).level (i1 d (by omega))
 | @stop r a na p h=>intro hr d hd;exact Fd.same d a p (7-r) r (by omega) h
 | @more r k a na p s b q m n c q2 m2 n2 h1 h2 h3 h4 h5 h6 h7 i1 i2=>
  intro hr d hd;have hk:=(xx tk p).1;rw [h1] at hk;have:=h7.least;simp only [GJob.hn] at this;exact Fd.more (by omega) h1 h4 (i1 (by omega) d (by omega)) (h5.ends _ (.inl rfl)) h6 rfl (i2 hr d hd) h2
 |sign h1 h2 h3 i=>intro d hd;exact .sign h1 h2 (by omega) (i (d+1) (by omega))
 |plain h1 h2 i=>intro d hd;exact .plain h1 (i d hd)
 |num h1 h2=>intro d hd;exact .num h1 h2
 |text h1 h2=>intro d hd;exact .text h1 h2
 |truth h1 h2=>intro d hd;exact .truth h1 h2
 |name h1 h2 h3 h4=>intro d hd;exact .name h1 h2 h3 h4
 |call h1 h2 h3 h4 h5 i=>intro d hd;exact .call h1 h2 h3 h4 (i d (by omega))
 |paren h1 h2 h3 i=>intro d hd;exact .paren h1 (i d (by omega)) h3
 |list h1 h2 i=>intro d hd;exact .list h1 (i d (by omega))
 |close h=>intro d hd;exact .close h
 |part h1 h2 h3 h4 h5 i1 i2=>
  intro d hd;have:=h5.least;simp only [GJob.hn] at this;exact .part h1 h2 h3 (i1 d (by omega)) (i2 d hd)
theorem Rg.further {tk:List Tk} {r:Nat} {a:List Cl} {na p:Nat} {a':List Cl} {q m n:Nat} (h:Rg tk (.loop (r+1) a na) p a' q m n): ∀{c q2 m2 n2},Rg tk (.loop r a' n) q c q2 m2 n2→Rg tk (.loop r a na) p c q2 0 n2:=by
 generalize hj:GJob.loop (r+1) a na=j at h
 induction h generalizing a na with
 |stop h=>
  cases hj
  intro c q2 m2 n2 k
  cases k with
  |stop k=>exact .stop k
  |more k1 k2 k3 k4 k5 k6 k7=>exact .more k1 k2 k3 k4 k5 k6 k7
 |more h1 h2 h3 h4 h5 h6 h7 i1 i2=>
  cases hj
  intro c q2 m2 n2 k;exact .more h1 (by omega) h3 h4 h5 h6 (i2 rfl k)
 |_=>cases hj
def Le (tk:List Tk) (r q:Nat):Prop:=rkT tk q<(r:Int)∨(rkT tk q=4∧r≤4)
def AgG (tk:List Tk):Job→Nat→List Cl→Nat→Nat→Prop
 | .choice,p,c,q,m=>rkT tk q≠4→ ∃n,Rg tk .choice p c q 0 n
 | .level r,p,c,q,m=>1≤r→Le tk r q∧((rkT tk q≠4∨4<r)→ ∃n,Rg tk (.bin r) p c q 0 n)
 | .loop r _ a,p,c,q,m=>1≤r→r<7→Le tk (r+1) p→Le tk r q∧((rkT tk q≠4∨4<r)→ ∀na,∃n,Rg tk (.loop r a na) p c q 0 n)
 | .unary,p,c,q,m=> ∃n,Rg tk .unary p c q 0 n
 | .atom,p,c,q,m=> ∃n,Rg tk .single p c q 0 n
 | .parts w k out,p,c,q,m=>ap w=0→ ∀no,∃n,Rg tk (.series w k out no) p c q m n
theorem lZ {tk:List Tk} {r n:Nat} {a:List Cl} {p d:Nat} {c:List Cl} {q m:Nat} (h:Rs tk (.loop r n a) p d c q m) (hp:rkT tk p=4) (hr:r≠4∨n≠0):q=p:=by
 cases h with
 |stop h=>rfl
 |more h1 h2 h3 h4 h5=>
  rcases hr with hr|hr
  ·omega
  ·rcases h2 with h2|h2
   ·omega
   ·exact absurd h2 hr
theorem Rs.strength {tk:List Tk} {j:Job} {p d:Nat} {c:List Cl} {q m:Nat} (h:Rs tk j p d c q m):AgG tk j p c q m:=by
 induction h with
 |one h1 h2 h3 i=>
  intro hq;obtain ⟨n,hn⟩:=(i (by omega)).2 (.inl hq);exact ⟨n, .one hn h3⟩
 |three h1 h2 h3 h4 h5 h6 i1 i2 i3=>
  intro hq;obtain ⟨n,hn⟩:=(i1 (by omega)).2 (.inl (by rw [ja h3 (by decide)];decide));obtain ⟨n2,DE⟩:=i2 (by rw [ja h5 (by decide)];decide);obtain ⟨n3,Ki⟩:=i3 hq;exact ⟨_, .three hn h3 DE h5 Ki⟩
 | @seven p d a q m h i=>
  intro _;have:=xx tk q;obtain ⟨n,hn⟩:=i;exact ⟨.inl (by omega),fun _=>⟨n, .bin hn (.stop (by omega))⟩⟩
 | @level r p d a q m c q2 m2 h1 h2 h3 i1 i2=>
  intro hr;obtain ⟨e1,g1⟩:=i1 (by omega);obtain ⟨e2,g2⟩:=i2 hr h1 e1;refine ⟨e2,fun hq=> ?_⟩
  obtain ⟨n1,k1⟩:=g1 (by
   by_cases h4:rkT tk q=4
   ·by_cases Bg:4<r+1
    ·exact .inr Bg
    ·have:=lZ h3 h4 (.inl (by omega))
     subst this
     omega
   ·exact .inl h4)
  cases k1 with
  |bin k1 k2=>
   obtain ⟨n2,k3⟩:=g2 hq n1;exact ⟨n2, .bin k1 (k2.further k3)⟩
 | @stop r n a p d h=>
  intro h1 h2 he
  have MR:Le tk r p:=by
   unfold Le at he⊢
   omega
  refine ⟨MR,fun hq na=>⟨na, .stop (by unfold Le at MR;omega)⟩⟩
 | @more r n a p d s b q m c q2 m2 h1 h2 h3 h4 h5 i1 i2=>
  intro Ck EI he;obtain ⟨e1,g1⟩:=i1 (by omega);obtain ⟨e2,g2⟩:=i2 Ck EI e1;refine ⟨e2,fun hq na=> ?_⟩
  obtain ⟨n1,k1⟩:=g1 (by
   by_cases KZ:rkT tk q=4
   ·by_cases Bg:4<r+1
    ·exact .inr Bg
    ·have:=lZ h5 KZ (.inl (by omega))
     subst this
     omega
   ·exact .inl KZ)
  obtain ⟨n2,k2⟩:=g2 hq (max na n1);refine ⟨n2, .more h1 (agD _) (by omega) h3 k1 (fun h=> ?_) k2⟩;have:=lZ h5 h.2 (.inr (by omega));subst this
  omega
 |sign h1 h2 h3 h4 i=>obtain ⟨n,hn⟩:=i;exact ⟨_, .sign h1 h2 hn⟩
 |plain h1 h2 i=>obtain ⟨n,hn⟩:=i;exact ⟨_, .plain h1 hn⟩
 |num h1 h2=>exact ⟨_, .num h1 h2⟩
 |text h1 h2=>exact ⟨_, .text h1 h2⟩
 |truth h1 h2=>exact ⟨_, .truth h1 h2⟩
 |name h1 h2 h3 h4=>exact ⟨_, .name h1 h2 h3 h4⟩
 |call h1 h2 h3 h4 h5 i=>obtain ⟨n,hn⟩:=i (by decide) 0;exact ⟨_, .call h1 h2 h3 h4 hn⟩
 |paren h1 h2 h3 i=>obtain ⟨n,hn⟩:=i (by rw [ja h3 (by decide)];decide);exact ⟨_, .paren h1 hn h3⟩
 |list h1 h2 i=>obtain ⟨n,hn⟩:=i (by decide) 0;exact ⟨_, .list h1 hn⟩
 |close h=>intro _ no;exact ⟨_, .close h⟩
 | @part w n out p p0 d a q m c q2 m2 h1 h2 h3 h4 h5 i1 i2=>
  intro hw no
  have hq:rkT tk q=0:=by
   cases h5 with
   |close k=>exact ja k hw
   |part k1 k2 k3 k4 k5=>exact ja (k3 (by omega)).1 (by decide)
  obtain ⟨n1,k1⟩:=i1 (by rw [hq];decide);obtain ⟨n2,k2⟩:=i2 hw (max no n1);exact ⟨n2, .part h1 h2 h3 k1 k2⟩
theorem mK {tk:List Tk} {c:List Cl} {n:Nat} (h:Rg tk .choice 0 c tk.length 0 n) (hn:n≤40):Rs tk .choice 0 0 c tk.length 0:=h.levels 0 (by omega)
theorem sd {tk:List Tk} (hT:tk.countP iX≤40) {c:List Cl} (h:Rs tk .choice 0 0 c tk.length 0): ∃n,Rg tk .choice 0 c tk.length 0 n∧n≤40:=by
 obtain ⟨n,hn⟩:=h.strength (by rw [xw (agD _)];decide);refine ⟨n,hn, ?_⟩;have:=hn.few;simp only [GJob.hn] at this;have:=aaU tk tk.length
 omega
theorem xy (a b:List UInt8):nbL (a++b)=nbL a+nbL b:=List.countP_append
theorem aaW {w:List UInt8} (h:nC w=true):1≤nbL w:=by
 simp only [nC,Bool.or_eq_true,beq_iff_eq] at h
 rcases h with (((rfl|rfl)|rfl)|rfl)|rfl<;>decide
theorem uC (ts:List (Int×Nat×Nat)): ∀(a:Nat) (l:List UInt8),kh a l ts→ts.countP (fun x=>x.1==4&&nC ((l.drop (x.2.1-a)).take (x.2.2-x.2.1)))≤nbL l:=by
 induction ts with
 |nil=>intro a l _;exact agH _
 |cons y ts ih=>
  intro a l h;obtain ⟨k,f,t⟩:=y;obtain ⟨j,n,rfl,rfl,h3,h4,h5,h6⟩:=h;have CN:=nv ts _ _ h6;have hi:=ih _ _ h6
  have hl:l=l.take j++((l.drop j).take n++l.drop (j+n)):=by
   rw [←List.drop_drop,List.take_append_drop,List.take_append_drop]
  have hn:nbL l=nbL (l.take j)+(nbL ((l.drop j).take n)+nbL (l.drop (j+n))):=by
   conv=>lhs;rw [hl]
   rw [xy,xy]
  have hc:ts.countP (fun x=>x.1==4&&nC ((l.drop (x.2.1-a)).take (x.2.2-x.2.1)))=ts.countP (fun x=>x.1==4&&nC (((l.drop (j+n)).drop (x.2.1-(a+j+n))).take (x.2.2-x.2.1))):=by
   apply List.countP_congr
   intro x hx;have:=(CN x hx).1;rw [List.drop_drop,show j+n+(x.2.1-(a+j+n))=x.2.1-a by omega]
  rw [List.countP_cons,hc];simp only [Nat.add_sub_cancel_left]
  split
  ·rename_i hh
   simp only [Bool.and_eq_true] at hh;have:=aaW hh.2
   omega
  ·omega
theorem yw (s:ByteArray):(cg s).countP iX≤nbL s.data.toList:=by
 unfold cg;rw [List.countP_map]
 rcases kF (s:=s) with hc|hc
 ·have:=uC _ _ _ hc
  refine Nat.le_trans (Nat.le_of_eq ?_) this
  apply List.countP_congr
  intro x hx;simp only [Function.comp,iX];rw [ByteArray.data_extract,Array.toList_extract,List.extract_eq_take_drop]
  simp
 ·rw [hc];exact agH _
def nbB (s:ByteArray):Nat:=nbL s.data.toList
end Go.Proofs.YtegdjjjpoahamaaGreatDoor
