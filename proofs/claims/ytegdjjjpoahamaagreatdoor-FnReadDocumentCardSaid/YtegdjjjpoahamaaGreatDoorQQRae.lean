/-
  Part of the proof of FnReadDocument.
-/
import Derived.Test.YtegdjjjpoahamaaGreatDoorQQRac
import Derived.Deep.Slices
import Derived.Deep.Strs
import Derived.Deep.Fields
import Derived.ChangeSame
import Derived.Below
import Derived.Deep.AppendLies
import Derived.OwnWalk
import Derived.Laws.OwnMore
import Derived.Laws.Rows
import Derived.Laws.AppendOwnNone
set_option linter.unusedVariables false
namespace Go.Proofs.YtegdjjjpoahamaaGreatDoor
inductive Exs (am:List Nat):Nat→Nat→Nat→Nat→Prop
 |nil (f:Nat):Exs am 0 f f 0
 |cons {f m g d n t e:Nat}:am[f]? =some m→Exs am m (f+1) g d→Exs am n g t e→Exs am (n+1) f t (max (d+1) e)
theorem Exs.le {am:List Nat} {n f t d:Nat} (h:Exs am n f t d):f+n≤t∧(n≠0→t≤am.length):=by
 induction h with
 |nil f=>exact ⟨by omega,fun h=>absurd rfl h⟩
 | @cons f m g d n t e hm h1 h2 i1 i2=>
  have hf:f<am.length:=by
   by_cases hk:f<am.length
   ·exact hk
   ·rw [List.getElem?_eq_none (by omega)] at hm;cases hm
  refine ⟨by omega,fun _=> ?_⟩
  by_cases hn:n=0
  ·subst hn
   cases h2
   by_cases GJ:m=0
   ·subst GJ;cases h1;omega
   ·exact i1.2 GJ
  ·exact i2.2 hn
theorem Exs.uniq {am:List Nat} {n f t d:Nat} (h:Exs am n f t d): ∀{t' d':Nat},Exs am n f t' d'→t=t'∧d=d':=by
 induction h with
 |nil f=>intro t' d' h';cases h';exact ⟨rfl,rfl⟩
 | @cons f m g d n t e hm h1 h2 i1 i2=>
  intro t' d' h'
  cases h' with
  | @cons _ m' g' d1 _ _ e1 EO k1 k2=>
   rw [hm] at EO;injection EO with EO;subst EO
   obtain ⟨rfl,rfl⟩:=i1 k1;obtain ⟨rfl,rfl⟩:=i2 k2;exact ⟨rfl,rfl⟩
theorem Exs.app {am:List Nat} {a f g d:Nat} (h:Exs am a f g d): ∀{b t e:Nat},Exs am b g t e→Exs am (a+b) f t (max d e):=by
 induction h with
 |nil f=>intro b t e k;rw [Nat.zero_add,Nat.zero_max];exact k
 | @cons f m g d n t e hm h1 h2 i1 i2=>
  intro b t' e' k;rw [show n+1+b=(n+b)+1 by omega,Nat.max_assoc];exact .cons hm h1 (i2 k)
theorem Exs.split {am:List Nat} {a:Nat}: ∀{b f t d:Nat},Exs am (a+b) f t d→ ∃g d1 d2,Exs am a f g d1∧Exs am b g t d2∧d=max d1 d2:=by
 induction a with
 |zero=>intro b f t d h;rw [Nat.zero_add] at h;exact ⟨f,0,d, .nil f,h,by simp⟩
 |succ a ih=>
  intro b f t d h;rw [show a+1+b=(a+b)+1 by omega] at h
  cases h with
  | @cons _ m g d1 _ _ e hm h1 h2=>
   obtain ⟨g',d',d2,k1,k2,rfl⟩:=ih h2;exact ⟨g',_,d2, .cons hm h1 k1,k2,by rw [Nat.max_assoc]⟩
theorem Exs.snoc {am:List Nat} {n f g d t e:Nat} (h:Exs am n f g d) (k:Exs am 1 g t e):Exs am (n+1) f t (max d e):=h.app k
theorem Exs.inv {am:List Nat} {f t d:Nat} (h:Exs am 1 f t d): ∃m e,am[f]? =some m∧Exs am m (f+1) t e∧d=e+1:=by
 cases h with
 | @cons _ m g d1 _ _ e hm h1 h2=>
  cases h2
  exact ⟨m,d1,hm,h1,by omega⟩
def scA:List Nat→Nat→Nat→Option Nat
 |_,k,0=>some k
 |[],_,_+1=>none
 |m::l,k,n+1=>scA l (k+1) (n+m)
theorem jj (l:List Nat) (k:Nat):scA l k 0=some k:=by cases l<;>rfl
theorem qQ (am:List Nat) (f m:Nat) (h:am[f]? =some m):am.drop f=m::am.drop (f+1):=by
 have hf:f<am.length:=by
  by_cases hk:f<am.length
  ·exact hk
  ·rw [List.getElem?_eq_none (by omega)] at h;cases h
 rw [List.drop_eq_getElem_cons hf]
 rw [List.getElem?_eq_getElem hf] at h;injection h with h;rw [h]
theorem Exs.sc {am:List Nat} {n f t d:Nat} (h:Exs am n f t d): ∀b,scA (am.drop f) f (n+b)=scA (am.drop t) t b:=by
 induction h with
 |nil f=>intro b;rw [Nat.zero_add]
 | @cons f m g d n t e hm h1 h2 i1 i2=>
  intro b;rw [qQ am f m hm,show n+1+b=(n+b)+1 by omega,scA,show n+b+m=m+(n+b) by omega,i1 (n+b),i2 b]
theorem Exs.sc0 {am:List Nat} {n f t d:Nat} (h:Exs am n f t d):scA (am.drop f) f n=some t:=by
 have:=h.sc 0;rw [jj] at this;exact this
theorem zu (am:List Nat): ∀(j n f t:Nat),am.length-f≤j→scA (am.drop f) f n=some t→ ∃d,Exs am n f t d:=by
 intro j
 induction j with
 |zero=>
  intro n f t hj h;rw [List.drop_of_length_le (by omega)] at h
  cases n with
  |zero=>rw [jj] at h;injection h with h;subst h;exact ⟨0, .nil f⟩
  |succ n=>cases h
 |succ j ih=>
  intro n f t hj h
  cases n with
  |zero=>rw [jj] at h;injection h with h;subst h;exact ⟨0, .nil f⟩
  |succ n=>
   cases hm:am[f]? with
   |none=>
    have:am.length≤f:=by simpa using hm
    rw [List.drop_of_length_le (by omega)] at h;cases h
   |some m=>
    rw [qQ am f m hm,scA,Nat.add_comm n m] at h;obtain ⟨d,hd⟩:=ih (m+n) (f+1) t (by omega) h;obtain ⟨g,d1,d2,h1,h2,rfl⟩:=hd.split;exact ⟨_, .cons hm h1 h2⟩
def agb (am:List Nat) (f:Nat):Nat:=(scA (am.drop f) f 1).getD 0
theorem Exs.endP {am:List Nat} {f t d:Nat} (h:Exs am 1 f t d):agb am f=t:=by unfold Proofs.YtegdjjjpoahamaaGreatDoor.agb;rw [h.sc0];rfl
def fh (am:List Nat):Nat→Nat→List Nat
 |_,0=>[]
 |f,n+1=>f::fh am (agb am f) n
theorem iL (am:List Nat): ∀n f,(fh am f n).length=n:=by
 intro n;induction n with
 |zero=>intro f;rfl
 |succ n ih=>intro f;rw [fh,List.length_cons,ih]
theorem vt {am:List Nat} {n f t d:Nat} (h:Exs am n f t d):fh am f (n+1)=fh am f n++[t]:=by
 induction n generalizing f t d with
 |zero=>cases h;rfl
 |succ n ih=>
  rw [Nat.add_comm n 1] at h;obtain ⟨g,d1,d2,h1,h2,rfl⟩:=h.split;rw [fh,h1.endP,ih h2,fh,h1.endP];rfl
theorem afk {am:List Nat} {n f t d:Nat} (h:Exs am n f t d) (i:Nat) (hi:i<n):
  ∃k g d0 d1 d2,(fh am f n)[i]? =some k∧Exs am i f k d0∧Exs am 1 k g d1∧Exs am (i+1) f g (max d0 d1)∧Exs am (n-(i+1)) g t d2∧d=max (max d0 d1) d2:=by
 induction i generalizing n f t d with
 |zero=>
  obtain ⟨n,rfl⟩: ∃k,n=1+k:=⟨n-1,by omega⟩
  obtain ⟨g,d1,d2,h1,h2,rfl⟩:=h.split;refine ⟨f,g,0,d1,d2, ?_, .nil f,h1,by rw [Nat.zero_max];exact h1,by rw [show 1+n-(0+1)=n by omega];exact h2,by simp⟩;rw [Nat.add_comm,fh];rfl
 |succ i ih=>
  obtain ⟨n,rfl⟩: ∃k,n=1+k:=⟨n-1,by omega⟩
  obtain ⟨g,d1,d2,h1,h2,rfl⟩:=h.split;obtain ⟨k,g',e0,e1,e2,j1,j2,j3,j4,j5,rfl⟩:=ih h2 (by omega);refine ⟨k,g',max d1 e0,e1,e2, ?_, ?_,j3, ?_, ?_,by omega⟩
  ·rw [Nat.add_comm,fh,List.getElem?_cons_succ,h1.endP];exact j1
  ·rw [Nat.add_comm i 1];exact h1.app j2
  ·rw [show i+1+1=1+(i+1) by omega,show max (max d1 e0) e1=max d1 (max e0 e1) by omega];exact h1.app j4
  ·rw [show 1+n-(i+1+1)=n-(i+1) by omega];exact j5
theorem sT {am:List Nat} {m f:Nat} (hm:am[f]? =some m) (h: ¬ ∃t d,Exs am m (f+1) t d): ¬ ∃t d,Exs am 1 f t d:=by
 rintro ⟨t,d,k⟩;obtain ⟨m',e,EO,k',-⟩:=k.inv
 rw [hm] at EO;injection EO with EO;subst EO
 exact h ⟨t,e,k'⟩
theorem abU {am:List Nat} {i n f g d:Nat} (h:Exs am i f g d) (hi:i<n) (Ar: ¬ ∃t e,Exs am 1 g t e): ¬ ∃t d,Exs am n f t d:=by
 rintro ⟨t,d',k⟩;rw [show n=i+(1+(n-i-1)) by omega] at k;obtain ⟨g',d1,d2,k1,k2,-⟩:=k.split;obtain ⟨rfl,-⟩:=h.uniq k1;obtain ⟨g2,e1,e2,l1,l2,-⟩:=k2.split;exact Ar ⟨g2,e1,l1⟩
open Go.RowKit
def kf (s:ByteArray):Bool:=fx s&&(decide (0≤rdT s)&&((1000000:Int).tmod (rdB s)==0))
def ap (l:List UInt8):Int:=
 if l=[124,124] then 2 else if l=[38,38] then 3
 else if l=[61,61] then 4 else if l=[33,61] then 4 else if l=[60] then 4 else if l=[60,61] then 4 else if l=[62] then 4 else if l=[62,61] then 4
 else if l=[43] then 5 else if l=[45] then 5
 else if l=[42] then 6 else if l=[47] then 6 else if l=[37] then 6 else 0
def ar (k:Int) (s:ByteArray):Bool:=
 if k=1 then kf s else if k=2 then aD s&&decide (s.size≤60)
 else if k=3 then s.data.toList==b7||s.data.toList==bE
 else if k=4 then cI s.data.toList&&decide (s.size≤60)
 else if k=5 then s.data.toList==[]
 else if k=6 then cI s.data.toList&& !dV s.data.toList 46
 else if k=7 then s.data.toList==[33]||s.data.toList==[45]
 else if k=8 then decide (0<ap s.data.toList)
 else if k=9 then s.data.toList==[] else false
def aQ (k m:Int):Bool:=
 if k=1∨k=2∨k=3∨k=4 then m==0 else if k=5∨k=6 then decide (0≤m)&&decide (m≤8)
 else if k=7 then m==1 else if k=8 then m==2 else if k=9 then m==3 else false
def aF (k:Int) (s:ByteArray) (m:Int):Bool:=ar k s&&aQ k m
theorem abV (l:List UInt8) (h:0<ap l):l.length≤2:=by
 by_cases hl:l.length≤2
 ·exact hl
 ·exfalso
  have ne: ∀q:List UInt8,q.length≤2→l≠q:=by rintro q hq rfl;exact hl hq
  have e:ap l=0:=by
   unfold ap
   iterate 13 rw [if_neg (ne _ (by decide))]
  omega
theorem kr (t b:Nat) (ht:t≤1000000000) (hb:b≤1000000):(aA t b).length≤50:=by
 unfold aA aO;have l1:=fD (t/b) (by have:=Nat.div_le_self t b;omega);have l2:=fD t (by omega);have l3:=fD b (by omega);have l4:=nd 6 (t % b) b
 split
 ·split
  ·simp;omega
  ·simp;omega
 ·simp;omega
theorem mS (t b:Int):(aJ t b).length≤60:=by
 unfold aJ
 split
 ·rename_i hv
  obtain ⟨v1,v2,v3,v4⟩:=gN hv;unfold fQ
  split
  ·have:=kr (-t).toNat b.toNat (by omega) (by omega)
   simp only [List.length_cons];omega
  ·have:=kr t.toNat b.toNat (by omega) (by omega)
   omega
 ·simp
theorem ng (s:ByteArray) (h:fx s=true):aJ (rdT s) (rdB s)=s.data.toList:=by
 unfold rdT rdB;rw [if_pos h,if_pos h];simp only [fx,Bool.and_eq_true,beq_iff_eq] at h;exact h.2
theorem bn (s:ByteArray):s.data.toList.length=s.size:=by rw [Array.length_toList];rfl
theorem mn (s:ByteArray) (h:fx s=true):1≤rdB s∧rdB s≤1000000:=by
 have e:=ng s h
 cases hv:vB (rdT s) (rdB s) with
 |true=>obtain ⟨v1,v2,v3,v4⟩:=gN hv;exact ⟨v3,v4⟩
 |false=>
  exfalso
  rw [aJ,hv] at e
  have e:s.data.toList=[]:=by simpa using e.symm
  obtain rfl:s=⟨#[]⟩:=by rw [ke e]
  exact absurd h (by decide)
theorem jk (k:Int) (s:ByteArray) (h:ar k s=true):s.size≤60:=by
 rw [←bn];unfold ar at h
 repeat' split at h
 ·simp only [kf,Bool.and_eq_true] at h
  rw [←ng s h.1];exact mS _ _
 ·rw [bn];simp only [Bool.and_eq_true,decide_eq_true_eq] at h;exact h.2
 ·simp only [Bool.or_eq_true,beq_iff_eq] at h
  rcases h with h|h<;>(rw [h];decide)
 ·rw [bn];simp only [Bool.and_eq_true,decide_eq_true_eq] at h;exact h.2
 ·simp only [beq_iff_eq] at h;rw [h];simp
 ·simp only [Bool.and_eq_true,Bool.not_eq_true',cI] at h
  have hd:(46:UInt8)∉s.data.toList:=by
   intro hm
   have:dV s.data.toList 46=true:=by
    rw [dV,List.any_eq_true];exact ⟨46,hm,by decide⟩
   rw [this] at h;simp at h
  have hp:=h.1.1;rw [iF _ hd,mi] at hp;simp only [Bool.and_eq_true,decide_eq_true_eq] at hp
  omega
 ·simp only [Bool.or_eq_true,beq_iff_eq] at h
  rcases h with h|h<;>(rw [h];simp)
 ·have:=abV _ (by simpa using h);omega
 ·simp only [beq_iff_eq] at h;rw [h];simp
 ·cases h
theorem adP (k m:Int) (h:aQ k m=true):0≤m∧m≤8:=by
 unfold aQ at h
 repeat' split at h
 all_goals first
  |(simp only [beq_iff_eq] at h;omega)
  |(simp only [Bool.and_eq_true,decide_eq_true_eq] at h;exact h)
  |cases h
abbrev Cl:=Int×ByteArray×Int
def okC (c:Cl):Bool:=aF c.1 c.2.1 c.2.2
def amL (l:List Cl):List Nat:=l.map fun c=>c.2.2.toNat
theorem jl {c:Cl} (h:okC c=true):0≤c.2.2∧c.2.2≤8:=by
 simp only [okC,aF,Bool.and_eq_true] at h;exact adP _ _ h.2
theorem qR (l:List Cl) (f:Nat) (h:f<l.length):(amL l)[f]? =some l[f].2.2.toNat:=by
 simp [amL,h]
theorem cG (l:List Cl):(amL l).length=l.length:=by simp [amL]
open Classical in
noncomputable def okE (l:List Cl):Bool:=decide (l.length≤60)&&(l.all okC&&decide (∃d,d≤12∧Exs (amL l) 1 0 l.length d))
theorem dE (l:List Cl):okE l=true↔l.length≤60∧l.all okC=true∧ ∃d,d≤12∧Exs (amL l) 1 0 l.length d:=by
 simp only [okE,Bool.and_eq_true,decide_eq_true_eq]
theorem jL {l:List Cl} (h:l.all okC=true) (f:Nat) (hf:f<l.length):okC l[f]=true:=by
 rw [List.all_eq_true] at h;exact h _ (List.getElem_mem hf)
open Go.RowKit Go.ChangeShapes Go.WideShapes Go.Deep
def abW (w:World) (b o k:Nat) (c:Cl):Prop:=
 w.cell? ⟨b,o+k*3,none⟩=some (.int .i64 c.1)∧w.cell? ⟨b,o+k*3+1,none⟩=some (.string c.2.1)∧w.cell? ⟨b,o+k*3+2,none⟩=some (.int .i64 c.2.2)
def RowC (w:World) (v:Value) (l:List Cl):Prop:=
 ∃ao cap,v= .slice ao l.length cap∧l.length≤cap∧cap≤maxLen∧(l=[]∨ ∃b o,ao=some ⟨b,o,none⟩∧b<w.heap.size∧ ∀(k:Nat) (h:k<l.length),abW w b o k l[k])
theorem RowC.mono {w w':World} {v:Value} {l:List Cl} (h:RowC w v l) (hb:Below w.heap.size w w'):RowC w' v l:=by
 obtain ⟨ao,cap,hv,h1,h2,h3⟩:=h;refine ⟨ao,cap,hv,h1,h2, ?_⟩
 rcases h3 with h3|⟨b,o,ha,Ab,hj⟩
 ·exact .inl h3
 ·refine .inr ⟨b,o,ha,Nat.lt_of_lt_of_le Ab hb.size,fun k hk=> ?_⟩
  obtain ⟨c1,c2,c3⟩:=hj k hk;exact ⟨by rw [hb.cell (by exact Ab)];exact c1,by rw [hb.cell (by exact Ab)];exact c2,by rw [hb.cell (by exact Ab)];exact c3⟩
theorem RowC.drewN {w:World} {v:Value} {l:List Cl} (h:RowC w v l) (n:Nat):RowC (w.drewN n) v l:=h.mono ⟨rfl,rfl,rfl,agD _,fun _ _=>rfl⟩
theorem RowC.al {w:World} {v:Value} {l:List Cl} (h:RowC w v l) (o:Obj):RowC (w.alloc o) v l:=h.mono ((Below.refl _ _).alloc (agD _) _)
def co (l:List Cl):Prop:= ∀c∈l,c.2.1.size≤1048576
def ec (l:List Cl):Prop:= ∀c∈l,c.2.1.size≤maxLen
theorem abX (b off j:Nat):(⟨b,off,none⟩:Addr).add j=⟨b,off+j,none⟩:=by
 unfold Addr.add;split<;>simp_all
theorem jm {w:World} {x:Addr} {v:Value} (h:w.cell? x=some v):x.spot=none∧x.block<w.heap.size:=by
 unfold World.cell? at h
 split at h
 ·rename_i c e fr hh
  refine ⟨?_, ?_⟩
  ·cases hs:x.spot with
   |none=>rfl
   |some s=>rw [hs] at h;simp at h
  ·by_cases hk:x.block<w.heap.size
   ·exact hk
   ·rw [Array.getElem?_eq_none (by omega)] at hh;cases hh
 ·cases h
def okM (c:Cl):Bool:=decide (0≤c.2.2)&&decide (c.2.2≤8)
theorem lE {c:Cl} (h:okM c=true):0≤c.2.2∧c.2.2≤8:=by
 simpa only [okM,Bool.and_eq_true,decide_eq_true_eq] using h
theorem vu {c:Cl} (h:okC c=true):okM c=true:=by
 have:=jl h;simp only [okM,Bool.and_eq_true,decide_eq_true_eq];exact this
theorem nh {l:List Cl} (h:l.all okM=true) (f:Nat) (hf:f<l.length):okM l[f]=true:=by
 rw [List.all_eq_true] at h;exact h _ (List.getElem_mem hf)
theorem ni {l:List Cl} (h:l.all okC=true):l.all okM=true:=by
 rw [List.all_eq_true] at h⊢;exact fun c hc=>vu (h c hc)
def okW (c:Cl):Bool:=okC c||(c.1==1&&(c.2.2==0&&decide (c.2.1.size≤60)))
theorem im {c:Cl} (h:okW c=true):okC c=true∨(c.1=1∧c.2.2=0∧c.2.1.size≤60):=by
 simp only [okW,Bool.or_eq_true,Bool.and_eq_true,beq_iff_eq,decide_eq_true_eq] at h;exact h
theorem afl {c:Cl} (h:okC c=true):okW c=true:=by rw [okW,h];rfl
theorem oa {k m:Int} {s:ByteArray} (h:okW (k,s,m)=true) (hk:k≠1):okC (k,s,m)=true:=(im h).resolve_right (fun h=>hk h.1)
theorem abY {c:Cl} (h:okW c=true):c.2.1.size≤60:=by
 rcases im h with h|h
 ·simp only [okC,aF,Bool.and_eq_true] at h;exact jk _ _ h.1
 ·exact h.2.2
theorem agc {c:Cl} (h:okW c=true):okM c=true:=by
 rcases im h with h|h
 ·exact vu h
 ·simp only [okM,Bool.and_eq_true,decide_eq_true_eq];omega
theorem qS {l:List Cl} (h:l.all okW=true) (f:Nat) (hf:f<l.length):okW l[f]=true:=by
 rw [List.all_eq_true] at h;exact h _ (List.getElem_mem hf)
theorem adQ {l:List Cl} (h:l.all okC=true):l.all okW=true:=by
 rw [List.all_eq_true] at h⊢;exact fun c hc=>afl (h c hc)
theorem abZ {l:List Cl} (h:l.all okW=true):l.all okM=true:=by
 rw [List.all_eq_true] at h⊢;exact fun c hc=>agc (h c hc)
def ai (l:List Cl):List Value:=l.flatMap fun c=>[.int .i64 c.1, .string c.2.1, .int .i64 c.2.2]
theorem ew (l:List Cl):(ai l).length=l.length*3:=by
 induction l with
 |nil=>rfl
 |cons a t ih=>simp only [ai,List.flatMap_cons,agE,List.length_cons,List.length_nil] at ih⊢;omega
theorem dt (a b:List Cl):ai (a++b)=ai a++ai b:=by simp [ai]
theorem sU (l:List Cl): ∀(k:Nat) (h:k<l.length),(ai l)[k*3]? =some (.int .i64 l[k].1)∧(ai l)[k*3+1]? =some (.string l[k].2.1)∧(ai l)[k*3+2]? =some (.int .i64 l[k].2.2):=by
 induction l with
 |nil=>intro k h;simp at h
 |cons a t ih=>
  intro k h
  have e:ai (a::t)= .int .i64 a.1:: .string a.2.1:: .int .i64 a.2.2::ai t:=by simp [ai]
  cases k with
  |zero=>rw [e];exact ⟨rfl,rfl,rfl⟩
  |succ k=>
   have hk:k<t.length:=by simpa using h
   obtain ⟨h1,h2,h3⟩:=ih k hk;rw [e,show (k+1)*3=k*3+3 by omega];exact ⟨h1,h2,h3⟩
theorem RowC.of_own {w:World} {base n:Nat} {T:TypeId} {v:Value} {l:List Cl} (ho:w.ownsRow base T 3 v n (ai l)):RowC w v l∧n=l.length:=by
 have hl:l.length=n:=by have:=ho.1;rw [ew] at this;omega
 subst hl;refine ⟨?_,rfl⟩
 rcases ho.2 with ⟨rfl,h0⟩|⟨g,cap,cur,rfl,hg,hh,h1,h2,_⟩
 ·exact ⟨none,0,by rw [h0],by omega,by unfold maxLen;omega, .inl (List.length_eq_zero_iff.mp h0)⟩
 ·refine ⟨_,cap,rfl,h1,h2, .inr ⟨g,0,rfl,(ho.lt g rfl).2,fun k hk=> ?_⟩⟩
  obtain ⟨f0,f1,f2⟩:=sU l k hk;refine ⟨?_, ?_, ?_⟩
  ·rw [Nat.zero_add,ho.cellAt (k*3) (by omega)];exact f0
  ·rw [Nat.zero_add,ho.cellAt (k*3+1) (by omega)];exact f1
  ·rw [Nat.zero_add,ho.cellAt (k*3+2) (by omega)];exact f2
theorem f5:(Tryz.prog.info? 110).map (fun i=>(i.zero,i.size,i.bytes))=some (some (.agg #[.int .i64 0, .string ByteArray.empty, .int .i64 0]),3,32):=by kernel_rfl
theorem adR (g j:Nat):(⟨g,0,none⟩:Addr).add j=⟨g,j,none⟩:=by
 unfold Addr.add;split<;>simp_all
theorem bU (l:List Cl): ∀u∈ai l,u.oneCell'=true:=by
 intro u hu;simp only [ai,List.mem_flatMap] at hu;obtain ⟨c,-,hu⟩:=hu;simp only [List.mem_cons,List.not_mem_nil,or_false] at hu
 rcases hu with rfl|rfl|rfl<;>rfl
theorem du {P:Program} {w:World} {ops:Array Oper} {rest:List Oper} {o:Oper} {a:Act} {Q:Exit→Act→World→Prop} (Cq:o.guard=none) (s x:Operand) (t:TypeId)
  (ho:o.op= .call {callee:= .builtin .append,args:= #[s,x],argTypes:= #[t,t]})
  (base:Nat) (e:TypeId) (i:TypeInfo) (z:Value) (size bytes:Nat) (ht:P.underlying t=some (.slice e)) (hi:P.info? e=some i) (hz:i.zero=some z)
  (Dl:i.size=size) (H0:i.bytes=bytes) (Hk:z.cells.size=size) (Au:0<size)
  (v:Value) (n:Nat) (xs:List Value) (hs:a.eval s=v) (Ad:w.ownsRow base e size v n xs)
  (base2:Nat) (u:Value) (m:Nat) (ys:List Value) (hx:a.eval x=u) (BM:w.ownsRow base2 e size u m ys) (h1: ∀u∈ys,u.oneCell'=true)
  (EV:n+m≤maxLen) (Cy:(n+m)*bytes≤140737488355328) (Bx:base≤w.heap.size)
  (h: ∀v' w',w'.ownsRow base e size v' (n+m) (xs++ys)→w.grownBy w' v.ownBlock→wpList P ops Q rest (a.put o.dst v') w'):wpList P ops Q (o::rest) a w:=by
 rcases BM.2 with ⟨rfl,rfl⟩|⟨g,cap,cur,rfl,-⟩
 ·have hy:ys=[]:=List.eq_nil_of_length_eq_zero (by have:=BM.1;omega)
  subst hy;refine wpList_append_own_none Cq s x t ho base e i size ht hi v n xs hs Ad hx ?_;exact h v w (by simpa using Ad) (World.grownBy.refl _ _)
 ·refine wpList_append_own _ Cq s x t ho base e i z size bytes ht hi hz Dl H0 Hk Au v n xs hs Ad ⟨g,0,none⟩ m cap ys hx BM.1 ?_ h1 EV Cy Bx (fun v' w' a1 a2 _=>h v' w' a1 a2)
  intro j y hj
  have Ab:j<ys.length:=by
   by_cases hk:j<ys.length
   ·exact hk
   ·rw [List.getElem?_eq_none (by omega)] at hj;cases hj
  rw [adR,BM.cellAt j (by have:=BM.1;omega)];exact hj
theorem agd {w:World} {b o:Nat} {l:List Cl} (h: ∀(k:Nat) (h:k<l.length),abW w b o k l[k]) (j:Nat) (u:Value) (hj:(ai l)[j]? =some u):w.cell? ((⟨b,o,none⟩:Addr).add j)=some u:=by
 have Ab:j<l.length*3:=by
  by_cases hk:j<l.length*3
  ·exact hk
  ·rw [List.getElem?_eq_none (by rw [ew];omega)] at hj;cases hj
 obtain ⟨k,r,hr,rfl⟩: ∃k r,r<3∧j=k*3+r:=⟨j/3,j % 3,Nat.mod_lt _ (by decide),by omega⟩
 obtain ⟨c0,c1,c2⟩:=h k (by omega);obtain ⟨f0,f1,f2⟩:=sU l k (by omega);rw [abX]
 have h3:r=0∨r=1∨r=2:=by omega
 rcases h3 with rfl|rfl|rfl
 ·rw [Nat.add_zero] at hj⊢;rw [f0] at hj;rw [←hj];exact c0
 ·rw [f1] at hj;rw [←hj,←Nat.add_assoc];exact c1
 ·rw [f2] at hj;rw [←hj,←Nat.add_assoc];exact c2
theorem kJ {P:Program} {w:World} (base:Nat) (t ty e:TypeId) (i:TypeInfo) (size:Nat) (ht:P.underlying t=some (.slice e)) (hi:P.info? e=some i)
  (v:Value) (n:Nat) (xs:List Value) (Ad:w.ownsRow base e size v n xs) (c:Nat):
  (Builtin.append_ #[t,t] ty #[v, .slice none 0 c]).run P w= .ok v w:=by
 rcases Ad.2 with ⟨rfl,rfl⟩|⟨g,cap,cur,rfl,_,_,Pe,_⟩
 ·simp [Builtin.append_,run_underlying ht,sizeOf,typeInfo,hi,Builtin.lenOf,Builtin.firstCells]
 ·simp [Builtin.append_,run_underlying ht,sizeOf,typeInfo,hi,Builtin.lenOf,Builtin.firstCells,Pe,storeCells]
theorem sV {P:Program} {w:World} {ops:Array Oper} {rest:List Oper} {o:Oper} {a:Act} {Q:Exit→Act→World→Prop} (Cq:o.guard=none) (s x:Operand) (t:TypeId)
  (ho:o.op= .call {callee:= .builtin .append,args:= #[s,x],argTypes:= #[t,t]})
  (base:Nat) (e:TypeId) (i:TypeInfo) (z:Value) (bytes:Nat) (ht:P.underlying t=some (.slice e)) (hi:P.info? e=some i) (hz:i.zero=some z)
  (Dl:i.size=3) (H0:i.bytes=bytes) (Hk:z.cells.size=3)
  (v:Value) (n:Nat) (xs:List Value) (hs:a.eval s=v) (Ad:w.ownsRow base e 3 v n xs)
  (u:Value) (ys:List Cl) (hx:a.eval x=u) (BM:RowC w u ys)
  (EV:n+ys.length≤maxLen) (Cy:(n+ys.length)*bytes≤140737488355328) (Bx:base≤w.heap.size)
  (h: ∀v' w',w'.ownsRow base e 3 v' (n+ys.length) (xs++ai ys)→w.grownBy w' v.ownBlock→wpList P ops Q rest (a.put o.dst v') w'):wpList P ops Q (o::rest) a w:=by
 obtain ⟨ao,cap,rfl,h1,h2,h3⟩:=BM
 cases ao with
 |none=>
  have hy:ys=[]:=by
   rcases h3 with h3|⟨b,o',hc,-⟩
   ·exact h3
   ·cases hc
  subst hy
  refine wpList_plain Cq fun K hK=> ?_
  have Gs:=kJ (P:=P) (w:=w) base t o.type e i 3 ht hi v n xs Ad cap;unfold Oper.wp;simp only [List.length_nil] at hx
  simp [execOp,ho,resolve,invoke,builtin,hs,hx,Gs,Result.andThen]
  exact hK _ _ (h v w (by simpa [ai] using Ad) (World.grownBy.refl _ _))
 |some ad=>
  refine wpList_append_own _ Cq s x t ho base e i z 3 bytes ht hi hz Dl H0 Hk (by decide) v n xs hs Ad ad ys.length cap (ai ys) hx (ew ys) ?_ (bU ys) EV Cy Bx (fun v' w' a1 a2 _=>h v' w' a1 a2);intro j y hj
  rcases h3 with rfl|⟨b,o',hc,Av,cc⟩
  ·simp [ai] at hj
  ·injection hc with hc
   subst hc;exact agd cc j y hj
theorem RowC.sub {w:World} {b o cap:Nat} {l:List Cl} (h:RowC w (.slice (some ⟨b,o,none⟩) l.length cap) l) (i j:Nat) (Vr:i≤j) (hj:j≤l.length):
  RowC w (.slice (some ⟨b,o+i*3,none⟩) (j-i) (cap-i)) ((l.take j).drop i):=by
 obtain ⟨ao,cap',hv,h1,h2,h3⟩:=h;simp only [Value.slice.injEq] at hv;obtain ⟨rfl,-,rfl⟩:=hv
 have Ai:((l.take j).drop i).length=j-i:=by rw [List.length_drop,List.length_take];omega
 refine ⟨_,_,by rw [Ai],by rw [Ai];omega,by unfold maxLen at h2⊢;omega, ?_⟩
 rcases h3 with rfl|⟨b',o',hA,Ab,hc⟩
 ·left;simp
 ·simp only [Option.some.injEq,Addr.mk.injEq,and_true] at hA
  obtain ⟨rfl,rfl⟩:=hA;refine .inr ⟨_,_,rfl,Ab,fun k hk=> ?_⟩;rw [Ai] at hk;obtain ⟨c0,c1,c2⟩:=hc (i+k) (by omega)
  have e:((l.take j).drop i)[k]=l[i+k]'(by omega):=by rw [List.getElem_drop,List.getElem_take]
  rw [e]
  have q:o+i*3+k*3=o+(i+k)*3:=by omega
  exact ⟨by rw [q];exact c0,by rw [q];exact c1,by rw [q];exact c2⟩
def ba (b:UInt8):List UInt8:=if b=10 then [92,110] else if b=34∨b=92 then [92,b] else [b]
def aM (l:List UInt8):List UInt8:=l.flatMap ba
def bc (l:List UInt8):List UInt8:=34::(aM l++[34])
def cA (s:ByteArray):ByteArray:=if aD s=true then ⟨(bc s.data.toList).toArray⟩ else ⟨#[]⟩
def cW:List UInt8→List UInt8
 |[]=>[]
 |[_]=>[]
 |b::c::r=>if b=92 then (if c=110 then 10 else c)::cW r else b::cW (c::r)
def m0 (s:ByteArray):List UInt8:=cW (s.data.toList.drop 1)
def bH (s:ByteArray):Bool:=aD ⟨(m0 s).toArray⟩&&decide (bc (m0 s)=s.data.toList)
def ga (s:ByteArray):ByteArray:=if bH s=true then ⟨(m0 s).toArray⟩ else ⟨#[]⟩
theorem em (b:UInt8) (l:List UInt8):aM (b::l)=ba b++aM l:=by simp [aM]
theorem vw (l r:List UInt8):aM (l++r)=aM l++aM r:=by simp [aM]
theorem jn (l:List UInt8) (b:UInt8):aM (l++[b])=aM l++ba b:=by rw [vw];simp [aM]
theorem kK (b:UInt8):1≤(ba b).length∧(ba b).length≤2:=by
 unfold ba;split
 ·simp
 ·split<;>simp
theorem iM (l:List UInt8):l.length≤(aM l).length∧(aM l).length≤2*l.length:=by
 induction l with
 |nil=>simp [aM]
 |cons b t ih=>
  have:=kK b;rw [em];simp only [agE,List.length_cons];omega
theorem mo (b:UInt8) (r:List UInt8) (hr:r≠[]):cW (ba b++r)=b::cW r:=by
 unfold ba
 split
 ·rename_i h;subst h;rfl
 ·split
  ·rename_i h1 h2
   show cW (92::b::r)=_
   have hb:b≠110:=by rcases h2 with h|h<;>subst h<;>decide
   simp only [cW,if_true,hb,if_false]
  ·rename_i h1 h2
   have hb:b≠92:=fun e=>h2 (.inr e)
   cases r with
   |nil=>exact absurd rfl hr
   |cons c r=>simp [cW,hb]
theorem sW (l:List UInt8) (r:List UInt8) (hr:r≠[]):cW (aM l++r)=l++cW r:=by
 induction l with
 |nil=>rfl
 |cons b t ih=>
  rw [em,List.append_assoc,mo _ _ (by simp [hr]),ih];rfl
theorem zv (l:List UInt8):cW ((bc l).drop 1)=l:=by
 show cW (aM l++[34])=l
 rw [sW _ _ (by simp)];simp [cW]
theorem iN (l:List UInt8):(⟨l.toArray⟩:ByteArray).data.toList=l:=by simp
theorem dW {s t:ByteArray} (h:s.data.toList=t.data.toList):s=t:=by
 cases s with|mk a=>cases t with|mk b=>congr 1;exact Array.toList_inj.mp h
theorem fG (s:ByteArray):(⟨s.data.toList.toArray⟩:ByteArray)=s:=dW (by simp)
theorem vA {s t:ByteArray} (ht:aD t=true) (h:bc t.data.toList=s.data.toList):bH s=true∧ga s=t:=by
 have e:m0 s=t.data.toList:=by unfold m0;rw [←h,zv]
 have ho:bH s=true:=by unfold bH;rw [e,fG,ht,h];simp
 exact ⟨ho,by unfold ga;rw [if_pos ho,e,fG]⟩
theorem pW {s:ByteArray} (h:bH s=true):aD (ga s)=true∧cA (ga s)=s:=by
 unfold ga;rw [if_pos h];simp only [bH,Bool.and_eq_true,decide_eq_true_eq] at h;refine ⟨h.1, ?_⟩;unfold cA;rw [if_pos h.1];exact dW (by rw [iN];rw [iN,h.2])
theorem jo {s:ByteArray} (h:bH s=false):ga s=⟨#[]⟩:=by unfold ga;rw [h];rfl
theorem oc {s:ByteArray} (h: ∀t:List UInt8,t.length≤20000→okL t=true→bc t≠s.data.toList):bH s=false:=by
 cases ho:bH s with
 |false=>rfl
 |true=>
  simp only [bH,Bool.and_eq_true,decide_eq_true_eq,aD] at ho;refine absurd ho.2 (h _ ?_ ?_)
  ·have:=ho.1.1;simpa [ByteArray.size] using this
  ·have:=ho.1.2;simpa using this
theorem pX {s:ByteArray} (h:aD s=true):bH (cA s)=true∧ga (cA s)=s:=
 vA h (by unfold cA;rw [if_pos h])
def mq (n:Int):Bool:=decide (n=34∨n=92∨n=110)
def jp (n:Int):Bool:=decide (n=34∨n=92∨n=10)
def rkC (c:Cl):Int:=if c.1=9 then 1 else if c.1=8 then ap c.2.1.data.toList else if c.1=7 then 7 else 8
abbrev Pt:=Int×List UInt8
def cR (r:Int) (x:Pt):List UInt8:=if x.1<r then 40::(x.2++[41]) else x.2
def fi (xs:List Pt):List UInt8:=xs.flatMap fun x=>[44,32]++x.2
def cJ:List Pt→List UInt8
 |[]=>[]
 |x::xs=>x.2++fi xs
def cC (r:Int):Int:=if r=4 then 5 else r
def dH (ks:List Pt) (i:Nat):Pt:=ks.getD i (0,[])
def bF (c:Cl) (ks:List Pt):List UInt8:=
 if c.1=2 then bc c.2.1.data.toList
 else if c.1=5 then 91::(cJ ks++[93])
 else if c.1=6 then c.2.1.data.toList++(40::(cJ ks++[41]))
 else if c.1=7 then c.2.1.data.toList++cR 7 (dH ks 0)
 else if c.1=8 then cR (cC (ap c.2.1.data.toList)) (dH ks 0)++([32]++c.2.1.data.toList++[32])++cR (ap c.2.1.data.toList+1) (dH ks 1)
 else if c.1=9 then cR 2 (dH ks 0)++[32,63,32]++(dH ks 1).2++[32,58,32]++(dH ks 2).2
 else c.2.1.data.toList
inductive Tx (l:List Cl):Nat→Nat→Nat→List Pt→Prop
 |nil (f:Nat):Tx l 0 f f []
 |cons {f g n t:Nat} {c:Cl} {ks xs:List Pt}:l[f]? =some c→Tx l c.2.2.toNat (f+1) g ks→Tx l n g t xs→Tx l (n+1) f t ((rkC c,bF c ks)::xs)
theorem Tx.len {l:List Cl} {n f t:Nat} {xs:List Pt} (h:Tx l n f t xs):xs.length=n:=by
 induction h with
 |nil f=>rfl
 |cons hc h1 h2 i1 i2=>rw [List.length_cons,i2]
theorem oe {l:List Cl} {f:Nat} {c:Cl} (h:l[f]? =some c):(amL l)[f]? =some c.2.2.toNat:=by
 simp [amL,h]
theorem xS {l:List Cl} {f m:Nat} (h:(amL l)[f]? =some m): ∃c,l[f]? =some c∧c.2.2.toNat=m:=by
 simp only [amL,List.getElem?_map,Option.map_eq_some_iff] at h;exact h
theorem Tx.exs {l:List Cl} {n f t:Nat} {xs:List Pt} (h:Tx l n f t xs): ∃d,Exs (amL l) n f t d:=by
 induction h with
 |nil f=>exact ⟨0, .nil f⟩
 |cons hc h1 h2 i1 i2=>
  obtain ⟨d1,i1⟩:=i1;obtain ⟨d2,i2⟩:=i2;exact ⟨_, .cons (oe hc) i1 i2⟩
theorem Tx.of_exs {l:List Cl} {n f t d:Nat} (h:Exs (amL l) n f t d): ∃xs,Tx l n f t xs:=by
 generalize ha:amL l=am at h
 induction h with
 |nil f=>exact ⟨[], .nil f⟩
 | @cons f m g d n t e hm h1 h2 i1 i2=>
  obtain ⟨ks,k1⟩:=i1;obtain ⟨xs,k2⟩:=i2;subst ha;obtain ⟨c,hc,rfl⟩:=xS hm;exact ⟨_, .cons hc k1 k2⟩
theorem Tx.uniq {l:List Cl} {n f t:Nat} {xs:List Pt} (h:Tx l n f t xs): ∀{t':Nat} {ys:List Pt},Tx l n f t' ys→t=t'∧xs=ys:=by
 induction h with
 |nil f=>intro t' ys h';cases h';exact ⟨rfl,rfl⟩
 |cons hc h1 h2 i1 i2=>
  intro t' ys h'
  cases h' with
  |cons hc' k1 k2=>
   rw [hc] at hc';injection hc' with hc';subst hc'
   obtain ⟨rfl,rfl⟩:=i1 k1;obtain ⟨rfl,rfl⟩:=i2 k2;exact ⟨rfl,rfl⟩
theorem Tx.inv {l:List Cl} {f t:Nat} {x:Pt} (h:Tx l 1 f t [x]): ∃c ks,l[f]? =some c∧Tx l c.2.2.toNat (f+1) t ks∧x=(rkC c,bF c ks):=by
 cases h with
 |cons hc h1 h2=>cases h2;exact ⟨_,_,hc,h1,rfl⟩
theorem Tx.at {l:List Cl} {n f t:Nat} {xs:List Pt} (h:Tx l n f t xs): ∀k,k<n→ ∃g g' x,xs[k]? =some x∧Tx l k f g (xs.take k)∧Tx l 1 g g' [x]∧Tx l (n-(k+1)) g' t (xs.drop (k+1))∧(fh (amL l) f n)[k]? =some g:=by
 induction h with
 |nil f=>intro k hk;omega
 | @cons f g n t c ks xs hc h1 h2 i1 i2=>
  intro k hk;have Ej:Tx l 1 f g [(rkC c,bF c ks)]:= .cons hc h1 (.nil g);obtain ⟨d,hx⟩:=Ej.exs
  cases k with
  |zero=>exact ⟨f,g,_,rfl, .nil f,Ej,by simpa using h2,by rw [fh];rfl⟩
  |succ k=>
   obtain ⟨g1,g2,x,j1,j2,j3,j4,j5⟩:=i2 k (by omega);refine ⟨g1,g2,x,by simpa using j1, ?_,j3, ?_, ?_⟩
   ·rw [List.take_succ_cons];exact .cons hc h1 j2
   ·rw [show n+1-(k+1+1)=n-(k+1) by omega];simpa using j4
   ·rw [fh,List.getElem?_cons_succ,hx.endP];exact j5
theorem kL (ks:List Pt) (k:Nat) (x:Pt) (h:ks[k]? =some x):cJ (ks.take (k+1))=cJ (ks.take k)++((if k=0 then [] else [44,32])++x.2):=by
 have e:ks.take (k+1)=ks.take k++[x]:=by rw [List.take_add_one,h];rfl
 rw [e]
 cases k with
 |zero=>simp [cJ,fi]
 |succ k=>
  cases ks with
  |nil=>simp at h
  |cons y ys=>simp [cJ,fi]
def fY:List Pt→Nat
 |[]=>0
 |x::xs=>x.2.length+8+fY xs
theorem zw (xs:List Pt):(fi xs).length+6*xs.length≤fY xs:=by
 induction xs with
 |nil=>simp [fi,fY]
 |cons x xs ih=>simp only [fi,List.flatMap_cons,agE,List.length_cons,fY,List.length_nil] at ih⊢;omega
theorem jM (xs:List Pt):(cJ xs).length≤fY xs:=by
 cases xs with
 |nil=>simp [cJ]
 |cons x xs=>have:=zw xs;simp only [cJ,agE,fY];omega
theorem dv (r:Int) (x:Pt):(cR r x).length≤x.2.length+2:=by
 unfold cR;split
 ·simp
 ·omega
theorem adS (ks:List Pt):(dH ks 0).2.length+(dH ks 1).2.length+(dH ks 2).2.length≤fY ks:=by
 rcases ks with _|⟨a,_|⟨b,_|⟨c,r⟩⟩⟩<;>simp [dH,fY]<;>omega
theorem pY {c:Cl} (h:okC c=true) (ks:List Pt):(bF c ks).length≤180+fY ks:=by
 have hw:c.2.1.data.toList.length≤60:=by
  simp only [okC,aF,Bool.and_eq_true] at h;have:=jk _ _ h.1;rw [bn];exact this
 have h2:=adS ks;have hj:=jM ks
 have hq:(bc c.2.1.data.toList).length≤122:=by
  have:=(iM c.2.1.data.toList).2;simp only [bc,List.length_cons,agE,List.length_nil];omega
 have p0:=dv 7 (dH ks 0);have p1:=dv (cC (ap c.2.1.data.toList)) (dH ks 0);have p2:=dv (ap c.2.1.data.toList+1) (dH ks 1);have p3:=dv 2 (dH ks 0);unfold bF
 repeat' split
 all_goals first
  |omega
  |(simp only [agE,List.length_cons,List.length_nil];omega)
theorem Tx.short {l:List Cl} (Aj:l.all okC=true) {n f t:Nat} {xs:List Pt} (h:Tx l n f t xs):fY xs≤200*(t-f)∧f≤t:=by
 induction h with
 |nil f=>exact ⟨agH _,agD _⟩
 | @cons f g n t c ks xs hc h1 h2 i1 i2=>
  obtain ⟨hl,he⟩:=List.getElem?_eq_some_iff.mp hc
  have ho:okC c=true:=by rw [←he];exact jL Aj f hl
  have hb:=pY ho ks;simp only [fY];omega
theorem Tx.app {l:List Cl} {a f g:Nat} {xs:List Pt} (h:Tx l a f g xs): ∀{b t:Nat} {ys:List Pt},Tx l b g t ys→Tx l (a+b) f t (xs++ys):=by
 induction h with
 |nil f=>intro b t ys k;rw [Nat.zero_add];exact k
 | @cons f g n t c ks xs hc h1 h2 i1 i2=>
  intro b t' ys k;rw [show n+1+b=(n+b)+1 by omega];exact .cons hc h1 (i2 k)
theorem Tx.snoc {l:List Cl} {k f g t:Nat} {xs:List Pt} {x:Pt} (h:Tx l k f g (xs.take k)) (hx:xs[k]? =some x) (h1:Tx l 1 g t [x]):Tx l (k+1) f t (xs.take (k+1)):=by
 have e:xs.take (k+1)=xs.take k++[x]:=by rw [List.take_add_one,hx];rfl
 rw [e];exact h.app h1
theorem lF (l:List UInt8) (h:0<ap l):2≤ap l∧ap l≤6:=by
 have key: ∀{p:Prop} [Decidable p] {a b:Int},(a=0∨(2≤a∧a≤6))→(b=0∨(2≤b∧b≤6))→((if p then a else b)=0∨(2≤(if p then a else b)∧(if p then a else b)≤6)):=by
  intro p _ a b ha hb
  by_cases h:p
  ·rw [if_pos h];exact ha
  ·rw [if_neg h];exact hb
 have:ap l=0∨(2≤ap l∧ap l≤6):=by
  unfold ap
  iterate 13 (refine key (by decide) ?_)
  decide
 omega
theorem ab0 {c:Cl} (h:okC c=true):1≤rkC c∧rkC c≤8:=by
 unfold rkC
 split
 ·omega
 ·split
  ·rename_i h8
   have:0<ap c.2.1.data.toList:=by
    simp only [okC,aF,ar,h8,Bool.and_eq_true] at h;simpa using h.1
   have:=lF _ this;omega
  ·split<;>omega
theorem Tx.rk {l:List Cl} (Aj:l.all okC=true) {n f t:Nat} {xs:List Pt} (h:Tx l n f t xs): ∀x∈xs,1≤x.1∧x.1≤8:=by
 induction h with
 |nil f=>intro x hx;cases hx
 | @cons f g n t c ks xs hc h1 h2 i1 i2=>
  intro x hx
  rcases List.mem_cons.mp hx with rfl|hx
  ·obtain ⟨hl,he⟩:=List.getElem?_eq_some_iff.mp hc
   exact ab0 (by rw [←he];exact jL Aj f hl)
  ·exact i2 x hx
theorem jN {x:Pt} {r:Int} (h:r≤x.1):cR r x=x.2:=by unfold cR;rw [if_neg (by omega)]
open Classical in
noncomputable def bh (l:List Cl):List UInt8:=if h:okE l=true∧ ∃x,Tx l 1 0 l.length [x] then h.2.choose.2 else []
theorem io {l:List Cl} {x:Pt} (Aj:okE l=true) (h:Tx l 1 0 l.length [x]):bh l=x.2:=by
 have hh:okE l=true∧ ∃x,Tx l 1 0 l.length [x]:=⟨Aj,x,h⟩
 unfold bh;rw [dif_pos hh];have:=(hh.2.choose_spec.uniq h).2;simp only [List.cons.injEq,and_true] at this;rw [this]
theorem sX {l:List Cl} (Aj:okE l=false):bh l=[]:=by
 unfold bh;rw [dif_neg]
 intro h;rw [Aj] at h;cases h.1
theorem og {l:List Cl} (Aj:okE l=true): ∃x,Tx l 1 0 l.length [x]:=by
 obtain ⟨-,-,d,-,hx⟩:=(dE l).mp Aj;obtain ⟨xs,h⟩:=Tx.of_exs hx;have hl:=h.len
 match xs,hl with
 |[x],_=>exact ⟨x,h⟩
theorem gi (l:List Cl):(bh l).length≤12000:=by
 cases Aj:okE l with
 |false=>rw [sX Aj];simp
 |true=>
  obtain ⟨x,h⟩:=og Aj;obtain ⟨Ci,En,-⟩:=(dE l).mp Aj;have:=(h.short En).1;rw [io Aj h];simp only [fY] at this;omega
theorem pZ (ks:List Pt): ∀k,fY (ks.take k)≤fY ks:=by
 induction ks with
 |nil=>intro k;simp [fY]
 |cons x xs ih=>
  intro k
  cases k with
  |zero=>simp [fY]
  |succ k=>have:=ih k;simp only [List.take_succ_cons,fY];omega
theorem vC {c:Cl} (h:okW c=true) (ks:List Pt):(bF c ks).length≤180+fY ks:=by
 rcases im h with h|⟨h1,-,h3⟩
 ·exact pY h ks
 ·have:bF c ks=c.2.1.data.toList:=by unfold bF;simp [h1]
  rw [this,bn];omega
theorem Tx.shortW {l:List Cl} (Aj:l.all okW=true) {n f t:Nat} {xs:List Pt} (h:Tx l n f t xs):fY xs≤200*(t-f)∧f≤t:=by
 induction h with
 |nil f=>exact ⟨agH _,agD _⟩
 | @cons f g n t c ks xs hc h1 h2 i1 i2=>
  obtain ⟨hl,he⟩:=List.getElem?_eq_some_iff.mp hc
  have ho:okW c=true:=by rw [←he];exact qS Aj f hl
  have hb:=vC ho ks;simp only [fY];omega
theorem adT {c:Cl} (h:okW c=true):1≤rkC c∧rkC c≤8:=by
 rcases im h with h|⟨h1,-,-⟩
 ·exact ab0 h
 ·unfold rkC;rw [if_neg (by omega),if_neg (by omega),if_neg (by omega)];decide
theorem Tx.rkW {l:List Cl} (Aj:l.all okW=true) {n f t:Nat} {xs:List Pt} (h:Tx l n f t xs): ∀x∈xs,1≤x.1∧x.1≤8:=by
 induction h with
 |nil f=>intro x hx;cases hx
 | @cons f g n t c ks xs hc h1 h2 i1 i2=>
  intro x hx
  rcases List.mem_cons.mp hx with rfl|hx
  ·obtain ⟨hl,he⟩:=List.getElem?_eq_some_iff.mp hc
   exact adT (by rw [←he];exact qS Aj f hl)
  ·exact i2 x hx
theorem iO {a b c:World} {R:Option Nat} (h:a.grownBy b R) (k:b.grownBy c R):a.grownBy c R:=
 ⟨k.os.trans h.os,k.tape.trans h.tape,k.output.trans h.output,Nat.le_trans h.size k.size,fun i hi hn=>(k.block i (Nat.lt_of_lt_of_le hi h.size) hn).trans (h.block i hi hn)⟩
theorem dI {w w':World} {base:Nat} {e:TypeId} {size n:Nat} {v:Value} {xs:List Value} (h:w.ownsRow base e size v n xs) (hw: ∀g,v.ownBlock=some g→w'.heap[g]? =w.heap[g]?):w'.ownsRow base e size v n xs:=by
 refine ⟨h.1, ?_⟩
 rcases h.2 with hn|⟨g',cap,cur,rfl,Dy,DV,rest⟩
 ·exact .inl hn
 ·exact .inr ⟨g',cap,cur,rfl,Dy,by rw [hw g' rfl];exact DV,rest⟩
theorem bX {w:World} {base base':Nat} {e:TypeId} {size n:Nat} {v:Value} {xs:List Value} (h:w.ownsRow base e size v n xs) (hg: ∀g,v.ownBlock=some g→base'≤g):w.ownsRow base' e size v n xs:=by
 refine ⟨h.1, ?_⟩
 rcases h.2 with hn|⟨g',cap,cur,rfl,Dy,rest⟩
 ·exact .inl hn
 ·exact .inr ⟨g',cap,cur,rfl,hg g' rfl,rest⟩
theorem dB {w w1:World} {base:Nat} {e:TypeId} {size n:Nat} {v:Value} {xs:List Value} (h:w.ownsRow base e size v n xs) (hb:Below w.heap.size w w1):w1.ownsRow base e size v n xs:=
 dI h (fun g hg=>hb.block g (h.lt g hg).2)
theorem aN {w:World} {base:Nat} {e:TypeId} {size n:Nat} {v:Value} {xs:List Value} (h:w.ownsRow base e size v n xs): ∃a c,v= .slice a n c:=by
 rcases h.2 with ⟨rfl,h0⟩|⟨g',cap,cur,rfl,_⟩
 ·exact ⟨none,0,by rw [h0]⟩
 ·exact ⟨_,_,rfl⟩
end Go.Proofs.YtegdjjjpoahamaaGreatDoor
