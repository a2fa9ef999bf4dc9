/-
  Several texts of the proof in one file: ExprPlain, CellPlain, CellRow, CellW, Flat, AppendC, RowSub, QuotePlain, PrintPlain, PrintP, ValPlain, CutL, RowLs, GrownT, OwnSS, PushR.
-/
import Derived.Test.YthijkjnngfnfdaaGreatDoorZz
import Derived.Test.YthijkjnngfnfdaaGreatDoorPBaseA
import Derived.Test.YthijkjnngfnfdaaGreatDoorPBaseC
import Derived.Deep.Slices
import Derived.Deep.Strs
import Derived.Deep.Fields
import Derived.ChangeSame
import Derived.Below
import Derived.Deep.AppendLies
import Derived.OwnWalk
import Derived.Laws.OwnMore
import Derived.Laws.Rows
import Derived.Laws.AppendOwnNone
set_option linter.unusedVariables false
namespace Go.Proofs.YthijkjnngfnfdaaGreatDoor
inductive Exs (am:List Nat):Nat→Nat→Nat→Nat→Prop
 |nil (f:Nat):Exs am 0 f f 0
 |cons {f m g d n t e:Nat}:am[f]? =some m→Exs am m (f+1) g d→Exs am n g t e→Exs am (n+1) f t (max (d+1) e)
theorem Exs.le {am:List Nat} {n f t d:Nat} (h:Exs am n f t d):f+n≤t∧(n≠0→t≤am.length):=by
 induction h with
 |nil f=>exact ⟨by omega,fun h=>absurd rfl h⟩
 | @cons f m g d n t e hm h1 h2 i1 i2=>
  have hf:f<am.length:=by
   by_cases hk:f<am.length
   ·exact hk
   ·rw [List.getElem?_eq_none (by omega)] at hm;cases hm
  refine ⟨by omega,fun _=> ?_⟩
  by_cases hn:n=0
  ·subst hn
   cases h2
   by_cases hm0:m=0
   ·subst hm0;cases h1;omega
   ·exact i1.2 hm0
  ·exact i2.2 hn
theorem Exs.uniq {am:List Nat} {n f t d:Nat} (h:Exs am n f t d): ∀{t' d':Nat},Exs am n f t' d'→t=t'∧d=d':=by
 induction h with
 |nil f=>intro t' d' h';cases h';exact ⟨rfl,rfl⟩
 | @cons f m g d n t e hm h1 h2 i1 i2=>
  intro t' d' h'
  cases h' with
  | @cons _ m' g' d1 _ _ e1 hm' k1 k2=>
   rw [hm] at hm';injection hm' with hm';subst hm'
   obtain ⟨rfl,rfl⟩:=i1 k1;obtain ⟨rfl,rfl⟩:=i2 k2;exact ⟨rfl,rfl⟩
theorem Exs.app {am:List Nat} {a f g d:Nat} (h:Exs am a f g d): ∀{b t e:Nat},Exs am b g t e→Exs am (a+b) f t (max d e):=by
 induction h with
 |nil f=>intro b t e k;rw [Nat.zero_add,Nat.zero_max];exact k
 | @cons f m g d n t e hm h1 h2 i1 i2=>
  intro b t' e' k;rw [show n+1+b=(n+b)+1 by omega,Nat.max_assoc];exact .cons hm h1 (i2 k)
theorem Exs.split {am:List Nat} {a:Nat}: ∀{b f t d:Nat},Exs am (a+b) f t d→ ∃g d1 d2,Exs am a f g d1∧Exs am b g t d2∧d=max d1 d2:=by
 induction a with
 |zero=>intro b f t d h;rw [Nat.zero_add] at h;exact ⟨f,0,d, .nil f,h,by simp⟩
 |succ a ih=>
  intro b f t d h;rw [show a+1+b=(a+b)+1 by omega] at h
  cases h with
  | @cons _ m g d1 _ _ e hm h1 h2=>
   obtain ⟨g',d',d2,k1,k2,rfl⟩:=ih h2;exact ⟨g',_,d2, .cons hm h1 k1,k2,by rw [Nat.max_assoc]⟩
theorem Exs.snoc {am:List Nat} {n f g d t e:Nat} (h:Exs am n f g d) (k:Exs am 1 g t e):Exs am (n+1) f t (max d e):=h.app k
theorem Exs.inv {am:List Nat} {f t d:Nat} (h:Exs am 1 f t d): ∃m e,am[f]? =some m∧Exs am m (f+1) t e∧d=e+1:=by
 cases h with
 | @cons _ m g d1 _ _ e hm h1 h2=>
  cases h2
  exact ⟨m,d1,hm,h1,by omega⟩
def scA:List Nat→Nat→Nat→Option Nat
 |_,k,0=>some k
 |[],_,_+1=>none
 |m::l,k,n+1=>scA l (k+1) (n+m)
theorem kS (l:List Nat) (k:Nat):scA l k 0=some k:=by cases l<;>rfl
theorem tE (am:List Nat) (f m:Nat) (h:am[f]? =some m):am.drop f=m::am.drop (f+1):=by
 have hf:f<am.length:=by
  by_cases hk:f<am.length
  ·exact hk
  ·rw [List.getElem?_eq_none (by omega)] at h;cases h
 rw [List.drop_eq_getElem_cons hf]
 rw [List.getElem?_eq_getElem hf] at h;injection h with h;rw [h]
theorem Exs.sc {am:List Nat} {n f t d:Nat} (h:Exs am n f t d): ∀b,scA (am.drop f) f (n+b)=scA (am.drop t) t b:=by
 induction h with
 |nil f=>intro b;rw [Nat.zero_add]
 | @cons f m g d n t e hm h1 h2 i1 i2=>
  intro b;rw [tE am f m hm,show n+1+b=(n+b)+1 by omega,scA,show n+b+m=m+(n+b) by omega,i1 (n+b),i2 b]
theorem Exs.sc0 {am:List Nat} {n f t d:Nat} (h:Exs am n f t d):scA (am.drop f) f n=some t:=by
 have:=h.sc 0;rw [kS] at this;exact this
theorem ack (am:List Nat): ∀(j n f t:Nat),am.length-f≤j→scA (am.drop f) f n=some t→ ∃d,Exs am n f t d:=by
 intro j
 induction j with
 |zero=>
  intro n f t hj h;rw [List.drop_of_length_le (by omega)] at h
  cases n with
  |zero=>rw [kS] at h;injection h with h;subst h;exact ⟨0, .nil f⟩
  |succ n=>cases h
 |succ j ih=>
  intro n f t hj h
  cases n with
  |zero=>rw [kS] at h;injection h with h;subst h;exact ⟨0, .nil f⟩
  |succ n=>
   cases hm:am[f]? with
   |none=>
    have:am.length≤f:=by simpa using hm
    rw [List.drop_of_length_le (by omega)] at h;cases h
   |some m=>
    rw [tE am f m hm,scA,Nat.add_comm n m] at h;obtain ⟨d,hd⟩:=ih (m+n) (f+1) t (by omega) h;obtain ⟨g,d1,d2,h1,h2,rfl⟩:=hd.split;exact ⟨_, .cons hm h1 h2⟩
def aig (am:List Nat) (f:Nat):Nat:=(scA (am.drop f) f 1).getD 0
theorem Exs.endP {am:List Nat} {f t d:Nat} (h:Exs am 1 f t d):aig am f=t:=by unfold Proofs.YthijkjnngfnfdaaGreatDoor.aig;rw [h.sc0];rfl
def ga (am:List Nat):Nat→Nat→List Nat
 |_,0=>[]
 |f,n+1=>f::ga am (aig am f) n
theorem jS (am:List Nat): ∀n f,(ga am f n).length=n:=by
 intro n;induction n with
 |zero=>intro f;rfl
 |succ n ih=>intro f;rw [ga,List.length_cons,ih]
theorem yP {am:List Nat} {n f t d:Nat} (h:Exs am n f t d):ga am f (n+1)=ga am f n++[t]:=by
 induction n generalizing f t d with
 |zero=>cases h;rfl
 |succ n ih=>
  rw [Nat.add_comm n 1] at h;obtain ⟨g,d1,d2,h1,h2,rfl⟩:=h.split;rw [ga,h1.endP,ih h2,ga,h1.endP];rfl
theorem ahI {am:List Nat} {n f t d:Nat} (h:Exs am n f t d) (i:Nat) (hi:i<n):
  ∃k g d0 d1 d2,(ga am f n)[i]? =some k∧Exs am i f k d0∧Exs am 1 k g d1∧Exs am (i+1) f g (max d0 d1)∧Exs am (n-(i+1)) g t d2∧d=max (max d0 d1) d2:=by
 induction i generalizing n f t d with
 |zero=>
  obtain ⟨n,rfl⟩: ∃k,n=1+k:=⟨n-1,by omega⟩
  obtain ⟨g,d1,d2,h1,h2,rfl⟩:=h.split;refine ⟨f,g,0,d1,d2, ?_, .nil f,h1,by rw [Nat.zero_max];exact h1,by rw [show 1+n-(0+1)=n by omega];exact h2,by simp⟩;rw [Nat.add_comm,ga];rfl
 |succ i ih=>
  obtain ⟨n,rfl⟩: ∃k,n=1+k:=⟨n-1,by omega⟩
  obtain ⟨g,d1,d2,h1,h2,rfl⟩:=h.split;obtain ⟨k,g',e0,e1,e2,j1,j2,j3,j4,j5,rfl⟩:=ih h2 (by omega);refine ⟨k,g',max d1 e0,e1,e2, ?_, ?_,j3, ?_, ?_,by omega⟩
  ·rw [Nat.add_comm,ga,List.getElem?_cons_succ,h1.endP];exact j1
  ·rw [Nat.add_comm i 1];exact h1.app j2
  ·rw [show i+1+1=1+(i+1) by omega,show max (max d1 e0) e1=max d1 (max e0 e1) by omega];exact h1.app j4
  ·rw [show 1+n-(i+1+1)=n-(i+1) by omega];exact j5
theorem wz {am:List Nat} {m f:Nat} (hm:am[f]? =some m) (h: ¬ ∃t d,Exs am m (f+1) t d): ¬ ∃t d,Exs am 1 f t d:=by
 rintro ⟨t,d,k⟩;obtain ⟨m',e,hm',k',-⟩:=k.inv
 rw [hm] at hm';injection hm' with hm';subst hm'
 exact h ⟨t,e,k'⟩
theorem aeY {am:List Nat} {i n f g d:Nat} (h:Exs am i f g d) (hi:i<n) (hno: ¬ ∃t e,Exs am 1 g t e): ¬ ∃t d,Exs am n f t d:=by
 rintro ⟨t,d',k⟩;rw [show n=i+(1+(n-i-1)) by omega] at k;obtain ⟨g',d1,d2,k1,k2,-⟩:=k.split;obtain ⟨rfl,-⟩:=h.uniq k1;obtain ⟨g2,e1,e2,l1,l2,-⟩:=k2.split;exact hno ⟨g2,e1,l1⟩
open Go.RowKit
def lR (s:ByteArray):Bool:=gn s&&(decide (0≤rdT s)&&((1000000:Int).tmod (rdB s)==0))
def aj (l:List UInt8):Int:=
 if l=[124,124] then 2 else if l=[38,38] then 3
 else if l=[61,61] then 4 else if l=[33,61] then 4 else if l=[60] then 4 else if l=[60,61] then 4 else if l=[62] then 4 else if l=[62,61] then 4
 else if l=[43] then 5 else if l=[45] then 5
 else if l=[42] then 6 else if l=[47] then 6 else if l=[37] then 6 else 0
def aJ (k:Int) (s:ByteArray):Bool:=
 if k=1 then lR s else if k=2 then aT s&&decide (s.size≤60)
 else if k=3 then s.data.toList==cN||s.data.toList==bX
 else if k=4 then dn s.data.toList&&decide (s.size≤60)
 else if k=5 then s.data.toList==[]
 else if k=6 then dn s.data.toList&& !eH s.data.toList 46
 else if k=7 then s.data.toList==[33]||s.data.toList==[45]
 else if k=8 then decide (0<aj s.data.toList)
 else if k=9 then s.data.toList==[] else false
def bg (k m:Int):Bool:=
 if k=1∨k=2∨k=3∨k=4 then m==0 else if k=5∨k=6 then decide (0≤m)&&decide (m≤8)
 else if k=7 then m==1 else if k=8 then m==2 else if k=9 then m==3 else false
def aQ (k:Int) (s:ByteArray) (m:Int):Bool:=aJ k s&&bg k m
theorem aeZ (l:List UInt8) (h:0<aj l):l.length≤2:=by
 by_cases hl:l.length≤2
 ·exact hl
 ·exfalso
  have ne: ∀q:List UInt8,q.length≤2→l≠q:=by rintro q hq rfl;exact hl hq
  have e:aj l=0:=by
   unfold aj
   iterate 13 rw [if_neg (ne _ (by decide))]
  omega
theorem md (t b:Nat) (ht:t≤1000000000) (hb:b≤1000000):(aH t b).length≤50:=by
 unfold aH a8;have l1:=gA (t/b) (by have:=Nat.div_le_self t b;omega);have l2:=gA t (by omega);have l3:=gA b (by omega);have l4:=oY 6 (t % b) b
 split
 ·split
  ·simp;omega
  ·simp;omega
 ·simp;omega
theorem oJ (t b:Int):(aW t b).length≤60:=by
 unfold aW
 split
 ·rename_i hv
  obtain ⟨v1,v2,v3,v4⟩:=iP hv;unfold gL
  split
  ·have:=md (-t).toNat b.toNat (by omega) (by omega)
   simp only [List.length_cons];omega
  ·have:=md t.toNat b.toNat (by omega) (by omega)
   omega
 ·simp
theorem o4 (s:ByteArray) (h:gn s=true):aW (rdT s) (rdB s)=s.data.toList:=by
 unfold rdT rdB;rw [if_pos h,if_pos h];simp only [gn,Bool.and_eq_true,beq_iff_eq] at h;exact h.2
theorem bG (s:ByteArray):s.data.toList.length=s.size:=by rw [Array.length_toList];rfl
theorem oq (s:ByteArray) (h:gn s=true):1≤rdB s∧rdB s≤1000000:=by
 have e:=o4 s h
 cases hv:vB (rdT s) (rdB s) with
 |true=>obtain ⟨v1,v2,v3,v4⟩:=iP hv;exact ⟨v3,v4⟩
 |false=>
  exfalso
  rw [aW,hv] at e
  have e:s.data.toList=[]:=by simpa using e.symm
  obtain rfl:s=⟨#[]⟩:=by rw [kb e]
  exact absurd h (by decide)
theorem kT (k:Int) (s:ByteArray) (h:aJ k s=true):s.size≤60:=by
 rw [←bG];unfold aJ at h
 repeat' split at h
 ·simp only [lR,Bool.and_eq_true] at h
  rw [←o4 s h.1];exact oJ _ _
 ·rw [bG];simp only [Bool.and_eq_true,decide_eq_true_eq] at h;exact h.2
 ·simp only [Bool.or_eq_true,beq_iff_eq] at h
  rcases h with h|h<;>(rw [h];decide)
 ·rw [bG];simp only [Bool.and_eq_true,decide_eq_true_eq] at h;exact h.2
 ·simp only [beq_iff_eq] at h;rw [h];simp
 ·simp only [Bool.and_eq_true,Bool.not_eq_true',dn] at h
  have hd:(46:UInt8)∉s.data.toList:=by
   intro hm
   have:eH s.data.toList 46=true:=by
    rw [eH,List.any_eq_true];exact ⟨46,hm,by decide⟩
   rw [this] at h;simp at h
  have hp:=h.1.1;rw [jO _ hd,oi] at hp;simp only [Bool.and_eq_true,decide_eq_true_eq] at hp
  omega
 ·simp only [Bool.or_eq_true,beq_iff_eq] at h
  rcases h with h|h<;>(rw [h];simp)
 ·have:=aeZ _ (by simpa using h);omega
 ·simp only [beq_iff_eq] at h;rw [h];simp
 ·cases h
theorem agp (k m:Int) (h:bg k m=true):0≤m∧m≤8:=by
 unfold bg at h
 repeat' split at h
 all_goals first
  |(simp only [beq_iff_eq] at h;omega)
  |(simp only [Bool.and_eq_true,decide_eq_true_eq] at h;exact h)
  |cases h
abbrev Cl:=Int×ByteArray×Int
def okC (c:Cl):Bool:=aQ c.1 c.2.1 c.2.2
def amL (l:List Cl):List Nat:=l.map fun c=>c.2.2.toNat
theorem kU {c:Cl} (h:okC c=true):0≤c.2.2∧c.2.2≤8:=by
 simp only [okC,aQ,Bool.and_eq_true] at h;exact agp _ _ h.2
theorem tF (l:List Cl) (f:Nat) (h:f<l.length):(amL l)[f]? =some l[f].2.2.toNat:=by
 simp [amL,h]
theorem di (l:List Cl):(amL l).length=l.length:=by simp [amL]
open Classical in
noncomputable def okE (l:List Cl):Bool:=decide (l.length≤60)&&(l.all okC&&decide (∃d,d≤12∧Exs (amL l) 1 0 l.length d))
theorem dL (l:List Cl):okE l=true↔l.length≤60∧l.all okC=true∧ ∃d,d≤12∧Exs (amL l) 1 0 l.length d:=by
 simp only [okE,Bool.and_eq_true,decide_eq_true_eq]
theorem lL {l:List Cl} (h:l.all okC=true) (f:Nat) (hf:f<l.length):okC l[f]=true:=by
 rw [List.all_eq_true] at h;exact h _ (List.getElem_mem hf)
open Go.RowKit Go.ChangeShapes Go.WideShapes Go.Deep
def ae0 (w:World) (b o k:Nat) (c:Cl):Prop:=
 w.cell? ⟨b,o+k*3,none⟩=some (.int .i64 c.1)∧w.cell? ⟨b,o+k*3+1,none⟩=some (.string c.2.1)∧w.cell? ⟨b,o+k*3+2,none⟩=some (.int .i64 c.2.2)
def RowC (w:World) (v:Value) (l:List Cl):Prop:=
 ∃ao cap,v= .slice ao l.length cap∧l.length≤cap∧cap≤maxLen∧(l=[]∨ ∃b o,ao=some ⟨b,o,none⟩∧b<w.heap.size∧ ∀(k:Nat) (h:k<l.length),ae0 w b o k l[k])
theorem RowC.mono {w w':World} {v:Value} {l:List Cl} (h:RowC w v l) (hb:Below w.heap.size w w'):RowC w' v l:=by
 obtain ⟨ao,cap,hv,h1,h2,h3⟩:=h;refine ⟨ao,cap,hv,h1,h2, ?_⟩
 rcases h3 with h3|⟨b,o,ha,hlt,hj⟩
 ·exact .inl h3
 ·refine .inr ⟨b,o,ha,Nat.lt_of_lt_of_le hlt hb.size,fun k hk=> ?_⟩
  obtain ⟨c1,c2,c3⟩:=hj k hk;exact ⟨by rw [hb.cell (by exact hlt)];exact c1,by rw [hb.cell (by exact hlt)];exact c2,by rw [hb.cell (by exact hlt)];exact c3⟩
theorem RowC.drewN {w:World} {v:Value} {l:List Cl} (h:RowC w v l) (n:Nat):RowC (w.drewN n) v l:=h.mono ⟨rfl,rfl,rfl,ain _,fun _ _=>rfl⟩
theorem RowC.al {w:World} {v:Value} {l:List Cl} (h:RowC w v l) (o:Obj):RowC (w.alloc o) v l:=h.mono ((Below.refl _ _).alloc (ain _) _)
def dQ (l:List Cl):Prop:= ∀c∈l,c.2.1.size≤1048576
def em (l:List Cl):Prop:= ∀c∈l,c.2.1.size≤maxLen
theorem ae1 (b off j:Nat):(⟨b,off,none⟩:Addr).add j=⟨b,off+j,none⟩:=by
 unfold Addr.add;split<;>simp_all
theorem kV {w:World} {x:Addr} {v:Value} (h:w.cell? x=some v):x.spot=none∧x.block<w.heap.size:=by
 unfold World.cell? at h
 split at h
 ·rename_i c e fr hh
  refine ⟨?_, ?_⟩
  ·cases hs:x.spot with
   |none=>rfl
   |some s=>rw [hs] at h;simp at h
  ·by_cases hk:x.block<w.heap.size
   ·exact hk
   ·rw [Array.getElem?_eq_none (by omega)] at hh;cases hh
 ·cases h
def okM (c:Cl):Bool:=decide (0≤c.2.2)&&decide (c.2.2≤8)
theorem np {c:Cl} (h:okM c=true):0≤c.2.2∧c.2.2≤8:=by
 simpa only [okM,Bool.and_eq_true,decide_eq_true_eq] using h
theorem yQ {c:Cl} (h:okC c=true):okM c=true:=by
 have:=kU h;simp only [okM,Bool.and_eq_true,decide_eq_true_eq];exact this
theorem o5 {l:List Cl} (h:l.all okM=true) (f:Nat) (hf:f<l.length):okM l[f]=true:=by
 rw [List.all_eq_true] at h;exact h _ (List.getElem_mem hf)
theorem o6 {l:List Cl} (h:l.all okC=true):l.all okM=true:=by
 rw [List.all_eq_true] at h⊢;exact fun c hc=>yQ (h c hc)
def okW (c:Cl):Bool:=okC c||(c.1==1&&(c.2.2==0&&decide (c.2.1.size≤60)))
theorem jv {c:Cl} (h:okW c=true):okC c=true∨(c.1=1∧c.2.2=0∧c.2.1.size≤60):=by
 simp only [okW,Bool.or_eq_true,Bool.and_eq_true,beq_iff_eq,decide_eq_true_eq] at h;exact h
theorem ahJ {c:Cl} (h:okC c=true):okW c=true:=by rw [okW,h];rfl
theorem qz {k m:Int} {s:ByteArray} (h:okW (k,s,m)=true) (hk:k≠1):okC (k,s,m)=true:=(jv h).resolve_right (fun h=>hk h.1)
theorem ae2 {c:Cl} (h:okW c=true):c.2.1.size≤60:=by
 rcases jv h with h|h
 ·simp only [okC,aQ,Bool.and_eq_true] at h;exact kT _ _ h.1
 ·exact h.2.2
theorem aih {c:Cl} (h:okW c=true):okM c=true:=by
 rcases jv h with h|h
 ·exact yQ h
 ·simp only [okM,Bool.and_eq_true,decide_eq_true_eq];omega
theorem tG {l:List Cl} (h:l.all okW=true) (f:Nat) (hf:f<l.length):okW l[f]=true:=by
 rw [List.all_eq_true] at h;exact h _ (List.getElem_mem hf)
theorem agq {l:List Cl} (h:l.all okC=true):l.all okW=true:=by
 rw [List.all_eq_true] at h⊢;exact fun c hc=>ahJ (h c hc)
theorem ae3 {l:List Cl} (h:l.all okW=true):l.all okM=true:=by
 rw [List.all_eq_true] at h⊢;exact fun c hc=>aih (h c hc)
def ap (l:List Cl):List Value:=l.flatMap fun c=>[.int .i64 c.1, .string c.2.1, .int .i64 c.2.2]
theorem ez (l:List Cl):(ap l).length=l.length*3:=by
 induction l with
 |nil=>rfl
 |cons a t ih=>simp only [ap,List.flatMap_cons,aio,List.length_cons,List.length_nil] at ih⊢;omega
theorem aB (a b:List Cl):ap (a++b)=ap a++ap b:=by simp [ap]
theorem wA (l:List Cl): ∀(k:Nat) (h:k<l.length),(ap l)[k*3]? =some (.int .i64 l[k].1)∧(ap l)[k*3+1]? =some (.string l[k].2.1)∧(ap l)[k*3+2]? =some (.int .i64 l[k].2.2):=by
 induction l with
 |nil=>intro k h;simp at h
 |cons a t ih=>
  intro k h
  have e:ap (a::t)= .int .i64 a.1:: .string a.2.1:: .int .i64 a.2.2::ap t:=by simp [ap]
  cases k with
  |zero=>rw [e];exact ⟨rfl,rfl,rfl⟩
  |succ k=>
   have hk:k<t.length:=by simpa using h
   obtain ⟨h1,h2,h3⟩:=ih k hk;rw [e,show (k+1)*3=k*3+3 by omega];exact ⟨h1,h2,h3⟩
theorem RowC.of_own {w:World} {base n:Nat} {T:TypeId} {v:Value} {l:List Cl} (ho:w.ownsRow base T 3 v n (ap l)):RowC w v l∧n=l.length:=by
 have hl:l.length=n:=by have:=ho.1;rw [ez] at this;omega
 subst hl;refine ⟨?_,rfl⟩
 rcases ho.2 with ⟨rfl,h0⟩|⟨g,cap,cur,rfl,hg,hh,h1,h2,_⟩
 ·exact ⟨none,0,by rw [h0],by omega,by unfold maxLen;omega, .inl (List.length_eq_zero_iff.mp h0)⟩
 ·refine ⟨_,cap,rfl,h1,h2, .inr ⟨g,0,rfl,(ho.lt g rfl).2,fun k hk=> ?_⟩⟩
  obtain ⟨f0,f1,f2⟩:=wA l k hk;refine ⟨?_, ?_, ?_⟩
  ·rw [Nat.zero_add,ho.cellAt (k*3) (by omega)];exact f0
  ·rw [Nat.zero_add,ho.cellAt (k*3+1) (by omega)];exact f1
  ·rw [Nat.zero_add,ho.cellAt (k*3+2) (by omega)];exact f2
theorem gj:(Tryz.prog.info? 120).map (fun i=>(i.zero,i.size,i.bytes))=some (some (.agg #[.int .i64 0, .string ByteArray.empty, .int .i64 0]),3,32):=by kernel_rfl
theorem agr (g j:Nat):(⟨g,0,none⟩:Addr).add j=⟨g,j,none⟩:=by
 unfold Addr.add;split<;>simp_all
theorem aE (l:List Cl): ∀u∈ap l,u.oneCell'=true:=by
 intro u hu;simp only [ap,List.mem_flatMap] at hu;obtain ⟨c,-,hu⟩:=hu;simp only [List.mem_cons,List.not_mem_nil,or_false] at hu
 rcases hu with rfl|rfl|rfl<;>rfl
theorem aK {P:Program} {w:World} {ops:Array Oper} {rest:List Oper} {o:Oper} {a:Act} {Q:Exit→Act→World→Prop} (hgd:o.guard=none) (s x:Operand) (t:TypeId)
  (ho:o.op= .call {callee:= .builtin .append,args:= #[s,x],argTypes:= #[t,t]})
  (base:Nat) (e:TypeId) (i:TypeInfo) (z:Value) (size bytes:Nat) (ht:P.underlying t=some (.slice e)) (hi:P.info? e=some i) (hz:i.zero=some z)
  (hsize:i.size=size) (hby:i.bytes=bytes) (hzs:z.cells.size=size) (hsz:0<size)
  (v:Value) (n:Nat) (xs:List Value) (hs:a.eval s=v) (hown:w.ownsRow base e size v n xs)
  (base2:Nat) (u:Value) (m:Nat) (ys:List Value) (hx:a.eval x=u) (hsrc:w.ownsRow base2 e size u m ys) (h1: ∀u∈ys,u.oneCell'=true)
  (h63:n+m≤maxLen) (hbytes:(n+m)*bytes≤140737488355328) (hbase:base≤w.heap.size)
  (h: ∀v' w',w'.ownsRow base e size v' (n+m) (xs++ys)→w.grownBy w' v.ownBlock→wpList P ops Q rest (a.put o.dst v') w'):wpList P ops Q (o::rest) a w:=by
 rcases hsrc.2 with ⟨rfl,rfl⟩|⟨g,cap,cur,rfl,-⟩
 ·have hy:ys=[]:=List.eq_nil_of_length_eq_zero (by have:=hsrc.1;omega)
  subst hy;refine wpList_append_own_none hgd s x t ho base e i size ht hi v n xs hs hown hx ?_;exact h v w (by simpa using hown) (World.grownBy.refl _ _)
 ·refine wpList_append_own _ hgd s x t ho base e i z size bytes ht hi hz hsize hby hzs hsz v n xs hs hown ⟨g,0,none⟩ m cap ys hx hsrc.1 ?_ h1 h63 hbytes hbase (fun v' w' a1 a2 _=>h v' w' a1 a2)
  intro j y hj
  have hlt:j<ys.length:=by
   by_cases hk:j<ys.length
   ·exact hk
   ·rw [List.getElem?_eq_none (by omega)] at hj;cases hj
  rw [agr,hsrc.cellAt j (by have:=hsrc.1;omega)];exact hj
theorem agK {w:World} {b o:Nat} {l:List Cl} (h: ∀(k:Nat) (h:k<l.length),ae0 w b o k l[k]) (j:Nat) (u:Value) (hj:(ap l)[j]? =some u):w.cell? ((⟨b,o,none⟩:Addr).add j)=some u:=by
 have hlt:j<l.length*3:=by
  by_cases hk:j<l.length*3
  ·exact hk
  ·rw [List.getElem?_eq_none (by rw [ez];omega)] at hj;cases hj
 obtain ⟨k,r,hr,rfl⟩: ∃k r,r<3∧j=k*3+r:=⟨j/3,j % 3,Nat.mod_lt _ (by decide),by omega⟩
 obtain ⟨c0,c1,c2⟩:=h k (by omega);obtain ⟨f0,f1,f2⟩:=wA l k (by omega);rw [ae1]
 have h3:r=0∨r=1∨r=2:=by omega
 rcases h3 with rfl|rfl|rfl
 ·rw [Nat.add_zero] at hj⊢;rw [f0] at hj;rw [←hj];exact c0
 ·rw [f1] at hj;rw [←hj,←Nat.add_assoc];exact c1
 ·rw [f2] at hj;rw [←hj,←Nat.add_assoc];exact c2
theorem iG {P:Program} {w:World} (base:Nat) (t ty e:TypeId) (i:TypeInfo) (size:Nat) (ht:P.underlying t=some (.slice e)) (hi:P.info? e=some i)
  (v:Value) (n:Nat) (xs:List Value) (hown:w.ownsRow base e size v n xs) (c:Nat):
  (Builtin.append_ #[t,t] ty #[v, .slice none 0 c]).run P w= .ok v w:=by
 rcases hown.2 with ⟨rfl,rfl⟩|⟨g,cap,cur,rfl,_,_,hnc,_⟩
 ·simp [Builtin.append_,run_underlying ht,sizeOf,typeInfo,hi,Builtin.lenOf,Builtin.firstCells]
 ·simp [Builtin.append_,run_underlying ht,sizeOf,typeInfo,hi,Builtin.lenOf,Builtin.firstCells,hnc,storeCells]
theorem oK {P:Program} {w:World} {ops:Array Oper} {rest:List Oper} {o:Oper} {a:Act} {Q:Exit→Act→World→Prop} (hgd:o.guard=none) (s x:Operand) (t:TypeId)
  (ho:o.op= .call {callee:= .builtin .append,args:= #[s,x],argTypes:= #[t,t]})
  (base:Nat) (e:TypeId) (i:TypeInfo) (z:Value) (bytes:Nat) (ht:P.underlying t=some (.slice e)) (hi:P.info? e=some i) (hz:i.zero=some z)
  (hsize:i.size=3) (hby:i.bytes=bytes) (hzs:z.cells.size=3)
  (v:Value) (n:Nat) (xs:List Value) (hs:a.eval s=v) (hown:w.ownsRow base e 3 v n xs)
  (u:Value) (ys:List Cl) (hx:a.eval x=u) (hsrc:RowC w u ys)
  (h63:n+ys.length≤maxLen) (hbytes:(n+ys.length)*bytes≤140737488355328) (hbase:base≤w.heap.size)
  (h: ∀v' w',w'.ownsRow base e 3 v' (n+ys.length) (xs++ap ys)→w.grownBy w' v.ownBlock→wpList P ops Q rest (a.put o.dst v') w'):wpList P ops Q (o::rest) a w:=by
 obtain ⟨ao,cap,rfl,h1,h2,h3⟩:=hsrc
 cases ao with
 |none=>
  have hy:ys=[]:=by
   rcases h3 with h3|⟨b,o',hc,-⟩
   ·exact h3
   ·cases hc
  subst hy
  refine wpList_plain hgd fun K hK=> ?_
  have hrun:=iG (P:=P) (w:=w) base t o.type e i 3 ht hi v n xs hown cap;unfold Oper.wp;simp only [List.length_nil] at hx
  simp [execOp,ho,resolve,invoke,builtin,hs,hx,hrun,Result.andThen]
  exact hK _ _ (h v w (by simpa [ap] using hown) (World.grownBy.refl _ _))
 |some ad=>
  refine wpList_append_own _ hgd s x t ho base e i z 3 bytes ht hi hz hsize hby hzs (by decide) v n xs hs hown ad ys.length cap (ap ys) hx (ez ys) ?_ (aE ys) h63 hbytes hbase (fun v' w' a1 a2 _=>h v' w' a1 a2);intro j y hj
  rcases h3 with rfl|⟨b,o',hc,hbl,cc⟩
  ·simp [ap] at hj
  ·injection hc with hc
   subst hc;exact agK cc j y hj
theorem RowC.sub {w:World} {b o cap:Nat} {l:List Cl} (h:RowC w (.slice (some ⟨b,o,none⟩) l.length cap) l) (i j:Nat) (hij:i≤j) (hj:j≤l.length):
  RowC w (.slice (some ⟨b,o+i*3,none⟩) (j-i) (cap-i)) ((l.take j).drop i):=by
 obtain ⟨ao,cap',hv,h1,h2,h3⟩:=h;simp only [Value.slice.injEq] at hv;obtain ⟨rfl,-,rfl⟩:=hv
 have hlen:((l.take j).drop i).length=j-i:=by rw [List.length_drop,List.length_take];omega
 refine ⟨_,_,by rw [hlen],by rw [hlen];omega,by unfold maxLen at h2⊢;omega, ?_⟩
 rcases h3 with rfl|⟨b',o',hA,hlt,hc⟩
 ·left;simp
 ·simp only [Option.some.injEq,Addr.mk.injEq,and_true] at hA
  obtain ⟨rfl,rfl⟩:=hA;refine .inr ⟨_,_,rfl,hlt,fun k hk=> ?_⟩;rw [hlen] at hk;obtain ⟨c0,c1,c2⟩:=hc (i+k) (by omega)
  have e:((l.take j).drop i)[k]=l[i+k]'(by omega):=by rw [List.getElem_drop,List.getElem_take]
  rw [e]
  have q:o+i*3+k*3=o+(i+k)*3:=by omega
  exact ⟨by rw [q];exact c0,by rw [q];exact c1,by rw [q];exact c2⟩
def bA (b:UInt8):List UInt8:=if b=10 then [92,110] else if b=34∨b=92 then [92,b] else [b]
def aZ (l:List UInt8):List UInt8:=l.flatMap bA
def bB (l:List UInt8):List UInt8:=34::(aZ l++[34])
def cX (s:ByteArray):ByteArray:=if aT s=true then ⟨(bB s.data.toList).toArray⟩ else ⟨#[]⟩
def dI:List UInt8→List UInt8
 |[]=>[]
 |[_]=>[]
 |b::c::r=>if b=92 then (if c=110 then 10 else c)::dI r else b::dI (c::r)
def oS (s:ByteArray):List UInt8:=dI (s.data.toList.drop 1)
def bZ (s:ByteArray):Bool:=aT ⟨(oS s).toArray⟩&&decide (bB (oS s)=s.data.toList)
def hY (s:ByteArray):ByteArray:=if bZ s=true then ⟨(oS s).toArray⟩ else ⟨#[]⟩
theorem eU (b:UInt8) (l:List UInt8):aZ (b::l)=bA b++aZ l:=by simp [aZ]
theorem yR (l r:List UInt8):aZ (l++r)=aZ l++aZ r:=by simp [aZ]
theorem kW (l:List UInt8) (b:UInt8):aZ (l++[b])=aZ l++bA b:=by rw [yR];simp [aZ]
theorem mC (b:UInt8):1≤(bA b).length∧(bA b).length≤2:=by
 unfold bA;split
 ·simp
 ·split<;>simp
theorem jT (l:List UInt8):l.length≤(aZ l).length∧(aZ l).length≤2*l.length:=by
 induction l with
 |nil=>simp [aZ]
 |cons b t ih=>
  have:=mC b;rw [eU];simp only [aio,List.length_cons];omega
theorem ot (b:UInt8) (r:List UInt8) (hr:r≠[]):dI (bA b++r)=b::dI r:=by
 unfold bA
 split
 ·rename_i h;subst h;rfl
 ·split
  ·rename_i h1 h2
   show dI (92::b::r)=_
   have hb:b≠110:=by rcases h2 with h|h<;>subst h<;>decide
   simp only [dI,if_true,hb,if_false]
  ·rename_i h1 h2
   have hb:b≠92:=fun e=>h2 (.inr e)
   cases r with
   |nil=>exact absurd rfl hr
   |cons c r=>simp [dI,hb]
theorem wB (l:List UInt8) (r:List UInt8) (hr:r≠[]):dI (aZ l++r)=l++dI r:=by
 induction l with
 |nil=>rfl
 |cons b t ih=>
  rw [eU,List.append_assoc,ot _ _ (by simp [hr]),ih];rfl
theorem acl (l:List UInt8):dI ((bB l).drop 1)=l:=by
 show dI (aZ l++[34])=l
 rw [wB _ _ (by simp)];simp [dI]
theorem jU (l:List UInt8):(⟨l.toArray⟩:ByteArray).data.toList=l:=by simp
theorem eI {s t:ByteArray} (h:s.data.toList=t.data.toList):s=t:=by
 cases s with|mk a=>cases t with|mk b=>congr 1;exact Array.toList_inj.mp h
theorem gG (s:ByteArray):(⟨s.data.toList.toArray⟩:ByteArray)=s:=eI (by simp)
theorem yS {s t:ByteArray} (ht:aT t=true) (h:bB t.data.toList=s.data.toList):bZ s=true∧hY s=t:=by
 have e:oS s=t.data.toList:=by unfold oS;rw [←h,acl]
 have ho:bZ s=true:=by unfold bZ;rw [e,gG,ht,h];simp
 exact ⟨ho,by unfold hY;rw [if_pos ho,e,gG]⟩
theorem so {s:ByteArray} (h:bZ s=true):aT (hY s)=true∧cX (hY s)=s:=by
 unfold hY;rw [if_pos h];simp only [bZ,Bool.and_eq_true,decide_eq_true_eq] at h;refine ⟨h.1, ?_⟩;unfold cX;rw [if_pos h.1];exact eI (by rw [jU];rw [jU,h.2])
theorem kX {s:ByteArray} (h:bZ s=false):hY s=⟨#[]⟩:=by unfold hY;rw [h];rfl
theorem qA {s:ByteArray} (h: ∀t:List UInt8,t.length≤20000→okL t=true→bB t≠s.data.toList):bZ s=false:=by
 cases ho:bZ s with
 |false=>rfl
 |true=>
  simp only [bZ,Bool.and_eq_true,decide_eq_true_eq,aT] at ho;refine absurd ho.2 (h _ ?_ ?_)
  ·have:=ho.1.1;simpa [ByteArray.size] using this
  ·have:=ho.1.2;simpa using this
theorem sq {s:ByteArray} (h:aT s=true):bZ (cX s)=true∧hY (cX s)=s:=
 yS h (by unfold cX;rw [if_pos h])
def ov (n:Int):Bool:=decide (n=34∨n=92∨n=110)
def kY (n:Int):Bool:=decide (n=34∨n=92∨n=10)
def rkC (c:Cl):Int:=if c.1=9 then 1 else if c.1=8 then aj c.2.1.data.toList else if c.1=7 then 7 else 8
abbrev Pt:=Int×List UInt8
def dE (r:Int) (x:Pt):List UInt8:=if x.1<r then 40::(x.2++[41]) else x.2
def gb (xs:List Pt):List UInt8:=xs.flatMap fun x=>[44,32]++x.2
def dq:List Pt→List UInt8
 |[]=>[]
 |x::xs=>x.2++gb xs
def df (r:Int):Int:=if r=4 then 5 else r
def eo (ks:List Pt) (i:Nat):Pt:=ks.getD i (0,[])
def bY (c:Cl) (ks:List Pt):List UInt8:=
 if c.1=2 then bB c.2.1.data.toList
 else if c.1=5 then 91::(dq ks++[93])
 else if c.1=6 then c.2.1.data.toList++(40::(dq ks++[41]))
 else if c.1=7 then c.2.1.data.toList++dE 7 (eo ks 0)
 else if c.1=8 then dE (df (aj c.2.1.data.toList)) (eo ks 0)++([32]++c.2.1.data.toList++[32])++dE (aj c.2.1.data.toList+1) (eo ks 1)
 else if c.1=9 then dE 2 (eo ks 0)++[32,63,32]++(eo ks 1).2++[32,58,32]++(eo ks 2).2
 else c.2.1.data.toList
inductive Tx (l:List Cl):Nat→Nat→Nat→List Pt→Prop
 |nil (f:Nat):Tx l 0 f f []
 |cons {f g n t:Nat} {c:Cl} {ks xs:List Pt}:l[f]? =some c→Tx l c.2.2.toNat (f+1) g ks→Tx l n g t xs→Tx l (n+1) f t ((rkC c,bY c ks)::xs)
theorem Tx.len {l:List Cl} {n f t:Nat} {xs:List Pt} (h:Tx l n f t xs):xs.length=n:=by
 induction h with
 |nil f=>rfl
 |cons hc h1 h2 i1 i2=>rw [List.length_cons,i2]
theorem qB {l:List Cl} {f:Nat} {c:Cl} (h:l[f]? =some c):(amL l)[f]? =some c.2.2.toNat:=by
 simp [amL,h]
theorem zU {l:List Cl} {f m:Nat} (h:(amL l)[f]? =some m): ∃c,l[f]? =some c∧c.2.2.toNat=m:=by
 simp only [amL,List.getElem?_map,Option.map_eq_some_iff] at h;exact h
theorem Tx.exs {l:List Cl} {n f t:Nat} {xs:List Pt} (h:Tx l n f t xs): ∃d,Exs (amL l) n f t d:=by
 induction h with
 |nil f=>exact ⟨0, .nil f⟩
 |cons hc h1 h2 i1 i2=>
  obtain ⟨d1,i1⟩:=i1;obtain ⟨d2,i2⟩:=i2;exact ⟨_, .cons (qB hc) i1 i2⟩
theorem Tx.of_exs {l:List Cl} {n f t d:Nat} (h:Exs (amL l) n f t d): ∃xs,Tx l n f t xs:=by
 generalize ha:amL l=am at h
 induction h with
 |nil f=>exact ⟨[], .nil f⟩
 | @cons f m g d n t e hm h1 h2 i1 i2=>
  obtain ⟨ks,k1⟩:=i1;obtain ⟨xs,k2⟩:=i2;subst ha;obtain ⟨c,hc,rfl⟩:=zU hm;exact ⟨_, .cons hc k1 k2⟩
theorem Tx.uniq {l:List Cl} {n f t:Nat} {xs:List Pt} (h:Tx l n f t xs): ∀{t':Nat} {ys:List Pt},Tx l n f t' ys→t=t'∧xs=ys:=by
 induction h with
 |nil f=>intro t' ys h';cases h';exact ⟨rfl,rfl⟩
 |cons hc h1 h2 i1 i2=>
  intro t' ys h'
  cases h' with
  |cons hc' k1 k2=>
   rw [hc] at hc';injection hc' with hc';subst hc'
   obtain ⟨rfl,rfl⟩:=i1 k1;obtain ⟨rfl,rfl⟩:=i2 k2;exact ⟨rfl,rfl⟩
theorem Tx.inv {l:List Cl} {f t:Nat} {x:Pt} (h:Tx l 1 f t [x]): ∃c ks,l[f]? =some c∧Tx l c.2.2.toNat (f+1) t ks∧x=(rkC c,bY c ks):=by
 cases h with
 |cons hc h1 h2=>cases h2;exact ⟨_,_,hc,h1,rfl⟩
theorem Tx.at {l:List Cl} {n f t:Nat} {xs:List Pt} (h:Tx l n f t xs): ∀k,k<n→ ∃g g' x,xs[k]? =some x∧Tx l k f g (xs.take k)∧Tx l 1 g g' [x]∧Tx l (n-(k+1)) g' t (xs.drop (k+1))∧(ga (amL l) f n)[k]? =some g:=by
 induction h with
 |nil f=>intro k hk;omega
 | @cons f g n t c ks xs hc h1 h2 i1 i2=>
  intro k hk;have hone:Tx l 1 f g [(rkC c,bY c ks)]:= .cons hc h1 (.nil g);obtain ⟨d,hx⟩:=hone.exs
  cases k with
  |zero=>exact ⟨f,g,_,rfl, .nil f,hone,by simpa using h2,by rw [ga];rfl⟩
  |succ k=>
   obtain ⟨g1,g2,x,j1,j2,j3,j4,j5⟩:=i2 k (by omega);refine ⟨g1,g2,x,by simpa using j1, ?_,j3, ?_, ?_⟩
   ·rw [List.take_succ_cons];exact .cons hc h1 j2
   ·rw [show n+1-(k+1+1)=n-(k+1) by omega];simpa using j4
   ·rw [ga,List.getElem?_cons_succ,hx.endP];exact j5
theorem mD (ks:List Pt) (k:Nat) (x:Pt) (h:ks[k]? =some x):dq (ks.take (k+1))=dq (ks.take k)++((if k=0 then [] else [44,32])++x.2):=by
 have e:ks.take (k+1)=ks.take k++[x]:=by rw [List.take_add_one,h];rfl
 rw [e]
 cases k with
 |zero=>simp [dq,gb]
 |succ k=>
  cases ks with
  |nil=>simp at h
  |cons y ys=>simp [dq,gb]
def gV:List Pt→Nat
 |[]=>0
 |x::xs=>x.2.length+8+gV xs
theorem acm (xs:List Pt):(gb xs).length+6*xs.length≤gV xs:=by
 induction xs with
 |nil=>simp [gb,gV]
 |cons x xs ih=>simp only [gb,List.flatMap_cons,aio,List.length_cons,gV,List.length_nil] at ih⊢;omega
theorem lM (xs:List Pt):(dq xs).length≤gV xs:=by
 cases xs with
 |nil=>simp [dq]
 |cons x xs=>have:=acm xs;simp only [dq,aio,gV];omega
theorem dY (r:Int) (x:Pt):(dE r x).length≤x.2.length+2:=by
 unfold dE;split
 ·simp
 ·omega
theorem ags (ks:List Pt):(eo ks 0).2.length+(eo ks 1).2.length+(eo ks 2).2.length≤gV ks:=by
 rcases ks with _|⟨a,_|⟨b,_|⟨c,r⟩⟩⟩<;>simp [eo,gV]<;>omega
theorem sr {c:Cl} (h:okC c=true) (ks:List Pt):(bY c ks).length≤180+gV ks:=by
 have hw:c.2.1.data.toList.length≤60:=by
  simp only [okC,aQ,Bool.and_eq_true] at h;have:=kT _ _ h.1;rw [bG];exact this
 have h2:=ags ks;have hj:=lM ks
 have hq:(bB c.2.1.data.toList).length≤122:=by
  have:=(jT c.2.1.data.toList).2;simp only [bB,List.length_cons,aio,List.length_nil];omega
 have p0:=dY 7 (eo ks 0);have p1:=dY (df (aj c.2.1.data.toList)) (eo ks 0);have p2:=dY (aj c.2.1.data.toList+1) (eo ks 1);have p3:=dY 2 (eo ks 0);unfold bY
 repeat' split
 all_goals first
  |omega
  |(simp only [aio,List.length_cons,List.length_nil];omega)
theorem Tx.short {l:List Cl} (hok:l.all okC=true) {n f t:Nat} {xs:List Pt} (h:Tx l n f t xs):gV xs≤200*(t-f)∧f≤t:=by
 induction h with
 |nil f=>exact ⟨air _,ain _⟩
 | @cons f g n t c ks xs hc h1 h2 i1 i2=>
  obtain ⟨hl,he⟩:=List.getElem?_eq_some_iff.mp hc
  have ho:okC c=true:=by rw [←he];exact lL hok f hl
  have hb:=sr ho ks;simp only [gV];omega
theorem Tx.app {l:List Cl} {a f g:Nat} {xs:List Pt} (h:Tx l a f g xs): ∀{b t:Nat} {ys:List Pt},Tx l b g t ys→Tx l (a+b) f t (xs++ys):=by
 induction h with
 |nil f=>intro b t ys k;rw [Nat.zero_add];exact k
 | @cons f g n t c ks xs hc h1 h2 i1 i2=>
  intro b t' ys k;rw [show n+1+b=(n+b)+1 by omega];exact .cons hc h1 (i2 k)
theorem Tx.snoc {l:List Cl} {k f g t:Nat} {xs:List Pt} {x:Pt} (h:Tx l k f g (xs.take k)) (hx:xs[k]? =some x) (h1:Tx l 1 g t [x]):Tx l (k+1) f t (xs.take (k+1)):=by
 have e:xs.take (k+1)=xs.take k++[x]:=by rw [List.take_add_one,hx];rfl
 rw [e];exact h.app h1
theorem nr (l:List UInt8) (h:0<aj l):2≤aj l∧aj l≤6:=by
 have key: ∀{p:Prop} [Decidable p] {a b:Int},(a=0∨(2≤a∧a≤6))→(b=0∨(2≤b∧b≤6))→((if p then a else b)=0∨(2≤(if p then a else b)∧(if p then a else b)≤6)):=by
  intro p _ a b ha hb
  by_cases h:p
  ·rw [if_pos h];exact ha
  ·rw [if_neg h];exact hb
 have:aj l=0∨(2≤aj l∧aj l≤6):=by
  unfold aj
  iterate 13 (refine key (by decide) ?_)
  decide
 omega
theorem ae4 {c:Cl} (h:okC c=true):1≤rkC c∧rkC c≤8:=by
 unfold rkC
 split
 ·omega
 ·split
  ·rename_i h8
   have:0<aj c.2.1.data.toList:=by
    simp only [okC,aQ,aJ,h8,Bool.and_eq_true] at h;simpa using h.1
   have:=nr _ this;omega
  ·split<;>omega
theorem Tx.rk {l:List Cl} (hok:l.all okC=true) {n f t:Nat} {xs:List Pt} (h:Tx l n f t xs): ∀x∈xs,1≤x.1∧x.1≤8:=by
 induction h with
 |nil f=>intro x hx;cases hx
 | @cons f g n t c ks xs hc h1 h2 i1 i2=>
  intro x hx
  rcases List.mem_cons.mp hx with rfl|hx
  ·obtain ⟨hl,he⟩:=List.getElem?_eq_some_iff.mp hc
   exact ae4 (by rw [←he];exact lL hok f hl)
  ·exact i2 x hx
theorem lN {x:Pt} {r:Int} (h:r≤x.1):dE r x=x.2:=by unfold dE;rw [if_neg (by omega)]
open Classical in
noncomputable def bC (l:List Cl):List UInt8:=if h:okE l=true∧ ∃x,Tx l 1 0 l.length [x] then h.2.choose.2 else []
theorem jw {l:List Cl} {x:Pt} (hok:okE l=true) (h:Tx l 1 0 l.length [x]):bC l=x.2:=by
 have hh:okE l=true∧ ∃x,Tx l 1 0 l.length [x]:=⟨hok,x,h⟩
 unfold bC;rw [dif_pos hh];have:=(hh.2.choose_spec.uniq h).2;simp only [List.cons.injEq,and_true] at this;rw [this]
theorem wC {l:List Cl} (hok:okE l=false):bC l=[]:=by
 unfold bC;rw [dif_neg]
 intro h;rw [hok] at h;cases h.1
theorem qC {l:List Cl} (hok:okE l=true): ∃x,Tx l 1 0 l.length [x]:=by
 obtain ⟨-,-,d,-,hx⟩:=(dL l).mp hok;obtain ⟨xs,h⟩:=Tx.of_exs hx;have hl:=h.len
 match xs,hl with
 |[x],_=>exact ⟨x,h⟩
theorem gv (l:List Cl):(bC l).length≤12000:=by
 cases hok:okE l with
 |false=>rw [wC hok];simp
 |true=>
  obtain ⟨x,h⟩:=qC hok;obtain ⟨h60,hal,-⟩:=(dL l).mp hok;have:=(h.short hal).1;rw [jw hok h];simp only [gV] at this;omega
theorem su (ks:List Pt): ∀k,gV (ks.take k)≤gV ks:=by
 induction ks with
 |nil=>intro k;simp [gV]
 |cons x xs ih=>
  intro k
  cases k with
  |zero=>simp [gV]
  |succ k=>have:=ih k;simp only [List.take_succ_cons,gV];omega
theorem yT {c:Cl} (h:okW c=true) (ks:List Pt):(bY c ks).length≤180+gV ks:=by
 rcases jv h with h|⟨h1,-,h3⟩
 ·exact sr h ks
 ·have:bY c ks=c.2.1.data.toList:=by unfold bY;simp [h1]
  rw [this,bG];omega
theorem Tx.shortW {l:List Cl} (hok:l.all okW=true) {n f t:Nat} {xs:List Pt} (h:Tx l n f t xs):gV xs≤200*(t-f)∧f≤t:=by
 induction h with
 |nil f=>exact ⟨air _,ain _⟩
 | @cons f g n t c ks xs hc h1 h2 i1 i2=>
  obtain ⟨hl,he⟩:=List.getElem?_eq_some_iff.mp hc
  have ho:okW c=true:=by rw [←he];exact tG hok f hl
  have hb:=yT ho ks;simp only [gV];omega
theorem agt {c:Cl} (h:okW c=true):1≤rkC c∧rkC c≤8:=by
 rcases jv h with h|⟨h1,-,-⟩
 ·exact ae4 h
 ·unfold rkC;rw [if_neg (by omega),if_neg (by omega),if_neg (by omega)];decide
theorem Tx.rkW {l:List Cl} (hok:l.all okW=true) {n f t:Nat} {xs:List Pt} (h:Tx l n f t xs): ∀x∈xs,1≤x.1∧x.1≤8:=by
 induction h with
 |nil f=>intro x hx;cases hx
 | @cons f g n t c ks xs hc h1 h2 i1 i2=>
  intro x hx
  rcases List.mem_cons.mp hx with rfl|hx
  ·obtain ⟨hl,he⟩:=List.getElem?_eq_some_iff.mp hc
   exact agt (by rw [←he];exact tG hok f hl)
  ·exact i2 x hx
theorem jV {a b c:World} {R:Option Nat} (h:a.grownBy b R) (k:b.grownBy c R):a.grownBy c R:=
 ⟨k.os.trans h.os,k.tape.trans h.tape,k.output.trans h.output,Nat.le_trans h.size k.size,fun i hi hn=>(k.block i (Nat.lt_of_lt_of_le hi h.size) hn).trans (h.block i hi hn)⟩
theorem dJ {w w':World} {base:Nat} {e:TypeId} {size n:Nat} {v:Value} {xs:List Value} (h:w.ownsRow base e size v n xs) (hw: ∀g,v.ownBlock=some g→w'.heap[g]? =w.heap[g]?):w'.ownsRow base e size v n xs:=by
 refine ⟨h.1, ?_⟩
 rcases h.2 with hn|⟨g',cap,cur,rfl,hb',hgg,rest⟩
 ·exact .inl hn
 ·exact .inr ⟨g',cap,cur,rfl,hb',by rw [hw g' rfl];exact hgg,rest⟩
theorem ba {w:World} {base base':Nat} {e:TypeId} {size n:Nat} {v:Value} {xs:List Value} (h:w.ownsRow base e size v n xs) (hg: ∀g,v.ownBlock=some g→base'≤g):w.ownsRow base' e size v n xs:=by
 refine ⟨h.1, ?_⟩
 rcases h.2 with hn|⟨g',cap,cur,rfl,hb',rest⟩
 ·exact .inl hn
 ·exact .inr ⟨g',cap,cur,rfl,hg g' rfl,rest⟩
theorem bJ {w w1:World} {base:Nat} {e:TypeId} {size n:Nat} {v:Value} {xs:List Value} (h:w.ownsRow base e size v n xs) (hb:Below w.heap.size w w1):w1.ownsRow base e size v n xs:=
 dJ h (fun g hg=>hb.block g (h.lt g hg).2)
theorem ai {w:World} {base:Nat} {e:TypeId} {size n:Nat} {v:Value} {xs:List Value} (h:w.ownsRow base e size v n xs): ∃a c,v= .slice a n c:=by
 rcases h.2 with ⟨rfl,h0⟩|⟨g',cap,cur,rfl,_⟩
 ·exact ⟨none,0,by rw [h0]⟩
 ·exact ⟨_,_,rfl⟩
end Go.Proofs.YthijkjnngfnfdaaGreatDoor
