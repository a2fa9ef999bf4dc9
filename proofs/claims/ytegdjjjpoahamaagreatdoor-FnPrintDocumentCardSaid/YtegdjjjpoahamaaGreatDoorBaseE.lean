/-
  Several texts of the proof in one file: ExprPlain, CellPlain, CellRow, CellW, Flat, AppendC, RowSub, QuotePlain, PrintPlain, PrintP, ValPlain, CutL, RowLs, GrownT, OwnSS, PushR.
-/
import Derived.Test.YtegdjjjpoahamaaGreatDoorBaseA
import Derived.Test.YtegdjjjpoahamaaGreatDoorBaseC
import Derived.Deep.Slices
import Derived.Deep.Strs
import Derived.Deep.Fields
import Derived.ChangeSame
import Derived.Below
import Derived.Deep.AppendLies
import Derived.OwnWalk
import Derived.Laws.OwnMore
import Derived.Laws.Rows
import Derived.Laws.AppendOwnNone
set_option linter.unusedVariables false
namespace Go.Proofs.YtegdjjjpoahamaaGreatDoor
inductive Exs (am:List Nat):Nat→Nat→Nat→Nat→Prop
 |nil (f:Nat):Exs am 0 f f 0
 |cons {f m g d n t e:Nat}:am[f]? =some m→Exs am m (f+1) g d→Exs am n g t e→Exs am (n+1) f t (max (d+1) e)
theorem Exs.le {am:List Nat} {n f t d:Nat} (h:Exs am n f t d):f+n≤t∧(n≠0→t≤am.length):=by
 induction h with
 |nil f=>exact ⟨by omega,fun h=>absurd rfl h⟩
 | @cons f m g d n t e hm h1 h2 i1 i2=>
  have hf:f<am.length:=by
   by_cases hk:f<am.length
   ·exact hk
   ·rw [List.getElem?_eq_none (by omega)] at hm;cases hm
  refine ⟨by omega,fun _=> ?_⟩
  by_cases hn:n=0
  ·subst hn
   cases h2
   by_cases hm0:m=0
   ·subst hm0;cases h1;omega
   ·exact i1.2 hm0
  ·exact i2.2 hn
theorem Exs.uniq {am:List Nat} {n f t d:Nat} (h:Exs am n f t d): ∀{t' d':Nat},Exs am n f t' d'→t=t'∧d=d':=by
 induction h with
 |nil f=>intro t' d' h';cases h';exact ⟨rfl,rfl⟩
 | @cons f m g d n t e hm h1 h2 i1 i2=>
  intro t' d' h'
  cases h' with
  | @cons _ m' g' d1 _ _ e1 hm' k1 k2=>
   rw [hm] at hm';injection hm' with hm';subst hm'
   obtain ⟨rfl,rfl⟩:=i1 k1
   obtain ⟨rfl,rfl⟩:=i2 k2
   exact ⟨rfl,rfl⟩
theorem Exs.app {am:List Nat} {a f g d:Nat} (h:Exs am a f g d): ∀{b t e:Nat},Exs am b g t e→Exs am (a+b) f t (max d e):=by
 induction h with
 |nil f=>intro b t e k;rw [Nat.zero_add,Nat.zero_max];exact k
 | @cons f m g d n t e hm h1 h2 i1 i2=>
  intro b t' e' k
  rw [show n+1+b=(n+b)+1 by omega,Nat.max_assoc]
  exact .cons hm h1 (i2 k)
theorem Exs.split {am:List Nat} {a:Nat}: ∀{b f t d:Nat},Exs am (a+b) f t d→ ∃g d1 d2,Exs am a f g d1∧Exs am b g t d2∧d=max d1 d2:=by
 induction a with
 |zero=>intro b f t d h;rw [Nat.zero_add] at h;exact ⟨f,0,d, .nil f,h,by simp⟩
 |succ a ih=>
  intro b f t d h
  rw [show a+1+b=(a+b)+1 by omega] at h
  cases h with
  | @cons _ m g d1 _ _ e hm h1 h2=>
   obtain ⟨g',d',d2,k1,k2,rfl⟩:=ih h2
   exact ⟨g',_,d2, .cons hm h1 k1,k2,by rw [Nat.max_assoc]⟩
theorem Exs.snoc {am:List Nat} {n f g d t e:Nat} (h:Exs am n f g d) (k:Exs am 1 g t e):Exs am (n+1) f t (max d e):=h.app k
theorem Exs.one {am:List Nat} {f m t d:Nat} (hm:am[f]? =some m) (h:Exs am m (f+1) t d):Exs am 1 f t (d+1):=by
 have:=Exs.cons hm h (.nil t)
 rwa [Nat.max_eq_left (by omega)] at this
theorem Exs.inv {am:List Nat} {f t d:Nat} (h:Exs am 1 f t d): ∃m e,am[f]? =some m∧Exs am m (f+1) t e∧d=e+1:=by
 cases h with
 | @cons _ m g d1 _ _ e hm h1 h2=>
  cases h2
  exact ⟨m,d1,hm,h1,by omega⟩
def scA:List Nat→Nat→Nat→Option Nat
 |_,k,0=>some k
 |[],_,_+1=>none
 |m::l,k,n+1=>scA l (k+1) (n+m)
theorem scA_zero (l:List Nat) (k:Nat):scA l k 0=some k:=by cases l<;>rfl
theorem am_drop (am:List Nat) (f m:Nat) (h:am[f]? =some m):am.drop f=m::am.drop (f+1):=by
 have hf:f<am.length:=by
  by_cases hk:f<am.length
  ·exact hk
  ·rw [List.getElem?_eq_none (by omega)] at h;cases h
 rw [List.drop_eq_getElem_cons hf]
 rw [List.getElem?_eq_getElem hf] at h;injection h with h;rw [h]
theorem Exs.sc {am:List Nat} {n f t d:Nat} (h:Exs am n f t d): ∀b,scA (am.drop f) f (n+b)=scA (am.drop t) t b:=by
 induction h with
 |nil f=>intro b;rw [Nat.zero_add]
 | @cons f m g d n t e hm h1 h2 i1 i2=>
  intro b
  rw [am_drop am f m hm,show n+1+b=(n+b)+1 by omega,scA,show n+b+m=m+(n+b) by omega,i1 (n+b),i2 b]
theorem Exs.sc0 {am:List Nat} {n f t d:Nat} (h:Exs am n f t d):scA (am.drop f) f n=some t:=by
 have:=h.sc 0;rw [scA_zero] at this;exact this
theorem exs_of_sc (am:List Nat): ∀(j n f t:Nat),am.length-f≤j→scA (am.drop f) f n=some t→ ∃d,Exs am n f t d:=by
 intro j
 induction j with
 |zero=>
  intro n f t hj h
  rw [List.drop_of_length_le (by omega)] at h
  cases n with
  |zero=>rw [scA_zero] at h;injection h with h;subst h;exact ⟨0, .nil f⟩
  |succ n=>cases h
 |succ j ih=>
  intro n f t hj h
  cases n with
  |zero=>rw [scA_zero] at h;injection h with h;subst h;exact ⟨0, .nil f⟩
  |succ n=>
   cases hm:am[f]? with
   |none=>
    have:am.length≤f:=by simpa using hm
    rw [List.drop_of_length_le (by omega)] at h;cases h
   |some m=>
    rw [am_drop am f m hm,scA,Nat.add_comm n m] at h
    obtain ⟨d,hd⟩:=ih (m+n) (f+1) t (by omega) h
    obtain ⟨g,d1,d2,h1,h2,rfl⟩:=hd.split
    exact ⟨_, .cons hm h1 h2⟩
theorem sc_le (l:List Nat): ∀k n t,scA l k n=some t→k≤t∧t≤k+l.length:=by
 induction l with
 |nil=>intro k n t h;cases n with
  |zero=>rw [scA_zero] at h;injection h with h;subst h;simp
  |succ n=>cases h
 |cons m l ih=>intro k n t h;cases n with
  |zero=>rw [scA_zero] at h;injection h with h;subst h;simp
  |succ n=>rw [scA] at h;have:=ih _ _ _ h;rw [List.length_cons];omega
def endP (am:List Nat) (f:Nat):Nat:=(scA (am.drop f) f 1).getD 0
theorem Exs.endP {am:List Nat} {f t d:Nat} (h:Exs am 1 f t d):endP am f=t:=by unfold Proofs.YtegdjjjpoahamaaGreatDoor.endP;rw [h.sc0];rfl
def kidsL (am:List Nat):Nat→Nat→List Nat
 |_,0=>[]
 |f,n+1=>f::kidsL am (endP am f) n
theorem kidsL_length (am:List Nat): ∀n f,(kidsL am f n).length=n:=by
 intro n;induction n with
 |zero=>intro f;rfl
 |succ n ih=>intro f;rw [kidsL,List.length_cons,ih]
theorem kidsL_snoc {am:List Nat} {n f t d:Nat} (h:Exs am n f t d):kidsL am f (n+1)=kidsL am f n++[t]:=by
 induction n generalizing f t d with
 |zero=>cases h;rfl
 |succ n ih=>
  rw [Nat.add_comm n 1] at h
  obtain ⟨g,d1,d2,h1,h2,rfl⟩:=h.split
  rw [kidsL,h1.endP,ih h2,kidsL,h1.endP];rfl
theorem kid_at {am:List Nat} {n f t d:Nat} (h:Exs am n f t d) (i:Nat) (hi:i<n):
  ∃k g d0 d1 d2,(kidsL am f n)[i]? =some k∧Exs am i f k d0∧Exs am 1 k g d1∧Exs am (i+1) f g (max d0 d1)∧Exs am (n-(i+1)) g t d2∧d=max (max d0 d1) d2:=by
 induction i generalizing n f t d with
 |zero=>
  obtain ⟨n,rfl⟩: ∃k,n=1+k:=⟨n-1,by omega⟩
  obtain ⟨g,d1,d2,h1,h2,rfl⟩:=h.split
  refine ⟨f,g,0,d1,d2, ?_, .nil f,h1,by rw [Nat.zero_max];exact h1,by rw [show 1+n-(0+1)=n by omega];exact h2,by simp⟩
  rw [Nat.add_comm,kidsL];rfl
 |succ i ih=>
  obtain ⟨n,rfl⟩: ∃k,n=1+k:=⟨n-1,by omega⟩
  obtain ⟨g,d1,d2,h1,h2,rfl⟩:=h.split
  obtain ⟨k,g',e0,e1,e2,j1,j2,j3,j4,j5,rfl⟩:=ih h2 (by omega)
  refine ⟨k,g',max d1 e0,e1,e2, ?_, ?_,j3, ?_, ?_,by omega⟩
  ·rw [Nat.add_comm,kidsL,List.getElem?_cons_succ,h1.endP];exact j1
  ·rw [Nat.add_comm i 1];exact h1.app j2
  ·rw [show i+1+1=1+(i+1) by omega,show max (max d1 e0) e1=max d1 (max e0 e1) by omega];exact h1.app j4
  ·rw [show 1+n-(i+1+1)=n-(i+1) by omega];exact j5
theorem exs_none_of {am:List Nat} {m f:Nat} (hm:am[f]? =some m) (h: ¬ ∃t d,Exs am m (f+1) t d): ¬ ∃t d,Exs am 1 f t d:=by
 rintro ⟨t,d,k⟩
 obtain ⟨m',e,hm',k',-⟩:=k.inv
 rw [hm] at hm';injection hm' with hm';subst hm'
 exact h ⟨t,e,k'⟩
theorem exs_stop {am:List Nat} {i n f g d:Nat} (h:Exs am i f g d) (hi:i<n) (hno: ¬ ∃t e,Exs am 1 g t e): ¬ ∃t d,Exs am n f t d:=by
 rintro ⟨t,d',k⟩
 rw [show n=i+(1+(n-i-1)) by omega] at k
 obtain ⟨g',d1,d2,k1,k2,-⟩:=k.split
 obtain ⟨rfl,-⟩:=h.uniq k1
 obtain ⟨g2,e1,e2,l1,l2,-⟩:=k2.split
 exact hno ⟨g2,e1,l1⟩
theorem Exs.inside {am:List Nat} {n f t d:Nat} (h:Exs am n f t d): ∀k,f≤k→k<t→ ∃g e,Exs am 1 k g e∧g≤t∧e≤d:=by
 induction h with
 |nil f=>intro k h1 h2;omega
 | @cons f m g d n t e hm h1 h2 i1 i2=>
  intro k hk1 hk2
  have l1:=h1.le;have l2:=h2.le
  by_cases hf:k=f
  ·subst hf;exact ⟨g,d+1, .one hm h1,by omega,by omega⟩
  ·by_cases hg:k<g
   ·obtain ⟨g',e',j1,j2,j3⟩:=i1 k (by omega) hg
    exact ⟨g',e',j1,by omega,by omega⟩
   ·obtain ⟨g',e',j1,j2,j3⟩:=i2 k (by omega) hk2
    exact ⟨g',e',j1,j2,by omega⟩
theorem Exs.shift {am bm:List Nat} {n f t d:Nat} (h:Exs am n f t d): ∀(a:Nat),a≤f→(∀i,f≤i→i<t→bm[i-a]? =am[i]?)→Exs bm n (f-a) (t-a) d:=by
 induction h with
 |nil f=>intro a ha hb;exact .nil _
 | @cons f m g d n t e hm h1 h2 i1 i2=>
  intro a ha hb
  have l1:=h1.le;have l2:=h2.le
  refine .cons (m:=m) (g:=g-a) (by rw [hb f (by omega) (by omega)];exact hm) ?_ ?_
  ·have:=i1 a (by omega) (fun i x1 x2=>hb i (by omega) (by omega))
   rwa [show f+1-a=f-a+1 by omega] at this
  ·exact i2 a (by omega) (fun i x1 x2=>hb i (by omega) x2)
theorem Exs.up {am bm:List Nat} {n f t d:Nat} (h:Exs am n f t d): ∀(a:Nat),(∀i,f≤i→i<t→bm[i+a]? =am[i]?)→Exs bm n (f+a) (t+a) d:=by
 induction h with
 |nil f=>intro a hb;exact .nil _
 | @cons f m g d n t e hm h1 h2 i1 i2=>
  intro a hb
  have l1:=h1.le;have l2:=h2.le
  refine .cons (m:=m) (g:=g+a) (by rw [hb f (by omega) (by omega)];exact hm) ?_ ?_
  ·have:=i1 a (fun i x1 x2=>hb i (by omega) (by omega))
   rwa [show f+1+a=f+a+1 by omega] at this
  ·exact i2 a (fun i x1 x2=>hb i (by omega) x2)
open Go.RowKit
def numB (s:ByteArray):Bool:=rdOK s&&(decide (0≤rdT s)&&((1000000:Int).tmod (rdB s)==0))
def rankL (l:List UInt8):Int:=
 if l=[124,124] then 2 else if l=[38,38] then 3
 else if l=[61,61] then 4 else if l=[33,61] then 4 else if l=[60] then 4 else if l=[60,61] then 4 else if l=[62] then 4 else if l=[62,61] then 4
 else if l=[43] then 5 else if l=[45] then 5
 else if l=[42] then 6 else if l=[47] then 6 else if l=[37] then 6 else 0
def wordB (k:Int) (s:ByteArray):Bool:=
 if k=1 then numB s else if k=2 then textB s&&decide (s.size≤60)
 else if k=3 then s.data.toList==trueL||s.data.toList==falseL
 else if k=4 then nameL s.data.toList&&decide (s.size≤60)
 else if k=5 then s.data.toList==[]
 else if k=6 then nameL s.data.toList&& !hasL s.data.toList 46
 else if k=7 then s.data.toList==[33]||s.data.toList==[45]
 else if k=8 then decide (0<rankL s.data.toList)
 else if k=9 then s.data.toList==[] else false
def manyB (k m:Int):Bool:=
 if k=1∨k=2∨k=3∨k=4 then m==0 else if k=5∨k=6 then decide (0≤m)&&decide (m≤8)
 else if k=7 then m==1 else if k=8 then m==2 else if k=9 then m==3 else false
def cellB (k:Int) (s:ByteArray) (m:Int):Bool:=wordB k s&&manyB k m
theorem rank_pos (l:List UInt8) (h:0<rankL l):l.length≤2:=by
 by_cases hl:l.length≤2
 ·exact hl
 ·exfalso
  have ne: ∀q:List UInt8,q.length≤2→l≠q:=by rintro q hq rfl;exact hl hq
  have e:rankL l=0:=by
   unfold rankL
   iterate 13 rw [if_neg (ne _ (by decide))]
  omega
theorem posText_len60 (t b:Nat) (ht:t≤1000000000) (hb:b≤1000000):(posText t b).length≤50:=by
 unfold posText decText
 have l1:=dec_len (t/b) (by have:=Nat.div_le_self t b;omega)
 have l2:=dec_len t (by omega)
 have l3:=dec_len b (by omega)
 have l4:=frs_len 6 (t % b) b
 split
 ·split
  ·simp;omega
  ·simp;omega
 ·simp;omega
theorem textF_len60 (t b:Int):(textF t b).length≤60:=by
 unfold textF
 split
 ·rename_i hv
  obtain ⟨v1,v2,v3,v4⟩:=vB_bd hv
  unfold fracT
  split
  ·have:=posText_len60 (-t).toNat b.toNat (by omega) (by omega)
   simp only [List.length_cons];omega
  ·have:=posText_len60 t.toNat b.toNat (by omega) (by omega)
   omega
 ·simp
theorem rd_text (s:ByteArray) (h:rdOK s=true):textF (rdT s) (rdB s)=s.data.toList:=by
 unfold rdT rdB
 rw [if_pos h,if_pos h]
 simp only [rdOK,Bool.and_eq_true,beq_iff_eq] at h
 exact h.2
theorem size_list (s:ByteArray):s.data.toList.length=s.size:=by rw [Array.length_toList];rfl
theorem rd_bottom (s:ByteArray) (h:rdOK s=true):1≤rdB s∧rdB s≤1000000:=by
 have e:=rd_text s h
 cases hv:vB (rdT s) (rdB s) with
 |true=>obtain ⟨v1,v2,v3,v4⟩:=vB_bd hv;exact ⟨v3,v4⟩
 |false=>
  exfalso
  rw [textF,hv] at e
  have e:s.data.toList=[]:=by simpa using e.symm
  obtain rfl:s=⟨#[]⟩:=by rw [strL e]
  exact absurd h (by decide)
theorem word_len (k:Int) (s:ByteArray) (h:wordB k s=true):s.size≤60:=by
 rw [←size_list]
 unfold wordB at h
 repeat' split at h
 ·simp only [numB,Bool.and_eq_true] at h
  rw [←rd_text s h.1];exact textF_len60 _ _
 ·rw [size_list];simp only [Bool.and_eq_true,decide_eq_true_eq] at h;exact h.2
 ·simp only [Bool.or_eq_true,beq_iff_eq] at h
  rcases h with h|h<;>(rw [h];decide)
 ·rw [size_list];simp only [Bool.and_eq_true,decide_eq_true_eq] at h;exact h.2
 ·simp only [beq_iff_eq] at h;rw [h];simp
 ·simp only [Bool.and_eq_true,Bool.not_eq_true',nameL] at h
  have hd:(46:UInt8)∉s.data.toList:=by
   intro hm
   have:hasL s.data.toList 46=true:=by
    rw [hasL,List.any_eq_true];exact ⟨46,hm,by decide⟩
   rw [this] at h;simp at h
  have hp:=h.1.1
  rw [nameR_part _ hd,partB_iff] at hp
  simp only [Bool.and_eq_true,decide_eq_true_eq] at hp
  omega
 ·simp only [Bool.or_eq_true,beq_iff_eq] at h
  rcases h with h|h<;>(rw [h];simp)
 ·have:=rank_pos _ (by simpa using h);omega
 ·simp only [beq_iff_eq] at h;rw [h];simp
 ·cases h
theorem many_bd (k m:Int) (h:manyB k m=true):0≤m∧m≤8:=by
 unfold manyB at h
 repeat' split at h
 all_goals first
  |(simp only [beq_iff_eq] at h;omega)
  |(simp only [Bool.and_eq_true,decide_eq_true_eq] at h;exact h)
  |cases h
abbrev Cl:=Int×ByteArray×Int
def okC (c:Cl):Bool:=cellB c.1 c.2.1 c.2.2
def amL (l:List Cl):List Nat:=l.map fun c=>c.2.2.toNat
theorem okC_many {c:Cl} (h:okC c=true):0≤c.2.2∧c.2.2≤8:=by
 simp only [okC,cellB,Bool.and_eq_true] at h;exact many_bd _ _ h.2
theorem amL_at (l:List Cl) (f:Nat) (h:f<l.length):(amL l)[f]? =some l[f].2.2.toNat:=by
 simp [amL,h]
theorem amL_length (l:List Cl):(amL l).length=l.length:=by simp [amL]
open Classical in
noncomputable def okE (l:List Cl):Bool:=decide (l.length≤60)&&(l.all okC&&decide (∃d,d≤12∧Exs (amL l) 1 0 l.length d))
theorem okE_iff (l:List Cl):okE l=true↔l.length≤60∧l.all okC=true∧ ∃d,d≤12∧Exs (amL l) 1 0 l.length d:=by
 simp only [okE,Bool.and_eq_true,decide_eq_true_eq]
open Classical in
noncomputable def depE (am:List Nat) (f:Nat):Nat:=if h: ∃d t,Exs am 1 f t d then h.choose else 0
theorem Exs.depE {am:List Nat} {f t d:Nat} (h:Exs am 1 f t d):depE am f=d:=by
 have hx: ∃d t,Exs am 1 f t d:=⟨d,t,h⟩
 unfold Proofs.YtegdjjjpoahamaaGreatDoor.depE
 rw [dif_pos hx]
 obtain ⟨t',h'⟩:=hx.choose_spec
 exact (h'.uniq h).2
theorem okC_all {l:List Cl} (h:l.all okC=true) (f:Nat) (hf:f<l.length):okC l[f]=true:=by
 rw [List.all_eq_true] at h;exact h _ (List.getElem_mem hf)
open Go.RowKit Go.ChangeShapes Go.WideShapes Go.Deep
def CellAt (w:World) (b o k:Nat) (c:Cl):Prop:=
 w.cell? ⟨b,o+k*3,none⟩=some (.int .i64 c.1)∧w.cell? ⟨b,o+k*3+1,none⟩=some (.string c.2.1)∧w.cell? ⟨b,o+k*3+2,none⟩=some (.int .i64 c.2.2)
def RowC (w:World) (v:Value) (l:List Cl):Prop:=
 ∃ao cap,v= .slice ao l.length cap∧l.length≤cap∧cap≤maxLen∧(l=[]∨ ∃b o,ao=some ⟨b,o,none⟩∧b<w.heap.size∧ ∀(k:Nat) (h:k<l.length),CellAt w b o k l[k])
theorem RowC.mono {w w':World} {v:Value} {l:List Cl} (h:RowC w v l) (hb:Below w.heap.size w w'):RowC w' v l:=by
 obtain ⟨ao,cap,hv,h1,h2,h3⟩:=h
 refine ⟨ao,cap,hv,h1,h2, ?_⟩
 rcases h3 with h3|⟨b,o,ha,hlt,hj⟩
 ·exact .inl h3
 ·refine .inr ⟨b,o,ha,Nat.lt_of_lt_of_le hlt hb.size,fun k hk=> ?_⟩
  obtain ⟨c1,c2,c3⟩:=hj k hk
  exact ⟨by rw [hb.cell (by exact hlt)];exact c1,by rw [hb.cell (by exact hlt)];exact c2,by rw [hb.cell (by exact hlt)];exact c3⟩
theorem RowC.drewN {w:World} {v:Value} {l:List Cl} (h:RowC w v l) (n:Nat):RowC (w.drewN n) v l:=h.mono ⟨rfl,rfl,rfl,Nat.le_refl _,fun _ _=>rfl⟩
theorem RowC.al {w:World} {v:Value} {l:List Cl} (h:RowC w v l) (o:Obj):RowC (w.alloc o) v l:=h.mono ((Below.refl _ _).alloc (Nat.le_refl _) _)
def ShortC (l:List Cl):Prop:= ∀c∈l,c.2.1.size≤1048576
def SizedC (l:List Cl):Prop:= ∀c∈l,c.2.1.size≤maxLen
def ArgRow (w:World) (a:Option Addr) (len cap:Nat) (l:List Cl):Prop:=l.length=len∧RowC w (.slice a len cap) l∧SizedC l
theorem ArgRow.of_nil (w:World):ArgRow w none 0 0 []:=⟨rfl,⟨none,0,rfl,Nat.le_refl _,by unfold maxLen;omega, .inl rfl⟩,fun _ h=>by cases h⟩
theorem addr_add (b off j:Nat):(⟨b,off,none⟩:Addr).add j=⟨b,off+j,none⟩:=by
 unfold Addr.add;split<;>simp_all
theorem cell_low {w:World} {x:Addr} {v:Value} (h:w.cell? x=some v):x.spot=none∧x.block<w.heap.size:=by
 unfold World.cell? at h
 split at h
 ·rename_i c e fr hh
  refine ⟨?_, ?_⟩
  ·cases hs:x.spot with
   |none=>rfl
   |some s=>rw [hs] at h;simp at h
  ·by_cases hk:x.block<w.heap.size
   ·exact hk
   ·rw [Array.getElem?_eq_none (by omega)] at hh;cases hh
 ·cases h
theorem ArgRow.of {w:World} {x:Addr} {len cap:Nat} (f:Nat→Cl) (hl:len≤cap) (hm:cap≤maxLen)
  (hc: ∀i,i<len→w.cell? (x.add (i*3))=some (.int .i64 (f i).1)∧w.cell? (x.add (i*3+1))=some (.string (f i).2.1)∧w.cell? (x.add (i*3+2))=some (.int .i64 (f i).2.2)∧(f i).2.1.size≤maxLen):
  ArgRow w (some x) len cap ((List.range len).map f):=by
 have hlen:((List.range len).map f).length=len:=by simp
 refine ⟨hlen,⟨some x,cap,by rw [hlen],by rw [hlen];exact hl,hm, ?_⟩, ?_⟩
 ·by_cases h0:len=0
  ·left;subst h0;rfl
  ·right
   obtain ⟨b,off,spot⟩:=x
   have hc0:=cell_low (hc 0 (by omega)).1
   have hsp:spot=none:=by
    have:=hc0.1
    unfold Addr.add at this;split at this<;>simp_all
   subst hsp
   refine ⟨b,off,rfl,by have:=hc0.2;rw [addr_add] at this;exact this,fun k hk=> ?_⟩
   rw [hlen] at hk
   obtain ⟨c1,c2,c3,-⟩:=hc k hk
   rw [addr_add] at c1 c2 c3
   simp only [List.getElem_map,List.getElem_range]
   exact ⟨c1,by rw [Nat.add_assoc];exact c2,by rw [Nat.add_assoc];exact c3⟩
 ·intro c hcm
  simp only [List.mem_map,List.mem_range] at hcm
  obtain ⟨i,hi,rfl⟩:=hcm
  exact (hc i hi).2.2.2
def okM (c:Cl):Bool:=decide (0≤c.2.2)&&decide (c.2.2≤8)
theorem okM_many {c:Cl} (h:okM c=true):0≤c.2.2∧c.2.2≤8:=by
 simpa only [okM,Bool.and_eq_true,decide_eq_true_eq] using h
theorem okM_of {c:Cl} (h:okC c=true):okM c=true:=by
 have:=okC_many h
 simp only [okM,Bool.and_eq_true,decide_eq_true_eq];exact this
theorem okM_all {l:List Cl} (h:l.all okM=true) (f:Nat) (hf:f<l.length):okM l[f]=true:=by
 rw [List.all_eq_true] at h;exact h _ (List.getElem_mem hf)
theorem allM_of {l:List Cl} (h:l.all okC=true):l.all okM=true:=by
 rw [List.all_eq_true] at h⊢;exact fun c hc=>okM_of (h c hc)
def okW (c:Cl):Bool:=okC c||(c.1==1&&(c.2.2==0&&decide (c.2.1.size≤60)))
theorem okW_cases {c:Cl} (h:okW c=true):okC c=true∨(c.1=1∧c.2.2=0∧c.2.1.size≤60):=by
 simp only [okW,Bool.or_eq_true,Bool.and_eq_true,beq_iff_eq,decide_eq_true_eq] at h;exact h
theorem okW_of {c:Cl} (h:okC c=true):okW c=true:=by rw [okW,h];rfl
theorem okW_ne {k m:Int} {s:ByteArray} (h:okW (k,s,m)=true) (hk:k≠1):okC (k,s,m)=true:=(okW_cases h).resolve_right (fun h=>hk h.1)
theorem okW_size {c:Cl} (h:okW c=true):c.2.1.size≤60:=by
 rcases okW_cases h with h|h
 ·simp only [okC,cellB,Bool.and_eq_true] at h;exact word_len _ _ h.1
 ·exact h.2.2
theorem okW_M {c:Cl} (h:okW c=true):okM c=true:=by
 rcases okW_cases h with h|h
 ·exact okM_of h
 ·simp only [okM,Bool.and_eq_true,decide_eq_true_eq];omega
theorem okW_all {l:List Cl} (h:l.all okW=true) (f:Nat) (hf:f<l.length):okW l[f]=true:=by
 rw [List.all_eq_true] at h;exact h _ (List.getElem_mem hf)
theorem allW_of {l:List Cl} (h:l.all okC=true):l.all okW=true:=by
 rw [List.all_eq_true] at h⊢;exact fun c hc=>okW_of (h c hc)
theorem allM_ofW {l:List Cl} (h:l.all okW=true):l.all okM=true:=by
 rw [List.all_eq_true] at h⊢;exact fun c hc=>okW_M (h c hc)
def flatC (l:List Cl):List Value:=l.flatMap fun c=>[.int .i64 c.1, .string c.2.1, .int .i64 c.2.2]
theorem flatC_length (l:List Cl):(flatC l).length=l.length*3:=by
 induction l with
 |nil=>rfl
 |cons a t ih=>simp only [flatC,List.flatMap_cons,List.length_append,List.length_cons,List.length_nil] at ih⊢;omega
theorem flatC_append (a b:List Cl):flatC (a++b)=flatC a++flatC b:=by simp [flatC]
theorem flatC_at (l:List Cl): ∀(k:Nat) (h:k<l.length),(flatC l)[k*3]? =some (.int .i64 l[k].1)∧(flatC l)[k*3+1]? =some (.string l[k].2.1)∧(flatC l)[k*3+2]? =some (.int .i64 l[k].2.2):=by
 induction l with
 |nil=>intro k h;simp at h
 |cons a t ih=>
  intro k h
  have e:flatC (a::t)= .int .i64 a.1:: .string a.2.1:: .int .i64 a.2.2::flatC t:=by simp [flatC]
  cases k with
  |zero=>rw [e];exact ⟨rfl,rfl,rfl⟩
  |succ k=>
   have hk:k<t.length:=by simpa using h
   obtain ⟨h1,h2,h3⟩:=ih k hk
   rw [e,show (k+1)*3=k*3+3 by omega]
   exact ⟨h1,h2,h3⟩
theorem RowC.of_own {w:World} {base n:Nat} {T:TypeId} {v:Value} {l:List Cl} (ho:w.ownsRow base T 3 v n (flatC l)):RowC w v l∧n=l.length:=by
 have hl:l.length=n:=by have:=ho.1;rw [flatC_length] at this;omega
 subst hl
 refine ⟨?_,rfl⟩
 rcases ho.2 with ⟨rfl,h0⟩|⟨g,cap,cur,rfl,hg,hh,h1,h2,_⟩
 ·exact ⟨none,0,by rw [h0],by omega,by unfold maxLen;omega, .inl (List.length_eq_zero_iff.mp h0)⟩
 ·refine ⟨_,cap,rfl,h1,h2, .inr ⟨g,0,rfl,(ho.lt g rfl).2,fun k hk=> ?_⟩⟩
  obtain ⟨f0,f1,f2⟩:=flatC_at l k hk
  refine ⟨?_, ?_, ?_⟩
  ·rw [Nat.zero_add,ho.cellAt (k*3) (by omega)];exact f0
  ·rw [Nat.zero_add,ho.cellAt (k*3+1) (by omega)];exact f1
  ·rw [Nat.zero_add,ho.cellAt (k*3+2) (by omega)];exact f2
def NewCells (l:List Cl) (w:World) (e:Ending) (w':World):Prop:=
 ∃v,e= .returned v∧w'.ownsRow w.heap.size 110 3 v l.length (flatC l)∧Below w.heap.size w w'
theorem infoC:(Tryz.prog.info? 110).map (fun i=>(i.zero,i.size,i.bytes))=some (some (.agg #[.int .i64 0, .string ByteArray.empty, .int .i64 0]),3,32):=by kernel_rfl
theorem addz (g j:Nat):(⟨g,0,none⟩:Addr).add j=⟨g,j,none⟩:=by
 unfold Addr.add;split<;>simp_all
theorem flatC_one (l:List Cl): ∀u∈flatC l,u.oneCell'=true:=by
 intro u hu
 simp only [flatC,List.mem_flatMap] at hu
 obtain ⟨c,-,hu⟩:=hu
 simp only [List.mem_cons,List.not_mem_nil,or_false] at hu
 rcases hu with rfl|rfl|rfl<;>rfl
theorem append_rows {P:Program} {w:World} {ops:Array Oper} {rest:List Oper} {o:Oper} {a:Act} {Q:Exit→Act→World→Prop} (hgd:o.guard=none) (s x:Operand) (t:TypeId)
  (ho:o.op= .call {callee:= .builtin .append,args:= #[s,x],argTypes:= #[t,t]})
  (base:Nat) (e:TypeId) (i:TypeInfo) (z:Value) (size bytes:Nat) (ht:P.underlying t=some (.slice e)) (hi:P.info? e=some i) (hz:i.zero=some z)
  (hsize:i.size=size) (hby:i.bytes=bytes) (hzs:z.cells.size=size) (hsz:0<size)
  (v:Value) (n:Nat) (xs:List Value) (hs:a.eval s=v) (hown:w.ownsRow base e size v n xs)
  (base2:Nat) (u:Value) (m:Nat) (ys:List Value) (hx:a.eval x=u) (hsrc:w.ownsRow base2 e size u m ys) (h1: ∀u∈ys,u.oneCell'=true)
  (h63:n+m≤maxLen) (hbytes:(n+m)*bytes≤140737488355328) (hbase:base≤w.heap.size)
  (h: ∀v' w',w'.ownsRow base e size v' (n+m) (xs++ys)→w.grownBy w' v.ownBlock→wpList P ops Q rest (a.put o.dst v') w'):wpList P ops Q (o::rest) a w:=by
 rcases hsrc.2 with ⟨rfl,rfl⟩|⟨g,cap,cur,rfl,-⟩
 ·have hy:ys=[]:=List.eq_nil_of_length_eq_zero (by have:=hsrc.1;omega)
  subst hy
  refine wpList_append_own_none hgd s x t ho base e i size ht hi v n xs hs hown hx ?_
  exact h v w (by simpa using hown) (World.grownBy.refl _ _)
 ·refine wpList_append_own _ hgd s x t ho base e i z size bytes ht hi hz hsize hby hzs hsz v n xs hs hown ⟨g,0,none⟩ m cap ys hx hsrc.1 ?_ h1 h63 hbytes hbase (fun v' w' a1 a2 _=>h v' w' a1 a2)
  intro j y hj
  have hlt:j<ys.length:=by
   by_cases hk:j<ys.length
   ·exact hk
   ·rw [List.getElem?_eq_none (by omega)] at hj;cases hj
  rw [addz,hsrc.cellAt j (by have:=hsrc.1;omega)];exact hj
theorem newsC {w:World} {b o:Nat} {l:List Cl} (h: ∀(k:Nat) (h:k<l.length),CellAt w b o k l[k]) (j:Nat) (u:Value) (hj:(flatC l)[j]? =some u):w.cell? ((⟨b,o,none⟩:Addr).add j)=some u:=by
 have hlt:j<l.length*3:=by
  by_cases hk:j<l.length*3
  ·exact hk
  ·rw [List.getElem?_eq_none (by rw [flatC_length];omega)] at hj;cases hj
 obtain ⟨k,r,hr,rfl⟩: ∃k r,r<3∧j=k*3+r:=⟨j/3,j % 3,Nat.mod_lt _ (by decide),by omega⟩
 obtain ⟨c0,c1,c2⟩:=h k (by omega)
 obtain ⟨f0,f1,f2⟩:=flatC_at l k (by omega)
 rw [addr_add]
 have h3:r=0∨r=1∨r=2:=by omega
 rcases h3 with rfl|rfl|rfl
 ·rw [Nat.add_zero] at hj⊢;rw [f0] at hj;rw [←hj];exact c0
 ·rw [f1] at hj;rw [←hj,←Nat.add_assoc];exact c1
 ·rw [f2] at hj;rw [←hj,←Nat.add_assoc];exact c2
theorem run_append_nothing {P:Program} {w:World} (base:Nat) (t ty e:TypeId) (i:TypeInfo) (size:Nat) (ht:P.underlying t=some (.slice e)) (hi:P.info? e=some i)
  (v:Value) (n:Nat) (xs:List Value) (hown:w.ownsRow base e size v n xs) (c:Nat):
  (Builtin.append_ #[t,t] ty #[v, .slice none 0 c]).run P w= .ok v w:=by
 rcases hown.2 with ⟨rfl,rfl⟩|⟨g,cap,cur,rfl,_,_,hnc,_⟩
 ·simp [Builtin.append_,run_underlying ht,sizeOf,typeInfo,hi,Builtin.lenOf,Builtin.firstCells]
 ·simp [Builtin.append_,run_underlying ht,sizeOf,typeInfo,hi,Builtin.lenOf,Builtin.firstCells,hnc,storeCells]
theorem append_rowC {P:Program} {w:World} {ops:Array Oper} {rest:List Oper} {o:Oper} {a:Act} {Q:Exit→Act→World→Prop} (hgd:o.guard=none) (s x:Operand) (t:TypeId)
  (ho:o.op= .call {callee:= .builtin .append,args:= #[s,x],argTypes:= #[t,t]})
  (base:Nat) (e:TypeId) (i:TypeInfo) (z:Value) (bytes:Nat) (ht:P.underlying t=some (.slice e)) (hi:P.info? e=some i) (hz:i.zero=some z)
  (hsize:i.size=3) (hby:i.bytes=bytes) (hzs:z.cells.size=3)
  (v:Value) (n:Nat) (xs:List Value) (hs:a.eval s=v) (hown:w.ownsRow base e 3 v n xs)
  (u:Value) (ys:List Cl) (hx:a.eval x=u) (hsrc:RowC w u ys)
  (h63:n+ys.length≤maxLen) (hbytes:(n+ys.length)*bytes≤140737488355328) (hbase:base≤w.heap.size)
  (h: ∀v' w',w'.ownsRow base e 3 v' (n+ys.length) (xs++flatC ys)→w.grownBy w' v.ownBlock→wpList P ops Q rest (a.put o.dst v') w'):wpList P ops Q (o::rest) a w:=by
 obtain ⟨ao,cap,rfl,h1,h2,h3⟩:=hsrc
 cases ao with
 |none=>
  have hy:ys=[]:=by
   rcases h3 with h3|⟨b,o',hc,-⟩
   ·exact h3
   ·cases hc
  subst hy
  refine wpList_plain hgd fun K hK=> ?_
  have hrun:=run_append_nothing (P:=P) (w:=w) base t o.type e i 3 ht hi v n xs hown cap
  unfold Oper.wp
  simp only [List.length_nil] at hx
  simp [execOp,ho,resolve,invoke,builtin,hs,hx,hrun,Result.andThen]
  exact hK _ _ (h v w (by simpa [flatC] using hown) (World.grownBy.refl _ _))
 |some ad=>
  refine wpList_append_own _ hgd s x t ho base e i z 3 bytes ht hi hz hsize hby hzs (by decide) v n xs hs hown ad ys.length cap (flatC ys) hx (flatC_length ys) ?_ (flatC_one ys) h63 hbytes hbase (fun v' w' a1 a2 _=>h v' w' a1 a2)
  intro j y hj
  rcases h3 with rfl|⟨b,o',hc,hbl,cc⟩
  ·simp [flatC] at hj
  ·injection hc with hc
   subst hc
   exact newsC cc j y hj
theorem RowC.sub {w:World} {b o cap:Nat} {l:List Cl} (h:RowC w (.slice (some ⟨b,o,none⟩) l.length cap) l) (i j:Nat) (hij:i≤j) (hj:j≤l.length):
  RowC w (.slice (some ⟨b,o+i*3,none⟩) (j-i) (cap-i)) ((l.take j).drop i):=by
 obtain ⟨ao,cap',hv,h1,h2,h3⟩:=h
 simp only [Value.slice.injEq] at hv
 obtain ⟨rfl,-,rfl⟩:=hv
 have hlen:((l.take j).drop i).length=j-i:=by rw [List.length_drop,List.length_take];omega
 refine ⟨_,_,by rw [hlen],by rw [hlen];omega,by unfold maxLen at h2⊢;omega, ?_⟩
 rcases h3 with rfl|⟨b',o',hA,hlt,hc⟩
 ·left;simp
 ·simp only [Option.some.injEq,Addr.mk.injEq,and_true] at hA
  obtain ⟨rfl,rfl⟩:=hA
  refine .inr ⟨_,_,rfl,hlt,fun k hk=> ?_⟩
  rw [hlen] at hk
  obtain ⟨c0,c1,c2⟩:=hc (i+k) (by omega)
  have e:((l.take j).drop i)[k]=l[i+k]'(by omega):=by rw [List.getElem_drop,List.getElem_take]
  rw [e]
  have q:o+i*3+k*3=o+(i+k)*3:=by omega
  exact ⟨by rw [q];exact c0,by rw [q];exact c1,by rw [q];exact c2⟩
def quoteC (b:UInt8):List UInt8:=if b=10 then [92,110] else if b=34∨b=92 then [92,b] else [b]
def quoteI (l:List UInt8):List UInt8:=l.flatMap quoteC
def quoteL (l:List UInt8):List UInt8:=34::(quoteI l++[34])
def quoteT (s:ByteArray):ByteArray:=if textB s=true then ⟨(quoteL s.data.toList).toArray⟩ else ⟨#[]⟩
def looseL:List UInt8→List UInt8
 |[]=>[]
 |[_]=>[]
 |b::c::r=>if b=92 then (if c=110 then 10 else c)::looseL r else b::looseL (c::r)
def unqL (s:ByteArray):List UInt8:=looseL (s.data.toList.drop 1)
def unqOK (s:ByteArray):Bool:=textB ⟨(unqL s).toArray⟩&&decide (quoteL (unqL s)=s.data.toList)
def unqT (s:ByteArray):ByteArray:=if unqOK s=true then ⟨(unqL s).toArray⟩ else ⟨#[]⟩
theorem quoteI_nil:quoteI []=[]:=rfl
theorem quoteI_cons (b:UInt8) (l:List UInt8):quoteI (b::l)=quoteC b++quoteI l:=by simp [quoteI]
theorem quoteI_app (l r:List UInt8):quoteI (l++r)=quoteI l++quoteI r:=by simp [quoteI]
theorem quoteI_snoc (l:List UInt8) (b:UInt8):quoteI (l++[b])=quoteI l++quoteC b:=by rw [quoteI_app];simp [quoteI]
theorem quoteC_len (b:UInt8):1≤(quoteC b).length∧(quoteC b).length≤2:=by
 unfold quoteC;split
 ·simp
 ·split<;>simp
theorem quoteI_len (l:List UInt8):l.length≤(quoteI l).length∧(quoteI l).length≤2*l.length:=by
 induction l with
 |nil=>simp [quoteI]
 |cons b t ih=>
  have:=quoteC_len b
  rw [quoteI_cons];simp only [List.length_append,List.length_cons];omega
theorem loose_one (b:UInt8) (r:List UInt8) (hr:r≠[]):looseL (quoteC b++r)=b::looseL r:=by
 unfold quoteC
 split
 ·rename_i h;subst h;rfl
 ·split
  ·rename_i h1 h2
   show looseL (92::b::r)=_
   have hb:b≠110:=by rcases h2 with h|h<;>subst h<;>decide
   simp only [looseL,if_true,hb,if_false]
  ·rename_i h1 h2
   have hb:b≠92:=fun e=>h2 (.inr e)
   cases r with
   |nil=>exact absurd rfl hr
   |cons c r=>simp [looseL,hb]
theorem loose_quote (l:List UInt8) (r:List UInt8) (hr:r≠[]):looseL (quoteI l++r)=l++looseL r:=by
 induction l with
 |nil=>rfl
 |cons b t ih=>
  rw [quoteI_cons,List.append_assoc,loose_one _ _ (by simp [hr]),ih];rfl
theorem loose_all (l:List UInt8):looseL ((quoteL l).drop 1)=l:=by
 show looseL (quoteI l++[34])=l
 rw [loose_quote _ _ (by simp)];simp [looseL]
theorem quoteL_inj {l r:List UInt8} (h:quoteL l=quoteL r):l=r:=by rw [←loose_all l,h,loose_all]
theorem quoteI_inj {l r:List UInt8} (h:quoteI l=quoteI r):l=r:=quoteL_inj (by unfold quoteL;rw [h])
theorem ba_list (l:List UInt8):(⟨l.toArray⟩:ByteArray).data.toList=l:=by simp
theorem ba_eq {s t:ByteArray} (h:s.data.toList=t.data.toList):s=t:=by
 cases s with|mk a=>cases t with|mk b=>congr 1;exact Array.toList_inj.mp h
theorem ba_self (s:ByteArray):(⟨s.data.toList.toArray⟩:ByteArray)=s:=ba_eq (by simp)
theorem unq_of {s t:ByteArray} (ht:textB t=true) (h:quoteL t.data.toList=s.data.toList):unqOK s=true∧unqT s=t:=by
 have e:unqL s=t.data.toList:=by unfold unqL;rw [←h,loose_all]
 have ho:unqOK s=true:=by unfold unqOK;rw [e,ba_self,ht,h];simp
 exact ⟨ho,by unfold unqT;rw [if_pos ho,e,ba_self]⟩
theorem unq_quote {s:ByteArray} (h:unqOK s=true):textB (unqT s)=true∧quoteT (unqT s)=s:=by
 unfold unqT;rw [if_pos h]
 simp only [unqOK,Bool.and_eq_true,decide_eq_true_eq] at h
 refine ⟨h.1, ?_⟩
 unfold quoteT;rw [if_pos h.1]
 exact ba_eq (by rw [ba_list];rw [ba_list,h.2])
theorem unq_no {s:ByteArray} (h:unqOK s=false):unqT s=⟨#[]⟩:=by unfold unqT;rw [h];rfl
theorem unq_none {s:ByteArray} (h: ∀t:List UInt8,t.length≤20000→okL t=true→quoteL t≠s.data.toList):unqOK s=false:=by
 cases ho:unqOK s with
 |false=>rfl
 |true=>
  simp only [unqOK,Bool.and_eq_true,decide_eq_true_eq,textB] at ho
  refine absurd ho.2 (h _ ?_ ?_)
  ·have:=ho.1.1;simpa [ByteArray.size] using this
  ·have:=ho.1.2;simpa using this
theorem quote_unq {s:ByteArray} (h:textB s=true):unqOK (quoteT s)=true∧unqT (quoteT s)=s:=
 unq_of h (by unfold quoteT;rw [if_pos h])
def meantI (n:Int):Int:=if n=34∨n=92 then n else if n=110 then 10 else 0
def meansI (n:Int):Bool:=decide (n=34∨n=92∨n=110)
def specI (n:Int):Bool:=decide (n=34∨n=92∨n=10)
def rkC (c:Cl):Int:=if c.1=9 then 1 else if c.1=8 then rankL c.2.1.data.toList else if c.1=7 then 7 else 8
abbrev Pt:=Int×List UInt8
def parT (r:Int) (x:Pt):List UInt8:=if x.1<r then 40::(x.2++[41]) else x.2
def tailT (xs:List Pt):List UInt8:=xs.flatMap fun x=>[44,32]++x.2
def joinT:List Pt→List UInt8
 |[]=>[]
 |x::xs=>x.2++tailT xs
def leftR (r:Int):Int:=if r=4 then 5 else r
def ptAt (ks:List Pt) (i:Nat):Pt:=ks.getD i (0,[])
def bareT (c:Cl) (ks:List Pt):List UInt8:=
 if c.1=2 then quoteL c.2.1.data.toList
 else if c.1=5 then 91::(joinT ks++[93])
 else if c.1=6 then c.2.1.data.toList++(40::(joinT ks++[41]))
 else if c.1=7 then c.2.1.data.toList++parT 7 (ptAt ks 0)
 else if c.1=8 then parT (leftR (rankL c.2.1.data.toList)) (ptAt ks 0)++([32]++c.2.1.data.toList++[32])++parT (rankL c.2.1.data.toList+1) (ptAt ks 1)
 else if c.1=9 then parT 2 (ptAt ks 0)++[32,63,32]++(ptAt ks 1).2++[32,58,32]++(ptAt ks 2).2
 else c.2.1.data.toList
inductive Tx (l:List Cl):Nat→Nat→Nat→List Pt→Prop
 |nil (f:Nat):Tx l 0 f f []
 |cons {f g n t:Nat} {c:Cl} {ks xs:List Pt}:l[f]? =some c→Tx l c.2.2.toNat (f+1) g ks→Tx l n g t xs→Tx l (n+1) f t ((rkC c,bareT c ks)::xs)
theorem Tx.len {l:List Cl} {n f t:Nat} {xs:List Pt} (h:Tx l n f t xs):xs.length=n:=by
 induction h with
 |nil f=>rfl
 |cons hc h1 h2 i1 i2=>rw [List.length_cons,i2]
theorem amL_some {l:List Cl} {f:Nat} {c:Cl} (h:l[f]? =some c):(amL l)[f]? =some c.2.2.toNat:=by
 simp [amL,h]
theorem amL_get {l:List Cl} {f m:Nat} (h:(amL l)[f]? =some m): ∃c,l[f]? =some c∧c.2.2.toNat=m:=by
 simp only [amL,List.getElem?_map,Option.map_eq_some_iff] at h;exact h
theorem Tx.exs {l:List Cl} {n f t:Nat} {xs:List Pt} (h:Tx l n f t xs): ∃d,Exs (amL l) n f t d:=by
 induction h with
 |nil f=>exact ⟨0, .nil f⟩
 |cons hc h1 h2 i1 i2=>
  obtain ⟨d1,i1⟩:=i1;obtain ⟨d2,i2⟩:=i2
  exact ⟨_, .cons (amL_some hc) i1 i2⟩
theorem Tx.of_exs {l:List Cl} {n f t d:Nat} (h:Exs (amL l) n f t d): ∃xs,Tx l n f t xs:=by
 generalize ha:amL l=am at h
 induction h with
 |nil f=>exact ⟨[], .nil f⟩
 | @cons f m g d n t e hm h1 h2 i1 i2=>
  obtain ⟨ks,k1⟩:=i1;obtain ⟨xs,k2⟩:=i2
  subst ha
  obtain ⟨c,hc,rfl⟩:=amL_get hm
  exact ⟨_, .cons hc k1 k2⟩
theorem Tx.uniq {l:List Cl} {n f t:Nat} {xs:List Pt} (h:Tx l n f t xs): ∀{t':Nat} {ys:List Pt},Tx l n f t' ys→t=t'∧xs=ys:=by
 induction h with
 |nil f=>intro t' ys h';cases h';exact ⟨rfl,rfl⟩
 |cons hc h1 h2 i1 i2=>
  intro t' ys h'
  cases h' with
  |cons hc' k1 k2=>
   rw [hc] at hc';injection hc' with hc';subst hc'
   obtain ⟨rfl,rfl⟩:=i1 k1
   obtain ⟨rfl,rfl⟩:=i2 k2
   exact ⟨rfl,rfl⟩
theorem Tx.inv {l:List Cl} {f t:Nat} {x:Pt} (h:Tx l 1 f t [x]): ∃c ks,l[f]? =some c∧Tx l c.2.2.toNat (f+1) t ks∧x=(rkC c,bareT c ks):=by
 cases h with
 |cons hc h1 h2=>cases h2;exact ⟨_,_,hc,h1,rfl⟩
theorem Tx.at {l:List Cl} {n f t:Nat} {xs:List Pt} (h:Tx l n f t xs): ∀k,k<n→ ∃g g' x,xs[k]? =some x∧Tx l k f g (xs.take k)∧Tx l 1 g g' [x]∧Tx l (n-(k+1)) g' t (xs.drop (k+1))∧(kidsL (amL l) f n)[k]? =some g:=by
 induction h with
 |nil f=>intro k hk;omega
 | @cons f g n t c ks xs hc h1 h2 i1 i2=>
  intro k hk
  have hone:Tx l 1 f g [(rkC c,bareT c ks)]:= .cons hc h1 (.nil g)
  obtain ⟨d,hx⟩:=hone.exs
  cases k with
  |zero=>exact ⟨f,g,_,rfl, .nil f,hone,by simpa using h2,by rw [kidsL];rfl⟩
  |succ k=>
   obtain ⟨g1,g2,x,j1,j2,j3,j4,j5⟩:=i2 k (by omega)
   refine ⟨g1,g2,x,by simpa using j1, ?_,j3, ?_, ?_⟩
   ·rw [List.take_succ_cons];exact .cons hc h1 j2
   ·rw [show n+1-(k+1+1)=n-(k+1) by omega];simpa using j4
   ·rw [kidsL,List.getElem?_cons_succ,hx.endP];exact j5
theorem joinT_next (ks:List Pt) (k:Nat) (x:Pt) (h:ks[k]? =some x):joinT (ks.take (k+1))=joinT (ks.take k)++((if k=0 then [] else [44,32])++x.2):=by
 have e:ks.take (k+1)=ks.take k++[x]:=by rw [List.take_add_one,h];rfl
 rw [e]
 cases k with
 |zero=>simp [joinT,tailT]
 |succ k=>
  cases ks with
  |nil=>simp at h
  |cons y ys=>simp [joinT,tailT]
def sumT:List Pt→Nat
 |[]=>0
 |x::xs=>x.2.length+8+sumT xs
theorem tailT_len (xs:List Pt):(tailT xs).length+6*xs.length≤sumT xs:=by
 induction xs with
 |nil=>simp [tailT,sumT]
 |cons x xs ih=>simp only [tailT,List.flatMap_cons,List.length_append,List.length_cons,sumT,List.length_nil] at ih⊢;omega
theorem joinT_len (xs:List Pt):(joinT xs).length≤sumT xs:=by
 cases xs with
 |nil=>simp [joinT]
 |cons x xs=>have:=tailT_len xs;simp only [joinT,List.length_append,sumT];omega
theorem ptAt_len (xs:List Pt): ∀i,(ptAt xs i).2.length≤sumT xs∧((i<xs.length)→(ptAt xs i).2.length+8≤sumT xs):=by
 induction xs with
 |nil=>intro i;simp [ptAt]
 |cons x xs ih=>
  intro i
  cases i with
  |zero=>simp only [ptAt,List.getD_cons_zero,sumT];omega
  |succ i=>have:=ih i;simp only [ptAt,List.getD_cons_succ,sumT,List.length_cons] at this⊢;omega
theorem parT_len (r:Int) (x:Pt):(parT r x).length≤x.2.length+2:=by
 unfold parT;split
 ·simp
 ·omega
theorem ptAt_cons0 (x:Pt) (xs:List Pt):ptAt (x::xs) 0=x:=rfl
theorem ptAt_cons (x:Pt) (xs:List Pt) (i:Nat):ptAt (x::xs) (i+1)=ptAt xs i:=rfl
theorem two_len (ks:List Pt):(ptAt ks 0).2.length+(ptAt ks 1).2.length+(ptAt ks 2).2.length≤sumT ks:=by
 rcases ks with _|⟨a,_|⟨b,_|⟨c,r⟩⟩⟩<;>simp [ptAt,sumT]<;>omega
theorem bareT_len {c:Cl} (h:okC c=true) (ks:List Pt):(bareT c ks).length≤180+sumT ks:=by
 have hw:c.2.1.data.toList.length≤60:=by
  simp only [okC,cellB,Bool.and_eq_true] at h
  have:=word_len _ _ h.1
  rw [size_list];exact this
 have h2:=two_len ks
 have hj:=joinT_len ks
 have hq:(quoteL c.2.1.data.toList).length≤122:=by
  have:=(quoteI_len c.2.1.data.toList).2
  simp only [quoteL,List.length_cons,List.length_append,List.length_nil];omega
 have p0:=parT_len 7 (ptAt ks 0)
 have p1:=parT_len (leftR (rankL c.2.1.data.toList)) (ptAt ks 0)
 have p2:=parT_len (rankL c.2.1.data.toList+1) (ptAt ks 1)
 have p3:=parT_len 2 (ptAt ks 0)
 unfold bareT
 repeat' split
 all_goals first
  |omega
  |(simp only [List.length_append,List.length_cons,List.length_nil];omega)
theorem Tx.short {l:List Cl} (hok:l.all okC=true) {n f t:Nat} {xs:List Pt} (h:Tx l n f t xs):sumT xs≤200*(t-f)∧f≤t:=by
 induction h with
 |nil f=>exact ⟨Nat.zero_le _,Nat.le_refl _⟩
 | @cons f g n t c ks xs hc h1 h2 i1 i2=>
  obtain ⟨hl,he⟩:=List.getElem?_eq_some_iff.mp hc
  have ho:okC c=true:=by rw [←he];exact okC_all hok f hl
  have hb:=bareT_len ho ks
  simp only [sumT];omega
theorem Tx.app {l:List Cl} {a f g:Nat} {xs:List Pt} (h:Tx l a f g xs): ∀{b t:Nat} {ys:List Pt},Tx l b g t ys→Tx l (a+b) f t (xs++ys):=by
 induction h with
 |nil f=>intro b t ys k;rw [Nat.zero_add];exact k
 | @cons f g n t c ks xs hc h1 h2 i1 i2=>
  intro b t' ys k
  rw [show n+1+b=(n+b)+1 by omega]
  exact .cons hc h1 (i2 k)
theorem Tx.snoc {l:List Cl} {k f g t:Nat} {xs:List Pt} {x:Pt} (h:Tx l k f g (xs.take k)) (hx:xs[k]? =some x) (h1:Tx l 1 g t [x]):Tx l (k+1) f t (xs.take (k+1)):=by
 have e:xs.take (k+1)=xs.take k++[x]:=by rw [List.take_add_one,hx];rfl
 rw [e];exact h.app h1
theorem rankL_in (l:List UInt8) (h:0<rankL l):2≤rankL l∧rankL l≤6:=by
 have key: ∀{p:Prop} [Decidable p] {a b:Int},(a=0∨(2≤a∧a≤6))→(b=0∨(2≤b∧b≤6))→((if p then a else b)=0∨(2≤(if p then a else b)∧(if p then a else b)≤6)):=by
  intro p _ a b ha hb
  by_cases h:p
  ·rw [if_pos h];exact ha
  ·rw [if_neg h];exact hb
 have:rankL l=0∨(2≤rankL l∧rankL l≤6):=by
  unfold rankL
  iterate 13 (refine key (by decide) ?_)
  decide
 omega
theorem rkC_bd {c:Cl} (h:okC c=true):1≤rkC c∧rkC c≤8:=by
 unfold rkC
 split
 ·omega
 ·split
  ·rename_i h8
   have:0<rankL c.2.1.data.toList:=by
    simp only [okC,cellB,wordB,h8,Bool.and_eq_true] at h;simpa using h.1
   have:=rankL_in _ this;omega
  ·split<;>omega
theorem Tx.rk {l:List Cl} (hok:l.all okC=true) {n f t:Nat} {xs:List Pt} (h:Tx l n f t xs): ∀x∈xs,1≤x.1∧x.1≤8:=by
 induction h with
 |nil f=>intro x hx;cases hx
 | @cons f g n t c ks xs hc h1 h2 i1 i2=>
  intro x hx
  rcases List.mem_cons.mp hx with rfl|hx
  ·obtain ⟨hl,he⟩:=List.getElem?_eq_some_iff.mp hc
   exact rkC_bd (by rw [←he];exact okC_all hok f hl)
  ·exact i2 x hx
theorem parT_bare {x:Pt} {r:Int} (h:r≤x.1):parT r x=x.2:=by unfold parT;rw [if_neg (by omega)]
open Classical in
noncomputable def textE (l:List Cl):List UInt8:=if h:okE l=true∧ ∃x,Tx l 1 0 l.length [x] then h.2.choose.2 else []
theorem textE_of {l:List Cl} {x:Pt} (hok:okE l=true) (h:Tx l 1 0 l.length [x]):textE l=x.2:=by
 have hh:okE l=true∧ ∃x,Tx l 1 0 l.length [x]:=⟨hok,x,h⟩
 unfold textE
 rw [dif_pos hh]
 have:=(hh.2.choose_spec.uniq h).2
 simp only [List.cons.injEq,and_true] at this
 rw [this]
theorem textE_no {l:List Cl} (hok:okE l=false):textE l=[]:=by
 unfold textE
 rw [dif_neg]
 intro h;rw [hok] at h;cases h.1
theorem okE_tx {l:List Cl} (hok:okE l=true): ∃x,Tx l 1 0 l.length [x]:=by
 obtain ⟨-,-,d,-,hx⟩:=(okE_iff l).mp hok
 obtain ⟨xs,h⟩:=Tx.of_exs hx
 have hl:=h.len
 match xs,hl with
 |[x],_=>exact ⟨x,h⟩
theorem textE_len (l:List Cl):(textE l).length≤12000:=by
 cases hok:okE l with
 |false=>rw [textE_no hok];simp
 |true=>
  obtain ⟨x,h⟩:=okE_tx hok
  obtain ⟨h60,hal,-⟩:=(okE_iff l).mp hok
  have:=(h.short hal).1
  rw [textE_of hok h]
  simp only [sumT] at this;omega
theorem sumT_take (ks:List Pt): ∀k,sumT (ks.take k)≤sumT ks:=by
 induction ks with
 |nil=>intro k;simp [sumT]
 |cons x xs ih=>
  intro k
  cases k with
  |zero=>simp [sumT]
  |succ k=>have:=ih k;simp only [List.take_succ_cons,sumT];omega
theorem bareT_lenW {c:Cl} (h:okW c=true) (ks:List Pt):(bareT c ks).length≤180+sumT ks:=by
 rcases okW_cases h with h|⟨h1,-,h3⟩
 ·exact bareT_len h ks
 ·have:bareT c ks=c.2.1.data.toList:=by unfold bareT;simp [h1]
  rw [this,size_list];omega
theorem Tx.shortW {l:List Cl} (hok:l.all okW=true) {n f t:Nat} {xs:List Pt} (h:Tx l n f t xs):sumT xs≤200*(t-f)∧f≤t:=by
 induction h with
 |nil f=>exact ⟨Nat.zero_le _,Nat.le_refl _⟩
 | @cons f g n t c ks xs hc h1 h2 i1 i2=>
  obtain ⟨hl,he⟩:=List.getElem?_eq_some_iff.mp hc
  have ho:okW c=true:=by rw [←he];exact okW_all hok f hl
  have hb:=bareT_lenW ho ks
  simp only [sumT];omega
theorem rkC_bdW {c:Cl} (h:okW c=true):1≤rkC c∧rkC c≤8:=by
 rcases okW_cases h with h|⟨h1,-,-⟩
 ·exact rkC_bd h
 ·unfold rkC;rw [if_neg (by omega),if_neg (by omega),if_neg (by omega)];decide
theorem Tx.rkW {l:List Cl} (hok:l.all okW=true) {n f t:Nat} {xs:List Pt} (h:Tx l n f t xs): ∀x∈xs,1≤x.1∧x.1≤8:=by
 induction h with
 |nil f=>intro x hx;cases hx
 | @cons f g n t c ks xs hc h1 h2 i1 i2=>
  intro x hx
  rcases List.mem_cons.mp hx with rfl|hx
  ·obtain ⟨hl,he⟩:=List.getElem?_eq_some_iff.mp hc
   exact rkC_bdW (by rw [←he];exact okW_all hok f hl)
  ·exact i2 x hx
def plC (c:Cl):Cl:=if c.1=1 then (1,⟨#[48]⟩,c.2.2) else c
def vC (c:Cl):Bool:=if c.1=1 then rdOK c.2.1 else (c.1==2||c.1==3||c.1==5)
def okVC (c:Cl):Bool:=vC c&&okC (plC c)
noncomputable def okV (l:List Cl):Bool:=l.all vC&&okE (l.map plC)
theorem plC_many (c:Cl):(plC c).2.2=c.2.2:=by unfold plC;split<;>rfl
theorem amL_plC (l:List Cl):amL (l.map plC)=amL l:=by
 simp [amL,plC_many]
theorem all_plC (l:List Cl):(l.all vC=true∧(l.map plC).all okC=true)↔l.all okVC=true:=by
 simp only [List.all_eq_true,List.mem_map,okVC,Bool.and_eq_true]
 constructor
 ·rintro ⟨h1,h2⟩ c hc
  exact ⟨h1 c hc,h2 _ ⟨c,hc,rfl⟩⟩
 ·intro h
  refine ⟨fun c hc=>(h c hc).1, ?_⟩
  rintro _ ⟨c,hc,rfl⟩
  exact (h c hc).2
theorem okV_iff (l:List Cl):okV l=true↔l.length≤60∧l.all okVC=true∧ ∃d,d≤12∧Exs (amL l) 1 0 l.length d:=by
 rw [okV,Bool.and_eq_true,okE_iff,amL_plC,List.length_map,←all_plC]
 constructor
 ·rintro ⟨h1,h2,h3,h4⟩;exact ⟨h2,⟨h1,h3⟩,h4⟩
 ·rintro ⟨h2,⟨h1,h3⟩,h4⟩;exact ⟨h1,h2,h3,h4⟩
theorem okVC_W {c:Cl} (h:okVC c=true):okW c=true:=by
 obtain ⟨k,s,m⟩:=c
 simp only [okVC,Bool.and_eq_true] at h
 obtain ⟨h1,h2⟩:=h
 by_cases hk:k=1
 ·subst hk
  simp only [vC,if_true] at h1
  simp only [plC,if_true,okC,cellB,manyB,Bool.and_eq_true] at h2
  have hm:m=0:=by simpa using h2.2
  have hs:s.size≤60:=by
   rw [←size_list,←rd_text s h1];exact textF_len60 _ _
  simp [okW,hm,hs]
 ·simp only [plC,if_neg hk] at h2
  exact okW_of h2
theorem allV_W {l:List Cl} (h:l.all okVC=true):l.all okW=true:=by
 rw [List.all_eq_true] at h⊢;exact fun c hc=>okVC_W (h c hc)
theorem okVC_kind {c:Cl} (h:okVC c=true):c.1=1∨c.1=2∨c.1=3∨c.1=5:=by
 simp only [okVC,vC,Bool.and_eq_true] at h
 by_cases hk:c.1=1
 ·exact .inl hk
 ·rw [if_neg hk] at h
  simp only [Bool.or_eq_true,beq_iff_eq] at h
  rcases h.1 with (h|h)|h
  ·exact .inr (.inl h)
  ·exact .inr (.inr (.inl h))
  ·exact .inr (.inr (.inr h))
theorem wordB_zero:wordB 1 ⟨#[48]⟩=true:=by
 have hz:Lib.decDigits 0=[48]:=by first|rfl|decide|simp [Lib.decDigits]
 have hf:fracT 0 1=[48]:=by
  rw [fracT,if_neg (by decide)]
  simp [posText,decText,hz]
 obtain ⟨h1,h2,h3⟩:=read_back ⟨#[48]⟩ 0 1 (by decide) hf.symm
 simp only [wordB,if_true,numB,h1,h2,h3]
 decide
theorem okV_of_okE {l:List Cl} (h:okE l=true) (hk: ∀c∈l,c.1=1∨c.1=2∨c.1=3∨c.1=5):okV l=true:=by
 obtain ⟨h1,h2,h3⟩:=(okE_iff l).mp h
 rw [okV_iff]
 refine ⟨h1, ?_,h3⟩
 rw [List.all_eq_true] at h2⊢
 intro c hc
 have hoc:=h2 c hc
 obtain ⟨k,s,m⟩:=c
 simp only [okVC,Bool.and_eq_true]
 by_cases h1k:k=1
 ·subst h1k
  simp only [okC,cellB,wordB,Bool.and_eq_true,if_true] at hoc
  refine ⟨?_, ?_⟩
  ·simp only [vC,if_true]
   have:=hoc.1
   simp only [numB,Bool.and_eq_true] at this
   exact this.1
  ·simp only [plC,if_true,okC,cellB,Bool.and_eq_true]
   exact ⟨wordB_zero,hoc.2⟩
 ·have:=hk _ hc
  simp only at this
  refine ⟨?_, ?_⟩
  ·simp only [vC,if_neg h1k]
   rcases this with h|h|h|h
   ·exact absurd h h1k
   ·subst h;rfl
   ·subst h;rfl
   ·subst h;rfl
  ·simp only [plC,if_neg h1k];exact hoc
open Classical in
noncomputable def textV (l:List Cl):List UInt8:=if h:okV l=true∧ ∃x,Tx l 1 0 l.length [x] then h.2.choose.2 else []
theorem textV_of {l:List Cl} {x:Pt} (hok:okV l=true) (h:Tx l 1 0 l.length [x]):textV l=x.2:=by
 have hh:okV l=true∧ ∃x,Tx l 1 0 l.length [x]:=⟨hok,x,h⟩
 unfold textV
 rw [dif_pos hh]
 have:=(hh.2.choose_spec.uniq h).2
 simp only [List.cons.injEq,and_true] at this
 rw [this]
theorem textV_no {l:List Cl} (hok:okV l=false):textV l=[]:=by
 unfold textV
 rw [dif_neg]
 intro h;rw [hok] at h;cases h.1
theorem okV_tx {l:List Cl} (hok:okV l=true): ∃x,Tx l 1 0 l.length [x]:=by
 obtain ⟨-,-,d,-,hx⟩:=(okV_iff l).mp hok
 obtain ⟨xs,h⟩:=Tx.of_exs hx
 have hl:=h.len
 match xs,hl with
 |[x],_=>exact ⟨x,h⟩
theorem textV_E {l:List Cl} (hE:okE l=true) (hV:okV l=true):textV l=textE l:=by
 obtain ⟨x,hx⟩:=okE_tx hE
 rw [textV_of hV hx,textE_of hE hx]
noncomputable def cutL (l:List Cl):Nat→Nat→List (List Cl)
 |_,0=>[]
 |f,n+1=>((l.drop f).take (endP (amL l) f-f))::cutL l (endP (amL l) f) n
theorem vcut_at (l:List Cl) (f g i:Nat) (h1:f≤i) (h2:i<g):(amL ((l.drop f).take (g-f)))[i-f]? =(amL l)[i]? :=by
 simp only [amL,List.map_take,List.map_drop]
 rw [List.getElem?_take,if_pos (by omega),List.getElem?_drop,show f+(i-f)=i by omega]
theorem Exs.cut {l:List Cl} {n f t d:Nat} (h:Exs (amL l) n f t d):(cutL l f n).flatten=(l.drop f).take (t-f)∧(cutL l f n).length=n∧
  (∀p∈cutL l f n,(∃e,e≤d∧Exs (amL p) 1 0 p.length e)∧ ∀c∈p,c∈l)∧f≤t:=by
 generalize ha:amL l=am at h
 induction h with
 |nil f=>exact ⟨by simp [cutL],rfl,(fun p hp=>by simp [cutL] at hp),Nat.le_refl _⟩
 | @cons f m g d n t e hm h1 h2 i1 i2=>
  subst ha
  have hone:=Exs.one hm h1
  have hend:=hone.endP
  have hle:=hone.le
  have hgl:=hle.2 (by omega)
  rw [amL_length] at hgl
  obtain ⟨e1,e2,e3,e4⟩:=i2
  have hp:((l.drop f).take (g-f)).length=g-f:=by rw [List.length_take,List.length_drop];omega
  rw [cutL,hend]
  refine ⟨?_,by rw [List.length_cons,e2], ?_,by omega⟩
  ·rw [List.flatten_cons,e1]
   have:l.drop g=(l.drop f).drop (g-f):=by rw [List.drop_drop];congr 1;omega
   rw [this,show t-f=(g-f)+(t-g) by omega,List.take_add]
  ·intro p hp'
   rcases List.mem_cons.mp hp' with rfl|hp'
   ·refine ⟨⟨d+1,by omega, ?_⟩,fun c hc=>List.mem_of_mem_drop (List.mem_of_mem_take hc)⟩
    have hs:=hone.shift (bm:=amL ((l.drop f).take (g-f))) f (Nat.le_refl _) (fun i h1 h2=>vcut_at l f g i h1 h2)
    rw [Nat.sub_self] at hs
    rw [hp];exact hs
   ·obtain ⟨⟨e',he',hx⟩,hm'⟩:=e3 p hp'
    exact ⟨⟨e',by omega,hx⟩,hm'⟩
noncomputable def maxV:List (List Cl)→Nat
 |[]=>0
 |p::ps=>max (depE (amL p) 0) (maxV ps)
theorem maxV_le {ps:List (List Cl)} {p:List Cl} (h:p∈ps):depE (amL p) 0≤maxV ps:=by
 induction ps with
 |nil=>cases h
 |cons q qs ih=>
  rcases List.mem_cons.mp h with rfl|h
  ·simp only [maxV];omega
  ·have:=ih h;simp only [maxV];omega
theorem cat_exs {parts:List (List Cl)} (h: ∀p∈parts,∃d,Exs (amL p) 1 0 p.length d): ∀(pre post:List Cl),
  Exs (amL (pre++(parts.flatten++post))) parts.length pre.length (pre.length+parts.flatten.length) (maxV parts):=by
 induction parts with
 |nil=>intro pre post;simp only [List.flatten_nil,List.length_nil,Nat.add_zero];exact .nil _
 |cons p ps ih=>
  intro pre post
  obtain ⟨d,hd⟩:=h p (by simp)
  have h1:Exs (amL (pre++(p++(ps.flatten++post)))) 1 (0+pre.length) (p.length+pre.length) d:=hd.up pre.length (fun i _ hi=>by
   simp only [amL,List.map_append]
   rw [List.getElem?_append_right (by simp),List.getElem?_append_left (by simp;omega)]
   simp)
  have h2:=ih (fun q hq=>h q (by simp [hq])) (pre++p) post
  have e1:pre++((p::ps).flatten++post)=pre++(p++(ps.flatten++post)):=by simp
  have e2:(pre++p)++(ps.flatten++post)=pre++(p++(ps.flatten++post)):=by simp
  rw [e2,List.length_append] at h2
  rw [Nat.zero_add,Nat.add_comm p.length] at h1
  have h3:=h1.app h2
  rw [e1,List.length_cons,List.flatten_cons,List.length_append,maxV,hd.depE,Nat.add_comm ps.length]
  rw [show pre.length+(p.length+ps.flatten.length)=pre.length+p.length+ps.flatten.length by omega]
  exact h3
theorem cut_cat {parts:List (List Cl)} (h: ∀p∈parts,∃d,Exs (amL p) 1 0 p.length d): ∀(pre post:List Cl),cutL (pre++(parts.flatten++post)) pre.length parts.length=parts:=by
 induction parts with
 |nil=>intro pre post;rfl
 |cons p ps ih=>
  intro pre post
  obtain ⟨d,hd⟩:=h p (by simp)
  have e1:pre++((p::ps).flatten++post)=pre++(p++(ps.flatten++post)):=by simp
  have e2:(pre++p)++(ps.flatten++post)=pre++(p++(ps.flatten++post)):=by simp
  have h1:Exs (amL (pre++(p++(ps.flatten++post)))) 1 (0+pre.length) (p.length+pre.length) d:=hd.up pre.length (fun i _ hi=>by
   simp only [amL,List.map_append]
   rw [List.getElem?_append_right (by simp),List.getElem?_append_left (by simp;omega)]
   simp)
  rw [Nat.zero_add] at h1
  have h2:=ih (fun q hq=>h q (by simp [hq])) (pre++p) post
  rw [e2,List.length_append] at h2
  rw [e1,List.length_cons,cutL,h1.endP,Nat.add_comm p.length,h2]
  congr 1
  rw [List.drop_left,show pre.length+p.length-pre.length=p.length by omega,List.take_left]
def listV (parts:List (List Cl)):List Cl:=(5,⟨#[]⟩,(parts.length:Int))::parts.flatten
theorem okV_listV {parts:List (List Cl)} (h: ∀p∈parts,okV p=true):okV (listV parts)=true↔parts.length≤8∧parts.flatten.length<60∧maxV parts<12:=by
 have hx: ∀p∈parts,∃d,Exs (amL p) 1 0 p.length d:=fun p hp=>by
  obtain ⟨-,-,d,-,h⟩:=(okV_iff p).mp (h p hp);exact ⟨d,h⟩
 have hc:=cat_exs hx [(5,⟨#[]⟩,(parts.length:Int))] []
 rw [List.append_nil] at hc
 have hone:Exs (amL (listV parts)) 1 0 (1+parts.flatten.length) (maxV parts+1):=Exs.one (m:=parts.length) (by simp [listV,amL]) hc
 have hlen:(listV parts).length=1+parts.flatten.length:=by simp [listV];omega
 rw [okV_iff,hlen]
 constructor
 ·rintro ⟨h1,h2,d,hd,h3⟩
  obtain ⟨-,rfl⟩:=h3.uniq hone
  refine ⟨?_,by omega,by omega⟩
  rw [List.all_eq_true] at h2
  have:=(okW_M (okVC_W (h2 _ (List.mem_cons_self ..))))
  have:=(okM_many this).2
  simp only at this;omega
 ·rintro ⟨h1,h2,h3⟩
  refine ⟨by omega, ?_,_,by omega,hone⟩
  rw [List.all_eq_true]
  intro c hc
  rcases List.mem_cons.mp hc with rfl|hc
  ·have:manyB 5 (parts.length:Int)=true:=by
    simp only [manyB,Int.reduceEq,if_false]
    simp;omega
   have e:okVC (5,⟨#[]⟩,(parts.length:Int))=manyB 5 (parts.length:Int):=by simp [okVC,vC,plC,okC,cellB,wordB]
   rw [e];exact this
  ·obtain ⟨p,hp,hcp⟩:=List.mem_flatten.mp hc
   have:=((okV_iff p).mp (h p hp)).2.1
   rw [List.all_eq_true] at this
   exact this c hcp
open Classical in
noncomputable def partsV (l:List Cl):List (List Cl):=if okV l=true∧ ∃c t,l=c::t∧c.1=5 then cutL l 1 ((amL l).getD 0 0) else []
theorem parts_listV {parts:List (List Cl)} (h: ∀p∈parts,okV p=true) (hok:okV (listV parts)=true):partsV (listV parts)=parts:=by
 have hx: ∀p∈parts,∃d,Exs (amL p) 1 0 p.length d:=fun p hp=>by
  obtain ⟨-,-,d,-,h⟩:=(okV_iff p).mp (h p hp);exact ⟨d,h⟩
 have hc:=cut_cat hx [(5,⟨#[]⟩,(parts.length:Int))] []
 rw [List.append_nil] at hc
 rw [partsV,if_pos ⟨hok,_,_,rfl,rfl⟩]
 have:(amL (listV parts)).getD 0 0=parts.length:=by simp [listV,amL]
 rw [this]
 exact hc
theorem list_partsV {l:List Cl} (hok:okV l=true) {c:Cl} {t:List Cl} (hl:l=c::t) (h5:c.1=5):listV (partsV l)=l∧(∀p∈partsV l,okV p=true)∧((partsV l).length:Int)=c.2.2:=by
 obtain ⟨h60,hal,d,hd,hx⟩:=(okV_iff l).mp hok
 obtain ⟨m,e,hm,hk,rfl⟩:=hx.inv
 have hall:=hal
 rw [List.all_eq_true] at hall
 have hcc:=hall c (by rw [hl];simp)
 have hmc:m=c.2.2.toNat:=by rw [hl] at hm;simp [amL] at hm;exact hm.symm
 obtain ⟨c1,c2,c3,-⟩:=hk.cut
 have hM:=okM_many (okW_M (okVC_W hcc))
 have hpv:partsV l=cutL l 1 m:=by
  rw [partsV,if_pos ⟨hok,c,t,hl,h5⟩,List.getD_eq_getElem?_getD,hm];rfl
 rw [hpv]
 refine ⟨?_, ?_, ?_⟩
 ·rw [listV,c1,c2]
  have ht:(l.drop (0+1)).take (l.length-(0+1))=t:=by rw [hl];simp
  rw [ht,hl]
  congr 1
  obtain ⟨k,s,m'⟩:=c
  simp only at h5 hmc hM⊢
  subst h5
  have hs:s=⟨#[]⟩:=by
   have h2:=hcc
   simp only [okVC,plC,Bool.and_eq_true,okC,cellB,wordB] at h2
   have h3:=h2.2.1
   simp at h3
   exact strL (l:=[]) (by rw [h3])
  subst hs
  have:((m:Nat):Int)=m':=by omega
  rw [this]
 ·intro p hp
  obtain ⟨⟨e',he',hxp⟩,hin⟩:=c3 p hp
  rw [okV_iff]
  refine ⟨?_, ?_,e',by omega,hxp⟩
  ·have:p.length≤(cutL l (0+1) m).flatten.length:=(List.sublist_flatten_of_mem hp).length_le
   rw [c1,List.length_take,List.length_drop] at this
   omega
  ·rw [List.all_eq_true];exact fun c hc=>hall c (hin c hc)
 ·rw [c2];omega
theorem cutL_at {l:List Cl} {n f t d:Nat} (h:Exs (amL l) n f t d): ∀k,k<n→ ∃g g' e,(kidsL (amL l) f n)[k]? =some g∧Exs (amL l) 1 g g' e∧g'≤t∧f≤g∧(cutL l f n)[k]? =some ((l.drop g).take (g'-g)):=by
 generalize ha:amL l=am at h
 induction h with
 |nil f=>intro k hk;omega
 | @cons f m g d n t e hm h1 h2 i1 i2=>
  intro k hk
  have hone:=Exs.one hm h1
  have hend:=hone.endP
  have hle1:=hone.le
  have hle2:=h2.le
  cases k with
  |zero=>
   refine ⟨f,g,_, ?_,hone,by omega,Nat.le_refl _, ?_⟩
   ·simp [kidsL]
   ·subst ha;simp [cutL,hend]
  |succ k=>
   obtain ⟨p,q,e',a1,a2,a3,a4,a5⟩:=i2 k (by omega)
   refine ⟨p,q,e', ?_,a2,a3,by omega, ?_⟩
   ·simp only [kidsL,hend,List.getElem?_cons_succ];exact a1
   ·subst ha;simp only [cutL,hend,List.getElem?_cons_succ];exact a5
theorem cutL_length (l:List Cl): ∀n f,(cutL l f n).length=n:=by
 intro n
 induction n with
 |zero=>intro f;rfl
 |succ n ih=>intro f;simp [cutL,ih]
def RowLs (w:World) (v:Value) (ls:List (List Cl)):Prop:=
 ∃ao cap,v= .slice ao ls.length cap∧ls.length≤cap∧cap≤maxLen∧(ls=[]∨ ∃b o,ao=some ⟨b,o,none⟩∧b<w.heap.size∧ ∀(k:Nat) (h:k<ls.length),∃u,w.cell? ⟨b,o+k,none⟩=some u∧RowC w u ls[k])
theorem RowLs.mono {w w':World} {v:Value} {ls:List (List Cl)} (h:RowLs w v ls) (hb:Below w.heap.size w w'):RowLs w' v ls:=by
 obtain ⟨ao,cap,hv,h1,h2,h3⟩:=h
 refine ⟨ao,cap,hv,h1,h2, ?_⟩
 rcases h3 with h3|⟨b,o,ha,hlt,hj⟩
 ·exact .inl h3
 ·refine .inr ⟨b,o,ha,Nat.lt_of_lt_of_le hlt hb.size,fun k hk=> ?_⟩
  obtain ⟨u,hu,hr⟩:=hj k hk
  exact ⟨u,(hb.cell (p:=⟨b,o+k,none⟩) hlt).trans hu,hr.mono hb⟩
def RowsC (w:World):List Value→List (List Cl)→Prop
 |[],[]=>True
 |u::us,l::ls=>RowC w u l∧RowsC w us ls
 |_,_=>False
theorem RowsC.mono {w w':World} (hb:Below w.heap.size w w'): ∀{us:List Value} {ls:List (List Cl)},RowsC w us ls→RowsC w' us ls:=by
 intro us
 induction us with
 |nil=>intro ls h;cases ls with
  |nil=>trivial
  |cons l ls=>exact h
 |cons u us ih=>intro ls h;cases ls with
  |nil=>exact h
  |cons l ls=>exact ⟨h.1.mono hb,ih h.2⟩
theorem RowsC.len {w:World}: ∀{us:List Value} {ls:List (List Cl)},RowsC w us ls→us.length=ls.length:=by
 intro us
 induction us with
 |nil=>intro ls h;cases ls with
  |nil=>rfl
  |cons l ls=>exact absurd h id
 |cons u us ih=>intro ls h;cases ls with
  |nil=>exact absurd h id
  |cons l ls=>rw [List.length_cons,List.length_cons,ih h.2]
theorem RowsC.at {w:World}: ∀{us:List Value} {ls:List (List Cl)},RowsC w us ls→ ∀(k:Nat) (h:k<us.length) (h':k<ls.length),RowC w us[k] ls[k]:=by
 intro us
 induction us with
 |nil=>intro ls h k hk;simp at hk
 |cons u us ih=>intro ls h k hk hk';cases ls with
  |nil=>exact absurd h id
  |cons l ls=>cases k with
   |zero=>exact h.1
   |succ k=>exact ih h.2 k (by simpa using hk) (by simpa using hk')
theorem RowsC.snoc {w:World} {u:Value} {l:List Cl} (hr:RowC w u l): ∀{us:List Value} {ls:List (List Cl)},RowsC w us ls→RowsC w (us++[u]) (ls++[l]):=by
 intro us
 induction us with
 |nil=>intro ls h;cases ls with
  |nil=>exact ⟨hr,trivial⟩
  |cons l ls=>exact absurd h id
 |cons u' us ih=>intro ls h;cases ls with
  |nil=>exact absurd h id
  |cons l' ls=>exact ⟨h.1,ih h.2⟩
theorem RowLs.of_own {w:World} {base n:Nat} {T:TypeId} {v:Value} {us:List Value} {ls:List (List Cl)} (ho:w.ownsRow base T 1 v n us) (hr:RowsC w us ls):RowLs w v ls∧n=ls.length:=by
 have hl:=hr.len
 have hn:n=us.length:=by have:=ho.1;omega
 subst hn
 refine ⟨?_,hl⟩
 rcases ho.2 with ⟨rfl,h0⟩|⟨g,cap,cur,rfl,hg,hh,h1,h2,_⟩
 ·have:ls=[]:=List.length_eq_zero_iff.mp (by omega)
  subst this
  exact ⟨none,0,rfl,by simp,by unfold maxLen;omega, .inl rfl⟩
 ·refine ⟨_,cap,by rw [hl],by omega,h2, .inr ⟨g,0,rfl,(ho.lt g rfl).2,fun k hk=>⟨us[k]'(by omega), ?_,hr.at k (by omega) hk⟩⟩⟩
  rw [Nat.zero_add,ho.cellAt k (by omega),List.getElem?_eq_getElem (by omega)]
theorem grownT {a b c:World} {R:Option Nat} (h:a.grownBy b R) (k:b.grownBy c R):a.grownBy c R:=
 ⟨k.os.trans h.os,k.tape.trans h.tape,k.output.trans h.output,Nat.le_trans h.size k.size,fun i hi hn=>(k.block i (Nat.lt_of_lt_of_le hi h.size) hn).trans (h.block i hi hn)⟩
theorem own_keep {w w':World} {base:Nat} {e:TypeId} {size n:Nat} {v:Value} {xs:List Value} (h:w.ownsRow base e size v n xs) (hw: ∀g,v.ownBlock=some g→w'.heap[g]? =w.heap[g]?):w'.ownsRow base e size v n xs:=by
 refine ⟨h.1, ?_⟩
 rcases h.2 with hn|⟨g',cap,cur,rfl,hb',hgg,rest⟩
 ·exact .inl hn
 ·exact .inr ⟨g',cap,cur,rfl,hb',by rw [hw g' rfl];exact hgg,rest⟩
theorem own_base {w:World} {base base':Nat} {e:TypeId} {size n:Nat} {v:Value} {xs:List Value} (h:w.ownsRow base e size v n xs) (hg: ∀g,v.ownBlock=some g→base'≤g):w.ownsRow base' e size v n xs:=by
 refine ⟨h.1, ?_⟩
 rcases h.2 with hn|⟨g',cap,cur,rfl,hb',rest⟩
 ·exact .inl hn
 ·exact .inr ⟨g',cap,cur,rfl,hg g' rfl,rest⟩
theorem own_belowS {w w1:World} {base:Nat} {e:TypeId} {size n:Nat} {v:Value} {xs:List Value} (h:w.ownsRow base e size v n xs) (hb:Below w.heap.size w w1):w1.ownsRow base e size v n xs:=
 own_keep h (fun g hg=>hb.block g (h.lt g hg).2)
structure OwnSS (w:World) (base:Nat) (v:Value) (us:List Value) (ls:List (List Cl)):Prop where
 row:w.ownsRow base 30 1 v ls.length us
 len:us.length=ls.length
 each: ∀(k:Nat) (h:k<us.length) (h':k<ls.length),w.ownsRow base 110 3 us[k] ls[k].length (flatC ls[k])
 far: ∀(k:Nat) (h:k<us.length) (b:Nat),us[k].ownBlock=some b→v.ownBlock≠some b
 apart: ∀(i j:Nat) (hi:i<us.length) (hj:j<us.length) (b:Nat),us[i].ownBlock=some b→us[j].ownBlock=some b→i=j
theorem OwnSS.below {w w':World} {base:Nat} {v:Value} {us:List Value} {ls:List (List Cl)} (h:OwnSS w base v us ls) (hb:Below w.heap.size w w'):OwnSS w' base v us ls:=
 ⟨own_belowS h.row hb,h.len,fun k h1 h2=>own_belowS (h.each k h1 h2) hb,h.far,h.apart⟩
theorem OwnSS.keep {w w':World} {base:Nat} {v:Value} {us:List Value} {ls:List (List Cl)} (h:OwnSS w base v us ls) (hw: ∀b,base≤b→b<w.heap.size→w'.heap[b]? =w.heap[b]?):OwnSS w' base v us ls:=
 ⟨own_keep h.row (fun g hg=>hw g (h.row.lt g hg).1 (h.row.lt g hg).2),h.len,fun k h1 h2=>own_keep (h.each k h1 h2) (fun g hg=>hw g ((h.each k h1 h2).lt g hg).1 ((h.each k h1 h2).lt g hg).2),h.far,h.apart⟩
theorem OwnSS.lower {w:World} {base base':Nat} {v:Value} {us:List Value} {ls:List (List Cl)} (h:OwnSS w base v us ls) (hb:base'≤base):OwnSS w base' v us ls:=
 ⟨own_base h.row (fun g hg=>Nat.le_trans hb (h.row.lt g hg).1),h.len,fun k h1 h2=>own_base (h.each k h1 h2) (fun g hg=>Nat.le_trans hb ((h.each k h1 h2).lt g hg).1),h.far,h.apart⟩
theorem OwnSS.reads {w:World} {base:Nat} {v:Value} {us:List Value} {ls:List (List Cl)} (h:OwnSS w base v us ls):RowLs w v ls:=by
 have hr: ∀(us:List Value) (ls:List (List Cl)),us.length=ls.length→(∀(k:Nat) (h:k<us.length) (h':k<ls.length),RowC w us[k] ls[k])→RowsC w us ls:=by
  intro us
  induction us with
  |nil=>intro ls h _;cases ls with
   |nil=>trivial
   |cons a t=>simp at h
  |cons u us ih=>intro ls h hh;cases ls with
   |nil=>simp at h
   |cons a t=>exact ⟨hh 0 (by simp) (by simp),ih t (by simpa using h) (fun k h1 h2=>by have:=hh (k+1) (by simpa using h1) (by simpa using h2);simpa using this)⟩
 exact (RowLs.of_own h.row (hr us ls h.len fun k h1 h2=>(RowC.of_own (h.each k h1 h2)).1)).1
theorem OwnSS.snoc {w w':World} {base:Nat} {v v' u:Value} {us:List Value} {ls:List (List Cl)} {l:List Cl} (h:OwnSS w base v us ls)
  (hrow:w'.ownsRow base 30 1 v' (ls.length+1) (us++[u])) (hu:w'.ownsRow base 110 3 u l.length (flatC l))
  (hw: ∀k (hk:k<us.length) b,us[k].ownBlock=some b→w'.heap[b]? =w.heap[b]?)
  (h1: ∀k (hk:k<us.length) b,us[k].ownBlock=some b→v'.ownBlock≠some b) (h2: ∀b,u.ownBlock=some b→v'.ownBlock≠some b) (h3: ∀k (hk:k<us.length) b,us[k].ownBlock=some b→u.ownBlock≠some b):OwnSS w' base v' (us++[u]) (ls++[l]):=by
 have hl:=h.len
 refine ⟨by simpa using hrow,by simp [hl], ?_, ?_, ?_⟩
 ·intro k hk hk'
  by_cases hlt:k<us.length
  ·rw [List.getElem_append_left hlt,List.getElem_append_left (by omega)]
   exact own_keep (h.each k hlt (by omega)) (fun g hg=>hw k hlt g hg)
  ·have:k=us.length:=by simp at hk;omega
   subst this
   simp only [List.getElem_append_right (Nat.le_refl _),Nat.sub_self,List.getElem_cons_zero]
   rw [List.getElem_append_right (by omega)]
   simpa [hl] using hu
 ·intro k hk b hb
  by_cases hlt:k<us.length
  ·rw [List.getElem_append_left hlt] at hb;exact h1 k hlt b hb
  ·have:k=us.length:=by simp at hk;omega
   subst this
   simp only [List.getElem_append_right (Nat.le_refl _),Nat.sub_self,List.getElem_cons_zero] at hb
   exact h2 b hb
 ·intro i j hi hj b hbi hbj
  by_cases hli:i<us.length
  ·rw [List.getElem_append_left hli] at hbi
   by_cases hlj:j<us.length
   ·rw [List.getElem_append_left hlj] at hbj;exact h.apart i j hli hlj b hbi hbj
   ·have:j=us.length:=by simp at hj;omega
    subst this
    simp only [List.getElem_append_right (Nat.le_refl _),Nat.sub_self,List.getElem_cons_zero] at hbj
    exact absurd hbj (h3 i hli b hbi)
  ·have:i=us.length:=by simp at hi;omega
   subst this
   simp only [List.getElem_append_right (Nat.le_refl _),Nat.sub_self,List.getElem_cons_zero] at hbi
   by_cases hlj:j<us.length
   ·rw [List.getElem_append_left hlj] at hbj;exact absurd hbi (h3 j hlj b hbj)
   ·simp at hj;omega
theorem OwnSS.start (w:World) (base:Nat):OwnSS w base (.slice none 0 0) [] []:=
 ⟨World.ownsRow_nil _ _ _ _,rfl,fun k h=>by simp at h,fun k h=>by simp at h,fun i j h=>by simp at h⟩
theorem own_shape {w:World} {base:Nat} {e:TypeId} {size n:Nat} {v:Value} {xs:List Value} (h:w.ownsRow base e size v n xs): ∃a c,v= .slice a n c:=by
 rcases h.2 with ⟨rfl,h0⟩|⟨g',cap,cur,rfl,_⟩
 ·exact ⟨none,0,by rw [h0]⟩
 ·exact ⟨_,_,rfl⟩
theorem OwnSS.push {wr w5 w6:World} {base gg:Nat} {a v' u:Value} {us:List Value} {ls:List (List Cl)} {l:List Cl} (h:OwnSS wr base a us ls) (hb5:Below wr.heap.size wr w5)
  (hu:w5.ownsRow wr.heap.size 110 3 u l.length (flatC l)) (o:Obj) (hgrow:(w5.alloc o).grownBy w6 a.ownBlock) (hrow:w6.ownsRow base 30 1 v' (ls.length+1) (us++[u])) (hv:v'.ownBlock=some gg) (hat:a.ownBlock=some gg∨gg=w5.heap.size+1) (hb:base≤wr.heap.size):
  OwnSS w6 base v' (us++[u]) (ls++[l]):=by
 have hs5:=hb5.size
 have hal: ∀x,a.ownBlock=some x→x<wr.heap.size:=fun x hx=>(h.row.lt x hx).2
 have hus: ∀k (hk:k<us.length) b,us[k].ownBlock=some b→b<wr.heap.size:=fun k hk b hkb=>((h.each k hk (by have:=h.len;omega)).lt b hkb).2
 have hw6: ∀b,b<w5.heap.size→a.ownBlock≠some b→w6.heap[b]? =w5.heap[b]? :=fun b hb hne=>by
  rw [hgrow.block b (by simp;omega) (fun e=>hne e.symm),Below.heap_alloc _ _ _ hb]
 have hu1: ∀b,u.ownBlock=some b→wr.heap.size≤b∧b<w5.heap.size:=fun b hb=>hu.lt b hb
 refine h.snoc hrow ?_ ?_ ?_ ?_ ?_
 ·exact own_base (own_keep hu (fun g hg=>hw6 g (hu1 g hg).2 (fun e=>by have:=hal g e;have:=(hu1 g hg).1;omega))) (fun g hg=>by have:=(hu1 g hg).1;omega)
 ·intro k hk b hkb
  have hlt:=hus k hk b hkb
  rw [hw6 b (by omega) (fun e=>h.far k hk b hkb e),hb5.block b hlt]
 ·intro k hk b hkb he
  have hlt:=hus k hk b hkb
  rw [hv] at he
  injection he with he
  subst he
  rcases hat with hat|hat
  ·exact h.far k hk _ hkb hat
  ·omega
 ·intro b hkb he
  have hlt:=hu1 b hkb
  rw [hv] at he
  injection he with he
  subst he
  rcases hat with hat|hat
  ·have:=hal _ hat;omega
  ·omega
 ·intro k hk b hkb he
  have:=hus k hk b hkb
  have:=(hu1 b he).1
  omega
theorem OwnSS.mark {w w':World} {base:Nat} {v:Value} {us:List Value} {ls:List (List Cl)} (h:OwnSS w base v us ls) (k:Nat) (hk:k<us.length) (hk':k<ls.length) (l:List Cl) (hl:l.length=ls[k].length)
  (hg:w.grownBy w' us[k].ownBlock) (ho:w'.ownsRow base 110 3 us[k] l.length (flatC l)):OwnSS w' base v us (ls.set k l):=by
 refine ⟨?_,by rw [List.length_set];exact h.len, ?_,h.far,h.apart⟩
 ·rw [List.length_set]
  exact own_keep h.row (fun g hgv=>hg.block g (h.row.lt g hgv).2 (fun he=>h.far k hk g he.symm hgv))
 ·intro j hj hj'
  rw [List.length_set] at hj'
  by_cases hjk:k=j
  ·subst hjk
   rw [List.getElem_set_self];exact ho
  ·rw [List.getElem_set_ne hjk]
   exact own_keep (h.each j hj hj') (fun g hgj=>hg.block g ((h.each j hj hj').lt g hgj).2 (fun he=>hjk (h.apart k j hk hj g he.symm hgj)))
def NewSS (ls:List (List Cl)) (w:World) (e:Ending) (w':World):Prop:=
 ∃v us,e= .returned v∧OwnSS w' w.heap.size v us ls∧Below w.heap.size w w'
def lenSS (ls:List (List Cl)):Nat:=ls.flatten.length
theorem lenSS_take (ls:List (List Cl)) (k:Nat) (h:k<ls.length):lenSS (ls.take (k+1))=lenSS (ls.take k)+ls[k].length:=by
 simp only [lenSS]
 rw [List.take_succ_eq_append_getElem h,List.flatten_append,List.length_append]
 simp
theorem lenSS_le (ls:List (List Cl)) (k:Nat):lenSS (ls.take k)≤lenSS ls:=by
 simp only [lenSS]
 conv=>rhs;rw [←List.take_append_drop k ls,List.flatten_append,List.length_append]
 omega
theorem lenSS_in (ls:List (List Cl)) (k:Nat) (h:k<ls.length):ls[k].length≤lenSS ls:=by
 have:=lenSS_take ls k h
 have:=lenSS_le ls (k+1)
 omega
theorem OwnSS.pushR {wr w5 w6:World} {base gg:Nat} {a v' u:Value} {us:List Value} {ls:List (List Cl)} {l:List Cl} (h:OwnSS wr base a us ls) (hb5: ∀b,base≤b→b<wr.heap.size→w5.heap[b]? =wr.heap[b]?) (hs5:wr.heap.size≤w5.heap.size)
  (hu:w5.ownsRow wr.heap.size 110 3 u l.length (flatC l)) (o:Obj) (hgrow:(w5.alloc o).grownBy w6 a.ownBlock) (hrow:w6.ownsRow base 30 1 v' (ls.length+1) (us++[u])) (hv:v'.ownBlock=some gg) (hat:a.ownBlock=some gg∨gg=w5.heap.size+1) (hb:base≤wr.heap.size):
  OwnSS w6 base v' (us++[u]) (ls++[l]):=by
 have hal: ∀x,a.ownBlock=some x→x<wr.heap.size:=fun x hx=>(h.row.lt x hx).2
 have hus: ∀k (hk:k<us.length) b,us[k].ownBlock=some b→b<wr.heap.size:=fun k hk b hkb=>((h.each k hk (by have:=h.len;omega)).lt b hkb).2
 have hus1: ∀k (hk:k<us.length) b,us[k].ownBlock=some b→base≤b:=fun k hk b hkb=>((h.each k hk (by have:=h.len;omega)).lt b hkb).1
 have hw6: ∀b,b<w5.heap.size→a.ownBlock≠some b→w6.heap[b]? =w5.heap[b]? :=fun b hb hne=>by
  rw [hgrow.block b (by simp;omega) (fun e=>hne e.symm),Below.heap_alloc _ _ _ hb]
 have hu1: ∀b,u.ownBlock=some b→wr.heap.size≤b∧b<w5.heap.size:=fun b hb=>hu.lt b hb
 refine h.snoc hrow ?_ ?_ ?_ ?_ ?_
 ·exact own_base (own_keep hu (fun g hg=>hw6 g (hu1 g hg).2 (fun e=>by have:=hal g e;have:=(hu1 g hg).1;omega))) (fun g hg=>by have:=(hu1 g hg).1;omega)
 ·intro k hk b hkb
  have hlt:=hus k hk b hkb
  rw [hw6 b (by omega) (fun e=>h.far k hk b hkb e),hb5 b (hus1 k hk b hkb) hlt]
 ·intro k hk b hkb he
  have hlt:=hus k hk b hkb
  rw [hv] at he
  injection he with he
  subst he
  rcases hat with hat|hat
  ·exact h.far k hk _ hkb hat
  ·omega
 ·intro b hkb he
  have hlt:=hu1 b hkb
  rw [hv] at he
  injection he with he
  subst he
  rcases hat with hat|hat
  ·have:=hal _ hat;omega
  ·omega
 ·intro k hk b hkb he
  have:=hus k hk b hkb
  have:=(hu1 b he).1
  omega
end Go.Proofs.YtegdjjjpoahamaaGreatDoor
