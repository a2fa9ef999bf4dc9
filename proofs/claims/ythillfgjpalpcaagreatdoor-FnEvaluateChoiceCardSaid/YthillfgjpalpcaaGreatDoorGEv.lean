/-
  Several texts of the proof in one file: FracLaws, EvalPlain, EvalMore, BindRow.
-/
import Derived.Test.YthillfgjpalpcaaGreatDoorBaseG
set_option linter.unusedVariables false
namespace Go.Proofs.YthillfgjpalpcaaGreatDoor
theorem vB_neg {t b:Int} (h:vB t b=true):vB (-t) b=true:=by
 rw [vB_iff] at h⊢
 refine ⟨by omega,by omega,by omega,by omega, ?_⟩
 have e:Int.gcd (-t) b=Int.gcd t b:=by unfold Int.gcd;rw [Int.natAbs_neg]
 rw [e];exact h.2.2.2.2
theorem div_pos {aB bT:Int} (ha:1≤aB) (hb:bT≠0):1≤divB aB bT:=by
 unfold divB;split
 ·have:=Int.mul_neg_of_pos_of_neg (show 0<aB by omega) (show bT<0 by assumption);omega
 ·have:=Int.mul_pos (show 0<aB by omega) (show 0<bT by omega);omega
abbrev Bd:=ByteArray×List Cl
def nmL (s:ByteArray):Bool:=nameL s.data.toList
def diffB:List Bd→Prop
 |[]=>True
 |b::bs=>(∀x∈bs,x.1≠b.1)∧diffB bs
open Classical in
noncomputable def bindOK (env:List Bd):Bool:=decide (env.length≤30)&&(env.all (fun b=>nmL b.1&&okV b.2)&&decide (diffB env))
theorem bindOK_iff (env:List Bd):bindOK env=true↔env.length≤30∧(∀b∈env,nmL b.1=true∧okV b.2=true)∧diffB env:=by
 unfold bindOK
 simp only [Bool.and_eq_true,decide_eq_true_eq,List.all_eq_true]
def envO:List Bd→ByteArray→Option (List Cl)
 |[],_=>none
 |b::bs,s=>if b.1=s then some b.2 else envO bs s
theorem envO_ok {env:List Bd} (h: ∀b∈env,nmL b.1=true∧okV b.2=true) {s:ByteArray} {v:List Cl} (hv:envO env s=some v):okV v=true:=by
 induction env with
 |nil=>cases hv
 |cons b bs ih=>
  rw [envO] at hv
  split at hv
  ·injection hv with hv;rw [←hv];exact (h b (List.mem_cons_self ..)).2
  ·exact ih (fun x hx=>h x (List.mem_cons_of_mem _ hx)) hv
theorem envO_app (env:List Bd) (b:Bd) (s:ByteArray) (h:s≠b.1):envO (env++[b]) s=envO env s:=by
 induction env with
 |nil=>show (if b.1=s then _ else _)=_;rw [if_neg (fun k=>h k.symm)]
 |cons x xs ih=>show (if x.1=s then _ else envO (xs++[b]) s)=(if x.1=s then _ else envO xs s);rw [ih]
theorem envO_new (env:List Bd) (b:Bd) (h: ∀x∈env,x.1≠b.1):envO (env++[b]) b.1=some b.2:=by
 induction env with
 |nil=>show (if b.1=b.1 then _ else _)=_;rw [if_pos rfl]
 |cons x xs ih=>
  show (if x.1=b.1 then _ else envO (xs++[b]) b.1)=_
  rw [if_neg (h x (List.mem_cons_self ..))]
  exact ih fun y hy=>h y (List.mem_cons_of_mem _ hy)
theorem diffB_app: ∀(env:List Bd) (b:Bd),diffB (env++[b])↔diffB env∧ ∀x∈env,x.1≠b.1:=by
 intro env
 induction env with
 |nil=>intro b;simp [diffB]
 |cons x xs ih=>
  intro b
  show ((∀y∈xs++[b],y.1≠x.1)∧diffB (xs++[b]))↔((∀y∈xs,y.1≠x.1)∧diffB xs)∧_
  rw [ih b]
  simp only [List.mem_append,List.mem_cons,List.not_mem_nil,or_false]
  constructor
  ·rintro ⟨h1,h2,h3⟩
   refine ⟨⟨fun y hy=>h1 y (.inl hy),h2⟩, ?_⟩
   rintro y (rfl|hy)
   ·exact fun k=>h1 b (.inr rfl) k.symm
   ·exact h3 y hy
  ·rintro ⟨⟨h1,h2⟩,h3⟩
   refine ⟨?_,h2,fun y hy=>h3 y (.inr hy)⟩
   rintro y (hy|rfl)
   ·exact h1 y hy
   ·exact fun k=>h3 x (.inl rfl) k.symm
theorem bindOK_more {env:List Bd} {b:Bd} (h:bindOK env=true) (hl:env.length<30) (hn:nmL b.1=true) (hv:okV b.2=true) (hd: ∀x∈env,x.1≠b.1):bindOK (env++[b])=true:=by
 rw [bindOK_iff] at h⊢
 refine ⟨by rw [List.length_append,List.length_singleton];omega, ?_,(diffB_app env b).mpr ⟨h.2.2,hd⟩⟩
 intro x hx
 rw [List.mem_append,List.mem_singleton] at hx
 rcases hx with hx|rfl
 ·exact h.2.1 x hx
 ·exact ⟨hn,hv⟩
def aT (v:List Cl):Int:=rdT (wdV v)
def aB (v:List Cl):Int:=rdB (wdV v)
noncomputable def numO (ok:Bool) (t b:Int):Option (List Cl):=if ok=true then some (numV t b) else none
def signW:List UInt8→Int
 |[61,61]=>1|[33,61]=>2|[43]=>3|[45]=>4|[42]=>5|[47]=>6|[37]=>7|[60]=>8|[60,61]=>9|[62]=>10|[62,61]=>11|[38,38]=>12|[124,124]=>13|_=>0
def cmpV (a b:List Cl):Int:=cmpI (aT a*aB b) (aT b*aB a)
open Classical in
noncomputable def binK (k:Int) (a b:List Cl):Option (List Cl):=
 if k=1 then some (truV (decide (a=b)))
 else if k=2 then some (truV (decide (a≠b)))
 else if k=3∧kdV a=2∧kdV b=2 then texO (wdV a++wdV b)
 else if k=3∧kdV a=5∧kdV b=5 then lisO (partsV a++partsV b)
 else if kdV a≠1∨kdV b≠1 then none
 else if k=3 then numO (mkOK (aT a*aB b+aT b*aB a) (aB a*aB b)) (mkT (aT a*aB b+aT b*aB a) (aB a*aB b)) (mkB (aT a*aB b+aT b*aB a) (aB a*aB b))
 else if k=4 then numO (mkOK (aT a*aB b+ -aT b*aB a) (aB a*aB b)) (mkT (aT a*aB b+ -aT b*aB a) (aB a*aB b)) (mkB (aT a*aB b+ -aT b*aB a) (aB a*aB b))
 else if k=5 then numO (mkOK (aT a*aT b) (aB a*aB b)) (mkT (aT a*aT b) (aB a*aB b)) (mkB (aT a*aT b) (aB a*aB b))
 else if k=6 then numO (decide (aT b≠0)&&mkOK (divT (aT a) (aT b) (aB b)) (divB (aB a) (aT b))) (mkT (divT (aT a) (aT b) (aB b)) (divB (aB a) (aT b))) (mkB (divT (aT a) (aT b) (aB b)) (divB (aB a) (aT b)))
 else if k=7 then (if aB a=1∧aB b=1∧0<aT b then some (numV (aT a % aT b) 1) else none)
 else some (truV (decide (k=8∧cmpV a b<0∨k=9∧cmpV a b≤0∨k=10∧0<cmpV a b∨k=11∧0≤cmpV a b)))
noncomputable def binV (word:ByteArray) (a b:List Cl):Option (List Cl):=binK (signW word.data.toList) a b
def allO:List (Option (List Cl))→Option (List (List Cl))
 |[]=>some []
 |none::_=>none
 |some x::xs=>(allO xs).map (x:: ·)
theorem allO_some: ∀(xs:List (List Cl)),allO (xs.map some)=some xs:=by
 intro xs
 induction xs with
 |nil=>rfl
 |cons x xs ih=>show (allO (xs.map some)).map (x:: ·)=_;rw [ih];rfl
theorem allO_mem: ∀{ks:List (Option (List Cl))} {xs:List (List Cl)},allO ks=some xs→ks=xs.map some:=by
 intro ks
 induction ks with
 |nil=>intro xs h;injection h with h;subst h;rfl
 |cons k ks ih=>
  intro xs h
  cases k with
  |none=>cases h
  |some x=>
   simp only [allO,Option.map_eq_some_iff] at h
   obtain ⟨ys,h1,h2⟩:=h
   subst h2
   rw [ih h1];rfl
def trueW (v:List Cl):Bool:=(wdV v).data.toList==trueL
def falseW (v:List Cl):Bool:=(wdV v).data.toList==falseL
noncomputable def combV (env:List Bd) (c:Cl) (ks:List (Option (List Cl))):Option (List Cl):=
 if c.1=4 then envO env c.2.1
 else if c.1=9 then match ks with
  |[some v,x,y]=>if kdV v=3 then (if trueW v=true then x else y) else none
  |_=>none
 else if c.1=7 then match ks with
  |[some v]=>if c.2.1.data.toList=[33]∧kdV v=3 then some (truV (falseW v)) else if c.2.1.data.toList=[45]∧kdV v=1 then some (numV (-aT v) (aB v)) else none
  |_=>none
 else if c.1=8 then match ks with
  |[some a,y]=>
   if signW c.2.1.data.toList=12∨signW c.2.1.data.toList=13 then
    (if kdV a=3 then
     (if trueW a=decide (signW c.2.1.data.toList=13) then some a
     else match y with
      |some b=>if kdV b=3 then some b else none
      |none=>none)
    else none)
   else match y with
    |some b=>binV c.2.1 a b
    |none=>none
  |_=>none
 else if c.1=5 then (allO ks).bind lisO
 else if c.1=6 then (allO ks).bind (callF c.2.1)
 else some [c]
inductive Ev (l:List Cl) (env:List Bd):Nat→Nat→Nat→List (Option (List Cl))→Prop
 |nil (f:Nat):Ev l env 0 f f []
 |cons {f g n t:Nat} {c:Cl} {ks vs:List (Option (List Cl))}:l[f]? =some c→Ev l env c.2.2.toNat (f+1) g ks→Ev l env n g t vs→Ev l env (n+1) f t (combV env c ks::vs)
theorem Ev.len {l:List Cl} {env:List Bd} {n f t:Nat} {vs:List (Option (List Cl))} (h:Ev l env n f t vs):vs.length=n:=by
 induction h with
 |nil f=>rfl
 |cons hc h1 h2 i1 i2=>rw [List.length_cons,i2]
theorem Ev.exs {l:List Cl} {env:List Bd} {n f t:Nat} {vs:List (Option (List Cl))} (h:Ev l env n f t vs): ∃d,Exs (amL l) n f t d:=by
 induction h with
 |nil f=>exact ⟨0, .nil f⟩
 |cons hc h1 h2 i1 i2=>
  obtain ⟨d1,i1⟩:=i1;obtain ⟨d2,i2⟩:=i2
  exact ⟨_, .cons (amL_some hc) i1 i2⟩
theorem Ev.of_exs {l:List Cl} (env:List Bd) {n f t d:Nat} (h:Exs (amL l) n f t d): ∃vs,Ev l env n f t vs:=by
 generalize ha:amL l=am at h
 induction h with
 |nil f=>exact ⟨[], .nil f⟩
 | @cons f m g d n t e hm h1 h2 i1 i2=>
  obtain ⟨ks,k1⟩:=i1;obtain ⟨xs,k2⟩:=i2
  subst ha
  obtain ⟨c,hc,rfl⟩:=amL_get hm
  exact ⟨_, .cons hc k1 k2⟩
theorem Ev.uniq {l:List Cl} {env:List Bd} {n f t:Nat} {vs:List (Option (List Cl))} (h:Ev l env n f t vs): ∀{t':Nat} {ws:List (Option (List Cl))},Ev l env n f t' ws→t=t'∧vs=ws:=by
 induction h with
 |nil f=>intro t' ys h';cases h';exact ⟨rfl,rfl⟩
 | @cons f g n t c ks vs hc h1 h2 i1 i2=>
  intro t' ys h'
  cases h' with
  | @cons _ g' _ _ c' ks' ys' hc' k1 k2=>
   rw [hc] at hc';injection hc' with hc';subst hc'
   obtain ⟨rfl,rfl⟩:=i1 k1
   obtain ⟨rfl,rfl⟩:=i2 k2
   exact ⟨rfl,rfl⟩
theorem Ev.inv {l:List Cl} {env:List Bd} {f t:Nat} {v:Option (List Cl)} (h:Ev l env 1 f t [v]): ∃c ks,l[f]? =some c∧Ev l env c.2.2.toNat (f+1) t ks∧v=combV env c ks:=by
 cases h with
 | @cons _ g _ _ c ks _ hc h1 h2=>cases h2;exact ⟨c,ks,hc,h1,rfl⟩
theorem Ev.app {l:List Cl} {env:List Bd} {a f g:Nat} {xs:List (Option (List Cl))} (h:Ev l env a f g xs): ∀{b t:Nat} {ys:List (Option (List Cl))},Ev l env b g t ys→Ev l env (a+b) f t (xs++ys):=by
 induction h with
 |nil f=>intro b t ys k;rw [Nat.zero_add];exact k
 | @cons f g n t c ks xs hc h1 h2 i1 i2=>
  intro b t' ys k
  rw [show n+1+b=(n+b)+1 by omega]
  exact .cons hc h1 (i2 k)
theorem Ev.at {l:List Cl} {env:List Bd} {n f t:Nat} {xs:List (Option (List Cl))} (h:Ev l env n f t xs): ∀k,k<n→ ∃g g' x,xs[k]? =some x∧Ev l env k f g (xs.take k)∧Ev l env 1 g g' [x]∧Ev l env (n-(k+1)) g' t (xs.drop (k+1)):=by
 induction h with
 |nil f=>intro k hk;omega
 | @cons f g n t c ks xs hc h1 h2 i1 i2=>
  intro k hk
  cases k with
  |zero=>exact ⟨f,g,_,rfl, .nil f, .cons hc h1 (.nil g),by simpa using h2⟩
  |succ k=>
   obtain ⟨p,p',x,e1,e2,e3,e4⟩:=i2 k (by omega)
   refine ⟨p,p',x,by simpa using e1, ?_,e3, ?_⟩
   ·rw [List.take_succ_cons];exact .cons hc h1 e2
   ·rw [List.drop_succ_cons,show n+1-(k+1+1)=n-(k+1) by omega];exact e4
theorem Ev.up {l l':List Cl} {env:List Bd} {n f t:Nat} {xs:List (Option (List Cl))} (h:Ev l env n f t xs): ∀(a:Nat),(∀i,f≤i→i<t→l'[i+a]? =l[i]?)→Ev l' env n (f+a) (t+a) xs:=by
 induction h with
 |nil f=>intro a _;exact .nil _
 | @cons f g n t c ks xs hc h1 h2 i1 i2=>
  intro a ha
  obtain ⟨d1,e1⟩:=h1.exs;obtain ⟨d2,e2⟩:=h2.exs
  have l1:=e1.le;have l2:=e2.le
  have:=i1 a (fun i p q=>ha i (by omega) (by omega))
  rw [show f+1+a=f+a+1 by omega] at this
  exact .cons (by rw [ha f (Nat.le_refl _) (by omega)];exact hc) this (i2 a (fun i p q=>ha i (by omega) (by omega)))
theorem Ev.more {l:List Cl} {env:List Bd} {b:Bd} {n f t:Nat} {xs:List (Option (List Cl))} (h:Ev l env n f t xs) (hb: ∀c∈l,c.1=4→c.2.1≠b.1):Ev l (env++[b]) n f t xs:=by
 induction h with
 |nil f=>exact .nil f
 | @cons f g n t c ks xs hc h1 h2 i1 i2=>
  have:combV env c ks=combV (env++[b]) c ks:=by
   unfold combV
   by_cases h4:c.1=4
   ·rw [if_pos h4,if_pos h4,envO_app env b c.2.1 (hb c (List.mem_of_getElem? hc) h4)]
   ·rw [if_neg h4,if_neg h4]
  rw [this]
  exact .cons hc i1 i2
open Classical in
noncomputable def evalV (l:List Cl) (env:List Bd):Option (List Cl):=if h:(okE l=true∧bindOK env=true)∧ ∃v,Ev l env 1 0 l.length [v] then h.2.choose else none
theorem okE_ev {l:List Cl} (env:List Bd) (hok:okE l=true): ∃v,Ev l env 1 0 l.length [v]:=by
 obtain ⟨-,-,d,-,hx⟩:=(okE_iff l).mp hok
 obtain ⟨vs,h⟩:=Ev.of_exs env hx
 have:=h.len
 match vs,this with
 |[v],_=>exact ⟨v,h⟩
theorem evalV_of {l:List Cl} {env:List Bd} {v:Option (List Cl)} (hok:okE l=true) (hb:bindOK env=true) (h:Ev l env 1 0 l.length [v]):evalV l env=v:=by
 have hx: ∃v,Ev l env 1 0 l.length [v]:=⟨v,h⟩
 have:(okE l=true∧bindOK env=true)∧ ∃v,Ev l env 1 0 l.length [v]:=⟨⟨hok,hb⟩,hx⟩
 unfold evalV
 rw [dif_pos this]
 have:=(this.2.choose_spec.uniq h).2
 injection this
theorem evalV_no {l:List Cl} {env:List Bd} (h: ¬(okE l=true∧bindOK env=true)):evalV l env=none:=by
 unfold evalV
 rw [dif_neg (fun k=>h k.1)]
theorem numB_ok {t b:Int} (hv:vB t b=true):okV (numV t b)=true:=by
 obtain ⟨k1,k2,k3⟩:=read_back ⟨(textF t b).toArray⟩ t b hv (by simp [textF,hv])
 refine one_ok ?_ rfl
 simp only [okVC,vC,plC,if_pos,Bool.and_eq_true]
 refine ⟨k1, ?_⟩
 show cellB 1 ⟨#[48]⟩ 0=true
 simp [cellB,manyB,wordB_zero]
theorem num_valid {v:List Cl} (hok:okV v=true) (h1:kdV v=1):vB (aT v) (aB v)=true∧1≤aB v:=by
 obtain ⟨k1,k2⟩:=num_read hok h1
 exact ⟨rd_valid _ k1,k2⟩
theorem vB_one {n:Int} (h0: -1000000000≤n) (h1:n≤1000000000):vB n 1=true:=by
 simp only [vB,Bool.and_eq_true,decide_eq_true_eq,beq_iff_eq]
 exact ⟨⟨⟨⟨h0,h1⟩,by omega⟩,by omega⟩,by simp⟩
theorem numO_ok {ok:Bool} {t b:Int} {v:List Cl} (h:numO ok t b=some v) (hv:ok=true→vB t b=true):okV v=true:=by
 unfold numO at h
 split at h
 ·rename_i k;injection h with h;rw [←h];exact numB_ok (hv k)
 ·cases h
theorem texO_ok {s:ByteArray} {v:List Cl} (h:texO s=some v):okV v=true:=by
 unfold texO at h;split at h
 ·rename_i h1;injection h with h;rw [←h];exact h1
 ·cases h
theorem lisO_ok {ls:List (List Cl)} {v:List Cl} (h:lisO ls=some v):okV v=true:=by
 unfold lisO at h;split at h
 ·rename_i h1;injection h with h;rw [←h];exact h1
 ·cases h
theorem binV_ok {word:ByteArray} {a b v:List Cl} (ha:okV a=true) (hb:okV b=true) (h:binV word a b=some v):okV v=true:=by
 unfold binV at h
 generalize signW word.data.toList=k at h
 unfold binK at h
 by_cases c1:k=1
 ·rw [if_pos c1] at h;injection h with h;rw [←h];exact tru_ok _
 rw [if_neg c1] at h
 by_cases c2:k=2
 ·rw [if_pos c2] at h;injection h with h;rw [←h];exact tru_ok _
 rw [if_neg c2] at h
 by_cases c3:k=3∧kdV a=2∧kdV b=2
 ·rw [if_pos c3] at h;exact texO_ok h
 rw [if_neg c3] at h
 by_cases c4:k=3∧kdV a=5∧kdV b=5
 ·rw [if_pos c4] at h;exact lisO_ok h
 rw [if_neg c4] at h
 by_cases c5:kdV a≠1∨kdV b≠1
 ·rw [if_pos c5] at h;cases h
 rw [if_neg c5] at h
 have hka:kdV a=1:=by omega
 have hkb:kdV b=1:=by omega
 obtain ⟨va,ba⟩:=num_valid ha hka
 obtain ⟨vb,bb⟩:=num_valid hb hkb
 have hpos:1≤aB a*aB b:=by
  have:=Int.mul_le_mul ba bb (by omega) (by omega)
  omega
 by_cases c6:k=3
 ·rw [if_pos c6] at h;exact numO_ok h fun k=>(mk_value hpos k).1
 rw [if_neg c6] at h
 by_cases c7:k=4
 ·rw [if_pos c7] at h;exact numO_ok h fun k=>(mk_value hpos k).1
 rw [if_neg c7] at h
 by_cases c8:k=5
 ·rw [if_pos c8] at h;exact numO_ok h fun k=>(mk_value hpos k).1
 rw [if_neg c8] at h
 by_cases c9:k=6
 ·rw [if_pos c9] at h
  refine numO_ok h fun k=> ?_
  rw [Bool.and_eq_true,decide_eq_true_eq] at k
  exact (mk_value (div_pos ba k.1) k.2).1
 rw [if_neg c9] at h
 by_cases c10:k=7
 ·rw [if_pos c10] at h
  by_cases hc:aB a=1∧aB b=1∧0<aT b
  ·rw [if_pos hc] at h
   injection h with h;rw [←h]
   obtain ⟨v1,v2,v3,v4⟩:=vB_bd vb
   have e1:=Int.emod_nonneg (aT a) (show aT b≠0 by omega)
   have e2:=Int.emod_lt_of_pos (aT a) hc.2.2
   exact num_ok e1 (by omega)
  ·rw [if_neg hc] at h;cases h
 ·rw [if_neg c10] at h;injection h with h;rw [←h];exact tru_ok _
theorem okC_leaf {c:Cl} (h:okC c=true) (h1:c.1≠4) (h2:c.1≠9) (h3:c.1≠7) (h4:c.1≠8) (h5:c.1≠5) (h6:c.1≠6):(c.1=1∨c.1=2∨c.1=3)∧c.2.2=0∧okVC c=true:=by
 have hc:=h
 rw [okC,cellB,Bool.and_eq_true] at hc
 obtain ⟨hw,hm⟩:=hc
 have hk:c.1=1∨c.1=2∨c.1=3:=by
  unfold manyB at hm
  repeat' split at hm
  all_goals first|omega|(cases hm)
 refine ⟨hk, ?_, ?_⟩
 ·unfold manyB at hm
  rw [if_pos (by omega)] at hm
  simpa using hm
 ·rw [okVC,Bool.and_eq_true]
  by_cases h1:c.1=1
  ·have hw1:=hw
   rw [wordB,if_pos h1,numB,Bool.and_eq_true] at hw1
   refine ⟨by rw [vC,if_pos h1];exact hw1.1, ?_⟩
   rw [plC,if_pos h1,okC,cellB,Bool.and_eq_true]
   exact ⟨wordB_zero,by rw [h1] at hm;exact hm⟩
  ·refine ⟨?_,by rw [plC,if_neg h1];exact h⟩
   rw [vC,if_neg h1]
   rcases hk with k|k|k
   ·exact absurd k h1
   ·simp [k]
   ·simp [k]
theorem combV_ok {env:List Bd} {c:Cl} {ks:List (Option (List Cl))} {v:List Cl} (hc:okC c=true) (he: ∀b∈env,nmL b.1=true∧okV b.2=true) (hk: ∀k∈ks,∀v,k=some v→okV v=true) (h:combV env c ks=some v):okV v=true:=by
 unfold combV at h
 split at h
 ·exact envO_ok he h
 rename_i n4
 split at h
 ·split at h
  ·split at h
   ·split at h
    ·exact hk _ (by simp) _ h
    ·exact hk _ (by simp) _ h
   ·cases h
  ·cases h
 rename_i n9
 split at h
 ·split at h
  ·split at h
   ·injection h with h;rw [←h];exact tru_ok _
   ·split at h
    ·rename_i v1 _ hn
     injection h with h;rw [←h]
     exact numB_ok (vB_neg (num_valid (hk _ (List.mem_singleton.mpr rfl) _ rfl) hn.2).1)
    ·cases h
  ·cases h
 rename_i n7
 split at h
 ·split at h
  ·rename_i a y
   have ha:=hk (some a) (by simp) a rfl
   have hy:=fun b (e:y=some b)=>hk y (by simp) b e
   split at h
   ·split at h
    ·split at h
     ·injection h with h;rw [←h];exact ha
     ·split at h
      ·split at h
       ·injection h with h;rw [←h];exact hy _ rfl
       ·cases h
      ·cases h
    ·cases h
   ·split at h
    ·exact binV_ok ha (hy _ rfl) h
    ·cases h
  ·cases h
 rename_i n8
 have hall: ∀xs,allO ks=some xs→ ∀x∈xs,okV x=true:=by
  intro xs hx x hm
  have:=allO_mem hx
  exact hk (some x) (by rw [this];exact List.mem_map_of_mem hm) x rfl
 split at h
 ·rw [Option.bind_eq_some_iff] at h
  obtain ⟨xs,h1,h2⟩:=h
  exact lisO_ok h2
 rename_i n5
 split at h
 ·rw [Option.bind_eq_some_iff] at h
  obtain ⟨xs,h1,h2⟩:=h
  exact call_ok (hall xs h1) h2
 rename_i n6
 injection h with h;rw [←h]
 obtain ⟨-,k2,k3⟩:=okC_leaf hc n4 n9 n7 n8 n5 n6
 exact one_ok k3 k2
theorem Ev.ok {l:List Cl} {env:List Bd} (hl:l.all okC=true) (he: ∀b∈env,nmL b.1=true∧okV b.2=true) {n f t:Nat} {vs:List (Option (List Cl))} (h:Ev l env n f t vs): ∀k∈vs,∀v,k=some v→okV v=true:=by
 induction h with
 |nil f=>intro k hk;cases hk
 | @cons f g n t c ks vs hc h1 h2 i1 i2=>
  intro k hk v hv
  rcases List.mem_cons.mp hk with rfl|hk
  ·exact combV_ok (List.all_eq_true.mp hl c (List.mem_of_getElem? hc)) he i1 hv
  ·exact i2 k hk v hv
theorem evalV_ok {l:List Cl} {env:List Bd} {v:List Cl} (h:evalV l env=some v):okV v=true∧okE l=true∧bindOK env=true:=by
 by_cases hx:okE l=true∧bindOK env=true
 ·obtain ⟨x,hv⟩:=okE_ev env hx.1
  rw [evalV_of hx.1 hx.2 hv] at h
  exact ⟨hv.ok ((okE_iff l).mp hx.1).2.1 ((bindOK_iff env).mp hx.2).2.1 x (List.mem_singleton.mpr rfl) v h,hx⟩
 ·rw [evalV_no hx] at h;cases h
theorem ev_self {l:List Cl} (env:List Bd) {n f t d:Nat} (h:Exs (amL l) n f t d) (hl:l.all okC=true) (hk: ∀c∈l,c.1=1∨c.1=2∨c.1=3∨c.1=5) (hd:d≤12) (h60:l.length≤60):Ev l env n f t ((cutL l f n).map some):=by
 generalize ha:amL l=am at h
 induction h with
 |nil f=>exact .nil f
 | @cons f m g d n t e hm h1 h2 i1 i2=>
  subst ha
  have hone:=Exs.one hm h1
  have hend:=hone.endP
  have hle1:=hone.le
  obtain ⟨c,hc,rfl⟩:=amL_get hm
  have hcm:=List.mem_of_getElem? hc
  have hcok:=List.all_eq_true.mp hl c hcm
  have i1:=i1 (by omega);have i2:=i2 (by omega)
  have hfl:f<l.length:=by have:=hle1.2 (by omega);rw [amL_length] at this;omega
  have hcf:l[f]=c:=by rw [List.getElem?_eq_getElem hfl] at hc;injection hc
  rw [cutL,hend,List.map_cons]
  have hval:combV env c ((cutL l (f+1) c.2.2.toNat).map some)=some ((l.drop f).take (g-f)):=by
   rcases hk c hcm with k|k|k|k
   iterate 3
    obtain ⟨-,k2,k3⟩:=okC_leaf hcok (by omega) (by omega) (by omega) (by omega) (by omega) (by omega)
    rw [k2] at h1
    have hg:g=f+1:=by cases h1;rfl
    subst hg
    unfold combV
    rw [if_neg (by omega),if_neg (by omega),if_neg (by omega),if_neg (by omega),if_neg (by omega),if_neg (by omega),show f+1-f=1 by omega]
    congr 1
    rw [List.drop_eq_getElem_cons hfl,List.take_succ_cons,List.take_zero,hcf]
   ·unfold combV
    rw [if_neg (by omega),if_neg (by omega),if_neg (by omega),if_neg (by omega),if_pos k,allO_some]
    show lisO _=_
    obtain ⟨c1,c2,c3,c4⟩:=h1.cut
    have hcc:=hcok
    rw [okC,cellB,Bool.and_eq_true] at hcc
    have hw:c.2.1=⟨#[]⟩:=by
     have hw:=hcc.1
     rw [wordB,if_neg (by omega),if_neg (by omega),if_neg (by omega),if_neg (by omega),if_pos k] at hw
     exact ByteArray.ext (by simpa using hw)
    have hm8:=(okC_many hcok)
    have hshape:listV (cutL l (f+1) c.2.2.toNat)=(l.drop f).take (g-f):=by
     have hgf:g-f=(g-(f+1))+1:=by omega
     rw [listV,c1,c2,hgf,List.drop_eq_getElem_cons hfl,List.take_succ_cons,hcf]
     congr 1
     rw [show ((c.2.2.toNat:Nat):Int)=c.2.2 by omega,←hw,←k]
    have hparts: ∀p∈cutL l (f+1) c.2.2.toNat,okE p=true∧okV p=true:=by
     intro p hp
     obtain ⟨⟨e',he',hx'⟩,hmem⟩:=c3 p hp
     have hE:okE p=true:=by
      rw [okE_iff]
      refine ⟨?_, ?_,e',by omega,hx'⟩
      ·have:p.length≤(cutL l (f+1) c.2.2.toNat).flatten.length:=(List.sublist_flatten_of_mem hp).length_le
       rw [c1,List.length_take] at this
       have h3:(l.drop (f+1)).length≤l.length:=by rw [List.length_drop];omega
       omega
      ·rw [List.all_eq_true];exact fun c hc=>List.all_eq_true.mp hl c (hmem c hc)
     exact ⟨hE,okV_of_okE hE (fun c hc=>hk c (hmem c hc))⟩
    unfold lisO
    have hok:okV (listV (cutL l (f+1) c.2.2.toNat))=true:=by
     rw [hshape]
     have hE:okE ((l.drop f).take (g-f))=true:=by
      rw [okE_iff]
      have hlen:((l.drop f).take (g-f)).length=g-f:=by
       have:=hle1.2 (by omega);rw [amL_length] at this
       rw [List.length_take,List.length_drop];omega
      refine ⟨by rw [List.length_take,List.length_drop];omega, ?_,d+1,by omega, ?_⟩
      ·rw [List.all_eq_true];exact fun c hc=>List.all_eq_true.mp hl c (List.mem_of_mem_drop (List.mem_of_mem_take hc))
      ·have hs:=hone.shift (bm:=amL ((l.drop f).take (g-f))) f (Nat.le_refl _) (fun i h1 h2=>vcut_at l f g i h1 h2)
       rw [Nat.sub_self] at hs
       rw [hlen];exact hs
     exact okV_of_okE hE (fun c hc=>hk c (List.mem_of_mem_drop (List.mem_of_mem_take hc)))
    rw [if_pos hok,hshape]
  rw [←hval]
  exact .cons hc i1 i2
theorem eval_self {l:List Cl} {env:List Bd} (hE:okE l=true) (hV:okV l=true) (hb:bindOK env=true):evalV l env=some l:=by
 obtain ⟨h60,hal,d,hd,hx⟩:=(okE_iff l).mp hE
 have hk: ∀c∈l,c.1=1∨c.1=2∨c.1=3∨c.1=5:=fun c hc=>okVC_kind (List.all_eq_true.mp ((okV_iff l).mp hV).2.1 c hc)
 have h:=ev_self env hx hal hk hd h60
 have hend:=hx.endP
 rw [cutL,hend,cutL,List.drop_zero,Nat.sub_zero,List.take_length] at h
 exact evalV_of hE hb h
theorem eval_more {l:List Cl} {env:List Bd} {b:Bd} (hE:okE l=true) (h1:bindOK env=true) (h2:bindOK (env++[b])=true) (hb: ∀c∈l,c.1=4→c.2.1≠b.1):evalV l (env++[b])=evalV l env:=by
 obtain ⟨v,hv⟩:=okE_ev env hE
 rw [evalV_of hE h1 hv,evalV_of hE h2 (hv.more hb)]
def choiceC (l:List Cl):List Cl:=(9,⟨#[]⟩,3)::(3,⟨#[102,97,108,115,101]⟩,0)::(l++l)
def sameC (l:List Cl):List Cl:=(8,⟨#[61,61]⟩,2)::(l++l)
theorem upE_in {l:List Cl} {env:List Bd} {vs:List (Option (List Cl))} (h:Ev l env 1 0 l.length vs) (pre post:List Cl):Ev (pre++(l++post)) env 1 pre.length (pre.length+l.length) vs:=by
 have:=h.up (l':=pre++(l++post)) pre.length (fun i _ hi=>by
  rw [List.getElem?_append_right (by omega),List.getElem?_append_left (by omega),Nat.add_sub_cancel])
 rwa [Nat.zero_add,Nat.add_comm l.length] at this
theorem eval_choice {l:List Cl} {env:List Bd} (hE:okE l=true) (hb:bindOK env=true) (hc:okE (choiceC l)=true):evalV (choiceC l) env=evalV l env:=by
 obtain ⟨v,hv⟩:=okE_ev env hE
 rw [evalV_of hE hb hv]
 have a1:=upE_in hv [(9,⟨#[]⟩,3),(3,⟨#[102,97,108,115,101]⟩,0)] l
 have a2:=upE_in hv ([(9,⟨#[]⟩,3),(3,⟨#[102,97,108,115,101]⟩,0)]++l) []
 have e1:[((9:Int),(⟨#[]⟩:ByteArray),(3:Int)),(3,⟨#[102,97,108,115,101]⟩,0)]++(l++l)=choiceC l:=rfl
 have e2:([((9:Int),(⟨#[]⟩:ByteArray),(3:Int)),(3,⟨#[102,97,108,115,101]⟩,0)]++l)++(l++[])=choiceC l:=by simp [choiceC]
 rw [e1] at a1;rw [e2] at a2
 have a0:Ev (choiceC l) env 1 1 2 [some [(3,⟨#[102,97,108,115,101]⟩,0)]]:=by
  have:=Ev.cons (l:=choiceC l) (env:=env) (f:=1) (g:=2) (n:=0) (t:=2) (c:=(3,⟨#[102,97,108,115,101]⟩,0)) (ks:=[]) (vs:=[]) rfl (.nil 2) (.nil 2)
  exact this
 have hl2:([((9:Int),(⟨#[]⟩:ByteArray),(3:Int)),(3,⟨#[102,97,108,115,101]⟩,0)]++l).length=2+l.length:=by simp;omega
 rw [hl2] at a2
 have a3:=a0.app (a1.app a2)
 have hlen:(choiceC l).length=2+l.length+l.length:=by simp [choiceC];omega
 refine evalV_of hc hb ?_
 rw [hlen]
 have:=Ev.cons (l:=choiceC l) (env:=env) (f:=0) (g:=2+l.length+l.length) (n:=0) (t:=2+l.length+l.length) (c:=(9,⟨#[]⟩,3)) rfl a3 (.nil _)
 exact this
theorem eval_same {l:List Cl} {env:List Bd} (hE:okE l=true) (hb:bindOK env=true) (hc:okE (sameC l)=true):evalV (sameC l) env=(evalV l env).map fun _=>truV true:=by
 obtain ⟨v,hv⟩:=okE_ev env hE
 rw [evalV_of hE hb hv]
 have a1:=upE_in hv [(8,⟨#[61,61]⟩,2)] l
 have a2:=upE_in hv ([(8,⟨#[61,61]⟩,2)]++l) []
 have e1:[((8:Int),(⟨#[61,61]⟩:ByteArray),(2:Int))]++(l++l)=sameC l:=rfl
 have e2:([((8:Int),(⟨#[61,61]⟩:ByteArray),(2:Int))]++l)++(l++[])=sameC l:=by simp [sameC]
 rw [e1] at a1;rw [e2] at a2
 have hl2:([((8:Int),(⟨#[61,61]⟩:ByteArray),(2:Int))]++l).length=1+l.length:=by simp;omega
 rw [hl2] at a2
 have a3:=a1.app a2
 have hlen:(sameC l).length=1+l.length+l.length:=by simp [sameC];omega
 refine evalV_of hc hb ?_
 rw [hlen]
 have:=Ev.cons (l:=sameC l) (env:=env) (f:=0) (g:=1+l.length+l.length) (n:=0) (t:=1+l.length+l.length) (c:=(8,⟨#[61,61]⟩,2)) rfl a3 (.nil _)
 have hcomb:combV env (8,⟨#[61,61]⟩,2) ([v]++[v])=v.map fun _=>truV true:=by
  cases v with
  |none=>simp [combV]
  |some x=>simp [combV,signW,binV,binK]
 rw [←hcomb]
 exact this
theorem eval_bound {env:List Bd} {b:Bd} (hb:bindOK env=true) (h2:bindOK (env++[b])=true) (hn:okE [(4,b.1,0)]=true):evalV [(4,b.1,0)] (env++[b])=some b.2:=by
 have hd:=((diffB_app env b).mp ((bindOK_iff _).mp h2).2.2).2
 refine evalV_of hn h2 ?_
 have:=Ev.cons (l:=[(4,b.1,0)]) (env:=env++[b]) (f:=0) (g:=1) (n:=0) (t:=1) (c:=(4,b.1,0)) (ks:=[]) (vs:=[]) rfl (.nil 1) (.nil 1)
 have hcomb:combV (env++[b]) (4,b.1,0) []=some b.2:=by
  unfold combV
  rw [if_pos rfl]
  exact envO_new env b hd
 rw [←hcomb]
 exact this
open Go.RowKit
def RowB (w:World) (v:Value) (env:List Bd):Prop:=
 ∃ao cap,v= .slice ao env.length cap∧env.length≤cap∧cap≤maxLen∧(env=[]∨ ∃b o,ao=some ⟨b,o,none⟩∧b<w.heap.size∧ ∀(k:Nat) (h:k<env.length),∃u,w.cell? ⟨b,o+k*2,none⟩=some (.string env[k].1)∧w.cell? ⟨b,o+k*2+1,none⟩=some u∧RowC w u env[k].2)
theorem RowB.mono {w w':World} {v:Value} {env:List Bd} (h:RowB w v env) (hb:Below w.heap.size w w'):RowB w' v env:=by
 obtain ⟨ao,cap,hv,h1,h2,h3⟩:=h
 refine ⟨ao,cap,hv,h1,h2, ?_⟩
 rcases h3 with h3|⟨b,o,ha,hlt,hj⟩
 ·exact .inl h3
 ·refine .inr ⟨b,o,ha,Nat.lt_of_lt_of_le hlt hb.size,fun k hk=> ?_⟩
  obtain ⟨u,c0,c1,hr⟩:=hj k hk
  exact ⟨u,(hb.cell (p:=⟨b,_,none⟩) hlt).trans c0,(hb.cell (p:=⟨b,_,none⟩) hlt).trans c1,hr.mono hb⟩
theorem RowB.drewN {w:World} {v:Value} {env:List Bd} (h:RowB w v env) (n:Nat):RowB (w.drewN n) v env:=h.mono ⟨rfl,rfl,rfl,Nat.le_refl _,fun _ _=>rfl⟩
def ShortB (env:List Bd):Prop:= ∀b∈env,b.1.size≤1048576∧ShortC b.2∧b.2.length≤1048576
theorem diffB_take {env:List Bd} (h:diffB env) (k:Nat):diffB (env.take k):=by
 induction env generalizing k with
 |nil=>simpa using h
 |cons b bs ih=>
  cases k with
  |zero=>trivial
  |succ k=>exact ⟨fun x hx=>h.1 x (List.mem_of_mem_take hx),ih h.2 k⟩
theorem diffB_not {env:List Bd} {j k:Nat} (hk:k<env.length) (hj:j<k) (he:(env[j]'(by omega)).1=env[k].1): ¬diffB env:=by
 intro h
 have h1:=diffB_take h (k+1)
 rw [List.take_succ_eq_append_getElem hk,diffB_app] at h1
 refine h1.2 (env[j]'(by omega)) ?_ he
 rw [List.mem_take_iff_getElem]
 exact ⟨j,by omega,rfl⟩
theorem bindOK_bad {env:List Bd} {b:Bd} (hb:b∈env) (h:nmL b.1=false∨okV b.2=false):bindOK env=false:=by
 rw [Bool.eq_false_iff];intro hh
 rw [bindOK_iff] at hh
 obtain ⟨h1,h2⟩:=hh.2.1 b hb
 rcases h with h|h
 ·rw [h] at h1;cases h1
 ·rw [h] at h2;cases h2
theorem bindOK_same {env:List Bd} {j k:Nat} (hk:k<env.length) (hj:j<k) (he:(env[j]'(by omega)).1=env[k].1):bindOK env=false:=by
 rw [Bool.eq_false_iff];intro hh
 rw [bindOK_iff] at hh
 exact diffB_not hk hj he hh.2.2
theorem bindOK_size {env:List Bd} (h1: ∀b∈env,nmL b.1=true∧okV b.2=true) (h2:diffB env):bindOK env=decide (env.length≤30):=by
 by_cases h:env.length≤30
 ·rw [decide_eq_true h,bindOK_iff];exact ⟨h,h1,h2⟩
 ·rw [decide_eq_false h,Bool.eq_false_iff];intro hh;exact h ((bindOK_iff _).mp hh).1
end Go.Proofs.YthillfgjpalpcaaGreatDoor
