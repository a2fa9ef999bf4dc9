/-
  Several texts of the proof in one file: LexP, PzPlain, PzGood, PzMore.
-/
import Derived.Test.YtegdjjjpoahamaaGreatDoorBaseT
import Derived.Test.YtegdjjjpoahamaaGreatDoorTokQuote
import Derived.Test.YtegdjjjpoahamaaGreatDoorBaseE
import Derived.Test.YtegdjjjpoahamaaGreatDoorBaseR
set_option linter.unusedVariables false
namespace Go.Proofs.YtegdjjjpoahamaaGreatDoor
def stopH:List UInt8→Bool
 |[]=>true
 |c::_=> !(parI (c.toNat:Int))&& !((c.toNat:Int)==46)&& !((c.toNat:Int)==61)
theorem stopH_app {t:List UInt8} (h:t≠[]) (rest:List UInt8):stopH (t++rest)=stopH t:=by
 cases t with
 |nil=>exact absurd rfl h
 |cons c r=>rfl
def Lex (tx:List UInt8) (tk:List (Int×List UInt8)):Prop:=
 ∃L:List (Int×Nat×Nat),(L.map fun x=>(x.1,(tx.drop x.2.1).take (x.2.2-x.2.1)))=tk∧(∀x∈L,x.2.1≤x.2.2∧x.2.2≤tx.length)∧
  ∀rest,stopH rest=true→ ∀a acc,endM (0,0,acc) a (tx++rest)=endM (0,0,acc++L.map (shT a)) (a+tx.length) rest
theorem Lex.nil:Lex [] []:=⟨[],rfl,(fun x hx=>by cases hx),fun rest _ a acc=>by simp⟩
theorem shT_shT (a d:Nat) (L:List (Int×Nat×Nat)):(L.map (shT d)).map (shT a)=L.map (shT (a+d)):=by
 rw [List.map_map];congr 1;funext x;simp only [Function.comp,shT];congr 2<;>omega
theorem Lex.glue {t1 t2:List UInt8} {k1 k2:List (Int×List UInt8)} {L1 L2:List (Int×Nat×Nat)}
  (e1:(L1.map fun x=>(x.1,(t1.drop x.2.1).take (x.2.2-x.2.1)))=k1) (b1: ∀x∈L1,x.2.1≤x.2.2∧x.2.2≤t1.length) (e2:(L2.map fun x=>(x.1,(t2.drop x.2.1).take (x.2.2-x.2.1)))=k2) (b2: ∀x∈L2,x.2.1≤x.2.2∧x.2.2≤t2.length)
  (hr: ∀rest,stopH rest=true→ ∀a acc,endM (0,0,acc) a (t1++(t2++rest))=endM (0,0,(acc++L1.map (shT a))++L2.map (shT (a+t1.length))) (a+t1.length+t2.length) rest):Lex (t1++t2) (k1++k2):=by
 refine ⟨L1++L2.map (shT t1.length), ?_, ?_,fun rest hs a acc=> ?_⟩
 ·rw [List.map_append,←e1,←e2,List.map_map]
  congr 1
  ·apply List.map_congr_left
   intro x hx
   have hb:=b1 x hx
   rw [List.drop_append_of_le_length (by omega),List.take_append_of_le_length (by rw [List.length_drop];omega)]
  ·apply List.map_congr_left
   intro x hx
   simp only [Function.comp,shT]
   rw [show x.2.1+t1.length=t1.length+x.2.1 by omega,←List.drop_drop,List.drop_left,show x.2.2+t1.length-(t1.length+x.2.1)=x.2.2-x.2.1 by omega]
 ·intro x hx
  rcases List.mem_append.mp hx with hx|hx
  ·have:=b1 x hx;rw [List.length_append];omega
  ·obtain ⟨y,hy,rfl⟩:=List.mem_map.mp hx
   have:=b2 y hy
   simp only [shT,List.length_append];omega
 ·rw [List.append_assoc,hr rest hs a acc,List.map_append,shT_shT,List.length_append,List.append_assoc,Nat.add_assoc]
theorem Lex.app {t1 t2:List UInt8} {k1 k2:List (Int×List UInt8)} (h1:Lex t1 k1) (h2:Lex t2 k2) (hne:t2≠[]) (hs:stopH t2=true):Lex (t1++t2) (k1++k2):=by
 obtain ⟨L1,e1,b1,r1⟩:=h1
 obtain ⟨L2,e2,b2,r2⟩:=h2
 refine Lex.glue e1 b1 e2 b2 (fun rest hr a acc=> ?_)
 rw [r1 (t2++rest) (by rw [stopH_app hne];exact hs) a acc,r2 rest hr]
theorem Lex.front {w t:List UInt8} {k:Int} {k2:List (Int×List UInt8)} (h2:Lex t k2) (ht: ∀rest,stopH rest=true→TokAt (w++(t++rest)) w.length k):Lex (w++t) ((k,w)::k2):=by
 obtain ⟨L2,e2,b2,r2⟩:=h2
 refine Lex.glue (L1:=[(k,0,w.length)]) (k1:=[(k,w)]) (by simp) (fun x hx=>by simp only [List.mem_singleton] at hx;subst hx;exact ⟨Nat.zero_le _,Nat.le_refl _⟩) e2 b2 (fun rest hr a acc=> ?_)
 have:=((ht rest hr).read 0 a acc).2
 rw [this,List.drop_left,r2 rest hr]
 simp [shT,Nat.add_comm]
theorem Lex.one {w:List UInt8} {k:Int} (ht: ∀rest,stopH rest=true→TokAt (w++rest) w.length k):Lex w [(k,w)]:=by
 have:=Lex.front (w:=w) (k:=k) Lex.nil (fun rest hr=>by rw [List.nil_append];exact ht rest hr)
 rwa [List.append_nil] at this
theorem Lex.space {t:List UInt8} {k:List (Int×List UInt8)} (h:Lex t k):Lex (32::t) k:=by
 obtain ⟨L2,e2,b2,r2⟩:=h
 have:=Lex.glue (t1:=[32]) (t2:=t) (L1:=[]) (k1:=[]) rfl (fun x hx=>by cases hx) e2 b2 (fun rest hr a acc=>by
  rw [show ([32]:List UInt8)++(t++rest)=32::(t++rest) from rfl,end_space _ _ _ _ _ (by decide),end_from a 0,r2 rest hr]
  simp)
 exact this
theorem take_front (w rest:List UInt8):(w++rest).take w.length=w:=by simp
theorem tokAt_word {b:UInt8} {t:List UInt8} {k:Int} (rest:List UInt8) (hs:stays (firstI (b.toNat:Int)) t=true) (hk:kI (fin (firstI (b.toNat:Int)) t)=k) (h0:k≠0) (hr: ∀c r',rest=c::r'→nB (fin (firstI (b.toNat:Int)) t) (c.toNat:Int)=false):TokAt (b::t++rest) (b::t).length k:=by
 refine ⟨b,t,take_front _ _,hs,hk,h0,by simp,fun c r' h=>hr c r' ?_⟩
 rwa [List.drop_left] at h
theorem stays1 {t:List UInt8} (h: ∀c∈t,nmI (c.toNat:Int)=true):stays 1 t=true∧fin 1 t=1:=by
 induction t with
 |nil=>exact ⟨rfl,rfl⟩
 |cons c r ih=>
  have i:=ih (fun x hx=>h x (by simp [hx]))
  have hc:=h c (by simp)
  have e:nB 1 (c.toNat:Int)=nmI (c.toNat:Int):=rfl
  exact ⟨by rw [stays,e,hc];exact i.1,by rw [fin];exact i.2⟩
theorem stays2 {t:List UInt8} (h: ∀c∈t,nrI (c.toNat:Int)=true):stays 2 t=true∧fin 2 t=2:=by
 induction t with
 |nil=>exact ⟨rfl,rfl⟩
 |cons c r ih=>
  have i:=ih (fun x hx=>h x (by simp [hx]))
  have hc:=h c (by simp)
  have e:nB 2 (c.toNat:Int)=nrI (c.toNat:Int):=rfl
  exact ⟨by rw [stays,e,hc];exact i.1,by rw [fin];exact i.2⟩
theorem stop_not {c:UInt8} {r:List UInt8} (h:stopH (c::r)=true):parI (c.toNat:Int)=false∧((c.toNat:Int)==46)=false∧((c.toNat:Int)==61)=false:=by
 simp only [stopH,Bool.and_eq_true,Bool.not_eq_true'] at h
 exact ⟨h.1.1,h.1.2,h.2⟩
theorem lex_name {b:UInt8} {t:List UInt8} (hb:ltrI (b.toNat:Int)=true) (ht: ∀c∈t,nmI (c.toNat:Int)=true):Lex (b::t) [(1,b::t)]:=by
 refine Lex.one (fun rest hr=> ?_)
 obtain ⟨s1,s2⟩:=stays1 ht
 refine tokAt_word rest (by rw [ltrI_one hb];exact s1) (by rw [ltrI_one hb,s2];rfl) (by decide) (fun c r' e=> ?_)
 subst e
 obtain ⟨h1,h2,-⟩:=stop_not hr
 rw [ltrI_one hb,s2]
 show (parI (c.toNat:Int)||(c.toNat:Int)==46)=false
 rw [h1,h2];rfl
theorem dig_par {n:Int} (h:parI n=false):digI n=false:=by
 simp only [parI,Bool.or_eq_false_iff] at h;exact h.1.2
theorem lex_num {b:UInt8} {t:List UInt8} (hb:ltrI (b.toNat:Int)=false) (hd:digI (b.toNat:Int)=true) (ht: ∀c∈t,nrI (c.toNat:Int)=true):Lex (b::t) [(2,b::t)]:=by
 refine Lex.one (fun rest hr=> ?_)
 obtain ⟨s1,s2⟩:=stays2 ht
 refine tokAt_word rest (by rw [digI_not hb hd];exact s1) (by rw [digI_not hb hd,s2];rfl) (by decide) (fun c r' e=> ?_)
 subst e
 obtain ⟨h1,h2,-⟩:=stop_not hr
 rw [digI_not hb hd,s2]
 show (digI (c.toNat:Int)||(c.toNat:Int)==46)=false
 rw [dig_par h1,h2];rfl
theorem lex_quote (l:List UInt8):Lex (quoteL l) [(3,quoteL l)]:=by
 refine Lex.one (fun rest hr=> ?_)
 have e:clo false (quoteI l++34::rest)=(quoteI l).length:=by rw [clo_quote];simp [clo]
 have h:=end_ok 34 (quoteI l++34::rest) (by decide) (by
  simp only [endK]
  rw [if_neg (by decide),if_neg (by decide),if_pos (by decide),e,if_pos (by simp)];decide)
 have hn:endN (34::(quoteI l++34::rest))=(quoteL l).length:=by
  simp only [endN]
  rw [if_neg (by decide),if_neg (by decide),if_pos (by decide),e,if_pos (by simp)]
  simp [quoteL]
 have hk:endK (34::(quoteI l++34::rest))=3:=by
  simp only [endK]
  rw [if_neg (by decide),if_neg (by decide),if_pos (by decide),e,if_pos (by simp)]
 rw [hn,hk] at h
 have ht:quoteL l++rest=34::(quoteI l++34::rest):=by simp [quoteL]
 rw [ht];exact h
theorem lex_hard {b:UInt8} (hb:firstI (b.toNat:Int)=10) {t:List UInt8} {k:List (Int×List UInt8)} (h:Lex t k):Lex (b::t) ((4,[b])::k):=
 Lex.front (w:=[b]) h (fun rest _=>tokAt_word (t++rest) rfl (by rw [hb];rfl) (by decide) (fun c r' _=>by rw [hb];simp [fin,nB]))
theorem lex_hard1 {b:UInt8} (hb:firstI (b.toNat:Int)=10):Lex [b] [(4,[b])]:=lex_hard hb Lex.nil
theorem lex_not {t:List UInt8} {k:List (Int×List UInt8)} (h:Lex t k) (hh: ∃c r,t=c::r∧((c.toNat:Int)==61)=false):Lex (33::t) ((4,[33])::k):=by
 obtain ⟨c,r,rfl,hc⟩:=hh
 refine Lex.front (w:=[33]) h (fun rest _=>tokAt_word (c::r++rest) rfl (by decide) (by decide) (fun c' r' e=> ?_))
 rw [List.cons_append] at e
 injection e with e1 e2
 subst e1
 show ((c.toNat:Int)==61)=false
 exact hc
theorem lex_bin {w:List UInt8} (h:0<rankL w):Lex w [(4,w)]:=by
 have soft: ∀b:UInt8,firstI (b.toNat:Int)=6→Lex [b] [(4,[b])]:=fun b hb=>Lex.one (fun rest hr=>tokAt_word rest rfl (by rw [hb];rfl) (by decide) (fun c r' e=>by
  subst e
  rw [hb]
  exact (stop_not hr).2.2))
 have pair: ∀b c:UInt8,stays (firstI (b.toNat:Int)) [c]=true→fin (firstI (b.toNat:Int)) [c]=10→Lex [b,c] [(4,[b,c])]:=fun b c h1 h2=>Lex.one (fun rest hr=>tokAt_word rest h1 (by rw [h2];rfl) (by decide) (fun c' r' e=>by rw [h2];simp [nB]))
 have key: ∀(q:List UInt8) (r x:Int),Lex q [(4,q)]→(0<x→Lex w [(4,w)])→0<(if w=q then r else x)→Lex w [(4,w)]:=by
  intro q r x hq hx hp
  by_cases e:w=q
  ·rw [e];exact hq
  ·rw [if_neg e] at hp;exact hx hp
 revert h
 unfold rankL
 refine key _ _ _ (pair _ _ (by decide) (by decide)) (key _ _ _ (pair _ _ (by decide) (by decide)) (key _ _ _ (pair _ _ (by decide) (by decide)) (key _ _ _ (pair _ _ (by decide) (by decide)) (key _ _ _ (soft _ (by decide)) (key _ _ _ (pair _ _ (by decide) (by decide)) (key _ _ _ (soft _ (by decide)) (key _ _ _ (pair _ _ (by decide) (by decide)) (key _ _ _ (lex_hard1 (by decide)) (key _ _ _ (lex_hard1 (by decide)) (key _ _ _ (lex_hard1 (by decide)) (key _ _ _ (lex_hard1 (by decide)) (key _ _ _ (lex_hard1 (by decide)) (fun h=>absurd h (by decide))))))))))))))
structure Pz where
 rk:Int
 tx:List UInt8
 tk:List (Int×List UInt8)
 cl:List Cl
 dp:Nat
def ptOf (x:Pz):Pt:=(x.rk,x.tx)
abbrev Kw:=Int×List UInt8
def parK (r:Int) (x:Pz):List Kw:=if x.rk<r then (4,[40])::(x.tk++[(4,[41])]) else x.tk
def tailK (xs:List Pz):List Kw:=xs.flatMap fun x=>(4,[44])::x.tk
def joinK:List Pz→List Kw
 |[]=>[]
 |x::xs=>x.tk++tailK xs
def pzAt (ks:List Pz) (i:Nat):Pz:=ks.getD i ⟨0,[],[],[],0⟩
def bareK (c:Cl) (ks:List Pz):List Kw:=
 if c.1=2 then [(3,quoteL c.2.1.data.toList)]
 else if c.1=5 then (4,[91])::(joinK ks++[(4,[93])])
 else if c.1=6 then (1,c.2.1.data.toList)::((4,[40])::(joinK ks++[(4,[41])]))
 else if c.1=7 then (4,c.2.1.data.toList)::parK 7 (pzAt ks 0)
 else if c.1=8 then parK (leftR (rankL c.2.1.data.toList)) (pzAt ks 0)++((4,c.2.1.data.toList)::parK (rankL c.2.1.data.toList+1) (pzAt ks 1))
 else if c.1=9 then parK 2 (pzAt ks 0)++((4,[63])::((pzAt ks 1).tk++((4,[58])::(pzAt ks 2).tk)))
 else if c.1=1 then [(2,c.2.1.data.toList)] else [(1,c.2.1.data.toList)]
def maxD:List Pz→Nat
 |[]=>0
 |x::xs=>max x.dp (maxD xs)
def mkPz (c:Cl) (ks:List Pz):Pz:=⟨rkC c,bareT c (ks.map ptOf),bareK c ks,c::ks.flatMap Pz.cl,maxD ks+1⟩
def AtK (tk:List Tk) (p:Nat) (ws:List Kw):Prop:= ∀(i:Nat) (h:i<ws.length),tk[p+i]? =some (ws[i].1,⟨ws[i].2.toArray⟩)
theorem AtK.left {tk:List Tk} {p:Nat} {a b:List Kw} (h:AtK tk p (a++b)):AtK tk p a:=fun i hi=>by
 have:=h i (by rw [List.length_append];omega)
 rwa [List.getElem_append_left hi] at this
theorem AtK.right {tk:List Tk} {p:Nat} {a b:List Kw} (h:AtK tk p (a++b)):AtK tk (p+a.length) b:=fun i hi=>by
 have:=h (a.length+i) (by rw [List.length_append];omega)
 rw [List.getElem_append_right (by omega)] at this
 rw [Nat.add_assoc]
 simpa using this
theorem AtK.tail {tk:List Tk} {p:Nat} {x:Kw} {b:List Kw} (h:AtK tk p (x::b)):AtK tk (p+1) b:=AtK.right (a:=[x]) h
theorem AtK.head {tk:List Tk} {p:Nat} {k:Int} {w:List UInt8} {b:List Kw} (h:AtK tk p ((k,w)::b)):tk[p]? =some (k,⟨w.toArray⟩):=h 0 (by simp)
theorem head_isT {tk:List Tk} {p:Nat} {w v:List UInt8} (h:tk[p]? =some (4,⟨w.toArray⟩)):isT tk p v=decide (w=v):=by
 unfold isT;rw [h]
 by_cases e:w=v
 ·subst e;simp
 ·simp [e]
theorem head_other {tk:List Tk} {p:Nat} {k:Int} {s:ByteArray} {v:List UInt8} (h:tk[p]? =some (k,s)) (hk:k≠4):isT tk p v=false∧rkT tk p=0:=by
 unfold isT rkT;rw [h]
 simp [hk]
theorem head_rk {tk:List Tk} {p:Nat} {w:List UInt8} (h:tk[p]? =some (4,⟨w.toArray⟩)):rkT tk p=rankL w:=by
 unfold rkT;rw [h];simp
def Reads (tk:List Tk) (p q:Nat) (cl:List Cl) (e:Int) (B:Nat):Prop:=
 ∃(a0:List Cl) (q0 n0 n:Nat),n≤B∧Rg tk .unary p a0 q0 0 n0∧(7≤e→a0=cl∧q0=q∧n0=n)∧ ∀r:Nat,2≤r→(r:Int)≤e→ ∀c q2 n2,Rg tk (.loop r cl n) q c q2 0 n2→Rg tk (.loop r a0 n0) q0 c q2 0 n2
def Foll (tk:List Tk) (q:Nat) (e:Int):Prop:=isT tk q [40]=false∧rkT tk q≤e∧(e=4→rkT tk q≠4)
def Spine (x:Pz):Prop:= ∀(tk:List Tk) (p:Nat),AtK tk p x.tk→Foll tk (p+x.tk.length) x.rk→Reads tk p (p+x.tk.length) x.cl x.rk (2*x.dp-1)
def Chc (x:Pz):Prop:= ∀(tk:List Tk) (p:Nat),AtK tk p x.tk→isT tk (p+x.tk.length) [40]=false→rkT tk (p+x.tk.length)=0→isT tk (p+x.tk.length) [63]=false→ ∃n,n≤2*x.dp-1∧Rg tk .choice p x.cl (p+x.tk.length) 0 n
def HeadK (x:Pz):Prop:= ∃k w r,x.tk=(k,w)::r∧(k=4→w=[33]∨w=[45]∨w=[40]∨w=[91])
structure Good (x:Pz):Prop where
 rk:1≤x.rk∧x.rk≤8
 dp:1≤x.dp
 lex:Lex x.tx x.tk
 head: ∃c r,x.tx=c::r∧((c.toNat:Int)==61)=false
 plain:plainL x.tx=true
 headK:HeadK x
 spine:2≤x.rk→Spine x
 chc:Chc x
theorem Reads.single {tk:List Tk} {p q n B:Nat} {cl:List Cl} {e:Int} (h:Rg tk .single p cl q 0 n) (hu:unaryT tk p=false) (hn:n≤B):Reads tk p q cl e B:=
 ⟨cl,q,n,n,hn, .plain hu h,fun _=>⟨rfl,rfl,rfl⟩,fun r _ _ c q2 n2 k=>k⟩
theorem Reads.bin {tk:List Tk} {p q B r:Nat} {cl:List Cl} {e:Int} (h:Reads tk p q cl e B) (h2:2≤r) (hr:(r:Int)≤e) (hs:rkT tk q<(r:Int)): ∃n,n≤B∧Rg tk (.bin r) p cl q 0 n:=by
 obtain ⟨a0,q0,n0,n,hn,hu,-,hl⟩:=h
 exact ⟨n,hn, .bin hu (hl r h2 hr _ _ _ (.stop hs))⟩
theorem chc_of_spine {x:Pz} (h2:2≤x.rk) (h:Spine x):Chc x:=by
 intro tk p hk h40 h0 h63
 obtain ⟨n,hn,hb⟩:=(h tk p hk ⟨h40,by omega,fun _=>by omega⟩).bin (r:=2) (by omega) (by omega) (by omega)
 exact ⟨n,hn, .one hb h63⟩
theorem lb_rank:rankL [40]=0∧rankL [41]=0∧rankL [44]=0∧rankL [93]=0∧rankL [63]=0∧rankL [58]=0:=by decide
theorem par_reads {x:Pz} (hg:Good x) (r:Int) (tk:List Tk) (p:Nat) (hr:2≤r) (hk:AtK tk p (parK r x)) (hf:Foll tk (p+(parK r x).length) (if x.rk<r then 8 else x.rk)):
  Reads tk p (p+(parK r x).length) x.cl (if x.rk<r then 8 else x.rk) (2*x.dp):=by
 have hdp:=hg.dp
 unfold parK at hk hf⊢
 by_cases h:x.rk<r
 ·rw [if_pos h] at hk hf⊢
  rw [if_pos h] at hf⊢
  have h0:=hk.head
  have h1:=hk.tail
  have h2:=h1.right.head
  obtain ⟨n,hn,hc⟩:=hg.chc tk (p+1) h1.left (by rw [head_isT h2];decide) (by rw [head_rk h2];exact lb_rank.2.1) (by rw [head_isT h2];decide)
  have hpar:Rg tk .single p x.cl (p+1+x.tk.length+1) 0 (n+1):= .paren (by rw [head_isT h0];decide) hc (by rw [head_isT h2];decide)
  have he:p+((4,[40])::(x.tk++[(4,[41])]):List Kw).length=p+1+x.tk.length+1:=by simp;omega
  rw [he]
  exact Reads.single hpar (by rw [unaryT,head_isT h0,head_isT h0];decide) (by omega)
 ·rw [if_neg h] at hk hf⊢
  rw [if_neg h] at hf⊢
  obtain ⟨a0,q0,n0,n,hn,rest⟩:=hg.spine (by omega) tk p hk hf
  exact ⟨a0,q0,n0,n,by omega,rest⟩
theorem maxD_at (ks:List Pz) (i:Nat):(pzAt ks i).dp≤maxD ks:=by
 induction ks generalizing i with
 |nil=>simp [pzAt,maxD]
 |cons x xs ih=>
  cases i with
  |zero=>simp only [pzAt,List.getD_cons_zero,maxD];omega
  |succ i=>have:=ih i;simp only [pzAt,List.getD_cons_succ,maxD] at this⊢;omega
theorem pz_in {ks:List Pz} {i:Nat} (h:i<ks.length):pzAt ks i∈ks:=by
 unfold pzAt
 rw [List.getD_eq_getElem?_getD,List.getElem?_eq_getElem h]
 exact List.getElem_mem h
theorem tail_reads {w:List UInt8} (hw:w=[41]∨w=[93]) (xs:List Pz) (hg: ∀x∈xs,Good x): ∀(tk:List Tk) (q k:Nat) (out:List Cl) (no:Nat),AtK tk q (tailK xs++[(4,w)])→k≠0→
  ∃n,n≤max no (2*maxD xs)∧Rg tk (.series w k out no) q (out++xs.flatMap Pz.cl) (q+(tailK xs++[(4,w)]).length) (k+xs.length) n:=by
 induction xs with
 |nil=>
  intro tk q k out no hk hk0
  refine ⟨no,by omega, ?_⟩
  simp only [tailK,List.flatMap_nil,List.nil_append,List.length_cons,List.length_nil,List.append_nil] at hk⊢
  exact .close (by rw [head_isT hk.head];simp)
 |cons x xs ih=>
  intro tk q k out no hk hk0
  have hx:=hg x (by simp)
  have hk':AtK tk q ((4,[44])::(x.tk++(tailK xs++[(4,w)]))):=by simpa [tailK] using hk
  have h0:=hk'.head
  have h1:=hk'.tail
  have h2:=h1.right
  obtain ⟨k2,w2,hd2,hr2⟩: ∃w2 r2,tailK xs++[(4,w)]=(4,w2)::r2∧(w2=[44]∨w2=w):=by
   cases xs with
   |nil=>exact ⟨w,[],rfl, .inr rfl⟩
   |cons y ys=>exact ⟨[44],y.tk++tailK ys++[(4,w)],by simp [tailK], .inl rfl⟩
  rw [hd2] at h2
  have h3:=h2.head
  have hne:k2≠[40]∧k2≠[63]∧rankL k2=0:=by rcases hr2 with rfl|rfl<;>rcases hw with rfl|rfl<;>decide
  obtain ⟨n,hn,hc⟩:=hx.chc tk (q+1) h1.left (by rw [head_isT h3];simp [hne.1]) (by rw [head_rk h3];exact hne.2.2) (by rw [head_isT h3];simp [hne.2.1])
  rw [←hd2] at h2
  obtain ⟨n',hn',hr⟩:=ih (fun y hy=>hg y (by simp [hy])) tk (q+1+x.tk.length) (k+1) (out++x.cl) (max no n) h2 (by omega)
  refine ⟨n',by simp only [maxD];omega, ?_⟩
  have e1:q+(tailK (x::xs)++[(4,w)]).length=q+1+x.tk.length+(tailK xs++[(4,w)]).length:=by simp [tailK];omega
  have e2:k+(x::xs).length=k+1+xs.length:=by simp;omega
  have e3:out++(x::xs).flatMap Pz.cl=out++x.cl++xs.flatMap Pz.cl:=by simp
  rw [e1,e2,e3]
  exact .part (by rw [head_isT h0];rcases hw with rfl|rfl<;>decide) (fun h=>absurd h hk0) (fun _=>⟨by rw [head_isT h0];decide,rfl⟩) hc hr
theorem join_reads {w:List UInt8} (hw:w=[41]∨w=[93]) (xs:List Pz) (hg: ∀x∈xs,Good x) (tk:List Tk) (p:Nat) (hk:AtK tk p (joinK xs++[(4,w)])):
  ∃n,n≤2*maxD xs∧Rg tk (.series w 0 [] 0) p (xs.flatMap Pz.cl) (p+(joinK xs++[(4,w)]).length) xs.length n:=by
 cases xs with
 |nil=>
  refine ⟨0,Nat.zero_le _, ?_⟩
  simp only [joinK,List.nil_append,List.flatMap_nil,List.length_cons,List.length_nil] at hk⊢
  exact .close (by rw [head_isT hk.head];simp)
 |cons x xs=>
  have hx:=hg x (by simp)
  have hk':AtK tk p (x.tk++(tailK xs++[(4,w)])):=by simpa [joinK] using hk
  have h2:=hk'.right
  obtain ⟨k2,r2,hd2,hr2⟩: ∃w2 r2,tailK xs++[(4,w)]=(4,w2)::r2∧(w2=[44]∨w2=w):=by
   cases xs with
   |nil=>exact ⟨w,[],rfl, .inr rfl⟩
   |cons y ys=>exact ⟨[44],y.tk++tailK ys++[(4,w)],by simp [tailK], .inl rfl⟩
  rw [hd2] at h2
  have h3:=h2.head
  have hne:k2≠[40]∧k2≠[63]∧rankL k2=0:=by rcases hr2 with rfl|rfl<;>rcases hw with rfl|rfl<;>decide
  obtain ⟨n,hn,hc⟩:=hx.chc tk p hk'.left (by rw [head_isT h3];simp [hne.1]) (by rw [head_rk h3];exact hne.2.2) (by rw [head_isT h3];simp [hne.2.1])
  rw [←hd2] at h2
  obtain ⟨n',hn',hr⟩:=tail_reads hw xs (fun y hy=>hg y (by simp [hy])) tk (p+x.tk.length) 1 x.cl (max 0 n) h2 (by omega)
  have hdx:=hx.dp
  refine ⟨n',by simp only [maxD];omega, ?_⟩
  have e1:p+(joinK (x::xs)++[(4,w)]).length=p+x.tk.length+(tailK xs++[(4,w)]).length:=by simp [joinK];omega
  have e2:(x::xs).length=1+xs.length:=by simp;omega
  rw [e1,e2,List.flatMap_cons]
  have hstart:isT tk p w=false:=by
   obtain ⟨k0,w0,r0,he,h4⟩:=hx.headK
   have h5:AtK tk p ((k0,w0)::(r0++(tailK xs++[(4,w)]))):=by rw [he] at hk';exact hk'
   by_cases hk4:k0=4
   ·subst hk4
    rw [head_isT h5.head]
    rcases h4 rfl with rfl|rfl|rfl|rfl<;>rcases hw with rfl|rfl<;>decide
   ·exact (head_other h5.head hk4).1
  exact .part (p0:=p) hstart (fun _=>rfl) (fun h=>absurd rfl h) hc (by simpa using hr)
theorem plain_app (a b:List UInt8):plainL (a++b)=(plainL a&&plainL b):=by simp [plainL]
theorem plain_cons (c:UInt8) (b:List UInt8):plainL (c::b)=(plainI (c.toNat:Int)&&plainL b):=by simp [plainL]
theorem isD_dig {c:UInt8} (h:isD c=true):digI (c.toNat:Int)=true∧ltrI (c.toNat:Int)=false:=by
 simp only [isD,Bool.and_eq_true,decide_eq_true_eq] at h
 simp only [digI,ltrI,Bool.and_eq_true,decide_eq_true_eq,Bool.and_eq_false_iff,decide_eq_false_iff_not]
 omega
theorem nr_plain {t:List UInt8} (h: ∀c∈t,nrI (c.toNat:Int)=true):plainL t=true:=by
 rw [plainL,List.all_eq_true]
 intro c hc
 have:=h c hc
 simp only [nrI,digI,Bool.or_eq_true,Bool.and_eq_true,decide_eq_true_eq,beq_iff_eq] at this
 simp only [plainI,Bool.and_eq_true,decide_eq_true_eq];omega
theorem nm_plain {t:List UInt8} (h: ∀c∈t,nmI (c.toNat:Int)=true):plainL t=true:=by
 rw [plainL,List.all_eq_true]
 intro c hc
 have:=h c hc
 simp only [nmI,parI,ltrI,digI,Bool.or_eq_true,Bool.and_eq_true,decide_eq_true_eq,beq_iff_eq] at this
 simp only [plainI,Bool.and_eq_true,decide_eq_true_eq];omega
theorem dec_nr (t b:Nat) (hb:1≤b): ∃c r,decText t b=c::r∧isD c=true∧ ∀x∈decText t b,nrI (x.toNat:Int)=true:=by
 obtain ⟨c,l,h1,h2⟩:=dec_head (t/b)
 have hd: ∀{l:List UInt8},allD l=true→ ∀x∈l,nrI (x.toNat:Int)=true:=fun h x hx=>by
  rw [allD,List.all_eq_true] at h
  rw [nrI,(isD_dig (h x hx)).1];rfl
 refine ⟨c,l++(if t % b=0 then [] else 46::frs 6 (t % b) b),by rw [decText,h1];rfl,h2,fun x hx=> ?_⟩
 rw [decText] at hx
 rcases List.mem_append.mp hx with hx|hx
 ·exact hd (dec_digits (t/b)).1 x hx
 ·split at hx
  ·cases hx
  ·rcases List.mem_cons.mp hx with rfl|hx
   ·decide
   ·exact hd (frs_digits 6 (t % b) b (Nat.mod_lt _ hb)) x hx
theorem num_word {s:ByteArray} (h:numB s=true):numOK s=true∧numWd s=s∧ ∃t b:Nat,1≤b∧s.data.toList=decText t b:=by
 simp only [numB,Bool.and_eq_true,decide_eq_true_eq,beq_iff_eq] at h
 obtain ⟨h1,h2,h3⟩:=h
 have ht:=rd_text s h1
 obtain ⟨b1,b2⟩:=rd_bottom s h1
 obtain ⟨T,hT⟩:=Int.eq_ofNat_of_zero_le h2
 obtain ⟨B,hB⟩:=Int.eq_ofNat_of_zero_le (show 0≤rdB s by omega)
 rw [hT,hB] at ht
 rw [hB] at b1 b2 h3
 have hB1:1≤B:=by omega
 have hm:1000000 % B=0:=by
  have:(1000000:Int).tmod (B:Int)=((1000000 % B:Nat):Int):=by rw [Int.tmod_eq_emod_of_nonneg (by omega)];rfl
  rw [this] at h3;omega
 have hv:vB (T:Int) (B:Int)=true:=by
  cases hv:vB (T:Int) (B:Int) with
  |true=>rfl
  |false=>
   rw [textF,hv] at ht
   have ht:s.data.toList=[]:=by simpa using ht.symm
   obtain rfl:s=⟨#[]⟩:=by rw [strL ht]
   exact absurd h1 (by decide)
 have hl:s.data.toList=decText T B:=by
  rw [←ht,textF,if_pos hv,fracT,if_neg (by omega),posText]
  simp [hm]
 obtain ⟨d1,d2,d3,d4⟩:=dec_read T B hv hm
 refine ⟨?_, ?_,T,B,hB1,hl⟩
 ·rw [numOK,hl,opOK,d1,d2];rfl
 ·rw [numWd,hl,opT,opB,if_pos d1,if_pos d1,d3,d4,ht]
theorem name_in (l:List UInt8): ∀n,nameR n l=true→ ∀c∈l,nmI (c.toNat:Int)=true:=by
 induction l with
 |nil=>intro n _ c hc;cases hc
 |cons b t ih=>
  intro n h c hc
  simp only [nameR] at h
  by_cases h1:(((b.toNat:Int)==46)&&decide (0<n))=true
  ·rw [if_pos h1] at h
   simp only [Bool.and_eq_true] at h1
   rcases List.mem_cons.mp hc with rfl|hc
   ·rw [nmI,h1.1];simp
   ·exact ih 0 h c hc
  ·rw [if_neg h1] at h
   by_cases h2:badN n (b.toNat:Int)=true
   ·rw [if_pos h2] at h;cases h
   ·rw [if_neg h2] at h
    by_cases h3:12<n+1
    ·rw [if_pos h3] at h;cases h
    ·rw [if_neg h3] at h
     rcases List.mem_cons.mp hc with rfl|hc
     ·simp only [badN,Bool.and_eq_true,Bool.not_eq_true',Bool.or_eq_true,not_and,bne_iff_ne,ne_eq] at h2
      rw [nmI,parI]
      cases hl:ltrI (c.toNat:Int) with
      |true=>rfl
      |false=>
       have:=h2 hl
       cases hd:digI (c.toNat:Int) with
       |true=>rfl
       |false=>
        simp only [hd,not_or,true_and,Decidable.not_not] at this
        rw [this.2];rfl
     ·exact ih _ h c hc
theorem name_word {l:List UInt8} (h:nameL l=true): ∃b t,l=b::t∧ltrI (b.toNat:Int)=true∧(∀c∈t,nmI (c.toNat:Int)=true)∧l≠trueL∧l≠falseL:=by
 simp only [nameL,Bool.and_eq_true,bne_iff_ne,ne_eq] at h
 obtain ⟨h,ht,hf⟩:=h
 cases l with
 |nil=>simp [nameR] at h
 |cons b t=>
  refine ⟨b,t,rfl, ?_,fun c hc=>name_in _ 0 h c (by simp [hc]),ht,hf⟩
  simp only [nameR,Nat.lt_irrefl,decide_false,Bool.and_false,Bool.false_eq_true,if_false] at h
  by_cases h2:badN 0 (b.toNat:Int)=true
  ·rw [if_pos h2] at h;cases h
  ·simp only [badN,Bool.and_eq_true,Bool.not_eq_true',beq_self_eq_true,Bool.true_or,and_true,Bool.not_eq_false] at h2;exact h2
theorem ltr_61 {c:UInt8} (h:ltrI (c.toNat:Int)=true∨digI (c.toNat:Int)=true):((c.toNat:Int)==61)=false:=by
 simp only [ltrI,digI,Bool.and_eq_true,decide_eq_true_eq] at h
 exact beq_eq_false_iff_ne.mpr (by omega)
theorem signs_plain {w:List UInt8} (h:0<rankL w):plainL w=true:=by
 have key: ∀(q:List UInt8) (r x:Int),plainL q=true→(0<x→plainL w=true)→0<(if w=q then r else x)→plainL w=true:=by
  intro q r x hq hx hp
  by_cases e:w=q
  ·rw [e];exact hq
  ·rw [if_neg e] at hp;exact hx hp
 revert h
 unfold rankL
 iterate 13 (refine key _ _ _ (by decide) ?_)
 intro h;exact absurd h (by decide)
theorem good_word {k m:Int} {s:ByteArray} {kw:Kw} (hkw:kw=(kw.1,kw.2)) (htx:bareT (k,s,m) []=kw.2) (htk:bareK (k,s,m) []=[kw]) (hrk:rkC (k,s,m)=8) (hk4:kw.1≠4) (hlex:Lex kw.2 [kw]) (hh: ∃c r,kw.2=c::r∧((c.toNat:Int)==61)=false) (hp:plainL kw.2=true)
  (hr: ∀(tk:List Tk) (p:Nat),tk[p]? =some (kw.1,⟨kw.2.toArray⟩)→isT tk (p+1) [40]=false→Rg tk .single p [(k,s,m)] (p+1) 0 0):Good (mkPz (k,s,m) []):=by
 have hsp:Spine (mkPz (k,s,m) []):=by
  intro tk p hk hf
  simp only [mkPz,htk,List.length_cons,List.length_nil] at hk hf⊢
  have h0:tk[p]? =some (kw.1,⟨kw.2.toArray⟩):=AtK.head (by rw [hkw] at hk;exact hk)
  exact Reads.single (hr tk p h0 hf.1) (by rw [unaryT,(head_other h0 hk4).1,(head_other h0 hk4).1];rfl) (Nat.zero_le _)
 have h2:2≤(mkPz (k,s,m) []).rk:=by simp only [mkPz,hrk];omega
 refine ⟨by simp only [mkPz,hrk];omega,by simp [mkPz,maxD], ?_, ?_, ?_, ?_,fun _=>hsp,chc_of_spine h2 hsp⟩
 ·simp only [mkPz,List.map_nil,htx,htk];exact hlex
 ·simp only [mkPz,List.map_nil,htx];exact hh
 ·simp only [mkPz,List.map_nil,htx];exact hp
 ·exact ⟨kw.1,kw.2,[],by simp only [mkPz,htk],fun h=>absurd h hk4⟩
theorem good_leaf {k m:Int} {s:ByteArray} (h:okC (k,s,m)=true) (hk:k=1∨k=2∨k=3∨k=4):Good (mkPz (k,s,m) []):=by
 have hm:m=0:=by
  simp only [okC,cellB,manyB,Bool.and_eq_true] at h
  have:=h.2
  rw [if_pos hk] at this
  simpa using this
 subst hm
 simp only [okC,cellB,Bool.and_eq_true] at h
 have hw:=h.1
 rcases hk with rfl|rfl|rfl|rfl
 ·have hn:numB s=true:=by simpa [wordB] using hw
  obtain ⟨n1,n2,t,b,hb,hl⟩:=num_word hn
  obtain ⟨c,r,hc,hd,hall⟩:=dec_nr t b hb
  rw [hl.symm] at hc hall
  have hcr: ∀x∈r,nrI (x.toNat:Int)=true:=fun x hx=>hall x (by rw [hc];simp [hx])
  refine good_word (kw:=(2,s.data.toList)) rfl rfl rfl rfl (by simp) ?_ ⟨c,r,hc,ltr_61 (.inr (isD_dig hd).1)⟩ (nr_plain hall) (fun tk p h0 _=> ?_)
  ·simp only;rw [hc];exact lex_num (isD_dig hd).2 (isD_dig hd).1 hcr
  ·simp only [ba_self] at h0
   have:=Rg.num h0 n1
   rwa [n2] at this
 ·have ht:textB s=true:=by
   have:textB s=true∧s.size≤60:=by simpa [wordB] using hw
   exact this.1
  have hok:okL s.data.toList=true:=by simp only [textB,Bool.and_eq_true] at ht;exact ht.2
  refine good_word (kw:=(3,quoteL s.data.toList)) rfl rfl rfl rfl (by simp) (lex_quote _) ⟨34,_,rfl,by decide⟩ ?_ (fun tk p h0 _=> ?_)
  ·simp only [quoteL];rw [plain_cons,plain_app,plain_quoteI _ hok];decide
  ·have hq:(⟨(quoteL s.data.toList).toArray⟩:ByteArray)=quoteT s:=by rw [quoteT,if_pos ht]
   rw [hq] at h0
   have:=Rg.text h0 (quote_unq ht).1
   rwa [(quote_unq ht).2] at this
 ·have ht:s.data.toList=trueL∨s.data.toList=falseL:=by simpa [wordB] using hw
  refine good_word (kw:=(1,s.data.toList)) rfl rfl rfl rfl (by simp) ?_ ?_ ?_ (fun tk p h0 _=> ?_)
  ·simp only
   rcases ht with ht|ht<;>(rw [ht];exact lex_name (by decide) (by decide))
  ·rcases ht with ht|ht<;>(simp only;rw [ht];exact ⟨_,_,rfl,by decide⟩)
  ·simp only
   rcases ht with ht|ht<;>(rw [ht];decide)
  ·simp only [ba_self] at h0
   exact .truth h0 ht
 ·have hn:nameL s.data.toList=true:=by
   have:nameL s.data.toList=true∧s.size≤60:=by simpa [wordB] using hw
   exact this.1
  obtain ⟨b,t,hl,hb,htl,n1,n2⟩:=name_word hn
  refine good_word (kw:=(1,s.data.toList)) rfl rfl rfl rfl (by simp) ?_ ⟨b,t,hl,ltr_61 (.inl hb)⟩ ?_ (fun tk p h0 h40=> ?_)
  ·simp only;rw [hl];exact lex_name hb htl
  ·simp only;rw [hl];exact nm_plain (fun c hc=>by
    rcases List.mem_cons.mp hc with rfl|hc
    ·rw [nmI,parI,hb];rfl
    ·exact htl c hc)
  ·simp only [ba_self] at h0
   exact .name h0 n1 n2 h40
theorem ptAt_map (ks:List Pz) (i:Nat) (h:i<ks.length):ptAt (ks.map ptOf) i=ptOf (pzAt ks i):=by
 unfold ptAt pzAt
 rw [List.getD_eq_getElem?_getD,List.getD_eq_getElem?_getD,List.getElem?_map,List.getElem?_eq_getElem h];rfl
theorem tail_lex {c:UInt8} (hc:c=41∨c=93) (xs:List Pz) (hg: ∀x∈xs,Good x):Lex (tailT (xs.map ptOf)++[c]) (tailK xs++[(4,[c])])∧stopH (tailT (xs.map ptOf)++[c])=true∧tailT (xs.map ptOf)++[c]≠[]∧plainL (tailT (xs.map ptOf)++[c])=true:=by
 induction xs with
 |nil=>rcases hc with rfl|rfl<;>exact ⟨lex_hard1 (by decide),by decide,by decide,by decide⟩
 |cons x xs ih=>
  obtain ⟨i1,i2,i3,i4⟩:=ih (fun y hy=>hg y (by simp [hy]))
  have hx:=hg x (by simp)
  have e:tailT ((x::xs).map ptOf)++[c]=44::(32::(x.tx++(tailT (xs.map ptOf)++[c]))):=by simp [tailT,ptOf]
  have ek:tailK (x::xs)++[(4,[c])]=(4,[44])::(x.tk++(tailK xs++[(4,[c])])):=by simp [tailK]
  rw [e,ek]
  refine ⟨lex_hard (by decide) ((hx.lex.app i1 i3 i2).space),rfl,by simp, ?_⟩
  rw [plain_cons,plain_cons,plain_app,hx.plain,i4];rfl
theorem join_lex {c:UInt8} (hc:c=41∨c=93) (xs:List Pz) (hg: ∀x∈xs,Good x):Lex (joinT (xs.map ptOf)++[c]) (joinK xs++[(4,[c])])∧plainL (joinT (xs.map ptOf)++[c])=true:=by
 cases xs with
 |nil=>rcases hc with rfl|rfl<;>exact ⟨lex_hard1 (by decide),by decide⟩
 |cons x xs=>
  obtain ⟨i1,i2,i3,i4⟩:=tail_lex hc xs (fun y hy=>hg y (by simp [hy]))
  have hx:=hg x (by simp)
  have e:joinT ((x::xs).map ptOf)++[c]=x.tx++(tailT (xs.map ptOf)++[c]):=by simp [joinT,ptOf]
  have ek:joinK (x::xs)++[(4,[c])]=x.tk++(tailK xs++[(4,[c])]):=by simp [joinK]
  rw [e,ek,plain_app,hx.plain,i4]
  exact ⟨hx.lex.app i1 i3 i2,rfl⟩
theorem par_lex {x:Pz} (hg:Good x) (r:Int):Lex (parT r (ptOf x)) (parK r x)∧(∃c t,parT r (ptOf x)=c::t∧((c.toNat:Int)==61)=false)∧plainL (parT r (ptOf x))=true:=by
 unfold parT parK ptOf
 by_cases h:x.rk<r
 ·rw [if_pos h,if_pos h]
  refine ⟨lex_hard (by decide) (hg.lex.app (lex_hard1 (by decide)) (by simp) (by decide)),⟨40,_,rfl,by decide⟩, ?_⟩
  rw [plain_cons,plain_app,hg.plain];decide
 ·rw [if_neg h,if_neg h]
  exact ⟨hg.lex,hg.head,hg.plain⟩
theorem par_ne {x:Pz} (hg:Good x) (r:Int):parT r (ptOf x)≠[]:=by
 obtain ⟨c,t,h,-⟩:=(par_lex hg r).2.1
 rw [h];simp
theorem good_single {c:Cl} {ks:List Pz} (hrk:rkC c=8) (hlex:Lex (bareT c (ks.map ptOf)) (bareK c ks)) (hh: ∃b r,bareT c (ks.map ptOf)=b::r∧((b.toNat:Int)==61)=false) (hp:plainL (bareT c (ks.map ptOf))=true) (hk:HeadK (mkPz c ks))
  (hr: ∀(tk:List Tk) (p:Nat),AtK tk p (bareK c ks)→unaryT tk p=false∧ ∃n,n≤2*maxD ks+1∧Rg tk .single p (c::ks.flatMap Pz.cl) (p+(bareK c ks).length) 0 n):Good (mkPz c ks):=by
 have hsp:Spine (mkPz c ks):=by
  intro tk p hk hf
  obtain ⟨hu,n,hn,hd⟩:=hr tk p hk
  exact Reads.single hd hu (by simp only [mkPz];omega)
 have h2:2≤(mkPz c ks).rk:=by simp only [mkPz,hrk];omega
 exact ⟨by simp only [mkPz,hrk];omega,by simp [mkPz],hlex,hh,hp,hk,fun _=>hsp,chc_of_spine h2 hsp⟩
theorem good_list {m:Int} {s:ByteArray} {ks:List Pz} (h:okC (5,s,m)=true) (hl:ks.length=m.toNat) (hg: ∀x∈ks,Good x):Good (mkPz (5,s,m) ks):=by
 have hm:0≤m∧m≤8:=okC_many h
 have hs:s=⟨#[]⟩:=by
  simp only [okC,cellB,Bool.and_eq_true] at h
  have:s.data.toList=[]:=by simpa [wordB] using h.1
  exact ba_eq (by rw [this])
 subst hs
 obtain ⟨j1,j2⟩:=join_lex (c:=93) (.inr rfl) ks hg
 have et:bareT (5,⟨#[]⟩,m) (ks.map ptOf)=91::(joinT (ks.map ptOf)++[93]):=rfl
 have ek:bareK (5,⟨#[]⟩,m) ks=(4,[91])::(joinK ks++[(4,[93])]):=rfl
 refine good_single rfl (by rw [et,ek];exact lex_hard (by decide) j1) ⟨91,_,et,by decide⟩ (by rw [et,plain_cons,j2];decide) ⟨4,[91],_,ek,fun _=>by simp⟩ (fun tk p hk=> ?_)
 rw [ek] at hk⊢
 have h0:=hk.head
 obtain ⟨n,hn,hr⟩:=join_reads (w:=[93]) (.inr rfl) ks hg tk (p+1) hk.tail
 refine ⟨by rw [unaryT,head_isT h0,head_isT h0];decide,n+1,by omega, ?_⟩
 have e:p+((4,[91])::(joinK ks++[(4,[93])]):List Kw).length=p+1+(joinK ks++[(4,[93])]).length:=by simp;omega
 rw [e,show m=(ks.length:Int) by omega]
 exact .list (by rw [head_isT h0];decide) hr
theorem good_call {m:Int} {s:ByteArray} {ks:List Pz} (h:okC (6,s,m)=true) (hl:ks.length=m.toNat) (hg: ∀x∈ks,Good x):Good (mkPz (6,s,m) ks):=by
 have hm:0≤m∧m≤8:=okC_many h
 have hn:nameL s.data.toList=true:=by
  simp only [okC,cellB,Bool.and_eq_true] at h
  have:nameL s.data.toList=true∧hasL s.data.toList 46=false:=by simpa [wordB] using h.1
  exact this.1
 obtain ⟨b,t,hw,hb,htl,n1,n2⟩:=name_word hn
 have hall: ∀c∈s.data.toList,nmI (c.toNat:Int)=true:=fun c hc=>by
  rw [hw] at hc
  rcases List.mem_cons.mp hc with rfl|hc
  ·rw [nmI,parI,hb];rfl
  ·exact htl c hc
 obtain ⟨j1,j2⟩:=join_lex (c:=41) (.inl rfl) ks hg
 have et:bareT (6,s,m) (ks.map ptOf)=s.data.toList++(40::(joinT (ks.map ptOf)++[41])):=rfl
 have ek:bareK (6,s,m) ks=(1,s.data.toList)::((4,[40])::(joinK ks++[(4,[41])])):=rfl
 have hln:Lex s.data.toList [(1,s.data.toList)]:=by rw [hw];exact lex_name hb htl
 refine good_single rfl (by rw [et,ek];exact hln.app (lex_hard (by decide) j1) (by simp) rfl) ⟨b,_,by rw [et,hw];rfl,ltr_61 (.inl hb)⟩ (by rw [et,plain_app,plain_cons,j2,nm_plain hall];decide) ⟨1,_,_,ek,fun h=>by cases h⟩ (fun tk p hk=> ?_)
 rw [ek] at hk⊢
 have h0:=hk.head
 have h1:=hk.tail.head
 simp only [ba_self] at h0
 obtain ⟨n,hn,hr⟩:=join_reads (w:=[41]) (.inl rfl) ks hg tk (p+1+1) hk.tail.tail
 refine ⟨by rw [unaryT,(head_other h0 (by decide)).1,(head_other h0 (by decide)).1];rfl,n+1,by omega, ?_⟩
 have e:p+((1,s.data.toList)::((4,[40])::(joinK ks++[(4,[41])])):List Kw).length=p+2+(joinK ks++[(4,[41])]).length:=by simp;omega
 rw [e,show m=(ks.length:Int) by omega]
 exact .call h0 n1 n2 (by rw [head_isT h1];decide) hr
theorem one_part {ks:List Pz} (h:ks.length=1):ks=[pzAt ks 0]:=by
 match ks,h with
 |[x],_=>rfl
theorem two_parts {ks:List Pz} (h:ks.length=2):ks=[pzAt ks 0,pzAt ks 1]:=by
 match ks,h with
 |[x,y],_=>rfl
theorem three_parts {ks:List Pz} (h:ks.length=3):ks=[pzAt ks 0,pzAt ks 1,pzAt ks 2]:=by
 match ks,h with
 |[x,y,z],_=>rfl
theorem rk_top (tk:List Tk) (q:Nat):rkT tk q≤6:=by have:=rkT_bd tk q;omega
theorem good_unary {m:Int} {s:ByteArray} {ks:List Pz} (h:okC (7,s,m)=true) (hl:ks.length=m.toNat) (hg: ∀x∈ks,Good x):Good (mkPz (7,s,m) ks):=by
 have hw:(s.data.toList=[33]∨s.data.toList=[45])∧m=1:=by
  simp only [okC,cellB,Bool.and_eq_true] at h
  exact ⟨by simpa [wordB] using h.1,by simpa [manyB] using h.2⟩
 obtain ⟨hw,rfl⟩:=hw
 have hl1:ks.length=1:=by simpa using hl
 have hks:=one_part hl1
 have hx:=hg (pzAt ks 0) (pz_in (by omega))
 have hd:=maxD_at ks 0
 obtain ⟨p1,p2,p3⟩:=par_lex hx 7
 have et:bareT (7,s,1) (ks.map ptOf)=s.data.toList++parT 7 (ptOf (pzAt ks 0)):=by rw [←ptAt_map ks 0 (by omega)];rfl
 have ek:bareK (7,s,1) ks=(4,s.data.toList)::parK 7 (pzAt ks 0):=rfl
 have hsp:Spine (mkPz (7,s,1) ks):=by
  intro tk p hk hf
  simp only [mkPz] at hk hf⊢
  rw [ek] at hk hf⊢
  have h0:=hk.head
  have he:p+((4,s.data.toList)::parK 7 (pzAt ks 0):List Kw).length=p+1+(parK 7 (pzAt ks 0)).length:=by simp;omega
  rw [he] at hf⊢
  have htop:=rk_top tk (p+1+(parK 7 (pzAt ks 0)).length)
  have he7:7≤(if (pzAt ks 0).rk<7 then 8 else (pzAt ks 0).rk):=by split<;>omega
  obtain ⟨a0,q0,n0,n,hn,hu,hsame,hlift⟩:=par_reads hx 7 tk (p+1) (by omega) hk.tail ⟨hf.1,by omega,fun _=>by omega⟩
  obtain ⟨rfl,rfl,rfl⟩:=hsame he7
  have hcl:ks.flatMap Pz.cl=(pzAt ks 0).cl:=by rw [hks];simp [pzAt]
  rw [hcl]
  simp only [ba_self] at h0
  have hun:unaryT tk p=true:=by
   have h0':tk[p]? =some (4,⟨s.data.toList.toArray⟩):=by rw [ba_self];exact h0
   rw [unaryT,head_isT h0',head_isT h0']
   rcases hw with e|e<;>(rw [e];decide)
  exact ⟨_,_,_,n0+1,by omega, .sign hun h0 hu,fun _=>⟨rfl,rfl,rfl⟩,fun r _ _ c q2 n2 k=>k⟩
 have h2:2≤(mkPz (7,s,1) ks).rk:=by simp [mkPz,rkC]
 refine ⟨by simp [mkPz,rkC],by simp [mkPz], ?_, ?_, ?_, ?_,fun _=>hsp,chc_of_spine h2 hsp⟩
 ·simp only [mkPz];rw [et,ek]
  rcases hw with e|e
  ·rw [e];exact lex_not p1 p2
  ·rw [e];exact lex_hard (by decide) p1
 ·simp only [mkPz];rw [et]
  rcases hw with e|e<;>(rw [e];exact ⟨_,_,rfl,by decide⟩)
 ·simp only [mkPz];rw [et,plain_app,p3]
  rcases hw with e|e<;>(rw [e];decide)
 ·exact ⟨4,_,_,ek,fun _=>by rcases hw with e|e<;>simp [e]⟩
theorem good_binary {m:Int} {s:ByteArray} {ks:List Pz} (h:okC (8,s,m)=true) (hl:ks.length=m.toNat) (hg: ∀x∈ks,Good x):Good (mkPz (8,s,m) ks):=by
 have hw:0<rankL s.data.toList∧m=2:=by
  simp only [okC,cellB,Bool.and_eq_true] at h
  exact ⟨by simpa [wordB] using h.1,by simpa [manyB] using h.2⟩
 obtain ⟨hw,rfl⟩:=hw
 have hk26:=rankL_in _ hw
 have hl2:ks.length=2:=by simpa using hl
 have hks:=two_parts hl2
 have hx:=hg (pzAt ks 0) (pz_in (by omega))
 have hy:=hg (pzAt ks 1) (pz_in (by omega))
 have hdx:=maxD_at ks 0;have hdy:=maxD_at ks 1
 have hLr:leftR (rankL s.data.toList)=5∧rankL s.data.toList=4∨leftR (rankL s.data.toList)=rankL s.data.toList∧rankL s.data.toList≠4:=by
  unfold leftR;split<;>omega
 obtain ⟨p1,p2,p3⟩:=par_lex hx (leftR (rankL s.data.toList))
 obtain ⟨p4,p5,p6⟩:=par_lex hy (rankL s.data.toList+1)
 have et:bareT (8,s,2) (ks.map ptOf)=parT (leftR (rankL s.data.toList)) (ptOf (pzAt ks 0))++(32::(s.data.toList++(32::parT (rankL s.data.toList+1) (ptOf (pzAt ks 1))))):=by
  rw [←ptAt_map ks 0 (by omega),←ptAt_map ks 1 (by omega)]
  simp [bareT]
 have ek:bareK (8,s,2) ks=parK (leftR (rankL s.data.toList)) (pzAt ks 0)++((4,s.data.toList)::parK (rankL s.data.toList+1) (pzAt ks 1)):=rfl
 have hsp:Spine (mkPz (8,s,2) ks):=by
  intro tk p hk hf
  have hrk:(mkPz (8,s,2) ks).rk=rankL s.data.toList:=rfl
  rw [hrk] at hf⊢
  simp only [mkPz] at hk hf⊢
  rw [ek] at hk hf⊢
  generalize hA:parK (leftR (rankL s.data.toList)) (pzAt ks 0)=A at hk hf⊢
  generalize hBB:parK (rankL s.data.toList+1) (pzAt ks 1)=BB at hk hf⊢
  have h1:=hk.right
  have h0:=h1.head
  have h2:=h1.tail
  have he:p+(A++((4,s.data.toList)::BB):List Kw).length=p+A.length+1+BB.length:=by simp;omega
  rw [he] at hf⊢
  obtain ⟨f1,f2,f3⟩:=hf
  have hrq:rkT tk (p+A.length)=rankL s.data.toList:=head_rk h0
  have hnot:isT tk (p+A.length) [40]=false:=by
   rw [head_isT h0]
   refine decide_eq_false (fun e=> ?_)
   rw [e] at hw;exact absurd hw (by decide)
  have hex:=hx.rk;have hey:=hy.rk
  have heL:leftR (rankL s.data.toList)≤(if (pzAt ks 0).rk<leftR (rankL s.data.toList) then 8 else (pzAt ks 0).rk):=by split<;>omega
  have heR:rankL s.data.toList+1≤(if (pzAt ks 1).rk<rankL s.data.toList+1 then 8 else (pzAt ks 1).rk):=by split<;>omega
  generalize hE0:(if (pzAt ks 0).rk<leftR (rankL s.data.toList) then 8 else (pzAt ks 0).rk)=E0 at heL
  generalize hE1:(if (pzAt ks 1).rk<rankL s.data.toList+1 then 8 else (pzAt ks 1).rk)=E1 at heR
  have r0:=par_reads hx (leftR (rankL s.data.toList)) tk p (by omega) (by rw [hA];exact hk.left) (by rw [hA,hE0];exact ⟨hnot,by omega,fun _=>by omega⟩)
  have r1:=par_reads hy (rankL s.data.toList+1) tk (p+A.length+1) (by omega) (by rw [hBB];exact h2) (by rw [hBB,hE1];exact ⟨f1,by omega,fun _=>by omega⟩)
  rw [hA,hE0] at r0
  rw [hBB,hE1] at r1
  obtain ⟨kk,hkk⟩:=Int.eq_ofNat_of_zero_le (show 0≤rankL s.data.toList by omega)
  obtain ⟨n1,hn1,hb⟩:=r1.bin (r:=kk+1) (by omega) (by omega) (by omega)
  obtain ⟨a0,q0,n0,n,hn,hu,-,hlift⟩:=r0
  have hcl:ks.flatMap Pz.cl=(pzAt ks 0).cl++(pzAt ks 1).cl:=by rw [hks];simp [pzAt]
  rw [hcl]
  refine ⟨a0,q0,n0,max n n1,by omega,hu,fun h7=>by omega,fun r hr2 hr c q2 n2 hloop=>hlift r hr2 (by omega) c q2 n2 ?_⟩
  simp only [ba_self] at h0
  exact .more (k:=kk) (by rw [hrq,hkk]) (by omega) (by omega) h0 hb (fun ⟨e1,e2⟩=>f3 (by omega) e2) hloop
 have h2:2≤(mkPz (8,s,2) ks).rk:=hk26.1
 refine ⟨⟨by show 1≤rankL s.data.toList;omega,by show rankL s.data.toList≤8;omega⟩,by simp [mkPz], ?_, ?_, ?_, ?_,fun _=>hsp,chc_of_spine h2 hsp⟩
 ·simp only [mkPz];rw [et,ek]
  exact p1.app (((lex_bin hw).app p4.space (by simp) rfl).space) (by simp) rfl
 ·simp only [mkPz];rw [et]
  obtain ⟨c,t,e,hc⟩:=p2
  exact ⟨c,_,by rw [e];rfl,hc⟩
 ·simp only [mkPz];rw [et,plain_app,plain_cons,plain_app,plain_cons,p3,p6,signs_plain hw];decide
 ·obtain ⟨k0,w0,r0,e,h4⟩:=hx.headK
  unfold HeadK
  simp only [mkPz]
  rw [ek]
  unfold parK
  split
  ·exact ⟨4,[40],_,rfl,fun _=>by simp⟩
  ·rw [e];exact ⟨k0,w0,_,rfl,h4⟩
theorem good_choice {m:Int} {s:ByteArray} {ks:List Pz} (h:okC (9,s,m)=true) (hl:ks.length=m.toNat) (hg: ∀x∈ks,Good x):Good (mkPz (9,s,m) ks):=by
 have hw:s.data.toList=[]∧m=3:=by
  simp only [okC,cellB,Bool.and_eq_true] at h
  exact ⟨by simpa [wordB] using h.1,by simpa [manyB] using h.2⟩
 obtain ⟨hw,rfl⟩:=hw
 obtain rfl:s=⟨#[]⟩:=ba_eq (by rw [hw])
 have hl3:ks.length=3:=by simpa using hl
 have hks:=three_parts hl3
 have hx:=hg (pzAt ks 0) (pz_in (by omega))
 have hy:=hg (pzAt ks 1) (pz_in (by omega))
 have hz:=hg (pzAt ks 2) (pz_in (by omega))
 have hdx:=maxD_at ks 0;have hdy:=maxD_at ks 1;have hdz:=maxD_at ks 2
 obtain ⟨p1,p2,p3⟩:=par_lex hx 2
 have et:bareT (9,⟨#[]⟩,3) (ks.map ptOf)=parT 2 (ptOf (pzAt ks 0))++(32::(63::(32::((pzAt ks 1).tx++(32::(58::(32::(pzAt ks 2).tx))))))):=by
  rw [←ptAt_map ks 0 (by omega)]
  have e1:(pzAt ks 1).tx=(ptAt (ks.map ptOf) 1).2:=by rw [ptAt_map ks 1 (by omega)];rfl
  have e2:(pzAt ks 2).tx=(ptAt (ks.map ptOf) 2).2:=by rw [ptAt_map ks 2 (by omega)];rfl
  rw [e1,e2]
  simp [bareT]
 have ek:bareK (9,⟨#[]⟩,3) ks=parK 2 (pzAt ks 0)++((4,[63])::((pzAt ks 1).tk++((4,[58])::(pzAt ks 2).tk))):=rfl
 have hch:Chc (mkPz (9,⟨#[]⟩,3) ks):=by
  intro tk p hk h40 hr0 h63
  simp only [mkPz] at hk h40 hr0 h63⊢
  rw [ek] at hk h40 hr0 h63⊢
  generalize hA:parK 2 (pzAt ks 0)=A at hk h40 hr0 h63⊢
  have h1:=hk.right
  have t1:=h1.head
  have h2:=h1.tail
  have h3:=h2.right
  have t3:=h3.head
  have h4:=h3.tail
  have he:p+(A++((4,[63])::((pzAt ks 1).tk++((4,[58])::(pzAt ks 2).tk))):List Kw).length=p+A.length+1+(pzAt ks 1).tk.length+1+(pzAt ks 2).tk.length:=by simp;omega
  rw [he] at h40 hr0 h63⊢
  have hex:=hx.rk
  have heL:2≤(if (pzAt ks 0).rk<2 then 8 else (pzAt ks 0).rk):=by split<;>omega
  generalize hE0:(if (pzAt ks 0).rk<2 then 8 else (pzAt ks 0).rk)=E0 at heL
  have hrq:rkT tk (p+A.length)=0:=by rw [head_rk t1];decide
  have r0:=par_reads hx 2 tk p (by omega) (by rw [hA];exact hk.left) (by rw [hA,hE0];exact ⟨by rw [head_isT t1];decide,by omega,fun _=>by omega⟩)
  rw [hA,hE0] at r0
  obtain ⟨n0,hn0,hb0⟩:=r0.bin (r:=2) (by omega) (by omega) (by omega)
  obtain ⟨n1,hn1,hc1⟩:=hy.chc tk (p+A.length+1) h2.left (by rw [head_isT t3];decide) (by rw [head_rk t3];decide) (by rw [head_isT t3];decide)
  obtain ⟨n2,hn2,hc2⟩:=hz.chc tk (p+A.length+1+(pzAt ks 1).tk.length+1) h4 h40 hr0 h63
  have hcl:ks.flatMap Pz.cl=(pzAt ks 0).cl++((pzAt ks 1).cl++(pzAt ks 2).cl):=by rw [hks];simp [pzAt]
  rw [hcl]
  have d1:=hy.dp;have d2:=hz.dp
  exact ⟨_,by omega, .three hb0 (by rw [head_isT t1];decide) hc1 (by rw [head_isT t3];decide) hc2⟩
 refine ⟨by simp [mkPz,rkC],by simp [mkPz], ?_, ?_, ?_, ?_,fun h=>by simp [mkPz,rkC] at h,hch⟩
 ·simp only [mkPz];rw [et,ek]
  exact p1.app ((lex_hard (by decide) ((hy.lex.app ((lex_hard (by decide) hz.lex.space).space) (by simp) rfl).space)).space) (by simp) rfl
 ·simp only [mkPz];rw [et]
  obtain ⟨c,t,e,hc⟩:=p2
  exact ⟨c,_,by rw [e];rfl,hc⟩
 ·simp only [mkPz];rw [et]
  simp only [plain_app,plain_cons,p3,hy.plain,hz.plain];decide
 ·obtain ⟨k0,w0,r0,e,h4⟩:=hx.headK
  unfold HeadK
  simp only [mkPz]
  rw [ek]
  unfold parK
  split
  ·exact ⟨4,[40],_,rfl,fun _=>by simp⟩
  ·rw [e];exact ⟨k0,w0,_,rfl,h4⟩
theorem good_mk {c:Cl} {ks:List Pz} (h:okC c=true) (hl:ks.length=c.2.2.toNat) (hg: ∀x∈ks,Good x):Good (mkPz c ks):=by
 obtain ⟨k,s,m⟩:=c
 by_cases h14:k=1∨k=2∨k=3∨k=4
 ·have hm:m=0:=by
   simp only [okC,cellB,manyB,Bool.and_eq_true] at h
   have:=h.2
   rw [if_pos h14] at this
   simpa using this
  subst hm
  obtain rfl:ks=[]:=List.eq_nil_of_length_eq_zero (by simpa using hl)
  exact good_leaf h h14
 by_cases h5:k=5
 ·subst h5;exact good_list h hl hg
 by_cases h6:k=6
 ·subst h6;exact good_call h hl hg
 by_cases h7:k=7
 ·subst h7;exact good_unary h hl hg
 by_cases h8:k=8
 ·subst h8;exact good_binary h hl hg
 by_cases h9:k=9
 ·subst h9;exact good_choice h hl hg
 ·exfalso
  simp only [okC,cellB,wordB,Bool.and_eq_true] at h
  have:=h.1
  simp only [not_or] at h14
  rw [if_neg h14.1,if_neg h14.2.1,if_neg h14.2.2.1,if_neg h14.2.2.2,if_neg h5,if_neg h6,if_neg h7,if_neg h8,if_neg h9] at this
  cases this
end Go.Proofs.YtegdjjjpoahamaaGreatDoor
