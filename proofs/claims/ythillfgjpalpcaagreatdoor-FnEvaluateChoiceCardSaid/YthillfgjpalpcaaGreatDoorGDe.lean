/-
  Several texts of the proof in one file: DrawEval, EvalC, SameCells.
-/
import Derived.Test.YthillfgjpalpcaaGreatDoorDrawTypA
import Derived.Test.YthillfgjpalpcaaGreatDoorDrawBinds
import Derived.Test.YthillfgjpalpcaaGreatDoorBaseVS
import Derived.Deep.QuietTactic
import Derived.BigQuiet
set_option linter.unusedVariables false
set_option maxHeartbeats 4000000
set_option maxRecDepth 100000
namespace Go.Proofs.YthillfgjpalpcaaGreatDoor
open Go.RowKit
def DrawnE (w:World) (e:Ending) (w':World):Prop:=
 ∃(v vb:Value) (l:List Cl) (us:List Value) (env:List Bd),e= .returned (.tuple #[v,vb])∧RowC w' v l∧(∀c∈l,wdN c.2.1=true)∧l.length≤60∧OwnB w' w.heap.size vb us env∧(∀b∈env,FewB b)∧env.length≤7∧Below w.heap.size w w'
theorem drawnE_of {w w1 w2 w3:World} {v vb:Value} {l:List Cl} {us:List Value} {env:List Bd} (hs1:w1.heap.size=w.heap.size+1) (hb1:Below w.heap.size w w1) (hg2:w1.grownBy w2 (some w.heap.size)) (hk:RowK (w.heap.size+1) w2 v l) (hl: ∀c∈l,wdN c.2.1=true) (h60:l.length≤60) (hg3:w2.grownBy w3 (some w.heap.size)) (ho:OwnB w3 w2.heap.size vb us env) (hf: ∀b∈env,FewB b) (h7:env.length≤7):DrawnE w (.returned (.tuple #[v,vb])) w3:=by
 have h1:=hg2.size
 have h2:=hg3.size
 exact ⟨v,vb,l,us,env,rfl,hk w3 (fun b hb hlt=>hg3.block b hlt (fun e=>by injection e with e;omega)) h2,hl,h60,ho.lower (by omega),hf,h7,(hb1.trans (grown_below hg2 (by omega) (Nat.le_refl _))).trans (grown_below hg3 (by omega) (Nat.le_refl _))⟩
theorem drawEvaluate_any (a:Option Addr) (len cap:Nat) (w:World) (h:CodeRow w a len cap):
  Calls Tryz.prog 23 #[.slice a len cap] w (DrawnE w):=by
 go_enter Tryz.func23,Tryz.ntmps23
 go_wp2_with fail
 refine (open_codes a len cap _ h).mono ?_
 rintro e w1 ⟨rfl,hr1,hb1,hs1⟩
 have HB:=zz hb1;have HS:=zz hs1
 clear hb1 hs1 h
 go_wp2_with fail
 refine (pick_any w.heap.size 0 2 _ (by omega) hr1).mono ?_
 rintro e w2 ⟨m,rfl,hm0,hm1,-,hr2,hg2,-⟩
 have hm2:=hm1 (by omega)
 have HG2:=zz hg2
 clear hm1 hg2 hr1
 by_cases hm:m=0
 ·subst hm
  go_wp2_with fail
  refine (pick_any w.heap.size (0+1) 4 _ (by omega) hr2).mono ?_
  rintro e w3 ⟨x,rfl,hx0,hx1,-,hr3,hg3,-⟩
  have hx2:=hx1 (by omega)
  have HG3:=zz (grown_trans HG2.out hg3)
  clear hx1 hg3 hr2 HG2
  go_wp2_with fail
  refine (pick_any w.heap.size (0+1+1) 3 _ (by omega) hr3).mono ?_
  rintro e w4 ⟨q,rfl,hq0,hq1,-,hr4,hg4,-⟩
  have hq2:=hq1 (by omega)
  have HG4:=zz (grown_trans HG3.out hg4)
  clear hq1 hg4 hr3 HG3
  obtain ⟨x1,rfl⟩:=Int.eq_ofNat_of_zero_le hx0
  have HTY:=zz (typed_any (1+x1) (by omega) q (by omega) w.heap.size (0+1+1+1) w4 (by omega) hr4)
  rw [show ((1+x1:Nat):Int)=1+(x1:Int) by omega] at HTY
  clear hr4
  go_wp2_with fail
  refine HTY.out.mono ?_
  rintro e w5 ⟨vy,ly,rfl,hoy,hsy,h1y,hcy,hr5,hg5⟩
  have HK:=zz (RowK.of_own hoy (show w.heap.size+1≤_ by have:=HS.out;have:=HG4.out.size;omega))
  have HW:=zz (fun c hc=>wdN_few (hsy c hc))
  have HG5:=zz (grown_trans HG4.out hg5)
  obtain ⟨ay,cy,rfl⟩:=own_shape hoy
  clear hoy hsy h1y hg5 HG4 HTY
  go_wp2_with fail
  refine (bindings_any w.heap.size (0+1+1+1+800) 12 _ (by omega) (by omega) (by omega) hr5).mono ?_
  rintro e w6 ⟨vb,us,env,rfl,hown,hfew,hl,hr6,hg6⟩
  have HX:=zz (drawnE_of HS.out HB.out HG5.out HK.out HW.out hcy hg6 hown hfew hl)
  clear hown hfew hl hr6 hg6 hr5
  go_wp2
  go_ret2
  exact HX.out
 ·obtain rfl:m=1:=by omega
  go_wp2_with fail
  refine (expr_any w.heap.size (0+1) 12 _ (by omega) (by omega) (by omega) hr2).mono ?_
  rintro e w3 ⟨v,l,rfl,hk,hs,hl,-,hr3,hg3⟩
  have HK:=zz (hk.lower (show w.heap.size+1≤_ by have:=HS.out;have:=HG2.out.size;omega))
  have HW:=zz hs
  have HG3:=zz (grown_trans HG2.out hg3)
  clear hk hs hg3 hr2 HG2
  go_wp2_with fail
  refine (bindings_any w.heap.size (0+1+1000) 12 _ (by omega) (by omega) (by omega) hr3).mono ?_
  rintro e w6 ⟨vb,us,env,rfl,hown,hfew,hl7,hr6,hg6⟩
  have HX:=zz (drawnE_of HS.out HB.out HG3.out HK.out HW.out hl hg6 hown hfew hl7)
  clear hown hfew hl7 hr6 hg6 hr3
  go_wp2
  go_ret2
  exact HX.out
theorem wd_short {l:List Cl} (h: ∀c∈l,wdN c.2.1=true):SizedC l∧ShortC l:=⟨fun c hc=>by have:=wdN_size (h c hc);unfold maxLen;omega,fun c hc=>by have:=wdN_size (h c hc);omega⟩
theorem few_shortB {env:List Bd} (h: ∀b∈env,FewB b):ShortB env:=fun b hb=>by
 obtain ⟨h1,h2,h3⟩:=h b hb
 exact ⟨by omega,fun c hc=>by have:=h2 c hc;omega,by omega⟩
theorem sized_choice {l:List Cl} (h:SizedC l):SizedC (choiceC l):=by
 intro c hc
 simp only [choiceC,List.mem_cons,List.mem_append,or_self] at hc
 rcases hc with rfl|rfl|hc
 ·show (⟨#[]⟩:ByteArray).size≤maxLen
  unfold maxLen;decide
 ·show (⟨#[102,97,108,115,101]⟩:ByteArray).size≤maxLen
  unfold maxLen;decide
 ·exact h c hc
theorem sized_same {l:List Cl} (h:SizedC l):SizedC (sameC l):=by
 intro c hc
 simp only [sameC,List.mem_cons,List.mem_append,or_self] at hc
 rcases hc with rfl|hc
 ·show (⟨#[61,61]⟩:ByteArray).size≤maxLen
  unfold maxLen;decide
 ·exact h c hc
theorem flat_choice (l:List Cl):[Value.int .i64 9, .string ByteArray.empty, .int .i64 3, .int .i64 3, .string ⟨#[102,97,108,115,101]⟩, .int .i64 0]++flatC l++flatC l=flatC (choiceC l):=by
 have e:(ByteArray.empty:ByteArray)=⟨#[]⟩:=rfl
 rw [e]
 simp [choiceC,flatC,List.flatMap_append]
theorem flat_same (l:List Cl):[Value.int .i64 8, .string ⟨#[61,61]⟩, .int .i64 2]++flatC l++flatC l=flatC (sameC l):=by
 simp [sameC,flatC,List.flatMap_append]
theorem evalR (l:List Cl) (env:List Bd): ∃(R:List Cl) (ok:Bool),(evalV l env).getD []=R∧(evalV l env).isSome=ok∧R.length≤60∧SizedC R∧ShortC R∧(ok=true→evalV l env=some R∧okV R=true∧okE l=true∧bindOK env=true)∧(ok=false→evalV l env=none∧R=[]):=by
 cases h:evalV l env with
 |none=>exact ⟨[],false,rfl,rfl,by simp,(fun c hc=>by cases hc),(fun c hc=>by cases hc),(fun h=>by cases h),fun _=>⟨rfl,rfl⟩⟩
 |some v=>
  obtain ⟨h1,h2,h3⟩:=evalV_ok h
  have hs:=okV_short h1
  exact ⟨v,true,rfl,rfl,((okV_iff v).mp h1).1,(fun c hc=>by have:=hs c hc;unfold maxLen;omega),hs,fun _=>⟨rfl,h1,h2,h3⟩,fun h=>by cases h⟩
def wS (am:List Nat):Nat→Int
 |0=>0
 |i+1=>wS am i+((am[i]?.getD 0:Nat):Int)-1
theorem wS_of {am:List Nat} {n f t d:Nat} (h:Exs am n f t d):wS am t=wS am f-(n:Int)∧ ∀i,f≤i→i<t→wS am f-(n:Int)<wS am i:=by
 induction h with
 |nil f=>exact ⟨by omega,fun i h1 h2=>by omega⟩
 | @cons f m g d n t e hm h1 h2 i1 i2=>
  have hs:wS am (f+1)=wS am f+(m:Int)-1:=by rw [wS,hm];rfl
  refine ⟨by omega,fun i k1 k2=> ?_⟩
  by_cases hf:i=f
  ·subst hf;omega
  ·by_cases hg:i<g
   ·have:=i1.2 i (by omega) hg;omega
   ·have:=i2.2 i (by omega) k2;omega
theorem wS_twice (bm:List Nat): ∀i,i≤bm.length→wS (bm++bm) (bm.length+i)=wS (bm++bm) bm.length+wS (bm++bm) i:=by
 intro i
 induction i with
 |zero=>intro _;simp [wS]
 |succ i ih=>
  intro hi
  have e:(bm++bm)[bm.length+i]? =(bm++bm)[i]? :=by
   rw [List.getElem?_append_right (by omega),List.getElem?_append_left (by omega),Nat.add_sub_cancel_left]
  rw [←Nat.add_assoc,wS,wS,ih (by omega),e]
  omega
theorem exs_half {bm:List Nat} {d:Nat} (h:Exs (bm++bm) 2 0 (bm.length+bm.length) d): ∃d',d'≤d∧Exs bm 1 0 bm.length d':=by
 obtain ⟨m,d1,d2,k1,k2,rfl⟩:=Exs.split (a:=1) (b:=1) h
 have w0:=wS_of h
 have w1:=wS_of k1
 have w2:=wS_of k2
 have wt:=wS_twice bm
 have wn:=wt bm.length (Nat.le_refl _)
 have h0:wS (bm++bm) 0=0:=rfl
 have l1:=k1.le
 have l2:=k2.le
 have hN:wS (bm++bm) bm.length= -1:=by omega
 have e:m=bm.length:=by
  by_cases h1:bm.length<m
  ·have:=w1.2 bm.length (by omega) h1;omega
  ·by_cases h2:m<bm.length
   ·have a1:=w2.2 (bm.length+m) (by omega) (by omega)
    have a2:=wt m (by omega)
    omega
   ·omega
 subst e
 have:=k1.shift (bm:=bm) 0 (Nat.le_refl _) (fun i _ hi=>by rw [Nat.sub_zero,List.getElem?_append_left hi])
 exact ⟨d1,by omega,this⟩
theorem same_half {l:List Cl} (h:okE (sameC l)=true):okE l=true:=by
 obtain ⟨h60,hal,d,hd,hx⟩:=(okE_iff _).mp h
 have hlen:(sameC l).length=l.length+l.length+1:=by simp [sameC]
 have ham:amL (sameC l)=2::(amL l++amL l):=by simp [amL,sameC]
 rw [ham,hlen] at hx
 obtain ⟨m,e,hm,h1,rfl⟩:=hx.inv
 have hm2:m=2:=by simpa using hm.symm
 subst hm2
 have h2:=h1.shift (bm:=amL l++amL l) 1 (Nat.le_refl _) (fun i k1 k2=>by
  obtain ⟨j,rfl⟩: ∃j,i=j+1:=⟨i-1,by omega⟩
  simp)
 rw [show l.length+l.length+1-1=(amL l).length+(amL l).length by rw [amL_length];omega] at h2
 obtain ⟨d',hd',h3⟩:=exs_half h2
 rw [amL_length] at h3
 refine (okE_iff l).mpr ⟨by omega, ?_,d',by omega,h3⟩
 rw [List.all_eq_true] at hal⊢
 exact fun c hc=>hal c (by simp [sameC,hc])
theorem append_rowO {P:Program} {w:World} {ops:Array Oper} {rest:List Oper} {o:Oper} {a:Act} {Q:Exit→Act→World→Prop} (hgd:o.guard=none) (s x:Operand) (t:TypeId)
  (ho:o.op= .call {callee:= .builtin .append,args:= #[s,x],argTypes:= #[t,t]})
  (base:Nat) (e:TypeId) (i:TypeInfo) (z:Value) (size bytes:Nat) (ht:P.underlying t=some (.slice e)) (hi:P.info? e=some i) (hz:i.zero=some z)
  (hsize:i.size=size) (hby:i.bytes=bytes) (hzs:z.cells.size=size) (hsz:0<size)
  (v:Value) (n:Nat) (xs:List Value) (hs:a.eval s=v) (hown:w.ownsRow base e size v n xs)
  (base2:Nat) (u:Value) (m:Nat) (ys:List Value) (hx:a.eval x=u) (hsrc:w.ownsRow base2 e size u m ys) (h1: ∀u∈ys,u.oneCell'=true)
  (h63:n+m≤maxLen) (hbytes:(n+m)*bytes≤140737488355328) (hbase:base≤w.heap.size)
  (h: ∀v' w',w'.ownsRow base e size v' (n+m) (xs++ys)→w.grownBy w' v.ownBlock→wpList P ops Q rest (a.put o.dst v') w'):wpList P ops Q (o::rest) a w:=by
 rcases hsrc.2 with ⟨rfl,rfl⟩|⟨g,cap,cur,rfl,-⟩
 ·have hy:ys=[]:=List.eq_nil_of_length_eq_zero (by have:=hsrc.1;simpa using this)
  subst hy
  refine wpList_append_own_none hgd s x t ho base e i size ht hi v n xs hs hown hx ?_
  exact h v w (by simpa using hown) (World.grownBy.refl _ _)
 ·refine wpList_append_own _ hgd s x t ho base e i z size bytes ht hi hz hsize hby hzs hsz v n xs hs hown ⟨g,0,none⟩ m cap ys hx hsrc.1 ?_ h1 h63 hbytes hbase (fun v' w' a1 a2 _=>h v' w' a1 a2)
  intro j y hj
  have hlt:j<ys.length:=by
   by_cases hk:j<ys.length
   ·exact hk
   ·rw [List.getElem?_eq_none (by omega)] at hj;cases hj
  rw [addr_add,Nat.zero_add,hsrc.cellAt j (by rw [←hsrc.1];exact hlt)];exact hj
theorem bind_one {w:World} {base:Nat} {v:Value} {us:List Value} {env:List Bd} (h:OwnB w base v us env): ∀u∈bindF env us,u.oneCell'=true:=by
 have key: ∀(env:List Bd) (us:List Value),(∀u∈us,u.oneCell'=true)→ ∀u∈bindF env us,u.oneCell'=true:=by
  intro env
  induction env with
  |nil=>intro us _ u hu;cases us<;>cases hu
  |cons b env ih=>
   intro us hus u hu
   cases us with
   |nil=>cases hu
   |cons x us=>
    simp only [bindF,List.mem_cons] at hu
    rcases hu with rfl|rfl|hu
    ·rfl
    ·exact hus u (List.mem_cons_self ..)
    ·exact ih us (fun y hy=>hus y (List.mem_cons_of_mem _ hy)) u hu
 refine key env us (fun u hu=> ?_)
 obtain ⟨k,hk,rfl⟩:=List.mem_iff_getElem.mp hu
 obtain ⟨a,c,e⟩:=own_shape (h.each k hk (by have:=h.len;omega))
 rw [e];rfl
theorem more_row {w w6:World} {base b6:Nat} {v v6 u:Value} {us:List Value} {env:List Bd} {nm:ByteArray} {R:List Cl} (h:OwnB w base v us env) (hb:Below w.heap.size w w6) (hu:RowC w6 u R) (h6:w6.ownsRow b6 46 2 v6 (env.length+1) (bindF env us++[.string nm,u])):RowB w6 v6 (env++[(nm,R)]):=by
 have hl:=h.len
 have hlen:(env++[(nm,R)]).length=env.length+1:=by simp
 have hbf:bindF (env++[(nm,R)]) (us++[u])=bindF env us++[.string nm,u]:=by rw [bindF_append _ _ _ _ hl.symm];rfl
 have hall: ∀(k:Nat) (h1:k<(us++[u]).length) (h2:k<(env++[(nm,R)]).length),RowC w6 (us++[u])[k] (env++[(nm,R)])[k].2:=by
  intro k h1 h2
  by_cases hk:k<env.length
  ·rw [List.getElem_append_left (by omega),List.getElem_append_left hk]
   exact (RowC.of_own (h.each k (by omega) hk)).1.mono hb
  ·obtain rfl:k=env.length:=by omega
   rw [List.getElem_append_right (by omega),List.getElem_append_right (by omega)]
   simp only [List.getElem_singleton]
   exact hu
 obtain ⟨ao,cap,rfl⟩:=own_shape h6
 rcases h6.2 with ⟨h1,h2⟩|⟨g,cp,cur,h1,hg,hh,hc1,hc2,_⟩
 ·have:=h6.1;rw [h2] at this;simp at this
 ·injection h1 with e1 e2 e3
  subst e1;subst e3
  refine ⟨_,cap,by rw [hlen],by rw [hlen];exact hc1,hc2, .inr ⟨g,0,rfl,(h6.lt g rfl).2,fun k hk=> ?_⟩⟩
  obtain ⟨f0,f1⟩:=bindF_at (env++[(nm,R)]) (us++[u]) (by simp [hl]) k hk (by simp only [List.length_append,List.length_singleton] at hk⊢;omega)
  rw [hbf] at f0 f1
  rw [hlen] at hk
  refine ⟨(us++[u])[k]'(by simp only [List.length_append,List.length_singleton];omega), ?_, ?_,hall k _ _⟩
  ·rw [Nat.zero_add,h6.cellAt _ (by omega)];exact f0
  ·rw [Nat.zero_add,h6.cellAt _ (by omega)];exact f1
theorem shortB_snoc {env:List Bd} {nm:ByteArray} {R:List Cl} (h:ShortB env) (h1:nm.size≤1048576) (h2:ShortC R) (h3:R.length≤1048576):ShortB (env++[(nm,R)]):=by
 intro b hb
 rw [List.mem_append,List.mem_singleton] at hb
 rcases hb with hb|rfl
 ·exact h b hb
 ·exact ⟨h1,h2,h3⟩
theorem row_shape {w:World} {v:Value} {l:List Cl} (h:RowC w v l): ∃a c,v= .slice a l.length c:=by
 obtain ⟨ao,cap,e,-⟩:=h
 exact ⟨ao,cap,e⟩
theorem heap2_newE (w:World) (o1 o2:Obj):((w.alloc o1).alloc o2).heap[w.heap.size+1]? =some o2:=by
 have:=heap_alloc_new (w.alloc o1) o2
 simpa using this
theorem okE_fresh:okE [((4:Int),(⟨#[102,114,101,115,104]⟩:ByteArray),(0:Int))]=true:=
 (okE_iff _).mpr ⟨by decide,by decide,1,by decide, .cons rfl (.nil 1) (.nil 1)⟩
theorem bindOK_nil:bindOK []=true:=(bindOK_iff []).mpr ⟨by decide,(fun b hb=>by cases hb),trivial⟩
theorem rowB_none (w:World):RowB w (.slice none 0 0) []:=⟨none,0,rfl,Nat.le_refl _,by unfold maxLen;omega, .inl rfl⟩
theorem sameCells_same (v1 v2:Value) (l:List Cl) (w:World) (h1:RowC w v1 l) (h2:RowC w v2 l):
  Calls Tryz.prog 24 #[v1,v2] w fun e w'=>e= .returned (.bool true)∧Below w.heap.size w w':=by
 obtain ⟨a1,c1,rfl,p1,q1,r1⟩:=h1
 obtain ⟨a2,c2,rfl,p2,q2,r2⟩:=h2
 unfold maxLen at q1 q2
 have R1:=zz r1;have R2:=zz r2
 clear r1 r2
 go_enter Tryz.func24,Tryz.ntmps24
 go_wp2_with fail
 go_loopw [5] (fun i wr=> ∃k:Nat,k≤l.length∧i= .int .i64 (k:Int)∧Below w.heap.size w wr) (fun i _=>l.length-(intOf i).toNat)
 case atStart=>exact ⟨0,Nat.zero_le _,rfl,Below.refl _ _⟩
 case round=>
  obtain ⟨k,hk,rfl,hb⟩:=hrel
  have HB:=zz hb;clear hb
  by_cases hlt:k<l.length
  ·obtain ⟨b1,o1,rfl,hl1,cc1⟩:=R1.out.resolve_left (by rintro rfl;simp at hlt)
   obtain ⟨b2,o2,rfl,hl2,cc2⟩:=R2.out.resolve_left (by rintro rfl;simp at hlt)
   obtain ⟨x0,x1,x2⟩:=cc1 k hlt
   obtain ⟨y0,y1,y2⟩:=cc2 k hlt
   have d0:=(HB.out.cell (p:=⟨b1,_,none⟩) hl1).trans x0
   have d1:=(HB.out.cell (p:=⟨b1,_,none⟩) hl1).trans x1
   have d2:=(HB.out.cell (p:=⟨b1,_,none⟩) hl1).trans x2
   have e0:=(HB.out.cell (p:=⟨b2,_,none⟩) hl2).trans y0
   have e1:=(HB.out.cell (p:=⟨b2,_,none⟩) hl2).trans y1
   have e2:=(HB.out.cell (p:=⟨b2,_,none⟩) hl2).trans y2
   generalize l[k].1=kk at d0 e0
   generalize l[k].2.1=ss at d1 e1
   generalize l[k].2.2=mm at d2 e2
   clear cc1 cc2 x0 x1 x2 y0 y1 y2
   go_wp2_with fail
   go_quiet (fail)
   have HQ:=zz (show Below w.heap.size w (wr.drewN nq) from HB.out.trans ⟨rfl,rfl,rfl,Nat.le_refl _,fun _ _=>rfl⟩)
   go_wp2
   go_roundw
   case rel=>exact ⟨k+1,by omega,by go_num,HQ.out⟩
   case measure=>simp [intOf];omega
  ·obtain rfl:k=l.length:=by omega
   go_wp2
   go_ret
   exact ⟨rfl,HB.out⟩
end Go.Proofs.YthillfgjpalpcaaGreatDoor
