/-
  Part of the proof of FnReadDocument.
-/
import Derived.Test.YtegdjjjpoahamaaGreatDoorQQRao
import Derived.Deep.Onto
set_option linter.unusedVariables false
set_option maxHeartbeats 8000000
set_option maxRecDepth 100000
namespace Go.Proofs.YtegdjjjpoahamaaGreatDoor
open Go.RowKit
theorem eN (a:Cl) (t:List Cl):ai (a::t)= .int .i64 a.1:: .string a.2.1:: .int .i64 a.2.2::ai t:=by simp [ai]
theorem vh (l:List Cl): ∀(k:Nat) (h:k<l.length) (x:Int),(ai l).set (k*3) (.int .i64 x)=ai (l.set k (x,l[k].2.1,l[k].2.2)):=by
 induction l with
 |nil=>intro k h;simp at h
 |cons a t ih=>
  intro k h x
  cases k with
  |zero=>simp only [eN,List.set_cons_zero,List.getElem_cons_zero,Nat.zero_mul]
  |succ k=>
   have hk:k<t.length:=by simpa using h
   simp only [eN,show (k+1)*3=(k*3)+1+1+1 by omega,List.set_cons_succ,List.getElem_cons_succ,ih k hk x]
theorem vi (l:List Cl): ∀(k:Nat) (h:k<l.length) (x:ByteArray),(ai l).set (k*3+1) (.string x)=ai (l.set k (l[k].1,x,l[k].2.2)):=by
 induction l with
 |nil=>intro k h;simp at h
 |cons a t ih=>
  intro k h x
  cases k with
  |zero=>simp only [eN,List.set_cons_zero,List.getElem_cons_zero,Nat.zero_mul,Nat.zero_add,List.set_cons_succ]
  |succ k=>
   have hk:k<t.length:=by simpa using h
   simp only [eN,show (k+1)*3+1=(k*3+1)+1+1+1 by omega,List.set_cons_succ,List.getElem_cons_succ,ih k hk x]
theorem vj (l:List Cl): ∀(k:Nat) (h:k<l.length) (x:Int),(ai l).set (k*3+2) (.int .i64 x)=ai (l.set k (l[k].1,l[k].2.1,x)):=by
 induction l with
 |nil=>intro k h;simp at h
 |cons a t ih=>
  intro k h x
  cases k with
  |zero=>simp only [eN,List.set_cons_zero,List.getElem_cons_zero,Nat.zero_mul,Nat.zero_add,List.set_cons_succ]
  |succ k=>
   have hk:k<t.length:=by simpa using h
   simp only [eN,show (k+1)*3+2=(k*3+2)+1+1+1 by omega,List.set_cons_succ,List.getElem_cons_succ,ih k hk x]
theorem mj {l:List Cl} (h: ∀c∈l,c.2.1.size≤60) (k:Nat) (c:Cl) (hc:c.2.1.size≤60): ∀d∈l.set k c,d.2.1.size≤60:=by
 intro d hd
 rcases List.mem_or_eq_of_mem_set hd with hd|rfl
 ·exact h d hd
 ·exact hc
theorem vk {l:List Cl} (h: ∀c∈l,c.2.1.size≤60) (c:Cl) (hc:c.2.1.size≤60): ∀d∈c::l,d.2.1.size≤60:=by
 intro d hd;rw [List.mem_cons] at hd
 rcases hd with rfl|hd
 ·exact hc
 ·exact h d hd
def RowK (B:Nat) (w:World) (v:Value) (l:List Cl):Prop:= ∀w':World,(∀b,B≤b→b<w.heap.size→w'.heap[b]? =w.heap[b]?)→w.heap.size≤w'.heap.size→RowC w' v l
theorem RowK.row {B:Nat} {w:World} {v:Value} {l:List Cl} (h:RowK B w v l):RowC w v l:=h w (fun _ _ _=>rfl) (agD _)
theorem RowK.of_own {B b m:Nat} {w:World} {v:Value} {l:List Cl} (h:w.ownsRow b 110 3 v m (ai l)) (hb:B≤b):RowK B w v l:=fun w' hw hs=>
 (RowC.of_own (dI h (fun g hg=>hw g (Nat.le_trans hb (h.lt g hg).1) (h.lt g hg).2))).1
theorem RowK.keep {B:Nat} {w w1:World} {v:Value} {l:List Cl} (h:RowK B w v l) (hw: ∀b,B≤b→b<w.heap.size→w1.heap[b]? =w.heap[b]?) (hs:w.heap.size≤w1.heap.size):RowK B w1 v l:=fun w' h1 h2=>
 h w' (fun b hb Ab=>(h1 b hb (by omega)).trans (hw b hb Ab)) (by omega)
theorem RowK.lower {B B':Nat} {w:World} {v:Value} {l:List Cl} (h:RowK B w v l) (hb:B'≤B):RowK B' w v l:=fun w' h1 h2=>h w' (fun b Dy Ab=>h1 b (by omega) Ab) h2
def ExprD (R p:Nat) (n:Int) (w:World) (e:Ending) (w':World):Prop:=
 ∃(v:Value) (l:List Cl),e= .returned v∧RowK w.heap.size w' v l∧(∀c∈l,c.2.1.size≤60)∧l.length≤60∧(n<1→1≤l.length)∧Rdm w' R (p+1000)∧w.grownBy w' (some R)
theorem ExprD.of_own {R p q m:Nat} {n:Int} {w w':World} {v:Value} {l:List Cl} (h:w'.ownsRow w.heap.size 110 3 v m (ai l)) (M7:R<w.heap.size) (hs: ∀c∈l,c.2.1.size≤60) (hl:l.length≤60) (hn:1≤l.length) (hr:Rdm w' R q) (hq:q≤p+1000) (hg:w.grownBy w' (some R)):
  ExprD R p n w (.returned v) w':=⟨v,l,rfl,RowK.of_own h (agD _),hs,hl,fun _=>hn,hr.mono hq,hg⟩
theorem three (m:Nat) (h:m<3): ∃t:Int,(#[Value.int .i64 (-1), .int .i64 4, .int .i64 9]:Array Value)[m]? =some (.int .i64 t):=by
 match m,h with
 |0,_=>exact ⟨_,rfl⟩
 |1,_=>exact ⟨_,rfl⟩
 |2,_=>exact ⟨_,rfl⟩
theorem vl {w:World} {b m:Nat} {v:Value} {l:List Cl} (h:w.ownsRow b 110 3 v m (ai l)) (hl:1≤l.length): ∃g cap,v= .slice (some ⟨g,0,none⟩) l.length cap∧m=l.length∧b≤g∧g<w.heap.size∧l.length≤cap∧cap≤maxLen:=by
 have hm:=(RowC.of_own h).2;subst hm
 rcases h.2 with ⟨rfl,h0⟩|⟨g,cap,cur,rfl,hb,hh,h1,h2,_⟩
 ·omega
 ·exact ⟨g,cap,rfl,rfl,hb,(h.lt g rfl).2,h1,h2⟩
theorem sQ (R p:Nat) (n:Int) (w:World) (hp:p<100000000) (Ch:0≤n) (BO:n≤1000) (h:Rdm w R p):
  Calls Tryz.prog 167 #[.pointer (some ⟨R,0,none⟩), .int .i64 n] w (ExprD R p n w):=by
 obtain ⟨i0,hi,Az,Ax,AC⟩:=info_parts f5;have BG:=agC h.lt
 go_enter Tryz.func167,Tryz.ntmps167
 go_wp2_with fail;refine (aj R p 4 _ (by omega) h).mono ?_;rintro e w1 ⟨i,rfl,Fp,DX,-,Ck,hg1,Cj⟩;have Gt:=DX (by omega);obtain ⟨i1,rfl⟩:=agG Fp;have Cr:=agC hg1;have SV:=agC (show 1+(i1:Int)=((1+i1:Nat):Int) by omega)
 have F9:1+i1=1∨1+i1=2∨1+i1=3∨1+i1=4:=by omega
 have M0:kp (1+i1)≤968:=by rcases F9 with h|h|h|h<;>rw [h]<;>decide
 have DL:cb (1+i1)≤40:=by rcases F9 with h|h|h|h<;>rw [h]<;>decide
 clear DX hg1 Cj h F9;go_wp2_with fail;rw [SV.out];refine (zH (1+i1) R (p+1) _ (by omega) (by omega) Ck).mono ?_;rintro e w2 ⟨v,l,rfl,Ad,Ef,FF,QV,AM,hg2⟩;obtain ⟨g,cap,rfl,-,Ij,IV,JC,GC⟩:=vl Ad FF;unfold maxLen at GC
 have SW:l.length≤40:=by omega
 have hR:w.heap.size≤w1.heap.size:=Cr.out.size;have HO:=agC (Ad.mono hR);have DC:=agC Ef;have Bi:=agC (af Cr.out hg2);have LI:Rdm w2 R (p+970):=AM.mono (by omega)
 have SZ:w.heap.size≤g:=by omega
 have Vq:R<g:=by have:=BG.out;omega
 clear Ad Ef QV AM hg2 Ck Cr Ij M0 DL;go_wp2_with fail;refine (fH R (p+970) n _ (by omega) (by omega) (by omega) LI).mono ?_;rintro e w3 ⟨b,rfl,C6,AR,AF,BZ⟩;have BY:=agC (HO.out.kept AF (.inr (by simp [Value.ownBlock];omega)));have AE:=agC (af Bi.out AF);clear AF BZ LI HO Bi
 cases b with
 |false=>
  go_wp2;go_ret;exact ExprD.of_own BY.out BG.out DC.out (by omega) FF AR (by omega) AE.out
 |true=>
  have hn: ¬n<1:=fun h=>by have:=C6 h;cases this
  clear C6;go_wp2_with fail;refine (aj R (p+970+1) 6 _ (by omega) AR).mono ?_;rintro e w4 ⟨y,rfl,Fo,EU,-,Bg,AW,FW⟩;have Lb:=EU (by omega);obtain ⟨y1,rfl⟩:=agG Fo;have Cd:=agC (BY.out.kept AW (.inr (by simp [Value.ownBlock];omega)));have AV:=agC (af AE.out AW);have BJ:=agC (Bg.mono (show _≤p+972 by omega));clear EU AW FW AR BY AE Bg
  have S3:y1=0∨y1=1∨y1=2∨y1=3∨y1=4∨y1=5:=by omega
  clear Lb
  rcases S3 with rfl|rfl|rfl|rfl|rfl|rfl
  ·go_wp2_with (at_builtin;refine wpList_append_own _ rfl _ _ 30 rfl w.heap.size 110 i0 (.agg #[.int .i64 0, .string ByteArray.empty, .int .i64 0]) 3 32 Tryz.underlying30 hi Az Ax AC rfl (by decide) _ _ _ rfl (Cd.out.alloc _) ⟨w4.heap.size,0,none⟩ 1 1 [.int .i64 1, .string ⟨#[49]⟩, .int .i64 0] rfl rfl (World.news_of_block (cs:= #[.int .i64 1, .string ⟨#[49]⟩, .int .i64 0]) (t:=110) (fr:=(0,0)) (heap_alloc_new w4 _)) (by simp [Value.oneCell']) (by unfold maxLen;omega) (by omega) (by have:=AV.out.size;simp;omega) ?_;intro v6 w6 Ct Bn LK;have FE:=agC Ct;have CV:=agC (dZ (bq AV.out _) Bn (fun q hq=>(Cd.out.lt q hq).1));have Hm:=agC ((BJ.out.kept (agF w4 _ none) (by simp)).kept Bn (fun q hq=>by have:=(Cd.out.lt q hq).1;have:=BG.out;omega));clear Ct Bn LK)
   go_ret;refine ExprD.of_own (l:=l++[(1,⟨#[49]⟩,0)]) (m:=l.length+1) ?_ BG.out ?_ ?_ ?_ Hm.out (by omega) CV.out
   ·rw [dt];exact FE.out
   ·intro c hc
    rw [List.mem_append,List.mem_singleton] at hc
    rcases hc with hc|rfl
    ·exact DC.out c hc
    ·decide
   ·rw [agE,List.length_singleton];omega
   ·rw [agE,List.length_singleton];omega
  ·have M6:=agC (RowK.of_own Cd.out (agD _))
   by_cases Es:cap=1
   ·subst Es
    have NL:l.length=1:=by omega
    go_wp2;go_ret;refine ⟨_,[],rfl, ?_,fun c hc=>by simp at hc,by simp,fun h=>by omega,BJ.out.mono (by omega),AV.out⟩
    exact fun _ _ _=>⟨_,0,rfl,agD _,by unfold maxLen;omega, .inl rfl⟩
   ·have IU: ¬(cap:Int)=1:=by omega
    have S4:=agC (fun w' hg hs=>(M6.out w' hg hs).sub 1 l.length FF (agD _));go_wp2;go_ret;refine ⟨_,(l.take l.length).drop 1,rfl, ?_,fun c hc=>DC.out c (List.mem_of_mem_take (List.mem_of_mem_drop hc)),by rw [List.length_drop,List.length_take];omega,fun h=>by omega,BJ.out.mono (by omega),AV.out⟩;exact S4.out
  ·go_wp2_with fail
   refine (aj R (p+972) (l.length:Int) _ (by omega) BJ.out).mono ?_;rintro e w5 ⟨x,rfl,DH,Cw,-,Bh,AS,FG⟩;have EJ:=Cw (by omega);obtain ⟨k,rfl⟩:=agG DH
   have Cs:k<l.length:=by omega
   have BQ:=agC (Cd.out.kept AS (.inr (by simp [Value.ownBlock];omega)));have Bk:=agC (af AV.out AS);clear Cw AS FG Cd AV;go_wp2_with fail;refine (aj R (p+972+1) 11 _ (by omega) Bh).mono ?_;rintro e w6 ⟨t,rfl,-,-,-,D6,CW,Ev⟩;have FE:=agC (BQ.out.kept CW (.inr (by simp [Value.ownBlock];omega)));have CV:=agC (af Bk.out CW);clear CW Ev BQ Bk
   obtain ⟨u,hu⟩: ∃u,w6.cell? ⟨g,k*3,none⟩=some u:=by
    rw [FE.out.cellAt (k*3) (by omega),List.getElem?_eq_getElem (by rw [ew];omega)];exact ⟨_,rfl⟩
   have hfz:=FE.out.frozenAt (k*3);have HS:=agC (FE.out.stored (k*3) (.int .i64 t));have Ih:=agC (vh l k Cs t);go_wp2;go_ret;refine ExprD.of_own (l:=l.set k (t,l[k].2.1,l[k].2.2)) (m:=l.length) ?_ BG.out ?_ ?_ ?_ (D6.kept HS.out.2 (by intro q hq;simp only [Option.some.injEq] at hq;omega)) (by omega) (dZ CV.out HS.out.2 (by intro q hq;simp only [Option.some.injEq] at hq;omega))
   ·rw [←Ih.out];exact HS.out.1
   ·exact mj DC.out k _ (show l[k].2.1.size≤60 from DC.out _ (List.getElem_mem Cs))
   ·rw [List.length_set];omega
   ·rw [List.length_set];omega
  ·go_wp2_with fail
   refine (aj R (p+972) (l.length:Int) _ (by omega) BJ.out).mono ?_;rintro e w5 ⟨x,rfl,DH,Cw,-,Bh,AS,FG⟩;have EJ:=Cw (by omega);obtain ⟨k,rfl⟩:=agG DH
   have Cs:k<l.length:=by omega
   have BQ:=agC (Cd.out.kept AS (.inr (by simp [Value.ownBlock];omega)));have Bk:=agC (af AV.out AS);clear Cw AS FG Cd AV;have ON:=Bh.kept (agF w5 (.cells #[.int .i64 (-1), .int .i64 4, .int .i64 9] 3) none) (by simp);go_wp2_with fail;refine (aj R (p+972+1) 3 _ (by omega) ON).mono ?_;rintro e w6 ⟨z,rfl,Lh,Ic,-,D6,CW,Ev⟩;have S5:=Ic (by omega);obtain ⟨z1,rfl⟩:=agG Lh;obtain ⟨t,Aq⟩:=three z1 (by omega);have CY:=cX Bh.lt CW Aq;have FE:=agC ((BQ.out.alloc _).kept CW (.inr (by simp [Value.ownBlock];omega)));have CV:=agC (af (bq Bk.out _) CW);clear Ic CW Ev BQ Bk Aq
   obtain ⟨u,hu⟩: ∃u,w6.cell? ⟨g,k*3+2,none⟩=some u:=by
    rw [FE.out.cellAt (k*3+2) (by omega),List.getElem?_eq_getElem (by rw [ew];omega)];exact ⟨_,rfl⟩
   have hfz:=FE.out.frozenAt (k*3+2);have HS:=agC (FE.out.stored (k*3+2) (.int .i64 t));have Ih:=agC (vj l k Cs t);go_wp2;go_ret;refine ExprD.of_own (l:=l.set k (l[k].1,l[k].2.1,t)) (m:=l.length) ?_ BG.out ?_ ?_ ?_ (D6.kept HS.out.2 (by intro q hq;simp only [Option.some.injEq] at hq;omega)) (by omega) (dZ CV.out HS.out.2 (by intro q hq;simp only [Option.some.injEq] at hq;omega))
   ·rw [←Ih.out];exact HS.out.1
   ·exact mj DC.out k _ (show l[k].2.1.size≤60 from DC.out _ (List.getElem_mem Cs))
   ·rw [List.length_set];omega
   ·rw [List.length_set];omega
  ·go_wp2_with fail
   go_loopw [5,6] (fun out i wr=> ∃(k:Nat) (l':List Cl),k≤12∧i= .int .i64 (k:Int)∧wr.ownsRow w.heap.size 110 3 out l'.length (ai l')∧(∀c∈l',c.2.1.size≤60)∧1≤l'.length∧l'.length≤40+k∧Rdm wr R (p+972)∧w.grownBy wr (some R)) (fun _ i _=>12-(intOf i).toNat)
   case atStart=>exact ⟨0,l,agH _,rfl,Cd.out,DC.out,FF,by omega,BJ.out,AV.out⟩
   case round=>
    obtain ⟨k,l',hk,rfl,Ad,Ef,OO,QV,hr,hg⟩:=hrel;have HO:=agC Ad;have LJ:=agC Ef;have HR:=agC hr;have HG:=agC hg;clear Ad Ef hr hg
    by_cases Ab:k<12
    ·have JE:=agC (World.ownsRow_lit (base:=w.heap.size) (e:=110) (size:=3) wr #[.int .i64 7, .string ⟨#[33]⟩, .int .i64 1] 1 HG.out.size (by unfold maxLen;omega) rfl)
     have MO:=agC (HO.out.alloc (.cells #[.int .i64 7, .string ⟨#[33]⟩, .int .i64 1] 110));have S6:w.heap.size≤wr.heap.size:=HG.out.size
     go_wp2_with (at_builtin;refine du rfl _ _ 30 rfl w.heap.size 110 i0 (.agg #[.int .i64 0, .string ByteArray.empty, .int .i64 0]) 3 32 Tryz.underlying30 hi Az Ax AC rfl (by decide) _ _ _ rfl JE.out _ _ _ _ rfl MO.out (bU _) (by unfold maxLen;omega) (by omega) (by simp;omega) ?_;intro v6 w6 Ct Bn)
     have FE:=agC Ct;have CV:=agC (dZ (bq HG.out _) Bn (fun q hq=>(JE.out.lt q hq).1));have Hm:=agC ((HR.out.kept (agF wr _ none) (by simp)).kept Bn (fun q hq=>by have:=(JE.out.lt q hq).1;have:=BG.out;omega));clear Ct Bn;go_roundw
     case rel=>exact ⟨k+1,(7,⟨#[33]⟩,1)::l',by omega,by go_num,by rw [List.length_cons,eN,Nat.add_comm];exact FE.out,vk LJ.out _ (show (⟨#[33]⟩:ByteArray).size≤60 by decide),by rw [List.length_cons];omega,by rw [List.length_cons];omega,Hm.out,CV.out⟩
     case measure=>simp [intOf];omega
    ·go_wp2
     go_ret;exact ExprD.of_own HO.out BG.out LJ.out (by omega) OO HR.out (by omega) HG.out
  ·go_wp2_with fail
   refine (aj R (p+972) (l.length:Int) _ (by omega) BJ.out).mono ?_;rintro e w5 ⟨x,rfl,DH,Cw,-,Bh,AS,FG⟩;have EJ:=Cw (by omega);obtain ⟨k,rfl⟩:=agG DH
   have Cs:k<l.length:=by omega
   have BQ:=agC (Cd.out.kept AS (.inr (by simp [Value.ownBlock];omega)));have Bk:=agC (af AV.out AS);clear Cw AS FG Cd AV
   obtain ⟨u,hu⟩: ∃u,w5.cell? ⟨g,k*3+1,none⟩=some u:=by
    rw [BQ.out.cellAt (k*3+1) (by omega),List.getElem?_eq_getElem (by rw [ew];omega)];exact ⟨_,rfl⟩
   have hfz:=BQ.out.frozenAt (k*3+1);have HS:=agC (BQ.out.stored (k*3+1) (.string ⟨#[63]⟩));have Ih:=agC (vi l k Cs ⟨#[63]⟩);go_wp2;go_ret;refine ExprD.of_own (l:=l.set k (l[k].1,⟨#[63]⟩,l[k].2.2)) (m:=l.length) ?_ BG.out ?_ ?_ ?_ (Bh.kept HS.out.2 (by intro q hq;simp only [Option.some.injEq] at hq;omega)) (by omega) (dZ Bk.out HS.out.2 (by intro q hq;simp only [Option.some.injEq] at hq;omega))
   ·rw [←Ih.out];exact HS.out.1
   ·exact mj DC.out k _ (by show (⟨#[63]⟩:ByteArray).size≤60;decide)
   ·rw [List.length_set];omega
   ·rw [List.length_set];omega
end Go.Proofs.YtegdjjjpoahamaaGreatDoor
