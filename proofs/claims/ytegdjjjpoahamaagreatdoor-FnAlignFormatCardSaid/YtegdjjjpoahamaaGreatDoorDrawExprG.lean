/-
  Drawn expressions, often bent: spec.l20Expr.
-/
import Derived.Test.YtegdjjjpoahamaaGreatDoorDrawCells
import Derived.Deep.Onto
import Derived.Test.YtegdjjjpoahamaaGreatDoorBaseE
set_option linter.unusedVariables false
set_option maxHeartbeats 8000000
set_option maxRecDepth 100000
namespace Go.Proofs.YtegdjjjpoahamaaGreatDoor
open Go.RowKit
theorem flatC_cons (a:Cl) (t:List Cl):flatC (a::t)= .int .i64 a.1:: .string a.2.1:: .int .i64 a.2.2::flatC t:=by simp [flatC]
theorem flatC_set0 (l:List Cl): ∀(k:Nat) (h:k<l.length) (x:Int),(flatC l).set (k*3) (.int .i64 x)=flatC (l.set k (x,l[k].2.1,l[k].2.2)):=by
 induction l with
 |nil=>intro k h;simp at h
 |cons a t ih=>
  intro k h x
  cases k with
  |zero=>simp only [flatC_cons,List.set_cons_zero,List.getElem_cons_zero,Nat.zero_mul]
  |succ k=>
   have hk:k<t.length:=by simpa using h
   simp only [flatC_cons,show (k+1)*3=(k*3)+1+1+1 by omega,List.set_cons_succ,List.getElem_cons_succ,ih k hk x]
theorem flatC_set1 (l:List Cl): ∀(k:Nat) (h:k<l.length) (x:ByteArray),(flatC l).set (k*3+1) (.string x)=flatC (l.set k (l[k].1,x,l[k].2.2)):=by
 induction l with
 |nil=>intro k h;simp at h
 |cons a t ih=>
  intro k h x
  cases k with
  |zero=>simp only [flatC_cons,List.set_cons_zero,List.getElem_cons_zero,Nat.zero_mul,Nat.zero_add,List.set_cons_succ]
  |succ k=>
   have hk:k<t.length:=by simpa using h
   simp only [flatC_cons,show (k+1)*3+1=(k*3+1)+1+1+1 by omega,List.set_cons_succ,List.getElem_cons_succ,ih k hk x]
theorem flatC_set2 (l:List Cl): ∀(k:Nat) (h:k<l.length) (x:Int),(flatC l).set (k*3+2) (.int .i64 x)=flatC (l.set k (l[k].1,l[k].2.1,x)):=by
 induction l with
 |nil=>intro k h;simp at h
 |cons a t ih=>
  intro k h x
  cases k with
  |zero=>simp only [flatC_cons,List.set_cons_zero,List.getElem_cons_zero,Nat.zero_mul,Nat.zero_add,List.set_cons_succ]
  |succ k=>
   have hk:k<t.length:=by simpa using h
   simp only [flatC_cons,show (k+1)*3+2=(k*3+2)+1+1+1 by omega,List.set_cons_succ,List.getElem_cons_succ,ih k hk x]
theorem short_set {l:List Cl} (h: ∀c∈l,c.2.1.size≤60) (k:Nat) (c:Cl) (hc:c.2.1.size≤60): ∀d∈l.set k c,d.2.1.size≤60:=by
 intro d hd
 rcases List.mem_or_eq_of_mem_set hd with hd|rfl
 ·exact h d hd
 ·exact hc
theorem short_cons {l:List Cl} (h: ∀c∈l,c.2.1.size≤60) (c:Cl) (hc:c.2.1.size≤60): ∀d∈c::l,d.2.1.size≤60:=by
 intro d hd
 rw [List.mem_cons] at hd
 rcases hd with rfl|hd
 ·exact hc
 ·exact h d hd
def RowK (B:Nat) (w:World) (v:Value) (l:List Cl):Prop:= ∀w':World,(∀b,B≤b→b<w.heap.size→w'.heap[b]? =w.heap[b]?)→w.heap.size≤w'.heap.size→RowC w' v l
theorem RowK.row {B:Nat} {w:World} {v:Value} {l:List Cl} (h:RowK B w v l):RowC w v l:=h w (fun _ _ _=>rfl) (Nat.le_refl _)
theorem RowK.of_own {B b m:Nat} {w:World} {v:Value} {l:List Cl} (h:w.ownsRow b 110 3 v m (flatC l)) (hb:B≤b):RowK B w v l:=fun w' hw hs=>
 (RowC.of_own (own_keep h (fun g hg=>hw g (Nat.le_trans hb (h.lt g hg).1) (h.lt g hg).2))).1
theorem RowK.keep {B:Nat} {w w1:World} {v:Value} {l:List Cl} (h:RowK B w v l) (hw: ∀b,B≤b→b<w.heap.size→w1.heap[b]? =w.heap[b]?) (hs:w.heap.size≤w1.heap.size):RowK B w1 v l:=fun w' h1 h2=>
 h w' (fun b hb hlt=>(h1 b hb (by omega)).trans (hw b hb hlt)) (by omega)
theorem RowK.lower {B B':Nat} {w:World} {v:Value} {l:List Cl} (h:RowK B w v l) (hb:B'≤B):RowK B' w v l:=fun w' h1 h2=>h w' (fun b hb' hlt=>h1 b (by omega) hlt) h2
def ExprD (R p:Nat) (n:Int) (w:World) (e:Ending) (w':World):Prop:=
 ∃(v:Value) (l:List Cl),e= .returned v∧RowK w.heap.size w' v l∧(∀c∈l,c.2.1.size≤60)∧l.length≤60∧(n<1→1≤l.length)∧Rdm w' R (p+1000)∧w.grownBy w' (some R)
theorem ExprD.of_own {R p q m:Nat} {n:Int} {w w':World} {v:Value} {l:List Cl} (h:w'.ownsRow w.heap.size 110 3 v m (flatC l)) (hRb:R<w.heap.size) (hs: ∀c∈l,c.2.1.size≤60) (hl:l.length≤60) (hn:1≤l.length) (hr:Rdm w' R q) (hq:q≤p+1000) (hg:w.grownBy w' (some R)):
  ExprD R p n w (.returned v) w':=⟨v,l,rfl,RowK.of_own h (Nat.le_refl _),hs,hl,fun _=>hn,hr.mono hq,hg⟩
theorem three (m:Nat) (h:m<3): ∃t:Int,(#[Value.int .i64 (-1), .int .i64 4, .int .i64 9]:Array Value)[m]? =some (.int .i64 t):=by
 match m,h with
 |0,_=>exact ⟨_,rfl⟩
 |1,_=>exact ⟨_,rfl⟩
 |2,_=>exact ⟨_,rfl⟩
theorem slice_form {w:World} {b m:Nat} {v:Value} {l:List Cl} (h:w.ownsRow b 110 3 v m (flatC l)) (hl:1≤l.length): ∃g cap,v= .slice (some ⟨g,0,none⟩) l.length cap∧m=l.length∧b≤g∧g<w.heap.size∧l.length≤cap∧cap≤maxLen:=by
 have hm:=(RowC.of_own h).2
 subst hm
 rcases h.2 with ⟨rfl,h0⟩|⟨g,cap,cur,rfl,hb,hh,h1,h2,_⟩
 ·omega
 ·exact ⟨g,cap,rfl,rfl,hb,(h.lt g rfl).2,h1,h2⟩
theorem expr_any (R p:Nat) (n:Int) (w:World) (hp:p<100000000) (hn0:0≤n) (hn1:n≤1000) (h:Rdm w R p):
  Calls Tryz.prog 167 #[.pointer (some ⟨R,0,none⟩), .int .i64 n] w (ExprD R p n w):=by
 obtain ⟨i0,hi,hz0,hz1,hz2⟩:=info_parts infoC
 have HLT:=Lib.hid h.lt
 go_enter Tryz.func167,Tryz.ntmps167
 go_wp2_with fail
 refine (pick_any R p 4 _ (by omega) h).mono ?_
 rintro e w1 ⟨i,rfl,hi0,hi1,-,hr1,hg1,hs1⟩
 have hi2:=hi1 (by omega)
 obtain ⟨i1,rfl⟩:=Int.eq_ofNat_of_zero_le hi0
 have HG1:=Lib.hid hg1
 have HDE:=Lib.hid (show 1+(i1:Int)=((1+i1:Nat):Int) by omega)
 have hd4:1+i1=1∨1+i1=2∨1+i1=3∨1+i1=4:=by omega
 have hkp:kp (1+i1)≤968:=by rcases hd4 with h|h|h|h<;>rw [h]<;>decide
 have hcb:cb (1+i1)≤40:=by rcases hd4 with h|h|h|h<;>rw [h]<;>decide
 clear hi1 hg1 hs1 h hd4
 go_wp2_with fail
 rw [HDE.out]
 refine (cells_any (1+i1) R (p+1) _ (by omega) (by omega) hr1).mono ?_
 rintro e w2 ⟨v,l,rfl,hown,hsh,hl1,hlc,hr2,hg2⟩
 obtain ⟨g,cap,rfl,-,hbg,hgl,hcap,hcm⟩:=slice_form hown hl1
 unfold maxLen at hcm
 have hl40:l.length≤40:=by omega
 have hR:w.heap.size≤w1.heap.size:=HG1.out.size
 have HO:=Lib.hid (hown.mono hR);have HSH:=Lib.hid hsh
 have HG2:=Lib.hid (grown_trans HG1.out hg2)
 have hr2':Rdm w2 R (p+970):=hr2.mono (by omega)
 have hgw:w.heap.size≤g:=by omega
 have hRg:R<g:=by have:=HLT.out;omega
 clear hown hsh hlc hr2 hg2 hr1 HG1 hbg hkp hcb
 go_wp2_with fail
 refine (odd_any R (p+970) n _ (by omega) (by omega) (by omega) hr2').mono ?_
 rintro e w3 ⟨b,rfl,hbn,hr3,hg3,hs3⟩
 have HO3:=Lib.hid (HO.out.kept hg3 (.inr (by simp [Value.ownBlock];omega)))
 have HG3:=Lib.hid (grown_trans HG2.out hg3)
 clear hg3 hs3 hr2' HO HG2
 cases b with
 |false=>
  go_wp2
  go_ret
  exact ExprD.of_own HO3.out HLT.out HSH.out (by omega) hl1 hr3 (by omega) HG3.out
 |true=>
  have hn: ¬n<1:=fun h=>by have:=hbn h;cases this
  clear hbn
  go_wp2_with fail
  refine (pick_any R (p+970+1) 6 _ (by omega) hr3).mono ?_
  rintro e w4 ⟨y,rfl,hy0,hy1,-,hr4,hg4,hs4⟩
  have hy2:=hy1 (by omega)
  obtain ⟨y1,rfl⟩:=Int.eq_ofNat_of_zero_le hy0
  have HO4:=Lib.hid (HO3.out.kept hg4 (.inr (by simp [Value.ownBlock];omega)))
  have HG4:=Lib.hid (grown_trans HG3.out hg4)
  have HR4:=Lib.hid (hr4.mono (show _≤p+972 by omega))
  clear hy1 hg4 hs4 hr3 HO3 HG3 hr4
  have hy6:y1=0∨y1=1∨y1=2∨y1=3∨y1=4∨y1=5:=by omega
  clear hy2
  rcases hy6 with rfl|rfl|rfl|rfl|rfl|rfl
  ·go_wp2_with (at_builtin;refine wpList_append_own _ rfl _ _ 30 rfl w.heap.size 110 i0 (.agg #[.int .i64 0, .string ByteArray.empty, .int .i64 0]) 3 32 Tryz.underlying30 hi hz0 hz1 hz2 rfl (by decide) _ _ _ rfl (HO4.out.alloc _) ⟨w4.heap.size,0,none⟩ 1 1 [.int .i64 1, .string ⟨#[49]⟩, .int .i64 0] rfl rfl (World.news_of_block (cs:= #[.int .i64 1, .string ⟨#[49]⟩, .int .i64 0]) (t:=110) (fr:=(0,0)) (heap_alloc_new w4 _)) (by simp [Value.oneCell']) (by unfold maxLen;omega) (by omega) (by have:=HG4.out.size;simp;omega) ?_;intro v6 w6 hown6 hgrow6 hnil6;have HO6:=Lib.hid hown6;have HG6:=Lib.hid (grown_own (grown_alloc HG4.out _) hgrow6 (fun q hq=>(HO4.out.lt q hq).1));have HR6:=Lib.hid ((HR4.out.kept (World.grownBy_alloc w4 _ none) (by simp)).kept hgrow6 (fun q hq=>by have:=(HO4.out.lt q hq).1;have:=HLT.out;omega));clear hown6 hgrow6 hnil6)
   go_ret
   refine ExprD.of_own (l:=l++[(1,⟨#[49]⟩,0)]) (m:=l.length+1) ?_ HLT.out ?_ ?_ ?_ HR6.out (by omega) HG6.out
   ·rw [flatC_append];exact HO6.out
   ·intro c hc
    rw [List.mem_append,List.mem_singleton] at hc
    rcases hc with hc|rfl
    ·exact HSH.out c hc
    ·decide
   ·rw [List.length_append,List.length_singleton];omega
   ·rw [List.length_append,List.length_singleton];omega
  ·have HRC:=Lib.hid (RowK.of_own HO4.out (Nat.le_refl _))
   by_cases hc1:cap=1
   ·subst hc1
    have hll:l.length=1:=by omega
    go_wp2
    go_ret
    refine ⟨_,[],rfl, ?_,fun c hc=>by simp at hc,by simp,fun h=>by omega,HR4.out.mono (by omega),HG4.out⟩
    exact fun _ _ _=>⟨_,0,rfl,Nat.le_refl _,by unfold maxLen;omega, .inl rfl⟩
   ·have hcc: ¬(cap:Int)=1:=by omega
    have HSB:=Lib.hid (fun w' hg hs=>(HRC.out w' hg hs).sub 1 l.length hl1 (Nat.le_refl _))
    go_wp2
    go_ret
    refine ⟨_,(l.take l.length).drop 1,rfl, ?_,fun c hc=>HSH.out c (List.mem_of_mem_take (List.mem_of_mem_drop hc)),by rw [List.length_drop,List.length_take];omega,fun h=>by omega,HR4.out.mono (by omega),HG4.out⟩
    exact HSB.out
  ·go_wp2_with fail
   refine (pick_any R (p+972) (l.length:Int) _ (by omega) HR4.out).mono ?_
   rintro e w5 ⟨x,rfl,hx0,hx1,-,hr5,hg5,hs5⟩
   have hx2:=hx1 (by omega)
   obtain ⟨k,rfl⟩:=Int.eq_ofNat_of_zero_le hx0
   have hkl:k<l.length:=by omega
   have HO5:=Lib.hid (HO4.out.kept hg5 (.inr (by simp [Value.ownBlock];omega)))
   have HG5:=Lib.hid (grown_trans HG4.out hg5)
   clear hx1 hg5 hs5 HO4 HG4
   go_wp2_with fail
   refine (pick_any R (p+972+1) 11 _ (by omega) hr5).mono ?_
   rintro e w6 ⟨t,rfl,-,-,-,hr6,hg6,hs6⟩
   have HO6:=Lib.hid (HO5.out.kept hg6 (.inr (by simp [Value.ownBlock];omega)))
   have HG6:=Lib.hid (grown_trans HG5.out hg6)
   clear hg6 hs6 HO5 HG5
   obtain ⟨u,hu⟩: ∃u,w6.cell? ⟨g,k*3,none⟩=some u:=by
    rw [HO6.out.cellAt (k*3) (by omega),List.getElem?_eq_getElem (by rw [flatC_length];omega)];exact ⟨_,rfl⟩
   have hfz:=HO6.out.frozenAt (k*3)
   have HS:=Lib.hid (HO6.out.stored (k*3) (.int .i64 t))
   have HNW:=Lib.hid (flatC_set0 l k hkl t)
   go_wp2
   go_ret
   refine ExprD.of_own (l:=l.set k (t,l[k].2.1,l[k].2.2)) (m:=l.length) ?_ HLT.out ?_ ?_ ?_ (hr6.kept HS.out.2 (by intro q hq;simp only [Option.some.injEq] at hq;omega)) (by omega) (grown_own HG6.out HS.out.2 (by intro q hq;simp only [Option.some.injEq] at hq;omega))
   ·rw [←HNW.out];exact HS.out.1
   ·exact short_set HSH.out k _ (show l[k].2.1.size≤60 from HSH.out _ (List.getElem_mem hkl))
   ·rw [List.length_set];omega
   ·rw [List.length_set];omega
  ·go_wp2_with fail
   refine (pick_any R (p+972) (l.length:Int) _ (by omega) HR4.out).mono ?_
   rintro e w5 ⟨x,rfl,hx0,hx1,-,hr5,hg5,hs5⟩
   have hx2:=hx1 (by omega)
   obtain ⟨k,rfl⟩:=Int.eq_ofNat_of_zero_le hx0
   have hkl:k<l.length:=by omega
   have HO5:=Lib.hid (HO4.out.kept hg5 (.inr (by simp [Value.ownBlock];omega)))
   have HG5:=Lib.hid (grown_trans HG4.out hg5)
   clear hx1 hg5 hs5 HO4 HG4
   have hr5':=hr5.kept (World.grownBy_alloc w5 (.cells #[.int .i64 (-1), .int .i64 4, .int .i64 9] 3) none) (by simp)
   go_wp2_with fail
   refine (pick_any R (p+972+1) 3 _ (by omega) hr5').mono ?_
   rintro e w6 ⟨z,rfl,hz0',hz1',-,hr6,hg6,hs6⟩
   have hz2':=hz1' (by omega)
   obtain ⟨z1,rfl⟩:=Int.eq_ofNat_of_zero_le hz0'
   obtain ⟨t,hlit⟩:=three z1 (by omega)
   have hcell9:=lit_cell hr5.lt hg6 hlit
   have HO6:=Lib.hid ((HO5.out.alloc _).kept hg6 (.inr (by simp [Value.ownBlock];omega)))
   have HG6:=Lib.hid (grown_trans (grown_alloc HG5.out _) hg6)
   clear hz1' hg6 hs6 HO5 HG5 hlit
   obtain ⟨u,hu⟩: ∃u,w6.cell? ⟨g,k*3+2,none⟩=some u:=by
    rw [HO6.out.cellAt (k*3+2) (by omega),List.getElem?_eq_getElem (by rw [flatC_length];omega)];exact ⟨_,rfl⟩
   have hfz:=HO6.out.frozenAt (k*3+2)
   have HS:=Lib.hid (HO6.out.stored (k*3+2) (.int .i64 t))
   have HNW:=Lib.hid (flatC_set2 l k hkl t)
   go_wp2
   go_ret
   refine ExprD.of_own (l:=l.set k (l[k].1,l[k].2.1,t)) (m:=l.length) ?_ HLT.out ?_ ?_ ?_ (hr6.kept HS.out.2 (by intro q hq;simp only [Option.some.injEq] at hq;omega)) (by omega) (grown_own HG6.out HS.out.2 (by intro q hq;simp only [Option.some.injEq] at hq;omega))
   ·rw [←HNW.out];exact HS.out.1
   ·exact short_set HSH.out k _ (show l[k].2.1.size≤60 from HSH.out _ (List.getElem_mem hkl))
   ·rw [List.length_set];omega
   ·rw [List.length_set];omega
  ·go_wp2_with fail
   go_loopw [5,6] (fun out i wr=> ∃(k:Nat) (l':List Cl),k≤12∧i= .int .i64 (k:Int)∧wr.ownsRow w.heap.size 110 3 out l'.length (flatC l')∧(∀c∈l',c.2.1.size≤60)∧1≤l'.length∧l'.length≤40+k∧Rdm wr R (p+972)∧w.grownBy wr (some R)) (fun _ i _=>12-(intOf i).toNat)
   case atStart=>exact ⟨0,l,Nat.zero_le _,rfl,HO4.out,HSH.out,hl1,by omega,HR4.out,HG4.out⟩
   case round=>
    obtain ⟨k,l',hk,rfl,hown,hsh,hl1',hlc,hr,hg⟩:=hrel
    have HO:=Lib.hid hown;have HSH':=Lib.hid hsh;have HR:=Lib.hid hr;have HG:=Lib.hid hg
    clear hown hsh hr hg
    by_cases hlt:k<12
    ·have HLIT:=Lib.hid (World.ownsRow_lit (base:=w.heap.size) (e:=110) (size:=3) wr #[.int .i64 7, .string ⟨#[33]⟩, .int .i64 1] 1 HG.out.size (by unfold maxLen;omega) rfl)
     have HOA:=Lib.hid (HO.out.alloc (.cells #[.int .i64 7, .string ⟨#[33]⟩, .int .i64 1] 110))
     have hws:w.heap.size≤wr.heap.size:=HG.out.size
     go_wp2_with (at_builtin;refine append_rows rfl _ _ 30 rfl w.heap.size 110 i0 (.agg #[.int .i64 0, .string ByteArray.empty, .int .i64 0]) 3 32 Tryz.underlying30 hi hz0 hz1 hz2 rfl (by decide) _ _ _ rfl HLIT.out _ _ _ _ rfl HOA.out (flatC_one _) (by unfold maxLen;omega) (by omega) (by simp;omega) ?_;intro v6 w6 hown6 hgrow6)
     have HO6:=Lib.hid hown6
     have HG6:=Lib.hid (grown_own (grown_alloc HG.out _) hgrow6 (fun q hq=>(HLIT.out.lt q hq).1))
     have HR6:=Lib.hid ((HR.out.kept (World.grownBy_alloc wr _ none) (by simp)).kept hgrow6 (fun q hq=>by have:=(HLIT.out.lt q hq).1;have:=HLT.out;omega))
     clear hown6 hgrow6
     go_roundw
     case rel=>exact ⟨k+1,(7,⟨#[33]⟩,1)::l',by omega,by go_num,by rw [List.length_cons,flatC_cons,Nat.add_comm];exact HO6.out,short_cons HSH'.out _ (show (⟨#[33]⟩:ByteArray).size≤60 by decide),by rw [List.length_cons];omega,by rw [List.length_cons];omega,HR6.out,HG6.out⟩
     case measure=>simp [intOf];omega
    ·go_wp2
     go_ret
     exact ExprD.of_own HO.out HLT.out HSH'.out (by omega) hl1' HR.out (by omega) HG.out
  ·go_wp2_with fail
   refine (pick_any R (p+972) (l.length:Int) _ (by omega) HR4.out).mono ?_
   rintro e w5 ⟨x,rfl,hx0,hx1,-,hr5,hg5,hs5⟩
   have hx2:=hx1 (by omega)
   obtain ⟨k,rfl⟩:=Int.eq_ofNat_of_zero_le hx0
   have hkl:k<l.length:=by omega
   have HO5:=Lib.hid (HO4.out.kept hg5 (.inr (by simp [Value.ownBlock];omega)))
   have HG5:=Lib.hid (grown_trans HG4.out hg5)
   clear hx1 hg5 hs5 HO4 HG4
   obtain ⟨u,hu⟩: ∃u,w5.cell? ⟨g,k*3+1,none⟩=some u:=by
    rw [HO5.out.cellAt (k*3+1) (by omega),List.getElem?_eq_getElem (by rw [flatC_length];omega)];exact ⟨_,rfl⟩
   have hfz:=HO5.out.frozenAt (k*3+1)
   have HS:=Lib.hid (HO5.out.stored (k*3+1) (.string ⟨#[63]⟩))
   have HNW:=Lib.hid (flatC_set1 l k hkl ⟨#[63]⟩)
   go_wp2
   go_ret
   refine ExprD.of_own (l:=l.set k (l[k].1,⟨#[63]⟩,l[k].2.2)) (m:=l.length) ?_ HLT.out ?_ ?_ ?_ (hr5.kept HS.out.2 (by intro q hq;simp only [Option.some.injEq] at hq;omega)) (by omega) (grown_own HG5.out HS.out.2 (by intro q hq;simp only [Option.some.injEq] at hq;omega))
   ·rw [←HNW.out];exact HS.out.1
   ·exact short_set HSH.out k _ (by show (⟨#[63]⟩:ByteArray).size≤60;decide)
   ·rw [List.length_set];omega
   ·rw [List.length_set];omega
end Go.Proofs.YtegdjjjpoahamaaGreatDoor
