/-
  impl's (*block).setDepths, DepthsOf, by their contracts.
-/
import Derived.Test.YtegdjjjpoahamaaGreatDoorDocI
import Derived.Test.YtegdjjjpoahamaaGreatDoorBaseI
import Derived.Test.YtegdjjjpoahamaaGreatDoorBaseE
set_option linter.unusedVariables false
set_option maxHeartbeats 4000000
set_option maxRecDepth 100000
namespace Go.Proofs.YtegdjjjpoahamaaGreatDoor
open Go.RowKit
def dps (d:Nat) (l:List It):List Nat:=(depL (d:Int) l).map Int.toNat
theorem dps_length (d:Nat) (l:List It):(dps d l).length=l.length:=by unfold dps;rw [List.length_map,depL_length]
theorem dps_leaf {d:Nat} {i:It} (l:List It) (h4:i.1≠4) (h5:i.1≠5):dps d (i::l)=d::dps d l:=by
 unfold dps;rw [depL_leaf h4 h5,List.map_cons,Int.toNat_natCast]
theorem dps_blk {d:Nat} {o c:It} {inn:List It} (l:List It) (h4:o.1=4) (h5:c.1=5) (hd:d<4) (h:PtD (d+1) inn):dps d (o::(inn++c::l))=d::(dps (d+1) inn++d::dps d l):=by
 unfold dps
 rw [depL_blk h4 h5 hd h]
 simp
theorem dps_app {d:Nat} {a:List It} (b:List It) (h:PtD d a) (hd:d≤4):dps d (a++b)=dps d a++dps d b:=by
 unfold dps
 rw [depL_app,nestO_end _ _ _ (h.self hd),List.map_append]
theorem PtD.deep {d:Nat} {a:List It} (h:PtD d a) (hd:4<d) (b:List It):dps d (a++b)=dps d a++dps d b:=by
 induction h with
 |nil d=>rfl
 |leaf h4 h5 h ih=>rw [List.cons_append,dps_leaf _ h4 h5,dps_leaf _ h4 h5,ih hd];rfl
 |blk h4 h5 hd4 h1 h2 i1 i2=>omega
theorem dps_more {d:Nat} {a:List It} (b:List It) (h:PtD d a):dps d (a++b)=dps d a++dps d b:=by
 by_cases hd:d≤4
 ·exact dps_app b h hd
 ·exact h.deep (by omega) b
theorem TrD.head {w:World} {S:Nat→Prop} {N f d:Nat} {ps:List Nat} {seg:List It} (h:TrD w S (N::ps) f seg d): ∃m b,seg=m++b∧TrD w S [N] f m d∧TrD w S ps (f+m.length) b d:=by
 obtain ⟨a,m,b,e,h1,h2,h3⟩:=h.at 0 (by simp)
 cases h1
 exact ⟨m,b,by simpa using e,by simpa using h2,by simpa using h3⟩
def Fill (d f:Nat) (m inn:List It):Prop:= ∀P Q:List Nat,P.length=f→m.length≤Q.length→
 (((P++Q).set f d).set (f+m.length-1) d).take (f+1)++(dps (d+1) inn++(((P++Q).set f d).set (f+m.length-1) d).drop (f+1+inn.length))=P++(dps d m++Q.drop m.length)
theorem fill_leaf {d f:Nat} {i:It} (h4:i.1≠4) (h5:i.1≠5):Fill d f [i] []:=by
 intro P Q hP hQ
 cases Q with
 |nil=>simp at hQ
 |cons q Q=>
  have e1:(P++q::Q).set f d=P++d::Q:=by rw [List.set_append_right _ _ (by omega),hP,Nat.sub_self];rfl
  rw [show f+[i].length-1=f by simp,e1,List.set_append_right _ _ (by omega),hP,Nat.sub_self,dps_leaf _ h4 h5]
  have e2:P++d::Q=(P++[d])++Q:=by simp
  rw [List.set_cons_zero,e2,List.take_left' (by simp;omega),List.drop_left' (by simp;omega)]
  simp [dps,depL]
theorem fill_blk {d f:Nat} {o c:It} {inn:List It} (h4:o.1=4) (h5:c.1=5) (hd:d<4) (h:PtD (d+1) inn):Fill d f (o::(inn++[c])) inn:=by
 intro P Q hP hQ
 have hQ':inn.length+2≤Q.length:=by simpa using hQ
 obtain ⟨q0,Q1,rfl⟩: ∃q0 Q1,Q=q0::Q1:=by cases Q with
  |nil=>simp at hQ'
  |cons a b=>exact ⟨a,b,rfl⟩
 have hQ1:inn.length+1≤Q1.length:=by simp at hQ';omega
 have hs:Q1=Q1.take inn.length++Q1[inn.length]::Q1.drop (inn.length+1):=by
  rw [←List.drop_eq_getElem_cons (by omega),List.take_append_drop]
 generalize Q1.take inn.length=M at hs
 have hM:M.length=inn.length:=by
  have:=congrArg List.length hs
  rw [List.length_append,List.length_cons,List.length_drop] at this
  omega
 generalize Q1[inn.length]=q1 at hs
 generalize Q1.drop (inn.length+1)=Q2 at hs
 subst hs
 have e0:f+(o::(inn++[c])).length-1=f+1+inn.length:=by simp;omega
 have e1:(P++q0::(M++q1::Q2)).set f d=(P++d::M)++q1::Q2:=by rw [List.set_append_right _ _ (by omega),hP,Nat.sub_self];simp
 have hl:(P++d::M).length=f+1+inn.length:=by simp;omega
 have e2:((P++d::M)++q1::Q2).set (f+1+inn.length) d=(P++d::M)++d::Q2:=by rw [List.set_append_right _ _ (by omega),hl,Nat.sub_self];rfl
 rw [e0,e1,e2,dps_blk _ h4 h5 hd h]
 have e3:((P++d::M)++d::Q2).take (f+1)=P++[d]:=by
  rw [show (P++d::M)++d::Q2=(P++[d])++(M++d::Q2) by simp,List.take_left' (by simp;omega)]
 have e4:((P++d::M)++d::Q2).drop (f+1+inn.length)=d::Q2:=List.drop_left' hl
 have e5:(q0::(M++q1::Q2)).drop (o::(inn++[c])).length=Q2:=by
  rw [show q0::(M++q1::Q2)=(q0::(M++[q1]))++Q2 by simp]
  exact List.drop_left' (by simp;omega)
 rw [e3,e4,e5]
 simp [dps,depL]
theorem TrD.fill {w:World} {S:Nat→Prop} {N f d:Nat} {m:List It} (h:TrD w S [N] f m d):S N∧0<m.length∧ ∃v qs inn,BlkD w N #[.int .i64 (f:Int), .int .i64 ((f+m.length:Nat):Int),v]∧w.ownsRow 0 86 1 v qs.length (ptrs qs)∧(∀r,v.ownBlock=some r→S r)∧TrD w S qs (f+1) inn (d+1)∧inn.length<m.length∧Fill d f m inn:=by
 rcases h.inv with ⟨i,rfl,h4,h5,hN,hb⟩|⟨o,c,inn,v,qs,rfl,h4,h5,hd,hN,hb,ho,hr,h1⟩
 ·exact ⟨hN,by simp,_,[],[],hb,World.ownsRow_nil _ _ _ _,fun r h=>by simp [Value.ownBlock] at h, .nil _ _,by simp,fill_leaf h4 h5⟩
 ·refine ⟨hN,by simp,v,qs,inn, ?_,ho,hr,h1,by simp;omega,fill_blk h4 h5 hd h1.pt⟩
  rw [show f+(o::(inn++[c])).length=f+inn.length+2 by simp;omega]
  exact hb
theorem ints_set (L:List Nat) (k x:Nat):(ints L).set k (.int .i64 (x:Int))=ints (L.set k x):=by unfold ints;rw [List.map_set]
theorem PtD.app {d:Nat} {a b:List It} (h:PtD d a):PtD d b→PtD d (a++b):=by
 induction h with
 |nil d=>intro k;exact k
 |leaf h4 h5 _ ih=>intro k;exact .leaf h4 h5 (ih k)
 |blk h4 h5 hd h1 _ _ i2=>
  intro k
  have:=PtD.blk h4 h5 hd h1 (i2 k)
  simpa using this
theorem TrD.count {w:World} {S:Nat→Prop} {ps:List Nat} {f d:Nat} {seg:List It} (h:TrD w S ps f seg d):ps.length≤seg.length:=by
 induction h with
 |nil=>simp
 |leaf _ _ _ _ _ ih=>simp;omega
 |blk _ _ _ _ _ _ _ _ _ _ _ ih=>simp;omega
def DepsAt (D base n N f d:Nat) (inn:List It) (L:List Nat) (w:World):Prop:=
 Calls Tryz.prog 90 #[.pointer (some ⟨N,0,none⟩), .slice (some ⟨D,0,none⟩) n n, .int .i64 (d:Int)] w fun e w'=>e= .returned (.tuple #[])∧w.grownBy w' (some D)∧w'.ownsRow base 3 1 (.slice (some ⟨D,0,none⟩) n n) n (ints (L.take f++(dps d inn++L.drop (f+inn.length))))
def DepsAll (S:Nat→Prop) (D base n j:Nat):Prop:= ∀(N f d:Nat) (x0 x1 v:Value) (qs:List Nat) (inn:List It) (L:List Nat) (w:World),inn.length<j→d+inn.length≤100→f+inn.length≤n→S N→BlkD w N #[x0,x1,v]→w.ownsRow 0 86 1 v qs.length (ptrs qs)→(∀r,v.ownBlock=some r→S r)→TrD w S qs f inn d→L.length=n→
  w.ownsRow base 3 1 (.slice (some ⟨D,0,none⟩) n n) n (ints L)→DepsAt D base n N f d inn L w
theorem dep_step {S:Nat→Prop} {D base n j f d k:Nat} (hn:n≤1000) (hD: ¬S D) {w wr:World} {qs:List Nat} {inn a b:List It} {L:List Nat} (ih:DepsAll S D base n j) (hj:inn.length<j+1) (hd:d+inn.length≤100) (hf:f+inn.length≤n) (hL:L.length=n)
  (hlt:k<qs.length) (hab:inn=a++b) (hpa:PtD d a) (htb:TrD w S (qs.drop k) (f+a.length) b d) (hg:w.grownBy wr (some D)) (hro:wr.ownsRow base 3 1 (.slice (some ⟨D,0,none⟩) n n) n (ints (L.take f++(dps d a++L.drop (f+a.length))))):
  ∃(P A T U:Nat) (m b2:List It) (X:List Nat),qs[k]=P∧P≠D∧wr.cell? ⟨P,0,none⟩=some (.int .i64 (A:Int))∧wr.cell? ⟨P,1,none⟩=some (.int .i64 (U:Int))∧(U:Int)-1=(T:Int)∧U≤1000∧A<n∧T<n∧
   wr.ownsRow base 3 1 (.slice (some ⟨D,0,none⟩) n n) n (ints X)∧(∀ww,wr.grownBy ww (some D)→ww.ownsRow base 3 1 (.slice (some ⟨D,0,none⟩) n n) n (ints ((X.set A d).set T d))→
    Calls Tryz.prog 90 #[.pointer (some ⟨P,0,none⟩), .slice (some ⟨D,0,none⟩) n n, .int .i64 ((d:Int)+1)] ww fun e w'=>e= .returned (.tuple #[])∧ww.grownBy w' (some D)∧w'.ownsRow base 3 1 (.slice (some ⟨D,0,none⟩) n n) n (ints (L.take f++(dps d (a++m)++L.drop (f+(a++m).length)))))∧
   inn=(a++m)++b2∧PtD d (a++m)∧TrD w S (qs.drop (k+1)) (f+(a++m).length) b2 d:=by
 rw [List.drop_eq_getElem_cons hlt] at htb
 obtain ⟨m,b2,hb2,htm,htr⟩:=htb.head
 obtain ⟨hSP,hpos,v',qs',inn',hbk,hrow,hS',htin,hil,hfill⟩:=htm.fill
 have hPD:qs[k]≠D:=fun e=>hD (e▸hSP)
 have hbkr:=hbk.grown hg (by intro e;injection e with e;exact hPD e)
 have hlen:a.length+m.length+b2.length=inn.length:=by rw [hab,hb2,List.length_append,List.length_append];omega
 have hfl:=hfill (L.take f++dps d a) (L.drop (f+a.length)) (by rw [List.length_append,List.length_take,dps_length];omega) (by rw [List.length_drop];omega)
 rw [List.append_assoc] at hfl
 refine ⟨qs[k],f+a.length,f+a.length+m.length-1,f+a.length+m.length,m,b2,_,rfl,hPD,hbkr.cell 0,hbkr.cell 1,by omega,by omega,by omega,by omega,hro, ?_,by rw [hab,hb2,List.append_assoc],hpa.app htm.pt,by rw [List.length_append,←Nat.add_assoc];exact htr⟩
 intro ww hw how
 have hgg:=grownT hg hw
 have hk2:=hbk.grown hgg (by intro e;injection e with e;exact hPD e)
 have h3:=ih qs[k] (f+a.length+1) (d+1) _ _ v' qs' inn' _ ww (by omega) (by omega) (by omega) hSP hk2 (own_keep hrow (fun g hgv=>hgg.block g (hrow.lt g hgv).2 (fun e=>by injection e with e;exact hD (e▸hS' g hgv)))) hS'
  (htin.keep (fun b hb hlt=>hgg.block b hlt (fun e=>by injection e with e;exact hD (e▸hb))) (fun b hb _=>hb)) (by rw [List.length_set,List.length_set,List.length_append,List.length_append,List.length_take,dps_length,List.length_drop];omega) how
 unfold DepsAt at h3
 rw [hfl,show ((d+1:Nat):Int)=(d:Int)+1 by omega] at h3
 rw [dps_more m hpa,List.length_append,show f+(a.length+m.length)=f+a.length+m.length by omega]
 rw [List.drop_drop,List.append_assoc] at h3
 rw [List.append_assoc]
 exact h3
theorem setDepths_any (S:Nat→Prop) (D base n:Nat) (hn:n≤1000) (hD: ¬S D) (j:Nat):DepsAll S D base n j:=by
 induction j with
 |zero=>intro N f d x0 x1 v qs inn L w hj;omega
 |succ j ih=>
  intro N f d x0 x1 v qs inn L w hj hd hf hN hb ho hr ht hL hown
  obtain ⟨ao,cap,rfl,h1,h2,h3⟩:=own_ptrD ho
  unfold maxLen at h2
  have c2:w.cell? ⟨N,2,none⟩=some (.slice ao qs.length cap):=hb.cell 2
  have hND:N≠D:=fun e=>hD (e▸hN)
  have H3:=Lib.hid h3;have HT:=Lib.hid ht;have IH:=Lib.hid ih;have HO:=Lib.hid hown;have HRR:=Lib.hid hr
  have hql:=ht.count
  clear h3 ht ih hb ho hr hown
  unfold DepsAt
  go_enter Tryz.func90,Tryz.ntmps90
  go_wp2
  go_loopw [7,13] (fun _ i wr=> ∃(k:Nat) (a b:List It),k≤qs.length∧i= .int .i64 (k:Int)∧inn=a++b∧PtD d a∧TrD w S (qs.drop k) (f+a.length) b d∧w.grownBy wr (some D)∧wr.ownsRow base 3 1 (.slice (some ⟨D,0,none⟩) n n) n (ints (L.take f++(dps d a++L.drop (f+a.length))))) (fun _ i _=>qs.length-(intOf i).toNat)
  case atStart=>exact ⟨0,[],inn,Nat.zero_le _,rfl,rfl, .nil _,HT.out,World.grownBy.refl _ _,by simp only [dps,depL,List.map_nil,List.length_nil,Nat.add_zero,List.nil_append,List.take_append_drop];exact HO.out⟩
  case round=>
   obtain ⟨k,a,b,hk,rfl,hab,hpa,htb,hg,hro⟩:=hrel
   by_cases hlt:k<qs.length
   ·obtain ⟨q,rfl,hbl,cc⟩:=H3.out.resolve_left (by rintro rfl;simp at hlt)
    have hqD:q≠D:=fun e=>hD (e▸HRR.out q rfl)
    have d1:=(hg.cell (a:=⟨q,k,none⟩) (cc k hlt) (by intro e;injection e with e;exact hqD e))
    obtain ⟨P,A,T,U,m,b2,X,hP,hPD,p0,p1,hsub,hU,hA,hT,hrx,hcall,hinn,hpt,htr⟩:=dep_step hn hD IH.out hj hd hf hL hlt hab hpa htb hg hro
    rw [hP] at d1
    have HG:=Lib.hid hg;have HRX:=Lib.hid hrx;have HCALL:=Lib.hid hcall;have HINN:=Lib.hid hinn;have HPT:=Lib.hid hpt;have HTR:=Lib.hid htr
    have hPD3: ¬D=P:=fun e=>hPD e.symm
    have ccw: ∀i,i<n→(∃u,wr.cell? ⟨D,i,none⟩=some u)∧wr.frozen? ⟨D,i,none⟩=false:=by
     intro i hi
     refine ⟨?_,HRX.out.frozenAt i⟩
     rw [HRX.out.cellAt i (by omega),List.getElem?_eq_getElem (by have:=HRX.out.1;omega)];exact ⟨_,rfl⟩
    obtain ⟨⟨y0,g0⟩,z0⟩:=ccw A (by omega)
    obtain ⟨⟨y1,g1⟩,z1⟩:=ccw T (by omega)
    have S1:=HRX.out.stored A (.int .i64 (d:Int))
    have S2:=S1.1.stored T (.int .i64 (d:Int))
    have T1:=HRX.out.stored T (.int .i64 (d:Int))
    obtain ⟨y2,g2⟩: ∃u,(wr.setCell ⟨D,A,none⟩ (.int .i64 (d:Int))).cell? ⟨D,T,none⟩=some u:=by
     rw [S1.1.cellAt T (by omega),List.getElem?_eq_getElem (by have:=S1.1.1;omega)];exact ⟨_,rfl⟩
    have z2:(wr.setCell ⟨D,A,none⟩ (.int .i64 (d:Int))).frozen? ⟨D,T,none⟩=false:=S1.1.frozenAt T
    have g2d:(wr.setCell ⟨D,A,none⟩ (.int .i64 (d:Int))).drew.cell? ⟨D,T,none⟩=some y2:=g2
    have z2d:(wr.setCell ⟨D,A,none⟩ (.int .i64 (d:Int))).drew.frozen? ⟨D,T,none⟩=false:=z2
    have g3d:(wr.drew.setCell ⟨D,A,none⟩ (.int .i64 (d:Int))).cell? ⟨D,T,none⟩=some y2:=g2
    have z3d:(wr.drew.setCell ⟨D,A,none⟩ (.int .i64 (d:Int))).frozen? ⟨D,T,none⟩=false:=z2
    have T2:=T1.1.stored A (.int .i64 (d:Int))
    rw [ints_set,ints_set] at S2 T2
    rw [show (X.set T d).set A d=(X.set A d).set T d by
     by_cases e:T=A
     ·subst e;rfl
     ·rw [List.set_comm _ _ e]] at T2
    have hgd: ∀x:World,wr.grownBy x (some D)→wr.grownBy x.drew (some D):=fun x h=>⟨h.os,h.tape,h.output,h.size,h.block⟩
    have HS2:=Lib.hid (HCALL.out ((wr.setCell ⟨D,A,none⟩ (.int .i64 (d:Int))).setCell ⟨D,T,none⟩ (.int .i64 (d:Int))).drew (hgd _ (grownT S1.2 S2.2)) S2.1);have HGS:=Lib.hid (grownT HG.out (hgd _ (grownT S1.2 S2.2)))
    have HT2:=Lib.hid (HCALL.out ((wr.setCell ⟨D,T,none⟩ (.int .i64 (d:Int))).setCell ⟨D,A,none⟩ (.int .i64 (d:Int))).drew (hgd _ (grownT T1.2 T2.2)) T2.1);have HGT:=Lib.hid (grownT HG.out (hgd _ (grownT T1.2 T2.2)))
    have hbA0:(0:Int)≤(A:Int):=by omega
    have hbA1:(A:Int)<(n:Int):=by omega
    have hbT0:(0:Int)≤(T:Int):=by omega
    have hbT1:(T:Int)<(n:Int):=by omega
    clear hgd S1 S2 T1 T2 ccw cc hP hrx hcall hinn hpt htr hab hpa htb hg hro
    have hwr:IntKind.i64.wrap ((U:Int)-1)=(T:Int):=by rw [IntWalk.i64_in _ (by omega)];exact hsub
    go_upto_region 3 with (fail)
    go_region
    all_goals
     (try go_wp2_with fail)
     first
      |(refine HS2.out.mono ?_
        rintro e w3 ⟨rfl,hg3,ho3⟩
        have HG3:=Lib.hid (grownT HGS.out hg3);have HO3:=Lib.hid ho3
        clear hg3 ho3)
      |(refine HT2.out.mono ?_
        rintro e w3 ⟨rfl,hg3,ho3⟩
        have HG3:=Lib.hid (grownT HGT.out hg3);have HO3:=Lib.hid ho3
        clear hg3 ho3)
     go_wp2
     go_roundw
     case rel=>exact ⟨k+1,a++m,b2,by omega,by go_num,HINN.out,HPT.out,HTR.out,HG3.out,HO3.out⟩
     case measure=>simp [intOf];omega
   ·obtain rfl:k=qs.length:=by omega
    have HFIN:=Lib.hid (show wr.ownsRow base 3 1 (.slice (some ⟨D,0,none⟩) n n) n (ints (L.take f++(dps d inn++L.drop (f+inn.length)))) by
     rw [List.drop_length] at htb
     cases htb
     rw [hab,List.append_nil];exact hro)
    have HG:=Lib.hid hg
    clear hg hro htb
    go_wp2
    refine bodyPost_end (results_none rfl _ _ _) rfl ?_
    exact ⟨rfl,HG.out,HFIN.out⟩
noncomputable def dpD (l:List It):List Nat:=if docB l=true then dps 0 l else []
theorem infoN:(Tryz.prog.info? 3).map (fun i=>(i.zero,i.size,i.bytes))=some (some (.int .i64 0),1,8):=by kernel_rfl
theorem depthsOf_impl (v:Value) (l:List It) (w:World) (hr:RowIt w v l) (hz:FitI l) (htab:Tab w):
  Calls Tryz.prog 56 #[v] w (NewInts (dpD l) w):=by
 obtain ⟨i0,hi,hz0,hz1,hz2⟩:=info_parts infoN
 have HC:=Lib.hid (documentTree_any v l w hr hz htab)
 obtain ⟨ao,cap,rfl,h1,h2,h3⟩:=hr
 clear h3 hz
 cases hok:docB l with
 |true=>
  have h30:=((docB_iff l).mp hok).1
  have HD:=Lib.hid (show dpD l=dps 0 l by unfold dpD;rw [if_pos hok])
  rw [HD.out]
  have hby:i0.bytes*l.length≤281474976710656:=by rw [hz2];omega
  go_enter Tryz.func56,Tryz.ntmps56
  go_wp2_with fail
  refine HC.out.mono ?_
  rintro e w1 ⟨hb1,⟨N,vv,qs,rfl,-,hN,hbk,ho,ht⟩|⟨rfl,hno⟩⟩
  ·have HB1:=Lib.hid hb1;have HBK:=Lib.hid hbk;have HO:=Lib.hid ho;have HT:=Lib.hid ht
   have hNlt:=hbk.lt
   clear hb1 hbk ho ht
   go_wp2_with (at_make;refine wpList_make_full _ rfl _ _ 25 rfl w1.heap.size 3 i0 (.int .i64 0) 1 Tryz.underlying25 hi hz0 hz1 .i64 .i64 (l.length:Int) (l.length:Int) l.length rfl rfl rfl rfl hby (by unfold maxLen;omega) (Nat.le_refl _) ?_;intro w2 hown2 hgrow2)
   have hM:(madeCells (Value.int .i64 0).cells (l.length*1)).toList=ints (List.replicate l.length 0):=by
    apply List.ext_getElem?
    intro k
    by_cases hk:k<l.length<;>simp [madeCells,ints,Value.cells,Nat.mod_one,hk]
   rw [hM] at hown2
   have hg2:Below w1.heap.size w1 w2:=(Below.refl w1.heap.size w1).grown hgrow2 (Nat.le_refl _) (by simp)
   have HCALL:=Lib.hid (setDepths_any (fun b=>N≤b∧b<w1.heap.size) w1.heap.size w1.heap.size l.length (by omega) (by intro h;omega) (l.length+1) N 0 0 _ _ vv qs l (List.replicate l.length 0) w2 (by omega) (by omega) (by omega) ⟨Nat.le_refl _,hNlt⟩ (HBK.out.keep hg2) (own_base (own_belowS HO.out hg2) (fun g _=>Nat.zero_le _)) (fun r hr=>by have:=HO.out.lt r hr;omega)
    (HT.out.keep (fun b hb hlt=>hg2.block b hlt) (fun b hb hlt=>by omega)) (by simp) hown2)
   have HG2:=Lib.hid hg2
   have HRES:=Lib.hid (show (List.replicate l.length 0).take 0++(dps 0 l++(List.replicate l.length 0).drop (0+l.length))=dps 0 l by
    rw [List.take_zero,List.nil_append,Nat.zero_add,List.drop_eq_nil_of_le (by simp),List.append_nil])
   have hs1:=HB1.out.size
   clear hown2 hgrow2 hg2 hM
   unfold DepsAt at HCALL
   rw [HRES.out,show ((0:Nat):Int)=0 from rfl] at HCALL
   go_wp2_with fail
   refine HCALL.out.mono ?_
   rintro e w3 ⟨rfl,hg3,ho3⟩
   have HO3:=Lib.hid (own_base ho3 (fun g hg=>by have:=(ho3.lt g hg).1;omega):w3.ownsRow w.heap.size 3 1 (.slice (some ⟨w1.heap.size,0,none⟩) l.length l.length) l.length (ints (dps 0 l)))
   have HB3:=Lib.hid ((HB1.out.trans (HG2.out.mono hs1)).grown hg3 (by have:=HG2.out.size;omega) (fun r hr=>by injection hr with hr;omega))
   clear hg3 ho3
   go_wp2
   go_ret
   exact ⟨_,rfl,by rw [dps_length];exact HO3.out,HB3.out⟩
  ·exact absurd hno (by rw [hok];simp)
 |false=>
  have HD:=Lib.hid (show dpD l=[] by unfold dpD;rw [if_neg (by rw [hok];simp)])
  rw [HD.out]
  go_enter Tryz.func56,Tryz.ntmps56
  go_wp2_with fail
  refine HC.out.mono ?_
  rintro e w1 ⟨hb1,⟨N,vv,qs,rfl,hyes,-⟩|⟨rfl,hno⟩⟩
  ·exact absurd hyes (by rw [hok];simp)
  ·have HB1:=Lib.hid hb1;clear hb1
   go_wp2
   go_ret
   exact ⟨_,rfl,World.ownsRow_nil _ _ _ _,HB1.out⟩
end Go.Proofs.YtegdjjjpoahamaaGreatDoor
