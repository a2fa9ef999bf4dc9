/-
  Part of the proof of UX.
-/
import Derived.Test.YtegdjjjpoahamaaGreatDoorQQXaa
import Derived.Test.YtegdjjjpoahamaaGreatDoorSpacesS
import Derived.Test.YtegdjjjpoahamaaGreatDoorReadLine
import Derived.Deep.RegionWith
import Derived.Deep.RegionHeld3
import Derived.WalkKit
import Derived.WalkSpells
import Derived.Lib.Hide
import Derived.IntWalk
import Derived.BigQuiet
import Derived.Deep.QuietTactic
import Derived.Below
import Derived.Laws.OwnMore
import Derived.OwnWalk
set_option linter.unusedVariables false
set_option maxHeartbeats 8000000
set_option maxRecDepth 100000
namespace Go.Proofs.YtegdjjjpoahamaaGreatDoor
open Go.RowKit
def dps (d:Nat) (l:List It):List Nat:=(depL (d:Int) l).map Int.toNat
theorem dps_length (d:Nat) (l:List It):(dps d l).length=l.length:=by unfold dps;rw [List.length_map,depL_length]
theorem dps_leaf {d:Nat} {i:It} (l:List It) (h4:i.1≠4) (h5:i.1≠5):dps d (i::l)=d::dps d l:=by
 unfold dps;rw [depL_leaf h4 h5,List.map_cons,Int.toNat_natCast]
theorem dps_blk {d:Nat} {o c:It} {inn:List It} (l:List It) (h4:o.1=4) (h5:c.1=5) (hd:d<4) (h:PtD (d+1) inn):dps d (o::(inn++c::l))=d::(dps (d+1) inn++d::dps d l):=by
 unfold dps
 rw [depL_blk h4 h5 hd h]
 simp
theorem dps_app {d:Nat} {a:List It} (b:List It) (h:PtD d a) (hd:d≤4):dps d (a++b)=dps d a++dps d b:=by
 unfold dps
 rw [depL_app,nestO_end _ _ _ (h.self hd),List.map_append]
theorem PtD.deep {d:Nat} {a:List It} (h:PtD d a) (hd:4<d) (b:List It):dps d (a++b)=dps d a++dps d b:=by
 induction h with
 |nil d=>rfl
 |leaf h4 h5 h ih=>rw [List.cons_append,dps_leaf _ h4 h5,dps_leaf _ h4 h5,ih hd];rfl
 |blk h4 h5 hd4 h1 h2 i1 i2=>omega
theorem dps_more {d:Nat} {a:List It} (b:List It) (h:PtD d a):dps d (a++b)=dps d a++dps d b:=by
 by_cases hd:d≤4
 ·exact dps_app b h hd
 ·exact h.deep (by omega) b
theorem TrD.head {w:World} {S:Nat→Prop} {N f d:Nat} {ps:List Nat} {seg:List It} (h:TrD w S (N::ps) f seg d): ∃m b,seg=m++b∧TrD w S [N] f m d∧TrD w S ps (f+m.length) b d:=by
 obtain ⟨a,m,b,e,h1,h2,h3⟩:=h.at 0 (by simp)
 cases h1
 exact ⟨m,b,by simpa using e,by simpa using h2,by simpa using h3⟩
def Fill (d f:Nat) (m inn:List It):Prop:= ∀P Q:List Nat,P.length=f→m.length≤Q.length→
 (((P++Q).set f d).set (f+m.length-1) d).take (f+1)++(dps (d+1) inn++(((P++Q).set f d).set (f+m.length-1) d).drop (f+1+inn.length))=P++(dps d m++Q.drop m.length)
theorem fill_leaf {d f:Nat} {i:It} (h4:i.1≠4) (h5:i.1≠5):Fill d f [i] []:=by
 intro P Q hP hQ
 cases Q with
 |nil=>simp at hQ
 |cons q Q=>
  have e1:(P++q::Q).set f d=P++d::Q:=by rw [List.set_append_right _ _ (by omega),hP,Nat.sub_self];rfl
  rw [show f+[i].length-1=f by simp,e1,List.set_append_right _ _ (by omega),hP,Nat.sub_self,dps_leaf _ h4 h5]
  have e2:P++d::Q=(P++[d])++Q:=by simp
  rw [List.set_cons_zero,e2,List.take_left' (by simp;omega),List.drop_left' (by simp;omega)]
  simp [dps,depL]
theorem fill_blk {d f:Nat} {o c:It} {inn:List It} (h4:o.1=4) (h5:c.1=5) (hd:d<4) (h:PtD (d+1) inn):Fill d f (o::(inn++[c])) inn:=by
 intro P Q hP hQ
 have hQ':inn.length+2≤Q.length:=by simpa using hQ
 obtain ⟨q0,Q1,rfl⟩: ∃q0 Q1,Q=q0::Q1:=by cases Q with
  |nil=>simp at hQ'
  |cons a b=>exact ⟨a,b,rfl⟩
 have hQ1:inn.length+1≤Q1.length:=by simp at hQ';omega
 have hs:Q1=Q1.take inn.length++Q1[inn.length]::Q1.drop (inn.length+1):=by
  rw [←List.drop_eq_getElem_cons (by omega),List.take_append_drop]
 generalize Q1.take inn.length=M at hs
 have hM:M.length=inn.length:=by
  have:=congrArg List.length hs
  rw [List.length_append,List.length_cons,List.length_drop] at this
  omega
 generalize Q1[inn.length]=q1 at hs
 generalize Q1.drop (inn.length+1)=Q2 at hs
 subst hs
 have e0:f+(o::(inn++[c])).length-1=f+1+inn.length:=by simp;omega
 have e1:(P++q0::(M++q1::Q2)).set f d=(P++d::M)++q1::Q2:=by rw [List.set_append_right _ _ (by omega),hP,Nat.sub_self];simp
 have hl:(P++d::M).length=f+1+inn.length:=by simp;omega
 have e2:((P++d::M)++q1::Q2).set (f+1+inn.length) d=(P++d::M)++d::Q2:=by rw [List.set_append_right _ _ (by omega),hl,Nat.sub_self];rfl
 rw [e0,e1,e2,dps_blk _ h4 h5 hd h]
 have e3:((P++d::M)++d::Q2).take (f+1)=P++[d]:=by
  rw [show (P++d::M)++d::Q2=(P++[d])++(M++d::Q2) by simp,List.take_left' (by simp;omega)]
 have e4:((P++d::M)++d::Q2).drop (f+1+inn.length)=d::Q2:=List.drop_left' hl
 have e5:(q0::(M++q1::Q2)).drop (o::(inn++[c])).length=Q2:=by
  rw [show q0::(M++q1::Q2)=(q0::(M++[q1]))++Q2 by simp]
  exact List.drop_left' (by simp;omega)
 rw [e3,e4,e5]
 simp [dps,depL]
theorem TrD.fill {w:World} {S:Nat→Prop} {N f d:Nat} {m:List It} (h:TrD w S [N] f m d):S N∧0<m.length∧ ∃v qs inn,BlkD w N #[.int .i64 (f:Int), .int .i64 ((f+m.length:Nat):Int),v]∧w.ownsRow 0 86 1 v qs.length (ptrs qs)∧(∀r,v.ownBlock=some r→S r)∧TrD w S qs (f+1) inn (d+1)∧inn.length<m.length∧Fill d f m inn:=by
 rcases h.inv with ⟨i,rfl,h4,h5,hN,hb⟩|⟨o,c,inn,v,qs,rfl,h4,h5,hd,hN,hb,ho,hr,h1⟩
 ·exact ⟨hN,by simp,_,[],[],hb,World.ownsRow_nil _ _ _ _,fun r h=>by simp [Value.ownBlock] at h, .nil _ _,by simp,fill_leaf h4 h5⟩
 ·refine ⟨hN,by simp,v,qs,inn, ?_,ho,hr,h1,by simp;omega,fill_blk h4 h5 hd h1.pt⟩
  rw [show f+(o::(inn++[c])).length=f+inn.length+2 by simp;omega]
  exact hb
theorem ints_set (L:List Nat) (k x:Nat):(ints L).set k (.int .i64 (x:Int))=ints (L.set k x):=by unfold ints;rw [List.map_set]
theorem PtD.app {d:Nat} {a b:List It} (h:PtD d a):PtD d b→PtD d (a++b):=by
 induction h with
 |nil d=>intro k;exact k
 |leaf h4 h5 _ ih=>intro k;exact .leaf h4 h5 (ih k)
 |blk h4 h5 hd h1 _ _ i2=>
  intro k
  have:=PtD.blk h4 h5 hd h1 (i2 k)
  simpa using this
theorem TrD.count {w:World} {S:Nat→Prop} {ps:List Nat} {f d:Nat} {seg:List It} (h:TrD w S ps f seg d):ps.length≤seg.length:=by
 induction h with
 |nil=>simp
 |leaf _ _ _ _ _ ih=>simp;omega
 |blk _ _ _ _ _ _ _ _ _ _ _ ih=>simp;omega
def DepsAt (D base n N f d:Nat) (inn:List It) (L:List Nat) (w:World):Prop:=
 Calls Tryz.prog 90 #[.pointer (some ⟨N,0,none⟩), .slice (some ⟨D,0,none⟩) n n, .int .i64 (d:Int)] w fun e w'=>e= .returned (.tuple #[])∧w.grownBy w' (some D)∧w'.ownsRow base 3 1 (.slice (some ⟨D,0,none⟩) n n) n (ints (L.take f++(dps d inn++L.drop (f+inn.length))))
def DepsAll (S:Nat→Prop) (D base n j:Nat):Prop:= ∀(N f d:Nat) (x0 x1 v:Value) (qs:List Nat) (inn:List It) (L:List Nat) (w:World),inn.length<j→d+inn.length≤100→f+inn.length≤n→S N→BlkD w N #[x0,x1,v]→w.ownsRow 0 86 1 v qs.length (ptrs qs)→(∀r,v.ownBlock=some r→S r)→TrD w S qs f inn d→L.length=n→
  w.ownsRow base 3 1 (.slice (some ⟨D,0,none⟩) n n) n (ints L)→DepsAt D base n N f d inn L w
theorem dep_step {S:Nat→Prop} {D base n j f d k:Nat} (hn:n≤1000) (hD: ¬S D) {w wr:World} {qs:List Nat} {inn a b:List It} {L:List Nat} (ih:DepsAll S D base n j) (hj:inn.length<j+1) (hd:d+inn.length≤100) (hf:f+inn.length≤n) (hL:L.length=n)
  (hlt:k<qs.length) (hab:inn=a++b) (hpa:PtD d a) (htb:TrD w S (qs.drop k) (f+a.length) b d) (hg:w.grownBy wr (some D)) (hro:wr.ownsRow base 3 1 (.slice (some ⟨D,0,none⟩) n n) n (ints (L.take f++(dps d a++L.drop (f+a.length))))):
  ∃(P A T U:Nat) (m b2:List It) (X:List Nat),qs[k]=P∧P≠D∧wr.cell? ⟨P,0,none⟩=some (.int .i64 (A:Int))∧wr.cell? ⟨P,1,none⟩=some (.int .i64 (U:Int))∧(U:Int)-1=(T:Int)∧U≤1000∧A<n∧T<n∧
   wr.ownsRow base 3 1 (.slice (some ⟨D,0,none⟩) n n) n (ints X)∧(∀ww,wr.grownBy ww (some D)→ww.ownsRow base 3 1 (.slice (some ⟨D,0,none⟩) n n) n (ints ((X.set A d).set T d))→
    Calls Tryz.prog 90 #[.pointer (some ⟨P,0,none⟩), .slice (some ⟨D,0,none⟩) n n, .int .i64 ((d:Int)+1)] ww fun e w'=>e= .returned (.tuple #[])∧ww.grownBy w' (some D)∧w'.ownsRow base 3 1 (.slice (some ⟨D,0,none⟩) n n) n (ints (L.take f++(dps d (a++m)++L.drop (f+(a++m).length)))))∧
   inn=(a++m)++b2∧PtD d (a++m)∧TrD w S (qs.drop (k+1)) (f+(a++m).length) b2 d:=by
 rw [List.drop_eq_getElem_cons hlt] at htb
 obtain ⟨m,b2,hb2,htm,htr⟩:=htb.head
 obtain ⟨hSP,hpos,v',qs',inn',hbk,hrow,hS',htin,hil,hfill⟩:=htm.fill
 have hPD:qs[k]≠D:=fun e=>hD (e▸hSP)
 have hbkr:=hbk.grown hg (by intro e;injection e with e;exact hPD e)
 have hlen:a.length+m.length+b2.length=inn.length:=by rw [hab,hb2,List.length_append,List.length_append];omega
 have hfl:=hfill (L.take f++dps d a) (L.drop (f+a.length)) (by rw [List.length_append,List.length_take,dps_length];omega) (by rw [List.length_drop];omega)
 rw [List.append_assoc] at hfl
 refine ⟨qs[k],f+a.length,f+a.length+m.length-1,f+a.length+m.length,m,b2,_,rfl,hPD,hbkr.cell 0,hbkr.cell 1,by omega,by omega,by omega,by omega,hro, ?_,by rw [hab,hb2,List.append_assoc],hpa.app htm.pt,by rw [List.length_append,←Nat.add_assoc];exact htr⟩
 intro ww hw how
 have hgg:=grownT hg hw
 have hk2:=hbk.grown hgg (by intro e;injection e with e;exact hPD e)
 have h3:=ih qs[k] (f+a.length+1) (d+1) _ _ v' qs' inn' _ ww (by omega) (by omega) (by omega) hSP hk2 (own_keep hrow (fun g hgv=>hgg.block g (hrow.lt g hgv).2 (fun e=>by injection e with e;exact hD (e▸hS' g hgv)))) hS'
  (htin.keep (fun b hb hlt=>hgg.block b hlt (fun e=>by injection e with e;exact hD (e▸hb))) (fun b hb _=>hb)) (by rw [List.length_set,List.length_set,List.length_append,List.length_append,List.length_take,dps_length,List.length_drop];omega) how
 unfold DepsAt at h3
 rw [hfl,show ((d+1:Nat):Int)=(d:Int)+1 by omega] at h3
 rw [dps_more m hpa,List.length_append,show f+(a.length+m.length)=f+a.length+m.length by omega]
 rw [List.drop_drop,List.append_assoc] at h3
 rw [List.append_assoc]
 exact h3
theorem setDepths_any (S:Nat→Prop) (D base n:Nat) (hn:n≤1000) (hD: ¬S D) (j:Nat):DepsAll S D base n j:=by
 induction j with
 |zero=>intro N f d x0 x1 v qs inn L w hj;omega
 |succ j ih=>
  intro N f d x0 x1 v qs inn L w hj hd hf hN hb ho hr ht hL hown
  obtain ⟨ao,cap,rfl,h1,h2,h3⟩:=own_ptrD ho
  unfold maxLen at h2
  have c2:w.cell? ⟨N,2,none⟩=some (.slice ao qs.length cap):=hb.cell 2
  have hND:N≠D:=fun e=>hD (e▸hN)
  have H3:=Lib.hid h3;have HT:=Lib.hid ht;have IH:=Lib.hid ih;have HO:=Lib.hid hown;have HRR:=Lib.hid hr
  have hql:=ht.count
  clear h3 ht ih hb ho hr hown
  unfold DepsAt
  go_enter Tryz.func90,Tryz.ntmps90
  go_wp2
  go_loopw [7,13] (fun _ i wr=> ∃(k:Nat) (a b:List It),k≤qs.length∧i= .int .i64 (k:Int)∧inn=a++b∧PtD d a∧TrD w S (qs.drop k) (f+a.length) b d∧w.grownBy wr (some D)∧wr.ownsRow base 3 1 (.slice (some ⟨D,0,none⟩) n n) n (ints (L.take f++(dps d a++L.drop (f+a.length))))) (fun _ i _=>qs.length-(intOf i).toNat)
  case atStart=>exact ⟨0,[],inn,Nat.zero_le _,rfl,rfl, .nil _,HT.out,World.grownBy.refl _ _,by simp only [dps,depL,List.map_nil,List.length_nil,Nat.add_zero,List.nil_append,List.take_append_drop];exact HO.out⟩
  case round=>
   obtain ⟨k,a,b,hk,rfl,hab,hpa,htb,hg,hro⟩:=hrel
   by_cases hlt:k<qs.length
   ·obtain ⟨q,rfl,hbl,cc⟩:=H3.out.resolve_left (by rintro rfl;simp at hlt)
    have hqD:q≠D:=fun e=>hD (e▸HRR.out q rfl)
    have d1:=(hg.cell (a:=⟨q,k,none⟩) (cc k hlt) (by intro e;injection e with e;exact hqD e))
    obtain ⟨P,A,T,U,m,b2,X,hP,hPD,p0,p1,hsub,hU,hA,hT,hrx,hcall,hinn,hpt,htr⟩:=dep_step hn hD IH.out hj hd hf hL hlt hab hpa htb hg hro
    rw [hP] at d1
    have HG:=Lib.hid hg;have HRX:=Lib.hid hrx;have HCALL:=Lib.hid hcall;have HINN:=Lib.hid hinn;have HPT:=Lib.hid hpt;have HTR:=Lib.hid htr
    have hPD3: ¬D=P:=fun e=>hPD e.symm
    have ccw: ∀i,i<n→(∃u,wr.cell? ⟨D,i,none⟩=some u)∧wr.frozen? ⟨D,i,none⟩=false:=by
     intro i hi
     refine ⟨?_,HRX.out.frozenAt i⟩
     rw [HRX.out.cellAt i (by omega),List.getElem?_eq_getElem (by have:=HRX.out.1;omega)];exact ⟨_,rfl⟩
    obtain ⟨⟨y0,g0⟩,z0⟩:=ccw A (by omega)
    obtain ⟨⟨y1,g1⟩,z1⟩:=ccw T (by omega)
    have S1:=HRX.out.stored A (.int .i64 (d:Int))
    have S2:=S1.1.stored T (.int .i64 (d:Int))
    have T1:=HRX.out.stored T (.int .i64 (d:Int))
    obtain ⟨y2,g2⟩: ∃u,(wr.setCell ⟨D,A,none⟩ (.int .i64 (d:Int))).cell? ⟨D,T,none⟩=some u:=by
     rw [S1.1.cellAt T (by omega),List.getElem?_eq_getElem (by have:=S1.1.1;omega)];exact ⟨_,rfl⟩
    have z2:(wr.setCell ⟨D,A,none⟩ (.int .i64 (d:Int))).frozen? ⟨D,T,none⟩=false:=S1.1.frozenAt T
    have g2d:(wr.setCell ⟨D,A,none⟩ (.int .i64 (d:Int))).drew.cell? ⟨D,T,none⟩=some y2:=g2
    have z2d:(wr.setCell ⟨D,A,none⟩ (.int .i64 (d:Int))).drew.frozen? ⟨D,T,none⟩=false:=z2
    have g3d:(wr.drew.setCell ⟨D,A,none⟩ (.int .i64 (d:Int))).cell? ⟨D,T,none⟩=some y2:=g2
    have z3d:(wr.drew.setCell ⟨D,A,none⟩ (.int .i64 (d:Int))).frozen? ⟨D,T,none⟩=false:=z2
    have T2:=T1.1.stored A (.int .i64 (d:Int))
    rw [ints_set,ints_set] at S2 T2
    rw [show (X.set T d).set A d=(X.set A d).set T d by
     by_cases e:T=A
     ·subst e;rfl
     ·rw [List.set_comm _ _ e]] at T2
    have hgd: ∀x:World,wr.grownBy x (some D)→wr.grownBy x.drew (some D):=fun x h=>⟨h.os,h.tape,h.output,h.size,h.block⟩
    have HS2:=Lib.hid (HCALL.out ((wr.setCell ⟨D,A,none⟩ (.int .i64 (d:Int))).setCell ⟨D,T,none⟩ (.int .i64 (d:Int))).drew (hgd _ (grownT S1.2 S2.2)) S2.1);have HGS:=Lib.hid (grownT HG.out (hgd _ (grownT S1.2 S2.2)))
    have HT2:=Lib.hid (HCALL.out ((wr.setCell ⟨D,T,none⟩ (.int .i64 (d:Int))).setCell ⟨D,A,none⟩ (.int .i64 (d:Int))).drew (hgd _ (grownT T1.2 T2.2)) T2.1);have HGT:=Lib.hid (grownT HG.out (hgd _ (grownT T1.2 T2.2)))
    have hbA0:(0:Int)≤(A:Int):=by omega
    have hbA1:(A:Int)<(n:Int):=by omega
    have hbT0:(0:Int)≤(T:Int):=by omega
    have hbT1:(T:Int)<(n:Int):=by omega
    clear hgd S1 S2 T1 T2 ccw cc hP hrx hcall hinn hpt htr hab hpa htb hg hro
    have hwr:IntKind.i64.wrap ((U:Int)-1)=(T:Int):=by rw [IntWalk.i64_in _ (by omega)];exact hsub
    go_upto_region 3 with (fail)
    go_region
    all_goals
     (try go_wp2_with fail)
     first
      |(refine HS2.out.mono ?_
        rintro e w3 ⟨rfl,hg3,ho3⟩
        have HG3:=Lib.hid (grownT HGS.out hg3);have HO3:=Lib.hid ho3
        clear hg3 ho3)
      |(refine HT2.out.mono ?_
        rintro e w3 ⟨rfl,hg3,ho3⟩
        have HG3:=Lib.hid (grownT HGT.out hg3);have HO3:=Lib.hid ho3
        clear hg3 ho3)
     go_wp2
     go_roundw
     case rel=>exact ⟨k+1,a++m,b2,by omega,by go_num,HINN.out,HPT.out,HTR.out,HG3.out,HO3.out⟩
     case measure=>simp [intOf];omega
   ·obtain rfl:k=qs.length:=by omega
    have HFIN:=Lib.hid (show wr.ownsRow base 3 1 (.slice (some ⟨D,0,none⟩) n n) n (ints (L.take f++(dps d inn++L.drop (f+inn.length)))) by
     rw [List.drop_length] at htb
     cases htb
     rw [hab,List.append_nil];exact hro)
    have HG:=Lib.hid hg
    clear hg hro htb
    go_wp2
    refine bodyPost_end (results_none rfl _ _ _) rfl ?_
    exact ⟨rfl,HG.out,HFIN.out⟩
noncomputable def dpD (l:List It):List Nat:=if docB l=true then dps 0 l else []
theorem infoN:(Tryz.prog.info? 3).map (fun i=>(i.zero,i.size,i.bytes))=some (some (.int .i64 0),1,8):=by kernel_rfl
theorem depthsOf_impl (v:Value) (l:List It) (w:World) (hr:RowIt w v l) (hz:FitI l) (htab:Tab w):
  Calls Tryz.prog 56 #[v] w (NewInts (dpD l) w):=by
 obtain ⟨i0,hi,hz0,hz1,hz2⟩:=info_parts infoN
 have HC:=Lib.hid (documentTree_any v l w hr hz htab)
 obtain ⟨ao,cap,rfl,h1,h2,h3⟩:=hr
 clear h3 hz
 cases hok:docB l with
 |true=>
  have h30:=((docB_iff l).mp hok).1
  have HD:=Lib.hid (show dpD l=dps 0 l by unfold dpD;rw [if_pos hok])
  rw [HD.out]
  have hby:i0.bytes*l.length≤281474976710656:=by rw [hz2];omega
  go_enter Tryz.func56,Tryz.ntmps56
  go_wp2_with fail
  refine HC.out.mono ?_
  rintro e w1 ⟨hb1,⟨N,vv,qs,rfl,-,hN,hbk,ho,ht⟩|⟨rfl,hno⟩⟩
  ·have HB1:=Lib.hid hb1;have HBK:=Lib.hid hbk;have HO:=Lib.hid ho;have HT:=Lib.hid ht
   have hNlt:=hbk.lt
   clear hb1 hbk ho ht
   go_wp2_with (at_make;refine wpList_make_full _ rfl _ _ 25 rfl w1.heap.size 3 i0 (.int .i64 0) 1 Tryz.underlying25 hi hz0 hz1 .i64 .i64 (l.length:Int) (l.length:Int) l.length rfl rfl rfl rfl hby (by unfold maxLen;omega) (Nat.le_refl _) ?_;intro w2 hown2 hgrow2)
   have hM:(madeCells (Value.int .i64 0).cells (l.length*1)).toList=ints (List.replicate l.length 0):=by
    apply List.ext_getElem?
    intro k
    by_cases hk:k<l.length<;>simp [madeCells,ints,Value.cells,Nat.mod_one,hk]
   rw [hM] at hown2
   have hg2:Below w1.heap.size w1 w2:=(Below.refl w1.heap.size w1).grown hgrow2 (Nat.le_refl _) (by simp)
   have HCALL:=Lib.hid (setDepths_any (fun b=>N≤b∧b<w1.heap.size) w1.heap.size w1.heap.size l.length (by omega) (by intro h;omega) (l.length+1) N 0 0 _ _ vv qs l (List.replicate l.length 0) w2 (by omega) (by omega) (by omega) ⟨Nat.le_refl _,hNlt⟩ (HBK.out.keep hg2) (own_base (own_belowS HO.out hg2) (fun g _=>Nat.zero_le _)) (fun r hr=>by have:=HO.out.lt r hr;omega)
    (HT.out.keep (fun b hb hlt=>hg2.block b hlt) (fun b hb hlt=>by omega)) (by simp) hown2)
   have HG2:=Lib.hid hg2
   have HRES:=Lib.hid (show (List.replicate l.length 0).take 0++(dps 0 l++(List.replicate l.length 0).drop (0+l.length))=dps 0 l by
    rw [List.take_zero,List.nil_append,Nat.zero_add,List.drop_eq_nil_of_le (by simp),List.append_nil])
   have hs1:=HB1.out.size
   clear hown2 hgrow2 hg2 hM
   unfold DepsAt at HCALL
   rw [HRES.out,show ((0:Nat):Int)=0 from rfl] at HCALL
   go_wp2_with fail
   refine HCALL.out.mono ?_
   rintro e w3 ⟨rfl,hg3,ho3⟩
   have HO3:=Lib.hid (own_base ho3 (fun g hg=>by have:=(ho3.lt g hg).1;omega):w3.ownsRow w.heap.size 3 1 (.slice (some ⟨w1.heap.size,0,none⟩) l.length l.length) l.length (ints (dps 0 l)))
   have HB3:=Lib.hid ((HB1.out.trans (HG2.out.mono hs1)).grown hg3 (by have:=HG2.out.size;omega) (fun r hr=>by injection hr with hr;omega))
   clear hg3 ho3
   go_wp2
   go_ret
   exact ⟨_,rfl,by rw [dps_length];exact HO3.out,HB3.out⟩
  ·exact absurd hno (by rw [hok];simp)
 |false=>
  have HD:=Lib.hid (show dpD l=[] by unfold dpD;rw [if_neg (by rw [hok];simp)])
  rw [HD.out]
  go_enter Tryz.func56,Tryz.ntmps56
  go_wp2_with fail
  refine HC.out.mono ?_
  rintro e w1 ⟨hb1,⟨N,vv,qs,rfl,hyes,-⟩|⟨rfl,hno⟩⟩
  ·exact absurd hyes (by rw [hok];simp)
  ·have HB1:=Lib.hid hb1;clear hb1
   go_wp2
   go_ret
   exact ⟨_,rfl,World.ownsRow_nil _ _ _ _,HB1.out⟩
theorem l7Rank_any (k m:Int) (s:ByteArray) (w:World):
  Calls Tryz.prog 175 #[.agg #[.int .i64 k, .string s, .int .i64 m]] w fun e w'=>e= .returned (.int .i64 (rkC (k,s,m)))∧Below w.heap.size w w':=by
 by_cases h9:k=9
 ·subst h9
  have hr:rkC (9,s,m)=1:=rfl
  rw [hr];clear hr
  go_enter Tryz.func175,Tryz.ntmps175
  go_wp2
  go_ret
  exact ⟨rfl,(Below.refl _ _).alloc (Nat.le_refl _) _⟩
 by_cases h8:k=8
 ·subst h8
  have hr:rkC (8,s,m)=rankL s.data.toList:=rfl
  rw [hr]
  have HC:=Lib.hid (fun w'=>l5Binary_any s w')
  generalize rankL s.data.toList=q at HC
  clear hr
  go_enter Tryz.func175,Tryz.ntmps175
  go_wp2_with fail
  refine (HC.out _).mono ?_
  rintro e w1 ⟨rfl,rfl⟩
  go_wp2
  go_ret
  exact ⟨rfl,(Below.refl _ _).alloc (Nat.le_refl _) _⟩
 by_cases h7:k=7
 ·subst h7
  have hr:rkC (7,s,m)=7:=rfl
  rw [hr];clear hr
  go_enter Tryz.func175,Tryz.ntmps175
  go_wp2
  go_ret
  exact ⟨rfl,(Below.refl _ _).alloc (Nat.le_refl _) _⟩
 ·have hr:rkC (k,s,m)=8:=by simp [rkC,h9,h8,h7]
  rw [hr]
  have n9:(k==9)=false:=beq_eq_false_iff_ne.mpr h9
  have n8:(k==8)=false:=beq_eq_false_iff_ne.mpr h8
  have n7:(k==7)=false:=beq_eq_false_iff_ne.mpr h7
  clear hr h9 h8 h7
  go_enter Tryz.func175,Tryz.ntmps175
  go_wp2
  go_ret
  exact ⟨rfl,(Below.refl _ _).alloc (Nat.le_refl _) _⟩
theorem tx_part {l:List Cl} (hok:l.all okW=true) {m f t:Nat} {ks:List Pt} (hX:Tx l m f t ks) (k:Nat) (hk:k<m):
  ∃g g' x,ptAt ks k=x∧ks[k]? =some x∧Tx l 1 g g' [x]∧(kidsL (amL l) f m)[k]? =some g∧Tx l k f g (ks.take k)∧f≤g∧g<g'∧g'≤t∧x.2.length+8≤200*(g'-g)∧1≤x.1:=by
 obtain ⟨g1,g2,x,x1,x2,x3,x4,x5⟩:=hX.at k hk
 obtain ⟨_,hx⟩:=x2.exs
 obtain ⟨_,hy⟩:=x3.exs
 obtain ⟨_,hz⟩:=x4.exs
 have l1:=hx.le;have l2:=hy.le;have l3:=hz.le
 have h1:=(x3.shortW hok).1
 simp only [sumT] at h1
 exact ⟨g1,g2,x,by rw [ptAt,List.getD_eq_getElem?_getD,x1];rfl,x1,x3,x5,x2,by omega,by omega,by omega,by omega,(x3.rkW hok x (by simp)).1⟩
theorem kid_cell {w:World} {bo:Option Addr} {L:List Nat} (h:L=[]∨ ∃b,bo=some ⟨b,0,none⟩∧b<w.heap.size∧ ∀k (h:k<L.length),w.cell? ⟨b,k,none⟩=some (.int .i64 (L[k]:Int))) (hl:0<L.length):
  ∃b,bo=some ⟨b,0,none⟩∧b<w.heap.size∧ ∀(k g:Nat),L[k]? =some g→w.cell? ⟨b,k,none⟩=some (.int .i64 (g:Int)):=by
 obtain ⟨b,hb,hlt,hc⟩:=h.resolve_left (by rintro rfl;simp at hl)
 refine ⟨b,hb,hlt,fun k g hg=> ?_⟩
 obtain ⟨hk,he⟩:=List.getElem?_eq_some_iff.mp hg
 rw [hc k hk,he]
def CpS (w:World) (g:Nat) (k:Int) (s:ByteArray) (m:Int):Prop:=g<w.heap.size∧w.cell? ⟨g,0,none⟩=some (.int .i64 k)∧w.cell? ⟨g,1,none⟩=some (.string s)∧w.cell? ⟨g,2,none⟩=some (.int .i64 m)
theorem CpS.keep {w w':World} {g:Nat} {k m:Int} {s:ByteArray} (h:CpS w g k s m) (hb:Below w.heap.size w w'):CpS w' g k s m:=by
 obtain ⟨h0,h1,h2,h3⟩:=h
 exact ⟨Nat.lt_of_lt_of_le h0 hb.size,(hb.cell (p:=⟨g,0,none⟩) h0).trans h1,(hb.cell (p:=⟨g,1,none⟩) h0).trans h2,(hb.cell (p:=⟨g,2,none⟩) h0).trans h3⟩
theorem CpS.new (w:World) (k:Int) (s:ByteArray) (m:Int):CpS (w.alloc (.cells #[.int .i64 k, .string s, .int .i64 m] 110)) w.heap.size k s m:=by
 have h:=heap_alloc_new w (.cells #[.int .i64 k, .string s, .int .i64 m] 110)
 refine ⟨by simp, ?_, ?_, ?_⟩<;>(rw [cell_of_row _ _ _ _ _ (0,0) h];rfl)
def TextOK (v:Value) (l:List Cl) (j:Nat):Prop:= ∀(f t:Nat) (x:Pt) (w:World),Tx l 1 f t [x]→t-f≤j→RowC w v l→
 Calls Tryz.prog 93 #[v, .int .i64 (f:Int)] w fun e w'=>e= .returned (.string ⟨x.2.toArray⟩)∧Below w.heap.size w w'
def PartOK (v:Value) (l:List Cl) (j:Nat):Prop:= ∀(f t:Nat) (x:Pt) (r:Int) (w:World),Tx l 1 f t [x]→t-f≤j→RowC w v l→
 Calls Tryz.prog 142 #[v, .int .i64 (f:Int), .int .i64 r] w fun e w'=>e= .returned (.string ⟨(parT r x).toArray⟩)∧Below w.heap.size w w'
theorem part_step {v:Value} {l:List Cl} {j:Nat} (h60:l.length≤60) (hok:l.all okW=true) (ih:TextOK v l j):PartOK v l j:=by
 intro f t x r w hX hj hr
 obtain ⟨⟨k,s,m⟩,ks,hc,hks,rfl⟩:=hX.inv
 have hsh:=(hX.shortW hok).1
 simp only [sumT] at hsh
 obtain ⟨hfl,he⟩:=List.getElem?_eq_some_iff.mp hc
 have HX:=Lib.hid hX;have HR:=Lib.hid hr;have IH:=Lib.hid (fun w'=>ih f t _ w' hX hj)
 obtain ⟨ao,cap,rfl,h1,h2,h3⟩:=hr
 unfold maxLen at h2
 obtain ⟨b,o,rfl,hbl,cc⟩:=h3.resolve_left (by rintro rfl;simp at hfl)
 obtain ⟨c0,c1,c2⟩:=cc f hfl
 rw [he] at c0 c1 c2
 simp only at c0 c1 c2
 have HK:=Lib.hid (fun w'=>l7Rank_any k m s w')
 have HP:=Lib.hid (show parT r (rkC (k,s,m),bareT (k,s,m) ks)=if rkC (k,s,m)<r then 40::(bareT (k,s,m) ks++[41]) else bareT (k,s,m) ks from rfl)
 generalize rkC (k,s,m)=rk at HK HP IH
 generalize bareT (k,s,m) ks=bt at HP IH hsh
 have HC0:=Lib.hid c0;have HC1:=Lib.hid c1;have HC2:=Lib.hid c2
 have hbs:(⟨bt.toArray⟩:ByteArray).size=bt.length:=rfl
 generalize hSS:(⟨bt.toArray⟩:ByteArray)=S0 at IH hbs
 have HSS:=Lib.hid hSS
 clear cc h3 hc hks hX ih he c0 c1 c2 hSS
 have hle:t-f≤60:=by
  obtain ⟨_,h⟩:=HX.out.exs
  have:=h.le.2 (by omega);rw [amL_length] at this;omega
 have r1: ¬9223372036854775807<1+S0.size:=by omega
 have r2: ¬9223372036854775807<1+S0.size+1:=by omega
 go_enter Tryz.func142,Tryz.ntmps142
 go_wp2_with fail
 refine (IH.out _ HR.out).mono ?_
 rintro e w1 ⟨rfl,hb1⟩
 have d0:=(hb1.cell (p:=⟨b,_,none⟩) hbl).trans HC0.out
 have d1:=(hb1.cell (p:=⟨b,_,none⟩) hbl).trans HC1.out
 have d2:=(hb1.cell (p:=⟨b,_,none⟩) hbl).trans HC2.out
 have HB1:=Lib.hid hb1;clear hb1
 go_wp2_with fail
 refine (HK.out _).mono ?_
 rintro e w2 ⟨rfl,hb2⟩
 have HB2:=Lib.hid (HB1.out.trans (hb2.mono HB1.out.size));clear hb2 d0 d1 d2
 by_cases hlt:rk<r
 ·have HP2:=Lib.hid (HP.out.trans (if_pos hlt))
  go_wp2
  go_ret
  refine ⟨?_,HB2.out⟩
  rw [HP2.out,←HSS.out]
  exact congrArg Ending.returned (congrArg Value.string (ba_eq (by simp)))
 ·have HP2:=Lib.hid (HP.out.trans (if_neg hlt))
  go_wp2
  go_ret
  exact ⟨by rw [HP2.out,HSS.out];rfl,HB2.out⟩
theorem text_step {v:Value} {l:List Cl} {j:Nat} (h60:l.length≤60) (hok:l.all okW=true) (ih:TextOK v l j) (ihp:PartOK v l j):TextOK v l (j+1):=by
 intro f t x w hX hj hr
 obtain ⟨⟨k,s,m⟩,ks,hc,hks,rfl⟩:=hX.inv
 have hsh:=(hks.shortW hok).1
 obtain ⟨hfl,he⟩:=List.getElem?_eq_some_iff.mp hc
 have hokc:okW (k,s,m)=true:=by rw [←he];exact okW_all hok f hfl
 have hwl:s.size≤60:=okW_size hokc
 have hsl:=size_list s
 obtain ⟨dk,hxk⟩:=hks.exs
 have HKI:=Lib.hid (fun w' hr'=>l5Kids_any v l f m.toNat t dk w' hr' h60 (allM_ofW hok) (amL_some hc) hxk)
 have hle:t-(f+1)≤60:=by
  obtain ⟨_,h⟩:=hX.exs
  have:=h.le.2 (by omega);rw [amL_length] at this;omega
 have HIH:=Lib.hid ih;have HIP:=Lib.hid ihp;have HR:=Lib.hid hr;have HX:=Lib.hid hks;have HOK:=Lib.hid hokc
 obtain ⟨ao,cap,rfl,h1,h2,h3⟩:=hr
 unfold maxLen at h2
 obtain ⟨b,o,rfl,hbl,cc⟩:=h3.resolve_left (by rintro rfl;simp at hfl)
 obtain ⟨c0,c1,c2⟩:=cc f hfl
 rw [he] at c0 c1 c2
 simp only at c0 c1 c2
 have e2: ¬b=w.heap.size:=by omega
 clear cc h3 hc hks hX ih ihp he hxk hokc
 go_enter Tryz.func93,Tryz.ntmps93
 have HCP:=Lib.hid (CpS.new w k s m)
 have hbA:=(Below.refl w.heap.size w).alloc (Nat.le_refl _) (.cells #[.int .i64 k, .string s, .int .i64 m] 110)
 have HBA:=Lib.hid hbA
 go_wp2_with fail
 refine (HKI.out _ (HR.out.mono HBA.out)).mono ?_
 rintro e1 w1 ⟨v1,rfl,hown1,hb1⟩
 obtain ⟨hri,hrl⟩:=RowI.of_own hown1
 have hLm:(kidsL (amL l) (f+1) m.toNat).length=m.toNat:=kidsL_length _ _ _
 have HB1:=Lib.hid (HBA.out.trans (hb1.mono HBA.out.size))
 have HCP1:=Lib.hid (HCP.out.keep hb1)
 have HR1:=Lib.hid (HR.out.mono HB1.out)
 generalize hL:kidsL (amL l) (f+1) m.toNat=L at hri hLm
 have HL:=Lib.hid hL;clear hL
 obtain ⟨bo,cp,rfl,g1,g2,g3⟩:=hri
 rw [hLm] at g1
 rw [hLm]
 unfold maxLen at g2
 have HG3:=Lib.hid g3
 clear g3 hb1 hbA hown1 hrl HCP HBA c0 c1 c2 e2
 have HRD:=Lib.hid (show RowC w1.drew (.slice (some ⟨b,o,none⟩) l.length cap) l from HR1.out)
 generalize w.heap.size=CG at HCP1
 obtain ⟨-,k0,k1,k2⟩:=HCP1.out
 by_cases h2:k=2
 ·subst h2
  have HT:=Lib.hid (show textB s=true by have:=okW_ne HOK.out (by decide);simp only [okC,cellB,wordB,Bool.and_eq_true] at this;have:=this.1;simp at this;exact this.1)
  have HE:=Lib.hid (show bareT (2,s,m) ks=quoteL s.data.toList from rfl)
  have HQ:=Lib.hid (show (quoteT s)=⟨(quoteL s.data.toList).toArray⟩ by rw [quoteT,if_pos HT.out])
  go_wp2_with fail
  refine (quoteText_spec s _ (by unfold maxLen;omega)).mono ?_
  rintro e w2 ⟨rfl,rfl⟩
  go_wp2
  go_ret
  exact ⟨by rw [HE.out,←HQ.out];rfl,HB1.out⟩
 by_cases h7:k=7
 ·subst h7
  have hm1:m=1:=by
   have:=okW_ne HOK.out (by decide)
   simp only [okC,cellB,manyB,Bool.and_eq_true] at this
   simpa using this.2
  subst hm1
  obtain ⟨g0,g0',x0,y0,-,z0,u0,-,b0,b0',b0'',s0,-⟩:=tx_part hok HX.out 0 (by decide)
  have HE:=Lib.hid (show bareT (7,s,1) ks=s.data.toList++parT 7 x0 by rw [←y0];rfl)
  obtain ⟨bk,rfl,hbk,hck⟩:=kid_cell HG3.out (by rw [hLm];decide)
  have q0:=hck 0 g0 (by rw [←HL.out];exact u0)
  have HPC:=Lib.hid (fun w' hr'=>HIP.out g0 g0' x0 7 w' z0 (by omega) hr')
  have hpl:=parT_len 7 x0
  have hbs:(⟨(parT 7 x0).toArray⟩:ByteArray).size=(parT 7 x0).length:=rfl
  generalize hSS:(⟨(parT 7 x0).toArray⟩:ByteArray)=S0 at HPC hbs
  have HSS:=Lib.hid hSS
  have hcg:=HCP1.out.1
  have r1: ¬9223372036854775807<s.size+S0.size:=by omega
  clear h2 y0 z0 u0 hck hSS HCP1 hbs
  go_wp2_with fail
  go_region_held3 (fun w'=>w'.cell? ⟨CG,1,none⟩=some (.string s)∧w'.cell? ⟨bk,0,none⟩=some (.int .i64 (g0:Int)))
   (first
     |go_keep
     |(go_split_ands
       refine ⟨?_, ?_⟩
       ·(rw [hb2.cell (by exact hcg)];assumption)
       ·(rw [hb2.cell (by exact hbk)];assumption)))
   ((go_at_call 142;refine (HPC.out _ HRD.out).mono ?_;rintro e w2 ⟨rfl,hb2⟩))
  all_goals
   have HB2:=Lib.hid (HB1.out.drew.trans (hb2.mono HB1.out.size));clear hb2
   go_wp2
   go_ret
   refine ⟨?_,HB2.out⟩
   rw [HE.out,←HSS.out]
   exact congrArg Ending.returned (congrArg Value.string (ba_eq (by simp)))
 by_cases h8:k=8
 ·subst h8
  have hm2:m=2:=by
   have:=okW_ne HOK.out (by decide)
   simp only [okC,cellB,manyB,Bool.and_eq_true] at this
   simpa using this.2
  subst hm2
  have hr2:2≤rankL s.data.toList∧rankL s.data.toList≤6:=by
   refine rankL_in _ ?_
   have:=okW_ne HOK.out (by decide)
   simp only [okC,cellB,wordB,Bool.and_eq_true] at this;simpa using this.1
  obtain ⟨g0,g0',x0,y0,-,z0,u0,-,b0,b0',b0'',s0,-⟩:=tx_part hok HX.out 0 (by decide)
  obtain ⟨g1,g1',x1,y1,-,z1,u1,-,b1,b1',b1'',s1,-⟩:=tx_part hok HX.out 1 (by decide)
  have HE:=Lib.hid (show bareT (8,s,2) ks=parT (leftR (rankL s.data.toList)) x0++([32]++s.data.toList++[32])++parT (rankL s.data.toList+1) x1 by rw [←y0,←y1];rfl)
  have HBIN:=Lib.hid (fun w'=>l5Binary_any s w')
  generalize rankL s.data.toList=rk at HE HBIN hr2
  obtain ⟨bk,rfl,hbk,hck⟩:=kid_cell HG3.out (by rw [hLm];decide)
  have q0:=hck 0 g0 (by rw [←HL.out];exact u0)
  have q1:=hck 1 g1 (by rw [←HL.out];exact u1)
  have HPC0:=Lib.hid (fun w' hr'=>HIP.out g0 g0' x0 (leftR rk) w' z0 (by omega) hr')
  have HPC1:=Lib.hid (fun w' hr'=>HIP.out g1 g1' x1 (rk+1) w' z1 (by omega) hr')
  have hpl0:=parT_len (leftR rk) x0
  have hpl1:=parT_len (rk+1) x1
  have hbs0:(⟨(parT (leftR rk) x0).toArray⟩:ByteArray).size=(parT (leftR rk) x0).length:=rfl
  have hbs1:(⟨(parT (rk+1) x1).toArray⟩:ByteArray).size=(parT (rk+1) x1).length:=rfl
  generalize hSS0:(⟨(parT (leftR rk) x0).toArray⟩:ByteArray)=S0 at HPC0 hbs0
  generalize hSS1:(⟨(parT (rk+1) x1).toArray⟩:ByteArray)=S1 at HPC1 hbs1
  have HSS0:=Lib.hid hSS0;have HSS1:=Lib.hid hSS1
  have hcg:=HCP1.out.1
  have hS0:S0.size≤12010:=by omega
  have hS1:S1.size≤12010:=by omega
  have r1: ¬9223372036854775807<S0.size+1:=by omega
  have r2: ¬9223372036854775807<S0.size+1+s.size:=by omega
  have r3: ¬9223372036854775807<S0.size+1+s.size+1:=by omega
  have r4: ¬9223372036854775807<S0.size+1+s.size+1+S1.size:=by omega
  have hwr:IntKind.i64.wrap (rk+1)=rk+1:=IntWalk.i64_in _ (by omega)
  have hw5:IntKind.i64.wrap 5=5:=by decide
  clear h2 h7 y0 z0 u0 y1 z1 u1 hck hSS0 hSS1 HCP1 hbs0 hbs1
  by_cases h4:rk=4
  ·subst h4
   rw [show leftR 4=5 from rfl] at HPC0
   rw [show (4:Int)+1=5 from rfl] at HPC1
   clear hwr
   go_wp2_with fail
   refine (HBIN.out _).mono ?_
   rintro e w' ⟨rfl,rfl⟩
   go_wp2_with fail
   go_region_held3 (fun w'=>w'.cell? ⟨CG,1,none⟩=some (.string s)∧w'.cell? ⟨bk,0,none⟩=some (.int .i64 (g0:Int))∧w'.cell? ⟨bk,1,none⟩=some (.int .i64 (g1:Int)))
    (first
      |go_keep
      |(go_split_ands
        refine ⟨?_, ?_, ?_⟩
        ·(first|(rw [hb3.cell (by first|exact hcg|exact hcg2|exact hcg3)];assumption)|(rw [hb2.cell (by first|exact hcg|exact hcg2|exact hcg3)];assumption))
        ·(first|(rw [hb3.cell (by first|exact hbk|exact hbk2|exact hbk3)];assumption)|(rw [hb2.cell (by first|exact hbk|exact hbk2|exact hbk3)];assumption))
        ·(first|(rw [hb3.cell (by first|exact hbk|exact hbk2|exact hbk3)];assumption)|(rw [hb2.cell (by first|exact hbk|exact hbk2|exact hbk3)];assumption))))
    (first
      |((go_at_call 142;(with_reducible refine (HPC0.out _ HRD.out).mono ?_);rintro e w2 ⟨rfl,hb2⟩;have hcg2:=Nat.lt_of_lt_of_le hcg hb2.size;have hbk2:=Nat.lt_of_lt_of_le hbk hb2.size))
      |((go_at_call 142;(with_reducible refine (HPC1.out _ (HRD.out.mono hb2)).mono ?_);rintro e w3 ⟨rfl,hb3⟩)))
   all_goals
    have HB2:=Lib.hid (HB1.out.drew.trans (hb2.mono HB1.out.size))
    have HB3:=Lib.hid (HB2.out.trans (hb3.mono HB2.out.size));clear hb2 hb3
    go_wp2
    go_ret
    refine ⟨?_,HB3.out⟩
    rw [HE.out,←HSS0.out,←HSS1.out]
    exact congrArg Ending.returned (congrArg Value.string (ba_eq (by simp)))
  ·have h4':(rk==4)=false:=beq_eq_false_iff_ne.mpr h4
   have hlr:leftR rk=rk:=by rw [leftR,if_neg h4]
   rw [hlr] at HPC0
   go_wp2_with fail
   refine (HBIN.out _).mono ?_
   rintro e w' ⟨rfl,rfl⟩
   go_wp2_with fail
   go_region_held3 (fun w'=>w'.cell? ⟨CG,1,none⟩=some (.string s)∧w'.cell? ⟨bk,0,none⟩=some (.int .i64 (g0:Int))∧w'.cell? ⟨bk,1,none⟩=some (.int .i64 (g1:Int)))
    (first
      |go_keep
      |(go_split_ands
        refine ⟨?_, ?_, ?_⟩
        ·(first|(rw [hb3.cell (by first|exact hcg|exact hcg2|exact hcg3)];assumption)|(rw [hb2.cell (by first|exact hcg|exact hcg2|exact hcg3)];assumption))
        ·(first|(rw [hb3.cell (by first|exact hbk|exact hbk2|exact hbk3)];assumption)|(rw [hb2.cell (by first|exact hbk|exact hbk2|exact hbk3)];assumption))
        ·(first|(rw [hb3.cell (by first|exact hbk|exact hbk2|exact hbk3)];assumption)|(rw [hb2.cell (by first|exact hbk|exact hbk2|exact hbk3)];assumption))))
    (first
      |((go_at_call 142;(with_reducible refine (HPC0.out _ HRD.out).mono ?_);rintro e w2 ⟨rfl,hb2⟩;have hcg2:=Nat.lt_of_lt_of_le hcg hb2.size;have hbk2:=Nat.lt_of_lt_of_le hbk hb2.size))
      |((go_at_call 142;(with_reducible refine (HPC1.out _ (HRD.out.mono hb2)).mono ?_);rintro e w3 ⟨rfl,hb3⟩)))
   all_goals
    have HB2:=Lib.hid (HB1.out.drew.trans (hb2.mono HB1.out.size))
    have HB3:=Lib.hid (HB2.out.trans (hb3.mono HB2.out.size));clear hb2 hb3
    go_wp2
    go_ret
    refine ⟨?_,HB3.out⟩
    rw [HE.out,←HSS0.out,←HSS1.out]
    exact congrArg Ending.returned (congrArg Value.string (ba_eq (by simp)))
 by_cases h9:k=9
 ·subst h9
  have hm3:m=3:=by
   have:=okW_ne HOK.out (by decide)
   simp only [okC,cellB,manyB,Bool.and_eq_true] at this
   simpa using this.2
  subst hm3
  obtain ⟨g0,g0',x0,y0,-,z0,u0,-,b0,b0',b0'',s0,-⟩:=tx_part hok HX.out 0 (by decide)
  obtain ⟨g1,g1',x1,y1,-,z1,u1,-,b1,b1',b1'',s1,-⟩:=tx_part hok HX.out 1 (by decide)
  obtain ⟨g2,g2',x2,y2,-,z2,u2,-,b2,b2',b2'',s2,-⟩:=tx_part hok HX.out 2 (by decide)
  have HE:=Lib.hid (show bareT (9,s,3) ks=parT 2 x0++[32,63,32]++x1.2++[32,58,32]++x2.2 by rw [←y0,←y1,←y2];rfl)
  obtain ⟨bk,rfl,hbk,hck⟩:=kid_cell HG3.out (by rw [hLm];decide)
  have q0:=hck 0 g0 (by rw [←HL.out];exact u0)
  have q1:=hck 1 g1 (by rw [←HL.out];exact u1)
  have q2:=hck 2 g2 (by rw [←HL.out];exact u2)
  have HPC0:=Lib.hid (fun w' hr'=>HIP.out g0 g0' x0 2 w' z0 (by omega) hr')
  have HPC1:=Lib.hid (fun w' hr'=>HIH.out g1 g1' x1 w' z1 (by omega) hr')
  have HPC2:=Lib.hid (fun w' hr'=>HIH.out g2 g2' x2 w' z2 (by omega) hr')
  have hpl0:=parT_len 2 x0
  have hbs0:(⟨(parT 2 x0).toArray⟩:ByteArray).size=(parT 2 x0).length:=rfl
  have hbs1:(⟨x1.2.toArray⟩:ByteArray).size=x1.2.length:=rfl
  have hbs2:(⟨x2.2.toArray⟩:ByteArray).size=x2.2.length:=rfl
  generalize hSS0:(⟨(parT 2 x0).toArray⟩:ByteArray)=S0 at HPC0 hbs0
  generalize hSS1:(⟨x1.2.toArray⟩:ByteArray)=S1 at HPC1 hbs1
  generalize hSS2:(⟨x2.2.toArray⟩:ByteArray)=S2 at HPC2 hbs2
  have HSS0:=Lib.hid hSS0;have HSS1:=Lib.hid hSS1;have HSS2:=Lib.hid hSS2
  have hcg:=HCP1.out.1
  have hS0:S0.size≤12010:=by omega
  have hS1:S1.size≤12010:=by omega
  have hS2:S2.size≤12010:=by omega
  have r1: ¬9223372036854775807<S0.size+3:=by omega
  have r2: ¬9223372036854775807<S0.size+3+S1.size:=by omega
  have r3: ¬9223372036854775807<S0.size+3+S1.size+3:=by omega
  have r4: ¬9223372036854775807<S0.size+3+S1.size+3+S2.size:=by omega
  clear h2 h7 h8 y0 z0 u0 y1 z1 u1 y2 z2 u2 hck hSS0 hSS1 hSS2 HCP1 hbs0 hbs1 hbs2
  go_wp2_with fail
  go_region_held3 (fun w'=>w'.cell? ⟨bk,0,none⟩=some (.int .i64 (g0:Int))∧w'.cell? ⟨bk,1,none⟩=some (.int .i64 (g1:Int))∧w'.cell? ⟨bk,2,none⟩=some (.int .i64 (g2:Int)))
   (first
     |go_keep
     |(go_split_ands
       refine ⟨?_, ?_, ?_⟩
       ·(first|(rw [hb4.cell (by exact hbk3)];assumption)|(rw [hb3.cell (by exact hbk2)];assumption)|(rw [hb2.cell (by exact hbk)];assumption))
       ·(first|(rw [hb4.cell (by exact hbk3)];assumption)|(rw [hb3.cell (by exact hbk2)];assumption)|(rw [hb2.cell (by exact hbk)];assumption))
       ·(first|(rw [hb4.cell (by exact hbk3)];assumption)|(rw [hb3.cell (by exact hbk2)];assumption)|(rw [hb2.cell (by exact hbk)];assumption))))
   (first
     |((go_at_call 142;(with_reducible refine (HPC0.out _ HRD.out).mono ?_);rintro e w2 ⟨rfl,hb2⟩;have hbk2:=Nat.lt_of_lt_of_le hbk hb2.size))
     |((go_at_call 93;(with_reducible refine (HPC1.out _ (HRD.out.mono hb2)).mono ?_);rintro e w3 ⟨rfl,hb3⟩;have hbk3:=Nat.lt_of_lt_of_le hbk2 hb3.size))
     |((go_at_call 93;(with_reducible refine (HPC2.out _ ((HRD.out.mono hb2).mono hb3)).mono ?_);rintro e w4 ⟨rfl,hb4⟩)))
  all_goals
   have HB2:=Lib.hid (HB1.out.drew.trans (hb2.mono HB1.out.size))
   have HB3:=Lib.hid (HB2.out.trans (hb3.mono HB2.out.size))
   have HB4:=Lib.hid (HB3.out.trans (hb4.mono HB3.out.size));clear hb2 hb3 hb4
   go_wp2
   go_ret
   refine ⟨?_,HB4.out⟩
   rw [HE.out,←HSS0.out,←HSS1.out,←HSS2.out]
   exact congrArg Ending.returned (congrArg Value.string (ba_eq (by simp)))
 by_cases h56:k=5∨k=6
 ·have hk56:(k==5||k==6)=true:=by rcases h56 with rfl|rfl<;>rfl
  have q2:(k==2)=false:=beq_eq_false_iff_ne.mpr h2
  have q7:(k==7)=false:=beq_eq_false_iff_ne.mpr h7
  have q8:(k==8)=false:=beq_eq_false_iff_ne.mpr h8
  have q9:(k==9)=false:=beq_eq_false_iff_ne.mpr h9
  rcases h56 with rfl|rfl
  ·have HE:=Lib.hid (show bareT (5,s,m) ks=91::(joinT ks++[93]) from rfl)
   clear h2 h7 h8 h9 q2 q7 q8 q9 hk56
   generalize m.toNat=M at hLm g1 HX HL⊢
   go_wp2_with fail
   go_loopw [9,10] (fun ou i wr=> ∃(k g:Nat) (O:ByteArray),k≤M∧i= .int .i64 (k:Int)∧ou= .string O∧O.data.toList=joinT (ks.take k)∧Tx l k (f+1) g (ks.take k)∧Below w1.heap.size w1 wr) (fun _ i _=>M-(intOf i).toNat)
   case atStart=>exact ⟨0,f+1,⟨#[]⟩,Nat.zero_le _,rfl,rfl,rfl, .nil _,Below.refl _ _⟩
   case round=>
    obtain ⟨k,g,O0,hk,rfl,rfl,hO,hXk,hBr⟩:=hrel
    have HBr:=Lib.hid hBr;have HXK:=Lib.hid hXk;have HO:=Lib.hid hO
    have hOs:O0.size≤12000:=by
     have h1:=sumT_take ks k;have h2:=joinT_len (ks.take k)
     rw [←size_list,hO];omega
    obtain ⟨-,kk0,kk1,kk2⟩:=HCP1.out.keep HBr.out
    by_cases hlt:k<M
    ·obtain ⟨g0,g0',x0,y0,v0,z0,u0,t0,b0,b0',b0'',s0,-⟩:=tx_part hok HX.out k hlt
     obtain ⟨rfl,-⟩:=hXk.uniq t0
     obtain ⟨bk,rfl,hbk,hck⟩:=kid_cell HG3.out (by rw [hLm];omega)
     have q0:wr.cell? ⟨bk,k,none⟩=some (.int .i64 (g:Int)):=(HBr.out.cell (p:=⟨bk,k,none⟩) hbk).trans (hck k g (by rw [←HL.out];exact u0))
     have HPC:=Lib.hid (HIH.out g g0' x0 wr z0 (by omega) (HR1.out.mono HBr.out))
     have HX2:=Lib.hid (hXk.snoc v0 z0)
     have HN:=Lib.hid (joinT_next ks k x0 v0)
     have hbs:(⟨x0.2.toArray⟩:ByteArray).size=x0.2.length:=rfl
     generalize hSS:(⟨x0.2.toArray⟩:ByteArray)=S0 at HPC hbs
     have HSS:=Lib.hid (show S0.data.toList=x0.2 by rw [←hSS])
     have hS0:S0.size≤12010:=by omega
     have r0: ¬9223372036854775807<O0.size+2:=by omega
     have r1: ¬9223372036854775807<O0.size+S0.size:=by omega
     have r2: ¬9223372036854775807<O0.size+2+S0.size:=by omega
     clear y0 v0 z0 u0 t0 hck hSS hbs hXk hBr hO
     by_cases hk0:k=0
     ·subst hk0
      go_wp2_with fail
      refine HPC.out.mono ?_
      rintro e w2 ⟨rfl,hb2⟩
      have HB2:=Lib.hid (HBr.out.trans (hb2.mono HBr.out.size));clear hb2
      go_wp2
      go_roundw
      case rel=>exact ⟨1,g0',O0++S0,by omega,by go_num,rfl,by rw [HN.out,←HO.out,←HSS.out];simp,HX2.out,HB2.out⟩
      case measure=>simp [intOf];omega
     ·have hk1:(0:Int)<(k:Int):=by omega
      go_wp2_with fail
      refine HPC.out.mono ?_
      rintro e w2 ⟨rfl,hb2⟩
      have HB2:=Lib.hid (HBr.out.trans (hb2.mono HBr.out.size));clear hb2
      go_wp2
      go_roundw
      case rel=>exact ⟨k+1,g0',O0++⟨#[44,32]⟩++S0,by omega,by go_num,rfl,by rw [HN.out,←HO.out,←HSS.out,if_neg hk0];simp,HX2.out,HB2.out⟩
      case measure=>simp [intOf];omega
    ·obtain rfl:k=M:=by omega
     have HEK:=Lib.hid (show O0.data.toList=joinT ks by rw [HO.out,List.take_of_length_le (by rw [HX.out.len];exact Nat.le_refl _)])
     have q1: ¬9223372036854775807<1+O0.size:=by omega
     have q2': ¬9223372036854775807<1+O0.size+1:=by omega
     clear hXk hBr hO
     go_wp2
     go_ret
     refine ⟨?_,HB1.out.trans (HBr.out.mono HB1.out.size)⟩
     rw [HE.out,←HEK.out]
     exact congrArg Ending.returned (congrArg Value.string (ba_eq (by simp)))
  ·have HE:=Lib.hid (show bareT (6,s,m) ks=s.data.toList++(40::(joinT ks++[41])) from rfl)
   clear h2 h7 h8 h9 q2 q7 q8 q9 hk56
   generalize m.toNat=M at hLm g1 HX HL⊢
   go_wp2_with fail
   go_loopw [9,10] (fun ou i wr=> ∃(k g:Nat) (O:ByteArray),k≤M∧i= .int .i64 (k:Int)∧ou= .string O∧O.data.toList=joinT (ks.take k)∧Tx l k (f+1) g (ks.take k)∧Below w1.heap.size w1 wr) (fun _ i _=>M-(intOf i).toNat)
   case atStart=>exact ⟨0,f+1,⟨#[]⟩,Nat.zero_le _,rfl,rfl,rfl, .nil _,Below.refl _ _⟩
   case round=>
    obtain ⟨k,g,O0,hk,rfl,rfl,hO,hXk,hBr⟩:=hrel
    have HBr:=Lib.hid hBr;have HXK:=Lib.hid hXk;have HO:=Lib.hid hO
    have hOs:O0.size≤12000:=by
     have h1:=sumT_take ks k;have h2:=joinT_len (ks.take k)
     rw [←size_list,hO];omega
    obtain ⟨-,kk0,kk1,kk2⟩:=HCP1.out.keep HBr.out
    by_cases hlt:k<M
    ·obtain ⟨g0,g0',x0,y0,v0,z0,u0,t0,b0,b0',b0'',s0,-⟩:=tx_part hok HX.out k hlt
     obtain ⟨rfl,-⟩:=hXk.uniq t0
     obtain ⟨bk,rfl,hbk,hck⟩:=kid_cell HG3.out (by rw [hLm];omega)
     have q0:wr.cell? ⟨bk,k,none⟩=some (.int .i64 (g:Int)):=(HBr.out.cell (p:=⟨bk,k,none⟩) hbk).trans (hck k g (by rw [←HL.out];exact u0))
     have HPC:=Lib.hid (HIH.out g g0' x0 wr z0 (by omega) (HR1.out.mono HBr.out))
     have HX2:=Lib.hid (hXk.snoc v0 z0)
     have HN:=Lib.hid (joinT_next ks k x0 v0)
     have hbs:(⟨x0.2.toArray⟩:ByteArray).size=x0.2.length:=rfl
     generalize hSS:(⟨x0.2.toArray⟩:ByteArray)=S0 at HPC hbs
     have HSS:=Lib.hid (show S0.data.toList=x0.2 by rw [←hSS])
     have hS0:S0.size≤12010:=by omega
     have r0: ¬9223372036854775807<O0.size+2:=by omega
     have r1: ¬9223372036854775807<O0.size+S0.size:=by omega
     have r2: ¬9223372036854775807<O0.size+2+S0.size:=by omega
     clear y0 v0 z0 u0 t0 hck hSS hbs hXk hBr hO
     by_cases hk0:k=0
     ·subst hk0
      go_wp2_with fail
      refine HPC.out.mono ?_
      rintro e w2 ⟨rfl,hb2⟩
      have HB2:=Lib.hid (HBr.out.trans (hb2.mono HBr.out.size));clear hb2
      go_wp2
      go_roundw
      case rel=>exact ⟨1,g0',O0++S0,by omega,by go_num,rfl,by rw [HN.out,←HO.out,←HSS.out];simp,HX2.out,HB2.out⟩
      case measure=>simp [intOf];omega
     ·have hk1:(0:Int)<(k:Int):=by omega
      go_wp2_with fail
      refine HPC.out.mono ?_
      rintro e w2 ⟨rfl,hb2⟩
      have HB2:=Lib.hid (HBr.out.trans (hb2.mono HBr.out.size));clear hb2
      go_wp2
      go_roundw
      case rel=>exact ⟨k+1,g0',O0++⟨#[44,32]⟩++S0,by omega,by go_num,rfl,by rw [HN.out,←HO.out,←HSS.out,if_neg hk0];simp,HX2.out,HB2.out⟩
      case measure=>simp [intOf];omega
    ·obtain rfl:k=M:=by omega
     have HEK:=Lib.hid (show O0.data.toList=joinT ks by rw [HO.out,List.take_of_length_le (by rw [HX.out.len];exact Nat.le_refl _)])
     have q1: ¬9223372036854775807<s.size+1:=by omega
     have q1': ¬9223372036854775807<s.size+1+O0.size:=by omega
     have q2': ¬9223372036854775807<s.size+1+O0.size+1:=by omega
     clear hXk hBr hO
     go_wp2
     go_ret
     refine ⟨?_,HB1.out.trans (HBr.out.mono HB1.out.size)⟩
     rw [HE.out,←HEK.out]
     exact congrArg Ending.returned (congrArg Value.string (ba_eq (by simp)))
 have HE:=Lib.hid (show bareT (k,s,m) ks=s.data.toList by
  have h5:k≠5:=fun h=>h56 (.inl h)
  have h6:k≠6:=fun h=>h56 (.inr h)
  simp [bareT,h2,h5,h6,h7,h8,h9])
 have q2:(k==2)=false:=beq_eq_false_iff_ne.mpr h2
 have q5:(k==5)=false:=beq_eq_false_iff_ne.mpr (fun h=>h56 (.inl h))
 have q6:(k==6)=false:=beq_eq_false_iff_ne.mpr (fun h=>h56 (.inr h))
 have q7:(k==7)=false:=beq_eq_false_iff_ne.mpr h7
 have q8:(k==8)=false:=beq_eq_false_iff_ne.mpr h8
 have q9:(k==9)=false:=beq_eq_false_iff_ne.mpr h9
 clear h2 h56 h7 h8 h9
 go_wp2
 go_ret
 exact ⟨by rw [HE.out,ba_self];rfl,HB1.out⟩
theorem text_all {v:Value} {l:List Cl} (h60:l.length≤60) (hok:l.all okW=true): ∀j,TextOK v l j:=by
 intro j
 induction j with
 |zero=>
  intro f t x w hX hj
  obtain ⟨_,h⟩:=hX.exs
  have:=h.le;omega
 |succ j ih=>exact text_step h60 hok ih (part_step h60 hok ih)
theorem txt_any {u:Value} {l:List Cl} (hok:okE l=true) (w:World) (hr:RowC w u l):
  Calls Tryz.prog 93 #[u, .int .i64 0] w fun e w'=>e= .returned (.string ⟨(textE l).toArray⟩)∧Below w.heap.size w w':=by
 obtain ⟨x,hx⟩:=okE_tx hok
 have hoi:=(okE_iff l).mp hok
 rw [textE_of hok hx]
 exact text_all hoi.1 (allW_of hoi.2.1) l.length 0 l.length x w hx (by omega) hr
theorem em_no {s:ByteArray} (h:emB s=false):(s.toList==[])=false∧(s.toList !=[])=true:=by
 have: ¬s.toList=[]:=by
  intro k
  rw [ByteArray.toList_eq] at k
  have h2:s.size=0:=by rw [←ByteArray.size_data,←Array.length_toList,k];rfl
  rw [emB,h2] at h;cases h
 exact ⟨beq_eq_false_iff_ne.mpr this,bne_iff_ne.mpr this⟩
theorem em_yes {s:ByteArray} (h:emB s=true):(s.toList !=[])=false:=by rw [bne,(em_t h).1];rfl
theorem line_spec (i:It) (u:Value) (deep W:Nat) (w:World) (hv:itemB i=true) (hr:RowC w u i.2.2.1) (hn:i.2.1.size≤1048576) (ht:i.2.2.2.size≤1048576) (hd:deep≤4) (hW:W≤1000):
 Calls Tryz.prog 58 #[.agg #[.int .i64 i.1, .string i.2.1,u, .string i.2.2.2], .int .i64 (deep:Int), .int .i64 (W:Int)] w fun e w'=>e= .returned (.string (baL (lineI i deep W)))∧Below w.heap.size w w':=by
 obtain ⟨k,n,l,t⟩:=i
 simp only at hr hn ht⊢
 have HV:=Lib.hid hv;clear hv
 have HR:=Lib.hid hr
 obtain ⟨ao,cap,rfl,hc1,h2,h3⟩:=hr
 clear h3
 unfold maxLen at h2
 have hto:(2*(deep:Int)).toNat=2*deep:=by omega
 have HB1:=Lib.hid ((Below.refl w.heap.size w).alloc (Nat.le_refl _) (.cells #[.int .i64 k, .string n, .slice ao l.length cap, .string t] 32))
 have hss:=sp_size (2*deep)
 obtain ⟨S,HS,hS⟩: ∃S:ByteArray,Hid (baL (spL (2*deep))=S)∧S.size=2*deep:=⟨_,Lib.hid rfl,hss⟩
 clear hss
 by_cases h1:k=1
 ·subst h1
  have HL:=Lib.hid (show baL (lineI (1,n,l,t) deep W)=⟨#[]⟩ from ba_eq (by simp [lineI,baL]))
  go_enter Tryz.func58,Tryz.ntmps58
  go_wp2_with fail
  refine (spaces_spec _ _ (by omega)).mono ?_
  rintro e w1 ⟨rfl,hw1⟩
  subst hw1
  rw [hto,HS.out]
  go_wp2
  go_ret
  exact ⟨by rw [HL.out];rfl,HB1.out⟩
 by_cases h5:k=5
 ·subst h5
  have HL:=Lib.hid (show baL (lineI (5,n,l,t) deep W)=S++⟨#[125]⟩ from by rw [←HS.out];exact ba_eq (by simp [lineI,coreI,baL]))
  have r0: ¬9223372036854775807<S.size+1:=by omega
  go_enter Tryz.func58,Tryz.ntmps58
  go_wp2_with fail
  refine (spaces_spec _ _ (by omega)).mono ?_
  rintro e w1 ⟨rfl,hw1⟩
  subst hw1
  rw [hto,HS.out]
  go_wp2
  go_ret
  exact ⟨by rw [HL.out];rfl,HB1.out⟩
 by_cases h4:k=4
 ·subst h4
  have HL:=Lib.hid (show baL (lineI (4,n,l,t) deep W)=S++n++⟨#[32,123]⟩ from by rw [←HS.out];exact ba_eq (by simp [lineI,coreI,baL]))
  have r0: ¬9223372036854775807<S.size+n.size:=by omega
  have r1: ¬9223372036854775807<S.size+n.size+2:=by omega
  go_enter Tryz.func58,Tryz.ntmps58
  go_wp2_with fail
  refine (spaces_spec _ _ (by omega)).mono ?_
  rintro e w1 ⟨rfl,hw1⟩
  subst hw1
  rw [hto,HS.out]
  go_wp2
  go_ret
  exact ⟨by rw [HL.out];rfl,HB1.out⟩
 cases hem:emB t with
 |true=>
  have e1:=(em_t hem).1
  have e2:=em_yes hem
  have HEM:=Lib.hid hem;clear hem
  by_cases hk2:k=2
  ·subst hk2
   have HL:=Lib.hid (show baL (lineI (2,n,l,t) deep W)=S++⟨#[35]⟩ from by rw [←HS.out];exact ba_eq (by simp [lineI,coreI,baL,HEM.out]))
   have r0: ¬9223372036854775807<S.size+1:=by omega
   go_enter Tryz.func58,Tryz.ntmps58
   go_wp2_with fail
   refine (spaces_spec _ _ (by omega)).mono ?_
   rintro e w1 ⟨rfl,hw1⟩
   subst hw1
   rw [hto,HS.out]
   go_wp2
   go_ret
   exact ⟨by rw [HL.out];rfl,HB1.out⟩
  ·skip
   have hk3:k=3:=by
    have:=HV.out
    unfold itemB at this
    simp only at this
    rw [if_neg (by omega),if_neg hk2] at this
    by_cases h:k=3
    ·exact h
    ·rw [if_neg h,if_neg h4] at this;cases this
   subst hk3
   have hoe:okE l=true:=by
    have:=HV.out
    simp only [itemB] at this
    simp at this
    exact this.2.1
   obtain ⟨P,HP,hP⟩: ∃P:ByteArray,Hid (baL (spL (W-n.size))=P)∧P.size=W-n.size:=⟨_,Lib.hid rfl,sp_size _⟩
   obtain ⟨X,HX,hX⟩: ∃X:ByteArray,Hid ((⟨(textE l).toArray⟩:ByteArray)=X)∧X.size≤12000:=⟨_,Lib.hid rfl,textE_len l⟩
   have HSP:=Lib.hid (show∀w',Calls Tryz.prog 92 #[.int .i64 (IntKind.i64.wrap ((W:Int)-(n.size:Int)))] w' (fun e w2=>e= .returned (.string P)∧w'=w2) from fun w'=>by
    rw [show IntKind.i64.wrap ((W:Int)-(n.size:Int))=(W:Int)-(n.size:Int) from IntWalk.i64_in _ (by omega),←HP.out,show W-n.size=((W:Int)-(n.size:Int)).toNat by omega]
    exact spaces_spec _ w' (by omega))
   have hp2:P.size≤1000:=by omega
   have HL:=Lib.hid (show baL (lineI (3,n,l,t) deep W)=S++n++P++⟨#[32,61,32]⟩++X from by rw [←HS.out,←HP.out,←HX.out];exact ba_eq (by simp [lineI,coreI,baL,HEM.out]))
   have HTX:=Lib.hid (fun w' hr'=>txt_any (u:= .slice ao l.length cap) hoe w' hr')
   have HRB:=Lib.hid (HR.out.mono HB1.out)
   have HRD:=Lib.hid (show RowC (w.alloc (.cells #[.int .i64 3, .string n, .slice ao l.length cap, .string t] 32)).drew (.slice ao l.length cap) l from HRB.out.drewN 1)
   have r0: ¬9223372036854775807<S.size+n.size:=by omega
   have r1: ¬9223372036854775807<S.size+n.size+P.size:=by omega
   have r2: ¬9223372036854775807<S.size+n.size+P.size+3:=by omega
   have r3: ¬9223372036854775807<S.size+n.size+P.size+3+X.size:=by omega
   have hlt:w.heap.size<(w.alloc (.cells #[.int .i64 3, .string n, .slice ao l.length cap, .string t] 32)).drew.heap.size:=by simp
   clear h4 hk2 h5 h1
   go_enter Tryz.func58,Tryz.ntmps58
   go_wp2_with fail
   refine (spaces_spec _ _ (by omega)).mono ?_
   rintro e w1 ⟨rfl,hw1⟩
   subst hw1
   rw [hto,HS.out]
   clear hS hP hp2 hX hto h2 hc1 ht
   go_wp2_with fail
   go_region_held3 (fun w'=>w'.cell? ⟨w.heap.size,1,none⟩=some (.string n)∧w'.cell? ⟨w.heap.size,2,none⟩=some (.slice ao l.length cap)∧w'.cell? ⟨w.heap.size,3,none⟩=some (.string t))
    (first
      |go_keep
      |(go_split_ands
        refine ⟨?_, ?_, ?_⟩
        ·(rw [hb3.cell (by exact hlt)];assumption)
        ·(rw [hb3.cell (by exact hlt)];assumption)
        ·(rw [hb3.cell (by exact hlt)];assumption)))
    (first
      |((go_at_call 92;(with_reducible refine (HSP.out _).mono ?_);rintro e w2 ⟨rfl,hw2⟩;subst hw2))
      |((go_at_call 93;(with_reducible refine (HTX.out _ HRD.out).mono ?_);rintro e w3 ⟨rfl,hb3⟩;rw [HX.out])))
   all_goals
    have HB3:=Lib.hid (HB1.out.drew.trans (hb3.mono HB1.out.size));clear hb3
    go_wp2
    go_ret
    exact ⟨by rw [HL.out];rfl,HB3.out⟩
 |false=>
  obtain ⟨e1,e2⟩:=em_no hem
  have HEM:=Lib.hid hem;clear hem
  by_cases hk2:k=2
  ·subst hk2
   have HL:=Lib.hid (show baL (lineI (2,n,l,t) deep W)=S++⟨#[35]⟩++⟨#[32]⟩++t from by rw [←HS.out];exact ba_eq (by simp [lineI,coreI,baL,HEM.out]))
   have r0: ¬9223372036854775807<S.size+1:=by omega
   have r1: ¬9223372036854775807<S.size+1+1:=by omega
   have r2: ¬9223372036854775807<S.size+1+1+t.size:=by omega
   go_enter Tryz.func58,Tryz.ntmps58
   go_wp2_with fail
   refine (spaces_spec _ _ (by omega)).mono ?_
   rintro e w1 ⟨rfl,hw1⟩
   subst hw1
   rw [hto,HS.out]
   go_wp2
   go_ret
   exact ⟨by rw [HL.out];rfl,HB1.out⟩
  ·skip
   have hk3:k=3:=by
    have:=HV.out
    unfold itemB at this
    simp only at this
    rw [if_neg (by omega),if_neg hk2] at this
    by_cases h:k=3
    ·exact h
    ·rw [if_neg h,if_neg h4] at this;cases this
   subst hk3
   have hoe:okE l=true:=by
    have:=HV.out
    simp only [itemB] at this
    simp at this
    exact this.2.1
   obtain ⟨P,HP,hP⟩: ∃P:ByteArray,Hid (baL (spL (W-n.size))=P)∧P.size=W-n.size:=⟨_,Lib.hid rfl,sp_size _⟩
   obtain ⟨X,HX,hX⟩: ∃X:ByteArray,Hid ((⟨(textE l).toArray⟩:ByteArray)=X)∧X.size≤12000:=⟨_,Lib.hid rfl,textE_len l⟩
   have HSP:=Lib.hid (show∀w',Calls Tryz.prog 92 #[.int .i64 (IntKind.i64.wrap ((W:Int)-(n.size:Int)))] w' (fun e w2=>e= .returned (.string P)∧w'=w2) from fun w'=>by
    rw [show IntKind.i64.wrap ((W:Int)-(n.size:Int))=(W:Int)-(n.size:Int) from IntWalk.i64_in _ (by omega),←HP.out,show W-n.size=((W:Int)-(n.size:Int)).toNat by omega]
    exact spaces_spec _ w' (by omega))
   have hp2:P.size≤1000:=by omega
   have HL:=Lib.hid (show baL (lineI (3,n,l,t) deep W)=S++n++P++⟨#[32,61,32]⟩++X++⟨#[32,35]⟩++⟨#[32]⟩++t from by rw [←HS.out,←HP.out,←HX.out];exact ba_eq (by simp [lineI,coreI,baL,HEM.out]))
   have HTX:=Lib.hid (fun w' hr'=>txt_any (u:= .slice ao l.length cap) hoe w' hr')
   have HRB:=Lib.hid (HR.out.mono HB1.out)
   have HRD:=Lib.hid (show RowC (w.alloc (.cells #[.int .i64 3, .string n, .slice ao l.length cap, .string t] 32)).drew (.slice ao l.length cap) l from HRB.out.drewN 1)
   have r0: ¬9223372036854775807<S.size+n.size:=by omega
   have r1: ¬9223372036854775807<S.size+n.size+P.size:=by omega
   have r2: ¬9223372036854775807<S.size+n.size+P.size+3:=by omega
   have r3: ¬9223372036854775807<S.size+n.size+P.size+3+X.size:=by omega
   have r4: ¬9223372036854775807<S.size+n.size+P.size+3+X.size+2:=by omega
   have r5: ¬9223372036854775807<S.size+n.size+P.size+3+X.size+2+1:=by omega
   have r6: ¬9223372036854775807<S.size+n.size+P.size+3+X.size+2+1+t.size:=by omega
   have hlt:w.heap.size<(w.alloc (.cells #[.int .i64 3, .string n, .slice ao l.length cap, .string t] 32)).drew.heap.size:=by simp
   clear h4 hk2 h5 h1
   go_enter Tryz.func58,Tryz.ntmps58
   go_wp2_with fail
   refine (spaces_spec _ _ (by omega)).mono ?_
   rintro e w1 ⟨rfl,hw1⟩
   subst hw1
   rw [hto,HS.out]
   clear hS hP hp2 hX hto h2 hc1 ht
   go_wp2_with fail
   go_region_held3 (fun w'=>w'.cell? ⟨w.heap.size,1,none⟩=some (.string n)∧w'.cell? ⟨w.heap.size,2,none⟩=some (.slice ao l.length cap)∧w'.cell? ⟨w.heap.size,3,none⟩=some (.string t))
    (first
      |go_keep
      |(go_split_ands
        refine ⟨?_, ?_, ?_⟩
        ·(rw [hb3.cell (by exact hlt)];assumption)
        ·(rw [hb3.cell (by exact hlt)];assumption)
        ·(rw [hb3.cell (by exact hlt)];assumption)))
    (first
      |((go_at_call 92;(with_reducible refine (HSP.out _).mono ?_);rintro e w2 ⟨rfl,hw2⟩;subst hw2))
      |((go_at_call 93;(with_reducible refine (HTX.out _ HRD.out).mono ?_);rintro e w3 ⟨rfl,hb3⟩;rw [HX.out])))
   all_goals
    have HB3:=Lib.hid (HB1.out.drew.trans (hb3.mono HB1.out.size));clear hb3
    go_wp2
    go_ret
    exact ⟨by rw [HL.out];rfl,HB3.out⟩
def RowOf (w:World) (v:Value) (L:List Value):Prop:=
 ∃ao cap,v= .slice ao L.length cap∧L.length≤cap∧cap≤maxLen∧(L=[]∨ ∃b off,ao=some ⟨b,off,none⟩∧b<w.heap.size∧ ∀(j:Nat) t,L[j]? =some t→w.cell? ⟨b,off+j,none⟩=some t)
theorem RowOf.mono {w w':World} {v:Value} {L:List Value} (h:RowOf w v L) (hb:Below w.heap.size w w'):RowOf w' v L:=by
 obtain ⟨ao,cap,hv,h1,h2,h3⟩:=h
 refine ⟨ao,cap,hv,h1,h2, ?_⟩
 rcases h3 with h3|⟨b,off,ha,hlt,hj⟩
 ·exact .inl h3
 ·exact .inr ⟨b,off,ha,Nat.lt_of_lt_of_le hlt hb.size,fun j t ht=>by rw [hb.cell (by exact hlt)];exact hj j t ht⟩
theorem RowOf.of_own {w:World} {base:Nat} {e:TypeId} {v:Value} {n:Nat} {L:List Value} (h:w.ownsRow base e 1 v n L):RowOf w v L:=by
 have h0:=h
 obtain ⟨hl,h2⟩:=h
 rcases h2 with ⟨rfl,rfl⟩|⟨g,cap,cur,rfl,hg,hh,h1,h2,_⟩
 ·obtain rfl:L=[]:=List.eq_nil_of_length_eq_zero (by omega)
  exact ⟨none,0,rfl,Nat.le_refl _,by unfold maxLen;omega, .inl rfl⟩
 ·obtain rfl:n=L.length:=by omega
  refine ⟨_,cap,rfl,h1,h2, .inr ⟨g,0,rfl, ?_, ?_⟩⟩
  ·by_cases hk:g<w.heap.size
   ·exact hk
   ·rw [Array.getElem?_eq_none (by omega)] at hh;cases hh
  ·intro j t ht
   have hlt:j<L.length:=by
    by_cases hk:j<L.length
    ·exact hk
    ·rw [List.getElem?_eq_none (by omega)] at ht;cases ht
   rw [Nat.zero_add,h0.cellAt j (by omega)]
   exact ht
theorem infoStr:(Tryz.prog.info? 9).map (fun i=>(i.zero,i.size,i.bytes))=some (some (.string ByteArray.empty),1,16):=by kernel_rfl
def strs (l:List ByteArray):List Value:=l.map Value.string
theorem strs_length (l:List ByteArray):(strs l).length=l.length:=by simp [strs]
theorem strs_append (a b:List ByteArray):strs (a++b)=strs a++strs b:=by simp [strs]
inductive Tz (l:List Cl):Nat→Nat→Nat→List Pz→Prop
 |nil (f:Nat):Tz l 0 f f []
 |cons {f g n t:Nat} {c:Cl} {ks xs:List Pz}:l[f]? =some c→Tz l c.2.2.toNat (f+1) g ks→Tz l n g t xs→Tz l (n+1) f t (mkPz c ks::xs)
theorem Tz.len {l:List Cl} {n f t:Nat} {xs:List Pz} (h:Tz l n f t xs):xs.length=n:=by
 induction h with
 |nil f=>rfl
 |cons hc h1 h2 i1 i2=>rw [List.length_cons,i2]
theorem Tz.tx {l:List Cl} {n f t:Nat} {xs:List Pz} (h:Tz l n f t xs):Tx l n f t (xs.map ptOf):=by
 induction h with
 |nil f=>exact .nil f
 |cons hc h1 h2 i1 i2=>exact .cons hc i1 i2
theorem Tz.of_exs {l:List Cl} {n f t d:Nat} (h:Exs (amL l) n f t d): ∃xs,Tz l n f t xs∧maxD xs=d:=by
 generalize ha:amL l=am at h
 induction h with
 |nil f=>exact ⟨[], .nil f,rfl⟩
 | @cons f m g d n t e hm h1 h2 i1 i2=>
  obtain ⟨ks,k1,k2⟩:=i1;obtain ⟨xs,k3,k4⟩:=i2
  subst ha
  obtain ⟨c,hc,rfl⟩:=amL_get hm
  refine ⟨_, .cons hc k1 k3, ?_⟩
  simp only [maxD,mkPz,k2,k4]
theorem Tz.good {l:List Cl} (hok:l.all okC=true) {n f t:Nat} {xs:List Pz} (h:Tz l n f t xs): ∀x∈xs,Good x:=by
 induction h with
 |nil f=>intro x hx;cases hx
 | @cons f g n t c ks xs hc h1 h2 i1 i2=>
  intro x hx
  rcases List.mem_cons.mp hx with rfl|hx
  ·obtain ⟨hl,he⟩:=List.getElem?_eq_some_iff.mp hc
   exact good_mk (by rw [←he];exact okC_all hok f hl) h1.len i1
  ·exact i2 x hx
theorem Tz.cells {l:List Cl} {n f t:Nat} {xs:List Pz} (h:Tz l n f t xs):xs.flatMap Pz.cl=(l.drop f).take (t-f)∧f≤t:=by
 induction h with
 |nil f=>simp
 | @cons f g n t c ks xs hc h1 h2 i1 i2=>
  obtain ⟨hl,he⟩:=List.getElem?_eq_some_iff.mp hc
  obtain ⟨e1,l1⟩:=i1
  obtain ⟨e2,l2⟩:=i2
  refine ⟨?_,by omega⟩
  have e0:l.drop f=c::l.drop (f+1):=by rw [List.drop_eq_getElem_cons hl,he]
  rw [List.flatMap_cons,e2]
  simp only [mkPz]
  rw [e1,e0,show t-f=(t-(f+1))+1 by omega,List.take_succ_cons,List.cons_append]
  congr 1
  have:l.drop g=(l.drop (f+1)).drop (g-(f+1)):=by rw [List.drop_drop];congr 1;omega
  rw [this,show t-(f+1)=(g-(f+1))+(t-g) by omega,List.take_add]
theorem pz_of {l:List Cl} (hok:okE l=true): ∃x:Pz,Good x∧x.tx=textE l∧x.cl=l∧x.dp≤12:=by
 obtain ⟨h60,hal,d,hd,hx⟩:=(okE_iff l).mp hok
 obtain ⟨xs,h,hm⟩:=Tz.of_exs hx
 have hl:=h.len
 match xs,hl,h,hm with
 |[x],_,h,hm=>
  refine ⟨x,h.good hal x (by simp), ?_, ?_, ?_⟩
  ·have:=textE_of hok (x:=ptOf x) h.tx
   rw [this];rfl
  ·have:=h.cells.1
   simpa using this
  ·simp only [maxD] at hm;omega
end Go.Proofs.YtegdjjjpoahamaaGreatDoor
