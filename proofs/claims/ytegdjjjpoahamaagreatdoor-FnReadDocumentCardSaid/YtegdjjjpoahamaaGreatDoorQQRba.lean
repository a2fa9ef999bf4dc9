/-
  Part of the proof of FnReadDocument.
-/
import Derived.Test.YtegdjjjpoahamaaGreatDoorQQRay
import Derived.Test.YtegdjjjpoahamaaGreatDoorQQRaw
import Derived.Test.YtegdjjjpoahamaaGreatDoorQQRam
import Derived.Test.YtegdjjjpoahamaaGreatDoorQQRaz
set_option linter.unusedVariables false
set_option maxHeartbeats 8000000
set_option maxRecDepth 100000
namespace Go.Proofs.YtegdjjjpoahamaaGreatDoor
open Go.RowKit
theorem iZ {l:List Cl} (h:co l):ec l:=fun c hc=>by have:=h c hc;unfold maxLen;omega
theorem gT {l:List It} (h:fm l):aea l:=fun i hi=>by
 obtain ⟨h1,h2,h3,h4⟩:=h i hi;exact ⟨by unfold maxLen;omega,iZ h2,by unfold maxLen;omega⟩
theorem afq {w W':World} {B n:Nat} {u:Value} {xs:List Value} (h:w.ownsRow B 3 1 u n xs) (hk:KL w W'):W'.ownsRow B 3 1 u n xs:=by
 refine dI h fun g hg=> ?_
 rcases h.2 with ⟨rfl,-⟩|⟨g',cap,cur,rfl,Ij,hh,-⟩
 ·simp [Value.ownBlock] at hg
 ·obtain rfl:g'=g:=by simpa [Value.ownBlock] using hg
  rw [hh];exact hk _ _ _ _ hh (by decide) (by decide)
theorem afr {w:World} {B:Nat} {l:List It} {ua:Option Addr} {uc:Nat} (h:w.ownsRow B 3 1 (.slice ua l.length uc) l.length (fu (dps 0 l))) (h0:0<l.length):
  ∃bd,ua=some ⟨bd,0,none⟩∧ ∀W',KL w W'→ ∀k,k<l.length→ ∀D:Nat,(dL 0 l)[k]? =some (D:Int)→W'.cell? ⟨bd,k,none⟩=some (.int .i64 (D:Int)):=by
 rcases h.2 with ⟨h1,h2⟩|⟨g,cap,cur,h1,Ij,hh,-⟩
 ·omega
 ·injection h1 with e1 e2 e3
  subst e1;refine ⟨g,rfl,fun W' hk k Ab D hD=> ?_⟩;rw [(afq h hk).cellAt k (by omega)]
  have hd:(dps 0 l)[k]? =some D:=by
   unfold dps;rw [List.getElem?_map,show ((0:Nat):Int)=0 from rfl,hD]
   rfl
  simp [fu,hd]
theorem wl {L:List ByteArray} (hp: ∀t∈L,aq t.data.toList=true):aD (bM L L.length)=el L∧(el L=true→bM L L.length=fS L):=by
 by_cases hj:el L=true
 ·have e:fS L=bM L L.length:=by rw [fS,if_pos hj]
  have k1:=(kS _ hj).1;rw [e] at k1;exact ⟨by rw [k1,hj],fun _=>e.symm⟩
 ·refine ⟨?_,fun h=>absurd h hj⟩
  rw [Bool.eq_false_iff.mpr hj,Bool.eq_false_iff];intro ht;simp only [aD,Bool.and_eq_true,decide_eq_true_eq] at ht;exact hj (zN _ hp ht.1)
theorem tr {l:List It} (hd:dT l=true): ∀t∈aV l,aq t.data.toList=true:=by
 intro t ht;obtain ⟨k,hk,rfl⟩:=List.getElem_of_mem ht
 have B8:k<l.length:=by rw [cO] at hk;exact hk
 rw [show (aV l)[k]=_ from gh l 0 k B8,bK];have hv:=((bP l).mp hd).2.1;rw [List.all_eq_true] at hv;exact iP (hv _ (List.getElem_mem B8)) _ 0
theorem tu {l:List It} (k:Nat) (hk:k<l.length) (D:Nat) (hD:(dL 0 l)[k]? =some (D:Int)):
  (bM (aV l) (k+1)).data.toList=(bM (aV l) k).data.toList++bj l[k] D 0++[10]:=by
 have B8:k<(aV l).length:=by rw [cO];exact hk
 have DB:(d9 (aV l) k).data.toList=bj l[k] D 0:=by
  rw [kM _ _ B8];have:=congrArg (fun t:ByteArray=>t.data.toList) (gh l 0 k hk);have hd:=qH l 0 k hk
  have e:((dL 0 l)[k]'(by rw [cj];exact hk)).toNat=D:=by
   rw [List.getElem?_eq_getElem (by rw [cj];exact hk)] at hD
   injection hD with hD
   rw [hD];rfl
  rw [e] at this;exact this.trans (bK _)
 rw [bM,ByteArray.data_append,ByteArray.data_append,Array.toList_append,Array.toList_append,DB]
theorem xU {l:List It} (hz:fm l) (hn:aZ 0 l=some 0): ∀k,k≤l.length→(bM (aV l) k).data.toList.length≤k*2200000:=by
 intro k
 induction k with
 |zero=>intro _;exact agD _
 |succ k ih=>
  intro hk;obtain ⟨D,hD,Ni,-⟩:=mF hn k (by omega);rw [tu k (by omega) D hD,agE,agE,List.length_singleton];have h1:=ih (by omega);have h2:=jY l[k] D 0;obtain ⟨z1,-,-,z4⟩:=hz _ (List.getElem_mem (show k<l.length by omega))
  omega
def RowKw (w0 w:World) (v:Value) (l:List It):Prop:=
 ∃ao cap,v= .slice ao l.length cap∧l.length≤cap∧cap≤maxLen∧(l=[]∨ ∃b o,ao=some ⟨b,o,none⟩∧ ∀(k:Nat) (h:k<l.length),∃u,RowC w0 u l[k].2.2.1∧ ∀W',Below w0.heap.size w0 W'→KL w W'→
  W'.cell? ⟨b,o+k*4,none⟩=some (.int .i64 l[k].1)∧W'.cell? ⟨b,o+k*4+1,none⟩=some (.string l[k].2.1)∧W'.cell? ⟨b,o+k*4+2,none⟩=some u∧W'.cell? ⟨b,o+k*4+3,none⟩=some (.string l[k].2.2.2))
theorem RowKw.of {w0 w:World} {v:Value} {l:List It} (h:RowIt w0 v l):RowKw w0 w v l:=by
 obtain ⟨ao,cap,hv,h1,h2,h3⟩:=h;refine ⟨ao,cap,hv,h1,h2,h3.imp id ?_⟩;rintro ⟨b,o,ha,Ab,hj⟩;refine ⟨b,o,ha,fun k hk=> ?_⟩;obtain ⟨u,hu⟩:=hj k hk;refine ⟨u,hu.2.2.2.2,fun W' hb _=> ?_⟩;obtain ⟨d0,d1,d2,d3,-⟩:=hu.mono Ab hb;exact ⟨d0,d1,d2,d3⟩
theorem wm (w0 w:World) (b:Nat) (v u:Value) (l:List It) (hb:Below w0.heap.size w0 w) (hw:LwAt w0.heap.size b [] w) (hr:RowKw w0 w v l) (hz:fm l) (Ep:l.length≤30) (En: ∀i∈l,aP i=true∨i.1=3) (hn:aZ 0 l=some 0) (Al:Tab w0)
  (hu: ∃B,w.ownsRow B 3 1 u l.length (fu (dps 0 l))):
  Calls Tryz.prog 54 #[.pointer (some ⟨b,0,none⟩),v,u] w (LwD w0 w b (bM (aV l) l.length).data.toList):=by
 have BS:=agC En;have Lj:=agC (mF hn);have Li:=agC (fun (k:Nat) (hk:k<l.length) (D:Nat)=>tu (l:=l) k hk D);have Rf:=agC (xU hz hn);have HZ:=agC hz;have HT:=agC Al;have HB:=agC hb;have HW:=agC hw;obtain ⟨ao,cap,rfl,h1,h2,h3⟩:=hr;obtain ⟨B,hu⟩:=hu;have HU:=agC hu;obtain ⟨ua,uc,rfl⟩:=aN hu;have H3:=agC h3;unfold maxLen at h2;clear hz Al hb hw hu h3 En hn
 go_enter Tryz.func54,Tryz.ntmps54
 go_wp2_with fail
 go_loopw [10] (fun i wr=> ∃k:Nat,k≤l.length∧i= .int .i64 (k:Int)∧LwAt w0.heap.size b (bM (aV l) k).data.toList wr∧Below w0.heap.size w0 wr∧KL w wr) (fun i _=>l.length-(intOf i).toNat)
 case atStart=>exact ⟨0,agH _,rfl,HW.out,HB.out,KL.refl w⟩
 case round=>
  obtain ⟨k,hk,rfl,hW,hB,hK⟩:=hrel;have MP:=agC hW;have BI:=agC hB;have Pb:=agC hK;clear hW hB hK
  by_cases Ab:k<l.length
  ·have Bm:(k:Int)<(l.length:Int):=by omega
   have Bo:(0:Int)≤(k:Int):=by omega
   obtain ⟨bl,o,rfl,cc⟩:=H3.out.resolve_left (by rintro rfl;simp at Ab);obtain ⟨u,Ei,hu⟩:=cc k Ab;obtain ⟨d0,d1,d2,d3⟩:=hu _ BI.out Pb.out;have Pc:=agC Ei;obtain ⟨z1,z2,z3,z4⟩:=HZ.out _ (List.getElem_mem Ab);obtain ⟨D,hD,Ni,-⟩:=Lj.out k Ab;have JW:=BS.out _ (List.getElem_mem Ab);have BV:=agC (Li.out k Ab D hD);have Ly:=Rf.out k hk;obtain ⟨bd,Dt,Kp⟩:=afr HU.out (by omega:0<l.length);subst Dt;have EX:=agC (fun (W':World) (GL:KL w W')=>Kp W' GL k Ab D hD);clear Kp hu cc;generalize l[k]=it at d0 d1 d2 d3 Ei Pc JW z1 z2 z4 BV;obtain ⟨ik,inm,ics,int⟩:=it;simp only at d0 d1 d2 d3 Ei Pc z1 z2 z4
   obtain ⟨au,cu,rfl⟩: ∃au cu,u= .slice au ics.length cu:=by obtain ⟨au,cu,h,-⟩:=Ei;exact ⟨au,cu,h⟩
   have X1:=agC (BxAt.new wr ik inm (.slice au ics.length cu) int);have BX:=agC ((Below.refl wr.heap.size wr).alloc (agD _) (.cells #[.int .i64 ik, .string inm, .slice au ics.length cu, .string int] 32));have WD:=agC (MP.out.later BX.out.drew);have BD:=agC (BI.out.trans (BX.out.drew.mono BI.out.size));have KX:=agC (Pb.out.trans (KL.alloc wr (.cells #[.int .i64 ik, .string inm, .slice au ics.length cu, .string int] 32)));have KD:=agC (KX.out.trans (show KL _ (wr.alloc (.cells #[.int .i64 ik, .string inm, .slice au ics.length cu, .string int] 32)).drew from KL.refl _));have dd:=EX.out _ KX.out;obtain ⟨x0,x1,x2,x3⟩:=X1.out.cells;have IQ:=agC (fun (w':World) (hb:Below w0.heap.size w0 w') (hw:LwAt w0.heap.size b (bM (aV l) k).data.toList w')=>ae9 w0 w' b _ (ik,inm,ics,int) (.slice au ics.length cu) D JW hb hw Pc.out (iZ z2) HT.out z1 z4 Ni (by omega));clear JW z1 z2 z3 z4 Ei hD;have Pd:(k:Int)<(l.length:Int):=Bm;go_wp2_with fail
   go_region_with (go_at_call 87;(refine (IQ.out _ BD.out WD.out).mono ?_);rintro e w3 ⟨rfl,h3,Ag,Bf⟩)
   all_goals
    have W3:=agC h3;have B3:=agC Ag;have K3:=agC (KD.out.trans Bf);have DB:=BV.out;clear h3 Ag Bf d0 d1 d2 d3 x0 x1 x2 x3 dd
    have Rh:((bM (aV l) k).data.toList++bj (ik,inm,ics,int) D 0).length≤100000000:=by
     have:=jY (ik,inm,ics,int) D 0;have h8:=Rf.out (k+1) (by omega);rw [DB,agE,List.length_singleton] at h8
     omega
    have TH:=agC DB;clear DB;go_wp2_with fail;refine (mu _ b _ 10 10 (by decide) _ W3.out (by omega) B3.out.size).mono ?_;rintro e w4 ⟨rfl,h4,As,Ay⟩;have W4:=agC h4;have B4:=agC (B3.out.trans As);have K4:=agC (K3.out.trans Ay);clear h4 As Ay;go_wp2;go_roundw
    case rel=>exact ⟨k+1,by omega,by go_num,by rw [TH.out];exact W4.out,B4.out,K4.out⟩
    case measure=>simp [intOf];omega
  ·obtain rfl:k=l.length:=by omega
   have Bm: ¬(l.length:Int)<(l.length:Int):=by omega
   go_wp2;go_end0;exact ⟨rfl,MP.out,BI.out,Pb.out⟩
theorem ace (B b:Nat) (A:ByteArray) (w:World) (h:LwAt B b A.data.toList w) (hB:B≤w.heap.size) (hl:A.size≤100000000):
  Calls Tryz.prog 57 #[.pointer (some ⟨b,0,none⟩)] w fun e w'=>e= .returned (.tuple #[.string (if aD A=true then A else ⟨#[]⟩), .bool (aD A)])∧Below B w w':=by
 have HW:=agC h;clear h
 obtain ⟨X,hX⟩: ∃X,(if aD A=true then A else (⟨#[]⟩:ByteArray))=X:=⟨_,rfl⟩
 rw [hX];have HX:=agC hX;clear hX
 go_enter Tryz.func57,Tryz.ntmps57
 go_wp2_with fail;refine (zP B b _ w HW.out hB).mono ?_;rintro e w4 ⟨rfl,As⟩;rw [show (⟨A.data.toList.toArray⟩:ByteArray)=A from ByteArray.ext (by simp)];have Aw:=agC As;clear As;go_wp2_with fail;refine (bW A _ (by unfold maxLen;omega)).mono ?_;rintro e w5 ⟨rfl,Nb⟩;subst Nb
 cases hk:aD A
 ·have HY:=agC (show X=⟨#[]⟩ by rw [←HX.out,hk];rfl)
  have HK:=agC hk;clear HX hk;go_wp2;go_ret2;exact ⟨by rw [HY.out,HK.out];rfl,Aw.out⟩
 ·have HY:=agC (show X=A by rw [←HX.out,hk];rfl)
  have HK:=agC hk;clear HX hk;go_wp2;go_ret2;exact ⟨by rw [HY.out,HK.out];rfl,Aw.out⟩
theorem kR (v:Value) (l:List It) (w:World) (hr:RowIt w v l) (hz:fm l) (hl:l.length≤1048576) (Al:Tab w):
  Calls Tryz.prog 29 #[v] w fun e w'=>e= .returned (.tuple #[.string (bR l), .bool (ea l)])∧Below w.heap.size w w':=by
 have HC:=agC (gu v l w hr (gT hz) Al);have HR:=agC hr;have HT:=agC Al;have HZ:=agC hz;obtain ⟨ao,cap,rfl,h1,h2,h3⟩:=hr;clear h3 hz Al
 cases Aj:dT l with
 |false=>
  obtain ⟨hk,ht⟩:=qt Aj;rw [hk,ht];rw [Aj] at HC;clear hk ht Aj
  go_enter Tryz.func29,Tryz.ntmps29
  go_wp2_with fail;refine HC.out.mono ?_;rintro e w1 ⟨rfl,Aa⟩;have Af:=agC Aa;clear Aa;go_wp2;go_ret2;exact ⟨rfl,Af.out⟩
 |true=>
  obtain ⟨Ep,En,hn⟩:=(bP l).mp Aj;rw [List.all_eq_true] at En;have Hg:=agC (wl (tr Aj));have HJ:=agC (mV Aj);have Ri:=agC (fun (w0 w1:World) (b:Nat) (v u:Value) (hb:Below w0.heap.size w0 w1) (hw:LwAt w0.heap.size b [] w1) (hr:RowIt w0 v l) (ht:Tab w0) (hu: ∃B,w1.ownsRow B 3 1 u l.length (fu (dps 0 l)))=>wm w0 w1 b v u l hb hw (.of hr) HZ.out Ep (fun i hi=> .inl (En i hi)) hn ht hu);have TI:=agC (fun (w':World) (v:Value) (hr:RowIt w' v l) (ht:Tab w')=>o4 v l w' hr (gT HZ.out) ht);have EX:=agC (show dpD l=dps 0 l by unfold dpD;rw [if_pos Aj])
  have Ai:(bM (aV l) l.length).size≤100000000:=by
   have:=xU HZ.out hn l.length (agD _);rw [wz];omega
  rw [cO] at Hg;rw [Aj] at HC
  obtain ⟨A,hA⟩: ∃A,A=bM (aV l) l.length:=⟨_,rfl⟩
  rw [←hA] at Ri Hg Ai
  have Cb:=agC (show (if aD A=true then A else ⟨#[]⟩)=bR l∧aD A=ea l from by
   obtain ⟨p1,p2⟩:=Hg.out;obtain ⟨j1,j2⟩:=HJ.out;refine ⟨?_,by rw [j1,p1]⟩
   by_cases ht:aD A=true
   ·rw [if_pos ht,j2];exact p2 (by rw [←p1];exact ht)
   ·rw [if_neg ht,bR,if_neg (by rw [j1,←p1];exact ht)])
  clear Aj hA En hn
  go_enter Tryz.func29,Tryz.ntmps29
  go_wp2_with fail;refine HC.out.mono ?_;rintro e w1 ⟨rfl,Aa⟩;have Af:=agC Aa;have DI:=agC (HR.out.mono Aa);have GN:=agC (HT.out.keep Aa);have BX:=agC ((Below.refl w1.heap.size w1).alloc (agD _) (.cells #[.pointer none, .slice none 0 0] 64));clear Aa;go_wp2_with fail;refine (TI.out _ _ (DI.out.mono BX.out) (GN.out.keep BX.out)).mono ?_;rintro e w2 ⟨u,rfl,Bu,Ae⟩;rw [EX.out,iA] at Bu;have W2:=agC ((LwAt.new w1).later Ae);have B2:=agC (BX.out.trans (Ae.mono (by simp)));have O2:=agC Bu;obtain ⟨ua,uc,rfl⟩:=aN Bu;clear Ae Bu;go_wp2_with fail;refine (Ri.out w1 w2 w1.heap.size _ _ B2.out W2.out DI.out GN.out ⟨_,O2.out⟩).mono ?_;rintro e w3 ⟨rfl,h3,Ag,-⟩;have W3:=agC h3;have B3:=agC Ag;clear h3 Ag;go_wp2_with fail;refine (ace w1.heap.size w1.heap.size A w3 W3.out B3.out.size Ai).mono ?_;rintro e w4 ⟨rfl,As⟩;rw [Cb.out.1,Cb.out.2];have Aw:=agC (Af.out.trans ((B3.out.trans As).mono Af.out.size));clear As;go_wp2;go_ret2;exact ⟨rfl,Aw.out⟩
def agv:Value→Nat
 | .slice _ n _=>n
 |_=>0
def DocD (R p:Nat) (w:World) (e:Ending) (w':World):Prop:=
 ∃(v:Value) (us:List Value) (l:List It),e= .returned v∧OwnG w' w.heap.size v us l∧(∀i∈l,gH i)∧l.length≤41∧Rdm w' R (p+310000)∧w.grownBy w' (some R)
theorem DocD.of {w w':World} {R p q n:Nat} {v:Value} {us:List Value} {l:List It} (h:AfD w w' R q n v us l) (hq:q≤p+310000) (hn:n≤41):DocD R p w (.returned v) w':=
 ⟨v,us,l,rfl,h.own,h.few,Nat.le_trans h.len hn,h.rd.mono hq,h.gr⟩
theorem rt (R p:Nat) (n:Int) (w:World) (hp:p+400000<30000000) (Ch:0≤n) (BO:n≤1000) (h:Rdm w R p):
  Calls Tryz.prog 81 #[.pointer (some ⟨R,0,none⟩), .int .i64 n] w (DocD R p w):=by
 go_enter Tryz.func81,Tryz.ntmps81
 go_wp2_with fail;refine (aae R p _ (by omega) h).mono ?_;rintro e w1 ⟨v1,Up,l1,rfl,Eo,LQ,FF,Ck,hg1⟩;obtain ⟨g1,c1,rfl⟩:=Eo.is
 by_cases Ai:30<l1.length
 case' pos=>
  have Uo:(30:Int)<(l1.length:Int):=by omega
  have A1:=agC ((AfD.lit h hg1 Ck).more (agD _) (show 0≤30 by omega))
 case' neg=>
  have Uo: ¬(30:Int)<(l1.length:Int):=by omega
  have A1:=agC (show AfD w w1 R (p+300000) 30 (.slice (some ⟨g1,0,none⟩) l1.length c1) Up l1 from ⟨Eo,LQ,by omega,Ck,hg1,h.lt⟩)
 all_goals
  clear Eo LQ FF Ck hg1 h Ai;go_wp2_with fail;refine (fH R (p+300000) n _ (by omega) (by omega) (by omega) A1.out.rd).mono ?_;rintro e w2 ⟨bo,rfl,-,AM,hg2,-⟩;have A2:=agC (A1.out.call AM hg2);clear AM hg2
  cases bo with
  |false=>
   go_wp2;go_ret;exact DocD.of A2.out (by omega) (by omega)
  |true=>
   go_wp2_with fail;refine (aj R (p+300000+1) 5 _ (by omega) A2.out.rd).mono ?_;rintro e w3 ⟨j,rfl,Ed,CE,-,AR,AF,-⟩;have Hj:=CE (by omega);have A3:=agC (A2.out.call AR AF);have Gp:=A3.out.gr.size;clear CE AR AF
   have hj:j=0∨j=1∨j=2∨j=3∨j=4:=by omega
   clear Ed Hj
   rcases hj with rfl|rfl|rfl|rfl|rfl
   ·go_wp2_with (at_builtin;refine mE rfl A3.out _ _ rfl rfl rfl (by decide) (by omega) ?_;rintro v5 w5 u5 l5 a5- - -;have A5:=agC a5;obtain ⟨g5,c5,rfl⟩:=a5.own.is;clear a5)
    go_wp2;go_ret;exact DocD.of A5.out (by omega) (by omega)
   ·go_wp2_with (at_builtin;refine rp rfl A3.out _ _ rfl rfl rfl KeptC.nil (gA 5 (by decide)) Gp (agD _) (by omega) ?_;rintro v5 w5 u5 l5 a5- - -;have A5:=agC a5;obtain ⟨g5,c5,rfl⟩:=a5.own.is;clear a5)
    go_wp2;go_ret;exact DocD.of A5.out (by omega) (by omega)
   ·go_wp2_with fail
    refine (oj R (p+300000+1+1) 1 _ (by omega) (by omega) (by omega) A3.out.rd).mono ?_;rintro e w7 ⟨i7,au,ac,rfl,I7,Km,EI,FA⟩;obtain ⟨ik,inm,ics,int⟩:=i7;have BL:=agC A3.out.blt;have A7:=agC (A3.out.call EI FA);have F7:=agC Km;have K7:=agC (show KeptC w7 w3.heap.size (some w7.heap.size) (.slice au ics.length ac) ics from fun w' h1 h2=>I7 w' (fun b hb hl=>h1 b hb hl (fun e=>by injection e with e;omega)) h2);have Gq:w3.heap.size≤w7.heap.size:=FA.size;clear I7 Km EI FA
    go_wp2_with (at_builtin;refine rm rfl A7.out _ _ rfl rfl rfl K7.out F7.out Gp Gq BL.out (by omega) ?_;rintro v8 w8 u8 l8 a8- - -;have A8:=agC a8;obtain ⟨g8,c8,rfl⟩:=a8.own.is;clear a8)
    go_wp2;go_ret;exact DocD.of A8.out (by omega) (by omega)
   ·go_wp2_with fail
    go_loopw [5,6] (fun a i wr=> ∃(k:Nat) (us:List Value) (l:List It),k≤5∧i= .int .i64 (k:Int)∧AfD w wr R (p+300000+1+1) (30+2*k) a us l) (fun _ i _=>5-(intOf i).toNat)
    case atStart=>exact ⟨0,_,_,by omega,rfl,A3.out⟩
    case round=>
     obtain ⟨k,us,l,hk,rfl,hA⟩:=hrel;have HA:=agC hA;obtain ⟨ag,Lg,rfl⟩:=hA.own.is;have PQ:=hA.gr.size;clear hA
     by_cases Ay:k=5
     ·subst Ay
      go_wp2;go_ret;exact DocD.of HA.out (by omega) (by omega)
     ·have Ld:(k:Int)≤4:=by omega
      have KH:IntKind.i64.wrap ((k:Int)+1)=((k+1:Nat):Int):=by rw [IntWalk.i64_in _ (by omega)];omega
      go_wp2_with ((first
       |(at_builtin;refine mE rfl A6.out _ _ rfl rfl rfl (by decide) (by omega) ?_;rintro v8 w8 u8 l8 a8- - -;have A8:=agC a8;obtain ⟨g8,c8,rfl⟩:=a8.own.is;clear a8)
       |(at_builtin;refine rp rfl HA.out _ _ rfl rfl rfl KeptC.nil (gA 4 (by decide)) PQ (agD _) (by omega) ?_;rintro v6 w6 u6 l6 a6- - -;have A6:=agC a6;obtain ⟨g6,c6,rfl⟩:=a6.own.is;clear a6)))
      go_wp2;go_roundw
      case rel=>exact ⟨k+1,_,_,by omega,by first|rw [KH]|go_num,A8.out.more (agD _) (by omega)⟩
      case measure=>simp [intOf]<;>omega
   ·go_wp2_with fail
    go_loopw [5] (fun a wr=> ∃(us:List Value) (l:List It),AfD w wr R (p+300000+1+1) 31 a us l) (fun a _=>31-agv a)
    case atStart=>exact ⟨_,_,A3.out.more (agD _) (by omega)⟩
    case round=>
     obtain ⟨us,l,hA⟩:=hrel;have HA:=agC hA;obtain ⟨ag,Lg,rfl⟩:=hA.own.is;clear hA
     by_cases Ay:l.length≤30
     ·have Ld:(l.length:Int)≤30:=by omega
      go_wp2_with (at_builtin;refine mE rfl HA.out _ _ rfl rfl rfl (by decide) (by omega) ?_;rintro v5 w5 u5 l5 a5-PO-;have A5:=agC (show AfD w w5 R (p+300000+1+1) 31 v5 u5 l5 from ⟨a5.own,a5.few,by omega,a5.rd,a5.gr,a5.lt⟩);have L5:=agC PO;obtain ⟨g5,c5,rfl⟩:=a5.own.is;clear a5 PO)
      go_wp2;go_roundw
      case rel=>exact ⟨_,_,A5.out⟩
      case measure=>have:=L5.out;simp [agv];omega
     ·have Ld: ¬(l.length:Int)≤30:=by omega
      go_wp2;go_ret;exact DocD.of HA.out (by omega) (by omega)
theorem aeZ:aeQ:=by
 intro R p n w hp h0 h1 h;refine (rt R p n w (by omega) h0 h1 h).mono ?_;rintro e w' ⟨v,us,l,he,ho,hf,hl,hr,hg⟩;exact ⟨v,l,he,ho.reads,hf,by omega,hr.mono (by omega),hg⟩
def nmS:Nat→ByteArray
 |0=>⟨#[97]⟩
 |1=>⟨#[98]⟩
 |2=>⟨#[99]⟩
 |_=>⟨#[120,49]⟩
theorem so (q:Nat):(nmS q).size≤3:=by
 match q with
 |0=>decide
 |1=>decide
 |2=>decide
 |_+3=>exact (show (2:Nat)≤3 by omega)
def NmS (w:World) (M:Nat):Prop:= ∀q,q<4→w.cell? ⟨M,q,none⟩=some (.string (nmS q))
theorem NmS.grown {w w':World} {M:Nat} {r:Option Nat} (h:NmS w M) (hg:w.grownBy w' r) (hr:r≠some M):NmS w' M:=fun q hq=>hg.cell (h q hq) (fun e=>hr e.symm)
theorem yO (j:Nat) (hj:j≤2) (k:Int) (hk:0≤k∧k<3) (R p:Nat) (w:World) (hp:p+173<1073741824) (h:Rdm w R p):
  Calls Tryz.prog 125 #[.pointer (some ⟨R,0,none⟩), .int .i64 (1+(j:Int)), .int .i64 k] w (abf R p 173 13 w):=by
 have hK:kt (j+1)≤173∧ct (j+1)≤13:=by
  have:j=0∨j=1∨j=2:=by omega
  rcases this with rfl|rfl|rfl<;>decide
 have:=xE (j+1) (by omega) (by omega) k (by omega) R p w (by omega) h;rw [show ((j+1:Nat):Int)=1+(j:Int) by omega] at this;refine this.mono ?_;rintro e w' ⟨v,l,he,ho,hs,hl,hc,hr,hg⟩;exact ⟨v,l,he,ho,hs,hl,by omega,hr.mono (by omega),hg⟩
theorem RowK.kept {w:World} {B:Nat} {u:Value} {l:List Cl} (h:RowK B w u l):KeptC w B (some w.heap.size) u l:=
 fun w' h1 h2=>h w' (fun b hb hl=>h1 b hb hl (fun e=>by injection e with e;omega)) h2
theorem ae0 {w:World} {base:Nat} {n1 n2 t2:ByteArray} {u:Value} {x:List Cl} (hb:base≤w.heap.size) (hu:KeptC w base (some w.heap.size) u x):
  OwnG (w.alloc (.cells #[.int .i64 4, .string n1, .slice none 0 0, .string ⟨#[]⟩, .int .i64 3, .string n2,u, .string t2, .int .i64 5, .string ⟨#[]⟩, .slice none 0 0, .string ⟨#[]⟩] 32)) base (.slice (some ⟨w.heap.size,0,none⟩) 3 3)
   [.slice none 0 0,u, .slice none 0 0] [(4,n1,[],⟨#[]⟩),(3,n2,x,t2),(5,⟨#[]⟩,[],⟨#[]⟩)]:=
 ⟨bX (World.ownsRow_lit (e:=32) (size:=4) (base:=w.heap.size) w _ 3 (agD _) (by unfold maxLen;omega) rfl) (fun g hg=>by
   have:g=w.heap.size:=by simpa [Value.ownBlock] using hg.symm
   omega),rfl,fun j h1 h2=>by
   have hj:j=0∨j=1∨j=2:=by simp at h1;omega
   rcases hj with rfl|rfl|rfl
   ·exact KeptC.nil
   ·exact hu.keep (fun b _ hl _=>Below.heap_alloc _ _ _ hl) (by simp) (fun b hl e=>e)
   ·exact KeptC.nil,⟨_,_,rfl⟩⟩
structure AfG (w wr:World) (R M q n:Nat) (v:Value) (us:List Value) (l:List It):Prop extends AfD w wr R q n v us l where
 ne:v.ownBlock≠some M
 nm:NmS wr M
 le:w.heap.size≤M
 ml:M<wr.heap.size
section
variable {w wr w':World} {R M q q' n n':Nat} {v v':Value} {us us':List Value} {l l':List It}
theorem AfG.call (h:AfG w wr R M q n v us l) (hr:Rdm w' R q') (hg:wr.grownBy w' (some R)):AfG w w' R M q' n v us l:=
 ⟨h.toAfD.call hr hg,h.ne,h.nm.grown hg (by intro e;injection e with e;have:=h.lt;have:=h.le;omega),h.le,by have:=h.ml;have:=hg.size;omega⟩
theorem AfG.more (h:AfG w wr R M q n v us l) (hq:q≤q') (hn:n≤n'):AfG w wr R M q' n' v us l:=⟨h.toAfD.more hq hn,h.ne,h.nm,h.le,h.ml⟩
theorem AfG.step {r:Option Nat} (h:AfG w wr R M q n v us l) (a:AfD w w' R q' n' v' us' l') (hg:wr.grownBy w' r) (hr:r≠some M) (hv: ∀b,v'.ownBlock=some b→b≠M):AfG w w' R M q' n' v' us' l':=
 ⟨a,fun e=>hv M e rfl,h.nm.grown hg hr,h.le,by have:=h.ml;have:=hg.size;omega⟩
theorem AfG.al (h:AfG w wr R M q n v us l) (o:Obj):AfG w (wr.alloc o) R M q n v us l:=
 h.step (h.toAfD.al o) (agF wr o none) (by simp) (fun b hb e=>h.ne (e▸hb))
theorem AfG.fresh (h:AfG w wr R M q n v us l) {o:Obj} (hg:(wr.alloc o).grownBy w' (some wr.heap.size)):AfG w w' R M q n v us l:=
 have hk: ∀b,b<wr.heap.size→w'.heap[b]? =wr.heap[b]? :=fun b hb=>(hg.block b (by simp;omega) (fun e=>by have e:=Option.some.inj e;omega)).trans (Below.heap_alloc _ _ _ hb)
 have hs:wr.heap.size≤w'.heap.size:=by have:=hg.size;simp at this;omega
 have hg2:wr.grownBy w' none:=⟨hg.os,hg.tape,hg.output,hs,fun i hi _=>hk i hi⟩
 h.step ⟨h.own.keep (fun b _ hb=>hk b hb) hs,h.few,h.len,h.rd.kept hg2 (by simp),af h.gr ⟨hg.os,hg.tape,hg.output,hs,fun i hi _=>hk i hi⟩,h.lt⟩ hg2 (by simp) (fun b hb e=>h.ne (e▸hb))
end
theorem aba:yh:=by
 intro R p w hp h;have BG:=agC h.lt;obtain ⟨i0,hi,Az,Ax,AC⟩:=info_parts f5
 have Qr:=agC (show AfG w ((w.alloc (.cells #[] 32)).alloc (.cells #[.string ⟨#[97]⟩, .string ⟨#[98]⟩, .string ⟨#[99]⟩, .string ⟨#[120,49]⟩] 9)) R (w.heap.size+1) p 0 (.slice (some ⟨w.heap.size,0,none⟩) 0 0) [] [] from
  ⟨(AfD.lit h (World.grownBy.refl _ _) h).al _,by simp [Value.ownBlock],fun q hq=>by
    match q,hq with
    |0,_=>show _=some (Value.string ⟨#[97]⟩);simp [go_sem]
    |1,_=>show _=some (Value.string ⟨#[98]⟩);simp [go_sem]
    |2,_=>show _=some (Value.string ⟨#[99]⟩);simp [go_sem]
    |3,_=>show _=some (Value.string ⟨#[120,49]⟩);simp [go_sem],by omega,by simp⟩)
 clear h
 go_enter Tryz.func80,Tryz.ntmps80
 go_wp2_with fail
 go_loopw [3,5] (fun a i wr=> ∃(k:Nat) (us:List Value) (l:List It),k≤4∧i= .int .i64 (k:Int)∧AfG w wr R (w.heap.size+1) (p+k*200) (2*k) a us l) (fun _ i _=>4-(intOf i).toNat)
 case atStart=>exact ⟨0,[],[],agH _,rfl,Qr.out.more (by omega) (by omega)⟩
 case round=>
  obtain ⟨k,us,l,hk,rfl,hA⟩:=hrel;have HA:=agC hA;obtain ⟨ag,Lg,rfl⟩:=hA.own.is;clear hA Qr
  by_cases Ab:k<4
  ·have Bm:(k:Int)<4:=by omega
   have Bo:(0:Int)≤(k:Int):=by omega
   have Qs:=agC HA.out.len
   obtain ⟨t,ht,hT⟩: ∃t:ByteArray,t.size≤3∧nmS k=t:=⟨_,so k,rfl⟩
   have HT:=agC hT;clear hT;go_wp2_with fail;refine (aj R _ 3 _ (by omega) HA.out.rd).mono ?_;rintro e w1 ⟨x,rfl,DH,Cw,-,Ck,hg1,-⟩;have EJ:=Cw (by omega);obtain ⟨x1,rfl⟩:=agG DH;have A1:=agC (HA.out.call Ck hg1);clear Cw Ck hg1;go_wp2_with fail;refine (aj R _ 3 _ (by omega) A1.out.rd).mono ?_;rintro e w2 ⟨y,rfl,Fo,EU,-,AM,hg2,-⟩;have Lb:=EU (by omega);have A2:=agC (A1.out.call AM hg2);clear EU AM hg2;have Lc:=agC (yO x1 (by omega) y (by omega) R _ w2 (by omega) A2.out.rd);go_wp2_with fail;refine Lc.out.mono ?_;rintro e w3 ⟨v3,l3,rfl,CQ,BZ,Sn,So,AR,AF⟩;have A3:=agC (A2.out.call AR AF);have E3:=agC (RowK.of_own CQ (agD _));have Gp:w2.heap.size≤w3.heap.size:=AF.size;obtain ⟨a3,c3,rfl⟩:=aN CQ;have F3:=agC (show (∀c∈l3,c.2.1.size≤60)∧l3.length≤15 from ⟨fun c hc=>Nat.le_trans (BZ c hc) (by omega),by omega⟩);have Fm:=agC (show∀b,(Value.slice (some ⟨ag,0,none⟩) l.length Lg).ownBlock=some b→b<w2.heap.size from A2.out.blt);clear AR AF CQ BZ Sn So Lc A1
   rcases Nat.eq_zero_or_pos k with CB|CB
   case' inl=>
    have Ld: ¬(0:Int)<(k:Int):=by omega
    clear CB
    obtain ⟨w6,h6⟩: ∃x,x=w3:=⟨_,rfl⟩
    obtain ⟨l6,FZ⟩: ∃x,x=l3:=⟨_,rfl⟩
    subst h6;subst FZ
    obtain ⟨a6,Od⟩: ∃x,x=a3:=⟨_,rfl⟩
    obtain ⟨c6,Oe⟩: ∃x,x=c3:=⟨_,rfl⟩
    subst Od;subst Oe;have A6:=agC (A3.out.more (show _≤p+k*200+180 by omega) (agD _));have E6:=agC E3.out;have F6:=agC F3.out;have Ev:w2.heap.size≤w6.heap.size:=Gp
    have d6:w6.cell? ⟨w.heap.size+1,k,none⟩=some (.string t):=by rw [←HT.out];exact A6.out.nm k Ab
   case' inr=>
    have Ld:(0:Int)<(k:Int):=by omega
    go_wp2_with fail;refine (aj R _ 2 _ (by omega) A3.out.rd).mono ?_;rintro e w5 ⟨z,rfl,Lh,Ic,-,Bh,AS,-⟩;have A5:=agC (A3.out.call Bh AS);have E5:=agC (E3.out.keep (fun b hb hl=>AS.block b hl (fun e=>by injection e with e;have:=BG.out;have:=A2.out.gr.size;omega)) AS.size);have Lf:w2.heap.size≤w5.heap.size:=Nat.le_trans Gp AS.size;clear Bh AS Ic
    by_cases hz:z=0
    case' neg=>
     have Hi:(z==0)=false:=beq_eq_false_iff_ne.mpr hz
     obtain ⟨w6,h6⟩: ∃x,x=w5:=⟨_,rfl⟩
     obtain ⟨l6,FZ⟩: ∃x,x=l3:=⟨_,rfl⟩
     subst h6;subst FZ
     obtain ⟨a6,Od⟩: ∃x,x=a3:=⟨_,rfl⟩
     obtain ⟨c6,Oe⟩: ∃x,x=c3:=⟨_,rfl⟩
     subst Od;subst Oe;have A6:=agC (A5.out.more (show _≤p+k*200+180 by omega) (agD _));have E6:=agC E5.out;have F6:=agC F3.out;have Ev:w2.heap.size≤w6.heap.size:=Lf
     have d6:w6.cell? ⟨w.heap.size+1,k,none⟩=some (.string t):=by rw [←HT.out];exact A6.out.nm k Ab
    case' pos=>
     subst hz;go_wp2_with fail;refine (aj R _ (k:Int) _ (by omega) A5.out.rd).mono ?_;rintro e w7 ⟨y7,rfl,Ed,CE,-,EI,FA,-⟩;have Hj:=CE (by omega);obtain ⟨j,rfl⟩:=agG Ed
     have U3:(j:Int)<4:=by omega
     have A7:=agC (A5.out.call EI FA);have E7:=agC (E5.out.keep (fun b hb hl=>FA.block b hl (fun e=>by injection e with e;have:=BG.out;have:=A2.out.gr.size;omega)) FA.size);have Gq:w2.heap.size≤w7.heap.size:=Nat.le_trans Lf FA.size
     obtain ⟨tj,Sp,Qw⟩: ∃t:ByteArray,t.size≤3∧nmS j=t:=⟨_,so j,rfl⟩
     have dj:w7.cell? ⟨w.heap.size+1,j,none⟩=some (.string tj):=by rw [←Qw];exact A7.out.nm j (by omega)
     clear EI FA CE Qw
     obtain ⟨l6,FZ⟩: ∃x:List Cl,x=[(5,⟨#[]⟩,2),(4,tj,0)]++l3:=⟨_,rfl⟩
     have F6:=agC (show (∀c∈l6,c.2.1.size≤60)∧l6.length≤17 by
      rw [FZ];refine ⟨fun c hc=> ?_,by have:=F3.out.2;simp;omega⟩;simp only [List.cons_append,List.nil_append,List.mem_cons] at hc
      rcases hc with rfl|rfl|hc
      ·exact agH _
      ·exact Nat.le_trans Sp (by omega)
      ·exact F3.out.1 c hc)
     have Sh:=agC (show 2+l3.length=l6.length by rw [FZ];simp;omega);have Si:=agC (show [Value.int .i64 5, .string ⟨#[]⟩, .int .i64 2, .int .i64 4, .string tj, .int .i64 0]++ai l3=ai l6 by rw [FZ];rfl);have Qt:=agC F3.out.2;have FY:=agC (World.ownsRow_lit (base:=w7.heap.size) (size:=3) (e:=110) w7 #[.int .i64 5, .string ⟨#[]⟩, .int .i64 2, .int .i64 4, .string tj, .int .i64 0] 2 (agD _) (by unfold maxLen;omega) rfl);have A8:=agC (A7.out.more (show _≤p+k*200+180 by omega) (agD _));clear FZ
     go_wp2_with (at_builtin;refine sV rfl _ _ 30 rfl w7.heap.size 110 i0 (.agg #[.int .i64 0, .string ByteArray.empty, .int .i64 0]) 32 Tryz.underlying30 hi Az Ax AC (by decide) (.slice (some ⟨w7.heap.size,0,none⟩) 2 2) 2 _ rfl FY.out _ l3 rfl (E7.out.row.al _) (by have:=Qt.out;unfold maxLen;omega) (by have:=Qt.out;omega) (by simp) ?_;intro v6 w6 Ct Bn;rw [show (#[Value.int .i64 5, .string ⟨#[]⟩, .int .i64 2, .int .i64 4, .string tj, .int .i64 0]:Array Value).toList++ai l3=ai l6 from Si.out,Sh.out] at Ct;have E6:=agC (RowK.of_own Ct Gq);obtain ⟨a6,c6,rfl⟩:=aN Ct;have Ev:w2.heap.size≤w6.heap.size:=(by have:=Bn.size;simp at this;omega);have A6:=agC (A8.out.fresh Bn);have d6:w6.cell? ⟨w.heap.size+1,k,none⟩=some (.string t):=(by rw [←HT.out];exact A6.out.nm k Ab);clear Ct Bn)
   all_goals
    (try go_wp2_with fail)
    have I6:=agC (It4.new w6 (.int .i64 3) (.string t) (.slice a6 l6.length c6) (.string ⟨#[]⟩) 32);have A7:=agC (A6.out.al (.cells #[.int .i64 3, .string t, .slice a6 l6.length c6, .string ⟨#[]⟩] 32));refine (aj R _ 2 _ (by omega) A7.out.rd).mono ?_;rintro e w8 ⟨z8,rfl,Sq,Of,-,Qx,Kk,-⟩;have A8:=agC (A7.out.call Qx Kk);have I8:=agC (I6.out.grownR Kk (by have:=A6.out.gr.size;have:=A6.out.lt;omega));have Qu:w2.heap.size≤w8.heap.size:=(by have:=Kk.size;simp at this;omega);have K8:=agC (RowK.kept (E6.out.keep (w1:=w8) (fun b hb hl=>(Kk.block b (by simp;omega) (fun e=>by injection e with e;have:=BG.out;have:=A2.out.gr.size;omega)).trans (Below.heap_alloc _ _ _ hl)) (by have:=Kk.size;simp at this;omega)));have FI:=agC (show gH (3,t,l6,⟨#[]⟩) from ⟨Nat.le_trans ht (by omega),F6.out.1,by have:=F6.out.2;show l6.length≤60;omega,by show (0:Nat)≤61;omega⟩);have Fl:w.heap.size≤w2.heap.size:=A2.out.gr.size;have Sj:=A8.out.ml;obtain ⟨⟨z0,z1,z2,z3⟩,-,-⟩:=I8.out;clear Qx Kk Of
    by_cases hz8:z8=0
    case' pos=>
     subst hz8
     go_wp2_with (at_builtin;refine rm rfl A8.out.toAfD _ _ rfl rfl rfl K8.out FI.out Fl Qu Fm.out (by omega) ?_;intro v9 w9 U9 L9 a9 b9 e9 g9;have A9:=agC (A8.out.step a9 g9 A8.out.ne (fun x hx e=>by rcases b9 x hx with h|h;exact A8.out.ne (e▸h);omega));obtain ⟨g9,c9,rfl⟩:=a9.own.is;clear a9 b9 e9)
    case' neg=>
     have Sk:(z8==0)=false:=beq_eq_false_iff_ne.mpr hz8
     go_wp2_with (at_builtin;refine rp rfl A8.out.toAfD _ _ rfl rfl rfl K8.out FI.out Fl Qu (by omega) ?_;intro v9 w9 U9 L9 a9 b9 e9 g9;have A9:=agC (A8.out.step a9 g9 (by simp) (fun x hx e=>by rcases b9 x hx with h|h<;>omega));obtain ⟨g9,c9,rfl⟩:=a9.own.is;clear a9 b9 e9)
    all_goals
     (try go_wp2_with fail)
     refine (aj R _ 4 _ (by omega) A9.out.rd).mono ?_;rintro e wa ⟨za,rfl,Sr,Og,-,Qy,Qz,-⟩;have AA:=agC (A9.out.call Qy Qz);clear Qy Qz Og
     by_cases hza:za=0
     ·subst hza
      go_wp2_with (at_builtin;refine mE rfl AA.out.toAfD _ _ rfl rfl rfl (by decide) (by omega) ?_;intro vb wb ub lb ab bb eb gb;have AB:=agC (AA.out.step ab gb AA.out.ne (fun x hx e=>by rcases bb x hx with h|h;exact AA.out.ne (e▸h);have:=AA.out.ml;omega));clear ab bb eb gb)
      go_wp2;go_roundw
      case rel=>exact ⟨k+1,_,_,by omega,by go_num,AB.out.more (by omega) (by omega)⟩
      case measure=>simp [intOf]<;>omega
     ·have Sl:(za==0)=false:=beq_eq_false_iff_ne.mpr hza
      go_wp2;go_roundw
      case rel=>exact ⟨k+1,_,_,by omega,by go_num,AA.out.more (by omega) (by omega)⟩
      case measure=>simp [intOf]<;>omega
  ·have Bm: ¬(k:Int)<4:=by omega
   obtain rfl:k=4:=by omega
   have Qs:=agC HA.out.len;go_wp2_with fail;refine (aj R _ 2 _ (by omega) HA.out.rd).mono ?_;rintro e w1 ⟨x,rfl,DH,Cw,-,Ck,hg1,-⟩;have A1:=agC (HA.out.call Ck hg1);clear Cw Ck hg1
   by_cases hx:x=0
   ·subst hx
    have FY:=agC (World.ownsRow_lit (base:=w1.heap.size) (size:=3) (e:=110) w1 #[.int .i64 4, .string ⟨#[97]⟩, .int .i64 0] 1 (agD _) (by unfold maxLen;omega) rfl);have Sm:=agC (RowK.kept (RowK.of_own (l:=[(4,⟨#[97]⟩,0)]) FY.out (agD _)))
    have Au:(w1.alloc (.cells #[.int .i64 4, .string ⟨#[97]⟩, .int .i64 0] 110)).heap.size=w1.heap.size+1:=by simp
    have g3:=ae0 (w:=w1.alloc (.cells #[.int .i64 4, .string ⟨#[97]⟩, .int .i64 0] 110)) (n1:=⟨#[113]⟩) (n2:=⟨#[97]⟩) (t2:=⟨#[99,111,112,121]⟩) (base:=w1.heap.size) (by simp) Sm.out;rw [Au] at g3;have G3:=agC g3;have LT3:=agC (G3.out.later A1.out.gr.size A1.out.blt);have AL:=agC ((A1.out.toAfD.al (.cells #[.int .i64 4, .string ⟨#[97]⟩, .int .i64 0] 110)).al (.cells #[.int .i64 4, .string ⟨#[113]⟩, .slice none 0 0, .string ⟨#[]⟩, .int .i64 3, .string ⟨#[97]⟩, .slice (some ⟨w1.heap.size,0,none⟩) 1 1, .string ⟨#[99,111,112,121]⟩, .int .i64 5, .string ⟨#[]⟩, .slice none 0 0, .string ⟨#[]⟩] 32))
    have FF3:=agC (show∀i∈([(4,⟨#[113]⟩,[],⟨#[]⟩),(3,⟨#[97]⟩,[(4,⟨#[97]⟩,0)],⟨#[99,111,112,121]⟩),(5,⟨#[]⟩,[],⟨#[]⟩)]:List It),gH i from fun i hi=>by
     simp only [List.mem_cons,List.not_mem_nil,or_false] at hi
     rcases hi with rfl|rfl|rfl
     ·exact gA 4 (by decide)
     ·exact ⟨by decide,by decide,by decide,by decide⟩
     ·exact gA 5 (by decide))
    clear g3 Au
    go_wp2_with (at_builtin;refine x7 (m:=11) rfl AL.out _ _ rfl rfl rfl G3.out LT3.out FF3.out (agD _) (by omega) ?_;rintro vb wb ub lb ab- - -;have AB:=agC ab;clear ab)
    go_wp2;go_ret;exact ⟨_,_,rfl,AB.out.own.reads,AB.out.few,by have:=AB.out.len;omega,AB.out.rd.mono (by omega),AB.out.gr⟩
   ·have Qv:(x==0)=false:=beq_eq_false_iff_ne.mpr hx
    go_wp2;go_ret;exact ⟨_,_,rfl,A1.out.own.reads,A1.out.few,by have:=Qs.out;omega,A1.out.rd.mono (by omega),A1.out.gr⟩
theorem ae1:tn:=afX aba aeZ
end Go.Proofs.YtegdjjjpoahamaaGreatDoor
