/-
  Part of the proof of FnReadDocument.
-/
import Derived.Test.YtegdjjjpoahamaaGreatDoorQQRah
import Derived.Test.YtegdjjjpoahamaaGreatDoorQQRag
import Derived.Deep.RegionWith
import Derived.Deep.RegionHeld3
set_option linter.unusedVariables false
set_option maxHeartbeats 4000000
set_option maxRecDepth 100000
namespace Go.Proofs.YtegdjjjpoahamaaGreatDoor
open Go.RowKit
theorem vD (k m:Int) (s:ByteArray) (w:World):
  Calls Tryz.prog 175 #[.agg #[.int .i64 k, .string s, .int .i64 m]] w fun e w'=>e= .returned (.int .i64 (rkC (k,s,m)))∧Below w.heap.size w w':=by
 by_cases h9:k=9
 ·subst h9
  have hr:rkC (9,s,m)=1:=rfl;rw [hr];clear hr
  go_enter Tryz.func175,Tryz.ntmps175
  go_wp2;go_ret;exact ⟨rfl,(Below.refl _ _).alloc (agD _) _⟩
 by_cases h8:k=8
 ·subst h8
  have hr:rkC (8,s,m)=ap s.data.toList:=rfl;rw [hr];have HC:=agC (fun w'=>fp s w');generalize ap s.data.toList=q at HC;clear hr
  go_enter Tryz.func175,Tryz.ntmps175
  go_wp2_with fail;refine (HC.out _).mono ?_;rintro e w1 ⟨rfl,rfl⟩;go_wp2;go_ret;exact ⟨rfl,(Below.refl _ _).alloc (agD _) _⟩
 by_cases h7:k=7
 ·subst h7
  have hr:rkC (7,s,m)=7:=rfl;rw [hr];clear hr
  go_enter Tryz.func175,Tryz.ntmps175
  go_wp2;go_ret;exact ⟨rfl,(Below.refl _ _).alloc (agD _) _⟩
 ·have hr:rkC (k,s,m)=8:=by simp [rkC,h9,h8,h7]
  rw [hr];have n9:(k==9)=false:=beq_eq_false_iff_ne.mpr h9;have n8:(k==8)=false:=beq_eq_false_iff_ne.mpr h8;have n7:(k==7)=false:=beq_eq_false_iff_ne.mpr h7;clear hr h9 h8 h7
  go_enter Tryz.func175,Tryz.ntmps175
  go_wp2;go_ret;exact ⟨rfl,(Below.refl _ _).alloc (agD _) _⟩
theorem gP {l:List Cl} (Aj:l.all okW=true) {m f t:Nat} {ks:List Pt} (hX:Tx l m f t ks) (k:Nat) (hk:k<m):
  ∃g g' x,dH ks k=x∧ks[k]? =some x∧Tx l 1 g g' [x]∧(fh (amL l) f m)[k]? =some g∧Tx l k f g (ks.take k)∧f≤g∧g<g'∧g'≤t∧x.2.length+8≤200*(g'-g)∧1≤x.1:=by
 obtain ⟨g1,g2,x,x1,x2,x3,x4,x5⟩:=hX.at k hk;obtain ⟨_,hx⟩:=x2.exs;obtain ⟨_,hy⟩:=x3.exs;obtain ⟨_,hz⟩:=x4.exs;have l1:=hx.le;have l2:=hy.le;have l3:=hz.le;have h1:=(x3.shortW Aj).1;simp only [fY] at h1;exact ⟨g1,g2,x,by rw [dH,List.getD_eq_getElem?_getD,x1];rfl,x1,x3,x5,x2,by omega,by omega,by omega,by omega,(x3.rkW Aj x (by simp)).1⟩
theorem jq {w:World} {bo:Option Addr} {L:List Nat} (h:L=[]∨ ∃b,bo=some ⟨b,0,none⟩∧b<w.heap.size∧ ∀k (h:k<L.length),w.cell? ⟨b,k,none⟩=some (.int .i64 (L[k]:Int))) (hl:0<L.length):
  ∃b,bo=some ⟨b,0,none⟩∧b<w.heap.size∧ ∀(k g:Nat),L[k]? =some g→w.cell? ⟨b,k,none⟩=some (.int .i64 (g:Int)):=by
 obtain ⟨b,hb,Ab,hc⟩:=h.resolve_left (by rintro rfl;simp at hl);refine ⟨b,hb,Ab,fun k g hg=> ?_⟩;obtain ⟨hk,he⟩:=List.getElem?_eq_some_iff.mp hg;rw [hc k hk,he]
def CpS (w:World) (g:Nat) (k:Int) (s:ByteArray) (m:Int):Prop:=g<w.heap.size∧w.cell? ⟨g,0,none⟩=some (.int .i64 k)∧w.cell? ⟨g,1,none⟩=some (.string s)∧w.cell? ⟨g,2,none⟩=some (.int .i64 m)
theorem CpS.keep {w w':World} {g:Nat} {k m:Int} {s:ByteArray} (h:CpS w g k s m) (hb:Below w.heap.size w w'):CpS w' g k s m:=by
 obtain ⟨h0,h1,h2,h3⟩:=h;exact ⟨Nat.lt_of_lt_of_le h0 hb.size,(hb.cell (p:=⟨g,0,none⟩) h0).trans h1,(hb.cell (p:=⟨g,1,none⟩) h0).trans h2,(hb.cell (p:=⟨g,2,none⟩) h0).trans h3⟩
theorem CpS.new (w:World) (k:Int) (s:ByteArray) (m:Int):CpS (w.alloc (.cells #[.int .i64 k, .string s, .int .i64 m] 110)) w.heap.size k s m:=by
 have h:=heap_alloc_new w (.cells #[.int .i64 k, .string s, .int .i64 m] 110)
 refine ⟨by simp, ?_, ?_, ?_⟩<;>(rw [cell_of_row _ _ _ _ _ (0,0) h];rfl)
def qT (v:Value) (l:List Cl) (j:Nat):Prop:= ∀(f t:Nat) (x:Pt) (w:World),Tx l 1 f t [x]→t-f≤j→RowC w v l→
 Calls Tryz.prog 93 #[v, .int .i64 (f:Int)] w fun e w'=>e= .returned (.string ⟨x.2.toArray⟩)∧Below w.heap.size w w'
def ab1 (v:Value) (l:List Cl) (j:Nat):Prop:= ∀(f t:Nat) (x:Pt) (r:Int) (w:World),Tx l 1 f t [x]→t-f≤j→RowC w v l→
 Calls Tryz.prog 142 #[v, .int .i64 (f:Int), .int .i64 r] w fun e w'=>e= .returned (.string ⟨(cR r x).toArray⟩)∧Below w.heap.size w w'
theorem zx {v:Value} {l:List Cl} {j:Nat} (Ci:l.length≤60) (Aj:l.all okW=true) (ih:qT v l j):ab1 v l j:=by
 intro f t x r w hX hj hr;obtain ⟨⟨k,s,m⟩,ks,hc,Cm,rfl⟩:=hX.inv;have Ef:=(hX.shortW Aj).1;simp only [fY] at Ef;obtain ⟨Dr,he⟩:=List.getElem?_eq_some_iff.mp hc;have HX:=agC hX;have HR:=agC hr;have IH:=agC (fun w'=>ih f t _ w' hX hj);obtain ⟨ao,cap,rfl,h1,h2,h3⟩:=hr;unfold maxLen at h2;obtain ⟨b,o,rfl,Av,cc⟩:=h3.resolve_left (by rintro rfl;simp at Dr);obtain ⟨c0,c1,c2⟩:=cc f Dr;rw [he] at c0 c1 c2;simp only at c0 c1 c2;have HK:=agC (fun w'=>vD k m s w');have HP:=agC (show cR r (rkC (k,s,m),bF (k,s,m) ks)=if rkC (k,s,m)<r then 40::(bF (k,s,m) ks++[41]) else bF (k,s,m) ks from rfl);generalize rkC (k,s,m)=rk at HK HP IH;generalize bF (k,s,m) ks=bt at HP IH Ef;have Ky:=agC c0;have Kz:=agC c1;have OP:=agC c2;have Ga:(⟨bt.toArray⟩:ByteArray).size=bt.length:=rfl;generalize hSS:(⟨bt.toArray⟩:ByteArray)=S0 at IH Ga;have Hn:=agC hSS;clear cc h3 hc Cm hX ih he c0 c1 c2 hSS
 have CJ:t-f≤60:=by
  obtain ⟨_,h⟩:=HX.out.exs;have:=h.le.2 (by omega);rw [cG] at this;omega
 have r1: ¬9223372036854775807<1+S0.size:=by omega
 have r2: ¬9223372036854775807<1+S0.size+1:=by omega
 go_enter Tryz.func142,Tryz.ntmps142
 go_wp2_with fail;refine (IH.out _ HR.out).mono ?_;rintro e w1 ⟨rfl,Aa⟩;have d0:=(Aa.cell (p:=⟨b,_,none⟩) Av).trans Ky.out;have d1:=(Aa.cell (p:=⟨b,_,none⟩) Av).trans Kz.out;have d2:=(Aa.cell (p:=⟨b,_,none⟩) Av).trans OP.out;have Af:=agC Aa;clear Aa;go_wp2_with fail;refine (HK.out _).mono ?_;rintro e w2 ⟨rfl,Ae⟩;have Ak:=agC (Af.out.trans (Ae.mono Af.out.size));clear Ae d0 d1 d2
 by_cases Ab:rk<r
 ·have Ik:=agC (HP.out.trans (if_pos Ab))
  go_wp2;go_ret;refine ⟨?_,Ak.out⟩;rw [Ik.out,←Hn.out];exact congrArg Ending.returned (congrArg Value.string (dW (by simp)))
 ·have Ik:=agC (HP.out.trans (if_neg Ab))
  go_wp2;go_ret;exact ⟨by rw [Ik.out,Hn.out];rfl,Ak.out⟩
theorem zy {v:Value} {l:List Cl} {j:Nat} (Ci:l.length≤60) (Aj:l.all okW=true) (ih:qT v l j) (ihp:ab1 v l j):qT v l (j+1):=by
 intro f t x w hX hj hr;obtain ⟨⟨k,s,m⟩,ks,hc,Cm,rfl⟩:=hX.inv;have Ef:=(Cm.shortW Aj).1;obtain ⟨Dr,he⟩:=List.getElem?_eq_some_iff.mp hc
 have JF:okW (k,s,m)=true:=by rw [←he];exact qS Aj f Dr
 have M9:s.size≤60:=abY JF;have BT:=bn s;obtain ⟨dk,QW⟩:=Cm.exs;have Tb:=agC (fun w' D4=>oZ v l f m.toNat t dk w' D4 Ci (abZ Aj) (oe hc) QW)
 have CJ:t-(f+1)≤60:=by
  obtain ⟨_,h⟩:=hX.exs;have:=h.le.2 (by omega);rw [cG] at this;omega
 have Di:=agC ih;have Na:=agC ihp;have HR:=agC hr;have HX:=agC Cm;have Bj:=agC JF;obtain ⟨ao,cap,rfl,h1,h2,h3⟩:=hr;unfold maxLen at h2;obtain ⟨b,o,rfl,Av,cc⟩:=h3.resolve_left (by rintro rfl;simp at Dr);obtain ⟨c0,c1,c2⟩:=cc f Dr;rw [he] at c0 c1 c2;simp only at c0 c1 c2
 have e2: ¬b=w.heap.size:=by omega
 clear cc h3 hc Cm hX ih ihp he QW JF
 go_enter Tryz.func93,Tryz.ntmps93
 have JG:=agC (CpS.new w k s m);have Gb:=(Below.refl w.heap.size w).alloc (agD _) (.cells #[.int .i64 k, .string s, .int .i64 m] 110);have BR:=agC Gb;go_wp2_with fail;refine (Tb.out _ (HR.out.mono BR.out)).mono ?_;rintro e1 w1 ⟨v1,rfl,C9,Aa⟩;obtain ⟨Eg,Io⟩:=RowI.of_own C9;have FH:(fh (amL l) (f+1) m.toNat).length=m.toNat:=iL _ _ _;have Af:=agC (BR.out.trans (Aa.mono BR.out.size));have DM:=agC (JG.out.keep Aa);have DI:=agC (HR.out.mono Af.out);generalize hL:fh (amL l) (f+1) m.toNat=L at Eg FH;have HL:=agC hL;clear hL;obtain ⟨bo,cp,rfl,g1,g2,g3⟩:=Eg;rw [FH] at g1;rw [FH];unfold maxLen at g2;have AE:=agC g3;clear g3 Aa Gb C9 Io JG BR c0 c1 c2 e2;have AT:=agC (show RowC w1.drew (.slice (some ⟨b,o,none⟩) l.length cap) l from DI.out);generalize w.heap.size=CG at DM;obtain ⟨-,k0,k1,k2⟩:=DM.out
 by_cases h2:k=2
 ·subst h2
  have HT:=agC (show aD s=true by have:=oa Bj.out (by decide);simp only [okC,aF,ar,Bool.and_eq_true] at this;have:=this.1;simp at this;exact this.1);have HE:=agC (show bF (2,s,m) ks=bc s.data.toList from rfl);have HQ:=agC (show (cA s)=⟨(bc s.data.toList).toArray⟩ by rw [cA,if_pos HT.out]);go_wp2_with fail;refine (gq s _ (by unfold maxLen;omega)).mono ?_;rintro e w2 ⟨rfl,rfl⟩;go_wp2;go_ret;exact ⟨by rw [HE.out,←HQ.out];rfl,Af.out⟩
 by_cases h7:k=7
 ·subst h7
  have Co:m=1:=by
   have:=oa Bj.out (by decide);simp only [okC,aF,aQ,Bool.and_eq_true] at this
   simpa using this.2
  subst Co;obtain ⟨g0,Eh,x0,y0,-,z0,u0,-,b0,JI,b0'',s0,-⟩:=gP Aj HX.out 0 (by decide);have HE:=agC (show bF (7,s,1) ks=s.data.toList++cR 7 x0 by rw [←y0];rfl);obtain ⟨bk,rfl,AJ,Ez⟩:=jq AE.out (by rw [FH];decide);have q0:=Ez 0 g0 (by rw [←HL.out];exact u0);have Ho:=agC (fun w' D4=>Na.out g0 Eh x0 7 w' z0 (by omega) D4);have AN:=dv 7 x0;have Ga:(⟨(cR 7 x0).toArray⟩:ByteArray).size=(cR 7 x0).length:=rfl;generalize hSS:(⟨(cR 7 x0).toArray⟩:ByteArray)=S0 at Ho Ga;have Hn:=agC hSS;have Il:=DM.out.1
  have r1: ¬9223372036854775807<s.size+S0.size:=by omega
  clear h2 y0 z0 u0 Ez hSS DM Ga;go_wp2_with fail
  go_region_held3 (fun w'=>w'.cell? ⟨CG,1,none⟩=some (.string s)∧w'.cell? ⟨bk,0,none⟩=some (.int .i64 (g0:Int)))
   (first
     |go_keep
     |(go_split_ands
       refine ⟨?_, ?_⟩
       ·(rw [Ae.cell (by exact Il)];assumption)
       ·(rw [Ae.cell (by exact AJ)];assumption)))
   ((go_at_call 142;refine (Ho.out _ AT.out).mono ?_;rintro e w2 ⟨rfl,Ae⟩))
  all_goals
   have Ak:=agC (Af.out.drew.trans (Ae.mono Af.out.size));clear Ae;go_wp2;go_ret;refine ⟨?_,Ak.out⟩;rw [HE.out,←Hn.out];exact congrArg Ending.returned (congrArg Value.string (dW (by simp)))
 by_cases h8:k=8
 ·subst h8
  have DZ:m=2:=by
   have:=oa Bj.out (by decide);simp only [okC,aF,aQ,Bool.and_eq_true] at this
   simpa using this.2
  subst DZ
  have AM:2≤ap s.data.toList∧ap s.data.toList≤6:=by
   refine lF _ ?_;have:=oa Bj.out (by decide);simp only [okC,aF,ar,Bool.and_eq_true] at this;simpa using this.1
  obtain ⟨g0,Eh,x0,y0,-,z0,u0,-,b0,JI,b0'',s0,-⟩:=gP Aj HX.out 0 (by decide);obtain ⟨g1,JJ,x1,y1,-,z1,u1,-,b1,OU,b1'',s1,-⟩:=gP Aj HX.out 1 (by decide);have HE:=agC (show bF (8,s,2) ks=cR (cC (ap s.data.toList)) x0++([32]++s.data.toList++[32])++cR (ap s.data.toList+1) x1 by rw [←y0,←y1];rfl);have GD:=agC (fun w'=>fp s w');generalize ap s.data.toList=rk at HE GD AM;obtain ⟨bk,rfl,AJ,Ez⟩:=jq AE.out (by rw [FH];decide);have q0:=Ez 0 g0 (by rw [←HL.out];exact u0);have q1:=Ez 1 g1 (by rw [←HL.out];exact u1);have Ey:=agC (fun w' D4=>Na.out g0 Eh x0 (cC rk) w' z0 (by omega) D4);have EW:=agC (fun w' D4=>Na.out g1 JJ x1 (rk+1) w' z1 (by omega) D4);have OQ:=dv (cC rk) x0;have Tc:=dv (rk+1) x1;have GE:(⟨(cR (cC rk) x0).toArray⟩:ByteArray).size=(cR (cC rk) x0).length:=rfl;have GF:(⟨(cR (rk+1) x1).toArray⟩:ByteArray).size=(cR (rk+1) x1).length:=rfl;generalize hSS0:(⟨(cR (cC rk) x0).toArray⟩:ByteArray)=S0 at Ey GE;generalize hSS1:(⟨(cR (rk+1) x1).toArray⟩:ByteArray)=S1 at EW GF;have Im:=agC hSS0;have In:=agC hSS1;have Il:=DM.out.1
  have OR:S0.size≤12010:=by omega
  have KA:S1.size≤12010:=by omega
  have r1: ¬9223372036854775807<S0.size+1:=by omega
  have r2: ¬9223372036854775807<S0.size+1+s.size:=by omega
  have r3: ¬9223372036854775807<S0.size+1+s.size+1:=by omega
  have r4: ¬9223372036854775807<S0.size+1+s.size+1+S1.size:=by omega
  have EG:IntKind.i64.wrap (rk+1)=rk+1:=IntWalk.i64_in _ (by omega)
  have Nb:IntKind.i64.wrap 5=5:=by decide
  clear h2 h7 y0 z0 u0 y1 z1 u1 Ez hSS0 hSS1 DM GE GF
  by_cases h4:rk=4
  ·subst h4
   rw [show cC 4=5 from rfl] at Ey;rw [show (4:Int)+1=5 from rfl] at EW;clear EG;go_wp2_with fail;refine (GD.out _).mono ?_;rintro e w' ⟨rfl,rfl⟩;go_wp2_with fail
   go_region_held3 (fun w'=>w'.cell? ⟨CG,1,none⟩=some (.string s)∧w'.cell? ⟨bk,0,none⟩=some (.int .i64 (g0:Int))∧w'.cell? ⟨bk,1,none⟩=some (.int .i64 (g1:Int)))
    (first
      |go_keep
      |(go_split_ands
        refine ⟨?_, ?_, ?_⟩
        ·(first|(rw [Ag.cell (by first|exact Il|exact GG|exact hcg3)];assumption)|(rw [Ae.cell (by first|exact Il|exact GG|exact hcg3)];assumption))
        ·(first|(rw [Ag.cell (by first|exact AJ|exact CH|exact Dn)];assumption)|(rw [Ae.cell (by first|exact AJ|exact CH|exact Dn)];assumption))
        ·(first|(rw [Ag.cell (by first|exact AJ|exact CH|exact Dn)];assumption)|(rw [Ae.cell (by first|exact AJ|exact CH|exact Dn)];assumption))))
    (first
      |((go_at_call 142;(with_reducible refine (Ey.out _ AT.out).mono ?_);rintro e w2 ⟨rfl,Ae⟩;have GG:=Nat.lt_of_lt_of_le Il Ae.size;have CH:=Nat.lt_of_lt_of_le AJ Ae.size))
      |((go_at_call 142;(with_reducible refine (EW.out _ (AT.out.mono Ae)).mono ?_);rintro e w3 ⟨rfl,Ag⟩)))
   all_goals
    have Ak:=agC (Af.out.drew.trans (Ae.mono Af.out.size));have Ap:=agC (Ak.out.trans (Ag.mono Ak.out.size));clear Ae Ag;go_wp2;go_ret;refine ⟨?_,Ap.out⟩;rw [HE.out,←Im.out,←In.out];exact congrArg Ending.returned (congrArg Value.string (dW (by simp)))
  ·have KZ:(rk==4)=false:=beq_eq_false_iff_ne.mpr h4
   have JH:cC rk=rk:=by rw [cC,if_neg h4]
   rw [JH] at Ey;go_wp2_with fail;refine (GD.out _).mono ?_;rintro e w' ⟨rfl,rfl⟩;go_wp2_with fail
   go_region_held3 (fun w'=>w'.cell? ⟨CG,1,none⟩=some (.string s)∧w'.cell? ⟨bk,0,none⟩=some (.int .i64 (g0:Int))∧w'.cell? ⟨bk,1,none⟩=some (.int .i64 (g1:Int)))
    (first
      |go_keep
      |(go_split_ands
        refine ⟨?_, ?_, ?_⟩
        ·(first|(rw [Ag.cell (by first|exact Il|exact GG|exact hcg3)];assumption)|(rw [Ae.cell (by first|exact Il|exact GG|exact hcg3)];assumption))
        ·(first|(rw [Ag.cell (by first|exact AJ|exact CH|exact Dn)];assumption)|(rw [Ae.cell (by first|exact AJ|exact CH|exact Dn)];assumption))
        ·(first|(rw [Ag.cell (by first|exact AJ|exact CH|exact Dn)];assumption)|(rw [Ae.cell (by first|exact AJ|exact CH|exact Dn)];assumption))))
    (first
      |((go_at_call 142;(with_reducible refine (Ey.out _ AT.out).mono ?_);rintro e w2 ⟨rfl,Ae⟩;have GG:=Nat.lt_of_lt_of_le Il Ae.size;have CH:=Nat.lt_of_lt_of_le AJ Ae.size))
      |((go_at_call 142;(with_reducible refine (EW.out _ (AT.out.mono Ae)).mono ?_);rintro e w3 ⟨rfl,Ag⟩)))
   all_goals
    have Ak:=agC (Af.out.drew.trans (Ae.mono Af.out.size));have Ap:=agC (Ak.out.trans (Ag.mono Ak.out.size));clear Ae Ag;go_wp2;go_ret;refine ⟨?_,Ap.out⟩;rw [HE.out,←Im.out,←In.out];exact congrArg Ending.returned (congrArg Value.string (dW (by simp)))
 by_cases h9:k=9
 ·subst h9
  have Nc:m=3:=by
   have:=oa Bj.out (by decide);simp only [okC,aF,aQ,Bool.and_eq_true] at this
   simpa using this.2
  subst Nc;obtain ⟨g0,Eh,x0,y0,-,z0,u0,-,b0,JI,b0'',s0,-⟩:=gP Aj HX.out 0 (by decide);obtain ⟨g1,JJ,x1,y1,-,z1,u1,-,b1,OU,b1'',s1,-⟩:=gP Aj HX.out 1 (by decide);obtain ⟨g2,QX,x2,y2,-,z2,u2,-,b2,Tg,b2'',s2,-⟩:=gP Aj HX.out 2 (by decide);have HE:=agC (show bF (9,s,3) ks=cR 2 x0++[32,63,32]++x1.2++[32,58,32]++x2.2 by rw [←y0,←y1,←y2];rfl);obtain ⟨bk,rfl,AJ,Ez⟩:=jq AE.out (by rw [FH];decide);have q0:=Ez 0 g0 (by rw [←HL.out];exact u0);have q1:=Ez 1 g1 (by rw [←HL.out];exact u1);have q2:=Ez 2 g2 (by rw [←HL.out];exact u2);have Ey:=agC (fun w' D4=>Na.out g0 Eh x0 2 w' z0 (by omega) D4);have EW:=agC (fun w' D4=>Di.out g1 JJ x1 w' z1 (by omega) D4);have LM:=agC (fun w' D4=>Di.out g2 QX x2 w' z2 (by omega) D4);have OQ:=dv 2 x0;have GE:(⟨(cR 2 x0).toArray⟩:ByteArray).size=(cR 2 x0).length:=rfl;have GF:(⟨x1.2.toArray⟩:ByteArray).size=x1.2.length:=rfl;have LO:(⟨x2.2.toArray⟩:ByteArray).size=x2.2.length:=rfl;generalize hSS0:(⟨(cR 2 x0).toArray⟩:ByteArray)=S0 at Ey GE;generalize hSS1:(⟨x1.2.toArray⟩:ByteArray)=S1 at EW GF;generalize hSS2:(⟨x2.2.toArray⟩:ByteArray)=S2 at LM LO;have Im:=agC hSS0;have In:=agC hSS1;have OS:=agC hSS2;have Il:=DM.out.1
  have OR:S0.size≤12010:=by omega
  have KA:S1.size≤12010:=by omega
  have Vs:S2.size≤12010:=by omega
  have r1: ¬9223372036854775807<S0.size+3:=by omega
  have r2: ¬9223372036854775807<S0.size+3+S1.size:=by omega
  have r3: ¬9223372036854775807<S0.size+3+S1.size+3:=by omega
  have r4: ¬9223372036854775807<S0.size+3+S1.size+3+S2.size:=by omega
  clear h2 h7 h8 y0 z0 u0 y1 z1 u1 y2 z2 u2 Ez hSS0 hSS1 hSS2 DM GE GF LO;go_wp2_with fail
  go_region_held3 (fun w'=>w'.cell? ⟨bk,0,none⟩=some (.int .i64 (g0:Int))∧w'.cell? ⟨bk,1,none⟩=some (.int .i64 (g1:Int))∧w'.cell? ⟨bk,2,none⟩=some (.int .i64 (g2:Int)))
   (first
     |go_keep
     |(go_split_ands
       refine ⟨?_, ?_, ?_⟩
       ·(first|(rw [As.cell (by exact Dn)];assumption)|(rw [Ag.cell (by exact CH)];assumption)|(rw [Ae.cell (by exact AJ)];assumption))
       ·(first|(rw [As.cell (by exact Dn)];assumption)|(rw [Ag.cell (by exact CH)];assumption)|(rw [Ae.cell (by exact AJ)];assumption))
       ·(first|(rw [As.cell (by exact Dn)];assumption)|(rw [Ag.cell (by exact CH)];assumption)|(rw [Ae.cell (by exact AJ)];assumption))))
   (first
     |((go_at_call 142;(with_reducible refine (Ey.out _ AT.out).mono ?_);rintro e w2 ⟨rfl,Ae⟩;have CH:=Nat.lt_of_lt_of_le AJ Ae.size))
     |((go_at_call 93;(with_reducible refine (EW.out _ (AT.out.mono Ae)).mono ?_);rintro e w3 ⟨rfl,Ag⟩;have Dn:=Nat.lt_of_lt_of_le CH Ag.size))
     |((go_at_call 93;(with_reducible refine (LM.out _ ((AT.out.mono Ae).mono Ag)).mono ?_);rintro e w4 ⟨rfl,As⟩)))
  all_goals
   have Ak:=agC (Af.out.drew.trans (Ae.mono Af.out.size));have Ap:=agC (Ak.out.trans (Ag.mono Ak.out.size));have Aw:=agC (Ap.out.trans (As.mono Ap.out.size));clear Ae Ag As;go_wp2;go_ret;refine ⟨?_,Aw.out⟩;rw [HE.out,←Im.out,←In.out,←OS.out];exact congrArg Ending.returned (congrArg Value.string (dW (by simp)))
 by_cases h56:k=5∨k=6
 ·have LP:(k==5||k==6)=true:=by rcases h56 with rfl|rfl<;>rfl
  have q2:(k==2)=false:=beq_eq_false_iff_ne.mpr h2;have q7:(k==7)=false:=beq_eq_false_iff_ne.mpr h7;have q8:(k==8)=false:=beq_eq_false_iff_ne.mpr h8;have q9:(k==9)=false:=beq_eq_false_iff_ne.mpr h9
  rcases h56 with rfl|rfl
  ·have HE:=agC (show bF (5,s,m) ks=91::(cJ ks++[93]) from rfl)
   clear h2 h7 h8 h9 q2 q7 q8 q9 LP;generalize m.toNat=M at FH g1 HX HL⊢;go_wp2_with fail
   go_loopw [9,10] (fun ou i wr=> ∃(k g:Nat) (O:ByteArray),k≤M∧i= .int .i64 (k:Int)∧ou= .string O∧O.data.toList=cJ (ks.take k)∧Tx l k (f+1) g (ks.take k)∧Below w1.heap.size w1 wr) (fun _ i _=>M-(intOf i).toNat)
   case atStart=>exact ⟨0,f+1,⟨#[]⟩,agH _,rfl,rfl,rfl, .nil _,Below.refl _ _⟩
   case round=>
    obtain ⟨k,g,O0,hk,rfl,rfl,hO,EA,Hp⟩:=hrel;have Dj:=agC Hp;have Td:=agC EA;have HO:=agC hO
    have Te:O0.size≤12000:=by
     have h1:=pZ ks k;have h2:=jM (ks.take k);rw [←bn,hO];omega
    obtain ⟨-,Th,Ti,Tj⟩:=DM.out.keep Dj.out
    by_cases Ab:k<M
    ·obtain ⟨g0,Eh,x0,y0,v0,z0,u0,t0,b0,JI,b0'',s0,-⟩:=gP Aj HX.out k Ab
     obtain ⟨rfl,-⟩:=EA.uniq t0;obtain ⟨bk,rfl,AJ,Ez⟩:=jq AE.out (by rw [FH];omega);have q0:wr.cell? ⟨bk,k,none⟩=some (.int .i64 (g:Int)):=(Dj.out.cell (p:=⟨bk,k,none⟩) AJ).trans (Ez k g (by rw [←HL.out];exact u0));have Ho:=agC (Di.out g Eh x0 wr z0 (by omega) (DI.out.mono Dj.out));have GH:=agC (EA.snoc v0 z0);have HN:=agC (kL ks k x0 v0);have Ga:(⟨x0.2.toArray⟩:ByteArray).size=x0.2.length:=rfl;generalize hSS:(⟨x0.2.toArray⟩:ByteArray)=S0 at Ho Ga;have Hn:=agC (show S0.data.toList=x0.2 by rw [←hSS])
     have OR:S0.size≤12010:=by omega
     have r0: ¬9223372036854775807<O0.size+2:=by omega
     have r1: ¬9223372036854775807<O0.size+S0.size:=by omega
     have r2: ¬9223372036854775807<O0.size+2+S0.size:=by omega
     clear y0 v0 z0 u0 t0 Ez hSS Ga EA Hp hO
     by_cases Bo:k=0
     ·subst Bo
      go_wp2_with fail;refine Ho.out.mono ?_;rintro e w2 ⟨rfl,Ae⟩;have Ak:=agC (Dj.out.trans (Ae.mono Dj.out.size));clear Ae;go_wp2;go_roundw
      case rel=>exact ⟨1,Eh,O0++S0,by omega,by go_num,rfl,by rw [HN.out,←HO.out,←Hn.out];simp,GH.out,Ak.out⟩
      case measure=>simp [intOf];omega
     ·have CB:(0:Int)<(k:Int):=by omega
      go_wp2_with fail;refine Ho.out.mono ?_;rintro e w2 ⟨rfl,Ae⟩;have Ak:=agC (Dj.out.trans (Ae.mono Dj.out.size));clear Ae;go_wp2;go_roundw
      case rel=>exact ⟨k+1,Eh,O0++⟨#[44,32]⟩++S0,by omega,by go_num,rfl,by rw [HN.out,←HO.out,←Hn.out,if_neg Bo];simp,GH.out,Ak.out⟩
      case measure=>simp [intOf];omega
    ·obtain rfl:k=M:=by omega
     have OT:=agC (show O0.data.toList=cJ ks by rw [HO.out,List.take_of_length_le (by rw [HX.out.len];exact agD _)])
     have q1: ¬9223372036854775807<1+O0.size:=by omega
     have Tf: ¬9223372036854775807<1+O0.size+1:=by omega
     clear EA Hp hO;go_wp2;go_ret;refine ⟨?_,Af.out.trans (Dj.out.mono Af.out.size)⟩;rw [HE.out,←OT.out];exact congrArg Ending.returned (congrArg Value.string (dW (by simp)))
  ·have HE:=agC (show bF (6,s,m) ks=s.data.toList++(40::(cJ ks++[41])) from rfl)
   clear h2 h7 h8 h9 q2 q7 q8 q9 LP;generalize m.toNat=M at FH g1 HX HL⊢;go_wp2_with fail
   go_loopw [9,10] (fun ou i wr=> ∃(k g:Nat) (O:ByteArray),k≤M∧i= .int .i64 (k:Int)∧ou= .string O∧O.data.toList=cJ (ks.take k)∧Tx l k (f+1) g (ks.take k)∧Below w1.heap.size w1 wr) (fun _ i _=>M-(intOf i).toNat)
   case atStart=>exact ⟨0,f+1,⟨#[]⟩,agH _,rfl,rfl,rfl, .nil _,Below.refl _ _⟩
   case round=>
    obtain ⟨k,g,O0,hk,rfl,rfl,hO,EA,Hp⟩:=hrel;have Dj:=agC Hp;have Td:=agC EA;have HO:=agC hO
    have Te:O0.size≤12000:=by
     have h1:=pZ ks k;have h2:=jM (ks.take k);rw [←bn,hO];omega
    obtain ⟨-,Th,Ti,Tj⟩:=DM.out.keep Dj.out
    by_cases Ab:k<M
    ·obtain ⟨g0,Eh,x0,y0,v0,z0,u0,t0,b0,JI,b0'',s0,-⟩:=gP Aj HX.out k Ab
     obtain ⟨rfl,-⟩:=EA.uniq t0;obtain ⟨bk,rfl,AJ,Ez⟩:=jq AE.out (by rw [FH];omega);have q0:wr.cell? ⟨bk,k,none⟩=some (.int .i64 (g:Int)):=(Dj.out.cell (p:=⟨bk,k,none⟩) AJ).trans (Ez k g (by rw [←HL.out];exact u0));have Ho:=agC (Di.out g Eh x0 wr z0 (by omega) (DI.out.mono Dj.out));have GH:=agC (EA.snoc v0 z0);have HN:=agC (kL ks k x0 v0);have Ga:(⟨x0.2.toArray⟩:ByteArray).size=x0.2.length:=rfl;generalize hSS:(⟨x0.2.toArray⟩:ByteArray)=S0 at Ho Ga;have Hn:=agC (show S0.data.toList=x0.2 by rw [←hSS])
     have OR:S0.size≤12010:=by omega
     have r0: ¬9223372036854775807<O0.size+2:=by omega
     have r1: ¬9223372036854775807<O0.size+S0.size:=by omega
     have r2: ¬9223372036854775807<O0.size+2+S0.size:=by omega
     clear y0 v0 z0 u0 t0 Ez hSS Ga EA Hp hO
     by_cases Bo:k=0
     ·subst Bo
      go_wp2_with fail;refine Ho.out.mono ?_;rintro e w2 ⟨rfl,Ae⟩;have Ak:=agC (Dj.out.trans (Ae.mono Dj.out.size));clear Ae;go_wp2;go_roundw
      case rel=>exact ⟨1,Eh,O0++S0,by omega,by go_num,rfl,by rw [HN.out,←HO.out,←Hn.out];simp,GH.out,Ak.out⟩
      case measure=>simp [intOf];omega
     ·have CB:(0:Int)<(k:Int):=by omega
      go_wp2_with fail;refine Ho.out.mono ?_;rintro e w2 ⟨rfl,Ae⟩;have Ak:=agC (Dj.out.trans (Ae.mono Dj.out.size));clear Ae;go_wp2;go_roundw
      case rel=>exact ⟨k+1,Eh,O0++⟨#[44,32]⟩++S0,by omega,by go_num,rfl,by rw [HN.out,←HO.out,←Hn.out,if_neg Bo];simp,GH.out,Ak.out⟩
      case measure=>simp [intOf];omega
    ·obtain rfl:k=M:=by omega
     have OT:=agC (show O0.data.toList=cJ ks by rw [HO.out,List.take_of_length_le (by rw [HX.out.len];exact agD _)])
     have q1: ¬9223372036854775807<s.size+1:=by omega
     have Vt: ¬9223372036854775807<s.size+1+O0.size:=by omega
     have Tf: ¬9223372036854775807<s.size+1+O0.size+1:=by omega
     clear EA Hp hO;go_wp2;go_ret;refine ⟨?_,Af.out.trans (Dj.out.mono Af.out.size)⟩;rw [HE.out,←OT.out];exact congrArg Ending.returned (congrArg Value.string (dW (by simp)))
 have HE:=agC (show bF (k,s,m) ks=s.data.toList by
  have h5:k≠5:=fun h=>h56 (.inl h)
  have h6:k≠6:=fun h=>h56 (.inr h)
  simp [bF,h2,h5,h6,h7,h8,h9])
 have q2:(k==2)=false:=beq_eq_false_iff_ne.mpr h2;have q5:(k==5)=false:=beq_eq_false_iff_ne.mpr (fun h=>h56 (.inl h));have q6:(k==6)=false:=beq_eq_false_iff_ne.mpr (fun h=>h56 (.inr h));have q7:(k==7)=false:=beq_eq_false_iff_ne.mpr h7;have q8:(k==8)=false:=beq_eq_false_iff_ne.mpr h8;have q9:(k==9)=false:=beq_eq_false_iff_ne.mpr h9;clear h2 h56 h7 h8 h9;go_wp2;go_ret;exact ⟨by rw [HE.out,fG];rfl,Af.out⟩
theorem ab2 {v:Value} {l:List Cl} (Ci:l.length≤60) (Aj:l.all okW=true): ∀j,qT v l j:=by
 intro j
 induction j with
 |zero=>
  intro f t x w hX hj;obtain ⟨_,h⟩:=hX.exs;have:=h.le;omega
 |succ j ih=>exact zy Ci Aj ih (zx Ci Aj ih)
end Go.Proofs.YtegdjjjpoahamaaGreatDoor
