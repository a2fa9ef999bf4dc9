/-
  Part of the proof of FnPrintDocument.
-/
import Derived.Test.YthijkjnngfnfdaaGreatDoorQPap
import Derived.Test.YthijkjnngfnfdaaGreatDoorQPak
import Derived.Test.YthijkjnngfnfdaaGreatDoorQPaq
set_option linter.unusedVariables false
set_option maxHeartbeats 8000000
set_option maxRecDepth 100000
namespace Go.Proofs.YthijkjnngfnfdaaGreatDoor
open Go.RowKit
theorem j7 {l:List Cl} (h:dQ l):em l:=fun c hc=>by have:=h c hc;unfold maxLen;omega
theorem iY {l:List It} (h:dZ l):aa7 l:=fun i hi=>by
 obtain ⟨h1,h2,h3,h4⟩:=h i hi;exact ⟨by unfold maxLen;omega,j7 h2,by unfold maxLen;omega⟩
theorem ahq {w W':World} {B n:Nat} {u:Value} {xs:List Value} (h:w.ownsRow B 3 1 u n xs) (hk:KL w W'):W'.ownsRow B 3 1 u n xs:=by
 refine dJ h fun g hg=> ?_
 rcases h.2 with ⟨rfl,-⟩|⟨g',cap,cur,rfl,hbg,hh,-⟩
 ·simp [Value.ownBlock] at hg
 ·obtain rfl:g'=g:=by simpa [Value.ownBlock] using hg
  rw [hh];exact hk _ _ _ _ hh (by decide) (by decide)
theorem ahr {w:World} {B:Nat} {l:List It} {ua:Option Addr} {uc:Nat} (h:w.ownsRow B 3 1 (.slice ua l.length uc) l.length (gf (dps 0 l))) (h0:0<l.length):
  ∃bd,ua=some ⟨bd,0,none⟩∧ ∀W',KL w W'→ ∀k,k<l.length→ ∀D:Nat,(ew 0 l)[k]? =some (D:Int)→W'.cell? ⟨bd,k,none⟩=some (.int .i64 (D:Int)):=by
 rcases h.2 with ⟨h1,h2⟩|⟨g,cap,cur,h1,hbg,hh,-⟩
 ·omega
 ·injection h1 with e1 e2 e3
  subst e1;refine ⟨g,rfl,fun W' hk k hlt D hD=> ?_⟩;rw [(ahq h hk).cellAt k (by omega)]
  have hd:(dps 0 l)[k]? =some D:=by
   unfold dps;rw [List.getElem?_map,show ((0:Nat):Int)=0 from rfl,hD]
   rfl
  simp [gf,hd]
theorem xT {l:List It} (hd:dO l=true):aT (b8 (bi l) l.length)=b9 l∧(b9 l=true→b8 (bi l) l.length=aY l):=by
 have hlen:=d7 l
 by_cases hk:b9 l=true
 ·obtain ⟨-,hj⟩:=(gm l).mp hk
  have e:aY l=b8 (bi l) l.length:=by rw [aY,if_pos hk,gR,if_pos hj,hlen]
  have e2:gR (bi l)=b8 (bi l) l.length:=by rw [gR,if_pos hj,hlen]
  have k1:=(mr _ hj).1;rw [e2] at k1;exact ⟨by rw [k1,hk],fun _=>e.symm⟩
 ·refine ⟨?_,fun h=>absurd h hk⟩
  rw [Bool.eq_false_iff.mpr hk,Bool.eq_false_iff];intro ht
  apply hk
  rw [gm];refine ⟨hd,aaN _ (fun t ht'=> ?_) ?_⟩
  ·obtain ⟨k,hk',rfl⟩:=List.getElem_of_mem ht'
   have hk2:k<l.length:=by omega
   rw [show (bi l)[k]=_ from ia l 0 k hk2,bK];have hv:=((bf l).mp hd).2.1;rw [List.all_eq_true] at hv;exact jW (hv _ (List.getElem_mem hk2)) _ 0
  ·rw [hlen]
   simp only [aT,Bool.and_eq_true,decide_eq_true_eq] at ht;exact ht.1
theorem vF {l:List It} (k:Nat) (hk:k<l.length) (D:Nat) (hD:(ew 0 l)[k]? =some (D:Int)):
  (b8 (bi l) (k+1)).data.toList=(b8 (bi l) k).data.toList++bv l[k] D 0++[10]:=by
 have hk2:k<(bi l).length:=by rw [d7];exact hk
 have hln:(eM (bi l) k).data.toList=bv l[k] D 0:=by
  rw [mv _ _ hk2];have:=congrArg (fun t:ByteArray=>t.data.toList) (ia l 0 k hk);have hd:=tc l 0 k hk
  have e:((ew 0 l)[k]'(by rw [cU];exact hk)).toNat=D:=by
   rw [List.getElem?_eq_getElem (by rw [cU];exact hk)] at hD
   injection hD with hD
   rw [hD];rfl
  rw [e] at this;exact this.trans (bK _)
 rw [b8,ByteArray.data_append,ByteArray.data_append,Array.toList_append,Array.toList_append,hln]
theorem zD {l:List It} (hz:dZ l) (hd:dO l=true): ∀k,k≤l.length→(b8 (bi l) k).data.toList.length≤k*2200000:=by
 intro k
 induction k with
 |zero=>intro _;exact ain _
 |succ k ih=>
  intro hk;obtain ⟨D,hD,hD4,-⟩:=mF hd k (by omega);rw [vF k (by omega) D hD,aio,aio,List.length_singleton];have h1:=ih (by omega);have h2:=lO l[k] D 0;obtain ⟨z1,-,-,z4⟩:=hz _ (List.getElem_mem (show k<l.length by omega))
  omega
theorem xU (w0 w:World) (b:Nat) (v u:Value) (l:List It) (hb:Below w0.heap.size w0 w) (hw:LwAt w0.heap.size b [] w) (hr:RowIt w0 v l) (hz:dZ l) (hd:dO l=true) (htab:Tab w0)
  (hu: ∃B,w.ownsRow B 3 1 u l.length (gf (dps 0 l))):
  Calls Tryz.prog 63 #[.pointer (some ⟨b,0,none⟩),v,u] w (LwD w0 w b (b8 (bi l) l.length).data.toList):=by
 have h30:=((bf l).mp hd).1;have HAL:=aim ((bf l).mp hd).2.1;have HPL:=aim (mF hd);have HAN:=aim (fun (k:Nat) (hk:k<l.length) (D:Nat)=>vF (l:=l) k hk D);have HLE:=aim (zD hz hd);have HZ:=aim hz;have HT:=aim htab;have HB:=aim hb;have HW:=aim hw;have HR:=aim hr;obtain ⟨ao,cap,rfl,h1,h2,h3⟩:=hr;obtain ⟨B,hu⟩:=hu;have HU:=aim hu;obtain ⟨ua,uc,rfl⟩:=ii hu;have H3:=aim h3;unfold maxLen at h2;clear hz htab hb hw hu h3
 go_enter Tryz.func63,Tryz.ntmps63
 go_wp2_with fail
 go_loopw [10] (fun i wr=> ∃k:Nat,k≤l.length∧i= .int .i64 (k:Int)∧LwAt w0.heap.size b (b8 (bi l) k).data.toList wr∧Below w0.heap.size w0 wr∧KL w wr) (fun i _=>l.length-(intOf i).toNat)
 case atStart=>exact ⟨0,air _,rfl,HW.out,HB.out,KL.refl w⟩
 case round=>
  obtain ⟨k,hk,rfl,hW,hB,hK⟩:=hrel;have HWR:=aim hW;have HBR:=aim hB;have HKR:=aim hK;clear hW hB hK
  by_cases hlt:k<l.length
  ·have hltI:(k:Int)<(l.length:Int):=by omega
   have hk0:(0:Int)≤(k:Int):=by omega
   obtain ⟨bl,o,rfl,hbl,cc⟩:=H3.out.resolve_left (by rintro rfl;simp at hlt);obtain ⟨u,hu⟩:=cc k hlt;obtain ⟨d0,d1,d2,d3,hru⟩:=hu.mono hbl HBR.out;have HRU:=aim hu.2.2.2.2;obtain ⟨z1,z2,z3,z4⟩:=HZ.out _ (List.getElem_mem hlt);obtain ⟨D,hD,hD4,-⟩:=HPL.out k hlt
   have hvi:aM l[k]=true:=by have:=HAL.out;rw [List.all_eq_true] at this;exact this _ (List.getElem_mem hlt)
   have HNX:=aim (HAN.out k hlt D hD);have hacc:=HLE.out k hk;obtain ⟨bd,hbd,hdd⟩:=ahr HU.out (by omega:0<l.length);subst hbd;have HDD:=aim (fun (W':World) (hk':KL w W')=>hdd W' hk' k hlt D hD);clear hdd;generalize l[k]=it at d0 d1 d2 d3 hru HRU hvi z1 z2 z4 HNX;obtain ⟨ik,inm,ics,int⟩:=it;simp only at d0 d1 d2 d3 hru HRU z1 z2 z4
   obtain ⟨au,cu,rfl⟩: ∃au cu,u= .slice au ics.length cu:=by obtain ⟨au,cu,h,-⟩:=hru;exact ⟨au,cu,h⟩
   have X1:=aim (BxAt.new wr ik inm (.slice au ics.length cu) int);have BX:=aim ((Below.refl wr.heap.size wr).alloc (ain _) (.cells #[.int .i64 ik, .string inm, .slice au ics.length cu, .string int] 25));have WD:=aim (HWR.out.later BX.out.drew);have BD:=aim (HBR.out.trans (BX.out.drew.mono HBR.out.size));have KX:=aim (HKR.out.trans (KL.alloc wr (.cells #[.int .i64 ik, .string inm, .slice au ics.length cu, .string int] 25)));have KD:=aim (KX.out.trans (show KL _ (wr.alloc (.cells #[.int .i64 ik, .string inm, .slice au ics.length cu, .string int] 25)).drew from KL.refl _));have dd:=HDD.out _ KX.out;obtain ⟨x0,x1,x2,x3⟩:=X1.out.cells;have HIT:=aim (fun (w':World) (hb:Below w0.heap.size w0 w') (hw:LwAt w0.heap.size b (b8 (bi l) k).data.toList w')=>aeD w0 w' b _ (ik,inm,ics,int) (.slice au ics.length cu) D hvi hb hw HRU.out (j7 z2) HT.out z1 z4 hD4 (by omega));clear hvi z1 z2 z3 z4 hru hD;have hbk0:(k:Int)<(l.length:Int):=hltI;go_wp2_with fail
   go_region_with (go_at_call 42;(refine (HIT.out _ BD.out WD.out).mono ?_);rintro e w3 ⟨rfl,h3,hb3,hk3⟩)
   all_goals
    have W3:=aim h3;have B3:=aim hb3;have K3:=aim (KD.out.trans hk3);have hln:=HNX.out;clear h3 hb3 hk3 d0 d1 d2 d3 x0 x1 x2 x3 dd
    have hlen3:((b8 (bi l) k).data.toList++bv (ik,inm,ics,int) D 0).length≤100000000:=by
     have:=lO (ik,inm,ics,int) D 0;have h8:=HLE.out (k+1) (by omega);rw [hln,aio,List.length_singleton] at h8
     omega
    have HNY:=aim hln;clear hln;go_wp2_with fail;refine (nz _ b _ 10 10 (by decide) _ W3.out (by omega) B3.out.size).mono ?_;rintro e w4 ⟨rfl,h4,hb4,hk4⟩;have W4:=aim h4;have B4:=aim (B3.out.trans hb4);have K4:=aim (K3.out.trans hk4);clear h4 hb4 hk4;go_wp2;go_roundw
    case rel=>exact ⟨k+1,by omega,by go_num,by rw [HNY.out];exact W4.out,B4.out,K4.out⟩
    case measure=>simp [intOf];omega
  ·obtain rfl:k=l.length:=by omega
   have hltI: ¬(l.length:Int)<(l.length:Int):=by omega
   go_wp2;go_end0;exact ⟨rfl,HWR.out,HBR.out,HKR.out⟩
theorem fv (v:Value) (l:List It) (w:World) (hr:RowIt w v l) (hz:dZ l) (hl:l.length≤1048576) (htab:Tab w):
  Calls Tryz.prog 21 #[v] w fun e w'=>e= .returned (.tuple #[.string (aY l), .bool (b9 l)])∧Below w.heap.size w w':=by
 have HC:=aim (iw v l w hr (iY hz) htab);have HR:=aim hr;have HT:=aim htab;have HZ:=aim hz;obtain ⟨ao,cap,rfl,h1,h2,h3⟩:=hr;clear h3 hz htab
 cases hok:dO l with
 |false=>
  obtain ⟨hk,ht⟩:=sw hok;rw [hk,ht];rw [hok] at HC;clear hk ht hok
  go_enter Tryz.func21,Tryz.ntmps21
  go_wp2_with fail;refine HC.out.mono ?_;rintro e w1 ⟨rfl,hb1⟩;have HB1:=aim hb1;clear hb1;go_wp2;go_ret2;exact ⟨rfl,HB1.out⟩
 |true=>
  have HPT:=aim (xT hok);have HNO:=aim (show b9 l=false→aY l=⟨#[]⟩ from fun h=>by rw [aY,if_neg (by rw [h];simp)]);have HDW:=aim (fun (w0 w1:World) (b:Nat) (v u:Value) (hb:Below w0.heap.size w0 w1) (hw:LwAt w0.heap.size b [] w1) (hr:RowIt w0 v l) (ht:Tab w0) (hu: ∃B,w1.ownsRow B 3 1 u l.length (gf (dps 0 l)))=>xU w0 w1 b v u l hb hw hr HZ.out hok ht hu);have HDP:=aim (fun (w':World) (v:Value) (hr:RowIt w' v l) (ht:Tab w')=>qL v l w' hr (iY HZ.out) ht);have HDD:=aim (show dpD l=dps 0 l by unfold dpD;rw [if_pos hok])
  have hlen:(b8 (bi l) l.length).size≤100000000:=by
   have h30:=((bf l).mp hok).1;have:=zD HZ.out hok l.length (ain _);rw [xB];omega
  rw [hok] at HC
  obtain ⟨A,hA⟩: ∃A,A=b8 (bi l) l.length:=⟨_,rfl⟩
  rw [←hA] at HDW HPT hlen;clear hok hA
  go_enter Tryz.func21,Tryz.ntmps21
  go_wp2_with fail;refine HC.out.mono ?_;rintro e w1 ⟨rfl,hb1⟩;have HB1:=aim hb1;have HR1:=aim (HR.out.mono hb1);have HT1:=aim (HT.out.keep hb1);have BX:=aim ((Below.refl w1.heap.size w1).alloc (ain _) (.cells #[.pointer none, .slice none 0 0] 66));clear hb1;go_wp2_with fail;refine (HDP.out _ _ (HR1.out.mono BX.out) (HT1.out.keep BX.out)).mono ?_;rintro e w2 ⟨u,rfl,ho2,hb2⟩;rw [HDD.out,jC] at ho2;have W2:=aim ((LwAt.new w1).later hb2);have B2:=aim (BX.out.trans (hb2.mono (by simp)));have O2:=aim ho2;obtain ⟨ua,uc,rfl⟩:=ii ho2;clear hb2 ho2;go_wp2_with fail;refine (HDW.out w1 w2 w1.heap.size _ _ B2.out W2.out HR1.out HT1.out ⟨_,O2.out⟩).mono ?_;rintro e w3 ⟨rfl,h3,hb3,-⟩;have W3:=aim h3;have B3:=aim hb3;clear h3 hb3;go_wp2_with fail;refine (rh w1.heap.size w1.heap.size _ w3 W3.out B3.out.size).mono ?_;rintro e w4 ⟨rfl,hb4⟩;rw [show (⟨A.data.toList.toArray⟩:ByteArray)=A from ByteArray.ext (by simp)];have HB4:=aim (HB1.out.trans ((B3.out.trans hb4).mono HB1.out.size));clear hb4;go_wp2_with fail;refine (cI A _ (by unfold maxLen;omega)).mono ?_;rintro e w5 ⟨rfl,hw5⟩;subst hw5;rw [HPT.out.1];have HEQ:=aim HPT.out.2
  cases hk:b9 l with
  |false=>
   have HK:=aim hk;clear hk;go_wp2;go_ret2;exact ⟨by rw [HNO.out HK.out,HK.out];rfl,HB4.out⟩
  |true=>
   have HK:=aim hk;clear hk;go_wp2;go_ret2;exact ⟨by rw [←HEQ.out HK.out,HK.out];rfl,HB4.out⟩
theorem ke (hany:mG) (a:Option Addr) (len cap:Nat) (w:World) (h:CodeRow w a len cap):
  Calls Tryz.prog 20 #[.slice a len cap] w fun e w'=> ∃(v:Value) (l:List It),e= .returned v∧RowIt w' v l∧(∀i∈l,dT i)∧l.length≤100∧Below w.heap.size w w':=by
 go_enter Tryz.func20,Tryz.ntmps20
 go_wp2_with fail;refine (jD a len cap _ h).mono ?_;rintro e w1 ⟨rfl,hr1,hb1,hs1⟩;have HB:=aim hb1;have HS:=aim hs1;clear hb1 hs1;go_wp2_with fail;refine (hany w.heap.size 0 9 _ (by omega) (by omega) (by omega) hr1).mono ?_;rintro e w2 ⟨v,l,rfl,hrow,hf,hl,hr2,hg2⟩;have HB2:=aim (HB.out.trans (iM hg2 (by have:=HS.out;omega) (ain _)));clear hg2 hr2 HB HS hr1;have HRW:=aim hrow;obtain ⟨va,vc,rfl,-⟩:=hrow;go_wp2;go_ret;exact ⟨_,l,rfl,HRW.out,hf,hl,HB2.out⟩
theorem kf (hany:mG) (a0:Option Addr) (len0 cap0:Nat) (w:World) (hrow:CodeRow w a0 len0 cap0) (htab:Tab w):
  Calls Tryz.prog 5 #[.slice a0 len0 cap0] w fun e w'=>e= .returned (.bool true)∧Below w.heap.size w w':=by
 have hcap:=hrow.1;have hmx:=hrow.2.1;unfold maxLen at hmx
 by_cases hl:len0≤1048576
 ·have HD:=aim (ke hany a0 len0 cap0 w hrow);have HT:=aim htab
  clear hrow htab hany
  go_enter Tryz.func5,Tryz.ntmps5
  go_wp2_with fail;refine HD.out.mono ?_;rintro e w1 ⟨v,l,rfl,hr1,hfew,hl1,hb1⟩;have HB1:=aim hb1;have R1:=aim hr1;have HSI:=aim (ox hfew);obtain ⟨va,vc,rfl,-⟩:=hr1;have HPI:=aim (fun w' (hr:RowIt w' (.slice va l.length vc) l) (ht:Tab w')=>fv (.slice va l.length vc) l w' hr HSI.out (by omega) ht);have HPS:=aim (fun w' (hr:RowIt w' (.slice va l.length vc) l)=>fA (.slice va l.length vc) l w' hr HSI.out (by omega));have HTS:=aim (jx l);have HNT:=aim (show b9 l=false→aY l=⟨#[]⟩ from fun h=>by rw [aY,if_neg (by rw [h];simp)])
  have HRD:=aim (show b9 l=true→ ∀w',Tab w'→Calls Tryz.prog 23 #[.string (aY l)] w' (qO (l,-1) w') from fun h w' ht=>by
   have:=cF (aY l) w' (by have:=HTS.out;omega) ht
   rw [(iL (fun l hl=>iF hl) h).1] at this;exact this)
  have HLN:=aim (show b9 l=true→(bS (aY l)).length=l.length from fun h=>(iL (fun l hl=>iF hl) h).2.1);generalize aY l=T at HPI HPS HTS HNT HRD HLN;generalize b9 l=K at HPI HPS HNT HRD HLN;clear hb1 hfew;go_wp2_with fail;refine (HPI.out _ R1.out (HT.out.keep HB1.out)).mono ?_;rintro e w2 ⟨rfl,hb2⟩;have HB2:=aim (HB1.out.trans (hb2.mono HB1.out.size));have R2:=aim (R1.out.mono hb2);clear hb2;go_wp2_with fail;refine (HPS.out _ R2.out).mono ?_;rintro e w3 ⟨rfl,hb3⟩;have HB3:=aim (HB2.out.trans (hb3.mono HB2.out.size));have R3:=aim (R2.out.mono hb3);clear hb3;clear HB1 HB2 HPI HPS R1 R2
  cases K with
  |false=>
   have hT:=HNT.out rfl;subst hT;have e0:(⟨#[]⟩:ByteArray).toList=[]:=ByteArray.toList_eq _;clear HRD HLN HNT;go_wp2_with fail;refine (li _).mono ?_;rintro e w' ⟨rfl,rfl⟩;go_wp2;go_ret;exact ⟨rfl,HB3.out⟩
  |true=>
   go_wp2_with fail;refine (HRD.out (by simp) _ (HT.out.keep HB3.out)).mono ?_;rintro e w4 ⟨v4,us4,rfl,ho4,hb4⟩;have X4:=aim ho4.reads;have R4:=aim (R3.out.mono hb4);have HB4:=aim (HB3.out.trans (hb4.mono HB3.out.size));obtain ⟨a4,c4,rfl⟩:=ai ho4.row;clear ho4 hb4;go_wp2_with fail;refine (fQ _ _ l w4 X4.out R4.out).mono ?_;rintro e w5 ⟨rfl,hb5⟩;have HB5:=aim (HB4.out.trans (hb5.mono HB4.out.size));clear hb5;go_wp2_with fail;refine (jL T w5 (by have:=HTS.out;unfold maxLen;omega)).mono ?_;rintro e w6 ⟨v6,rfl,ho6,hb6⟩;rw [HLN.out (by simp)] at ho6;have HB6:=aim (HB5.out.trans (hb6.mono HB5.out.size));obtain ⟨a6,c6,rfl⟩:=ai ho6;clear ho6 hb6;go_wp2;go_ret;exact ⟨rfl,HB6.out⟩
 ·clear hrow htab hany
  go_enter Tryz.func5,Tryz.ntmps5
  go_wp2;go_ret;exact ⟨rfl,Below.refl _ _⟩
theorem kQ (a0:Option Addr) (len0 cap0:Nat) (w:World) (hrow:CodeRow w a0 len0 cap0) (htab:Tab w):
  Calls Tryz.prog 5 #[.slice a0 len0 cap0] w fun e w'=>e= .returned (.bool true)∧Below w.heap.size w w':=
 kf xm a0 len0 cap0 w hrow htab
end Go.Proofs.YthijkjnngfnfdaaGreatDoor
