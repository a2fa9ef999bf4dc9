/-
  Part of the proof of UX.
-/
import Derived.Test.YtegdjjjpoahamaaGreatDoorLineI
import Derived.Test.YtegdjjjpoahamaaGreatDoorQQXac
set_option linter.unusedVariables false
set_option maxHeartbeats 8000000
set_option maxRecDepth 100000
namespace Go.Proofs.YtegdjjjpoahamaaGreatDoor
open Go.RowKit
theorem sizedC_of_short {l:List Cl} (h:ShortC l):SizedC l:=fun c hc=>by have:=h c hc;unfold maxLen;omega
theorem fitI_of_short {l:List It} (h:ShortI l):FitI l:=fun i hi=>by
 obtain ⟨h1,h2,h3,h4⟩:=h i hi
 exact ⟨by unfold maxLen;omega,sizedC_of_short h2,by unfold maxLen;omega⟩
theorem own_kl {w W':World} {B n:Nat} {u:Value} {xs:List Value} (h:w.ownsRow B 3 1 u n xs) (hk:KL w W'):W'.ownsRow B 3 1 u n xs:=by
 refine own_keep h fun g hg=> ?_
 rcases h.2 with ⟨rfl,-⟩|⟨g',cap,cur,rfl,hbg,hh,-⟩
 ·simp [Value.ownBlock] at hg
 ·obtain rfl:g'=g:=by simpa [Value.ownBlock] using hg
  rw [hh];exact hk _ _ _ _ hh (by decide) (by decide)
theorem own_at {w:World} {B:Nat} {l:List It} {ua:Option Addr} {uc:Nat} (h:w.ownsRow B 3 1 (.slice ua l.length uc) l.length (ints (dps 0 l))) (h0:0<l.length):
  ∃bd,ua=some ⟨bd,0,none⟩∧ ∀W',KL w W'→ ∀k,k<l.length→ ∀D:Nat,(depL 0 l)[k]? =some (D:Int)→W'.cell? ⟨bd,k,none⟩=some (.int .i64 (D:Int)):=by
 rcases h.2 with ⟨h1,h2⟩|⟨g,cap,cur,h1,hbg,hh,-⟩
 ·omega
 ·injection h1 with e1 e2 e3
  subst e1
  refine ⟨g,rfl,fun W' hk k hlt D hD=> ?_⟩
  rw [(own_kl h hk).cellAt k (by omega)]
  have hd:(dps 0 l)[k]? =some D:=by
   unfold dps
   rw [List.getElem?_map,show ((0:Nat):Int)=0 from rfl,hD]
   rfl
  simp [ints,hd]
theorem lines_text {L:List ByteArray} (hp: ∀t∈L,plainL t.data.toList=true):textB (accTo L L.length)=joinOk L∧(joinOk L=true→accTo L L.length=joinB L):=by
 by_cases hj:joinOk L=true
 ·have e:joinB L=accTo L L.length:=by rw [joinB,if_pos hj]
  have k1:=(lines_join _ hj).1
  rw [e] at k1
  exact ⟨by rw [k1,hj],fun _=>e.symm⟩
 ·refine ⟨?_,fun h=>absurd h hj⟩
  rw [Bool.eq_false_iff.mpr hj,Bool.eq_false_iff]
  intro ht
  simp only [textB,Bool.and_eq_true,decide_eq_true_eq] at ht
  exact hj (joinOk_of _ hp ht.1)
theorem print_plain {l:List It} (hd:docB l=true): ∀t∈printL l,plainL t.data.toList=true:=by
 intro t ht
 obtain ⟨k,hk,rfl⟩:=List.getElem_of_mem ht
 have hk2:k<l.length:=by rw [printL_length] at hk;exact hk
 rw [show (printL l)[k]=_ from printG_at l 0 k hk2,baL_list]
 have hv:=((docB_iff l).mp hd).2.1
 rw [List.all_eq_true] at hv
 exact line_plain (hv _ (List.getElem_mem hk2)) _ 0
theorem acc_next {l:List It} (k:Nat) (hk:k<l.length) (D:Nat) (hD:(depL 0 l)[k]? =some (D:Int)):
  (accTo (printL l) (k+1)).data.toList=(accTo (printL l) k).data.toList++lineI l[k] D 0++[10]:=by
 have hk2:k<(printL l).length:=by rw [printL_length];exact hk
 have hln:(lineAt (printL l) k).data.toList=lineI l[k] D 0:=by
  rw [lineAt_get _ _ hk2]
  have:=congrArg (fun t:ByteArray=>t.data.toList) (printG_at l 0 k hk)
  have hd:=depL_at l 0 k hk
  have e:((depL 0 l)[k]'(by rw [depL_length];exact hk)).toNat=D:=by
   rw [List.getElem?_eq_getElem (by rw [depL_length];exact hk)] at hD
   injection hD with hD
   rw [hD];rfl
  rw [e] at this
  exact this.trans (baL_list _)
 rw [accTo,ByteArray.data_append,ByteArray.data_append,Array.toList_append,Array.toList_append,hln]
theorem acc_len {l:List It} (hz:ShortI l) (hn:nestO 0 l=some 0): ∀k,k≤l.length→(accTo (printL l) k).data.toList.length≤k*2200000:=by
 intro k
 induction k with
 |zero=>intro _;exact Nat.le_refl _
 |succ k ih=>
  intro hk
  obtain ⟨D,hD,hD4,-⟩:=nest_line hn k (by omega)
  rw [acc_next k (by omega) D hD,List.length_append,List.length_append,List.length_singleton]
  have h1:=ih (by omega)
  have h2:=lineI_len l[k] D 0
  obtain ⟨z1,-,-,z4⟩:=hz _ (List.getElem_mem (show k<l.length by omega))
  omega
def RowKw (w0 w:World) (v:Value) (l:List It):Prop:=
 ∃ao cap,v= .slice ao l.length cap∧l.length≤cap∧cap≤maxLen∧(l=[]∨ ∃b o,ao=some ⟨b,o,none⟩∧ ∀(k:Nat) (h:k<l.length),∃u,RowC w0 u l[k].2.2.1∧ ∀W',Below w0.heap.size w0 W'→KL w W'→
  W'.cell? ⟨b,o+k*4,none⟩=some (.int .i64 l[k].1)∧W'.cell? ⟨b,o+k*4+1,none⟩=some (.string l[k].2.1)∧W'.cell? ⟨b,o+k*4+2,none⟩=some u∧W'.cell? ⟨b,o+k*4+3,none⟩=some (.string l[k].2.2.2))
theorem RowKw.of {w0 w:World} {v:Value} {l:List It} (h:RowIt w0 v l):RowKw w0 w v l:=by
 obtain ⟨ao,cap,hv,h1,h2,h3⟩:=h
 refine ⟨ao,cap,hv,h1,h2,h3.imp id ?_⟩
 rintro ⟨b,o,ha,hlt,hj⟩
 refine ⟨b,o,ha,fun k hk=> ?_⟩
 obtain ⟨u,hu⟩:=hj k hk
 refine ⟨u,hu.2.2.2.2,fun W' hb _=> ?_⟩
 obtain ⟨d0,d1,d2,d3,-⟩:=hu.mono hlt hb
 exact ⟨d0,d1,d2,d3⟩
theorem document_w (w0 w:World) (b:Nat) (v u:Value) (l:List It) (hb:Below w0.heap.size w0 w) (hw:LwAt w0.heap.size b [] w) (hr:RowKw w0 w v l) (hz:ShortI l) (h30:l.length≤30) (hal: ∀i∈l,itemB i=true∨i.1=3) (hn:nestO 0 l=some 0) (htab:Tab w0)
  (hu: ∃B,w.ownsRow B 3 1 u l.length (ints (dps 0 l))):
  Calls Tryz.prog 54 #[.pointer (some ⟨b,0,none⟩),v,u] w (LwD w0 w b (accTo (printL l) l.length).data.toList):=by
 have HAL:=Lib.hid hal
 have HPL:=Lib.hid (nest_line hn)
 have HAN:=Lib.hid (fun (k:Nat) (hk:k<l.length) (D:Nat)=>acc_next (l:=l) k hk D)
 have HLE:=Lib.hid (acc_len hz hn)
 have HZ:=Lib.hid hz;have HT:=Lib.hid htab;have HB:=Lib.hid hb;have HW:=Lib.hid hw
 obtain ⟨ao,cap,rfl,h1,h2,h3⟩:=hr
 obtain ⟨B,hu⟩:=hu
 have HU:=Lib.hid hu
 obtain ⟨ua,uc,rfl⟩:=own_shape hu
 have H3:=Lib.hid h3
 unfold maxLen at h2
 clear hz htab hb hw hu h3 hal hn
 go_enter Tryz.func54,Tryz.ntmps54
 go_wp2_with fail
 go_loopw [10] (fun i wr=> ∃k:Nat,k≤l.length∧i= .int .i64 (k:Int)∧LwAt w0.heap.size b (accTo (printL l) k).data.toList wr∧Below w0.heap.size w0 wr∧KL w wr) (fun i _=>l.length-(intOf i).toNat)
 case atStart=>exact ⟨0,Nat.zero_le _,rfl,HW.out,HB.out,KL.refl w⟩
 case round=>
  obtain ⟨k,hk,rfl,hW,hB,hK⟩:=hrel
  have HWR:=Lib.hid hW;have HBR:=Lib.hid hB;have HKR:=Lib.hid hK
  clear hW hB hK
  by_cases hlt:k<l.length
  ·have hltI:(k:Int)<(l.length:Int):=by omega
   have hk0:(0:Int)≤(k:Int):=by omega
   obtain ⟨bl,o,rfl,cc⟩:=H3.out.resolve_left (by rintro rfl;simp at hlt)
   obtain ⟨u,hru,hu⟩:=cc k hlt
   obtain ⟨d0,d1,d2,d3⟩:=hu _ HBR.out HKR.out
   have HRU:=Lib.hid hru
   obtain ⟨z1,z2,z3,z4⟩:=HZ.out _ (List.getElem_mem hlt)
   obtain ⟨D,hD,hD4,-⟩:=HPL.out k hlt
   have hvi:=HAL.out _ (List.getElem_mem hlt)
   have HNX:=Lib.hid (HAN.out k hlt D hD)
   have hacc:=HLE.out k hk
   obtain ⟨bd,hbd,hdd⟩:=own_at HU.out (by omega:0<l.length)
   subst hbd
   have HDD:=Lib.hid (fun (W':World) (hk':KL w W')=>hdd W' hk' k hlt D hD)
   clear hdd hu cc
   generalize l[k]=it at d0 d1 d2 d3 hru HRU hvi z1 z2 z4 HNX
   obtain ⟨ik,inm,ics,int⟩:=it
   simp only at d0 d1 d2 d3 hru HRU z1 z2 z4
   obtain ⟨au,cu,rfl⟩: ∃au cu,u= .slice au ics.length cu:=by obtain ⟨au,cu,h,-⟩:=hru;exact ⟨au,cu,h⟩
   have X1:=Lib.hid (BxAt.new wr ik inm (.slice au ics.length cu) int)
   have BX:=Lib.hid ((Below.refl wr.heap.size wr).alloc (Nat.le_refl _) (.cells #[.int .i64 ik, .string inm, .slice au ics.length cu, .string int] 32))
   have WD:=Lib.hid (HWR.out.later BX.out.drew)
   have BD:=Lib.hid (HBR.out.trans (BX.out.drew.mono HBR.out.size))
   have KX:=Lib.hid (HKR.out.trans (KL.alloc wr (.cells #[.int .i64 ik, .string inm, .slice au ics.length cu, .string int] 32)))
   have KD:=Lib.hid (KX.out.trans (show KL _ (wr.alloc (.cells #[.int .i64 ik, .string inm, .slice au ics.length cu, .string int] 32)).drew from KL.refl _))
   have dd:=HDD.out _ KX.out
   obtain ⟨x0,x1,x2,x3⟩:=X1.out.cells
   have HIT:=Lib.hid (fun (w':World) (hb:Below w0.heap.size w0 w') (hw:LwAt w0.heap.size b (accTo (printL l) k).data.toList w')=>item_w w0 w' b _ (ik,inm,ics,int) (.slice au ics.length cu) D hvi hb hw HRU.out (sizedC_of_short z2) HT.out z1 z4 hD4 (by omega))
   clear hvi z1 z2 z3 z4 hru hD
   have hbk0:(k:Int)<(l.length:Int):=hltI
   go_wp2_with fail
   go_region_with (go_at_call 87;(refine (HIT.out _ BD.out WD.out).mono ?_);rintro e w3 ⟨rfl,h3,hb3,hk3⟩)
   all_goals
    have W3:=Lib.hid h3;have B3:=Lib.hid hb3;have K3:=Lib.hid (KD.out.trans hk3)
    have hln:=HNX.out
    clear h3 hb3 hk3 d0 d1 d2 d3 x0 x1 x2 x3 dd
    have hlen3:((accTo (printL l) k).data.toList++lineI (ik,inm,ics,int) D 0).length≤100000000:=by
     have:=lineI_len (ik,inm,ics,int) D 0
     have h8:=HLE.out (k+1) (by omega)
     rw [hln,List.length_append,List.length_singleton] at h8
     omega
    have HNY:=Lib.hid hln
    clear hln
    go_wp2_with fail
    refine (lByte_any _ b _ 10 10 (by decide) _ W3.out (by omega) B3.out.size).mono ?_
    rintro e w4 ⟨rfl,h4,hb4,hk4⟩
    have W4:=Lib.hid h4;have B4:=Lib.hid (B3.out.trans hb4);have K4:=Lib.hid (K3.out.trans hk4)
    clear h4 hb4 hk4
    go_wp2
    go_roundw
    case rel=>exact ⟨k+1,by omega,by go_num,by rw [HNY.out];exact W4.out,B4.out,K4.out⟩
    case measure=>simp [intOf];omega
  ·obtain rfl:k=l.length:=by omega
   have hltI: ¬(l.length:Int)<(l.length:Int):=by omega
   go_wp2
   go_end0
   exact ⟨rfl,HWR.out,HBR.out,HKR.out⟩
theorem result_w (B b:Nat) (A:ByteArray) (w:World) (h:LwAt B b A.data.toList w) (hB:B≤w.heap.size) (hl:A.size≤100000000):
  Calls Tryz.prog 57 #[.pointer (some ⟨b,0,none⟩)] w fun e w'=>e= .returned (.tuple #[.string (if textB A=true then A else ⟨#[]⟩), .bool (textB A)])∧Below B w w':=by
 have HW:=Lib.hid h;clear h
 obtain ⟨X,hX⟩: ∃X,(if textB A=true then A else (⟨#[]⟩:ByteArray))=X:=⟨_,rfl⟩
 rw [hX]
 have HX:=Lib.hid hX;clear hX
 go_enter Tryz.func57,Tryz.ntmps57
 go_wp2_with fail
 refine (lText_all B b _ w HW.out hB).mono ?_
 rintro e w4 ⟨rfl,hb4⟩
 rw [show (⟨A.data.toList.toArray⟩:ByteArray)=A from ByteArray.ext (by simp)]
 have HB4:=Lib.hid hb4;clear hb4
 go_wp2_with fail
 refine (textValid_impl A _ (by unfold maxLen;omega)).mono ?_
 rintro e w5 ⟨rfl,hw5⟩
 subst hw5
 cases hk:textB A
 ·have HY:=Lib.hid (show X=⟨#[]⟩ by rw [←HX.out,hk];rfl)
  have HK:=Lib.hid hk
  clear HX hk
  go_wp2
  go_ret2
  exact ⟨by rw [HY.out,HK.out];rfl,HB4.out⟩
 ·have HY:=Lib.hid (show X=A by rw [←HX.out,hk];rfl)
  have HK:=Lib.hid hk
  clear HX hk
  go_wp2
  go_ret2
  exact ⟨by rw [HY.out,HK.out];rfl,HB4.out⟩
theorem printDocument_impl (v:Value) (l:List It) (w:World) (hr:RowIt w v l) (hz:ShortI l) (hl:l.length≤1048576) (htab:Tab w):
  Calls Tryz.prog 29 #[v] w fun e w'=>e= .returned (.tuple #[.string (printT l), .bool (printK l)])∧Below w.heap.size w w':=by
 have HC:=Lib.hid (documentValid_impl v l w hr (fitI_of_short hz) htab)
 have HR:=Lib.hid hr;have HT:=Lib.hid htab;have HZ:=Lib.hid hz
 obtain ⟨ao,cap,rfl,h1,h2,h3⟩:=hr
 clear h3 hz htab
 cases hok:docB l with
 |false=>
  obtain ⟨hk,ht⟩:=printT_no hok
  rw [hk,ht]
  rw [hok] at HC
  clear hk ht hok
  go_enter Tryz.func29,Tryz.ntmps29
  go_wp2_with fail
  refine HC.out.mono ?_
  rintro e w1 ⟨rfl,hb1⟩
  have HB1:=Lib.hid hb1;clear hb1
  go_wp2
  go_ret2
  exact ⟨rfl,HB1.out⟩
 |true=>
  obtain ⟨h30,hal,hn⟩:=(docB_iff l).mp hok
  rw [List.all_eq_true] at hal
  have HPT:=Lib.hid (lines_text (print_plain hok))
  have HJ:=Lib.hid (printT_join hok)
  have HDW:=Lib.hid (fun (w0 w1:World) (b:Nat) (v u:Value) (hb:Below w0.heap.size w0 w1) (hw:LwAt w0.heap.size b [] w1) (hr:RowIt w0 v l) (ht:Tab w0) (hu: ∃B,w1.ownsRow B 3 1 u l.length (ints (dps 0 l)))=>document_w w0 w1 b v u l hb hw (.of hr) HZ.out h30 (fun i hi=> .inl (hal i hi)) hn ht hu)
  have HDP:=Lib.hid (fun (w':World) (v:Value) (hr:RowIt w' v l) (ht:Tab w')=>depthsOf_impl v l w' hr (fitI_of_short HZ.out) ht)
  have HDD:=Lib.hid (show dpD l=dps 0 l by unfold dpD;rw [if_pos hok])
  have hlen:(accTo (printL l) l.length).size≤100000000:=by
   have:=acc_len HZ.out hn l.length (Nat.le_refl _)
   rw [size_bytes];omega
  rw [printL_length] at HPT
  rw [hok] at HC
  obtain ⟨A,hA⟩: ∃A,A=accTo (printL l) l.length:=⟨_,rfl⟩
  rw [←hA] at HDW HPT hlen
  have HFIN:=Lib.hid (show (if textB A=true then A else ⟨#[]⟩)=printT l∧textB A=printK l from by
   obtain ⟨p1,p2⟩:=HPT.out
   obtain ⟨j1,j2⟩:=HJ.out
   refine ⟨?_,by rw [j1,p1]⟩
   by_cases ht:textB A=true
   ·rw [if_pos ht,j2];exact p2 (by rw [←p1];exact ht)
   ·rw [if_neg ht,printT,if_neg (by rw [j1,←p1];exact ht)])
  clear hok hA hal hn
  go_enter Tryz.func29,Tryz.ntmps29
  go_wp2_with fail
  refine HC.out.mono ?_
  rintro e w1 ⟨rfl,hb1⟩
  have HB1:=Lib.hid hb1;have HR1:=Lib.hid (HR.out.mono hb1);have HT1:=Lib.hid (HT.out.keep hb1)
  have BX:=Lib.hid ((Below.refl w1.heap.size w1).alloc (Nat.le_refl _) (.cells #[.pointer none, .slice none 0 0] 64))
  clear hb1
  go_wp2_with fail
  refine (HDP.out _ _ (HR1.out.mono BX.out) (HT1.out.keep BX.out)).mono ?_
  rintro e w2 ⟨u,rfl,ho2,hb2⟩
  rw [HDD.out,dps_length] at ho2
  have W2:=Lib.hid ((LwAt.new w1).later hb2)
  have B2:=Lib.hid (BX.out.trans (hb2.mono (by simp)))
  have O2:=Lib.hid ho2
  obtain ⟨ua,uc,rfl⟩:=own_shape ho2
  clear hb2 ho2
  go_wp2_with fail
  refine (HDW.out w1 w2 w1.heap.size _ _ B2.out W2.out HR1.out HT1.out ⟨_,O2.out⟩).mono ?_
  rintro e w3 ⟨rfl,h3,hb3,-⟩
  have W3:=Lib.hid h3;have B3:=Lib.hid hb3
  clear h3 hb3
  go_wp2_with fail
  refine (result_w w1.heap.size w1.heap.size A w3 W3.out B3.out.size hlen).mono ?_
  rintro e w4 ⟨rfl,hb4⟩
  rw [HFIN.out.1,HFIN.out.2]
  have HB4:=Lib.hid (HB1.out.trans ((B3.out.trans hb4).mono HB1.out.size));clear hb4
  go_wp2
  go_ret2
  exact ⟨rfl,HB4.out⟩
def SzL (n:Int) (l:List Cl) (e:Ending):Prop:=
 ∃m:Int,e= .returned (.int .i64 m)∧(0≤m→m+(l.length:Int)≤n∧ ∀c∈l,(c.2.1.size:Int)≤n)
theorem szCellS_left (v:Value) (l:List Cl) (n:Int) (w:World) (hr:RowC w v l) (hz:SizedC l) (hn0:0≤n) (hn1:n≤1048576):
  Calls Tryz.prog 97 #[v, .int .i64 n] w fun e w'=>SzL n l e∧Below w.heap.size w w':=by
 obtain ⟨ao,cap,rfl,h1,h2,h3⟩:=hr
 unfold maxLen at h2
 have H3:=Lib.hid h3;have HZ:=Lib.hid hz;clear h3 hz
 by_cases hl:(l.length:Int)≤n
 ·go_enter Tryz.func97,Tryz.ntmps97
  go_wp2
  go_loopw [1,5] (fun a i wr=> ∃(k:Nat) (m:Int),k≤l.length∧i= .int .i64 k∧a= .int .i64 m∧0≤m∧m+(l.length:Int)≤n∧(∀c∈l.take k,(c.2.1.size:Int)≤n)∧Below w.heap.size w wr) (fun _ i _=>l.length-(intOf i).toNat)
  case atStart=>exact ⟨0,_,Nat.zero_le _,rfl,rfl,by omega,by omega,fun c hc=>by simp at hc,Below.refl _ _⟩
  case round=>
   obtain ⟨k,m,hk,rfl,rfl,hm0,hm1,hall,hb⟩:=hrel
   have HA:=Lib.hid hall;have HB:=Lib.hid hb;clear hall hb
   by_cases hlt:k<l.length
   ·obtain ⟨b,o,rfl,hbl,cc⟩:=H3.out.resolve_left (by rintro rfl;simp at hlt)
    obtain ⟨c0,c1,c2⟩:=cc k hlt
    have d0:wr.cell? ⟨b,o+k*3,none⟩=some (.int .i64 l[k].1):=(HB.out.cell (p:=⟨b,_,none⟩) hbl).trans c0
    have d1:wr.cell? ⟨b,o+k*3+1,none⟩=some (.string l[k].2.1):=(HB.out.cell (p:=⟨b,_,none⟩) hbl).trans c1
    have d2:wr.cell? ⟨b,o+k*3+2,none⟩=some (.int .i64 l[k].2.2):=(HB.out.cell (p:=⟨b,_,none⟩) hbl).trans c2
    have hzk:l[k].2.1.size≤maxLen:=HZ.out _ (List.getElem_mem _)
    have HT:=Lib.hid (List.take_succ_eq_append_getElem hlt)
    have HE:=Lib.hid (show l[k]=(l[k].1,l[k].2.1,l[k].2.2) from rfl)
    have HQ:=Lib.hid (show∀c∈[l[k]],(c.2.1.size:Int)≤n↔(l[k].2.1.size:Int)≤n by simp)
    have HNX:=Lib.hid (show (l[k].2.1.size:Int)≤n→ ∀c∈l.take (k+1),(c.2.1.size:Int)≤n by
     intro h c hc
     rw [HT.out,List.mem_append] at hc
     rcases hc with hc|hc
     ·exact HA.out c hc
     ·rw [List.mem_singleton] at hc;rw [hc];exact h)
    clear HQ HE HT
    generalize l[k].1=kk at d0
    generalize l[k].2.1=ss at d1 hzk HNX
    generalize l[k].2.2=mm at d2
    have HZK:=Lib.hid hzk
    clear cc c0 c1 c2 hzk
    go_wp2_with fail
    refine (szCell_any kk mm ss m _ HZK.out hm0 (by omega)).mono ?_
    rintro e w1 ⟨rfl,hb1⟩
    have HB1:=Lib.hid (HB.out.trans (hb1.mono HB.out.size));clear hb1
    by_cases hr:(ss.size:Int)≤m
    ·rw [if_pos hr]
     have r0:0≤m-(ss.size:Int):=by omega
     have r1:m-(ss.size:Int)+(l.length:Int)≤n:=by omega
     generalize m-(ss.size:Int)=q at r0 r1
     go_wp2
     go_roundw
     case rel=>exact ⟨k+1,q,by omega,by go_num,rfl,r0,r1,HNX.out (by omega),HB1.out⟩
     case measure=>simp [intOf];omega
    ·rw [if_neg hr]
     go_wp2
     go_ret
     exact ⟨⟨-1,rfl,by omega⟩,HB1.out⟩
   ·obtain rfl:k=l.length:=by omega
    have HAL:=Lib.hid (show∀c∈l,(c.2.1.size:Int)≤n by have:=HA.out;rwa [List.take_of_length_le (Nat.le_refl _)] at this)
    go_wp2
    go_ret
    exact ⟨⟨m,rfl,fun _=>⟨hm1,HAL.out⟩⟩,HB.out⟩
 ·go_enter Tryz.func97,Tryz.ntmps97
  go_wp2
  go_ret
  exact ⟨⟨-1,rfl,by omega⟩,Below.refl _ _⟩
def filledC (l:List Cl) (M:List Value) (k:Nat):List Value:=flatC (l.take k)++M.drop (k*3)
theorem filledC_length (l:List Cl) (M:List Value) (k:Nat) (hk:k≤l.length) (hM:M.length=l.length*3):(filledC l M k).length=l.length*3:=by
 rw [filledC,List.length_append,flatC_length,List.length_take,List.length_drop];omega
theorem set3 (A B:List Value) (n:Nat) (hA:A.length=n) (x y z a b c:Value):(((A++x::y::z::B).set n a).set (n+1) b).set (n+2) c=A++a::b::c::B:=by
 subst hA
 rw [List.set_append_right _ _ (Nat.le_refl _),Nat.sub_self,List.set_cons_zero,List.set_append_right _ _ (by omega),show A.length+1-A.length=1 by omega,List.set_cons_succ,List.set_cons_zero,
  List.set_append_right _ _ (by omega),show A.length+2-A.length=2 by omega,List.set_cons_succ,List.set_cons_succ,List.set_cons_zero]
theorem filledC_next (l:List Cl) (M:List Value) (k:Nat) (hk:k<l.length) (hM:M.length=l.length*3):
  (((filledC l M k).set (k*3) (.int .i64 l[k].1)).set (k*3+1) (.string l[k].2.1)).set (k*3+2) (.int .i64 l[k].2.2)=filledC l M (k+1):=by
 have hA:(flatC (l.take k)).length=k*3:=by rw [flatC_length,List.length_take];omega
 have hd:M.drop (k*3)=M[k*3]'(by omega)::M[k*3+1]'(by omega)::M[k*3+2]'(by omega)::M.drop (k*3+3):=by
  rw [List.drop_eq_getElem_cons (by omega),List.drop_eq_getElem_cons (i:=k*3+1) (by omega),List.drop_eq_getElem_cons (i:=k*3+1+1) (by omega)]
 rw [filledC,hd,set3 _ _ _ hA,filledC,List.take_succ_eq_append_getElem hk,flatC_append,show (k+1)*3=k*3+3 by omega,List.append_assoc]
 rfl
theorem toCellS_any (v:Value) (l:List Cl) (w:World) (hr:RowC w v l) (hl:l.length≤1048576):
  Calls Tryz.prog 98 #[v] w (NewCells l w):=by
 obtain ⟨i0,hi,hz0,hz1,hz2⟩:=info_parts infoC
 obtain ⟨ao,cap,rfl,h1,h2,h3⟩:=hr
 unfold maxLen at h2
 have H3:=Lib.hid h3;clear h3
 have hby:i0.bytes*l.length≤281474976710656:=by rw [hz2];omega
 go_enter Tryz.func98,Tryz.ntmps98
 go_wp2_with (at_make;refine wpList_make_full _ rfl _ _ 30 rfl w.heap.size 110 i0 (.agg #[.int .i64 0, .string ByteArray.empty, .int .i64 0]) 3 Tryz.underlying30 hi hz0 hz1 .i64 .i64 (l.length:Int) (l.length:Int) l.length rfl rfl rfl rfl hby (by unfold maxLen;omega) (Nat.le_refl _) ?_;intro w1 hown1 hgrow1)
 have hM:(madeCells (Value.agg #[.int .i64 0, .string ByteArray.empty, .int .i64 0]).cells (l.length*3)).toList.length=l.length*3:=by have:=hown1.1;omega
 generalize (madeCells (Value.agg #[.int .i64 0, .string ByteArray.empty, .int .i64 0]).cells (l.length*3)).toList=M at hown1 hM
 have B1:=Lib.hid ((Below.refl w.heap.size w).grown hgrow1 (Nat.le_refl _) (by simp))
 have HM:=Lib.hid hM
 have O1:=Lib.hid hown1
 clear hgrow1 hM hown1 hby
 go_wp2_with fail
 go_loopw [4] (fun i wr=> ∃k:Nat,k≤l.length∧i= .int .i64 k∧wr.ownsRow w.heap.size 110 3 (.slice (some ⟨w.heap.size,0,none⟩) l.length l.length) l.length (filledC l M k)∧Below w.heap.size w wr) (fun i _=>l.length-(intOf i).toNat)
 case atStart=>exact ⟨0,Nat.zero_le _,rfl,by have:=O1.out;simpa [filledC,flatC] using this,B1.out⟩
 case round=>
  obtain ⟨k,hk,rfl,hown,hb⟩:=hrel
  have HO:=Lib.hid hown;have HB:=Lib.hid hb
  clear hown hb
  by_cases hlt:k<l.length
  ·obtain ⟨b,o,rfl,hbl,cc⟩:=H3.out.resolve_left (by rintro rfl;simp at hlt)
   obtain ⟨c0,c1,c2⟩:=cc k hlt
   have d0:wr.cell? ⟨b,o+k*3,none⟩=some (.int .i64 l[k].1):=(HB.out.cell (p:=⟨b,_,none⟩) hbl).trans c0
   have d1:wr.cell? ⟨b,o+k*3+1,none⟩=some (.string l[k].2.1):=(HB.out.cell (p:=⟨b,_,none⟩) hbl).trans c1
   have d2:wr.cell? ⟨b,o+k*3+2,none⟩=some (.int .i64 l[k].2.2):=(HB.out.cell (p:=⟨b,_,none⟩) hbl).trans c2
   have HNX:=Lib.hid (filledC_next l M k hlt HM.out)
   generalize hC:l[k]=c at d0 d1 d2 HNX
   obtain ⟨kk,ss,mm⟩:=c
   simp only at d0 d1 d2 HNX
   clear cc c0 c1 c2 hC
   go_wp2_with fail
   refine (toCell_any kk mm ss _).mono ?_
   rintro e w2 ⟨rfl,hb2⟩
   have hgb:wr.grownBy w2 none:=⟨hb2.os,hb2.tape,hb2.output,hb2.size,fun i hi _=>hb2.block i hi⟩
   have HO2:=Lib.hid (HO.out.kept hgb (.inr (by simp [Value.ownBlock])))
   have HB2:=Lib.hid (HB.out.trans (hb2.mono HB.out.size))
   clear hgb hb2
   have hfl:=filledC_length l M k (by omega) HM.out
   have cc: ∀j,j<l.length*3→ ∃u,w2.cell? ⟨w.heap.size,j,none⟩=some u:=by
    intro j hj
    rw [HO2.out.cellAt j hj,List.getElem?_eq_getElem (by omega)];exact ⟨_,rfl⟩
   obtain ⟨u0,g0⟩:=cc (k*3) (by omega)
   obtain ⟨u1,g1⟩:=cc (k*3+1) (by omega)
   obtain ⟨u2,g2⟩:=cc (k*3+2) (by omega)
   have z0:=HO2.out.frozenAt (k*3)
   have z1:=HO2.out.frozenAt (k*3+1)
   have z2:=HO2.out.frozenAt (k*3+2)
   have S1:=Lib.hid (HO2.out.stored (k*3) (.int .i64 kk))
   have S2:=Lib.hid (S1.out.1.stored (k*3+1) (.string ss))
   have S3:=Lib.hid (S2.out.1.stored (k*3+2) (.int .i64 mm))
   have T3:=Lib.hid (show _ from HNX.out▸S3.out.1)
   have B3:=Lib.hid (((HB2.out.setCell (p:=⟨w.heap.size,k*3,none⟩) (Nat.le_refl _) (.int .i64 kk)).setCell (p:=⟨w.heap.size,k*3+1,none⟩) (Nat.le_refl _) (.string ss)).setCell (p:=⟨w.heap.size,k*3+2,none⟩) (Nat.le_refl _) (.int .i64 mm))
   clear S1 S2 S3 cc hfl
   go_wp2
   go_roundw
   case rel=>exact ⟨k+1,by omega,by go_num,T3.out,B3.out⟩
   case measure=>simp [intOf];omega
  ·obtain rfl:k=l.length:=by omega
   have HN:=Lib.hid (show filledC l M l.length=flatC l by rw [filledC,List.take_of_length_le (Nat.le_refl _),List.drop_eq_nil_of_le (by rw [HM.out];exact Nat.le_refl _),List.append_nil])
   go_wp2
   go_ret
   exact ⟨_,rfl,by rw [←HN.out];exact HO.out,HB.out⟩
theorem eqCell_same (k m:Int) (s:ByteArray) (w:World):
  Calls Tryz.prog 147 #[.agg #[.int .i64 k, .string s, .int .i64 m], .agg #[.int .i64 k, .string s, .int .i64 m]] w fun e w'=>e= .returned (.bool true)∧Below w.heap.size w w':=by
 have n1:(k !=k)=false:=by simp
 have n2:(!(s.toList==s.toList))=false:=by simp
 have n3:(m !=m)=false:=by simp
 go_enter Tryz.func147,Tryz.ntmps147
 go_wp2
 go_ret
 exact ⟨rfl,((Below.refl _ w).alloc (Nat.le_refl _) _).alloc (by simp) _⟩
theorem eqCellS_same (v1 v2:Value) (l:List Cl) (w:World) (h1:RowC w v1 l) (h2:RowC w v2 l):
 Calls Tryz.prog 99 #[v1,v2] w fun e w'=>e= .returned (.bool true)∧Below w.heap.size w w':=by
 obtain ⟨a1,c1,rfl,l1,m1,r1⟩:=h1
 obtain ⟨a2,c2,rfl,l2,m2,r2⟩:=h2
 unfold maxLen at m1 m2
 have R1:=Lib.hid r1;have R2:=Lib.hid r2
 clear r1 r2
 go_enter Tryz.func99,Tryz.ntmps99
 go_wp2
 go_loopw [5] (fun i wr=> ∃k:Nat,k≤l.length∧i= .int .i64 (k:Int)∧Below w.heap.size w wr) (fun i _=>l.length-(intOf i).toNat)
 case atStart=>exact ⟨0,Nat.zero_le _,rfl,Below.refl _ _⟩
 case round=>
  obtain ⟨k,hk,rfl,hb⟩:=hrel
  have HB:=Lib.hid hb;clear hb
  by_cases hlt:k<l.length
  ·obtain ⟨b1,o1,hA1,lt1,cc1⟩:=R1.out.resolve_left (by rintro rfl;simp at hlt)
   obtain ⟨b2,o2,hA2,lt2,cc2⟩:=R2.out.resolve_left (by rintro rfl;simp at hlt)
   subst hA1 hA2
   obtain ⟨p0,p1,p2⟩:=cc1 k hlt
   obtain ⟨q0,q1,q2⟩:=cc2 k hlt
   have d0:=(HB.out.cell (p:=⟨b1,_,none⟩) lt1).trans p0
   have d1:=(HB.out.cell (p:=⟨b1,_,none⟩) lt1).trans p1
   have d2:=(HB.out.cell (p:=⟨b1,_,none⟩) lt1).trans p2
   have g0:=(HB.out.cell (p:=⟨b2,_,none⟩) lt2).trans q0
   have g1:=(HB.out.cell (p:=⟨b2,_,none⟩) lt2).trans q1
   have g2:=(HB.out.cell (p:=⟨b2,_,none⟩) lt2).trans q2
   generalize l[k].1=kk at d0 g0
   generalize l[k].2.1=ss at d1 g1
   generalize l[k].2.2=mm at d2 g2
   have hw1:b1<wr.heap.size:=by have:=HB.out.size;omega
   have hw2:b2<wr.heap.size:=by have:=HB.out.size;omega
   clear cc1 cc2 p0 p1 p2 q0 q1 q2
   have bk0:(0:Int)≤(k:Int):=by omega
   have bk1:(k:Int)<(l.length:Int):=by omega
   go_wp2_with fail
   go_region_held3 (fun w'=>w'.cell? ⟨b1,o1+k*3,none⟩=some (.int .i64 kk)∧w'.cell? ⟨b1,o1+k*3+1,none⟩=some (.string ss)∧w'.cell? ⟨b1,o1+k*3+2,none⟩=some (.int .i64 mm)∧w'.cell? ⟨b2,o2+k*3,none⟩=some (.int .i64 kk)∧w'.cell? ⟨b2,o2+k*3+1,none⟩=some (.string ss)∧w'.cell? ⟨b2,o2+k*3+2,none⟩=some (.int .i64 mm))
    (first
      |go_keep
      |(go_split_ands
        refine ⟨?_, ?_, ?_, ?_, ?_, ?_⟩
        ·(rw [hb1.cell (by exact hw1)];assumption)
        ·(rw [hb1.cell (by exact hw1)];assumption)
        ·(rw [hb1.cell (by exact hw1)];assumption)
        ·(rw [hb1.cell (by exact hw2)];assumption)
        ·(rw [hb1.cell (by exact hw2)];assumption)
        ·(rw [hb1.cell (by exact hw2)];assumption)))
    ((go_at_call 147;refine (eqCell_same _ _ _ _).mono ?_;rintro e w1 ⟨rfl,hb1⟩))
   go_wp2
   go_roundw
   case rel=>exact ⟨k+1,by omega,by go_num,HB.out.drew.trans (hb1.mono HB.out.size)⟩
   case measure=>simp [intOf];omega
  ·go_wp2
   go_ret
   exact ⟨rfl,HB.out⟩
theorem drewB (w:World):Below w.heap.size w w.drew:=⟨rfl,rfl,rfl,Nat.le_refl _,fun _ _=>rfl⟩
def lenI (l:List It):Nat:=(l.map fun i=>i.2.2.1.length).sum
theorem lenI_take (l:List It) (k:Nat) (h:k<l.length):lenI (l.take (k+1))=lenI (l.take k)+l[k].2.2.1.length:=by
 simp only [lenI]
 rw [List.take_succ_eq_append_getElem h,List.map_append,List.sum_append]
 simp
theorem lenI_le (l:List It) (k:Nat):lenI (l.take k)≤lenI l:=by
 simp only [lenI]
 conv=>rhs;rw [←List.take_append_drop k l,List.map_append,List.sum_append]
 omega
theorem lenI_in (l:List It) (k:Nat) (h:k<l.length):l[k].2.2.1.length≤lenI l:=by
 have:=lenI_take l k h
 have:=lenI_le l (k+1)
 omega
def UptoI (n:Int) (i:It):Prop:=(i.2.1.size:Int)≤n∧(∀c∈i.2.2.1,(c.2.1.size:Int)≤n)∧(i.2.2.2.size:Int)≤n
def SzI1 (n:Int) (i:It) (e:Ending):Prop:=
 ∃q:Int,e= .returned (.int .i64 q)∧q≤n∧(0≤q→q+(i.2.2.1.length:Int)≤n∧UptoI n i)
def SzI (n:Int) (l:List It) (e:Ending):Prop:=
 ∃m:Int,e= .returned (.int .i64 m)∧(0≤m→m+((l.length:Int)+(lenI l:Int))≤n∧ ∀i∈l,UptoI n i)
theorem short_ofI {l:List It} {n:Int} (hn:n≤1048576) (hl: ∀i∈l,UptoI n i) (hs:(lenI l:Int)≤n):ShortI l:=by
 intro i hi
 obtain ⟨h1,h2,h3⟩:=hl i hi
 obtain ⟨k,hk,rfl⟩:=List.mem_iff_getElem.mp hi
 have:=lenI_in l k hk
 exact ⟨by omega,fun c hc=>by have:=h2 c hc;omega,by omega,by omega⟩
theorem szItem_any (u:Value) (i:It) (n:Int) (w:World) (hr:RowC w u i.2.2.1) (hz:SizedI i) (hn0:0≤n) (hn1:n≤1048576):
  Calls Tryz.prog 64 #[.agg #[.int .i64 i.1, .string i.2.1,u, .string i.2.2.2], .int .i64 n] w fun e w'=>SzI1 n i e∧Below w.heap.size w w':=by
 obtain ⟨k,nm,l,t⟩:=i
 obtain ⟨hs,hzc,hst⟩:=hz
 simp only at hr hs hzc hst⊢
 unfold maxLen at hs hst
 have HB0:=Lib.hid ((Below.refl w.heap.size w).alloc (Nat.le_refl _) (.cells #[.int .i64 k, .string nm,u, .string t] 77))
 have HR:=Lib.hid (hr.mono HB0.out);have HZ:=Lib.hid hzc
 have HBX:=Lib.hid (fun w1 (h:Below (w.alloc (.cells #[.int .i64 k, .string nm,u, .string t] 77)).heap.size (w.alloc (.cells #[.int .i64 k, .string nm,u, .string t] 77)) w1)=>boxI h)
 obtain ⟨ao,cap,rfl,-⟩:=hr
 clear hzc
 by_cases hl:(nm.size:Int)≤n
 ·go_enter Tryz.func64,Tryz.ntmps64
  go_wp2_with fail
  refine (szCellS_left _ l (n-(nm.size:Int)) _ HR.out HZ.out (by omega) (by omega)).mono ?_
  rintro e w1 ⟨⟨q,rfl,hq⟩,hb1⟩
  obtain ⟨d0,d1,d2,d3⟩:=HBX.out w1 hb1
  have HB1:=Lib.hid (HB0.out.trans (hb1.mono HB0.out.size));clear hb1
  by_cases h0:0≤q
  ·obtain ⟨q1,q2⟩:=hq h0
   by_cases h1:(t.size:Int)≤q
   ·have HU:=Lib.hid (show UptoI n (k,nm,l,t) from ⟨hl,fun c hc=>by have:=q2 c hc;omega,by show (t.size:Int)≤n;omega⟩)
    clear hq q2
    go_wp2
    go_ret
    exact ⟨⟨q-(t.size:Int),rfl,by omega,fun _=>⟨by show q-(t.size:Int)+(l.length:Int)≤n;omega,HU.out⟩⟩,HB1.out⟩
   ·clear hq q2
    go_wp2
    go_ret
    exact ⟨⟨-1,rfl,by omega,by omega⟩,HB1.out⟩
  ·clear hq
   go_wp2
   go_ret
   exact ⟨⟨-1,rfl,by omega,by omega⟩,HB1.out⟩
 ·go_enter Tryz.func64,Tryz.ntmps64
  go_wp2
  go_ret
  exact ⟨⟨-1,rfl,by omega,by omega⟩,HB0.out⟩
theorem szItemS_any (v:Value) (l:List It) (n:Int) (w:World) (hr:RowIt w v l) (hz: ∀i∈l,SizedI i) (hn0:0≤n) (hn1:n≤1048576):
  Calls Tryz.prog 31 #[v, .int .i64 n] w fun e w'=>SzI n l e∧Below w.heap.size w w':=by
 obtain ⟨ao,cap,rfl,h1,h2,h3⟩:=hr
 unfold maxLen at h2
 have H3:=Lib.hid h3;have HZ:=Lib.hid hz;clear h3 hz
 by_cases hl:(l.length:Int)≤n
 ·go_enter Tryz.func31,Tryz.ntmps31
  go_wp2
  go_loopw [1,5] (fun a i wr=> ∃(k:Nat) (m:Int),k≤l.length∧i= .int .i64 k∧a= .int .i64 m∧0≤m∧m+((l.length:Int)+(lenI (l.take k):Int))≤n∧(∀b∈l.take k,UptoI n b)∧Below w.heap.size w wr) (fun _ i _=>l.length-(intOf i).toNat)
  case atStart=>exact ⟨0,_,Nat.zero_le _,rfl,rfl,by omega,by simp [lenI],fun c hc=>by simp at hc,Below.refl _ _⟩
  case round=>
   obtain ⟨k,m,hk,rfl,rfl,hm0,hm1,hall,hb⟩:=hrel
   have HA:=Lib.hid hall;have HB:=Lib.hid hb;clear hall hb
   by_cases hlt:k<l.length
   ·obtain ⟨b,o,rfl,hbl,cc⟩:=H3.out.resolve_left (by rintro rfl;simp at hlt)
    obtain ⟨u,hu⟩:=cc k hlt
    obtain ⟨d0,d1,d2,d3,hru⟩:=hu.mono hbl HB.out
    have HC:=Lib.hid (szItem_any u l[k] m wr hru (HZ.out _ (List.getElem_mem hlt)) hm0 (by omega))
    have HTK:=Lib.hid (lenI_take l k hlt)
    have HNX:=Lib.hid (show UptoI n l[k]→ ∀b∈l.take (k+1),UptoI n b by
     intro h l1 hc
     rw [List.take_succ_eq_append_getElem hlt,List.mem_append] at hc
     rcases hc with hc|hc
     ·exact HA.out l1 hc
     ·rw [List.mem_singleton] at hc;rw [hc];exact h)
    clear cc hu hru
    have hmn:m≤1048576:=by omega
    have hmn2:m≤n:=by omega
    go_wp2_with fail
    refine HC.out.mono ?_
    rintro e w1 ⟨⟨q,rfl,hqm,hq⟩,hb1⟩
    have HB1:=Lib.hid (HB.out.trans (hb1.mono HB.out.size));clear hb1
    by_cases hr:0≤q
    ·obtain ⟨q1,q2,q3,q4⟩:=hq hr
     have HN:=Lib.hid (HNX.out ⟨by omega,fun c hc=>by have:=q3 c hc;omega,by omega⟩)
     have hq3:=HTK.out
     clear q2 q3 q4 hq
     go_wp2
     go_roundw
     case rel=>exact ⟨k+1,q,by omega,by go_num,rfl,hr,by omega,HN.out,HB1.out⟩
     case measure=>simp [intOf];omega
    ·clear hq
     go_wp2
     go_ret
     exact ⟨⟨-1,rfl,by omega⟩,HB1.out⟩
   ·obtain rfl:k=l.length:=by omega
    have HAL:=Lib.hid (show∀b∈l,UptoI n b by have:=HA.out;rwa [List.take_of_length_le (Nat.le_refl _)] at this)
    rw [List.take_of_length_le (Nat.le_refl _)] at hm1
    go_wp2
    go_ret
    exact ⟨⟨m,rfl,fun _=>⟨by omega,HAL.out⟩⟩,HB.out⟩
 ·go_enter Tryz.func31,Tryz.ntmps31
  go_wp2
  go_ret
  exact ⟨⟨-1,rfl,by omega⟩,Below.refl _ _⟩
theorem eqItem_same (k:Int) (s t:ByteArray) (u1 u2:Value) (l:List Cl) (w:World) (h1:RowC w u1 l) (h2:RowC w u2 l):
  Calls Tryz.prog 66 #[.agg #[.int .i64 k, .string s,u1, .string t], .agg #[.int .i64 k, .string s,u2, .string t]] w fun e w'=>e= .returned (.bool true)∧Below w.heap.size w w':=by
 have HB0:=Lib.hid (((Below.refl w.heap.size w).alloc (Nat.le_refl _) (.cells #[.int .i64 k, .string s,u1, .string t] 32)).alloc (by simp) (.cells #[.int .i64 k, .string s,u2, .string t] 32))
 have HC:=Lib.hid (eqCellS_same u1 u2 l _ (h1.mono HB0.out) (h2.mono HB0.out))
 have HX0:=Lib.hid (fun w1 (h:Below ((w.alloc (.cells #[.int .i64 k, .string s,u1, .string t] 32)).alloc (.cells #[.int .i64 k, .string s,u2, .string t] 32)).heap.size ((w.alloc (.cells #[.int .i64 k, .string s,u1, .string t] 32)).alloc (.cells #[.int .i64 k, .string s,u2, .string t] 32)) w1)=>
  (show w1.cell? ⟨w.heap.size,3,none⟩=some (.string t) by rw [h.cell (by simp;omega)];simp [go_sem]))
 have HX1:=Lib.hid (fun w1 (h:Below ((w.alloc (.cells #[.int .i64 k, .string s,u1, .string t] 32)).alloc (.cells #[.int .i64 k, .string s,u2, .string t] 32)).heap.size ((w.alloc (.cells #[.int .i64 k, .string s,u1, .string t] 32)).alloc (.cells #[.int .i64 k, .string s,u2, .string t] 32)) w1)=>
  (show w1.cell? ⟨w.heap.size+1,3,none⟩=some (.string t) by rw [h.cell (by simp)];simp [go_sem]))
 obtain ⟨a1,c1,rfl,-⟩:=h1
 obtain ⟨a2,c2,rfl,-⟩:=h2
 have ht:(s.toList==s.toList)=true:=by simp
 have ht2:(t.toList==t.toList)=true:=by simp
 have hk:(k !=k)=false:=by simp
 go_enter Tryz.func66,Tryz.ntmps66
 go_wp2_with fail
 refine HC.out.mono ?_
 rintro e w1 ⟨rfl,hb1⟩
 have e0:=HX0.out w1 hb1
 have e1:=HX1.out w1 hb1
 have HB1:=Lib.hid (HB0.out.trans (hb1.mono HB0.out.size));clear hb1
 go_wp2
 go_ret
 exact ⟨rfl,HB1.out⟩
theorem eqItemS_same (v1 v2:Value) (l:List It) (w:World) (h1:RowIt w v1 l) (h2:RowIt w v2 l):
  Calls Tryz.prog 34 #[v1,v2] w fun e w'=>e= .returned (.bool true)∧Below w.heap.size w w':=by
 obtain ⟨a1,c1,rfl,l1,m1,r1⟩:=h1
 obtain ⟨a2,c2,rfl,l2,m2,r2⟩:=h2
 unfold maxLen at m1 m2
 have R1:=Lib.hid r1;have R2:=Lib.hid r2
 clear r1 r2
 go_enter Tryz.func34,Tryz.ntmps34
 go_wp2
 go_loopw [5] (fun i wr=> ∃k:Nat,k≤l.length∧i= .int .i64 (k:Int)∧Below w.heap.size w wr) (fun i _=>l.length-(intOf i).toNat)
 case atStart=>exact ⟨0,Nat.zero_le _,rfl,Below.refl _ _⟩
 case round=>
  obtain ⟨k,hk,rfl,hb⟩:=hrel
  have HB:=Lib.hid hb;clear hb
  by_cases hlt:k<l.length
  ·obtain ⟨b1,o1,rfl,lt1,cc1⟩:=R1.out.resolve_left (by rintro rfl;simp at hlt)
   obtain ⟨b2,o2,rfl,lt2,cc2⟩:=R2.out.resolve_left (by rintro rfl;simp at hlt)
   obtain ⟨u1,p1⟩:=cc1 k hlt
   obtain ⟨u2,p2⟩:=cc2 k hlt
   obtain ⟨d0,d1,d2,d3,x1⟩:=p1.mono lt1 HB.out
   obtain ⟨f0,f1,f2,f3,x2⟩:=p2.mono lt2 HB.out
   have X1:=Lib.hid x1;have X2:=Lib.hid x2
   clear cc1 cc2 p1 p2 x1 x2
   have bk0:(0:Int)≤(k:Int):=by omega
   have bk1:(k:Int)<(l.length:Int):=by omega
   generalize l[k].1=kk at d0 f0
   generalize l[k].2.1=nk at d1 f1
   generalize l[k].2.2.1=lk at X1 X2
   generalize l[k].2.2.2=tk at d3 f3
   go_wp2_with fail
   go_region_with ((go_at_call 66;refine (eqItem_same _ _ _ _ _ lk _ (X1.out.mono (drewB wr)) (X2.out.mono (drewB wr))).mono ?_;rintro e w1 ⟨rfl,hb1⟩))
   all_goals
    have HB2:=Lib.hid (HB.out.trans (((drewB wr).trans hb1).mono HB.out.size))
    clear hb1
    (try go_wp2)
    go_roundw
    case rel=>exact ⟨k+1,by omega,by go_num,HB2.out⟩
    case measure=>simp [intOf];omega
  ·obtain rfl:k=l.length:=by omega
   go_wp2
   go_ret
   exact ⟨rfl,HB.out⟩
theorem toItem_any (u:Value) (k:Int) (nm t:ByteArray) (l:List Cl) (w:World) (hr:RowC w u l) (hl:l.length≤1048576):
  Calls Tryz.prog 65 #[.agg #[.int .i64 k, .string nm,u, .string t]] w fun e w'=> ∃u',e= .returned (.agg #[.int .i64 k, .string nm,u', .string t])∧w'.ownsRow w.heap.size 110 3 u' l.length (flatC l)∧Below w.heap.size w w':=by
 have HB0:=Lib.hid ((((Below.refl w.heap.size w).alloc (Nat.le_refl _) (.cells #[.int .i64 k, .string nm,u, .string t] 77)).alloc (by simp) (.cells #[.int .i64 0, .string ByteArray.empty, .slice none 0 0, .string ByteArray.empty] 32)).alloc (by simp;omega) (.cells #[.int .i64 k, .string nm, .slice none 0 0, .string ByteArray.empty] 32))
 have HC:=Lib.hid (toCellS_any u l _ (hr.mono HB0.out) hl)
 obtain ⟨ao,cap,rfl,-⟩:=hr
 go_enter Tryz.func65,Tryz.ntmps65
 go_wp2_with fail
 refine HC.out.mono ?_
 rintro e w2 ⟨v2,rfl,ho2,hb2⟩
 have hs2:=hb2.size
 have hs3:w.heap.size+3≤w2.heap.size:=by simpa using hs2
 obtain ⟨a2,c2,rfl⟩:=own_shape ho2
 obtain ⟨⟨x0,x1,x2,x3⟩,⟨f0,f1,f2,f3⟩,-⟩:It4 w2 (w.heap.size+1) (.int .i64 0) (.string ByteArray.empty) (.slice none 0 0) (.string ByteArray.empty):=by
  have:=((It4.new (w.alloc (.cells #[.int .i64 k, .string nm, .slice ao l.length cap, .string t] 77)) (.int .i64 0) (.string ByteArray.empty) (.slice none 0 0) (.string ByteArray.empty) 32).al (.cells #[.int .i64 k, .string nm, .slice none 0 0, .string ByteArray.empty] 32)).keep hb2
  simpa using this
 obtain ⟨⟨y0,y1,y2,y3⟩,⟨g0,g1,g2,g3⟩,-⟩:It4 w2 (w.heap.size+1+1) (.int .i64 k) (.string nm) (.slice none 0 0) (.string ByteArray.empty):=by
  have:=(It4.new ((w.alloc (.cells #[.int .i64 k, .string nm, .slice ao l.length cap, .string t] 77)).alloc (.cells #[.int .i64 0, .string ByteArray.empty, .slice none 0 0, .string ByteArray.empty] 32)) (.int .i64 k) (.string nm) (.slice none 0 0) (.string ByteArray.empty) 32).keep hb2
  simpa using this
 obtain ⟨⟨b0,b1,b2,b3⟩,-⟩:It4 w2 w.heap.size (.int .i64 k) (.string nm) (.slice ao l.length cap) (.string t):=by
  have:=(((It4.new w (.int .i64 k) (.string nm) (.slice ao l.length cap) (.string t) 77).al (.cells #[.int .i64 0, .string ByteArray.empty, .slice none 0 0, .string ByteArray.empty] 32)).al (.cells #[.int .i64 k, .string nm, .slice none 0 0, .string ByteArray.empty] 32)).keep hb2
  simpa using this
 have HB2:=Lib.hid (HB0.out.trans (hb2.mono (by simp;omega)))
 have hou: ∀g,(Value.slice a2 l.length c2).ownBlock=some g→w.heap.size+3≤g:=fun g hg=>by have:=(ho2.lt g hg).1;simpa using this
 have HOU:=Lib.hid hou
 have HO2:=Lib.hid ho2
 have HFIN:=Lib.hid (show∀w5:World,w5=(((((w2.setCell ⟨w.heap.size+1+1,2,none⟩ (.slice a2 l.length c2)).setCell ⟨w.heap.size+1+1,3,none⟩ (.string t)).setCell ⟨w.heap.size+1,0,none⟩ (.int .i64 k)).setCell ⟨w.heap.size+1,1,none⟩ (.string nm)).setCell ⟨w.heap.size+1,2,none⟩ (.slice a2 l.length c2)).setCell ⟨w.heap.size+1,3,none⟩ (.string t)→
   w5.ownsRow w.heap.size 110 3 (.slice a2 l.length c2) l.length (flatC l)∧Below w.heap.size w w5 by
  rintro w5 rfl
  refine ⟨own_base (own_keep HO2.out (fun g hg=>by
   have:=HOU.out g hg
   rw [Below.heap_setCell _ _ _ _ (show g≠w.heap.size+1 by omega),Below.heap_setCell _ _ _ _ (show g≠w.heap.size+1 by omega),Below.heap_setCell _ _ _ _ (show g≠w.heap.size+1 by omega),Below.heap_setCell _ _ _ _ (show g≠w.heap.size+1 by omega),Below.heap_setCell _ _ _ _ (show g≠w.heap.size+1+1 by omega),Below.heap_setCell _ _ _ _ (show g≠w.heap.size+1+1 by omega)])) (fun g hg=>by have:=HOU.out g hg;omega), ?_⟩
  have h1:w.heap.size≤w.heap.size+1:=by omega
  have h2:w.heap.size≤w.heap.size+1+1:=by omega
  exact (((((HB2.out.setCell (p:=⟨w.heap.size+1+1,2,none⟩) h2 _).setCell (p:=⟨w.heap.size+1+1,3,none⟩) h2 _).setCell (p:=⟨w.heap.size+1,0,none⟩) h1 _).setCell (p:=⟨w.heap.size+1,1,none⟩) h1 _).setCell (p:=⟨w.heap.size+1,2,none⟩) h1 _).setCell (p:=⟨w.heap.size+1,3,none⟩) h1 _)
 clear ho2 hb2 hou hs2
 go_wp2
 exact bodyPost_ret (v:= .agg #[.int .i64 k, .string nm, .slice a2 l.length c2, .string t]) (by simp [results,Tryz.results65,go_sem,x0,x1,x2,x3]) rfl ⟨_,rfl,(HFIN.out _ rfl).1,(HFIN.out _ rfl).2⟩
def FilledI (w:World) (B n:Nat) (us:List Value) (l:List It) (wr:World) (M:List Value) (k:Nat):Prop:=
 us.length=k∧wr.ownsRow B 32 4 (.slice (some ⟨B,0,none⟩) n n) n (itF (l.take k) us++M.drop (k*4))∧Below w.heap.size w wr∧(∀(j:Nat) (h:j<us.length) (h':j<l.length),wr.ownsRow (B+1) 110 3 us[j] l[j].2.2.1.length (flatC l[j].2.2.1))∧
  ∀(i j:Nat) (hi:i<us.length) (hj:j<us.length) (b:Nat),us[i].ownBlock=some b→us[j].ownBlock=some b→i=j
theorem set4 (A M:List Value) (k n:Nat) (x0 x1 x2 x3:Value) (hA:A.length=k*4) (hM:M.length=n*4) (hk:k<n):
  ((((A++M.drop (k*4)).set (k*4) x0).set (k*4+1) x1).set (k*4+2) x2).set (k*4+3) x3=(A++[x0,x1,x2,x3])++M.drop ((k+1)*4):=by
 have e:M.drop (k*4)=M[k*4]::M[k*4+1]::M[k*4+2]::M[k*4+3]::M.drop ((k+1)*4):=by
  rw [List.drop_eq_getElem_cons (by omega),List.drop_eq_getElem_cons (by omega),List.drop_eq_getElem_cons (by omega),List.drop_eq_getElem_cons (by omega),show (k+1)*4=k*4+1+1+1+1 by omega]
 rw [e,List.set_append_right _ _ (by omega),hA,Nat.sub_self,List.set_append_right _ _ (by omega),hA,show k*4+1-k*4=1 by omega,List.set_append_right _ _ (by omega),hA,show k*4+2-k*4=2 by omega,List.set_append_right _ _ (by omega),hA,show k*4+3-k*4=3 by omega]
 simp
theorem FilledI.next {w wr w1:World} {B n k:Nat} {us:List Value} {l:List It} {M:List Value} {u:Value} (h:FilledI w B n us l wr M k) (hk:k<n) (hkl:k<l.length) (hM:M.length=n*4) (hB:w.heap.size≤B) (hBl:B<wr.heap.size) (hb1:Below wr.heap.size wr w1)
  (hu:w1.ownsRow wr.heap.size 110 3 u l[k].2.2.1.length (flatC l[k].2.2.1)):FilledI w B n (us++[u]) l ((((w1.setCell ⟨B,k*4,none⟩ (.int .i64 l[k].1)).setCell ⟨B,k*4+1,none⟩ (.string l[k].2.1)).setCell ⟨B,k*4+2,none⟩ u).setCell ⟨B,k*4+3,none⟩ (.string l[k].2.2.2)) M (k+1):=by
 obtain ⟨h1,h2,h3,h4,h5⟩:=h
 have hs1:=hb1.size
 have hset: ∀b,b≠B→((((w1.setCell ⟨B,k*4,none⟩ (.int .i64 l[k].1)).setCell ⟨B,k*4+1,none⟩ (.string l[k].2.1)).setCell ⟨B,k*4+2,none⟩ u).setCell ⟨B,k*4+3,none⟩ (.string l[k].2.2.2)).heap[b]? =w1.heap[b]? :=fun b hbn=>(Below.heap_setCell _ _ _ _ hbn).trans ((Below.heap_setCell _ _ _ _ hbn).trans ((Below.heap_setCell _ _ _ _ hbn).trans (Below.heap_setCell _ _ _ _ hbn)))
 have hus: ∀j (hj:j<us.length) b,us[j].ownBlock=some b→B+1≤b∧b<wr.heap.size:=fun j hj b hb=>(h4 j hj (by omega)).lt b hb
 have hu1: ∀b,u.ownBlock=some b→wr.heap.size≤b∧b<w1.heap.size:=fun b hb=>hu.lt b hb
 have htl:(l.take k).length=us.length:=by rw [List.length_take];omega
 have hfl:(itF (l.take k) us).length=k*4:=by rw [itF_length _ _ htl,htl,h1]
 refine ⟨by simp [h1], ?_,((((h3.trans (hb1.mono h3.size)).setCell hB _).setCell hB _).setCell hB _).setCell hB _, ?_, ?_⟩
 ·have e:=set4 (itF (l.take k) us) M k n (.int .i64 l[k].1) (.string l[k].2.1) u (.string l[k].2.2.2) hfl hM hk
  have e2:itF (l.take (k+1)) (us++[u])=itF (l.take k) us++[.int .i64 l[k].1, .string l[k].2.1,u, .string l[k].2.2.2]:=by
   rw [List.take_succ_eq_append_getElem hkl,itF_append _ _ _ _ htl];rfl
  rw [e2,←e]
  exact ((((((own_belowS h2 hb1).stored (k*4) (.int .i64 l[k].1)).1).stored (k*4+1) (.string l[k].2.1)).1.stored (k*4+2) u).1.stored (k*4+3) (.string l[k].2.2.2)).1
 ·intro j hj hj'
  by_cases hlt:j<us.length
  ·rw [List.getElem_append_left hlt]
   exact own_keep (h4 j hlt hj') (fun g hg=>by rw [hset g (by have:=hus j hlt g hg;omega),hb1.block g (hus j hlt g hg).2])
  ·have:j=us.length:=by simp at hj;omega
   subst this
   simp only [List.getElem_append_right (Nat.le_refl _),Nat.sub_self,List.getElem_cons_zero]
   subst h1
   exact own_base (own_keep hu (fun g hg=>hset g (by have:=hu1 g hg;omega))) (fun g hg=>by have:=hu1 g hg;omega)
 ·intro i j hi hj b hbi hbj
  by_cases hli:i<us.length
  ·rw [List.getElem_append_left hli] at hbi
   by_cases hlj:j<us.length
   ·rw [List.getElem_append_left hlj] at hbj;exact h5 i j hli hlj b hbi hbj
   ·have:j=us.length:=by simp at hj;omega
    subst this
    simp only [List.getElem_append_right (Nat.le_refl _),Nat.sub_self,List.getElem_cons_zero] at hbj
    have:=hus i hli b hbi;have:=hu1 b hbj;omega
  ·have:i=us.length:=by simp at hi;omega
   subst this
   simp only [List.getElem_append_right (Nat.le_refl _),Nat.sub_self,List.getElem_cons_zero] at hbi
   by_cases hlj:j<us.length
   ·rw [List.getElem_append_left hlj] at hbj
    have:=hus j hlj b hbj;have:=hu1 b hbi;omega
   ·simp at hj;omega
theorem FilledI.done {w wr:World} {B n:Nat} {us:List Value} {l:List It} {M:List Value} (h:FilledI w B n us l wr M n) (hM:M.length=n*4) (hn:l.length=n) (hB:w.heap.size≤B):OwnI wr w.heap.size (.slice (some ⟨B,0,none⟩) n n) us l:=by
 obtain ⟨h1,h2,h3,h4,h5⟩:=h
 rw [List.drop_eq_nil_of_le (by omega),List.append_nil,List.take_of_length_le (by omega)] at h2
 refine ⟨by rw [hn];exact own_base h2 (fun g hg=>by have:=(h2.lt g hg).1;omega),by omega,fun k hk hk'=>own_base (h4 k hk hk') (fun g hg=>by have:=((h4 k hk hk').lt g hg).1;omega), ?_,h5⟩
 intro k hk b hb he
 have:B=b:=by simpa [Value.ownBlock] using he
 have:=((h4 k hk (by omega)).lt b hb).1
 omega
theorem toItemS_any (v:Value) (l:List It) (w:World) (hr:RowIt w v l) (hl:l.length≤1048576) (hll: ∀b∈l,b.2.2.1.length≤1048576):
  Calls Tryz.prog 32 #[v] w (NewI l w):=by
 obtain ⟨i0,hi,hz0,hz1,hz2⟩:=info_parts infoIt
 obtain ⟨ao,cap,rfl,h1,h2,h3⟩:=hr
 unfold maxLen at h2
 have H3:=Lib.hid h3;have HLL:=Lib.hid hll;clear h3 hll
 have hby:i0.bytes*l.length≤281474976710656:=by rw [hz2];omega
 go_enter Tryz.func32,Tryz.ntmps32
 go_wp2_with (at_make;refine wpList_make_full _ rfl _ _ 23 rfl w.heap.size 32 i0 (.agg #[.int .i64 0, .string ByteArray.empty, .slice none 0 0, .string ByteArray.empty]) 4 Tryz.underlying23 hi hz0 hz1 .i64 .i64 (l.length:Int) (l.length:Int) l.length rfl rfl rfl rfl hby (by unfold maxLen;omega) (Nat.le_refl _) ?_;intro w1 hown1 hgrow1)
 have hM:(madeCells (Value.agg #[.int .i64 0, .string ByteArray.empty, .slice none 0 0, .string ByteArray.empty]).cells (l.length*4)).toList.length=l.length*4:=by have:=hown1.1;omega
 generalize (madeCells (Value.agg #[.int .i64 0, .string ByteArray.empty, .slice none 0 0, .string ByteArray.empty]).cells (l.length*4)).toList=M at hown1 hM
 have B1:=Lib.hid ((Below.refl w.heap.size w).grown hgrow1 (Nat.le_refl _) (by simp))
 have HM:=Lib.hid hM
 have O1:=Lib.hid hown1
 clear hgrow1 hM hown1 hby
 go_wp2_with fail
 go_loopw [4] (fun i wr=> ∃(k:Nat) (us:List Value),k≤l.length∧i= .int .i64 (k:Int)∧FilledI w w.heap.size l.length us l wr M k) (fun i _=>l.length-(intOf i).toNat)
 case atStart=>exact ⟨0,[],Nat.zero_le _,rfl,rfl,by simpa [itF] using O1.out,B1.out,fun j h=>by simp at h,fun i j h=>by simp at h⟩
 case round=>
  obtain ⟨k,us,hk,rfl,hf⟩:=hrel
  have HF:=Lib.hid hf;clear hf
  by_cases hlt:k<l.length
  ·obtain ⟨b,o,rfl,hbl,cc⟩:=H3.out.resolve_left (by rintro rfl;simp at hlt)
   obtain ⟨u,hu⟩:=cc k hlt
   obtain ⟨hul,hro,hbw,-,-⟩:=HF.out
   obtain ⟨d0,d1,d2,d3,hru⟩:=hu.mono hbl hbw
   have HRU:=Lib.hid hru
   have hB:=(hro.lt w.heap.size rfl).2
   have HRO:=Lib.hid hro
   have HLK:=Lib.hid (HLL.out _ (List.getElem_mem hlt))
   have HNX:=Lib.hid (fun w1 u hb1 hu=>HF.out.next (w1:=w1) (u:=u) hlt hlt HM.out (Nat.le_refl _) hB hb1 hu)
   clear cc hu hru hro hbw hul
   go_wp2_with fail
   refine (toItem_any u l[k].1 l[k].2.1 l[k].2.2.2 l[k].2.2.1 _ HRU.out HLK.out).mono ?_
   rintro e w2 ⟨v2,rfl,ho2,hb2⟩
   obtain ⟨a2,c2,rfl⟩:=own_shape ho2
   have HO2:=Lib.hid (own_belowS HRO.out hb2)
   have ccw: ∀j,j<l.length*4→ ∃u,w2.cell? ⟨w.heap.size,j,none⟩=some u:=fun j hj=>by
    rw [HO2.out.cellAt j hj,List.getElem?_eq_getElem (by have:=HO2.out.1;omega)];exact ⟨_,rfl⟩
   obtain ⟨u3,g3⟩:=ccw (k*4) (by omega)
   obtain ⟨u4,g4⟩:=ccw (k*4+1) (by omega)
   obtain ⟨u5,g5⟩:=ccw (k*4+2) (by omega)
   obtain ⟨u6,g6⟩:=ccw (k*4+3) (by omega)
   have z3:=HO2.out.frozenAt (k*4)
   have z4:=HO2.out.frozenAt (k*4+1)
   have z5:=HO2.out.frozenAt (k*4+2)
   have z6:=HO2.out.frozenAt (k*4+3)
   have HN2:=Lib.hid (HNX.out w2 _ hb2 ho2)
   clear ho2 hb2 HNX ccw
   go_wp2
   go_roundw
   case rel=>exact ⟨k+1,us++[.slice a2 l[k].2.2.1.length c2],by omega,by go_num,HN2.out⟩
   case measure=>simp [intOf];omega
  ·obtain rfl:k=l.length:=by omega
   have HD:=Lib.hid (HF.out.done HM.out rfl (Nat.le_refl _))
   have HB:=Lib.hid HF.out.2.2.1
   go_wp2
   go_ret
   exact ⟨_,us,rfl,HD.out,HB.out⟩
theorem fnExactPrintDocument_core (a0:Option Addr) (len0 cap0:Nat) (l:List It) (w:World) (hrow:ArgIs w a0 len0 cap0 l) (htab:Tab w):
  Calls Tryz.prog 11 #[.slice a0 len0 cap0] w fun e w'=>e= .returned (.bool true)∧Below w.heap.size w w':=by
 obtain ⟨hlen,hr,hz⟩:=hrow
 have HR:=Lib.hid hr;have HZ:=Lib.hid hz;have HT:=Lib.hid htab
 clear hr hz htab
 go_enter Tryz.func11,Tryz.ntmps11
 go_wp2_with fail
 refine (szItemS_any _ l 1048576 _ HR.out HZ.out (by omega) (by omega)).mono ?_
 rintro e w1 ⟨⟨m,rfl,hm⟩,hb1⟩
 have HB1:=Lib.hid hb1;clear hb1
 by_cases hm0:0≤m
 ·obtain ⟨hl,hsh⟩:=hm hm0
  have HSB:=Lib.hid (short_ofI (n:=1048576) (by omega) hsh (by omega))
  have hl1:l.length≤1048576:=by omega
  have HLL:=Lib.hid (show∀b∈l,b.2.2.1.length≤1048576 from fun b hb=>(HSB.out b hb).2.2.1)
  clear hm hsh
  go_wp2_with fail
  refine (toItemS_any _ l _ (HR.out.mono HB1.out) hl1 HLL.out).mono ?_
  rintro e w2 ⟨v2,us2,rfl,ho2,hb2⟩
  have R2:=Lib.hid ho2.reads;have HB2:=Lib.hid (HB1.out.trans (hb2.mono HB1.out.size));clear ho2 hb2
  go_wp2_with fail
  refine (printDocument_spec v2 l _ R2.out HSB.out hl1).mono ?_
  rintro e w3 ⟨rfl,hb3⟩
  have HB3:=Lib.hid (HB2.out.trans (hb3.mono HB2.out.size));clear hb3
  go_wp2_with fail
  refine (toItemS_any _ l _ (HR.out.mono HB3.out) hl1 HLL.out).mono ?_
  rintro e w4 ⟨v4,us4,rfl,ho4,hb4⟩
  have R4:=Lib.hid ho4.reads;have HB4:=Lib.hid (HB3.out.trans (hb4.mono HB3.out.size));clear ho4 hb4
  go_wp2_with fail
  refine (printDocument_impl v4 l _ R4.out HSB.out hl1 (HT.out.keep HB4.out)).mono ?_
  rintro e w5 ⟨rfl,hb5⟩
  have R5:=Lib.hid (R4.out.mono hb5)
  have HB5:=Lib.hid (HB4.out.trans (hb5.mono HB4.out.size));clear hb5
  generalize printT l=T
  generalize printK l=ok
  cases ok
  all_goals
   go_wp2_with fail
   refine (toItemS_any _ l _ (HR.out.mono HB5.out) hl1 HLL.out).mono ?_
   rintro e w6 ⟨v6,us6,rfl,ho6,hb6⟩
   have R6:=Lib.hid ho6.reads;have HB6:=Lib.hid (HB5.out.trans (hb6.mono HB5.out.size))
   have R56:=Lib.hid (R5.out.mono hb6)
   clear ho6 hb6
   go_wp2_with fail
   refine (eqItemS_same _ _ l _ R56.out R6.out).mono ?_
   rintro e w7 ⟨rfl,hb7⟩
   have HB7:=Lib.hid (HB6.out.trans (hb7.mono HB6.out.size));clear hb7
   go_wp2
   go_ret
   exact ⟨rfl,HB7.out⟩
 ·clear hm
  go_wp2
  go_ret
  exact ⟨rfl,HB1.out⟩
def fwL:List It→Nat
 |[]=>0
 |i::r=>if i.1=3 then max i.2.1.size (fwL r) else 0
def caW (p:Nat) (i:It):Nat:=if i.1=3 then max p i.2.1.size else 0
def caL (p:Nat):List It→Nat
 |[]=>p
 |i::r=>caL (caW p i) r
def wdL (p:Nat):List It→List Nat
 |[]=>[]
 |i::r=>(if i.1=3 then max p (fwL (i::r)) else 0)::wdL (caW p i) r
theorem wdL_length: ∀(l:List It) (p:Nat),(wdL p l).length=l.length:=by
 intro l
 induction l with
 |nil=>intro p;rfl
 |cons i l ih=>intro p;rw [wdL,List.length_cons,List.length_cons,ih]
theorem fw_e {l:List It} {k:Nat} (hk:k<l.length) (h:l[k].1=3):fwL (l.drop k)=max l[k].2.1.size (fwL (l.drop (k+1))):=by
 rw [List.drop_eq_getElem_cons hk,fwL,if_pos h]
theorem fw_n {l:List It} {k:Nat} (hk:k<l.length) (h: ¬l[k].1=3):fwL (l.drop k)=0:=by
 rw [List.drop_eq_getElem_cons hk,fwL,if_neg h]
theorem caL_app: ∀(a b:List It) (p:Nat),caL p (a++b)=caL (caL p a) b:=by
 intro a
 induction a with
 |nil=>intro b p;rfl
 |cons i a ih=>intro b p;exact ih b _
theorem ca_e {l:List It} {k:Nat} (hk:k<l.length) (p:Nat):caL p (l.take (k+1))=caW (caL p (l.take k)) l[k]:=by
 rw [List.take_succ_eq_append_getElem hk,caL_app];rfl
theorem wdL_at: ∀(l:List It) (p k:Nat) (hk:k<l.length),(wdL p l)[k]? =some (if l[k].1=3 then max (caL p (l.take k)) (fwL (l.drop k)) else 0):=by
 intro l
 induction l with
 |nil=>intro p k hk;simp at hk
 |cons i l ih=>
  intro p k hk
  cases k with
  |zero=>rfl
  |succ k=>exact ih (caW p i) k (by simpa using hk)
theorem wd_big {l:List It} {k:Nat} (hk:k<l.length) (h1:l[k].1=3): ∃n,(wdL 0 l)[k]? =some n∧l[k].2.1.size≤n:=by
 refine ⟨_,wdL_at l 0 k hk, ?_⟩
 rw [if_pos h1,fw_e hk h1];omega
theorem fwL_le {B:Nat}: ∀(l:List It),(∀i∈l,i.2.1.size≤B)→fwL l≤B:=by
 intro l
 induction l with
 |nil=>intro _;exact Nat.zero_le _
 |cons i l ih=>
  intro h
  have h1:=h i (by simp);have h2:=ih fun j hj=>h j (by simp [hj])
  rw [fwL];split<;>omega
theorem caL_le {B:Nat}: ∀(l:List It) (p:Nat),p≤B→(∀i∈l,i.2.1.size≤B)→caL p l≤B:=by
 intro l
 induction l with
 |nil=>intro p hp _;exact hp
 |cons i l ih=>
  intro p hp h
  have h1:=h i (by simp)
  refine ih _ ?_ fun j hj=>h j (by simp [hj])
  unfold caW;split<;>omega
theorem wdL_le {B:Nat} {l:List It} (h: ∀i∈l,i.2.1.size≤B) {k n:Nat} (hn:(wdL 0 l)[k]? =some n):n≤B:=by
 have hk:k<l.length:=by
  have:=(List.getElem?_eq_some_iff.mp hn).1
  rwa [wdL_length] at this
 rw [wdL_at l 0 k hk] at hn
 injection hn with hn
 have h1:=caL_le (l.take k) 0 (Nat.zero_le B) fun i hi=>h i (List.mem_of_mem_take hi)
 have h2:=fwL_le (l.drop k) fun i hi=>h i (List.mem_of_mem_drop hi)
 split at hn<;>omega
def runN:List It→Nat
 |[]=>0
 |i::r=>if i.1=3 then runN r+1 else 0
theorem runN_le: ∀(l:List It),runN l≤l.length:=by
 intro l
 induction l with
 |nil=>exact Nat.le_refl _
 |cons i l ih=>rw [runN];split<;>simp<;>omega
theorem run_e: ∀(l:List It) (k:Nat) (hk:k<runN l),(l[k]'(Nat.lt_of_lt_of_le hk (runN_le l))).1=3:=by
 intro l
 induction l with
 |nil=>intro k hk;simp [runN] at hk
 |cons i l ih=>
  intro k hk
  rw [runN] at hk
  split at hk
  ·rename_i h
   cases k with
   |zero=>exact h
   |succ k=>exact ih k (by omega)
  ·omega
theorem run_n: ∀(l:List It) (hk:runN l<l.length),¬l[runN l].1=3:=by
 intro l
 induction l with
 |nil=>intro hk;simp at hk
 |cons i l ih=>
  intro hk
  by_cases h:i.1=3
  ·have e:runN (i::l)=runN l+1:=by rw [runN,if_pos h]
   simp only [e]
   rw [e] at hk
   exact ih (by simpa using hk)
  ·have e:runN (i::l)=0:=by rw [runN,if_neg h]
   simp only [e]
   exact h
theorem run_all (l:List It) (k:Nat) (h:k≤l.length) (h1: ∀j,(hj:j<k)→(l[j]'(by omega)).1=3) (h2:(hk:k<l.length)→ ¬l[k].1=3):runN l=k:=by
 have a:=run_e l;have b:=run_n l;have c:=runN_le l
 rcases Nat.lt_trichotomy (runN l) k with hlt|he|hgt
 ·exact absurd (h1 _ hlt) (b (by omega))
 ·exact he
 ·exact absurd (a k hgt) (h2 (by omega))
theorem fwL_take: ∀(l:List It),fwL (l.take (runN l))=fwL l:=by
 intro l
 induction l with
 |nil=>rfl
 |cons i l ih=>
  by_cases h:i.1=3
  ·rw [runN,if_pos h,List.take_succ_cons,fwL,fwL,if_pos h,if_pos h,ih]
  ·rw [runN,if_neg h,fwL,if_neg h];rfl
theorem wd_run: ∀(l:List It) (p:Nat),(∀j,j<runN l→(wdL p l)[j]? =some (max p (fwL l)))∧(runN l<l.length→(wdL p l)[runN l]? =some 0)∧(wdL p l).drop (runN l+1)=wdL 0 (l.drop (runN l+1)):=by
 intro l
 induction l with
 |nil=>intro p;refine ⟨fun j hj=>by simp [runN] at hj,fun h=>by simp at h,rfl⟩
 |cons i l ih=>
  intro p
  by_cases h:i.1=3
  ·obtain ⟨i1,i2,i3⟩:=ih (max p i.2.1.size)
   rw [runN,if_pos h,wdL,if_pos h,caW,if_pos h]
   refine ⟨fun j hj=> ?_,fun hl=> ?_, ?_⟩
   ·cases j with
    |zero=>rfl
    |succ j=>
     rw [List.getElem?_cons_succ,i1 j (by omega),fwL,if_pos h]
     congr 1;omega
   ·rw [List.getElem?_cons_succ];exact i2 (by simpa using hl)
   ·rw [List.drop_succ_cons,List.drop_succ_cons];exact i3
  ·rw [runN,if_neg h,wdL,if_neg h,caW,if_neg h]
   exact ⟨fun j hj=>by omega,fun _=>rfl,rfl⟩
def FrW (l:List It) (k:Nat):Prop:=(wdL 0 l).drop k=wdL 0 (l.drop k)
theorem FrW.run {l:List It} {k:Nat} (h:FrW l k):(∀j,j<runN (l.drop k)→(wdL 0 l)[k+j]? =some (fwL (l.drop k)))∧(k+runN (l.drop k)<l.length→(wdL 0 l)[k+runN (l.drop k)]? =some 0)∧FrW l (k+runN (l.drop k)+1):=by
 obtain ⟨h1,h2,h3⟩:=wd_run (l.drop k) 0
 rw [Nat.zero_max] at h1
 unfold FrW at h
 rw [←h] at h1 h2 h3
 simp only [List.getElem?_drop,List.drop_drop] at h1 h2 h3
 exact ⟨h1,fun hl=>h2 (by rw [List.length_drop];omega),h3⟩
def SoW (l:List It) (m:Nat) (L:List Nat):Prop:=L.length=l.length∧ ∀i,i<l.length→L[i]? =if i<m then (wdL 0 l)[i]? else some 0
theorem SoW.set {l:List It} {m x:Nat} {L:List Nat} (h:SoW l m L) (hm:m<l.length) (hx:(wdL 0 l)[m]? =some x):SoW l (m+1) (L.set m x):=by
 obtain ⟨h1,h2⟩:=h
 refine ⟨by rw [List.length_set];exact h1,fun i hi=> ?_⟩
 by_cases e:m=i
 ·subst e
  rw [List.getElem?_set_self (by omega),if_pos (by omega),hx]
 ·rw [List.getElem?_set_ne e,h2 i hi]
  by_cases hlt:i<m
  ·rw [if_pos hlt,if_pos (by omega)]
  ·rw [if_neg hlt,if_neg (by omega)]
theorem SoW.more {l:List It} {m:Nat} {L:List Nat} (h:SoW l m L) (h0:m<l.length→(wdL 0 l)[m]? =some 0):SoW l (m+1) L:=by
 refine ⟨h.1,fun i hi=> ?_⟩
 rw [h.2 i hi]
 by_cases e:m=i
 ·subst e;rw [if_neg (by omega),if_pos (by omega),h0 hi]
 ·by_cases hlt:i<m
  ·rw [if_pos hlt,if_pos (by omega)]
  ·rw [if_neg hlt,if_neg (by omega)]
theorem SoW.start (l:List It):SoW l 0 (List.replicate l.length 0):=
 ⟨by simp,fun i hi=>by simp [hi]⟩
theorem SoW.done {l:List It} {m:Nat} {L:List Nat} (h:SoW l m L) (hm:l.length≤m):L=wdL 0 l:=by
 apply List.ext_getElem?
 intro i
 by_cases hi:i<l.length
 ·rw [h.2 i hi,if_pos (by omega)]
 ·rw [List.getElem?_eq_none (by rw [h.1];omega),List.getElem?_eq_none (by rw [wdL_length];omega)]
noncomputable def wdD (l:List It):List Nat:=if docB l=true then wdL 0 l else []
end Go.Proofs.YtegdjjjpoahamaaGreatDoor
