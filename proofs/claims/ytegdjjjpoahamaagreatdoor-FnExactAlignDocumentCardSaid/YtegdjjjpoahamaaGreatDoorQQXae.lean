/-
  Part of the proof of UX.
-/
import Derived.Test.YtegdjjjpoahamaaGreatDoorQQXad
set_option linter.unusedVariables false
set_option maxHeartbeats 8000000
set_option maxRecDepth 100000
namespace Go.Proofs.YtegdjjjpoahamaaGreatDoor
open Go.RowKit
theorem RowIt.part {w:World} {b o cap k m:Nat} {l:List It} (h:RowIt w (.slice (some ⟨b,o,none⟩) l.length cap) l) (hm:k+m≤l.length):RowIt w (.slice (some ⟨b,o+k*4,none⟩) m (cap-k)) ((l.drop k).take m):=by
 obtain ⟨ao,cap',hv,h1,h2,h3⟩:=h
 injection hv with e1 e2 e3
 subst e3
 have hl:((l.drop k).take m).length=m:=by rw [List.length_take,List.length_drop];omega
 refine ⟨_,_,by rw [hl],by omega,by omega, ?_⟩
 rcases h3 with rfl|⟨b',o',ha,hlt,hj⟩
 ·left;simp
 ·rw [←e1] at ha
  injection ha with ha
  injection ha with a1 a2
  subst a1 a2
  refine .inr ⟨b,_,rfl,hlt,fun j hj'=> ?_⟩
  obtain ⟨u,hu⟩:=hj (k+j) (by omega)
  refine ⟨u, ?_⟩
  unfold ItAt at hu⊢
  rw [show ((l.drop k).take m)[j]=l[k+j]'(by omega) by simp,show o+k*4+j*4=o+(k+j)*4 by omega]
  exact hu
theorem entryRun_any (ao:Option Addr) (cap:Nat) (l:List It) (w:World) (hr:RowIt w (.slice ao l.length cap) l):
  Calls Tryz.prog 49 #[.slice ao l.length cap] w fun e w'=>e= .returned (.slice ao (runN l) cap)∧w=w':=by
 obtain ⟨ao',cap',hv,h1,h2,h3⟩:=hr
 injection hv with e1 e2 e3
 subst e1;subst e3
 unfold maxLen at h2
 have H3:=Lib.hid h3;clear h3
 go_enter Tryz.func49,Tryz.ntmps49
 go_wp2
 go_loopw [3] (fun i wr=> ∃k:Nat,k≤l.length∧i= .int .i64 (k:Int)∧wr=w∧ ∀j,j<k→(hl:j<l.length)→l[j].1=3) (fun i _=>l.length-(intOf i).toNat)
 case atStart=>exact ⟨0,Nat.zero_le _,rfl,rfl,fun j hj=>by omega⟩
 case round=>
  obtain ⟨k,hk,rfl,hwr,hall⟩:=hrel
  subst hwr
  have HA:=Lib.hid hall;clear hall
  by_cases hlt:k<l.length
  ·have hltI:(k:Int)<(l.length:Int):=by omega
   obtain ⟨b,o,rfl,hbl,cc⟩:=H3.out.resolve_left (by rintro rfl;simp at hlt)
   obtain ⟨u,hu⟩:=cc k hlt
   have d0:=hu.1
   clear cc hu
   by_cases h3:l[k].1=3
   ·have HN:=Lib.hid (show∀j,j<k+1→(hl:j<l.length)→l[j].1=3 from fun j hj hl=>by
     by_cases e:j=k
     ·subst e;exact h3
     ·exact HA.out j (by omega) hl)
    rw [h3] at d0
    clear h3
    go_wp2
    go_roundw
    case rel=>exact ⟨k+1,by omega,by go_num,by trivial,HN.out⟩
    case measure=>simp [intOf];omega
   ·have e3:(l[k].1==3)=false:=beq_eq_false_iff_ne.mpr h3
    have HR:=Lib.hid (run_all l k hk (fun j hj=>HA.out j hj (by omega)) (fun _=>h3))
    clear h3
    generalize l[k].1=kk at d0 e3
    go_wp2
    go_ret
    exact ⟨by rw [HR.out];rfl,rfl⟩
  ·obtain rfl:k=l.length:=by omega
   have hltI: ¬(l.length:Int)<(l.length:Int):=by omega
   have HR:=Lib.hid (run_all l l.length hk (fun j hj=>HA.out j hj hj) (fun h=>absurd h (by omega)))
   go_wp2
   go_ret
   exact ⟨by rw [HR.out];rfl,rfl⟩
theorem longestName_any (v:Value) (l:List It) (w:World) (hr:RowIt w v l) (hall: ∀i∈l,i.1=3):
  Calls Tryz.prog 50 #[v] w fun e w'=>e= .returned (.int .i64 (fwL l:Int))∧Below w.heap.size w w':=by
 obtain ⟨ao,cap,rfl,h1,h2,h3⟩:=hr
 unfold maxLen at h2
 have H3:=Lib.hid h3;clear h3
 have HF:=Lib.hid (show∀k,(hk:k<l.length)→fwL (l.drop k)=max l[k].2.1.size (fwL (l.drop (k+1))) from fun k hk=>fw_e hk (hall _ (List.getElem_mem hk)))
 clear hall
 go_enter Tryz.func50,Tryz.ntmps50
 go_wp2
 go_loopw [3,8] (fun g i wr=> ∃k m:Nat,k≤l.length∧i= .int .i64 (k:Int)∧g= .int .i64 (m:Int)∧max m (fwL (l.drop k))=fwL l∧Below w.heap.size w wr) (fun _ i _=>l.length-(intOf i).toNat)
 case atStart=>exact ⟨0,0,Nat.zero_le _,rfl,rfl,Nat.zero_max _,Below.refl _ _⟩
 case round=>
  obtain ⟨k,m,hk,rfl,rfl,hmx,hB⟩:=hrel
  have HB:=Lib.hid hB;have HM:=Lib.hid hmx
  clear hB hmx
  by_cases hlt:k<l.length
  ·have hltI:(k:Int)<(l.length:Int):=by omega
   obtain ⟨b,o,rfl,hbl,cc⟩:=H3.out.resolve_left (by rintro rfl;simp at hlt)
   obtain ⟨u,hu⟩:=cc k hlt
   obtain ⟨d0,d1,d2,d3,hru⟩:=hu.mono hbl HB.out
   have HX:=Lib.hid (HF.out k hlt)
   generalize l[k]=it at d0 d1 d2 d3 hru HX
   obtain ⟨ik,inm,ics,int⟩:=it
   simp only at d0 d1 d2 d3 hru HX
   obtain ⟨au,cu,rfl⟩: ∃au cu,u= .slice au ics.length cu:=by obtain ⟨au,cu,h,-⟩:=hru;exact ⟨au,cu,h⟩
   obtain ⟨x0,x1,x2,x3⟩:=(It4.new wr (.int .i64 ik) (.string inm) (.slice au ics.length cu) (.string int) 32).1
   have BX:=Lib.hid (HB.out.alloc HB.out.size (.cells #[.int .i64 ik, .string inm, .slice au ics.length cu, .string int] 32))
   clear cc hu hru
   go_wp2
   go_roundw
   case rel=>exact ⟨k+1,max m inm.size,by omega,by go_num,by go_num,by have h1:=HM.out;rw [HX.out] at h1;omega,BX.out⟩
   case measure=>simp [intOf];omega
  ·obtain rfl:k=l.length:=by omega
   have hltI: ¬(l.length:Int)<(l.length:Int):=by omega
   have HE:=Lib.hid (show m=fwL l by have:=HM.out;rw [List.drop_length] at this;simpa [fwL] using this)
   go_wp2
   go_ret
   exact ⟨by rw [HE.out];rfl,HB.out⟩
theorem alignWidths_impl (v:Value) (l:List It) (w:World) (hr:RowIt w v l) (hz:FitI l) (htab:Tab w):
  Calls Tryz.prog 15 #[v] w (NewInts (wdD l) w):=by
 obtain ⟨i0,hi,hz0,hz1,hz2⟩:=info_parts infoN
 have HC:=Lib.hid (documentValid_impl v l w hr hz htab)
 have HR:=Lib.hid hr
 obtain ⟨ao,cap,rfl,h1,h2,h3⟩:=hr
 unfold maxLen at h2
 have H3:=Lib.hid h3
 clear h3 hz
 cases hok:docB l with
 |true=>
  have h30:=((docB_iff l).mp hok).1
  have HD:=Lib.hid (show wdD l=wdL 0 l by unfold wdD;rw [if_pos hok])
  rw [HD.out]
  rw [hok] at HC
  have hby:i0.bytes*l.length≤281474976710656:=by rw [hz2];omega
  clear hok
  go_enter Tryz.func15,Tryz.ntmps15
  go_wp2_with fail
  refine HC.out.mono ?_
  rintro e w1 ⟨rfl,hb1⟩
  have HB1:=Lib.hid hb1;clear hb1
  go_wp2_with (at_make;refine wpList_make_full _ rfl _ _ 25 rfl w1.heap.size 3 i0 (.int .i64 0) 1 Tryz.underlying25 hi hz0 hz1 .i64 .i64 (l.length:Int) (l.length:Int) l.length rfl rfl rfl rfl hby (by unfold maxLen;omega) (Nat.le_refl _) ?_;intro w2 hown2 hgrow2)
  have hM:(madeCells (Value.int .i64 0).cells (l.length*1)).toList=ints (List.replicate l.length 0):=by
   apply List.ext_getElem?
   intro k
   by_cases hk:k<l.length<;>simp [madeCells,ints,Value.cells,Nat.mod_one,hk]
  rw [hM] at hown2
  have HO2:=Lib.hid hown2
  have HB2:=Lib.hid (HB1.out.trans (((Below.refl w1.heap.size w1).grown hgrow2 (Nat.le_refl _) (by simp)).mono HB1.out.size))
  have hs1:=HB1.out.size
  clear hown2 hgrow2 hM
  go_loopw [4] (fun i wr=> ∃(k:Nat) (L:List Nat),k≤l.length+1∧i= .int .i64 (k:Int)∧FrW l k∧SoW l k L∧wr.ownsRow w1.heap.size 3 1 (.slice (some ⟨w1.heap.size,0,none⟩) l.length l.length) l.length (ints L)∧Below w.heap.size w wr) (fun i _=>l.length+1-(intOf i).toNat)
  case atStart=>exact ⟨0,_,Nat.zero_le _,rfl,rfl,SoW.start l,HO2.out,HB2.out⟩
  case round=>
   obtain ⟨k,L,hk,rfl,hfr,hso,hown,hB⟩:=hrel
   have HB:=Lib.hid hB;have HSO:=Lib.hid hso;have HOW:=Lib.hid hown;have HFR:=Lib.hid hfr.run
   clear hB hso hown hfr
   by_cases hlt:k<l.length
   ·have hltI:(k:Int)<(l.length:Int):=by omega
    obtain ⟨b,o,rfl,hbl,cc⟩:=H3.out.resolve_left (by rintro rfl;simp at hlt)
    have hrn:=runN_le (l.drop k)
    rw [List.length_drop] at hrn
    have HP:=Lib.hid (show∀m,k+m≤l.length→RowIt wr (.slice (some ⟨b,o+k*4,none⟩) m (cap-k)) ((l.drop k).take m) from fun m hm=>(HR.out.mono HB.out).part hm)
    have HP1:=Lib.hid (show RowIt wr (.slice (some ⟨b,o+k*4,none⟩) (l.drop k).length (cap-k)) (l.drop k) by
     have:=HP.out (l.length-k) (by omega)
     rw [List.take_of_length_le (by rw [List.length_drop];omega)] at this
     rw [List.length_drop];exact this)
    have HE:=Lib.hid (show Calls Tryz.prog 49 #[.slice (some ⟨b,o+k*4,none⟩) (l.length-k) (cap-k)] wr fun e w'=>e= .returned (.slice (some ⟨b,o+k*4,none⟩) (runN (l.drop k)) (cap-k))∧wr=w' by
     have:=entryRun_any _ _ _ wr HP1.out
     rw [List.length_drop] at this;exact this)
    have HLN:=Lib.hid (show Calls Tryz.prog 50 #[.slice (some ⟨b,o+k*4,none⟩) (runN (l.drop k)) (cap-k)] wr fun e w'=>e= .returned (.int .i64 (fwL (l.drop k):Int))∧Below wr.heap.size wr w' by
     have:=longestName_any _ _ wr (HP.out (runN (l.drop k)) (by omega)) (fun i hi=>by
      obtain ⟨j,hj,rfl⟩:=List.getElem_of_mem hi
      rw [List.getElem_take]
      exact run_e (l.drop k) j (by rw [List.length_take] at hj;omega))
     rw [fwL_take] at this;exact this)
    obtain ⟨M,hM⟩: ∃M,M=runN (l.drop k):=⟨_,rfl⟩
    obtain ⟨X,hX⟩: ∃X,X=fwL (l.drop k):=⟨_,rfl⟩
    rw [←hM] at HE HLN HFR hrn
    rw [←hX] at HLN HFR
    clear hM hX HP HP1 cc
    go_wp2_with fail
    refine HE.out.mono ?_
    rintro e w3 ⟨rfl,rfl⟩
    go_wp2_with fail
    refine HLN.out.mono ?_
    rintro e w4 ⟨rfl,hb4⟩
    have HO4:=Lib.hid (own_belowS HOW.out hb4)
    have HB4:=Lib.hid (HB.out.trans (hb4.mono HB.out.size))
    clear hb4
    go_wp2_with fail
    go_loopw [26] (fun i wr=> ∃(j:Nat) (L:List Nat),j≤M∧i= .int .i64 (j:Int)∧SoW l (k+j) L∧wr.ownsRow w1.heap.size 3 1 (.slice (some ⟨w1.heap.size,0,none⟩) l.length l.length) l.length (ints L)∧Below w.heap.size w wr) (fun i _=>M-(intOf i).toNat)
    case atStart=>exact ⟨0,L,Nat.zero_le _,rfl,HSO.out,HO4.out,HB4.out⟩
    case round=>
     obtain ⟨j,L2,hj,rfl,hso2,hown2,hB2⟩:=hrel
     have HS2:=Lib.hid hso2;have HBR:=Lib.hid hB2;have HOR:=Lib.hid hown2
     clear hso2 hB2 hown2
     by_cases hjl:j<M
     ·have hjI:(j:Int)<(M:Int):=by omega
      have hS:=HS2.out.set (by omega) (HFR.out.1 j hjl)
      have hst:=HOR.out.stored (k+j) (.int .i64 (X:Int))
      rw [ints_set] at hst
      have HSS:=Lib.hid hS;have HST:=Lib.hid hst.1
      have HBS:=Lib.hid (HBR.out.setCell (p:=⟨w1.heap.size,k+j,none⟩) (by simpa using hs1) (.int .i64 (X:Int)))
      obtain ⟨y0,g0⟩: ∃u,wr.cell? ⟨w1.heap.size,k+j,none⟩=some u:=by
       rw [HOR.out.cellAt (k+j) (by omega),List.getElem?_eq_getElem (by have:=HOR.out.1;omega)];exact ⟨_,rfl⟩
      have z0:=HOR.out.frozenAt (k+j)
      have hw0:IntKind.i64.wrap ((k:Int)+(j:Int))=((k+j:Nat):Int):=by rw [IntWalk.i64_in _ (by omega)];omega
      have hb0:(0:Int)≤((k+j:Nat):Int):=by omega
      have hb1:((k+j:Nat):Int)<(l.length:Int):=by omega
      clear hS hst
      go_wp2
      go_roundw
      case rel=>exact ⟨j+1,_,by omega,by go_num,HSS.out,HST.out,HBS.out⟩
      case measure=>simp [intOf];omega
     ·obtain rfl:j=M:=by omega
      have hjI: ¬(j:Int)<(j:Int):=by omega
      have HSN:=Lib.hid (HS2.out.more HFR.out.2.1)
      have hwa:IntKind.i64.wrap ((j:Int)+1)=(j:Int)+1:=by rw [IntWalk.i64_in _ (by omega)]
      have hwb:IntKind.i64.wrap ((k:Int)+((j:Int)+1))=((k+j+1:Nat):Int):=by rw [IntWalk.i64_in _ (by omega)];omega
      go_wp2
      go_roundw
      case rel=>exact ⟨k+j+1,L2,by omega,by go_num,HFR.out.2.2,HSN.out,HOR.out,HBR.out⟩
      case measure=>simp [intOf];omega
   ·have hltI: ¬(k:Int)<(l.length:Int):=by omega
    have HL:=Lib.hid (HSO.out.done (by omega))
    have HFO:=Lib.hid (own_base HOW.out (fun g hg=>by have:=(HOW.out.lt g hg).1;omega):wr.ownsRow w.heap.size 3 1 (.slice (some ⟨w1.heap.size,0,none⟩) l.length l.length) l.length (ints L))
    go_wp2
    go_ret
    exact ⟨_,rfl,by rw [wdL_length,←HL.out];exact HFO.out,HB.out⟩
 |false=>
  have HD:=Lib.hid (show wdD l=[] by unfold wdD;rw [if_neg (by rw [hok];simp)])
  rw [HD.out]
  rw [hok] at HC
  go_enter Tryz.func15,Tryz.ntmps15
  go_wp2_with fail
  refine HC.out.mono ?_
  rintro e w1 ⟨rfl,hb1⟩
  have HB1:=Lib.hid hb1;clear hb1
  go_wp2
  go_ret
  exact ⟨_,rfl,World.ownsRow_nil _ _ _ _,HB1.out⟩
noncomputable def padI (m:Nat) (i:It):It:=(i.1,if i.1=3 then i.2.1++baL (spL (m-i.2.1.size)) else i.2.1,i.2.2)
noncomputable def padL (l:List It):List It:=List.zipWith padI (wdL 0 l) l
theorem padL_length (l:List It):(padL l).length=l.length:=by unfold padL;rw [List.length_zipWith,wdL_length,Nat.min_self]
theorem padL_at {l:List It} {k:Nat} (hk:k<l.length): ∃m,(wdL 0 l)[k]? =some m∧(padL l)[k]'(by rw [padL_length];exact hk)=padI m l[k]:=by
 have h:k<(wdL 0 l).length:=by rw [wdL_length];exact hk
 exact ⟨(wdL 0 l)[k],List.getElem?_eq_getElem h,by unfold padL;rw [List.getElem_zipWith]⟩
theorem lineI_pad (m:Nat) (i:It) (D:Nat):lineI (padI m i) D 0=lineI i D m:=by
 obtain ⟨k,n,l,t⟩:=i
 unfold padI lineI coreI
 by_cases h:k=3
 ·subst h;simp [spL,baL]
 ·simp [h]
theorem dep_kinds: ∀(a b:List It),a.map (·.1)=b.map (·.1)→ ∀d,depL d a=depL d b∧nestO d a=nestO d b:=by
 intro a
 induction a with
 |nil=>intro b h d;cases b with
  |nil=>exact ⟨rfl,rfl⟩
  |cons x b=>cases h
 |cons i a ih=>
  intro b h d
  cases b with
  |nil=>cases h
  |cons x b=>
   simp only [List.map_cons,List.cons.injEq] at h
   obtain ⟨h1,h2⟩:=h
   have hs:depS d i=depS d x:=by unfold depS;rw [h1]
   have hd:depN d i=depN d x:=by unfold depN;rw [hs,h1]
   obtain ⟨e1,e2⟩:=ih b h2 (depN d x)
   constructor
   ·show depS d i::depL (depN d i) a=depS d x::depL (depN d x) b
    rw [hs,hd,e1]
   ·show (if 0≤depN d i∧depN d i≤4 then nestO (depN d i) a else none)=if 0≤depN d x∧depN d x≤4 then nestO (depN d x) b else none
    rw [hd,e2]
theorem pad_kinds (l:List It):(padL l).map (·.1)=l.map (·.1):=by
 apply List.ext_getElem (by rw [List.length_map,List.length_map,padL_length])
 intro k h1 h2
 rw [List.length_map] at h2
 obtain ⟨m,-,e⟩:=padL_at h2
 rw [List.getElem_map,List.getElem_map,e];rfl
theorem pad_dep (l:List It):depL 0 (padL l)=depL 0 l∧nestO 0 (padL l)=nestO 0 l:=dep_kinds _ _ (pad_kinds l) 0
theorem padI_size (m:Nat) (i:It):(padI m i).2.1.size≤max m i.2.1.size:=by
 unfold padI
 split
 ·rw [ByteArray.size_append,bl_len,spL,List.length_replicate];omega
 ·exact Nat.le_max_right _ _
theorem pad_short {l:List It} (h:ShortI l):ShortI (padL l):=by
 intro i hi
 obtain ⟨k,hk,rfl⟩:=List.getElem_of_mem hi
 have hk2:k<l.length:=by rw [padL_length] at hk;exact hk
 obtain ⟨m,hm,e⟩:=padL_at hk2
 rw [e]
 obtain ⟨z1,z2,z3,z4⟩:=h _ (List.getElem_mem hk2)
 have hm2:=wdL_le (B:=1048576) (fun i hi=>(h i hi).1) hm
 have:=padI_size m l[k]
 exact ⟨by omega,z2,z3,z4⟩
theorem align_line {l:List It} (hn:nestO 0 l=some 0) (k:Nat) (hk:k<l.length): ∃D m:Nat,(depL 0 l)[k]? =some (D:Int)∧D≤4∧(wdL 0 l)[k]? =some m∧(printL (padL l)).take (k+1)=(printL (padL l)).take k++[baL (lineI l[k] D m)]:=by
 obtain ⟨e1,e2⟩:=pad_dep l
 obtain ⟨D,h1,h2,h3⟩:=nest_line (e2.trans hn) k (by rw [padL_length];exact hk)
 obtain ⟨m,hm,e⟩:=padL_at hk
 rw [e1] at h1
 rw [e,lineI_pad] at h3
 exact ⟨D,m,h1,h2,hm,h3⟩
theorem align_at {l:List It} (hn:nestO 0 l=some 0) (k:Nat) (hk:k<l.length): ∃D m:Nat,(depL 0 l)[k]? =some (D:Int)∧D≤4∧(wdL 0 l)[k]? =some m∧(printL (padL l))[k]? =some (baL (lineI l[k] D m)):=by
 obtain ⟨D,m,h1,h2,h3,h4⟩:=align_line hn k hk
 have hl:(printL (padL l)).length=l.length:=by rw [printL_length,padL_length]
 refine ⟨D,m,h1,h2,h3, ?_⟩
 rw [List.take_succ_eq_append_getElem (by omega)] at h4
 have:=List.append_cancel_left h4
 rw [List.getElem?_eq_getElem (by omega)]
 simpa using this
noncomputable def alignK (l:List It):Bool:=docB l&&joinOk (printL (padL l))
noncomputable def alignT (l:List It):ByteArray:=if alignK l=true then joinB (printL (padL l)) else ⟨#[]⟩
theorem align_join {l:List It} (h:docB l=true):alignK l=joinOk (printL (padL l))∧alignT l=joinB (printL (padL l)):=by
 have hk:alignK l=joinOk (printL (padL l)):=by unfold alignK;rw [h];rfl
 refine ⟨hk, ?_⟩
 unfold alignT
 rw [hk]
 by_cases hj:joinOk (printL (padL l))=true
 ·rw [if_pos hj]
 ·rw [if_neg hj,joinB,if_neg hj];rfl
theorem align_no {l:List It} (h:docB l=false):alignK l=false∧alignT l=⟨#[]⟩:=by
 have hk:alignK l=false:=by unfold alignK;rw [h];rfl
 exact ⟨hk,by unfold alignT;rw [hk];rfl⟩
theorem simp_size {s:ByteArray} (h:simpB s=true):s.size≤12:=by
 unfold simpB at h
 rw [simp_part,Bool.and_eq_true,partB_iff] at h
 simp only [Bool.and_eq_true,decide_eq_true_eq] at h
 have:=h.1.1.1.2
 rwa [Array.length_toList] at this
theorem name_short {i:It} (h:itemB i=true) (h3:i.1=3):i.2.1.size≤12:=by
 obtain ⟨k,n,e,t⟩:=i
 simp only at h3
 subst h3
 simp only [itemB,show¬((3:Int)=1∨(3:Int)=5) by decide,show¬(3:Int)=2 by decide,if_false,if_true,Bool.and_eq_true] at h
 exact simp_size h.1
theorem fwL_le3 {B:Nat}: ∀(l:List It),(∀i∈l,i.1=3→i.2.1.size≤B)→fwL l≤B:=by
 intro l
 induction l with
 |nil=>intro _;exact Nat.zero_le _
 |cons i l ih=>
  intro h
  have h1:=h i (by simp);have h2:=ih fun j hj=>h j (by simp [hj])
  rw [fwL];split
  ·rename_i e;have:=h1 e;omega
  ·omega
theorem caL_le3 {B:Nat}: ∀(l:List It) (p:Nat),p≤B→(∀i∈l,i.1=3→i.2.1.size≤B)→caL p l≤B:=by
 intro l
 induction l with
 |nil=>intro p hp _;exact hp
 |cons i l ih=>
  intro p hp h
  have h1:=h i (by simp)
  refine ih _ ?_ fun j hj=>h j (by simp [hj])
  unfold caW;split
  ·rename_i e;have:=h1 e;omega
  ·omega
theorem wd_short {l:List It} (h:docB l=true) {k n:Nat} (hn:(wdL 0 l)[k]? =some n):n≤12:=by
 have hv:=((docB_iff l).mp h).2.1
 rw [List.all_eq_true] at hv
 have hk:k<l.length:=by
  have:=(List.getElem?_eq_some_iff.mp hn).1
  rwa [wdL_length] at this
 rw [wdL_at l 0 k hk] at hn
 injection hn with hn
 have h1:=caL_le3 (B:=12) (l.take k) 0 (by omega) fun i hi h3=>name_short (hv i (List.mem_of_mem_take hi)) h3
 have h2:=fwL_le3 (B:=12) (l.drop k) fun i hi h3=>name_short (hv i (List.mem_of_mem_drop hi)) h3
 split at hn<;>omega
theorem rep_one (D:Nat) (hD:D≤12) (w:World):
 Calls Tryz.prog 89 #[.string ⟨#[32]⟩, .int .i64 (D:Int)] w fun e w'=>e= .returned (.string (baL (spL D)))∧w=w':=by
 have HM:=Lib.hid (show∀(k:Nat) (w:World),k≤12→Calls Tryz.prog 136 #[.int .u64 1, .int .u64 (k:Int)] w fun e w'=>e= .returned (.tuple #[.int .u64 0, .int .u64 (k:Int)])∧w'=w from fun k w hk=>by
  have:=Tryz.bits_Mul 1 k (by omega) (by omega) w
  rw [Nat.one_mul,Nat.div_eq_of_lt (by omega),Nat.mod_eq_of_lt (by omega)] at this
  exact this)
 have HP:=Lib.hid (show∀(s:ByteArray) (w:World),Lib.hasPrefix s.data.toList [32]=true→Calls Tryz.prog 137 #[.string s, .string ⟨#[32]⟩] w fun e w'=>e= .returned (.bool true)∧w'=w from fun s w hs=>by
  have:=Tryz.strings_HasPrefix s ⟨#[32]⟩ w
  rw [show Lib.hasPrefix s.data.toList (⟨#[32]⟩:ByteArray).data.toList=true from hs] at this
  exact this)
 have h:D=0∨D=1∨D=2∨D=3∨D=4∨D=5∨D=6∨D=7∨D=8∨D=9∨D=10∨D=11∨D=12:=by omega
 rcases h with rfl|rfl|rfl|rfl|rfl|rfl|rfl|rfl|rfl|rfl|rfl|rfl|rfl
 all_goals
  go_enter Tryz.func89,Tryz.ntmps89
  go_wp2_with fail
  (try
    refine (HM.out _ _ hD).mono ?_
    rintro e w1 ⟨rfl,hw⟩
    subst hw
    go_wp2_with fail
    refine (HP.out _ _ (by decide)).mono ?_
    rintro e w1 ⟨rfl,hw⟩
    subst hw
    go_wp2)
  go_ret
  exact ⟨by first|rfl|decide,rfl⟩
theorem RowIt.us {w:World} {b o cap:Nat} {l:List It} (h:RowIt w (.slice (some ⟨b,o,none⟩) l.length cap) l) (hne:l≠[]):b<w.heap.size∧ ∃us:List Value,us.length=l.length∧ ∀(k:Nat) (h:k<l.length) (h':k<us.length),ItAt w b o k l[k] us[k]:=by
 obtain ⟨ao,cap',hv,h1,h2,h3⟩:=h
 injection hv with e1 e2 e3
 obtain ⟨b',o',ha,hlt,hj⟩:=h3.resolve_left hne
 rw [←e1] at ha
 injection ha with ha
 injection ha with a1 a2
 subst a1 a2
 refine ⟨hlt,List.ofFn fun k:Fin l.length=>(hj k k.2).choose,by simp,fun k hk hk'=> ?_⟩
 rw [List.getElem_ofFn]
 exact (hj k hk).choose_spec
theorem ItAt.one {w:World} {b o k:Nat} {i:It} {u:Value} (h:ItAt w b o k i u):u.oneCell'=true:=by
 obtain ⟨-,-,-,-,a,c,e,-⟩:=h
 rw [e];rfl
theorem newsI {w:World} {b o:Nat} {l:List It} {us:List Value} (hl:us.length=l.length) (h: ∀(k:Nat) (h:k<l.length) (h':k<us.length),ItAt w b o k l[k] us[k]) (j:Nat) (u:Value) (hj:(itF l us)[j]? =some u):w.cell? ((⟨b,o,none⟩:Addr).add j)=some u∧u.oneCell'=true:=by
 have hlt:j<l.length*4:=by
  by_cases hk:j<l.length*4
  ·exact hk
  ·rw [List.getElem?_eq_none (by rw [itF_length _ _ hl.symm];omega)] at hj;cases hj
 obtain ⟨k,r,hr,rfl⟩: ∃k r,r<4∧j=k*4+r:=⟨j/4,j % 4,Nat.mod_lt _ (by decide),by omega⟩
 have h0:=h k (by omega) (by omega)
 obtain ⟨c0,c1,c2,c3,-⟩:=id h0
 obtain ⟨f0,f1,f2,f3⟩:=itF_at l us hl.symm k (by omega) (by omega)
 rw [addr_add]
 have h3:r=0∨r=1∨r=2∨r=3:=by omega
 rcases h3 with rfl|rfl|rfl|rfl
 ·rw [Nat.add_zero] at hj⊢;rw [f0] at hj;injection hj with hj;subst hj;exact ⟨c0,rfl⟩
 ·rw [f1] at hj;injection hj with hj;subst hj;rw [←Nat.add_assoc];exact ⟨c1,rfl⟩
 ·rw [f2] at hj;injection hj with hj;subst hj;rw [←Nat.add_assoc];exact ⟨c2,h0.one⟩
 ·rw [f3] at hj;injection hj with hj;subst hj;rw [←Nat.add_assoc];exact ⟨c3,rfl⟩
theorem append_rowI {P:Program} {w:World} {ops:Array Oper} {rest:List Oper} {o:Oper} {a:Act} {Q:Exit→Act→World→Prop} (hgd:o.guard=none) (s x:Operand) (t:TypeId)
  (ho:o.op= .call {callee:= .builtin .append,args:= #[s,x],argTypes:= #[t,t]})
  (base:Nat) (e:TypeId) (i:TypeInfo) (z:Value) (bytes:Nat) (ht:P.underlying t=some (.slice e)) (hi:P.info? e=some i) (hz:i.zero=some z)
  (hsize:i.size=4) (hby:i.bytes=bytes) (hzs:z.cells.size=4)
  (v:Value) (n:Nat) (xs:List Value) (hs:a.eval s=v) (hown:w.ownsRow base e 4 v n xs)
  (W0:World) (hb0:Below W0.heap.size W0 w) (u:Value) (l:List It) (hx:a.eval x=u) (hsrc:RowIt W0 u l)
  (h63:n+l.length≤maxLen) (hbytes:(n+l.length)*bytes≤140737488355328) (hbase:base≤w.heap.size)
  (h: ∀us v' w',us.length=l.length→(∀(k:Nat) (h:k<l.length) (h':k<us.length),RowC W0 us[k] l[k].2.2.1)→w'.ownsRow base e 4 v' (n+l.length) (xs++itF l us)→w.grownBy w' v.ownBlock→wpList P ops Q rest (a.put o.dst v') w'):wpList P ops Q (o::rest) a w:=by
 by_cases hne:l=[]
 ·subst hne
  obtain ⟨ao,cap,rfl,h1,h2,h3⟩:=hsrc
  cases ao with
  |none=>
   refine wpList_plain hgd fun K hK=> ?_
   have hrun:=run_append_nothing (P:=P) (w:=w) base t o.type e i 4 ht hi v n xs hown cap
   unfold Oper.wp
   simp only [List.length_nil] at hx
   simp [execOp,ho,resolve,invoke,builtin,hs,hx,hrun,Result.andThen]
   exact hK _ _ (h [] v w rfl (fun k hk=>by simp at hk) (by simpa [itF] using hown) (World.grownBy.refl _ _))
  |some ad=>
   exact wpList_append_own _ hgd s x t ho base e i z 4 bytes ht hi hz hsize hby hzs (by decide) v n xs hs hown ad 0 cap [] hx rfl (fun j y hj=>by simp at hj) (fun y hy=>by simp at hy) h63 hbytes hbase (fun v' w' a1 a2 _=>h [] v' w' rfl (fun k hk=>by simp at hk) (by simpa [itF] using a1) a2)
 ·obtain ⟨ao,cap,hv,h1,h2,h3⟩:=id hsrc
  obtain ⟨b,o',rfl,-⟩:=h3.resolve_left hne
  subst hv
  obtain ⟨hb,us,hul,hus⟩:=hsrc.us hne
  have hN:=newsI (w:=w) hul (fun k h h'=>(hus k h h').mono hb hb0)
  exact wpList_append_own _ hgd s x t ho base e i z 4 bytes ht hi hz hsize hby hzs (by decide) v n xs hs hown ⟨b,o',none⟩ l.length cap (itF l us) hx (itF_length l us hul.symm) (fun j y hj=>(hN j y hj).1) (fun y hy=>by
   obtain ⟨j,hj,rfl⟩:=List.getElem_of_mem hy
   exact (hN j _ (List.getElem?_eq_getElem hj)).2) h63 hbytes hbase (fun v' w' a1 a2 _=>h us v' w' hul (fun k hk hk'=>(hus k hk hk').2.2.2.2) a1 a2)
def SoP (l:List It) (k:Nat) (P:List It):Prop:=P.length=l.length∧ ∀i,i<l.length→P[i]? =if i<k then (padL l)[i]? else l[i]?
theorem SoP.start (l:List It):SoP l 0 l:=⟨rfl,fun i _=>by rw [if_neg (by omega)]⟩
theorem SoP.done {l P:List It} (h:SoP l l.length P):P=padL l:=by
 apply List.ext_getElem?
 intro i
 by_cases hi:i<l.length
 ·rw [h.2 i hi,if_pos hi]
 ·rw [List.getElem?_eq_none (by rw [h.1];omega),List.getElem?_eq_none (by rw [padL_length];omega)]
theorem SoP.here {l P:List It} {k:Nat} (h:SoP l k P) (hk:k<l.length):P[k]'(by rw [h.1];exact hk)=l[k]:=by
 have:=h.2 k hk
 rw [if_neg (by omega),List.getElem?_eq_getElem (by rw [h.1];exact hk),List.getElem?_eq_getElem hk] at this
 exact Option.some.inj this
theorem SoP.next {l P:List It} {k m:Nat} (h:SoP l k P) (hk:k<l.length) (hm:(wdL 0 l)[k]? =some m) (x:It) (hx:x=padI m l[k]):SoP l (k+1) (P.set k x):=by
 refine ⟨by rw [List.length_set];exact h.1,fun i hi=> ?_⟩
 by_cases e:k=i
 ·subst e
  obtain ⟨m',hm',e'⟩:=padL_at hk
  rw [hm] at hm'
  injection hm' with hm'
  subst hm'
  rw [List.getElem?_set_self (by rw [h.1];exact hk),if_pos (by omega),List.getElem?_eq_getElem (by rw [padL_length];exact hk),e',hx]
 ·rw [List.getElem?_set_ne e,h.2 i hi]
  by_cases hlt:i<k
  ·rw [if_pos hlt,if_pos (by omega)]
  ·rw [if_neg hlt,if_neg (by omega)]
theorem SoP.same {l P:List It} {k m:Nat} (h:SoP l k P) (hk:k<l.length) (hm:(wdL 0 l)[k]? =some m) (h3:l[k].1≠3):SoP l (k+1) P:=by
 have h1:=h.next hk hm (P[k]'(by rw [h.1];exact hk)) (by rw [h.here hk];unfold padI;rw [if_neg h3])
 rwa [List.set_getElem_self] at h1
def NewP (l:List It) (W0 w:World) (e:Ending) (w':World):Prop:=
 ∃v us,e= .returned v∧us.length=l.length∧(∀(k:Nat) (h:k<l.length) (h':k<us.length),RowC W0 us[k] l[k].2.2.1)∧w'.ownsRow w.heap.size 32 4 v l.length (itF (padL l) us)∧Below w.heap.size w w'
theorem padded_any (v vd:Value) (l:List It) (W0 w:World) (hb0:Below W0.heap.size W0 w) (hr:RowIt W0 v l) (hd:RowI w vd (wdL 0 l)) (h30:l.length≤30) (hz: ∀i∈l,i.2.1.size≤1048576) (hw12: ∀(k n:Nat),(wdL 0 l)[k]? =some n→n≤12):
  Calls Tryz.prog 55 #[v,vd] w (NewP l W0 w):=by
 obtain ⟨i0,hi,hz0,hz1,hz2⟩:=info_parts infoIt
 have HR:=Lib.hid hr;have HD:=Lib.hid hd;have HB0:=Lib.hid hb0
 have H12:=Lib.hid hw12;have HZ:=Lib.hid hz
 obtain ⟨ao,cap,rfl,h1,h2,-⟩:=hr
 obtain ⟨da,dc,hvd,g1,g2,-⟩:=hd
 unfold maxLen at h2 g2
 rw [wdL_length] at g1 hvd
 subst hvd
 clear hw12 hz hb0
 go_enter Tryz.func55,Tryz.ntmps55
 go_wp2_with (at_builtin;refine append_rowI rfl _ _ 23 rfl w.heap.size 32 i0 (.agg #[.int .i64 0, .string ByteArray.empty, .slice none 0 0, .string ByteArray.empty]) 64 Tryz.underlying23 hi hz0 hz1 hz2 (by decide) _ 0 [] rfl (World.ownsRow_nil _ _ _ _) W0 HB0.out _ l rfl HR.out (by unfold maxLen;omega) (by omega) (Nat.le_refl _) ?_;intro us v1 w1 hul hus hown1 hgrow1;rw [List.nil_append,Nat.zero_add] at hown1;obtain ⟨ap,cp,rfl⟩:=own_shape hown1)
 have HO1:=Lib.hid hown1;have HUL:=Lib.hid hul;have HUS:=Lib.hid hus
 have HB1:=Lib.hid ((Below.refl w.heap.size w).grown hgrow1 (Nat.le_refl _) (fun x hx=>by cases hx))
 clear hown1 hgrow1 hul hus
 go_loopw [12] (fun i wr=> ∃(k:Nat) (P:List It),k≤l.length∧i= .int .i64 (k:Int)∧SoP l k P∧wr.ownsRow w.heap.size 32 4 (.slice ap l.length cp) l.length (itF P us)∧Below w.heap.size w wr) (fun i _=>l.length-(intOf i).toNat)
 case atStart=>exact ⟨0,l,Nat.zero_le _,rfl,SoP.start l,HO1.out,HB1.out⟩
 case round=>
  obtain ⟨k,P,hk,rfl,hso,hown,hB⟩:=hrel
  have HSO:=Lib.hid hso;have HOW:=Lib.hid hown;have HB:=Lib.hid hB
  clear hso hown hB
  by_cases hlt:k<l.length
  ·have hltI:(k:Int)<(l.length:Int):=by omega
   have hk0:(0:Int)≤(k:Int):=by omega
   have hPl:=HSO.out.1
   have hul:=HUL.out
   have hkp:k<P.length:=by omega
   obtain ⟨f0,f1,f2,f3⟩:=itF_at P us (by omega) k hkp (by omega)
   have hne:ap≠none:=by
    rintro rfl
    rcases HOW.out.2 with ⟨-,h⟩|⟨g,cap,cur,h,-⟩
    ·omega
    ·simp at h
   obtain ⟨g,rfl⟩: ∃g,ap=some ⟨g,0,none⟩:=by
    rcases HOW.out.2 with ⟨-,h⟩|⟨g,cap,cur,h,-⟩
    ·omega
    ·injection h with h;exact ⟨g,h⟩
   have hcell: ∀j x,j<4→(itF P us)[k*4+j]? =some x→wr.cell? ⟨g,k*4+j,none⟩=some x:=fun j x hj hx=>by
    rw [HOW.out.cellAt _ (by omega)];exact hx
   have d0:=hcell 0 _ (by omega) f0
   have d1:=hcell 1 _ (by omega) f1
   have d2:=hcell 2 _ (by omega) f2
   have d3:=hcell 3 _ (by omega) f3
   rw [Nat.add_zero] at d0
   rw [HSO.out.here hlt] at d0 d1 d3
   clear hcell f0 f1 f2 f3
   have z1:=HOW.out.frozenAt (k*4+1)
   obtain ⟨m,hm,-⟩:=padL_at hlt
   have HM12:=Lib.hid (H12.out k m hm)
   obtain ⟨au,cu,hu,-⟩:=HUS.out k hlt (by omega)
   rw [hu] at d2
   have hsz:=HZ.out _ (List.getElem_mem hlt)
   have hdw: ∃bd,da=some ⟨bd,0,none⟩∧bd<wr.heap.size∧wr.cell? ⟨bd,k,none⟩=some (.int .i64 (m:Int)):=by
    obtain ⟨a,c,hv,-,-,h3⟩:=HD.out
    injection hv with e1 e2 e3
    obtain ⟨bd,ha,hbd,hc⟩:=h3.resolve_left (fun e=>by have:=congrArg List.length e;rw [wdL_length,List.length_nil] at this;omega)
    refine ⟨bd,e1.trans ha,Nat.lt_of_lt_of_le hbd HB.out.size,(HB.out.cell (p:=⟨bd,_,none⟩) hbd).trans ?_⟩
    rw [hc k (by rw [wdL_length];exact hlt)]
    obtain ⟨h,e⟩:=List.getElem?_eq_some_iff.mp hm
    rw [e]
   obtain ⟨bd,hda,hbdl,dd⟩:=hdw
   have HBD:=Lib.hid hbdl;clear hbdl
   subst hda
   by_cases h3:l[k].1=3
   ·have hmb:l[k].2.1.size≤m:=by
     obtain ⟨n,hn,hle⟩:=wd_big hlt h3
     rw [hm] at hn;injection hn with hn;omega
    have hnx:=HSO.out.next hlt hm (P[k].1,l[k].2.1++baL (spL (m-l[k].2.1.size)),P[k].2.2) (by rw [HSO.out.here hlt];unfold padI;rw [if_pos h3])
    have hfs:=(itF_set P us k hkp (by omega) (P[k].1,l[k].2.1++baL (spL (m-l[k].2.1.size)),P[k].2.2)).2.1
    have HNX:=Lib.hid hnx;have HFS:=Lib.hid hfs
    rw [h3] at d0
    have hm12:=HM12.out
    clear hnx hfs HM12
    generalize l[k]=it at d0 d1 d2 d3 hmb hsz HNX HFS
    obtain ⟨ik,inm,ics,int⟩:=it
    simp only at d0 d1 d2 d3 hmb hsz HNX HFS
    have hgl:g<wr.heap.size:=(HOW.out.lt g rfl).2
    have hbdl:bd<wr.heap.size:=HBD.out
    have BX:=Lib.hid (HB.out.alloc HB.out.size (.cells #[.int .i64 3, .string inm, .slice au ics.length cu, .string int] 32))
    have c1:(wr.alloc (.cells #[.int .i64 3, .string inm, .slice au ics.length cu, .string int] 32)).drew.cell? ⟨g,k*4+1,none⟩=some (.string inm):=(((Below.refl wr.heap.size wr).alloc (Nat.le_refl _) _).cell (p:=⟨g,_,none⟩) hgl).trans d1
    have c2:(wr.alloc (.cells #[.int .i64 3, .string inm, .slice au ics.length cu, .string int] 32)).drew.cell? ⟨bd,k,none⟩=some (.int .i64 (m:Int)):=(((Below.refl wr.heap.size wr).alloc (Nat.le_refl _) _).cell (p:=⟨bd,_,none⟩) hbdl).trans dd
    obtain ⟨x0,x1,x2,x3⟩:=(It4.new wr (.int .i64 3) (.string inm) (.slice au ics.length cu) (.string int) 32).1
    have x1d:(wr.alloc (.cells #[.int .i64 3, .string inm, .slice au ics.length cu, .string int] 32)).drew.cell? ⟨wr.heap.size,1,none⟩=some (.string inm):=x1
    have z1d:=((HOW.out.alloc (.cells #[.int .i64 3, .string inm, .slice au ics.length cu, .string int] 32)).drew).frozenAt (k*4+1)
    have hst:=HOW.out.stored (k*4+1) (.string (inm++baL (spL (m-inm.size))))
    rw [HFS.out] at hst
    have HST:=Lib.hid ((hst.1.alloc (.cells #[.int .i64 3, .string inm, .slice au ics.length cu, .string int] 32)).drew)
    have HSB:=HB.out.setCell (p:=⟨g,k*4+1,none⟩) (HOW.out.lt g rfl).1 (.string (inm++baL (spL (m-inm.size))))
    have HBS:=Lib.hid ((HSB.alloc HSB.size (.cells #[.int .i64 3, .string inm, .slice au ics.length cu, .string int] 32)).drew)
    clear HSB
    have hwr:IntKind.i64.wrap ((m:Int)-(inm.size:Int))=((m-inm.size:Nat):Int):=by rw [IntWalk.i64_in _ (by omega)];omega
    have hss:(baL (spL (m-inm.size))).size≤12:=by rw [bl_len];simp [spL];omega
    have hs1: ¬9223372036854775807<inm.size+(baL (spL (m-inm.size))).size:=by omega
    have HRP:=Lib.hid (show∀(x:Int) (w':World),x=((m-inm.size:Nat):Int)→Calls Tryz.prog 89 #[.string ⟨#[32]⟩, .int .i64 x] w' fun e w''=>e= .returned (.string (baL (spL (m-inm.size))))∧w'=w'' from fun x w' hx=>by rw [hx];exact rep_one _ (by omega) w')
    generalize baL (spL (m-inm.size))=S at HST HBS hss hs1 HRP HNX
    clear hst hmb hm12
    go_wp2_with fail
    go_region_with (go_at_call 89;(refine (HRP.out _ _ (by first|rfl|exact hwr)).mono ?_);rintro e wq ⟨rfl,hwq⟩;subst hwq)
    all_goals
     go_wp2
     go_roundw
     case rel=>exact ⟨k+1,_,by omega,by go_num,HNX.out,HST.out,HBS.out⟩
     case measure=>simp [intOf];omega
   ·have HNX:=Lib.hid (HSO.out.same hlt hm h3)
    have e3:(l[k].1==3)=false:=beq_eq_false_iff_ne.mpr h3
    clear h3
    generalize l[k]=it at d0 d1 d2 d3 e3
    obtain ⟨ik,inm,ics,int⟩:=it
    simp only at d0 d1 d2 d3 e3
    have BX:=Lib.hid (HB.out.alloc HB.out.size (.cells #[.int .i64 ik, .string inm, .slice au ics.length cu, .string int] 32))
    obtain ⟨x0,x1,x2,x3⟩:=(It4.new wr (.int .i64 ik) (.string inm) (.slice au ics.length cu) (.string int) 32).1
    have HOA:=Lib.hid (HOW.out.alloc (.cells #[.int .i64 ik, .string inm, .slice au ics.length cu, .string int] 32))
    go_wp2
    go_roundw
    case rel=>exact ⟨k+1,_,by omega,by go_num,HNX.out,HOA.out,BX.out⟩
    case measure=>simp [intOf];omega
  ·obtain rfl:k=l.length:=by omega
   have hltI: ¬(l.length:Int)<(l.length:Int):=by omega
   have HP:=Lib.hid HSO.out.done
   go_wp2
   go_ret
   exact ⟨_,us,rfl,HUL.out,HUS.out,by rw [←HP.out];exact HOW.out,HB.out⟩
theorem align_plain {l:List It} (hd:docB l=true): ∀t∈printL (padL l),plainL t.data.toList=true:=by
 intro t ht
 obtain ⟨k,hk,rfl⟩:=List.getElem_of_mem ht
 have hk2:k<l.length:=by rw [printL_length,padL_length] at hk;exact hk
 obtain ⟨-,hv,hn⟩:=(docB_iff l).mp hd
 obtain ⟨D,m,-,-,-,e⟩:=align_at hn k hk2
 rw [List.getElem?_eq_getElem hk] at e
 injection e with e
 rw [e,baL_list]
 rw [List.all_eq_true] at hv
 exact line_plain (hv _ (List.getElem_mem hk2)) _ _
theorem own_klI {w W':World} {B n:Nat} {u:Value} {xs:List Value} (h:w.ownsRow B 32 4 u n xs) (hk:KL w W'):W'.ownsRow B 32 4 u n xs:=by
 refine own_keep h fun g hg=> ?_
 rcases h.2 with ⟨rfl,-⟩|⟨g',cap,cur,rfl,hbg,hh,-⟩
 ·simp [Value.ownBlock] at hg
 ·obtain rfl:g'=g:=by simpa [Value.ownBlock] using hg
  rw [hh];exact hk _ _ _ _ hh (by decide) (by decide)
theorem rowKw_pad {w0 w:World} {v:Value} {l:List It} {us:List Value} {B:Nat} (hul:us.length=l.length) (hus: ∀(k:Nat) (h:k<l.length) (h':k<us.length),RowC w0 us[k] l[k].2.2.1) (ho:w.ownsRow B 32 4 v l.length (itF (padL l) us)):RowKw w0 w v (padL l):=by
 have hpl:=padL_length l
 have hk:=fun W' (hk:KL w W')=>own_klI ho hk
 rcases ho.2 with ⟨rfl,h0⟩|⟨g,cap,cur,rfl,hbg,hh,hc1,hc2,-⟩
 ·exact ⟨none,0,by rw [hpl,h0],by omega,by unfold maxLen;omega, .inl (List.length_eq_zero_iff.mp (by omega))⟩
 ·refine ⟨_,cap,by rw [hpl],by omega,hc2, .inr ⟨g,0,rfl,fun k hlt=> ?_⟩⟩
  have hlt2:k<l.length:=by omega
  obtain ⟨m,-,e⟩:=padL_at hlt2
  obtain ⟨f0,f1,f2,f3⟩:=itF_at (padL l) us (by omega) k hlt (by omega)
  refine ⟨us[k]'(by omega),by rw [e];exact hus k hlt2 (by omega),fun W' _ hK=> ?_⟩
  have hr:=hk W' hK
  refine ⟨?_, ?_, ?_, ?_⟩
  ·rw [Nat.zero_add,hr.cellAt _ (by omega)];exact f0
  ·rw [Nat.zero_add,hr.cellAt _ (by omega)];exact f1
  ·rw [Nat.zero_add,hr.cellAt _ (by omega)];exact f2
  ·rw [Nat.zero_add,hr.cellAt _ (by omega)];exact f3
theorem pad_ok {l:List It} (h:docB l=true): ∀i∈padL l,itemB i=true∨i.1=3:=by
 have hv:=((docB_iff l).mp h).2.1
 rw [List.all_eq_true] at hv
 intro i hi
 obtain ⟨k,hk,rfl⟩:=List.getElem_of_mem hi
 have hk2:k<l.length:=by rw [padL_length] at hk;exact hk
 obtain ⟨m,-,e⟩:=padL_at hk2
 rw [e]
 by_cases h3:l[k].1=3
 ·exact .inr h3
 ·left;unfold padI;rw [if_neg h3];exact hv _ (List.getElem_mem hk2)
theorem alignDocument_impl (v:Value) (l:List It) (w:World) (hr:RowIt w v l) (hz:ShortI l) (htab:Tab w):
  Calls Tryz.prog 21 #[v] w fun e w'=>e= .returned (.tuple #[.string (alignT l), .bool (alignK l)])∧Below w.heap.size w w':=by
 have HC:=Lib.hid (documentValid_impl v l w hr (fitI_of_short hz) htab)
 have HR:=Lib.hid hr;have HT:=Lib.hid htab;have HZ:=Lib.hid hz
 obtain ⟨ao,cap,rfl,h1,h2,h3⟩:=hr
 clear h3 hz htab
 cases hok:docB l with
 |false=>
  obtain ⟨hk,ht⟩:=align_no hok
  rw [hk,ht]
  rw [hok] at HC
  clear hk ht hok
  go_enter Tryz.func21,Tryz.ntmps21
  go_wp2_with fail
  refine HC.out.mono ?_
  rintro e w1 ⟨rfl,hb1⟩
  have HB1:=Lib.hid hb1;clear hb1
  go_wp2
  go_ret2
  exact ⟨rfl,HB1.out⟩
 |true=>
  obtain ⟨h30,-,hn⟩:=(docB_iff l).mp hok
  have hpl:=padL_length l
  have HPT:=Lib.hid (lines_text (align_plain hok))
  have HJ:=Lib.hid (align_join hok)
  have HWS:=Lib.hid (fun k n (h:(wdL 0 l)[k]? =some n)=>wd_short hok h)
  have hnp:nestO 0 (padL l)=some 0:=(pad_dep l).2.trans hn
  have hdp:dps 0 (padL l)=dps 0 l:=by unfold dps;rw [show ((0:Nat):Int)=0 from rfl,(pad_dep l).1]
  have HDW:=Lib.hid (fun (w0 w1:World) (b B:Nat) (v u:Value) (us:List Value) (hb:Below w0.heap.size w0 w1) (hw:LwAt w0.heap.size b [] w1) (ht:Tab w0) (hul:us.length=l.length) (hus: ∀(k:Nat) (h:k<l.length) (h':k<us.length),RowC w0 us[k] l[k].2.2.1) (ho:w1.ownsRow B 32 4 v l.length (itF (padL l) us)) (hu: ∃B,w1.ownsRow B 3 1 u l.length (ints (dps 0 l)))=>
   document_w w0 w1 b v u (padL l) hb hw (rowKw_pad hul hus ho) (pad_short HZ.out) (by omega) (pad_ok hok) hnp ht (by rw [hpl,hdp];exact hu))
  have HAW:=Lib.hid (fun (w':World) (v:Value) (hr:RowIt w' v l) (ht:Tab w')=>alignWidths_impl v l w' hr (fitI_of_short HZ.out) ht)
  have HWD:=Lib.hid (show wdD l=wdL 0 l by unfold wdD;rw [if_pos hok])
  have HDP:=Lib.hid (fun (w':World) (v:Value) (hr:RowIt w' v l) (ht:Tab w')=>depthsOf_impl v l w' hr (fitI_of_short HZ.out) ht)
  have HDD:=Lib.hid (show dpD l=dps 0 l by unfold dpD;rw [if_pos hok])
  have hlen:(accTo (printL (padL l)) (padL l).length).size≤100000000:=by
   have:=acc_len (pad_short HZ.out) hnp (padL l).length (Nat.le_refl _)
   rw [size_bytes];omega
  rw [printL_length] at HPT
  rw [hok] at HC
  obtain ⟨A,hA⟩: ∃A,A=accTo (printL (padL l)) (padL l).length:=⟨_,rfl⟩
  rw [←hA] at HDW HPT hlen
  have HFIN:=Lib.hid (show (if textB A=true then A else ⟨#[]⟩)=alignT l∧textB A=alignK l from by
   obtain ⟨p1,p2⟩:=HPT.out
   obtain ⟨j1,j2⟩:=HJ.out
   refine ⟨?_,by rw [j1,p1]⟩
   by_cases ht:textB A=true
   ·rw [if_pos ht,j2];exact p2 (by rw [←p1];exact ht)
   ·rw [if_neg ht,alignT,if_neg (by rw [j1,←p1];exact ht)])
  clear hok hA hn hnp hdp
  go_enter Tryz.func21,Tryz.ntmps21
  go_wp2_with fail
  refine HC.out.mono ?_
  rintro e w1 ⟨rfl,hb1⟩
  have HB1:=Lib.hid hb1;have HR1:=Lib.hid (HR.out.mono hb1);have HT1:=Lib.hid (HT.out.keep hb1)
  have BX:=Lib.hid ((Below.refl w1.heap.size w1).alloc (Nat.le_refl _) (.cells #[.pointer none, .slice none 0 0] 64))
  clear hb1
  go_wp2_with fail
  refine (HAW.out _ _ (HR1.out.mono BX.out) (HT1.out.keep BX.out)).mono ?_
  rintro e w2 ⟨vw,rfl,ho2,hb2⟩
  rw [HWD.out,wdL_length] at ho2
  have W2:=Lib.hid ((LwAt.new w1).later hb2)
  have B2:=Lib.hid (BX.out.trans (hb2.mono (by simp)))
  have O2:=Lib.hid (RowI.of_own ho2).1
  obtain ⟨ua,uc,rfl⟩:=own_shape ho2
  clear hb2 ho2
  go_wp2_with fail
  refine (padded_any _ _ l w1 w2 B2.out HR1.out O2.out h30 (fun i hi=>(HZ.out i hi).1) HWS.out).mono ?_
  rintro e w3 ⟨vp,us,rfl,hul,hus,ho3,hb3⟩
  have W3:=Lib.hid (W2.out.later hb3)
  have B3:=Lib.hid (B2.out.trans (hb3.mono B2.out.size))
  have O3:=Lib.hid ho3;have HUL:=Lib.hid hul;have HUS:=Lib.hid hus
  obtain ⟨pa,pc,rfl⟩:=own_shape ho3
  clear hb3 ho3 hul hus
  go_wp2_with fail
  refine (HDP.out _ _ (HR1.out.mono B3.out) (HT1.out.keep B3.out)).mono ?_
  rintro e w4 ⟨u,rfl,ho4,hb4⟩
  rw [HDD.out,dps_length] at ho4
  have W4:=Lib.hid (W3.out.later hb4)
  have B4:=Lib.hid (B3.out.trans (hb4.mono B3.out.size))
  have O4:=Lib.hid ho4;have P4:=Lib.hid (own_belowS O3.out hb4)
  obtain ⟨ua,uc,rfl⟩:=own_shape ho4
  clear hb4 ho4
  go_wp2_with fail
  refine (HDW.out w1 w4 w1.heap.size _ _ _ us B4.out W4.out HT1.out HUL.out HUS.out P4.out ⟨_,O4.out⟩).mono ?_
  rintro e w5 ⟨rfl,h5,hb5,-⟩
  have W5:=Lib.hid h5;have B5:=Lib.hid hb5
  clear h5 hb5
  go_wp2_with fail
  refine (result_w w1.heap.size w1.heap.size A w5 W5.out B5.out.size hlen).mono ?_
  rintro e w6 ⟨rfl,hb6⟩
  rw [HFIN.out.1,HFIN.out.2]
  have HB6:=Lib.hid (HB1.out.trans ((B5.out.trans hb6).mono HB1.out.size));clear hb6
  go_wp2
  go_ret2
  exact ⟨rfl,HB6.out⟩
theorem ints_take {L:List Nat} {k n:Nat} (h:L[k]? =some n):ints (L.take (k+1))=ints (L.take k)++[.int .i64 (n:Int)]:=by
 obtain ⟨hk,e⟩:=List.getElem?_eq_some_iff.mp h
 rw [List.take_succ_eq_append_getElem hk,e]
 simp [ints]
theorem alignWidths_spec (v:Value) (l:List It) (w:World) (hr:RowIt w v l) (hz:ShortI l) (hl:l.length≤1048576):
  Calls Tryz.prog 17 #[v] w (NewInts (wdD l) w):=by
 obtain ⟨i0,hi,hz0,hz1,hz2⟩:=info_parts infoI
 have HR:=Lib.hid hr
 have HC:=Lib.hid (fun w' hr'=>documentValid_spec v l w' hr' hz hl)
 obtain ⟨ao,cap,rfl,h1,h2,h3⟩:=hr
 unfold maxLen at h2
 have H3:=Lib.hid h3
 have HL0:=Lib.hid (World.ownsRow_lit (base:=w.heap.size) (size:=1) (e:=3) w #[] 0 (Nat.le_refl _) (by unfold maxLen;omega) rfl)
 have HB0:=Lib.hid ((Below.refl w.heap.size w).alloc (Nat.le_refl _) (.cells #[] 3))
 clear h3 hz
 go_enter Tryz.func17,Tryz.ntmps17
 go_wp2_with fail
 refine (HC.out _ (HR.out.mono HB0.out)).mono ?_
 rintro e w1 ⟨rfl,hb1⟩
 have HO1:=Lib.hid (own_belowS HL0.out hb1)
 have HB1:=Lib.hid (HB0.out.trans (hb1.mono HB0.out.size))
 clear hb1 HL0
 cases hok:docB l with
 |true=>
  have HD:=Lib.hid (show wdD l=wdL 0 l by unfold wdD;rw [if_pos hok])
  clear hok
  go_wp2_with fail
  go_loopw [3,4,5,6,7] (fun a i _ _ _ wr=> ∃k:Nat,k≤l.length∧i= .int .i64 (k:Int)∧wr.ownsRow w.heap.size 3 1 a k (ints ((wdL 0 l).take k))∧Below w.heap.size w wr) (fun _ i _ _ _ _=>l.length-(intOf i).toNat)
  case atStart=>exact ⟨0,Nat.zero_le _,rfl,HO1.out,HB1.out⟩
  case round=>
   obtain ⟨k,hk,rfl,hown,hB⟩:=hrel
   have HOW:=Lib.hid hown;have HB:=Lib.hid hB
   obtain ⟨aa,ac,rfl⟩:=own_shape hown
   clear hown hB
   by_cases hlt:k<l.length
   ·have hltI:(k:Int)<(l.length:Int):=by omega
    obtain ⟨b,o,rfl,hbl,cc⟩:=H3.out.resolve_left (by rintro rfl;simp at hlt)
    have HCE:=Lib.hid (show∀j,(hj:j<l.length)→wr.cell? ⟨b,o+j*4,none⟩=some (.int .i64 l[j].1)∧wr.cell? ⟨b,o+j*4+1,none⟩=some (.string l[j].2.1) from fun j hj=>by
     obtain ⟨u,hu⟩:=cc j hj
     obtain ⟨d0,d1,-⟩:=hu.mono hbl HB.out
     exact ⟨d0,d1⟩)
    obtain ⟨d0,-⟩:=HCE.out k hlt
    clear cc
    have HWA:=Lib.hid (wdL_at l 0 k hlt)
    obtain ⟨W,hW⟩: ∃W,W=caL 0 (l.take (k+1)):=⟨_,rfl⟩
    obtain ⟨V,hV⟩: ∃V,V=max W (fwL (l.drop k)):=⟨_,rfl⟩
    have HW:=Lib.hid hW;have HV:=Lib.hid hV
    have HFIN:=Lib.hid (show l[k].1=3→(wdL 0 l)[k]? =some V from fun h=>by
     rw [HWA.out,if_pos h,HV.out,HW.out,ca_e hlt,caW,if_pos h,fw_e hlt h]
     congr 1;omega)
    have HNOT:=Lib.hid (show¬l[k].1=3→(wdL 0 l)[k]? =some 0 from fun h=>by rw [HWA.out,if_neg h])
    clear hW hV HWA
    by_cases h3:l[k].1=3
    case neg=>
     have e3:(l[k].1==3)=false:=beq_eq_false_iff_ne.mpr h3
     have HFX:=Lib.hid (HNOT.out h3)
     clear h3 HFIN HNOT
     generalize l[k].1=kk at d0 e3
     go_wp2_with (at_builtin;refine wpList_append_own _ rfl _ _ 25 rfl w.heap.size 3 i0 (.int .i64 0) 1 8 Tryz.underlying25 hi hz0 hz1 hz2 rfl (by decide) _ _ _ rfl (HOW.out.alloc _) ⟨wr.heap.size,0,none⟩ 1 1 [.int .i64 0] rfl rfl (World.news_of_block (cs:= #[.int .i64 0]) (t:=3) (fr:=(0,0)) (heap_alloc_new wr _)) (by simp [Value.oneCell']) (by unfold maxLen;omega) (by omega) (by simp;exact Nat.le_succ_of_le HB.out.size) ?_;intro v' w2 hown' hgrow hnil;have HB2:=Lib.hid ((HB.out.alloc HB.out.size _).grown hgrow (by have:=HB.out.size;simp;omega) (fun q hq=>(HOW.out.lt q hq).1));have HO2:=Lib.hid hown';clear hown' hgrow hnil)
     go_wp2
     go_roundw
     case rel=>exact ⟨k+1,by omega,by go_num,by rw [ints_take HFX.out];exact HO2.out,HB2.out⟩
     case measure=>simp [intOf];omega
    case pos=>
     rw [h3] at d0
     have HF3:=Lib.hid (HFIN.out h3)
     clear h3 HFIN HNOT
     go_wp2_with fail
     go_loopw [5,6] (fun m j wx=> ∃(M J:Nat) (z:Int),J≤k+1∧m= .int .i64 (M:Int)∧j= .int .i64 z∧z=(J:Int)-1∧max M (caL 0 (l.take J))=W∧wx=wr) (fun _ j _=>(intOf j+1).toNat)
     case atStart=>exact ⟨0,k+1,_,Nat.le_refl _,rfl,rfl,by omega,by rw [HW.out];exact Nat.zero_max _,rfl⟩
     case round=>
      obtain ⟨M,J,z,hJ,rfl,rfl,hz,hm,hwx⟩:=hrel
      subst hwx
      have HM:=Lib.hid hm;clear hm
      by_cases hJ0:J=0
      case' pos=>
       have hg: ¬(0:Int)≤z:=by omega
       have HMW:=Lib.hid (show M=W by have:=HM.out;rw [hJ0,List.take_zero,caL] at this;omega)
       clear hz hJ0
      case' neg=>
       obtain ⟨J,rfl⟩: ∃j,J=j+1:=⟨J-1,by omega⟩
       obtain rfl:z=(J:Int):=by omega
       clear hz
       have hJl:J<l.length:=by omega
       have hJI:(J:Int)<(l.length:Int):=by omega
       obtain ⟨c0,c1⟩:=HCE.out J hJl
       have HCA:=Lib.hid (ca_e hJl 0)
       have hg:(0:Int)≤(J:Int):=by omega
       by_cases h3:l[J].1=3
       case' pos=>
        rw [h3] at c0
        have HX:=Lib.hid (show max (max M l[J].2.1.size) (caL 0 (l.take J))=W by have h9:=HM.out;rw [HCA.out,caW,if_pos h3] at h9;omega)
        have hwr:IntKind.i64.wrap ((J:Int)-1)=(J:Int)-1:=by rw [IntWalk.i64_in _ (by omega)]
        generalize l[J].2.1=nm at c1 HX
        clear h3 HM HCA
        go_wp2
        go_roundw
        case rel=>exact ⟨max M nm.size,J,_,by omega,by go_num,rfl,rfl,HX.out,by trivial⟩
        case measure=>simp [intOf]<;>omega
       case' neg=>
        have e3:(l[J].1==3)=false:=beq_eq_false_iff_ne.mpr h3
        have HMW:=Lib.hid (show M=W by have h9:=HM.out;rw [HCA.out,caW,if_neg h3] at h9;omega)
        clear h3
        generalize l[J].1=kj at c0 e3
      all_goals
       go_wp2_with fail
       go_loopw [5,7] (fun m j wy=> ∃(M J:Nat),J≤l.length∧m= .int .i64 (M:Int)∧j= .int .i64 (J:Int)∧max M (fwL (l.drop J))=V∧wy=wr) (fun _ j _=>l.length-(intOf j).toNat)
       case atStart=>exact ⟨M,k,by omega,rfl,rfl,by rw [HMW.out,HV.out],rfl⟩
       case round=>
        obtain ⟨M2,J2,hJ2,rfl,rfl,hm2,hwy⟩:=hrel
        subst hwy
        have HM2:=Lib.hid hm2;clear hm2
        by_cases hJl2:J2<l.length
        case' pos=>
         have hJI2:(J2:Int)<(l.length:Int):=by omega
         obtain ⟨f0,f1⟩:=HCE.out J2 hJl2
         by_cases h3:l[J2].1=3
         case' pos=>
          rw [h3] at f0
          have HX2:=Lib.hid (show max (max M2 l[J2].2.1.size) (fwL (l.drop (J2+1)))=V by have h9:=HM2.out;rw [fw_e hJl2 h3] at h9;omega)
          generalize l[J2].2.1=nm2 at f1 HX2
          clear h3 HM2
          go_wp2
          go_roundw
          case rel=>exact ⟨max M2 nm2.size,J2+1,by omega,by go_num,by go_num,HX2.out,by trivial⟩
          case measure=>simp [intOf];omega
         case' neg=>
          have e4:(l[J2].1==3)=false:=beq_eq_false_iff_ne.mpr h3
          have HFX:=Lib.hid (show (wdL 0 l)[k]? =some M2 by have h9:=HM2.out;rw [fw_n hJl2 h3] at h9;rw [HF3.out];congr 1;omega)
          clear h3
          generalize l[J2].1=kj2 at f0 e4
        case' neg=>
         obtain rfl:J2=l.length:=by omega
         have hJI2: ¬(l.length:Int)<(l.length:Int):=by omega
         have HFX:=Lib.hid (show (wdL 0 l)[k]? =some M2 by have h9:=HM2.out;rw [List.drop_length,fwL] at h9;rw [HF3.out];congr 1;omega)
        all_goals
         go_wp2_with (at_builtin;refine wpList_append_own _ rfl _ _ 25 rfl w.heap.size 3 i0 (.int .i64 0) 1 8 Tryz.underlying25 hi hz0 hz1 hz2 rfl (by decide) _ _ _ rfl (HOW.out.alloc _) ⟨wr.heap.size,0,none⟩ 1 1 [.int .i64 (M2:Int)] rfl rfl (World.news_of_block (cs:= #[.int .i64 (M2:Int)]) (t:=3) (fr:=(0,0)) (heap_alloc_new wr _)) (by simp [Value.oneCell']) (by unfold maxLen;omega) (by omega) (by simp;exact Nat.le_succ_of_le HB.out.size) ?_;intro v' w2 hown' hgrow hnil;have HB2:=Lib.hid ((HB.out.alloc HB.out.size _).grown hgrow (by have:=HB.out.size;simp;omega) (fun q hq=>(HOW.out.lt q hq).1));have HO2:=Lib.hid hown';clear hown' hgrow hnil)
         go_wp2
         go_roundw
         case rel=>exact ⟨k+1,by omega,by go_num,by rw [ints_take HFX.out];exact HO2.out,HB2.out⟩
         case measure=>simp [intOf];omega
   ·obtain rfl:k=l.length:=by omega
    have hltI: ¬(l.length:Int)<(l.length:Int):=by omega
    have HFO:=Lib.hid (show wr.ownsRow w.heap.size 3 1 (.slice aa l.length ac) (wdL 0 l).length (ints (wdL 0 l)) by
     have:=HOW.out
     rw [List.take_of_length_le (by rw [wdL_length];exact Nat.le_refl _)] at this
     rw [wdL_length];exact this)
    go_wp2
    go_ret
    exact ⟨_,rfl,by rw [HD.out];exact HFO.out,HB.out⟩
 |false=>
  have HD:=Lib.hid (show wdD l=[] by unfold wdD;rw [if_neg (by rw [hok];simp)])
  go_wp2
  go_ret
  exact ⟨_,rfl,by rw [HD.out];exact HO1.out,HB1.out⟩
theorem alignDocument_spec (v:Value) (l:List It) (w:World) (hr:RowIt w v l) (hz:ShortI l) (hl:l.length≤1048576):
 Calls Tryz.prog 22 #[v] w fun e w'=>e= .returned (.tuple #[.string (alignT l), .bool (alignK l)])∧Below w.heap.size w w':=by
 have HC:=Lib.hid (documentValid_spec v l w hr hz hl)
 have HR:=Lib.hid hr
 have HAW:=Lib.hid (fun w' hr'=>alignWidths_spec v l w' hr' hz hl)
 obtain ⟨ao,cap,rfl,h1,h2,h3⟩:=hr
 unfold maxLen at h2
 have H3:=Lib.hid h3;have HZ:=Lib.hid hz
 clear h3 hz
 obtain ⟨i0,hi,hz0,hz1,hz2⟩:=info_parts infoStr
 cases hok:docB l with
 |false=>
  obtain ⟨hk,ht⟩:=align_no hok
  rw [hk,ht]
  clear hk ht
  go_enter Tryz.func22,Tryz.ntmps22
  go_wp2_with fail
  refine HC.out.mono ?_
  rintro e w1 ⟨rfl,hb1⟩
  have HB1:=Lib.hid hb1;clear hb1
  rw [hok]
  clear hok
  go_wp2
  go_ret2
  exact ⟨rfl,HB1.out⟩
 |true=>
  have h30:=((docB_iff l).mp hok).1
  have HAL:=Lib.hid ((docB_iff l).mp hok).2.1
  have HN:=Lib.hid ((docB_iff l).mp hok).2.2
  have HPT:=Lib.hid (align_join hok)
  have HPL:=Lib.hid (align_line ((docB_iff l).mp hok).2.2)
  have HPS:=Lib.hid (nest_sized (pad_short HZ.out) ((pad_dep l).2.trans ((docB_iff l).mp hok).2.2))
  have HLL:=Lib.hid (show (printL (padL l)).length=l.length by rw [printL_length,padL_length])
  have HWS:=Lib.hid (fun k n (h:(wdL 0 l)[k]? =some n)=>wd_short hok h)
  have HWD:=Lib.hid (show wdD l=wdL 0 l by unfold wdD;rw [if_pos hok])
  rw [HPT.out.1,HPT.out.2]
  go_enter Tryz.func22,Tryz.ntmps22
  go_wp2_with fail
  refine HC.out.mono ?_
  rintro e w1 ⟨rfl,hb1⟩
  have HB1:=Lib.hid hb1;clear hb1
  rw [hok]
  clear hok
  go_wp2_with fail
  refine (l11Nest_any _ l _ (HR.out.mono HB1.out) hl).mono ?_
  rintro e w2 ⟨vd,d,L,rfl,hoL,hb2,hnn⟩
  have hLd:L=depL 0 l:=by
   rcases hnn with ⟨-,h⟩|⟨h,-⟩
   ·exact h
   ·rw [HN.out] at h;cases h
  have HDC:=Lib.hid (RowOf.of_own hoL)
  obtain ⟨da,dc,rfl⟩:=own_shape hoL
  have hLl:L.length=l.length:=by rw [hLd,depL_length]
  have HLD:=Lib.hid hLd
  have HB2:=Lib.hid (HB1.out.trans (hb2.mono HB1.out.size))
  clear hoL hb2 hnn hLd
  go_wp2_with fail
  refine (HAW.out _ (HR.out.mono HB2.out)).mono ?_
  rintro e wx ⟨vw,rfl,hox,hbx⟩
  rw [HWD.out,wdL_length] at hox
  have HWC:=Lib.hid (RowI.of_own hox).1
  obtain ⟨wa,wc,rfl⟩:=own_shape hox
  have HDX:=Lib.hid (HDC.out.mono hbx)
  have HBX:=Lib.hid (HB2.out.trans (hbx.mono HB2.out.size))
  clear hox hbx
  have HLI:=Lib.hid (World.ownsRow_lit (base:=wx.heap.size) (size:=1) (e:=9) wx #[] 0 (Nat.le_refl _) (by unfold maxLen;omega) rfl)
  have HBL:=Lib.hid ((Below.refl wx.heap.size wx).alloc (Nat.le_refl _) (.cells #[] 9))
  go_wp2_with fail
  go_loopw [7,8] (fun a i wr=> ∃k:Nat,k≤l.length∧i= .int .i64 (k:Int)∧wr.ownsRow wx.heap.size 9 1 a k (strs ((printL (padL l)).take k))∧Below wx.heap.size wx wr) (fun _ i _=>l.length-(intOf i).toNat)
  case atStart=>exact ⟨0,Nat.zero_le _,rfl,HLI.out,HBL.out⟩
  case round=>
   obtain ⟨k,hk,rfl,hown,hbr⟩:=hrel
   have HOW:=Lib.hid hown;have HBR:=Lib.hid hbr
   have HBW:=Lib.hid (HBX.out.trans (hbr.mono HBX.out.size))
   obtain ⟨aa,ac,rfl⟩:=own_shape hown
   clear hown hbr
   by_cases hlt:k<l.length
   ·have hltI:(k:Int)<(l.length:Int):=by omega
    obtain ⟨b,o,rfl,hbl,cc⟩:=H3.out.resolve_left (by rintro rfl;simp at hlt)
    obtain ⟨u,hu⟩:=cc k hlt
    obtain ⟨d0,d1,d2,d3,hru⟩:=hu.mono hbl HBW.out
    obtain ⟨z1,z2,z3,z4⟩:=HZ.out _ (List.getElem_mem hlt)
    obtain ⟨D,m,hD,hD4,hm,hTK⟩:=HPL.out k hlt
    have hm12:=HWS.out k m hm
    have hvi:itemB l[k]=true:=by have:=HAL.out;rw [List.all_eq_true] at this;exact this _ (List.getElem_mem hlt)
    have hDc: ∃bd od,da=some ⟨bd,od,none⟩∧bd<wx.heap.size∧wr.cell? ⟨bd,od+k,none⟩=some (.int .i64 (D:Int)):=by
     obtain ⟨bo,bcap,hsl,g1,g2,g3⟩:=HDX.out
     rw [intsZ_length] at hsl g1
     simp only [Value.slice.injEq] at hsl
     obtain ⟨rfl,-,rfl⟩:=hsl
     obtain ⟨bd,od,rfl,hbd,hcd⟩:=g3.resolve_left (fun e=>by have:=congrArg List.length e;rw [intsZ_length,List.length_nil] at this;omega)
     refine ⟨bd,od,rfl,hbd,(HBR.out.cell (p:=⟨bd,_,none⟩) hbd).trans (hcd k _ ?_)⟩
     rw [←HLD.out] at hD
     simp [intsZ,hD]
    obtain ⟨bd,od,rfl,hbdl,dd⟩:=hDc
    have hdc:L.length≤dc:=by
     obtain ⟨bo,bcap,hsl,g1,g2,g3⟩:=HDX.out
     rw [intsZ_length] at hsl g1
     simp only [Value.slice.injEq] at hsl
     obtain ⟨-,-,rfl⟩:=hsl
     exact g1
    have hWc: ∃bw,wa=some ⟨bw,0,none⟩∧bw<wx.heap.size∧wr.cell? ⟨bw,k,none⟩=some (.int .i64 (m:Int)):=by
     obtain ⟨a,c,hv,-,-,h3⟩:=HWC.out
     injection hv with e1 e2 e3
     obtain ⟨bw,ha,hbw,hc⟩:=h3.resolve_left (fun e=>by have:=congrArg List.length e;rw [wdL_length,List.length_nil] at this;omega)
     refine ⟨bw,e1.trans ha,hbw,(HBR.out.cell (p:=⟨bw,_,none⟩) hbw).trans ?_⟩
     rw [hc k (by rw [wdL_length];exact hlt),(List.getElem?_eq_some_iff.mp hm).2]
    obtain ⟨bw,rfl,hbwl,ww⟩:=hWc
    have hwc:l.length≤wc:=by
     obtain ⟨a,c,hv,g1,-,-⟩:=HWC.out
     injection hv with e1 e2 e3
     rw [wdL_length] at g1;omega
    generalize l[k]=it at d0 d1 d2 d3 hru hTK hvi z1 z4
    obtain ⟨ik,inm,ics,int⟩:=it
    simp only at d0 d1 d2 d3 hru z1 z4
    obtain ⟨au,cu,rfl⟩: ∃au cu,u= .slice au ics.length cu:=by obtain ⟨au,cu,h,-⟩:=hru;exact ⟨au,cu,h⟩
    have HTK:=Lib.hid hTK
    have HLN:=Lib.hid (fun ww hh=>line_spec (ik,inm,ics,int) (.slice au ics.length cu) D m ww hvi hh z1 z4 hD4 (by omega))
    have HRD:=Lib.hid (show RowC wr.drew (.slice au ics.length cu) ics from hru.drewN 1)
    have HOD:=Lib.hid (show wr.drew.ownsRow wx.heap.size 9 1 (.slice aa k ac) k (strs ((printL (padL l)).take k)) from HOW.out.drew)
    have hs2:=HBR.out.size
    clear cc hu hru hTK hvi z1 z2 z3 z4 hD hm
    generalize baL (lineI (ik,inm,ics,int) D m)=LN at HTK HLN
    have hbk0:(0:Int)≤(k:Int):=by omega
    have hbkL:(k:Int)<(L.length:Int):=by omega
    have HCE:=Lib.hid (show∀W',Below wx.heap.size wx W'→W'.cell? ⟨b,o+k*4,none⟩=some (.int .i64 ik)∧W'.cell? ⟨b,o+k*4+1,none⟩=some (.string inm)∧W'.cell? ⟨b,o+k*4+2,none⟩=some (.slice au ics.length cu)∧W'.cell? ⟨b,o+k*4+3,none⟩=some (.string int)∧W'.cell? ⟨bd,od+k,none⟩=some (.int .i64 (D:Int))∧W'.cell? ⟨bw,k,none⟩=some (.int .i64 (m:Int)) from fun W' hb'=>
     have hbl':b<wx.heap.size:=Nat.lt_of_lt_of_le hbl HBX.out.size
     have cc: ∀(bb j:Nat),bb<wx.heap.size→W'.cell? ⟨bb,j,none⟩=wr.cell? ⟨bb,j,none⟩:=fun bb j h=>(hb'.cell (p:=⟨bb,j,none⟩) h).trans (HBR.out.cell (p:=⟨bb,j,none⟩) h).symm
     ⟨(cc b _ hbl').trans d0,(cc b _ hbl').trans d1,(cc b _ hbl').trans d2,(cc b _ hbl').trans d3,(cc bd _ hbdl).trans dd,(cc bw _ hbwl).trans ww⟩)
    go_wp2_with fail
    go_region_held3 (fun W'=>W'.cell? ⟨b,o+k*4,none⟩=some (.int .i64 ik)∧W'.cell? ⟨b,o+k*4+1,none⟩=some (.string inm)∧W'.cell? ⟨b,o+k*4+2,none⟩=some (.slice au ics.length cu)∧W'.cell? ⟨b,o+k*4+3,none⟩=some (.string int)∧W'.cell? ⟨bd,od+k,none⟩=some (.int .i64 (D:Int))∧W'.cell? ⟨bw,k,none⟩=some (.int .i64 (m:Int)))
     (first|exact HCE.out _ HB4.out|exact HCE.out _ HB3.out|exact HCE.out _ HBR.out.drew|exact HCE.out _ HBR.out|go_keep)
     (first
       |((go_at_call 58;(with_reducible refine (HLN.out _ HRD.out).mono ?_);rintro e w3 ⟨rfl,hb3⟩;have hs3:=hb3.size;have HB3:=Lib.hid (HBR.out.drew.trans (hb3.mono HBR.out.size))))
       |(refine step_append_lies _ (by rfl) _ _ _ (by rfl) wx.heap.size 9 i0 _ 1 16 Tryz.underlying38 hi hz0 hz1 hz2 rfl (by omega) (.slice aa k ac) k _ (by rfl) (by exact ((own_belowS HOD.out hb3).alloc _))
          ⟨w3.heap.size,0,none⟩ 1 1 [.string LN] (by rfl) (by rfl) (World.news_of_block (cs:= #[.string LN]) (t:=9) (fr:=(0,0)) (heap_alloc_new w3 _)) (by simp [Value.oneCell'])
          (by omega) (by unfold maxLen;omega) (by omega) (by simp;exact Nat.le_succ_of_le (Nat.le_trans HBR.out.size hs3)) (w3.heap.size+1) (by simp) ?_;intro gg cap' w4 hown4 hgrow4 hat4 hlt4;have HB4:=Lib.hid ((HB3.out.alloc (Nat.le_trans HBR.out.size hs3) (.cells #[.string LN] 9)).grown hgrow4 (by simp;exact Nat.le_succ_of_le (Nat.le_trans HBR.out.size hs3)) (fun q hq=>(HOW.out.lt q hq).1))))
    all_goals
     have HO4:=Lib.hid hown4
     clear hown4 hgrow4 hat4 hlt4 hb3
     go_wp2
     go_roundw
     case rel=>exact ⟨k+1,by omega,by go_num,by rw [HTK.out,strs_append];exact HO4.out,HB4.out⟩
     case measure=>simp [intOf];omega
   ·obtain rfl:k=l.length:=by omega
    have hltI: ¬(l.length:Int)<(l.length:Int):=by omega
    have HFU:=Lib.hid (show RowOf wr (.slice aa l.length ac) (strs (printL (padL l))) from by
     have:=RowOf.of_own HOW.out
     rw [List.take_of_length_le (Nat.le_of_eq HLL.out)] at this
     exact this)
    go_wp2_with fail
    refine (linesText_spec _ (printL (padL l)) wr HFU.out HPS.out).mono ?_
    rintro e w5 ⟨hj,hw5⟩
    subst hw5
    unfold Joins at hj
    subst hj
    go_wp2
    go_ret2
    exact ⟨rfl,HBW.out⟩
end Go.Proofs.YtegdjjjpoahamaaGreatDoor
