/-
  impl's entryRun, longestName, AlignWidths, by their contracts.
-/
import Derived.Test.YtegdjjjpoahamaaGreatDoorAlignP
import Derived.Test.YtegdjjjpoahamaaGreatDoorDepI
import Derived.Test.YtegdjjjpoahamaaGreatDoorItB
set_option linter.unusedVariables false
set_option maxHeartbeats 4000000
set_option maxRecDepth 100000
namespace Go.Proofs.YtegdjjjpoahamaaGreatDoor
open Go.RowKit
theorem RowIt.part {w:World} {b o cap k m:Nat} {l:List It} (h:RowIt w (.slice (some ⟨b,o,none⟩) l.length cap) l) (hm:k+m≤l.length):RowIt w (.slice (some ⟨b,o+k*4,none⟩) m (cap-k)) ((l.drop k).take m):=by
 obtain ⟨ao,cap',hv,h1,h2,h3⟩:=h
 injection hv with e1 e2 e3
 subst e3
 have hl:((l.drop k).take m).length=m:=by rw [List.length_take,List.length_drop];omega
 refine ⟨_,_,by rw [hl],by omega,by omega, ?_⟩
 rcases h3 with rfl|⟨b',o',ha,hlt,hj⟩
 ·left;simp
 ·rw [←e1] at ha
  injection ha with ha
  injection ha with a1 a2
  subst a1 a2
  refine .inr ⟨b,_,rfl,hlt,fun j hj'=> ?_⟩
  obtain ⟨u,hu⟩:=hj (k+j) (by omega)
  refine ⟨u, ?_⟩
  unfold ItAt at hu⊢
  rw [show ((l.drop k).take m)[j]=l[k+j]'(by omega) by simp,show o+k*4+j*4=o+(k+j)*4 by omega]
  exact hu
theorem entryRun_any (ao:Option Addr) (cap:Nat) (l:List It) (w:World) (hr:RowIt w (.slice ao l.length cap) l):
  Calls Tryz.prog 49 #[.slice ao l.length cap] w fun e w'=>e= .returned (.slice ao (runN l) cap)∧w=w':=by
 obtain ⟨ao',cap',hv,h1,h2,h3⟩:=hr
 injection hv with e1 e2 e3
 subst e1;subst e3
 unfold maxLen at h2
 have H3:=Lib.hid h3;clear h3
 go_enter Tryz.func49,Tryz.ntmps49
 go_wp2
 go_loopw [3] (fun i wr=> ∃k:Nat,k≤l.length∧i= .int .i64 (k:Int)∧wr=w∧ ∀j,j<k→(hl:j<l.length)→l[j].1=3) (fun i _=>l.length-(intOf i).toNat)
 case atStart=>exact ⟨0,Nat.zero_le _,rfl,rfl,fun j hj=>by omega⟩
 case round=>
  obtain ⟨k,hk,rfl,hwr,hall⟩:=hrel
  subst hwr
  have HA:=Lib.hid hall;clear hall
  by_cases hlt:k<l.length
  ·have hltI:(k:Int)<(l.length:Int):=by omega
   obtain ⟨b,o,rfl,hbl,cc⟩:=H3.out.resolve_left (by rintro rfl;simp at hlt)
   obtain ⟨u,hu⟩:=cc k hlt
   have d0:=hu.1
   clear cc hu
   by_cases h3:l[k].1=3
   ·have HN:=Lib.hid (show∀j,j<k+1→(hl:j<l.length)→l[j].1=3 from fun j hj hl=>by
     by_cases e:j=k
     ·subst e;exact h3
     ·exact HA.out j (by omega) hl)
    rw [h3] at d0
    clear h3
    go_wp2
    go_roundw
    case rel=>exact ⟨k+1,by omega,by go_num,by trivial,HN.out⟩
    case measure=>simp [intOf];omega
   ·have e3:(l[k].1==3)=false:=beq_eq_false_iff_ne.mpr h3
    have HR:=Lib.hid (run_all l k hk (fun j hj=>HA.out j hj (by omega)) (fun _=>h3))
    clear h3
    generalize l[k].1=kk at d0 e3
    go_wp2
    go_ret
    exact ⟨by rw [HR.out];rfl,rfl⟩
  ·obtain rfl:k=l.length:=by omega
   have hltI: ¬(l.length:Int)<(l.length:Int):=by omega
   have HR:=Lib.hid (run_all l l.length hk (fun j hj=>HA.out j hj hj) (fun h=>absurd h (by omega)))
   go_wp2
   go_ret
   exact ⟨by rw [HR.out];rfl,rfl⟩
theorem longestName_any (v:Value) (l:List It) (w:World) (hr:RowIt w v l) (hall: ∀i∈l,i.1=3):
  Calls Tryz.prog 50 #[v] w fun e w'=>e= .returned (.int .i64 (fwL l:Int))∧Below w.heap.size w w':=by
 obtain ⟨ao,cap,rfl,h1,h2,h3⟩:=hr
 unfold maxLen at h2
 have H3:=Lib.hid h3;clear h3
 have HF:=Lib.hid (show∀k,(hk:k<l.length)→fwL (l.drop k)=max l[k].2.1.size (fwL (l.drop (k+1))) from fun k hk=>fw_e hk (hall _ (List.getElem_mem hk)))
 clear hall
 go_enter Tryz.func50,Tryz.ntmps50
 go_wp2
 go_loopw [3,8] (fun g i wr=> ∃k m:Nat,k≤l.length∧i= .int .i64 (k:Int)∧g= .int .i64 (m:Int)∧max m (fwL (l.drop k))=fwL l∧Below w.heap.size w wr) (fun _ i _=>l.length-(intOf i).toNat)
 case atStart=>exact ⟨0,0,Nat.zero_le _,rfl,rfl,Nat.zero_max _,Below.refl _ _⟩
 case round=>
  obtain ⟨k,m,hk,rfl,rfl,hmx,hB⟩:=hrel
  have HB:=Lib.hid hB;have HM:=Lib.hid hmx
  clear hB hmx
  by_cases hlt:k<l.length
  ·have hltI:(k:Int)<(l.length:Int):=by omega
   obtain ⟨b,o,rfl,hbl,cc⟩:=H3.out.resolve_left (by rintro rfl;simp at hlt)
   obtain ⟨u,hu⟩:=cc k hlt
   obtain ⟨d0,d1,d2,d3,hru⟩:=hu.mono hbl HB.out
   have HX:=Lib.hid (HF.out k hlt)
   generalize l[k]=it at d0 d1 d2 d3 hru HX
   obtain ⟨ik,inm,ics,int⟩:=it
   simp only at d0 d1 d2 d3 hru HX
   obtain ⟨au,cu,rfl⟩: ∃au cu,u= .slice au ics.length cu:=by obtain ⟨au,cu,h,-⟩:=hru;exact ⟨au,cu,h⟩
   obtain ⟨x0,x1,x2,x3⟩:=(It4.new wr (.int .i64 ik) (.string inm) (.slice au ics.length cu) (.string int) 32).1
   have BX:=Lib.hid (HB.out.alloc HB.out.size (.cells #[.int .i64 ik, .string inm, .slice au ics.length cu, .string int] 32))
   clear cc hu hru
   go_wp2
   go_roundw
   case rel=>exact ⟨k+1,max m inm.size,by omega,by go_num,by go_num,by have h1:=HM.out;rw [HX.out] at h1;omega,BX.out⟩
   case measure=>simp [intOf];omega
  ·obtain rfl:k=l.length:=by omega
   have hltI: ¬(l.length:Int)<(l.length:Int):=by omega
   have HE:=Lib.hid (show m=fwL l by have:=HM.out;rw [List.drop_length] at this;simpa [fwL] using this)
   go_wp2
   go_ret
   exact ⟨by rw [HE.out];rfl,HB.out⟩
theorem alignWidths_impl (v:Value) (l:List It) (w:World) (hr:RowIt w v l) (hz:FitI l) (htab:Tab w):
  Calls Tryz.prog 15 #[v] w (NewInts (wdD l) w):=by
 obtain ⟨i0,hi,hz0,hz1,hz2⟩:=info_parts infoN
 have HC:=Lib.hid (documentValid_impl v l w hr hz htab)
 have HR:=Lib.hid hr
 obtain ⟨ao,cap,rfl,h1,h2,h3⟩:=hr
 unfold maxLen at h2
 have H3:=Lib.hid h3
 clear h3 hz
 cases hok:docB l with
 |true=>
  have h30:=((docB_iff l).mp hok).1
  have HD:=Lib.hid (show wdD l=wdL 0 l by unfold wdD;rw [if_pos hok])
  rw [HD.out]
  rw [hok] at HC
  have hby:i0.bytes*l.length≤281474976710656:=by rw [hz2];omega
  clear hok
  go_enter Tryz.func15,Tryz.ntmps15
  go_wp2_with fail
  refine HC.out.mono ?_
  rintro e w1 ⟨rfl,hb1⟩
  have HB1:=Lib.hid hb1;clear hb1
  go_wp2_with (at_make;refine wpList_make_full _ rfl _ _ 25 rfl w1.heap.size 3 i0 (.int .i64 0) 1 Tryz.underlying25 hi hz0 hz1 .i64 .i64 (l.length:Int) (l.length:Int) l.length rfl rfl rfl rfl hby (by unfold maxLen;omega) (Nat.le_refl _) ?_;intro w2 hown2 hgrow2)
  have hM:(madeCells (Value.int .i64 0).cells (l.length*1)).toList=ints (List.replicate l.length 0):=by
   apply List.ext_getElem?
   intro k
   by_cases hk:k<l.length<;>simp [madeCells,ints,Value.cells,Nat.mod_one,hk]
  rw [hM] at hown2
  have HO2:=Lib.hid hown2
  have HB2:=Lib.hid (HB1.out.trans (((Below.refl w1.heap.size w1).grown hgrow2 (Nat.le_refl _) (by simp)).mono HB1.out.size))
  have hs1:=HB1.out.size
  clear hown2 hgrow2 hM
  go_loopw [4] (fun i wr=> ∃(k:Nat) (L:List Nat),k≤l.length+1∧i= .int .i64 (k:Int)∧FrW l k∧SoW l k L∧wr.ownsRow w1.heap.size 3 1 (.slice (some ⟨w1.heap.size,0,none⟩) l.length l.length) l.length (ints L)∧Below w.heap.size w wr) (fun i _=>l.length+1-(intOf i).toNat)
  case atStart=>exact ⟨0,_,Nat.zero_le _,rfl,rfl,SoW.start l,HO2.out,HB2.out⟩
  case round=>
   obtain ⟨k,L,hk,rfl,hfr,hso,hown,hB⟩:=hrel
   have HB:=Lib.hid hB;have HSO:=Lib.hid hso;have HOW:=Lib.hid hown;have HFR:=Lib.hid hfr.run
   clear hB hso hown hfr
   by_cases hlt:k<l.length
   ·have hltI:(k:Int)<(l.length:Int):=by omega
    obtain ⟨b,o,rfl,hbl,cc⟩:=H3.out.resolve_left (by rintro rfl;simp at hlt)
    have hrn:=runN_le (l.drop k)
    rw [List.length_drop] at hrn
    have HP:=Lib.hid (show∀m,k+m≤l.length→RowIt wr (.slice (some ⟨b,o+k*4,none⟩) m (cap-k)) ((l.drop k).take m) from fun m hm=>(HR.out.mono HB.out).part hm)
    have HP1:=Lib.hid (show RowIt wr (.slice (some ⟨b,o+k*4,none⟩) (l.drop k).length (cap-k)) (l.drop k) by
     have:=HP.out (l.length-k) (by omega)
     rw [List.take_of_length_le (by rw [List.length_drop];omega)] at this
     rw [List.length_drop];exact this)
    have HE:=Lib.hid (show Calls Tryz.prog 49 #[.slice (some ⟨b,o+k*4,none⟩) (l.length-k) (cap-k)] wr fun e w'=>e= .returned (.slice (some ⟨b,o+k*4,none⟩) (runN (l.drop k)) (cap-k))∧wr=w' by
     have:=entryRun_any _ _ _ wr HP1.out
     rw [List.length_drop] at this;exact this)
    have HLN:=Lib.hid (show Calls Tryz.prog 50 #[.slice (some ⟨b,o+k*4,none⟩) (runN (l.drop k)) (cap-k)] wr fun e w'=>e= .returned (.int .i64 (fwL (l.drop k):Int))∧Below wr.heap.size wr w' by
     have:=longestName_any _ _ wr (HP.out (runN (l.drop k)) (by omega)) (fun i hi=>by
      obtain ⟨j,hj,rfl⟩:=List.getElem_of_mem hi
      rw [List.getElem_take]
      exact run_e (l.drop k) j (by rw [List.length_take] at hj;omega))
     rw [fwL_take] at this;exact this)
    obtain ⟨M,hM⟩: ∃M,M=runN (l.drop k):=⟨_,rfl⟩
    obtain ⟨X,hX⟩: ∃X,X=fwL (l.drop k):=⟨_,rfl⟩
    rw [←hM] at HE HLN HFR hrn
    rw [←hX] at HLN HFR
    clear hM hX HP HP1 cc
    go_wp2_with fail
    refine HE.out.mono ?_
    rintro e w3 ⟨rfl,rfl⟩
    go_wp2_with fail
    refine HLN.out.mono ?_
    rintro e w4 ⟨rfl,hb4⟩
    have HO4:=Lib.hid (own_belowS HOW.out hb4)
    have HB4:=Lib.hid (HB.out.trans (hb4.mono HB.out.size))
    clear hb4
    go_wp2_with fail
    go_loopw [26] (fun i wr=> ∃(j:Nat) (L:List Nat),j≤M∧i= .int .i64 (j:Int)∧SoW l (k+j) L∧wr.ownsRow w1.heap.size 3 1 (.slice (some ⟨w1.heap.size,0,none⟩) l.length l.length) l.length (ints L)∧Below w.heap.size w wr) (fun i _=>M-(intOf i).toNat)
    case atStart=>exact ⟨0,L,Nat.zero_le _,rfl,HSO.out,HO4.out,HB4.out⟩
    case round=>
     obtain ⟨j,L2,hj,rfl,hso2,hown2,hB2⟩:=hrel
     have HS2:=Lib.hid hso2;have HBR:=Lib.hid hB2;have HOR:=Lib.hid hown2
     clear hso2 hB2 hown2
     by_cases hjl:j<M
     ·have hjI:(j:Int)<(M:Int):=by omega
      have hS:=HS2.out.set (by omega) (HFR.out.1 j hjl)
      have hst:=HOR.out.stored (k+j) (.int .i64 (X:Int))
      rw [ints_set] at hst
      have HSS:=Lib.hid hS;have HST:=Lib.hid hst.1
      have HBS:=Lib.hid (HBR.out.setCell (p:=⟨w1.heap.size,k+j,none⟩) (by simpa using hs1) (.int .i64 (X:Int)))
      obtain ⟨y0,g0⟩: ∃u,wr.cell? ⟨w1.heap.size,k+j,none⟩=some u:=by
       rw [HOR.out.cellAt (k+j) (by omega),List.getElem?_eq_getElem (by have:=HOR.out.1;omega)];exact ⟨_,rfl⟩
      have z0:=HOR.out.frozenAt (k+j)
      have hw0:IntKind.i64.wrap ((k:Int)+(j:Int))=((k+j:Nat):Int):=by rw [IntWalk.i64_in _ (by omega)];omega
      have hb0:(0:Int)≤((k+j:Nat):Int):=by omega
      have hb1:((k+j:Nat):Int)<(l.length:Int):=by omega
      clear hS hst
      go_wp2
      go_roundw
      case rel=>exact ⟨j+1,_,by omega,by go_num,HSS.out,HST.out,HBS.out⟩
      case measure=>simp [intOf];omega
     ·obtain rfl:j=M:=by omega
      have hjI: ¬(j:Int)<(j:Int):=by omega
      have HSN:=Lib.hid (HS2.out.more HFR.out.2.1)
      have hwa:IntKind.i64.wrap ((j:Int)+1)=(j:Int)+1:=by rw [IntWalk.i64_in _ (by omega)]
      have hwb:IntKind.i64.wrap ((k:Int)+((j:Int)+1))=((k+j+1:Nat):Int):=by rw [IntWalk.i64_in _ (by omega)];omega
      go_wp2
      go_roundw
      case rel=>exact ⟨k+j+1,L2,by omega,by go_num,HFR.out.2.2,HSN.out,HOR.out,HBR.out⟩
      case measure=>simp [intOf];omega
   ·have hltI: ¬(k:Int)<(l.length:Int):=by omega
    have HL:=Lib.hid (HSO.out.done (by omega))
    have HFO:=Lib.hid (own_base HOW.out (fun g hg=>by have:=(HOW.out.lt g hg).1;omega):wr.ownsRow w.heap.size 3 1 (.slice (some ⟨w1.heap.size,0,none⟩) l.length l.length) l.length (ints L))
    go_wp2
    go_ret
    exact ⟨_,rfl,by rw [wdL_length,←HL.out];exact HFO.out,HB.out⟩
 |false=>
  have HD:=Lib.hid (show wdD l=[] by unfold wdD;rw [if_neg (by rw [hok];simp)])
  rw [HD.out]
  rw [hok] at HC
  go_enter Tryz.func15,Tryz.ntmps15
  go_wp2_with fail
  refine HC.out.mono ?_
  rintro e w1 ⟨rfl,hb1⟩
  have HB1:=Lib.hid hb1;clear hb1
  go_wp2
  go_ret
  exact ⟨_,rfl,World.ownsRow_nil _ _ _ _,HB1.out⟩
end Go.Proofs.YtegdjjjpoahamaaGreatDoor
