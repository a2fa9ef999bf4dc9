/-
  Part of the proof of FnAlignDocument.
-/
import Derived.Test.YtegdjjjpoahamaaGreatDoorQQAad
import Derived.Below
import Derived.IntWalk
import Derived.Deep.AppendLies
import Derived.Deep.Onto
import Derived.Deep.Draws
import Derived.Deep.RegionHeld3
import Derived.RegionTactic
import Derived.Deep.RegionLaw
import Derived.Deep.DrawnRows
import Derived.StillTailTactics
set_option linter.unusedVariables false
set_option maxHeartbeats 8000000
set_option maxRecDepth 100000
namespace Go.Proofs.YtegdjjjpoahamaaGreatDoor
open Go.RowKit
theorem align_lines (l:List It):linesB (alignT l)=if alignK l=true then printL (padL l) else []:=by
 by_cases hk:alignK l=true
 ·rw [if_pos hk,alignT,if_pos hk]
  unfold alignK at hk
  rw [Bool.and_eq_true] at hk
  exact (lines_join _ hk.2).2
 ·rw [if_neg hk,alignT,if_neg hk];rfl
theorem align_size (l:List It):(alignT l).size≤20000:=by
 unfold alignT
 split
 ·rename_i hk
  unfold alignK at hk
  rw [Bool.and_eq_true] at hk
  have h:=(lines_join _ hk.2).1
  simp only [textB,Bool.and_eq_true,decide_eq_true_eq] at h
  exact h.1
 ·exact Nat.zero_le _
theorem align_count (l:List It):(linesB (alignT l)).length≤l.length∧(alignK l=true→(linesB (alignT l)).length=l.length):=by
 have h:(printL (padL l)).length=l.length:=by rw [printL_length,padL_length]
 rw [align_lines]
 split
 ·exact ⟨Nat.le_of_eq h,fun _=>h⟩
 ·rename_i hk;exact ⟨Nat.zero_le _,fun h'=>absurd h' hk⟩
theorem align_lineAt {l:List It} (hk:alignK l=true) (k:Nat) (hlt:k<l.length): ∃D m:Nat,D≤4∧(wdL 0 l)[k]? =some m∧(linesB (alignT l))[k]? =some (baL (lineI l[k] D m)):=by
 rw [align_lines,if_pos hk]
 unfold alignK at hk
 rw [Bool.and_eq_true] at hk
 obtain ⟨D,m,-,h2,h3,h4⟩:=align_at ((docB_iff l).mp hk.1).2.2 k hlt
 exact ⟨D,m,h2,h3,h4⟩
theorem align_reads {R:ByteArray→List Cl} (hR: ∀l,okE l=true→R (baL (textE l))=l) {l:List It} (h:alignK l=true):readD R (alignT l)=(l,-1):=by
 have hd:docB l=true:=by unfold alignK at h;rw [Bool.and_eq_true] at h;exact h.1
 have hj:joinOk (printL (padL l))=true:=by unfold alignK at h;rw [Bool.and_eq_true] at h;exact h.2
 have ht:textB (alignT l)=true:=by rw [alignT,if_pos h];exact (lines_join _ hj).1
 rw [readD,if_pos ht]
 refine lines_read hR hd _ ((align_count l).2 h) fun k h1 h2=> ?_
 obtain ⟨D,m,-,-,e⟩:=align_lineAt h k h2
 rw [List.getElem?_eq_getElem h1] at e
 injection e with e
 exact ⟨D,m,by rw [e,baL_list]⟩
noncomputable def colL (l:List It):List Int:=List.zipWith (fun (i:It) (s:ByteArray)=>if i.1=3 then Lib.indexByte s.data.toList 61 else-1) l (linesB (alignT l))
theorem colL_length (l:List It):(colL l).length=(linesB (alignT l)).length:=by
 unfold colL;rw [List.length_zipWith];exact Nat.min_eq_right (align_count l).1
theorem colL_at {l:List It} {k:Nat} (hk:k<(linesB (alignT l)).length) (h:k<l.length):(colL l)[k]? =some (if l[k].1=3 then Lib.indexByte (linesB (alignT l))[k].data.toList 61 else-1):=by
 rw [List.getElem?_eq_getElem (by rw [colL_length];exact hk)]
 unfold colL
 rw [List.getElem_zipWith]
theorem intsZ_take {L:List Int} {k:Nat} {n:Int} (h:L[k]? =some n):intsZ (L.take (k+1))=intsZ (L.take k)++[.int .i64 n]:=by
 obtain ⟨hk,e⟩:=List.getElem?_eq_some_iff.mp h
 rw [List.take_succ_eq_append_getElem hk,e]
 simp [intsZ]
theorem strIndexByte_any (s:ByteArray) (c:Int) (w:World):
  Calls Tryz.prog 62 #[.string s, .int .u8 c] w fun e w'=>e= .returned (.int .i64 (Lib.indexByte s.data.toList c.toNat.toUInt8))∧w=w':=by
 go_enter Tryz.func62,Tryz.ntmps62
 go_wp2_with fail
 refine (indexByte_any s c _).mono ?_
 rintro e w1 ⟨rfl,hw⟩
 subst hw
 go_wp2
 go_ret
 exact ⟨rfl,rfl⟩
theorem alignColumns_impl (v:Value) (l:List It) (w:World) (hr:RowIt w v l) (hz:ShortI l) (hl:l.length≤1048576) (htab:Tab w):
  Calls Tryz.prog 25 #[v] w fun e w'=> ∃v',e= .returned v'∧w'.ownsRow w.heap.size 3 1 v' (colL l).length (intsZ (colL l))∧Below w.heap.size w w':=by
 obtain ⟨i0,hi,hz0,hz1,hz2⟩:=info_parts infoN
 have HC:=Lib.hid (alignDocument_impl v l w hr hz htab)
 have HR:=Lib.hid hr
 have HSZ:=Lib.hid (align_size l);have HCN:=Lib.hid (align_count l).1;have HCL:=Lib.hid (colL_length l)
 have HCA:=Lib.hid (fun (k:Nat) (h1:k<(linesB (alignT l)).length) (h2:k<l.length)=>colL_at h1 h2)
 obtain ⟨ao,cap,rfl,h1,h2,h3⟩:=hr
 unfold maxLen at h2
 have H3:=Lib.hid h3
 clear h3 hz
 rw [HCL.out]
 generalize alignT l=T at HC HSZ HCN HCA HCL⊢
 go_enter Tryz.func25,Tryz.ntmps25
 go_wp2_with fail
 refine HC.out.mono ?_
 rintro e w1 ⟨rfl,hb1⟩
 have HB1:=Lib.hid hb1;clear hb1
 go_wp2_with fail
 refine (linesOf_impl T w1 (by have:=HSZ.out;unfold maxLen;omega)).mono ?_
 rintro e w2 ⟨v2,rfl,ho2,hb2⟩
 have HB2:=Lib.hid (HB1.out.trans (hb2.mono HB1.out.size))
 have HLW:=Lib.hid (RowOf.of_own ho2)
 obtain ⟨la,lc,rfl⟩:=own_shape ho2
 clear ho2 hb2
 obtain ⟨L,hL⟩: ∃L,L=linesB T:=⟨_,rfl⟩
 rw [←hL] at HCN HCA HCL HLW
 rw [←hL]
 have HLB:=Lib.hid hL.symm
 clear hL
 have hcn:=HCN.out
 go_wp2_with fail
 go_loopw [5,8,17] (fun a _ i wr=> ∃k:Nat,k≤L.length∧i= .int .i64 (k:Int)∧wr.ownsRow w2.heap.size 3 1 a k (intsZ ((colL l).take k))∧Below w2.heap.size w2 wr) (fun _ _ i _=>L.length-(intOf i).toNat)
 case atStart=>exact ⟨0,Nat.zero_le _,rfl,World.ownsRow_nil _ _ _ _,Below.refl _ _⟩
 case round=>
  obtain ⟨k,hk,rfl,hown,hB⟩:=hrel
  have HOW:=Lib.hid hown;have HB:=Lib.hid hB
  obtain ⟨aa,ac,rfl⟩:=own_shape hown
  clear hown hB
  by_cases hlt:k<L.length
  ·have hltI:(k:Int)<(L.length:Int):=by omega
   have hlt2:k<l.length:=by omega
   have hlt2I:(k:Int)<(l.length:Int):=by omega
   obtain ⟨b,o,rfl,hbl,cc⟩:=H3.out.resolve_left (by rintro rfl;simp at hlt2)
   obtain ⟨u,hu⟩:=cc k hlt2
   have d0:=(hu.mono hbl (HB2.out.trans (HB.out.mono HB2.out.size))).1
   have HX:=Lib.hid (HCA.out k hlt hlt2)
   have hs: ∃bs os,la=some ⟨bs,os,none⟩∧wr.cell? ⟨bs,os+k,none⟩=some (.string L[k]):=by
    obtain ⟨bo,bcap,hsl,q1,q2,q3⟩:=HLW.out
    rw [strs_length] at hsl
    simp only [Value.slice.injEq] at hsl
    obtain ⟨rfl,-,rfl⟩:=hsl
    obtain ⟨bs,os,rfl,hbs,hcs⟩:=q3.resolve_left (fun e=>by have:=congrArg List.length e;rw [strs_length,List.length_nil] at this;omega)
    refine ⟨bs,os,rfl,(HB.out.cell (p:=⟨bs,_,none⟩) hbs).trans (hcs k _ ?_)⟩
    simp [strs,hlt]
   obtain ⟨bs,os,rfl,ds⟩:=hs
   clear cc hu
   generalize L[k]=t at ds HX
   by_cases h3:l[k].1=3
   ·rw [h3] at d0
    rw [if_pos h3] at HX
    clear h3
    go_wp2_with fail
    refine (strIndexByte_any t 61 _).mono ?_
    rintro e w3 ⟨rfl,hw⟩
    subst hw
    have hx:(61:Int).toNat.toUInt8=61:=rfl
    rw [hx]
    generalize Lib.indexByte t.data.toList 61=x at HX
    go_wp2_with (at_builtin;refine wpList_append_own _ rfl _ _ 25 rfl w2.heap.size 3 i0 (.int .i64 0) 1 8 Tryz.underlying25 hi hz0 hz1 hz2 rfl (by decide) _ _ _ rfl (HOW.out.alloc _) ⟨wr.heap.size,0,none⟩ 1 1 [.int .i64 x] rfl rfl (World.news_of_block (cs:= #[.int .i64 x]) (t:=3) (fr:=(0,0)) (heap_alloc_new wr _)) (by simp [Value.oneCell']) (by unfold maxLen;omega) (by omega) (by simp;exact Nat.le_succ_of_le HB.out.size) ?_;intro v' w4 hown' hgrow hnil;have HB4:=Lib.hid ((HB.out.alloc HB.out.size _).grown hgrow (by have:=HB.out.size;simp;omega) (fun q hq=>(HOW.out.lt q hq).1));have HO4:=Lib.hid hown';clear hown' hgrow hnil)
    go_wp2
    go_roundw
    case rel=>exact ⟨k+1,by omega,by go_num,by rw [intsZ_take HX.out];exact HO4.out,HB4.out⟩
    case measure=>simp [intOf];omega
   ·have e3:(l[k].1==3)=false:=beq_eq_false_iff_ne.mpr h3
    rw [if_neg h3] at HX
    clear h3
    generalize l[k].1=kk at d0 e3
    go_wp2_with (at_builtin;refine wpList_append_own _ rfl _ _ 25 rfl w2.heap.size 3 i0 (.int .i64 0) 1 8 Tryz.underlying25 hi hz0 hz1 hz2 rfl (by decide) _ _ _ rfl (HOW.out.alloc _) ⟨wr.heap.size,0,none⟩ 1 1 [.int .i64 (-1)] rfl rfl (World.news_of_block (cs:= #[.int .i64 (-1)]) (t:=3) (fr:=(0,0)) (heap_alloc_new wr _)) (by simp [Value.oneCell']) (by unfold maxLen;omega) (by omega) (by simp;exact Nat.le_succ_of_le HB.out.size) ?_;intro v' w4 hown' hgrow hnil;have HB4:=Lib.hid ((HB.out.alloc HB.out.size _).grown hgrow (by have:=HB.out.size;simp;omega) (fun q hq=>(HOW.out.lt q hq).1));have HO4:=Lib.hid hown';clear hown' hgrow hnil)
    go_wp2
    go_roundw
    case rel=>exact ⟨k+1,by omega,by go_num,by rw [intsZ_take HX.out];exact HO4.out,HB4.out⟩
    case measure=>simp [intOf];omega
  ·obtain rfl:k=L.length:=by omega
   have hltI: ¬(L.length:Int)<(L.length:Int):=by omega
   have HFO:=Lib.hid (show wr.ownsRow w.heap.size 3 1 (.slice aa L.length ac) L.length (intsZ (colL l)) by
    have:=own_base HOW.out (fun g hg=>Nat.le_trans HB2.out.size (HOW.out.lt g hg).1)
    rw [List.take_of_length_le (Nat.le_of_eq HCL.out)] at this
    exact this)
   go_wp2
   go_ret
   exact ⟨_,rfl,by rw [HLB.out];exact HFO.out,HB2.out.trans (HB.out.mono HB2.out.size)⟩
theorem ints_take {L:List Nat} {k n:Nat} (h:L[k]? =some n):ints (L.take (k+1))=ints (L.take k)++[.int .i64 (n:Int)]:=by
 obtain ⟨hk,e⟩:=List.getElem?_eq_some_iff.mp h
 rw [List.take_succ_eq_append_getElem hk,e]
 simp [ints]
theorem alignWidths_spec (v:Value) (l:List It) (w:World) (hr:RowIt w v l) (hz:ShortI l) (hl:l.length≤1048576):
  Calls Tryz.prog 17 #[v] w (NewInts (wdD l) w):=by
 obtain ⟨i0,hi,hz0,hz1,hz2⟩:=info_parts infoI
 have HR:=Lib.hid hr
 have HC:=Lib.hid (fun w' hr'=>documentValid_spec v l w' hr' hz hl)
 obtain ⟨ao,cap,rfl,h1,h2,h3⟩:=hr
 unfold maxLen at h2
 have H3:=Lib.hid h3
 have HL0:=Lib.hid (World.ownsRow_lit (base:=w.heap.size) (size:=1) (e:=3) w #[] 0 (Nat.le_refl _) (by unfold maxLen;omega) rfl)
 have HB0:=Lib.hid ((Below.refl w.heap.size w).alloc (Nat.le_refl _) (.cells #[] 3))
 clear h3 hz
 go_enter Tryz.func17,Tryz.ntmps17
 go_wp2_with fail
 refine (HC.out _ (HR.out.mono HB0.out)).mono ?_
 rintro e w1 ⟨rfl,hb1⟩
 have HO1:=Lib.hid (own_belowS HL0.out hb1)
 have HB1:=Lib.hid (HB0.out.trans (hb1.mono HB0.out.size))
 clear hb1 HL0
 cases hok:docB l with
 |true=>
  have HD:=Lib.hid (show wdD l=wdL 0 l by unfold wdD;rw [if_pos hok])
  clear hok
  go_wp2_with fail
  go_loopw [3,4,5,6,7] (fun a i _ _ _ wr=> ∃k:Nat,k≤l.length∧i= .int .i64 (k:Int)∧wr.ownsRow w.heap.size 3 1 a k (ints ((wdL 0 l).take k))∧Below w.heap.size w wr) (fun _ i _ _ _ _=>l.length-(intOf i).toNat)
  case atStart=>exact ⟨0,Nat.zero_le _,rfl,HO1.out,HB1.out⟩
  case round=>
   obtain ⟨k,hk,rfl,hown,hB⟩:=hrel
   have HOW:=Lib.hid hown;have HB:=Lib.hid hB
   obtain ⟨aa,ac,rfl⟩:=own_shape hown
   clear hown hB
   by_cases hlt:k<l.length
   ·have hltI:(k:Int)<(l.length:Int):=by omega
    obtain ⟨b,o,rfl,hbl,cc⟩:=H3.out.resolve_left (by rintro rfl;simp at hlt)
    have HCE:=Lib.hid (show∀j,(hj:j<l.length)→wr.cell? ⟨b,o+j*4,none⟩=some (.int .i64 l[j].1)∧wr.cell? ⟨b,o+j*4+1,none⟩=some (.string l[j].2.1) from fun j hj=>by
     obtain ⟨u,hu⟩:=cc j hj
     obtain ⟨d0,d1,-⟩:=hu.mono hbl HB.out
     exact ⟨d0,d1⟩)
    obtain ⟨d0,-⟩:=HCE.out k hlt
    clear cc
    have HWA:=Lib.hid (wdL_at l 0 k hlt)
    obtain ⟨W,hW⟩: ∃W,W=caL 0 (l.take (k+1)):=⟨_,rfl⟩
    obtain ⟨V,hV⟩: ∃V,V=max W (fwL (l.drop k)):=⟨_,rfl⟩
    have HW:=Lib.hid hW;have HV:=Lib.hid hV
    have HFIN:=Lib.hid (show l[k].1=3→(wdL 0 l)[k]? =some V from fun h=>by
     rw [HWA.out,if_pos h,HV.out,HW.out,ca_e hlt,caW,if_pos h,fw_e hlt h]
     congr 1;omega)
    have HNOT:=Lib.hid (show¬l[k].1=3→(wdL 0 l)[k]? =some 0 from fun h=>by rw [HWA.out,if_neg h])
    clear hW hV HWA
    by_cases h3:l[k].1=3
    case neg=>
     have e3:(l[k].1==3)=false:=beq_eq_false_iff_ne.mpr h3
     have HFX:=Lib.hid (HNOT.out h3)
     clear h3 HFIN HNOT
     generalize l[k].1=kk at d0 e3
     go_wp2_with (at_builtin;refine wpList_append_own _ rfl _ _ 25 rfl w.heap.size 3 i0 (.int .i64 0) 1 8 Tryz.underlying25 hi hz0 hz1 hz2 rfl (by decide) _ _ _ rfl (HOW.out.alloc _) ⟨wr.heap.size,0,none⟩ 1 1 [.int .i64 0] rfl rfl (World.news_of_block (cs:= #[.int .i64 0]) (t:=3) (fr:=(0,0)) (heap_alloc_new wr _)) (by simp [Value.oneCell']) (by unfold maxLen;omega) (by omega) (by simp;exact Nat.le_succ_of_le HB.out.size) ?_;intro v' w2 hown' hgrow hnil;have HB2:=Lib.hid ((HB.out.alloc HB.out.size _).grown hgrow (by have:=HB.out.size;simp;omega) (fun q hq=>(HOW.out.lt q hq).1));have HO2:=Lib.hid hown';clear hown' hgrow hnil)
     go_wp2
     go_roundw
     case rel=>exact ⟨k+1,by omega,by go_num,by rw [ints_take HFX.out];exact HO2.out,HB2.out⟩
     case measure=>simp [intOf];omega
    case pos=>
     rw [h3] at d0
     have HF3:=Lib.hid (HFIN.out h3)
     clear h3 HFIN HNOT
     go_wp2_with fail
     go_loopw [5,6] (fun m j wx=> ∃(M J:Nat) (z:Int),J≤k+1∧m= .int .i64 (M:Int)∧j= .int .i64 z∧z=(J:Int)-1∧max M (caL 0 (l.take J))=W∧wx=wr) (fun _ j _=>(intOf j+1).toNat)
     case atStart=>exact ⟨0,k+1,_,Nat.le_refl _,rfl,rfl,by omega,by rw [HW.out];exact Nat.zero_max _,rfl⟩
     case round=>
      obtain ⟨M,J,z,hJ,rfl,rfl,hz,hm,hwx⟩:=hrel
      subst hwx
      have HM:=Lib.hid hm;clear hm
      by_cases hJ0:J=0
      case' pos=>
       have hg: ¬(0:Int)≤z:=by omega
       have HMW:=Lib.hid (show M=W by have:=HM.out;rw [hJ0,List.take_zero,caL] at this;omega)
       clear hz hJ0
      case' neg=>
       obtain ⟨J,rfl⟩: ∃j,J=j+1:=⟨J-1,by omega⟩
       obtain rfl:z=(J:Int):=by omega
       clear hz
       have hJl:J<l.length:=by omega
       have hJI:(J:Int)<(l.length:Int):=by omega
       obtain ⟨c0,c1⟩:=HCE.out J hJl
       have HCA:=Lib.hid (ca_e hJl 0)
       have hg:(0:Int)≤(J:Int):=by omega
       by_cases h3:l[J].1=3
       case' pos=>
        rw [h3] at c0
        have HX:=Lib.hid (show max (max M l[J].2.1.size) (caL 0 (l.take J))=W by have h9:=HM.out;rw [HCA.out,caW,if_pos h3] at h9;omega)
        have hwr:IntKind.i64.wrap ((J:Int)-1)=(J:Int)-1:=by rw [IntWalk.i64_in _ (by omega)]
        generalize l[J].2.1=nm at c1 HX
        clear h3 HM HCA
        go_wp2
        go_roundw
        case rel=>exact ⟨max M nm.size,J,_,by omega,by go_num,rfl,rfl,HX.out,by trivial⟩
        case measure=>simp [intOf]<;>omega
       case' neg=>
        have e3:(l[J].1==3)=false:=beq_eq_false_iff_ne.mpr h3
        have HMW:=Lib.hid (show M=W by have h9:=HM.out;rw [HCA.out,caW,if_neg h3] at h9;omega)
        clear h3
        generalize l[J].1=kj at c0 e3
      all_goals
       go_wp2_with fail
       go_loopw [5,7] (fun m j wy=> ∃(M J:Nat),J≤l.length∧m= .int .i64 (M:Int)∧j= .int .i64 (J:Int)∧max M (fwL (l.drop J))=V∧wy=wr) (fun _ j _=>l.length-(intOf j).toNat)
       case atStart=>exact ⟨M,k,by omega,rfl,rfl,by rw [HMW.out,HV.out],rfl⟩
       case round=>
        obtain ⟨M2,J2,hJ2,rfl,rfl,hm2,hwy⟩:=hrel
        subst hwy
        have HM2:=Lib.hid hm2;clear hm2
        by_cases hJl2:J2<l.length
        case' pos=>
         have hJI2:(J2:Int)<(l.length:Int):=by omega
         obtain ⟨f0,f1⟩:=HCE.out J2 hJl2
         by_cases h3:l[J2].1=3
         case' pos=>
          rw [h3] at f0
          have HX2:=Lib.hid (show max (max M2 l[J2].2.1.size) (fwL (l.drop (J2+1)))=V by have h9:=HM2.out;rw [fw_e hJl2 h3] at h9;omega)
          generalize l[J2].2.1=nm2 at f1 HX2
          clear h3 HM2
          go_wp2
          go_roundw
          case rel=>exact ⟨max M2 nm2.size,J2+1,by omega,by go_num,by go_num,HX2.out,by trivial⟩
          case measure=>simp [intOf];omega
         case' neg=>
          have e4:(l[J2].1==3)=false:=beq_eq_false_iff_ne.mpr h3
          have HFX:=Lib.hid (show (wdL 0 l)[k]? =some M2 by have h9:=HM2.out;rw [fw_n hJl2 h3] at h9;rw [HF3.out];congr 1;omega)
          clear h3
          generalize l[J2].1=kj2 at f0 e4
        case' neg=>
         obtain rfl:J2=l.length:=by omega
         have hJI2: ¬(l.length:Int)<(l.length:Int):=by omega
         have HFX:=Lib.hid (show (wdL 0 l)[k]? =some M2 by have h9:=HM2.out;rw [List.drop_length,fwL] at h9;rw [HF3.out];congr 1;omega)
        all_goals
         go_wp2_with (at_builtin;refine wpList_append_own _ rfl _ _ 25 rfl w.heap.size 3 i0 (.int .i64 0) 1 8 Tryz.underlying25 hi hz0 hz1 hz2 rfl (by decide) _ _ _ rfl (HOW.out.alloc _) ⟨wr.heap.size,0,none⟩ 1 1 [.int .i64 (M2:Int)] rfl rfl (World.news_of_block (cs:= #[.int .i64 (M2:Int)]) (t:=3) (fr:=(0,0)) (heap_alloc_new wr _)) (by simp [Value.oneCell']) (by unfold maxLen;omega) (by omega) (by simp;exact Nat.le_succ_of_le HB.out.size) ?_;intro v' w2 hown' hgrow hnil;have HB2:=Lib.hid ((HB.out.alloc HB.out.size _).grown hgrow (by have:=HB.out.size;simp;omega) (fun q hq=>(HOW.out.lt q hq).1));have HO2:=Lib.hid hown';clear hown' hgrow hnil)
         go_wp2
         go_roundw
         case rel=>exact ⟨k+1,by omega,by go_num,by rw [ints_take HFX.out];exact HO2.out,HB2.out⟩
         case measure=>simp [intOf];omega
   ·obtain rfl:k=l.length:=by omega
    have hltI: ¬(l.length:Int)<(l.length:Int):=by omega
    have HFO:=Lib.hid (show wr.ownsRow w.heap.size 3 1 (.slice aa l.length ac) (wdL 0 l).length (ints (wdL 0 l)) by
     have:=HOW.out
     rw [List.take_of_length_le (by rw [wdL_length];exact Nat.le_refl _)] at this
     rw [wdL_length];exact this)
    go_wp2
    go_ret
    exact ⟨_,rfl,by rw [HD.out];exact HFO.out,HB.out⟩
 |false=>
  have HD:=Lib.hid (show wdD l=[] by unfold wdD;rw [if_neg (by rw [hok];simp)])
  go_wp2
  go_ret
  exact ⟨_,rfl,by rw [HD.out];exact HO1.out,HB1.out⟩
theorem alignDocument_spec (v:Value) (l:List It) (w:World) (hr:RowIt w v l) (hz:ShortI l) (hl:l.length≤1048576):
 Calls Tryz.prog 22 #[v] w fun e w'=>e= .returned (.tuple #[.string (alignT l), .bool (alignK l)])∧Below w.heap.size w w':=by
 have HC:=Lib.hid (documentValid_spec v l w hr hz hl)
 have HR:=Lib.hid hr
 have HAW:=Lib.hid (fun w' hr'=>alignWidths_spec v l w' hr' hz hl)
 obtain ⟨ao,cap,rfl,h1,h2,h3⟩:=hr
 unfold maxLen at h2
 have H3:=Lib.hid h3;have HZ:=Lib.hid hz
 clear h3 hz
 obtain ⟨i0,hi,hz0,hz1,hz2⟩:=info_parts infoStr
 cases hok:docB l with
 |false=>
  obtain ⟨hk,ht⟩:=align_no hok
  rw [hk,ht]
  clear hk ht
  go_enter Tryz.func22,Tryz.ntmps22
  go_wp2_with fail
  refine HC.out.mono ?_
  rintro e w1 ⟨rfl,hb1⟩
  have HB1:=Lib.hid hb1;clear hb1
  rw [hok]
  clear hok
  go_wp2
  go_ret2
  exact ⟨rfl,HB1.out⟩
 |true=>
  have h30:=((docB_iff l).mp hok).1
  have HAL:=Lib.hid ((docB_iff l).mp hok).2.1
  have HN:=Lib.hid ((docB_iff l).mp hok).2.2
  have HPT:=Lib.hid (align_join hok)
  have HPL:=Lib.hid (align_line ((docB_iff l).mp hok).2.2)
  have HPS:=Lib.hid (nest_sized (pad_short HZ.out) ((pad_dep l).2.trans ((docB_iff l).mp hok).2.2))
  have HLL:=Lib.hid (show (printL (padL l)).length=l.length by rw [printL_length,padL_length])
  have HWS:=Lib.hid (fun k n (h:(wdL 0 l)[k]? =some n)=>wd_short hok h)
  have HWD:=Lib.hid (show wdD l=wdL 0 l by unfold wdD;rw [if_pos hok])
  rw [HPT.out.1,HPT.out.2]
  go_enter Tryz.func22,Tryz.ntmps22
  go_wp2_with fail
  refine HC.out.mono ?_
  rintro e w1 ⟨rfl,hb1⟩
  have HB1:=Lib.hid hb1;clear hb1
  rw [hok]
  clear hok
  go_wp2_with fail
  refine (l11Nest_any _ l _ (HR.out.mono HB1.out) hl).mono ?_
  rintro e w2 ⟨vd,d,L,rfl,hoL,hb2,hnn⟩
  have hLd:L=depL 0 l:=by
   rcases hnn with ⟨-,h⟩|⟨h,-⟩
   ·exact h
   ·rw [HN.out] at h;cases h
  have HDC:=Lib.hid (RowOf.of_own hoL)
  obtain ⟨da,dc,rfl⟩:=own_shape hoL
  have hLl:L.length=l.length:=by rw [hLd,depL_length]
  have HLD:=Lib.hid hLd
  have HB2:=Lib.hid (HB1.out.trans (hb2.mono HB1.out.size))
  clear hoL hb2 hnn hLd
  go_wp2_with fail
  refine (HAW.out _ (HR.out.mono HB2.out)).mono ?_
  rintro e wx ⟨vw,rfl,hox,hbx⟩
  rw [HWD.out,wdL_length] at hox
  have HWC:=Lib.hid (RowI.of_own hox).1
  obtain ⟨wa,wc,rfl⟩:=own_shape hox
  have HDX:=Lib.hid (HDC.out.mono hbx)
  have HBX:=Lib.hid (HB2.out.trans (hbx.mono HB2.out.size))
  clear hox hbx
  have HLI:=Lib.hid (World.ownsRow_lit (base:=wx.heap.size) (size:=1) (e:=9) wx #[] 0 (Nat.le_refl _) (by unfold maxLen;omega) rfl)
  have HBL:=Lib.hid ((Below.refl wx.heap.size wx).alloc (Nat.le_refl _) (.cells #[] 9))
  go_wp2_with fail
  go_loopw [7,8] (fun a i wr=> ∃k:Nat,k≤l.length∧i= .int .i64 (k:Int)∧wr.ownsRow wx.heap.size 9 1 a k (strs ((printL (padL l)).take k))∧Below wx.heap.size wx wr) (fun _ i _=>l.length-(intOf i).toNat)
  case atStart=>exact ⟨0,Nat.zero_le _,rfl,HLI.out,HBL.out⟩
  case round=>
   obtain ⟨k,hk,rfl,hown,hbr⟩:=hrel
   have HOW:=Lib.hid hown;have HBR:=Lib.hid hbr
   have HBW:=Lib.hid (HBX.out.trans (hbr.mono HBX.out.size))
   obtain ⟨aa,ac,rfl⟩:=own_shape hown
   clear hown hbr
   by_cases hlt:k<l.length
   ·have hltI:(k:Int)<(l.length:Int):=by omega
    obtain ⟨b,o,rfl,hbl,cc⟩:=H3.out.resolve_left (by rintro rfl;simp at hlt)
    obtain ⟨u,hu⟩:=cc k hlt
    obtain ⟨d0,d1,d2,d3,hru⟩:=hu.mono hbl HBW.out
    obtain ⟨z1,z2,z3,z4⟩:=HZ.out _ (List.getElem_mem hlt)
    obtain ⟨D,m,hD,hD4,hm,hTK⟩:=HPL.out k hlt
    have hm12:=HWS.out k m hm
    have hvi:itemB l[k]=true:=by have:=HAL.out;rw [List.all_eq_true] at this;exact this _ (List.getElem_mem hlt)
    have hDc: ∃bd od,da=some ⟨bd,od,none⟩∧bd<wx.heap.size∧wr.cell? ⟨bd,od+k,none⟩=some (.int .i64 (D:Int)):=by
     obtain ⟨bo,bcap,hsl,g1,g2,g3⟩:=HDX.out
     rw [intsZ_length] at hsl g1
     simp only [Value.slice.injEq] at hsl
     obtain ⟨rfl,-,rfl⟩:=hsl
     obtain ⟨bd,od,rfl,hbd,hcd⟩:=g3.resolve_left (fun e=>by have:=congrArg List.length e;rw [intsZ_length,List.length_nil] at this;omega)
     refine ⟨bd,od,rfl,hbd,(HBR.out.cell (p:=⟨bd,_,none⟩) hbd).trans (hcd k _ ?_)⟩
     rw [←HLD.out] at hD
     simp [intsZ,hD]
    obtain ⟨bd,od,rfl,hbdl,dd⟩:=hDc
    have hdc:L.length≤dc:=by
     obtain ⟨bo,bcap,hsl,g1,g2,g3⟩:=HDX.out
     rw [intsZ_length] at hsl g1
     simp only [Value.slice.injEq] at hsl
     obtain ⟨-,-,rfl⟩:=hsl
     exact g1
    have hWc: ∃bw,wa=some ⟨bw,0,none⟩∧bw<wx.heap.size∧wr.cell? ⟨bw,k,none⟩=some (.int .i64 (m:Int)):=by
     obtain ⟨a,c,hv,-,-,h3⟩:=HWC.out
     injection hv with e1 e2 e3
     obtain ⟨bw,ha,hbw,hc⟩:=h3.resolve_left (fun e=>by have:=congrArg List.length e;rw [wdL_length,List.length_nil] at this;omega)
     refine ⟨bw,e1.trans ha,hbw,(HBR.out.cell (p:=⟨bw,_,none⟩) hbw).trans ?_⟩
     rw [hc k (by rw [wdL_length];exact hlt),(List.getElem?_eq_some_iff.mp hm).2]
    obtain ⟨bw,rfl,hbwl,ww⟩:=hWc
    have hwc:l.length≤wc:=by
     obtain ⟨a,c,hv,g1,-,-⟩:=HWC.out
     injection hv with e1 e2 e3
     rw [wdL_length] at g1;omega
    generalize l[k]=it at d0 d1 d2 d3 hru hTK hvi z1 z4
    obtain ⟨ik,inm,ics,int⟩:=it
    simp only at d0 d1 d2 d3 hru z1 z4
    obtain ⟨au,cu,rfl⟩: ∃au cu,u= .slice au ics.length cu:=by obtain ⟨au,cu,h,-⟩:=hru;exact ⟨au,cu,h⟩
    have HTK:=Lib.hid hTK
    have HLN:=Lib.hid (fun ww hh=>line_spec (ik,inm,ics,int) (.slice au ics.length cu) D m ww hvi hh z1 z4 hD4 (by omega))
    have HRD:=Lib.hid (show RowC wr.drew (.slice au ics.length cu) ics from hru.drewN 1)
    have HOD:=Lib.hid (show wr.drew.ownsRow wx.heap.size 9 1 (.slice aa k ac) k (strs ((printL (padL l)).take k)) from HOW.out.drew)
    have hs2:=HBR.out.size
    clear cc hu hru hTK hvi z1 z2 z3 z4 hD hm
    generalize baL (lineI (ik,inm,ics,int) D m)=LN at HTK HLN
    have hbk0:(0:Int)≤(k:Int):=by omega
    have hbkL:(k:Int)<(L.length:Int):=by omega
    have HCE:=Lib.hid (show∀W',Below wx.heap.size wx W'→W'.cell? ⟨b,o+k*4,none⟩=some (.int .i64 ik)∧W'.cell? ⟨b,o+k*4+1,none⟩=some (.string inm)∧W'.cell? ⟨b,o+k*4+2,none⟩=some (.slice au ics.length cu)∧W'.cell? ⟨b,o+k*4+3,none⟩=some (.string int)∧W'.cell? ⟨bd,od+k,none⟩=some (.int .i64 (D:Int))∧W'.cell? ⟨bw,k,none⟩=some (.int .i64 (m:Int)) from fun W' hb'=>
     have hbl':b<wx.heap.size:=Nat.lt_of_lt_of_le hbl HBX.out.size
     have cc: ∀(bb j:Nat),bb<wx.heap.size→W'.cell? ⟨bb,j,none⟩=wr.cell? ⟨bb,j,none⟩:=fun bb j h=>(hb'.cell (p:=⟨bb,j,none⟩) h).trans (HBR.out.cell (p:=⟨bb,j,none⟩) h).symm
     ⟨(cc b _ hbl').trans d0,(cc b _ hbl').trans d1,(cc b _ hbl').trans d2,(cc b _ hbl').trans d3,(cc bd _ hbdl).trans dd,(cc bw _ hbwl).trans ww⟩)
    go_wp2_with fail
    go_region_held3 (fun W'=>W'.cell? ⟨b,o+k*4,none⟩=some (.int .i64 ik)∧W'.cell? ⟨b,o+k*4+1,none⟩=some (.string inm)∧W'.cell? ⟨b,o+k*4+2,none⟩=some (.slice au ics.length cu)∧W'.cell? ⟨b,o+k*4+3,none⟩=some (.string int)∧W'.cell? ⟨bd,od+k,none⟩=some (.int .i64 (D:Int))∧W'.cell? ⟨bw,k,none⟩=some (.int .i64 (m:Int)))
     (first|exact HCE.out _ HB4.out|exact HCE.out _ HB3.out|exact HCE.out _ HBR.out.drew|exact HCE.out _ HBR.out|go_keep)
     (first
       |((go_at_call 58;(with_reducible refine (HLN.out _ HRD.out).mono ?_);rintro e w3 ⟨rfl,hb3⟩;have hs3:=hb3.size;have HB3:=Lib.hid (HBR.out.drew.trans (hb3.mono HBR.out.size))))
       |(refine step_append_lies _ (by rfl) _ _ _ (by rfl) wx.heap.size 9 i0 _ 1 16 Tryz.underlying38 hi hz0 hz1 hz2 rfl (by omega) (.slice aa k ac) k _ (by rfl) (by exact ((own_belowS HOD.out hb3).alloc _))
          ⟨w3.heap.size,0,none⟩ 1 1 [.string LN] (by rfl) (by rfl) (World.news_of_block (cs:= #[.string LN]) (t:=9) (fr:=(0,0)) (heap_alloc_new w3 _)) (by simp [Value.oneCell'])
          (by omega) (by unfold maxLen;omega) (by omega) (by simp;exact Nat.le_succ_of_le (Nat.le_trans HBR.out.size hs3)) (w3.heap.size+1) (by simp) ?_;intro gg cap' w4 hown4 hgrow4 hat4 hlt4;have HB4:=Lib.hid ((HB3.out.alloc (Nat.le_trans HBR.out.size hs3) (.cells #[.string LN] 9)).grown hgrow4 (by simp;exact Nat.le_succ_of_le (Nat.le_trans HBR.out.size hs3)) (fun q hq=>(HOW.out.lt q hq).1))))
    all_goals
     have HO4:=Lib.hid hown4
     clear hown4 hgrow4 hat4 hlt4 hb3
     go_wp2
     go_roundw
     case rel=>exact ⟨k+1,by omega,by go_num,by rw [HTK.out,strs_append];exact HO4.out,HB4.out⟩
     case measure=>simp [intOf];omega
   ·obtain rfl:k=l.length:=by omega
    have hltI: ¬(l.length:Int)<(l.length:Int):=by omega
    have HFU:=Lib.hid (show RowOf wr (.slice aa l.length ac) (strs (printL (padL l))) from by
     have:=RowOf.of_own HOW.out
     rw [List.take_of_length_le (Nat.le_of_eq HLL.out)] at this
     exact this)
    go_wp2_with fail
    refine (linesText_spec _ (printL (padL l)) wr HFU.out HPS.out).mono ?_
    rintro e w5 ⟨hj,hw5⟩
    subst hw5
    unfold Joins at hj
    subst hj
    go_wp2
    go_ret2
    exact ⟨rfl,HBW.out⟩
def ScAt (w:World) (L:Nat) (l:List UInt8):Prop:=w.heap[L]? =some (.cells #[.string (baL l)] 84 (0,0))
section
variable {w w':World} {L:Nat} {l m:List UInt8}
theorem ScAt.lt (h:ScAt w L l):L<w.heap.size:=by
 rcases Nat.lt_or_ge L w.heap.size with hlt|hge
 ·exact hlt
 ·unfold ScAt at h;rw [Array.getElem?_eq_none hge] at h;cases h
theorem ScAt.cells (h:ScAt w L l):w.cell? ⟨L,0,none⟩=some (.string (baL l))∧w.frozen? ⟨L,0,none⟩=false:=by
 unfold ScAt at h
 constructor<;>simp [World.cell?,World.frozen?,h]
theorem ScAt.set (h:ScAt w L l):ScAt (w.setCell ⟨L,0,none⟩ (.string (baL m))) L m:=by
 unfold ScAt at h⊢;simp [World.setCell,Array.getElem?_modify,h]
theorem ScAt.below (h:ScAt w L l) (hb:Below w.heap.size w w'):ScAt w' L l:=(hb.block L h.lt).trans h
theorem ScAt.grown {r:Option Nat} (h:ScAt w L l) (hg:w.grownBy w' r) (hr:r≠some L):ScAt w' L l:=(hg.block L h.lt (fun e=>hr e.symm)).trans h
theorem ScAt.new (w:World) (l:List UInt8):ScAt (w.alloc (.cells #[.string (baL l)] 84)) w.heap.size l:=by
 exact heap_alloc_new w _
end
theorem scSt (w:World) (L:Nat) (u:Value):w.grownBy (w.setCell ⟨L,0,none⟩ u) (some L):=
 ⟨rfl,rfl,rfl,by simp [World.setCell],fun i hi hn=>Below.heap_setCell _ _ _ _ (fun e=>hn (by rw [e]))⟩
theorem scDr {w w':World} (h:w'=w∨w'=w.drew) (r:Option Nat):w.grownBy w' r:=by
 rcases h with rfl|rfl
 ·exact World.grownBy.refl _ _
 ·exact ⟨rfl,rfl,rfl,Nat.le_refl _,fun _ _ _=>rfl⟩
theorem scTr {a b c:World} {r:Option Nat} (h:a.grownBy b r) (k:b.grownBy c r):a.grownBy c r:=
 ⟨k.os.trans h.os,k.tape.trans h.tape,k.output.trans h.output,Nat.le_trans h.size k.size,fun i hi hn=>(k.block i (Nat.lt_of_lt_of_le hi h.size) hn).trans (h.block i hi hn)⟩
theorem ba_list2 (l:List UInt8):(⟨l.toArray⟩:ByteArray)=baL l:=rfl
def ScPost (L:Nat) (r:Value) (l:List UInt8) (w:World) (e:Ending) (w':World):Prop:=e= .returned r∧ScAt w' L l∧w.grownBy w' (some L)
theorem scTake (p:ByteArray) (l:List UInt8) (L:Nat) (w:World) (h:ScAt w L l):
  Calls Tryz.prog 114 #[.pointer (some ⟨L,0,none⟩), .string p] w (ScPost L (.bool (Lib.hasPrefix l p.data.toList)) (Lib.trimPrefix l p.data.toList) w):=by
 obtain ⟨c0,f0⟩:=h.cells
 have H:=Lib.hid h;clear h
 go_enter Tryz.func114,Tryz.ntmps114
 go_wp2_with fail
 refine (Tryz.strings_CutPrefix _ p _).mono ?_
 rintro e w1 ⟨rfl,rfl⟩
 rw [baL_list,ba_list2]
 go_wp2
 go_ret
 exact ⟨rfl,H.out.set,scSt _ _ _⟩
theorem scSkip (l:List UInt8) (L:Nat) (w:World) (h:ScAt w L l):
  Calls Tryz.prog 117 #[.pointer (some ⟨L,0,none⟩)] w (ScPost L (.tuple #[]) (trL l) w):=by
 obtain ⟨c0,f0⟩:=h.cells
 have H:=Lib.hid h;clear h
 go_enter Tryz.func117,Tryz.ntmps117
 go_wp2_with fail
 refine (Tryz.strings_TrimLeft_one _ 32 (by decide) _).mono ?_
 rintro e w1 ⟨rfl,rfl⟩
 rw [baL_list,ba_list2]
 go_wp2
 exact bodyPost_ret (v:= .tuple #[]) (by simp [results,Tryz.results117,go_sem]) rfl ⟨rfl,H.out.set,scSt _ _ _⟩
theorem scNote (l:List UInt8) (L:Nat) (w:World) (h:ScAt w L l) (hl:l.length≤2097152):
  Calls Tryz.prog 115 #[.pointer (some ⟨L,0,none⟩)] w (ScPost L (.string (baL (trimL l))) [] w):=by
 obtain ⟨c0,f0⟩:=h.cells
 have H:=Lib.hid h;clear h
 have hsz:(baL l).size=l.length:=by simp [baL,ByteArray.size]
 go_enter Tryz.func115,Tryz.ntmps115
 go_wp2_with fail
 refine (Tryz.strings_Trim_one _ 32 (by decide) _ (by omega)).mono ?_
 rintro e w1 ⟨rfl,hw1⟩
 rw [baL_list,trimB_eq,ba_list2]
 have HG:=Lib.hid (scDr hw1 (some L))
 have HS:=Lib.hid (show ScAt w1 L l from (scDr hw1 none|>fun hg=>H.out.grown hg (by simp)))
 obtain ⟨d0,e0⟩:=HS.out.cells
 clear hw1 c0 f0
 go_wp2
 go_ret
 exact ⟨rfl,HS.out.set (m:=[]),scTr HG.out (scSt _ _ _)⟩
theorem bl_size (l:List UInt8):(baL l).size=l.length:=by simp [baL,ByteArray.size]
theorem bl_at (l:List UInt8) (k:Nat) (h:k<(baL l).size):(baL l)[k]=l[k]'(by rw [bl_size] at h;exact h):=by
 rfl
theorem bl_take (l:List UInt8) (k:Nat):(baL l).extract 0 k=baL (l.take k):=by
 apply ByteArray.ext
 rw [ByteArray.data_extract]
 apply Array.toList_inj.mp
 rw [Array.toList_extract,List.extract_eq_take_drop]
 show ((l.toArray.toList).drop 0).take (k-0)=(l.take k).toArray.toList
 simp
theorem bl_drop (l:List UInt8) (k:Nat):(baL l).extract k (baL l).size=baL (l.drop k):=by
 apply ByteArray.ext
 rw [ByteArray.data_extract]
 apply Array.toList_inj.mp
 rw [Array.toList_extract,List.extract_eq_take_drop,bl_size]
 show (l.drop k).take (l.length-k)=l.drop k
 exact List.take_of_length_le (by rw [List.length_drop];omega)
theorem nm_take (l:List UInt8):nmP l=l.take (nmP l).length:=by
 unfold nmP
 induction l with
 |nil=>rfl
 |cons b l ih=>
  rw [List.takeWhile_cons]
  split
  ·rw [List.length_cons,List.take_succ_cons,←ih]
  ·rfl
theorem nm_in: ∀(l:List UInt8) (k:Nat),k<(nmP l).length→ ∃h:k<l.length,isNm l[k]=true:=by
 intro l
 induction l with
 |nil=>intro k h;simp [nmP] at h
 |cons b l ih=>
  intro k h
  unfold nmP at h
  rw [List.takeWhile_cons] at h
  split at h
  ·rename_i hb
   cases k with
   |zero=>exact ⟨by simp,hb⟩
   |succ k=>
    obtain ⟨h1,h2⟩:=ih k (by simpa [nmP] using h)
    exact ⟨by simpa using h1,by simpa using h2⟩
  ·simp at h
theorem nm_out: ∀(l:List UInt8) (h:(nmP l).length<l.length),isNm (l[(nmP l).length]'h)=false:=by
 intro l
 induction l with
 |nil=>intro h;simp at h
 |cons b l ih=>
  intro h
  by_cases hb:isNm b=true
  ·have e:nmP (b::l)=b::nmP l:=by unfold nmP;rw [List.takeWhile_cons,if_pos hb]
   have h2:(nmP l).length<l.length:=by rw [e] at h;simpa using h
   have:=ih h2
   simp only [e,List.length_cons,List.getElem_cons_succ]
   exact this
  ·have e:nmP (b::l)=[]:=by unfold nmP;rw [List.takeWhile_cons,if_neg hb]
   simp only [e,List.length_nil,List.getElem_cons_zero]
   simpa using hb
theorem scPart (l:List UInt8) (L:Nat) (w:World) (h:ScAt w L l) (hl:l.length≤2097152):
  Calls Tryz.prog 116 #[.pointer (some ⟨L,0,none⟩)] w (ScPost L (.string (baL (nmP l))) (nmQ l) w):=by
 obtain ⟨c0,f0⟩:=h.cells
 have H:=Lib.hid h;clear h
 have hz:=bl_size l
 have hn:(nmP l).length≤l.length:=by
  have:=congrArg List.length (nm_take l)
  rw [List.length_take] at this;omega
 obtain ⟨K,hn,HT,HQ,HIN,HOUT⟩: ∃K:Nat,K≤l.length∧Hid (nmP l=l.take K)∧Hid (nmQ l=l.drop K)∧Hid (∀k,k<K→ ∃h:k<l.length,isNm l[k]=true)∧Hid (∀h:K<l.length,isNm (l[K]'h)=false):=
  ⟨(nmP l).length,hn,Lib.hid (nm_take l),Lib.hid (nmQ_drop l),Lib.hid (nm_in l),Lib.hid (nm_out l)⟩
 go_enter Tryz.func116,Tryz.ntmps116
 go_wp2_with fail
 go_loopw [3] (fun i wr=> ∃k:Nat,k≤K∧i= .int .i64 (k:Int)∧wr=w) (fun i _=>K-(intOf i).toNat)
 case atStart=>exact ⟨0,Nat.zero_le _,rfl,rfl⟩
 case round=>
  obtain ⟨k,hk,rfl,hwr⟩:=hrel
  subst hwr
  by_cases hlt:k<l.length
  ·have hltI:(k:Int)<(l.length:Int):=by omega
   have hks:k<(baL l).size:=by omega
   have hb:=bl_at l k hks
   by_cases hkK:k<K
   ·obtain ⟨hx,hnm⟩:=HIN.out k hkK
    go_wp2_with fail
    refine (partByte_any (((baL l)[k]'hks).toNat:Int) _ (by omega) (by have:=((baL l)[k]'hks).toNat_lt;omega)).mono ?_
    rintro e w1 ⟨rfl,rfl⟩
    have hp:parI ((l[k]'hlt).toNat:Int)=true:=hnm
    go_wp2
    go_roundw
    case rel=>exact ⟨k+1,by omega,by go_num,by trivial⟩
    case measure=>simp [intOf];omega
   ·obtain rfl:k=K:=by omega
    have hnm:=HOUT.out hlt
    have HR:=Lib.hid (show baL (nmP l)=(baL l).extract 0 k by rw [bl_take,HT.out])
    have HD:=Lib.hid (show (baL l).extract k l.length=baL (nmQ l) by rw [←bl_size l,bl_drop,HQ.out])
    go_wp2_with fail
    refine (partByte_any (((baL l)[k]'hks).toNat:Int) _ (by omega) (by have:=((baL l)[k]'hks).toNat_lt;omega)).mono ?_
    rintro e w1 ⟨rfl,rfl⟩
    have hp:parI ((l[k]'hlt).toNat:Int)=false:=hnm
    go_wp2
    go_ret
    exact ⟨by rw [HR.out];rfl,by rw [HD.out];exact H.out.set,scSt _ _ _⟩
  ·obtain rfl:k=K:=by omega
   have HR:=Lib.hid (show baL (nmP l)=(baL l).extract 0 k by rw [bl_take,HT.out])
   have HD:=Lib.hid (show (baL l).extract k l.length=baL (nmQ l) by rw [←bl_size l,bl_drop,HQ.out])
   have hltI: ¬(k:Int)<(l.length:Int):=by omega
   go_wp2
   go_ret
   exact ⟨by rw [HR.out];rfl,by rw [HD.out];exact H.out.set,scSt _ _ _⟩
def CodeAt (l:List UInt8) (q:Bool) (k:Nat):Prop:=(k≤l.length∧hs 0 l=(hs (if q=true then 1 else 0) (l.drop k)).map (· +k))∨(k=l.length+1∧hs 0 l=none)
theorem CodeAt.zero (l:List UInt8):CodeAt l false 0:= .inl ⟨Nat.zero_le _,by simp⟩
theorem CodeAt.here {l:List UInt8} {q:Bool} {k:Nat} (h:CodeAt l q k) (hk:k<l.length):hs 0 l=(hs (if q=true then 1 else 0) (l[k]::l.drop (k+1))).map (· +k):=by
 rcases h with ⟨-,h⟩|⟨h,-⟩
 ·rw [h,List.drop_eq_getElem_cons hk]
 ·omega
theorem CodeAt.next {l:List UInt8} {q:Bool} {k:Nat} (h:CodeAt l q k) (hk:k<l.length) (q2:Bool) (hc: ¬((if q=true then 1 else 0)=0∧l[k]=35)) (hn:nx (if q=true then 1 else 0) l[k]=if q2=true then 1 else 0):CodeAt l q2 (k+1):=by
 have e:=h.here hk
 rw [hs,if_neg hc,hn,Option.map_map] at e
 refine .inl ⟨hk, ?_⟩
 rw [e]
 congr 1
 funext x;simp only [Function.comp];omega
theorem CodeAt.skip {l:List UInt8} {k:Nat} (h:CodeAt l true k) (hk:k<l.length) (hb:l[k]=92):CodeAt l true (k+1+1):=by
 have e:=h.here hk
 have h2:nx 1 (92:UInt8)=2:=by decide
 rw [if_pos rfl,hb,hs,if_neg (by simp),h2] at e
 by_cases hk1:k+1<l.length
 ·rw [List.drop_eq_getElem_cons hk1,hs,if_neg (by simp),show nx 2 l[k+1]=1 by simp [nx],Option.map_map,Option.map_map] at e
  refine .inl ⟨by omega, ?_⟩
  rw [if_pos rfl,e]
  congr 1
  funext x;simp only [Function.comp];omega
 ·rw [List.drop_of_length_le (by omega),hs] at e
  exact .inr ⟨by omega,e⟩
def codeK (l:List UInt8):Nat:=(hs 0 l).getD l.length
theorem CodeAt.end {l:List UInt8} {q:Bool} {k:Nat} (h:CodeAt l q k) (hk: ¬k<l.length):codeK l=l.length∧l.length≤k∧k≤l.length+1:=by
 rcases h with ⟨h1,h2⟩|⟨h1,h2⟩
 ·rw [List.drop_of_length_le (by omega),hs] at h2
  exact ⟨by rw [codeK,h2];rfl,by omega,by omega⟩
 ·exact ⟨by rw [codeK,h2];rfl,by omega,by omega⟩
theorem CodeAt.found {l:List UInt8} {k:Nat} (h:CodeAt l false k) (hk:k<l.length) (hb:l[k]=35):codeK l=k:=by
 have e:=h.here hk
 rw [if_neg (by simp),hb,hs,if_pos ⟨rfl,rfl⟩] at e
 rw [codeK,e];simp
theorem CodeAt.le {l:List UInt8} {q:Bool} {k:Nat} (h:CodeAt l q k):k≤l.length+1:=by
 rcases h with ⟨h1,-⟩|⟨h1,-⟩<;>omega
theorem code_take (l:List UInt8):cutH l=l.take (codeK l)∧cutR l=l.drop (codeK l):=by
 unfold cutH cutR codeK
 cases h:hs 0 l with
 |none=>exact ⟨by simp,by simp⟩
 |some k=>exact ⟨rfl,rfl⟩
theorem u8_eq {b:UInt8} {c:UInt8} (h:(b.toNat:Int)=(c.toNat:Int)):b=c:=UInt8.toNat_inj.mp (by omega)
theorem scCode (l:List UInt8) (L:Nat) (w:World) (h:ScAt w L l) (hl:l.length≤2097152):
  Calls Tryz.prog 159 #[.pointer (some ⟨L,0,none⟩)] w (ScPost L (.string (baL (cutH l))) (cutR l) w):=by
 obtain ⟨c0,f0⟩:=h.cells
 have H:=Lib.hid h;clear h
 have hz:=bl_size l
 have HR:=Lib.hid (show baL (cutH l)=(baL l).extract 0 (codeK l) by rw [bl_take,(code_take l).1])
 have HD:=Lib.hid (show (baL l).extract (codeK l) l.length=baL (cutR l) by rw [←bl_size l,bl_drop,(code_take l).2])
 go_enter Tryz.func159,Tryz.ntmps159
 go_wp2_with fail
 go_loopw [3,4] (fun x i wr=> ∃(q:Bool) (k:Nat),x= .bool q∧i= .int .i64 (k:Int)∧Hid (CodeAt l q k)∧wr=w) (fun _ i _=>l.length+1-(intOf i).toNat)
 case atStart=>exact ⟨false,0,rfl,rfl,Lib.hid (CodeAt.zero l),rfl⟩
 case round=>
  obtain ⟨q,k,rfl,rfl,HC,hwr⟩:=hrel
  subst hwr
  have hk1:=HC.out.le
  by_cases hlt:k<l.length
  case neg=>
   have hltI: ¬(k:Int)<(l.length:Int):=by omega
   obtain ⟨e1,e2,e3⟩:=HC.out.end hlt
   have hmin:min (k:Int) (l.length:Int)=(l.length:Int):=by omega
   have HK:=Lib.hid e1
   have HE:=Lib.hid (show (ByteArray.empty:ByteArray)=baL (cutR l) by rw [(code_take l).2,e1,List.drop_length];rfl)
   clear e1
   go_wp2
   go_ret
   exact ⟨by rw [HR.out,HK.out];rfl,by rw [HE.out];exact H.out.set,scSt _ _ _⟩
  have hltI:(k:Int)<(l.length:Int):=by omega
  have hb:=bl_at l k (by omega)
  by_cases h34:l[k]=34
  ·have t34:((l[k].toNat:Int)==34)=true:=by rw [h34];rfl
   have t35:((l[k].toNat:Int) !=35)=true:=by rw [h34];rfl
   cases q with
   |false=>
    have HN:=Lib.hid (HC.out.next hlt true (by rw [h34];simp) (by rw [h34];decide))
    clear h34
    go_wp2
    go_roundw
    case rel=>exact ⟨true,k+1,rfl,by go_num,HN,by trivial⟩
    case measure=>simp [intOf];omega
   |true=>
    have HN:=Lib.hid (HC.out.next hlt false (by simp) (by rw [h34];decide))
    clear h34
    go_wp2
    go_roundw
    case rel=>exact ⟨false,k+1,rfl,by go_num,HN,by trivial⟩
    case measure=>simp [intOf];omega
  have t34:((l[k].toNat:Int)==34)=false:=by rw [beq_eq_false_iff_ne];intro e;exact h34 (u8_eq (c:=34) e)
  cases q with
  |false=>
   by_cases h35:l[k]=35
   ·have t35:((l[k].toNat:Int) !=35)=false:=by rw [h35];rfl
    have HK:=Lib.hid (HC.out.found hlt h35)
    have hmin:min (k:Int) (l.length:Int)=(k:Int):=by omega
    clear h35
    go_wp2
    go_ret
    exact ⟨by rw [HR.out,HK.out];rfl,by rw [HK.out] at HD;rw [HD.out];exact H.out.set,scSt _ _ _⟩
   ·have t35:((l[k].toNat:Int) !=35)=true:=by rw [bne_iff_ne];intro e;exact h35 (u8_eq (c:=35) e)
    have HN:=Lib.hid (HC.out.next hlt false (by simp [h35]) (by simp [nx,h34]))
    by_cases h92:l[k]=92
    ·have t92:((l[k].toNat:Int)==92)=true:=by rw [h92];rfl
     clear h92
     go_wp2
     go_roundw
     case rel=>exact ⟨false,k+1,rfl,by go_num,HN,by trivial⟩
     case measure=>simp [intOf];omega
    ·have t92:((l[k].toNat:Int)==92)=false:=by rw [beq_eq_false_iff_ne];intro e;exact h92 (u8_eq (c:=92) e)
     go_wp2
     go_roundw
     case rel=>exact ⟨false,k+1,rfl,by go_num,HN,by trivial⟩
     case measure=>simp [intOf];omega
  |true=>
   by_cases h92:l[k]=92
   ·have t92:((l[k].toNat:Int)==92)=true:=by rw [h92];rfl
    have HN:=Lib.hid (HC.out.skip hlt h92)
    clear h92
    go_wp2
    go_roundw
    case rel=>exact ⟨true,k+1+1,rfl,by go_num,HN,by trivial⟩
    case measure=>simp [intOf];omega
   ·have t92:((l[k].toNat:Int)==92)=false:=by rw [beq_eq_false_iff_ne];intro e;exact h92 (u8_eq (c:=92) e)
    have HN:=Lib.hid (HC.out.next hlt true (by simp) (by simp [nx,h34,h92]))
    go_wp2
    go_roundw
    case rel=>exact ⟨true,k+1,rfl,by go_num,HN,by trivial⟩
    case measure=>simp [intOf];omega
def rdTk (s:ByteArray):List Tk:=(toksT s).map fun x=>(x.1,s.extract x.2.1 x.2.2)
theorem sg_first {b:UInt8} (h:sgB b=true):6≤firstI (b.toNat:Int)∧firstI (b.toNat:Int)≤10:=by
 simp only [sgB,Bool.or_eq_true,beq_iff_eq] at h
 rcases h with ((((((((((((((((h|h)|h)|h)|h)|h)|h)|h)|h)|h)|h)|h)|h)|h)|h)|h)|h)|h
 all_goals (subst h;decide)
theorem sg_fin {st:Int} {t:List UInt8} (h1:6≤st) (h2:st≤10) (h:stays st t=true):fin st t=st∨fin st t=10:=by
 have e10: ∀n,nB 10 n=false:=fun n=>by simp [nB]
 cases t with
 |nil=>exact .inl rfl
 |cons c r=>
  right
  simp only [stays,Bool.and_eq_true] at h
  by_cases hst:st=10
  ·subst hst;rw [e10] at h;cases h.1
  ·have hn:nS st (c.toNat:Int)=10:=by
    have:st=6∨st=7∨st=8∨st=9:=by omega
    rcases this with rfl|rfl|rfl|rfl<;>rfl
   rw [fin,hn]
   rw [hn] at h
   cases r with
   |nil=>rfl
   |cons d r=>simp only [stays,Bool.and_eq_true,e10] at h;cases h.2.1
theorem kI_bd {st:Int} (h:kI st≠0):1≤kI st∧kI st≤4:=by
 unfold kI at h⊢
 repeat' split at h
 all_goals first|(exact absurd rfl h)|(repeat' split)<;>omega
theorem kI_sg {st:Int} (h1:6≤st) (h2:st≤10) (h:kI st≠0):kI st=4:=by
 have:st=6∨st=7∨st=8∨st=9∨st=10:=by omega
 rcases this with rfl|rfl|rfl|rfl|rfl
 ·rfl
 ·exact absurd rfl h
 ·exact absurd rfl h
 ·exact absurd rfl h
 ·rfl
theorem TokAt.kinds {l:List UInt8} {n:Nat} {k:Int} (h:TokAt l n k):1≤k∧k≤4∧(k≠4→ ∀b t,l.take n=b::t→sgB b=false):=by
 obtain ⟨b,t,ht,hs,hk,hk0,-⟩:=h
 subst hk
 refine ⟨(kI_bd hk0).1,(kI_bd hk0).2,fun h4 b' t' he=> ?_⟩
 rw [ht] at he
 injection he with e1 e2
 subst e1 e2
 cases hb:sgB b with
 |false=>rfl
 |true=>
  obtain ⟨f1,f2⟩:=sg_first hb
  rcases sg_fin f1 f2 hs with h|h
  ·rw [h] at h4 hk0;exact absurd (kI_sg f1 f2 hk0) h4
  ·rw [h] at h4;exact absurd rfl h4
theorem cover_kinds (ts:List (Int×Nat×Nat)): ∀(a:Nat) (l:List UInt8),Cover a l ts→ts.length≤l.length∧ ∀x∈ts,1≤x.1∧x.1≤4∧(x.1≠4→ ∀b t,(l.drop (x.2.1-a)).take (x.2.2-x.2.1)=b::t→sgB b=false):=by
 induction ts with
 |nil=>intro a l _;exact ⟨Nat.zero_le _,fun x hx=>by cases hx⟩
 |cons y ts ih=>
  intro a l h
  obtain ⟨k,f,t⟩:=y
  obtain ⟨j,n,rfl,rfl,h3,h4,h5,h6⟩:=h
  have hle:=h5.le
  rw [List.length_drop] at hle
  obtain ⟨i1,i2⟩:=ih _ _ h6
  rw [List.length_drop] at i1
  have hin:=cover_in ts _ _ h6
  refine ⟨by rw [List.length_cons];omega,fun x hx=> ?_⟩
  rcases List.mem_cons.mp hx with rfl|hx
  ·have:=h5.kinds
   simp only [Nat.add_sub_cancel_left] at this⊢
   exact this
  ·obtain ⟨k1,k2,k3⟩:=i2 x hx
   have h7:=(hin x hx).1
   refine ⟨k1,k2,fun h4' b t' he=>k3 h4' b t' ?_⟩
   rw [List.drop_drop,show j+n+(x.2.1-(a+j+n))=x.2.1-a by omega]
   exact he
theorem toks_cover {s:ByteArray}:Cover 0 s.data.toList (toksT s)∨toksT s=[]:=by
 by_cases h:okT s=true
 ·left
  rw [toksT,if_pos h]
  simp only [okT,Bool.and_eq_true] at h
  exact res_cover h.2
 ·right;rw [toksT,if_neg h]
theorem toks_len (s:ByteArray) (hs:s.size≤20000∨okT s=true):(toksT s).length≤20000∧(toksT s≠[]→s.size≤20000):=by
 have h20:okT s=true→s.size≤20000:=fun h=>by simp only [okT,Bool.and_eq_true,decide_eq_true_eq] at h;exact h.1.1
 by_cases h:okT s=true
 ·have:=h20 h
  rcases toks_cover (s:=s) with hc|hc
  ·have:=(cover_kinds _ _ _ hc).1
   rw [size_list] at this
   exact ⟨by omega,fun _=>by omega⟩
  ·rw [hc];exact ⟨Nat.zero_le _,fun _=>by omega⟩
 ·rw [toksT,if_neg h];exact ⟨Nat.zero_le _,fun h=>absurd rfl h⟩
theorem toks_facts (s:ByteArray):(toksT s).length≤20000∧(∀x∈toksT s,x.2.1≤x.2.2∧x.2.2≤s.size)∧Signed (rdTk s)∧ ∀x∈toksT s,1≤x.1∧x.1≤4:=by
 by_cases h:okT s=true
 ·refine ⟨(toks_len s (.inr h)).1, ?_⟩
  rcases toks_cover (s:=s) with hc|hc
  ·have hin:=cover_in _ _ _ hc
   obtain ⟨-,hk⟩:=cover_kinds _ _ _ hc
   refine ⟨fun x hx=> ?_, ?_,fun x hx=>⟨(hk x hx).1,(hk x hx).2.1⟩⟩
   ·have:=hin x hx;rw [size_list] at this;omega
   ·intro p k w hp hk4 b t hb
    simp only [rdTk,List.getElem?_map,Option.map_eq_some_iff] at hp
    obtain ⟨x,hx,he⟩:=hp
    injection he with e1 e2
    subst e1 e2
    have hm:=List.mem_of_getElem? hx
    refine (hk x hm).2.2 hk4 b t ?_
    rw [←hb,ByteArray.data_extract,Array.toList_extract,List.extract_eq_take_drop]
    simp
  ·rw [hc];exact ⟨(fun x hx=>by cases hx),(fun p k w hp=>by simp [rdTk,hc] at hp),(fun x hx=>by cases hx)⟩
 ·have hc:toksT s=[]:=by rw [toksT,if_neg h]
  rw [hc];exact ⟨Nat.zero_le _,(fun x hx=>by cases hx),(fun p k w hp=>by simp [rdTk,hc] at hp),(fun x hx=>by cases hx)⟩
def IsSlc (v:Value):Prop:= ∃a n c,v= .slice a n c
theorem own_keepC {w w1:World} {base:Nat} {e:TypeId} {size n:Nat} {v:Value} {xs:List Value} (h:w.ownsRow base e size v n xs) (hb:Below w.heap.size w w1):w1.ownsRow base e size v n xs:=
 h.kept (row:=none) ⟨hb.os,hb.tape,hb.output,hb.size,fun i hi _=>hb.block i hi⟩ (by cases hv:v.ownBlock with|none=>exact .inl rfl|some x=>exact .inr (by simp))
def RdOK (s:ByteArray) (c:List Cl):Prop:=(∃n,Rg (rdTk s) .choice 0 c (rdTk s).length 0 n∧n≤40)∧okE c=true
theorem RdOK.uniq {s:ByteArray} {c d:List Cl} (h:RdOK s c) (k:RdOK s d):c=d:=by
 obtain ⟨⟨n,h1,-⟩,-⟩:=h
 obtain ⟨⟨m,k1,-⟩,-⟩:=k
 exact (h1.uniq k1).1
def ReadPost (s:ByteArray) (w:World) (e:Ending) (w':World):Prop:=
 Below w.heap.size w w'∧((∃v c,e= .returned (.tuple #[v, .bool true])∧RdOK s c∧w'.ownsRow w.heap.size 110 3 v c.length (flatC c))∨(e= .returned (.tuple #[.slice none 0 0, .bool false])∧ ∀c,¬RdOK s c))
theorem unqT_size (s:ByteArray):(unqT s).size≤s.size:=by
 cases h:unqOK s with
 |false=>rw [unq_no h];exact Nat.zero_le _
 |true=>
  obtain ⟨h1,h2⟩:=unq_quote h
  have:s.data.toList=quoteL (unqT s).data.toList:=by
   have e:=congrArg (fun z:ByteArray=>z.data.toList) h2
   simp only [quoteT,if_pos h1] at e
   exact e.symm
  have hl:=(quoteI_len (unqT s).data.toList).1
  have e1:=size_list s;have e2:=size_list (unqT s)
  rw [this] at e1
  simp only [quoteL,List.length_cons,List.length_append,List.length_nil] at e1
  omega
theorem Rg.words {tk:List Tk} {B:Nat} (hB:60≤B) (ht: ∀(p:Nat) (k:Int) (s:ByteArray),tk[p]? =some (k,s)→s.size≤B) {j:GJob} {p:Nat} {c:List Cl} {q m n:Nat} (h:Rg tk j p c q m n):(∀x∈j.held,x.2.1.size≤B)→ ∀x∈c,x.2.1.size≤B:=by
 induction h with
 |one h1 h2 i=>exact i
 |three h1 h2 h3 h4 h5 i1 i2 i3=>
  intro hh x hx
  simp only [List.mem_cons,List.mem_append] at hx
  have hn: ∀x∈([]:List Cl),x.2.1.size≤B:=fun x hx=>by cases hx
  rcases hx with rfl|hx|hx|hx
  ·exact Nat.zero_le _
  ·exact i1 hn x hx
  ·exact i2 hn x hx
  ·exact i3 hn x hx
 |bin h1 h2 i1 i2=>intro hh;exact i2 (i1 hh)
 |stop h=>exact fun hh=>hh
 |more h1 h2 h3 h4 h5 h6 h7 i1 i2=>
  intro hh
  refine i2 (fun x hx=> ?_)
  simp only [GJob.held,List.mem_cons,List.mem_append] at hx
  rcases hx with rfl|hx|hx
  ·exact ht _ _ _ h4
  ·exact hh x hx
  ·exact i1 (fun x hx=>by cases hx) x hx
 |sign h1 h2 h3 i=>
  intro hh x hx
  rcases List.mem_cons.mp hx with rfl|hx
  ·exact ht _ _ _ h2
  ·exact i hh x hx
 |plain h1 h2 i=>exact i
 | @num p s h1 h2=>
  intro hh x hx
  simp only [List.mem_singleton] at hx
  subst hx
  have:(numWd s).size≤60:=by rw [←size_list];exact textF_len60 _ _
  show (numWd s).size≤B
  omega
 | @text p s h1 h2=>
  intro hh x hx
  simp only [List.mem_singleton] at hx
  subst hx
  exact Nat.le_trans (unqT_size s) (ht _ _ _ h1)
 |truth h1 h2=>intro hh x hx;simp only [List.mem_singleton] at hx;subst hx;exact ht _ _ _ h1
 |name h1 h2 h3 h4=>intro hh x hx;simp only [List.mem_singleton] at hx;subst hx;exact ht _ _ _ h1
 |call h1 h2 h3 h4 h5 i=>
  intro hh x hx
  rcases List.mem_cons.mp hx with rfl|hx
  ·exact ht _ _ _ h1
  ·exact i hh x hx
 |paren h1 h2 h3 i=>exact i
 |list h1 h2 i=>
  intro hh x hx
  rcases List.mem_cons.mp hx with rfl|hx
  ·exact Nat.zero_le _
  ·exact i hh x hx
 |close h=>exact fun hh=>hh
 |part h1 h2 h3 h4 h5 i1 i2=>
  intro hh
  refine i2 (fun x hx=> ?_)
  simp only [GJob.held,List.mem_append] at hx
  rcases hx with hx|hx
  ·exact hh x hx
  ·exact i1 (fun x hx=>by cases hx) x hx
theorem readExpr_impl (s:ByteArray) (w:World) (hs:s.size≤2097152) (htab:Tab w):
  Calls Tryz.prog 158 #[.string s] w (ReadPost s w):=by
 obtain ⟨f1,f2,f3,f4⟩:=toks_facts s
 have HF1:=Lib.hid f1;have HF2:=Lib.hid f2;have HF3:=Lib.hid f3;have HF4:=Lib.hid f4;have HT:=Lib.hid htab
 have hls:s.size≤maxLen:=by unfold maxLen;omega
 have HTK:=Lib.hid (tokensOf_impl s w hls)
 have HRK:=Lib.hid (show rdTk s=(toksT s).map fun x=>(x.1,s.extract x.2.1 x.2.2) from rfl)
 have hrl:(rdTk s).length=(toksT s).length:=by simp [rdTk]
 clear f1 f2 f3 f4 htab hls
 go_enter Tryz.func158,Tryz.ntmps158
 go_wp2_with fail
 refine HTK.out.mono ?_
 rintro e w2 ⟨tv,rfl,ho2,hb2⟩
 have hrow:=RowT.of_own ho2
 obtain ⟨-,ao,cap,rfl,-⟩:=hrow
 have HCX:=Lib.hid (show Cx w2 w2.heap.size s (.slice ao (toksT s).length cap) (toksT s) (rdTk s) from ⟨RowT.of_own ho2,HF1.out,HRK.out,HF2.out,hs,HF3.out,HF4.out,Nat.le_refl _⟩)
 have HTB:=Lib.hid (HT.out.keep hb2)
 have HB2:=Lib.hid hb2
 have HBA:=Lib.hid ((Below.refl w2.heap.size w2).alloc (Nat.le_refl _) (.cells #[.string s, .slice ao (toksT s).length cap, .int .i64 0, .int .i64 0] 191))
 have HRD:=Lib.hid (show RdAt (w2.alloc (.cells #[.string s, .slice ao (toksT s).length cap, .int .i64 0, .int .i64 0] 191)) w2.heap.size s (.slice ao (toksT s).length cap) 0 0 from heap_alloc_new w2 _)
 clear ho2 hb2
 go_wp2_with fail
 refine ((all_g HTB.out HCX.out (10*(rdTk s).length+8)).choice 0 0 _ HBA.out HRD.out (Nat.zero_le _) (by omega) (by omega)).mono ?_
 rintro e w4 ⟨hg4,q,hq,hr4,hres⟩
 have HB4:=Lib.hid (grown_bel HBA.out (show World.grownBy _ w4 (some w2.heap.size) from hg4) (Nat.le_refl _))
 have HBW:=Lib.hid (HB2.out.trans (HB4.out.mono HB2.out.size))
 have HR4:=Lib.hid hr4
 obtain ⟨⟨q0,q1,q2,q3⟩,-⟩:=hr4.cells
 have hs2:=HB2.out.size
 rcases hres with ⟨M,c,n,rfl,ht,hd⟩|⟨rfl,hno⟩
 ·obtain ⟨n4,-⟩:=ht.nest
  have hMl:=ht.lt
  have hnn:=hd.nest
  simp only at hnn
  have HT4:=Lib.hid (ht.tree (hi:=w4.heap.size) hMl.2);have HD:=Lib.hid hd
  have hcl:=hd.le.1
  simp only [GJob.held,List.length_nil] at hcl
  clear ht hd hg4 hr4
  have hf1:=HF1.out
  by_cases hql:q=(toksT s).length
  ·subst hql
   by_cases hn40:n≤40
   ·have hn40': ¬(40:Int)<(n:Int):=by omega
    have HSZ:=Lib.hid (show SizedC c from fun x hx=>by
     have:=HD.out.words (B:=2097152) (by omega) (fun p k wd hp=>by
      obtain ⟨_,wd',h1,-,-,h4⟩:=HCX.out.at (at_lt hp)
      rw [hp] at h1;injection h1 with h1;injection h1 with h1 h2;rw [h2];exact h4) (fun x hx=>by cases hx) x hx
     unfold maxLen;omega)
    go_wp2_with fail
    refine (appendTo_any w4 _ c.length w4.heap.size M c [] (.slice none 0 0) w4 HT4.out (Nat.le_refl _) (by simp;omega) (Below.refl _ _) (World.ownsRow_nil _ _ _ _)).mono ?_
    rintro e w5 ⟨v5,rfl,ho5,hb5⟩
    rw [List.nil_append] at ho5
    have HO5:=Lib.hid ho5
    have HB5:=Lib.hid (HBW.out.trans (hb5.mono HBW.out.size))
    have HRC:=Lib.hid (RowC.of_own ho5).1
    have HT5:=Lib.hid (HT.out.keep HB5.out)
    have hsl:IsSlc v5:=by
     obtain ⟨a,b,hv,-⟩:=HRC.out
     exact ⟨_,_,_,hv⟩
    clear ho5 hb5
    obtain ⟨va,vn,vc,rfl⟩:=hsl
    go_wp2_with fail
    refine (exprValid_impl _ c w5 HRC.out HSZ.out HT5.out).mono ?_
    rintro e w6 ⟨rfl,hb6⟩
    have HB6:=Lib.hid (HB5.out.trans (hb6.mono HB5.out.size))
    have HO6:=Lib.hid (own_keepC HO5.out hb6)
    clear hb6
    cases hok:okE c with
    |true=>
     have HDD:=Lib.hid (show RdOK s c from ⟨⟨n,by rw [hrl];exact HD.out,hn40⟩,hok⟩)
     clear hok
     go_wp2
     go_ret2
     exact ⟨HB6.out, .inl ⟨_,c,rfl,HDD.out,HO6.out.mono (by have:=HBW.out.size;omega)⟩⟩
    |false=>
     have HDD:=Lib.hid (show∀d,¬RdOK s d from fun d ⟨⟨n',h1,h2⟩,h3⟩=>by
      obtain ⟨rfl,-⟩:=HD.out.uniq h1
      rw [hok] at h3;cases h3)
     clear hok
     go_wp2
     go_ret2
     exact ⟨HB6.out, .inr ⟨rfl,HDD.out⟩⟩
   ·have hn40':(40:Int)<(n:Int):=by omega
    have HDD:=Lib.hid (show∀d,¬RdOK s d from fun d ⟨⟨n',h1,h2⟩,h3⟩=>by
     obtain ⟨-,-,-,rfl⟩:=HD.out.uniq h1
     exact hn40 h2)
    go_wp2
    go_ret2
    exact ⟨HBW.out, .inr ⟨rfl,HDD.out⟩⟩
  ·have hqi:(q:Int)<((toksT s).length:Int):=by omega
   have HDD:=Lib.hid (show∀d,¬RdOK s d from fun d ⟨⟨n',h1,h2⟩,h3⟩=>by
    obtain ⟨-,h,-⟩:=HD.out.uniq h1
    rw [hrl] at h
    exact hql h)
   go_wp2
   go_ret2
   exact ⟨HBW.out, .inr ⟨rfl,HDD.out⟩⟩
 ·have HDD:=Lib.hid (show∀d,¬RdOK s d from fun d ⟨⟨n',h1,h2⟩,h3⟩=>by have:=hno _ _ _ _ h1;omega)
  clear hno hg4 hr4
  go_wp2
  go_ret2
  exact ⟨HBW.out, .inr ⟨rfl,HDD.out⟩⟩
theorem sp_sizes (s:ByteArray):(∀x∈rdTk s,x.2.size≤20000)∧ ∀x∈rdTk s,1≤x.1∧x.1≤4:=by
 obtain ⟨f1,f2,f3,f4⟩:=toks_facts s
 have h20:toksT s≠[]→s.size≤20000:=by
  intro h
  by_cases hk:okT s=true
  ·exact (toks_len s (.inr hk)).2 h
  ·exact absurd (by rw [toksT,if_neg hk]) h
 constructor
 ·intro x hx
  simp only [rdTk,List.mem_map] at hx
  obtain ⟨y,hy,rfl⟩:=hx
  have:=h20 (List.ne_nil_of_mem hy)
  have:=f2 y hy
  simp only [ByteArray.size_extract];omega
 ·intro x hx
  simp only [rdTk,List.mem_map] at hx
  obtain ⟨y,hy,rfl⟩:=hx
  exact f4 y hy
theorem lex_toks {tx:List UInt8} {tk:List Kw} (h:Lex tx tk) (hp:plainL tx=true) (hl:tx.length≤20000):rdTk ⟨tx.toArray⟩=tk.map fun x=>(x.1,(⟨x.2.toArray⟩:ByteArray)):=by
 obtain ⟨L,e1,b1,r1⟩:=h
 have he:endM (0,0,[]) 0 tx=(0,tx.length,L):=by
  have:=r1 [] rfl 0 []
  rw [List.append_nil,List.nil_append,Nat.zero_add] at this
  rw [this]
  have hz:L.map (shT 0)=L:=by
   have:shT 0=id:=by funext x;rfl
   rw [this,List.map_id]
  rw [hz]
  unfold endM
  rw [runM,step_zero,first_space];simp
 have hres:resB (0,0,[]) 0 tx=true:=by rw [resB,he];rfl
 have hok:okT ⟨tx.toArray⟩=true:=by
  rw [okT,ba_list,hp,hres]
  simp only [Bool.and_true,decide_eq_true_eq]
  show tx.toArray.size≤20000
  simpa using hl
 have ht:toksT ⟨tx.toArray⟩=L:=by
  rw [toksT,if_pos hok,ba_list,resL,if_pos hres,he]
 rw [rdTk,ht,←e1,List.map_map]
 apply List.map_congr_left
 intro x hx
 have hb:=b1 x hx
 simp only [Function.comp]
 congr 1
 apply ba_eq
 rw [ByteArray.data_extract,Array.toList_extract,List.extract_eq_take_drop]
theorem lex_at {tx:List UInt8} {tk:List Kw} (h:Lex tx tk) (hp:plainL tx=true) (hl:tx.length≤20000):AtK (rdTk ⟨tx.toArray⟩) 0 tk∧(rdTk ⟨tx.toArray⟩).length=tk.length:=by
 rw [lex_toks h hp hl]
 refine ⟨fun i hi=> ?_,by simp⟩
 rw [Nat.zero_add,List.getElem?_map,List.getElem?_eq_getElem hi];rfl
theorem end_isT (tk:List Tk) {q:Nat} (h:tk.length≤q) (w:List UInt8):isT tk q w=false∧rkT tk q=0:=by
 unfold isT rkT
 rw [List.getElem?_eq_none h];exact ⟨rfl,rfl⟩
theorem good_reads {x:Pz} (hg:Good x) (hd:x.dp≤20) (hl:x.tx.length≤20000) (hok:okE x.cl=true):RdOK ⟨x.tx.toArray⟩ x.cl:=by
 obtain ⟨ha,hlen⟩:=lex_at hg.lex hg.plain hl
 have he:=end_isT (rdTk ⟨x.tx.toArray⟩) (q:=0+x.tk.length) (by omega)
 obtain ⟨n,hn,hr⟩:=hg.chc _ 0 ha (he [40]).1 (he []).2 (he [63]).1
 have hdp:=hg.dp
 refine ⟨⟨n, ?_,by omega⟩,hok⟩
 rw [hlen]
 rwa [Nat.zero_add] at hr
theorem text_reads {l:List Cl} (hok:okE l=true):RdOK ⟨(textE l).toArray⟩ l:=by
 obtain ⟨x,hg,ht,hc,hd⟩:=pz_of hok
 have hl:=textE_len l
 rw [←ht] at hl⊢
 rw [←hc] at hok
 rw [←hc]
 exact good_reads hg (by omega) (by omega) hok
theorem linesTo_sized (s:ByteArray) (k:Nat): ∀t∈linesTo s k,t.size≤s.size:=by
 induction k with
 |zero=>intro t ht;simp [linesTo] at ht
 |succ k ih=>
  intro t ht
  simp only [linesTo] at ht
  split at ht
  ·rcases List.mem_append.1 ht with ht|ht
   ·exact ih t ht
   ·simp only [List.mem_singleton] at ht;subst ht;rw [ByteArray.size_extract];omega
  ·exact ih t ht
theorem lines_size (s:ByteArray): ∀t∈linesB s,t.size≤s.size:=by
 intro t ht
 unfold linesB at ht
 split at ht
 ·unfold linesAll at ht
  split at ht
  ·rcases List.mem_append.1 ht with ht|ht
   ·exact linesTo_sized s _ t ht
   ·simp only [List.mem_singleton] at ht;subst ht;rw [ByteArray.size_extract];omega
  ·exact linesTo_sized s _ t ht
 ·cases ht
end Go.Proofs.YtegdjjjpoahamaaGreatDoor
