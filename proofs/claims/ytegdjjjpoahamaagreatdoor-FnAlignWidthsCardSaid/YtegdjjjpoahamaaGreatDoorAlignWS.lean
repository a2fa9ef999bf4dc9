/-
  spec.AlignWidths, by its contract.
-/
import Derived.Test.YtegdjjjpoahamaaGreatDoorAlignP
import Derived.Test.YtegdjjjpoahamaaGreatDoorDocS
import Derived.Test.YtegdjjjpoahamaaGreatDoorBaseI
set_option linter.unusedVariables false
set_option maxHeartbeats 4000000
set_option maxRecDepth 100000
namespace Go.Proofs.YtegdjjjpoahamaaGreatDoor
open Go.RowKit
theorem ints_take {L:List Nat} {k n:Nat} (h:L[k]? =some n):ints (L.take (k+1))=ints (L.take k)++[.int .i64 (n:Int)]:=by
 obtain ⟨hk,e⟩:=List.getElem?_eq_some_iff.mp h
 rw [List.take_succ_eq_append_getElem hk,e]
 simp [ints]
theorem alignWidths_spec (v:Value) (l:List It) (w:World) (hr:RowIt w v l) (hz:ShortI l) (hl:l.length≤1048576):
  Calls Tryz.prog 17 #[v] w (NewInts (wdD l) w):=by
 obtain ⟨i0,hi,hz0,hz1,hz2⟩:=info_parts infoI
 have HR:=Lib.hid hr
 have HC:=Lib.hid (fun w' hr'=>documentValid_spec v l w' hr' hz hl)
 obtain ⟨ao,cap,rfl,h1,h2,h3⟩:=hr
 unfold maxLen at h2
 have H3:=Lib.hid h3
 have HL0:=Lib.hid (World.ownsRow_lit (base:=w.heap.size) (size:=1) (e:=3) w #[] 0 (Nat.le_refl _) (by unfold maxLen;omega) rfl)
 have HB0:=Lib.hid ((Below.refl w.heap.size w).alloc (Nat.le_refl _) (.cells #[] 3))
 clear h3 hz
 go_enter Tryz.func17,Tryz.ntmps17
 go_wp2_with fail
 refine (HC.out _ (HR.out.mono HB0.out)).mono ?_
 rintro e w1 ⟨rfl,hb1⟩
 have HO1:=Lib.hid (own_belowS HL0.out hb1)
 have HB1:=Lib.hid (HB0.out.trans (hb1.mono HB0.out.size))
 clear hb1 HL0
 cases hok:docB l with
 |true=>
  have HD:=Lib.hid (show wdD l=wdL 0 l by unfold wdD;rw [if_pos hok])
  clear hok
  go_wp2_with fail
  go_loopw [3,4,5,6,7] (fun a i _ _ _ wr=> ∃k:Nat,k≤l.length∧i= .int .i64 (k:Int)∧wr.ownsRow w.heap.size 3 1 a k (ints ((wdL 0 l).take k))∧Below w.heap.size w wr) (fun _ i _ _ _ _=>l.length-(intOf i).toNat)
  case atStart=>exact ⟨0,Nat.zero_le _,rfl,HO1.out,HB1.out⟩
  case round=>
   obtain ⟨k,hk,rfl,hown,hB⟩:=hrel
   have HOW:=Lib.hid hown;have HB:=Lib.hid hB
   obtain ⟨aa,ac,rfl⟩:=own_shape hown
   clear hown hB
   by_cases hlt:k<l.length
   ·have hltI:(k:Int)<(l.length:Int):=by omega
    obtain ⟨b,o,rfl,hbl,cc⟩:=H3.out.resolve_left (by rintro rfl;simp at hlt)
    have HCE:=Lib.hid (show∀j,(hj:j<l.length)→wr.cell? ⟨b,o+j*4,none⟩=some (.int .i64 l[j].1)∧wr.cell? ⟨b,o+j*4+1,none⟩=some (.string l[j].2.1) from fun j hj=>by
     obtain ⟨u,hu⟩:=cc j hj
     obtain ⟨d0,d1,-⟩:=hu.mono hbl HB.out
     exact ⟨d0,d1⟩)
    obtain ⟨d0,-⟩:=HCE.out k hlt
    clear cc
    have HWA:=Lib.hid (wdL_at l 0 k hlt)
    obtain ⟨W,hW⟩: ∃W,W=caL 0 (l.take (k+1)):=⟨_,rfl⟩
    obtain ⟨V,hV⟩: ∃V,V=max W (fwL (l.drop k)):=⟨_,rfl⟩
    have HW:=Lib.hid hW;have HV:=Lib.hid hV
    have HFIN:=Lib.hid (show l[k].1=3→(wdL 0 l)[k]? =some V from fun h=>by
     rw [HWA.out,if_pos h,HV.out,HW.out,ca_e hlt,caW,if_pos h,fw_e hlt h]
     congr 1;omega)
    have HNOT:=Lib.hid (show¬l[k].1=3→(wdL 0 l)[k]? =some 0 from fun h=>by rw [HWA.out,if_neg h])
    clear hW hV HWA
    by_cases h3:l[k].1=3
    case neg=>
     have e3:(l[k].1==3)=false:=beq_eq_false_iff_ne.mpr h3
     have HFX:=Lib.hid (HNOT.out h3)
     clear h3 HFIN HNOT
     generalize l[k].1=kk at d0 e3
     go_wp2_with (at_builtin;refine wpList_append_own _ rfl _ _ 25 rfl w.heap.size 3 i0 (.int .i64 0) 1 8 Tryz.underlying25 hi hz0 hz1 hz2 rfl (by decide) _ _ _ rfl (HOW.out.alloc _) ⟨wr.heap.size,0,none⟩ 1 1 [.int .i64 0] rfl rfl (World.news_of_block (cs:= #[.int .i64 0]) (t:=3) (fr:=(0,0)) (heap_alloc_new wr _)) (by simp [Value.oneCell']) (by unfold maxLen;omega) (by omega) (by simp;exact Nat.le_succ_of_le HB.out.size) ?_;intro v' w2 hown' hgrow hnil;have HB2:=Lib.hid ((HB.out.alloc HB.out.size _).grown hgrow (by have:=HB.out.size;simp;omega) (fun q hq=>(HOW.out.lt q hq).1));have HO2:=Lib.hid hown';clear hown' hgrow hnil)
     go_wp2
     go_roundw
     case rel=>exact ⟨k+1,by omega,by go_num,by rw [ints_take HFX.out];exact HO2.out,HB2.out⟩
     case measure=>simp [intOf];omega
    case pos=>
     rw [h3] at d0
     have HF3:=Lib.hid (HFIN.out h3)
     clear h3 HFIN HNOT
     go_wp2_with fail
     go_loopw [5,6] (fun m j wx=> ∃(M J:Nat) (z:Int),J≤k+1∧m= .int .i64 (M:Int)∧j= .int .i64 z∧z=(J:Int)-1∧max M (caL 0 (l.take J))=W∧wx=wr) (fun _ j _=>(intOf j+1).toNat)
     case atStart=>exact ⟨0,k+1,_,Nat.le_refl _,rfl,rfl,by omega,by rw [HW.out];exact Nat.zero_max _,rfl⟩
     case round=>
      obtain ⟨M,J,z,hJ,rfl,rfl,hz,hm,hwx⟩:=hrel
      subst hwx
      have HM:=Lib.hid hm;clear hm
      by_cases hJ0:J=0
      case' pos=>
       have hg: ¬(0:Int)≤z:=by omega
       have HMW:=Lib.hid (show M=W by have:=HM.out;rw [hJ0,List.take_zero,caL] at this;omega)
       clear hz hJ0
      case' neg=>
       obtain ⟨J,rfl⟩: ∃j,J=j+1:=⟨J-1,by omega⟩
       obtain rfl:z=(J:Int):=by omega
       clear hz
       have hJl:J<l.length:=by omega
       have hJI:(J:Int)<(l.length:Int):=by omega
       obtain ⟨c0,c1⟩:=HCE.out J hJl
       have HCA:=Lib.hid (ca_e hJl 0)
       have hg:(0:Int)≤(J:Int):=by omega
       by_cases h3:l[J].1=3
       case' pos=>
        rw [h3] at c0
        have HX:=Lib.hid (show max (max M l[J].2.1.size) (caL 0 (l.take J))=W by have h9:=HM.out;rw [HCA.out,caW,if_pos h3] at h9;omega)
        have hwr:IntKind.i64.wrap ((J:Int)-1)=(J:Int)-1:=by rw [IntWalk.i64_in _ (by omega)]
        generalize l[J].2.1=nm at c1 HX
        clear h3 HM HCA
        go_wp2
        go_roundw
        case rel=>exact ⟨max M nm.size,J,_,by omega,by go_num,rfl,rfl,HX.out,by trivial⟩
        case measure=>simp [intOf]<;>omega
       case' neg=>
        have e3:(l[J].1==3)=false:=beq_eq_false_iff_ne.mpr h3
        have HMW:=Lib.hid (show M=W by have h9:=HM.out;rw [HCA.out,caW,if_neg h3] at h9;omega)
        clear h3
        generalize l[J].1=kj at c0 e3
      all_goals
       go_wp2_with fail
       go_loopw [5,7] (fun m j wy=> ∃(M J:Nat),J≤l.length∧m= .int .i64 (M:Int)∧j= .int .i64 (J:Int)∧max M (fwL (l.drop J))=V∧wy=wr) (fun _ j _=>l.length-(intOf j).toNat)
       case atStart=>exact ⟨M,k,by omega,rfl,rfl,by rw [HMW.out,HV.out],rfl⟩
       case round=>
        obtain ⟨M2,J2,hJ2,rfl,rfl,hm2,hwy⟩:=hrel
        subst hwy
        have HM2:=Lib.hid hm2;clear hm2
        by_cases hJl2:J2<l.length
        case' pos=>
         have hJI2:(J2:Int)<(l.length:Int):=by omega
         obtain ⟨f0,f1⟩:=HCE.out J2 hJl2
         by_cases h3:l[J2].1=3
         case' pos=>
          rw [h3] at f0
          have HX2:=Lib.hid (show max (max M2 l[J2].2.1.size) (fwL (l.drop (J2+1)))=V by have h9:=HM2.out;rw [fw_e hJl2 h3] at h9;omega)
          generalize l[J2].2.1=nm2 at f1 HX2
          clear h3 HM2
          go_wp2
          go_roundw
          case rel=>exact ⟨max M2 nm2.size,J2+1,by omega,by go_num,by go_num,HX2.out,by trivial⟩
          case measure=>simp [intOf];omega
         case' neg=>
          have e4:(l[J2].1==3)=false:=beq_eq_false_iff_ne.mpr h3
          have HFX:=Lib.hid (show (wdL 0 l)[k]? =some M2 by have h9:=HM2.out;rw [fw_n hJl2 h3] at h9;rw [HF3.out];congr 1;omega)
          clear h3
          generalize l[J2].1=kj2 at f0 e4
        case' neg=>
         obtain rfl:J2=l.length:=by omega
         have hJI2: ¬(l.length:Int)<(l.length:Int):=by omega
         have HFX:=Lib.hid (show (wdL 0 l)[k]? =some M2 by have h9:=HM2.out;rw [List.drop_length,fwL] at h9;rw [HF3.out];congr 1;omega)
        all_goals
         go_wp2_with (at_builtin;refine wpList_append_own _ rfl _ _ 25 rfl w.heap.size 3 i0 (.int .i64 0) 1 8 Tryz.underlying25 hi hz0 hz1 hz2 rfl (by decide) _ _ _ rfl (HOW.out.alloc _) ⟨wr.heap.size,0,none⟩ 1 1 [.int .i64 (M2:Int)] rfl rfl (World.news_of_block (cs:= #[.int .i64 (M2:Int)]) (t:=3) (fr:=(0,0)) (heap_alloc_new wr _)) (by simp [Value.oneCell']) (by unfold maxLen;omega) (by omega) (by simp;exact Nat.le_succ_of_le HB.out.size) ?_;intro v' w2 hown' hgrow hnil;have HB2:=Lib.hid ((HB.out.alloc HB.out.size _).grown hgrow (by have:=HB.out.size;simp;omega) (fun q hq=>(HOW.out.lt q hq).1));have HO2:=Lib.hid hown';clear hown' hgrow hnil)
         go_wp2
         go_roundw
         case rel=>exact ⟨k+1,by omega,by go_num,by rw [ints_take HFX.out];exact HO2.out,HB2.out⟩
         case measure=>simp [intOf];omega
   ·obtain rfl:k=l.length:=by omega
    have hltI: ¬(l.length:Int)<(l.length:Int):=by omega
    have HFO:=Lib.hid (show wr.ownsRow w.heap.size 3 1 (.slice aa l.length ac) (wdL 0 l).length (ints (wdL 0 l)) by
     have:=HOW.out
     rw [List.take_of_length_le (by rw [wdL_length];exact Nat.le_refl _)] at this
     rw [wdL_length];exact this)
    go_wp2
    go_ret
    exact ⟨_,rfl,by rw [HD.out];exact HFO.out,HB.out⟩
 |false=>
  have HD:=Lib.hid (show wdD l=[] by unfold wdD;rw [if_neg (by rw [hok];simp)])
  go_wp2
  go_ret
  exact ⟨_,rfl,by rw [HD.out];exact HO1.out,HB1.out⟩
end Go.Proofs.YtegdjjjpoahamaaGreatDoor
