/-
  The walk of laws.FnAlignWidths.
-/
import Derived.Test.YtegdjjjpoahamaaGreatDoorDrawSound
import Derived.Test.YtegdjjjpoahamaaGreatDoorAlignWI
import Derived.Test.YtegdjjjpoahamaaGreatDoorAlignWS
import Derived.Test.YtegdjjjpoahamaaGreatDoorSameInts
import Derived.Test.YtegdjjjpoahamaaGreatDoorBaseD
import Derived.Deep.QuietTactic
import Derived.BigQuiet
set_option linter.unusedVariables false
set_option maxHeartbeats 8000000
set_option maxRecDepth 100000
namespace Go.Proofs.YtegdjjjpoahamaaGreatDoor
open Go.RowKit
theorem drawAlignWidths_any (hany:AnyOK) (a:Option Addr) (len cap:Nat) (w:World) (h:CodeRow w a len cap):
  Calls Tryz.prog 14 #[.slice a len cap] w fun e w'=> ∃(v:Value) (l:List It),e= .returned v∧RowIt w' v l∧(∀i∈l,FewI i)∧l.length≤100∧Below w.heap.size w w':=by
 go_enter Tryz.func14,Tryz.ntmps14
 go_wp2_with fail
 refine (open_codes a len cap _ h).mono ?_
 rintro e w1 ⟨rfl,hr1,hb1,hs1⟩
 have HB:=Lib.hid hb1;have HS:=Lib.hid hs1
 clear hb1 hs1
 go_wp2_with fail
 refine (hany w.heap.size 0 9 _ (by omega) (by omega) (by omega) hr1).mono ?_
 rintro e w2 ⟨v,l,rfl,hrow,hf,hl,hr2,hg2⟩
 have HB2:=Lib.hid (HB.out.trans (grown_below hg2 (by have:=HS.out;omega) (Nat.le_refl _)))
 clear hg2 hr2 HB HS hr1
 have HRW:=Lib.hid hrow
 obtain ⟨va,vc,rfl,-⟩:=hrow
 go_wp2
 go_ret
 exact ⟨_,l,rfl,HRW.out,hf,hl,HB2.out⟩
theorem few_fitW {l:List It} (hf: ∀i∈l,FewI i):FitI l:=fun i hi=>by
 obtain ⟨h1,h2,h3,h4⟩:=hf i hi
 exact ⟨by unfold maxLen;omega,fun c hc=>by have:=h2 c hc;unfold maxLen;omega,by unfold maxLen;omega⟩
theorem few_shortW {l:List It} (hf: ∀i∈l,FewI i):ShortI l:=fun i hi=>by
 obtain ⟨h1,h2,h3,h4⟩:=hf i hi
 exact ⟨by omega,fun c hc=>by have:=h2 c hc;omega,by omega,by omega⟩
theorem fnAlignWidths_core (a0:Option Addr) (len0 cap0:Nat) (w:World) (hrow:CodeRow w a0 len0 cap0) (htab:Tab w):
  Calls Tryz.prog 3 #[.slice a0 len0 cap0] w fun e w'=>e= .returned (.bool true)∧Below w.heap.size w w':=by
 have hcap:=hrow.1;have hmx:=hrow.2.1
 unfold maxLen at hmx
 by_cases hl:len0≤1048576
 ·have HD:=Lib.hid (drawAlignWidths_any any_ok a0 len0 cap0 w hrow);have HT:=Lib.hid htab
  clear hrow htab
  go_enter Tryz.func3,Tryz.ntmps3
  go_wp2_with fail
  refine HD.out.mono ?_
  rintro e w1 ⟨v1,l,rfl,hr1,hf,hlen,hb1⟩
  have HRW:=Lib.hid hr1;have HB1:=Lib.hid hb1
  obtain ⟨g1,c1,rfl,-⟩:=hr1
  have CI:=Lib.hid (fun v w' hr ht=>alignWidths_impl v l w' hr (few_fitW hf) ht)
  have CS:=Lib.hid (fun v w' hr=>alignWidths_spec v l w' hr (few_shortW hf) (by omega))
  have CV:=Lib.hid (fun v w' hr=>documentValid_spec v l w' hr (few_shortW hf) (by omega))
  have HLN:=Lib.hid hlen
  obtain ⟨P,hP⟩: ∃P,wdD l=P:=⟨_,rfl⟩
  rw [hP] at CI CS
  have HPE:=Lib.hid hP
  clear hf hlen hb1 hP
  go_wp2_with fail
  refine (CI.out _ _ HRW.out (HT.out.keep HB1.out)).mono ?_
  rintro e w2 ⟨v2,rfl,ho2,hb2⟩
  have X2:=Lib.hid (RowI.of_own ho2).1;have R2:=Lib.hid (HRW.out.mono hb2);have HB2:=Lib.hid (HB1.out.trans (hb2.mono HB1.out.size))
  clear ho2 hb2
  go_wp2_with fail
  refine (CS.out _ _ R2.out).mono ?_
  rintro e w3 ⟨v3,rfl,ho3,hb3⟩
  have X3:=Lib.hid (X2.out.mono hb3);have Y3:=Lib.hid (RowI.of_own ho3).1;have R3:=Lib.hid (R2.out.mono hb3);have HB3:=Lib.hid (HB2.out.trans (hb3.mono HB2.out.size))
  clear ho3 hb3
  go_wp2_with fail
  refine (sameInts_same v2 v3 P _ X3.out Y3.out).mono ?_
  rintro e w4 ⟨rfl,hb4⟩
  have X4:=Lib.hid (X3.out.mono hb4);have R4:=Lib.hid (R3.out.mono hb4);have HB4:=Lib.hid (HB3.out.trans (hb4.mono HB3.out.size))
  clear hb4
  go_wp2_with fail
  refine (CV.out _ _ R4.out).mono ?_
  rintro e w5 ⟨rfl,hb5⟩
  have X5:=Lib.hid (X4.out.mono hb5);have R5:=Lib.hid (R4.out.mono hb5);have HB5:=Lib.hid (HB4.out.trans (hb5.mono HB4.out.size))
  clear hb5 X2 X3 X4 Y3 R2 R3 R4 HB2 HB3 HB4
  obtain ⟨d,hd⟩: ∃d,docB l=d:=⟨_,rfl⟩
  rw [hd]
  cases d with
  |false=>
   have hP0:P=[]:=by rw [←HPE.out];unfold wdD;rw [if_neg (by rw [hd];simp)]
   clear HPE hd
   obtain ⟨a2,c2,hv2,-⟩:=X5.out
   rw [hP0] at hv2
   subst hv2
   clear hP0
   go_wp2_with fail
   refine (alive_any _).mono ?_
   rintro e w' ⟨rfl,rfl⟩
   go_wp2
   go_ret
   exact ⟨rfl,HB5.out⟩
  |true=>
   obtain rfl:P=wdL 0 l:=by rw [←HPE.out];unfold wdD;rw [if_pos hd]
   have HX:=Lib.hid X5.out;have HR5:=Lib.hid R5.out
   obtain ⟨a2,c2,rfl,-⟩:=X5.out
   have hPL:=wdL_length l 0
   rw [hPL]
   clear hd CI CS CV X5 R5 HRW HPE
   have hl41:l.length≤100:=HLN.out
   have HXC:=Lib.hid (show∀(k n:Nat),(wdL 0 l)[k]? =some n→ ∃b,a2=some ⟨b,0,none⟩∧b<w5.heap.size∧w5.cell? ⟨b,k,none⟩=some (.int .i64 (n:Int)) from fun k n h=>by
    obtain ⟨hk,e⟩:=List.getElem?_eq_some_iff.mp h
    obtain ⟨a,c,hv,-,-,h3⟩:=HX.out
    injection hv with e1 e2 e3
    obtain ⟨b,ha,hb,hc⟩:=h3.resolve_left (fun e=>by rw [e] at hk;simp at hk)
    exact ⟨b,e1.trans ha,hb,by rw [hc k hk,e]⟩)
   have HKC:=Lib.hid (show∀k,(hk:k<l.length)→ ∃b o,g1=some ⟨b,o,none⟩∧b<w5.heap.size∧w5.cell? ⟨b,o+k*4,none⟩=some (.int .i64 l[k].1)∧w5.cell? ⟨b,o+k*4+1,none⟩=some (.string l[k].2.1) from fun k hk=>by
    obtain ⟨a,c,hv,-,-,h3⟩:=HR5.out
    injection hv with e1 e2 e3
    obtain ⟨b,o,ha,hb,hc⟩:=h3.resolve_left (fun e=>by rw [e] at hk;simp at hk)
    obtain ⟨u,d0,d1,-⟩:=hc k hk
    exact ⟨b,o,e1.trans ha,hb,d0,d1⟩)
   go_wp2_with fail
   go_loopw [5] (fun i wr=> ∃k:Nat,k≤l.length∧i= .int .i64 (k:Int)∧Below w5.heap.size w5 wr) (fun i _=>l.length-(intOf i).toNat)
   case atStart=>exact ⟨0,by omega,rfl,Below.refl _ _⟩
   case round=>
    obtain ⟨k,hk,rfl,hB⟩:=hrel
    have HB:=Lib.hid hB;clear hB
    by_cases hlt:k<l.length
    ·have hltI:(k:Int)<(l.length:Int):=by omega
     obtain ⟨b,o,rfl,hb,d0,d1⟩:=HKC.out k hlt
     replace d0:=(HB.out.cell (p:=⟨b,_,none⟩) hb).trans d0
     replace d1:=(HB.out.cell (p:=⟨b,_,none⟩) hb).trans d1
     have HBL:=Lib.hid hb;clear hb
     have HAT:=Lib.hid (wdL_at l 0 k hlt)
     by_cases h3:l[k].1=3
     ·rw [h3] at d0
      obtain ⟨n,hn,hle⟩:=wd_big hlt h3
      obtain ⟨bx,rfl,hbx,x0⟩:=HXC.out k n hn
      replace x0:=(HB.out.cell (p:=⟨bx,_,none⟩) hbx).trans x0
      have HBX:=Lib.hid hbx;clear hbx
      have hx1: ¬(n:Int)<(l[k].2.1.size:Int):=by omega
      by_cases hk1:k=0
      ·have hkn: ¬(0:Int)<(k:Int):=by omega
       have hkm: ¬0<k:=by omega
       have g1:decide ((0:Int)<(k:Int))=false:=decide_eq_false (by omega)
       have g2:decide (0<k)=false:=decide_eq_false (by omega)
       have HHN:=Lib.hid hn
       clear h3 hle hn hk1
       generalize l[k].2.1=nm at d1 hx1
       have hxc: ¬n<nm.size:=by omega
       have hxa:decide ((n:Int)<(nm.size:Int))=false:=decide_eq_false hx1
       have hxb:decide (n<nm.size)=false:=decide_eq_false hxc
       go_wp2_with fail
       go_quiet (fail)
       go_wp2
       go_roundw
       case rel=>exact ⟨k+1,by omega,by go_num,HB.out.trans ⟨rfl,rfl,rfl,Nat.le_refl _,fun _ _=>rfl⟩⟩
       case measure=>simp [intOf];omega
      ·obtain ⟨j,hkj⟩: ∃j,j+1=k:=⟨k-1,by omega⟩
       obtain ⟨b',o',he,-,e0,-⟩:=HKC.out j (by omega)
       injection he with he
       injection he with he1 he2
       subst he1 he2
       replace e0:=(HB.out.cell (p:=⟨b,_,none⟩) HBL.out).trans e0
       have HNX:=Lib.hid (show l[j].1=3→(wdL 0 l)[j]? =some n from fun h=>by subst hkj;rw [←hn];exact (wd_next hlt h h3).symm)
       generalize l[k].2.1=nm at d1 hx1
       have hxc: ¬n<nm.size:=by omega
       have hxa:decide ((n:Int)<(nm.size:Int))=false:=decide_eq_false hx1
       have hxb:decide (n<nm.size)=false:=decide_eq_false hxc
       have hkp:(0:Int)<(k:Int):=by omega
       have hkm:0<k:=by omega
       have g1:decide ((0:Int)<(k:Int))=true:=decide_eq_true (by omega)
       have g2:decide (0<k)=true:=decide_eq_true (by omega)
       have hwk:IntKind.i64.wrap ((k:Int)-1)=(j:Int):=by rw [IntWalk.i64_in _ (by omega)];omega
       have hjI:(j:Int)<(l.length:Int):=by omega
       have hj0:(0:Int)≤(j:Int):=by omega
       have HKJ:=Lib.hid hkj
       have HHN:=Lib.hid hn
       clear h3 hle hk1 hn
       by_cases hj3:l[j].1=3
       ·obtain ⟨bx',hbx,-,x1⟩:=HXC.out j n (HNX.out hj3)
        injection hbx with hbx
        injection hbx with hbx
        subst hbx
        replace x1:=(HB.out.cell (p:=⟨bx,_,none⟩) HBX.out).trans x1
        rw [hj3] at e0
        clear hj3
        go_wp2_with fail
        go_quiet (fail)
        go_wp2
        go_roundw
        case rel=>exact ⟨k+1,by omega,by go_num,HB.out.trans ⟨rfl,rfl,rfl,Nat.le_refl _,fun _ _=>rfl⟩⟩
        case measure=>simp [intOf];omega
       ·have h4:(l[j].1==3)=false:=beq_eq_false_iff_ne.mpr hj3
        clear hj3
        generalize l[j].1=kj at e0 h4
        go_wp2_with fail
        go_quiet (fail)
        go_wp2
        go_roundw
        case rel=>exact ⟨k+1,by omega,by go_num,HB.out.trans ⟨rfl,rfl,rfl,Nat.le_refl _,fun _ _=>rfl⟩⟩
        case measure=>simp [intOf];omega
     ·have h4:(l[k].1==3)=false:=beq_eq_false_iff_ne.mpr h3
      have hn:=HAT.out
      rw [if_neg h3] at hn
      obtain ⟨bx,rfl,hbx,x0⟩:=HXC.out k 0 hn
      replace x0:=(HB.out.cell (p:=⟨bx,_,none⟩) hbx).trans x0
      clear hbx
      clear h3 hn
      generalize l[k].1=kk at d0 h4
      by_cases hk1:k=0
      ·have hkn: ¬(0:Int)<(k:Int):=by omega
       have hkm: ¬0<k:=by omega
       have g1:decide ((0:Int)<(k:Int))=false:=decide_eq_false (by omega)
       have g2:decide (0<k)=false:=decide_eq_false (by omega)
       clear hk1
       go_wp2_with fail
       go_quiet (fail)
       go_wp2
       go_roundw
       case rel=>exact ⟨k+1,by omega,by go_num,HB.out.trans ⟨rfl,rfl,rfl,Nat.le_refl _,fun _ _=>rfl⟩⟩
       case measure=>simp [intOf];omega
      ·have hkp:(0:Int)<(k:Int):=by omega
       have hkm:0<k:=by omega
       have g1:decide ((0:Int)<(k:Int))=true:=decide_eq_true (by omega)
       have g2:decide (0<k)=true:=decide_eq_true (by omega)
       clear hk1
       go_wp2_with fail
       go_quiet (fail)
       go_wp2
       go_roundw
       case rel=>exact ⟨k+1,by omega,by go_num,HB.out.trans ⟨rfl,rfl,rfl,Nat.le_refl _,fun _ _=>rfl⟩⟩
       case measure=>simp [intOf];omega
    ·obtain rfl:k=l.length:=by omega
     have hltI: ¬(l.length:Int)<(l.length:Int):=by omega
     go_wp2
     go_ret
     exact ⟨rfl,HB5.out.trans (HB.out.mono HB5.out.size)⟩
 ·go_enter Tryz.func3,Tryz.ntmps3
  go_wp2
  go_ret
  exact ⟨rfl,Below.refl _ _⟩
end Go.Proofs.YtegdjjjpoahamaaGreatDoor
