/-
  Part of the proof of FnPrintDocument.
-/
import Derived.Test.YtegdjjjpoahamaaGreatDoorQQAaf
import Derived.Test.YtegdjjjpoahamaaGreatDoorDrawSound
import Derived.Test.YtegdjjjpoahamaaGreatDoorLineI
import Derived.Below
import Derived.Deep.Onto
import Derived.Deep.Draws
import Derived.Deep.AppendLies
import Derived.Deep.RegionHeld3
import Derived.RegionTactic
import Derived.Deep.RegionLaw
import Derived.Deep.DrawnRows
import Derived.StillTailTactics
import Derived.WalkKit
import Derived.WalkSpells
import Derived.Lib.Hide
import Derived.IntWalk
import Derived.BigQuiet
import Derived.Deep.QuietTactic
import Derived.Laws.OwnMore
import Derived.OwnWalk
import Derived.Deep.RegionWith
set_option linter.unusedVariables false
set_option maxHeartbeats 8000000
set_option maxRecDepth 100000
namespace Go.Proofs.YtegdjjjpoahamaaGreatDoor
noncomputable def printK (l:List It):Bool:=docB l&&joinOk (printL l)
noncomputable def printT (l:List It):ByteArray:=if printK l=true then joinB (printL l) else ⟨#[]⟩
theorem printK_iff (l:List It):printK l=true↔docB l=true∧joinOk (printL l)=true:=by rw [printK,Bool.and_eq_true]
theorem print_reads {R:ByteArray→List Cl} (hR: ∀l,okE l=true→R (baL (textE l))=l) {l:List It} (h:printK l=true):readD R (printT l)=(l,-1)∧(linesB (printT l)).length=l.length∧textB (printT l)=true:=by
 obtain ⟨h1,h2⟩:=(printK_iff l).mp h
 obtain ⟨k1,k2⟩:=lines_join _ h2
 have e:printT l=joinB (printL l):=by rw [printT,if_pos h]
 have hlen:(printL l).length=l.length:=printG_length l 0
 refine ⟨?_,by rw [e,k2,hlen],by rw [e];exact k1⟩
 rw [e,readD,if_pos k1,k2]
 refine lines_read hR h1 _ hlen fun k h1 h2=> ?_
 rw [show (printL l)[k]=_ from printG_at l 0 k h2]
 exact ⟨_,_,baL_list _⟩
end Go.Proofs.YtegdjjjpoahamaaGreatDoor
namespace Go.Proofs.YtegdjjjpoahamaaGreatDoor
open Go.RowKit
theorem line_spec0 {k:Int} {n t:ByteArray} {l:List Cl} {u:Value} {D:Nat} (w:World) (hv:itemB (k,n,l,t)=true) (hr:RowC w u l) (hn:n.size≤1048576) (ht:t.size≤1048576) (hd:D≤4):
  Calls Tryz.prog 58 #[.agg #[.int .i64 k, .string n,u, .string t], .int .i64 (D:Int), .int .i64 0] w fun e w'=>e= .returned (.string (baL (lineI (k,n,l,t) D 0)))∧Below w.heap.size w w':=
 line_spec (k,n,l,t) u D 0 w hv hr hn ht hd (by omega)
theorem printT_join {l:List It} (h:docB l=true):printK l=joinOk (printL l)∧printT l=joinB (printL l):=by
 have hk:printK l=joinOk (printL l):=by unfold printK;rw [h];rfl
 refine ⟨hk, ?_⟩
 unfold printT
 rw [hk]
 by_cases hj:joinOk (printL l)=true
 ·rw [if_pos hj]
 ·rw [if_neg hj,joinB,if_neg hj];rfl
theorem printT_no {l:List It} (h:docB l=false):printK l=false∧printT l=⟨#[]⟩:=by
 have hk:printK l=false:=by unfold printK;rw [h];rfl
 exact ⟨hk,by unfold printT;rw [hk];rfl⟩
theorem print_line {l:List It} (h:docB l=true) (k:Nat) (hk:k<l.length): ∃D:Nat,(depL 0 l)[k]? =some (D:Int)∧D≤4∧(printL l).take (k+1)=(printL l).take k++[baL (lineI l[k] D 0)]:=nest_line ((docB_iff l).mp h).2.2 k hk
theorem print_sized {l:List It} (h:ShortI l) (hd:docB l=true):Sized (printL l):=nest_sized h ((docB_iff l).mp hd).2.2
theorem printDocument_spec (v:Value) (l:List It) (w:World) (hr:RowIt w v l) (hz:ShortI l) (hl:l.length≤1048576):
 Calls Tryz.prog 39 #[v] w fun e w'=>e= .returned (.tuple #[.string (printT l), .bool (printK l)])∧Below w.heap.size w w':=by
 have HC:=Lib.hid (documentValid_spec v l w hr hz hl)
 have HR:=Lib.hid hr
 obtain ⟨ao,cap,rfl,h1,h2,h3⟩:=hr
 unfold maxLen at h2
 have H3:=Lib.hid h3;have HZ:=Lib.hid hz
 clear h3 hz
 obtain ⟨i0,hi,hz0,hz1,hz2⟩:=info_parts infoStr
 cases hok:docB l with
 |false=>
  obtain ⟨hk,ht⟩:=printT_no hok
  rw [hk,ht]
  clear hk ht
  go_enter Tryz.func39,Tryz.ntmps39
  go_wp2_with fail
  refine HC.out.mono ?_
  rintro e w1 ⟨rfl,hb1⟩
  have HB1:=Lib.hid hb1;clear hb1
  rw [hok]
  clear hok
  go_wp2
  go_ret2
  exact ⟨rfl,HB1.out⟩
 |true=>
  have h30:=((docB_iff l).mp hok).1
  have HAL:=Lib.hid ((docB_iff l).mp hok).2.1
  have HN:=Lib.hid ((docB_iff l).mp hok).2.2
  have HPT:=Lib.hid (printT_join hok)
  have HPL:=Lib.hid (print_line hok)
  have HPS:=Lib.hid (print_sized HZ.out hok)
  have HLL:=Lib.hid (printL_length l)
  rw [HPT.out.1,HPT.out.2]
  go_enter Tryz.func39,Tryz.ntmps39
  go_wp2_with fail
  refine HC.out.mono ?_
  rintro e w1 ⟨rfl,hb1⟩
  have HB1:=Lib.hid hb1;clear hb1
  rw [hok]
  clear hok
  go_wp2_with fail
  refine (l11Nest_any _ l _ (HR.out.mono HB1.out) hl).mono ?_
  rintro e w2 ⟨vd,d,L,rfl,hoL,hb2,hnn⟩
  have hLd:L=depL 0 l:=by
   rcases hnn with ⟨-,h⟩|⟨h,-⟩
   ·exact h
   ·rw [HN.out] at h;cases h
  have HDC:=Lib.hid (RowOf.of_own hoL)
  obtain ⟨da,dc,rfl⟩:=own_shape hoL
  have hLl:L.length=l.length:=by rw [hLd,depL_length]
  have HLD:=Lib.hid hLd
  have HB2:=Lib.hid (HB1.out.trans (hb2.mono HB1.out.size))
  clear hoL hb2 hnn hLd
  have HLI:=Lib.hid (World.ownsRow_lit (base:=w2.heap.size) (size:=1) (e:=9) w2 #[] 0 (Nat.le_refl _) (by unfold maxLen;omega) rfl)
  have HBL:=Lib.hid ((Below.refl w2.heap.size w2).alloc (Nat.le_refl _) (.cells #[] 9))
  go_wp2_with fail
  go_loopw [6,7] (fun a i wr=> ∃k:Nat,k≤l.length∧i= .int .i64 (k:Int)∧wr.ownsRow w2.heap.size 9 1 a k (strs ((printL l).take k))∧Below w2.heap.size w2 wr) (fun _ i _=>l.length-(intOf i).toNat)
  case atStart=>exact ⟨0,Nat.zero_le _,rfl,HLI.out,HBL.out⟩
  case round=>
   obtain ⟨k,hk,rfl,hown,hbr⟩:=hrel
   have HOW:=Lib.hid hown;have HBR:=Lib.hid hbr
   have HBW:=Lib.hid (HB2.out.trans (hbr.mono HB2.out.size))
   obtain ⟨aa,ac,rfl⟩:=own_shape hown
   clear hown hbr
   by_cases hlt:k<l.length
   ·have hltI:(k:Int)<(l.length:Int):=by omega
    obtain ⟨b,o,rfl,hbl,cc⟩:=H3.out.resolve_left (by rintro rfl;simp at hlt)
    obtain ⟨u,hu⟩:=cc k hlt
    obtain ⟨d0,d1,d2,d3,hru⟩:=hu.mono hbl HBW.out
    obtain ⟨z1,z2,z3,z4⟩:=HZ.out _ (List.getElem_mem hlt)
    obtain ⟨D,hD,hD4,hTK⟩:=HPL.out k hlt
    have hvi:itemB l[k]=true:=by have:=HAL.out;rw [List.all_eq_true] at this;exact this _ (List.getElem_mem hlt)
    have hDc: ∃bd od,da=some ⟨bd,od,none⟩∧bd<w2.heap.size∧wr.cell? ⟨bd,od+k,none⟩=some (.int .i64 (D:Int)):=by
     obtain ⟨bo,bcap,hsl,g1,g2,g3⟩:=HDC.out
     rw [intsZ_length] at hsl g1
     simp only [Value.slice.injEq] at hsl
     obtain ⟨rfl,-,rfl⟩:=hsl
     obtain ⟨bd,od,rfl,hbd,hcd⟩:=g3.resolve_left (fun e=>by have:=congrArg List.length e;rw [intsZ_length,List.length_nil] at this;omega)
     refine ⟨bd,od,rfl,hbd,(HBR.out.cell (p:=⟨bd,_,none⟩) hbd).trans (hcd k _ ?_)⟩
     rw [←HLD.out] at hD
     simp [intsZ,hD]
    obtain ⟨bd,od,rfl,hbdl,dd⟩:=hDc
    have hdc:L.length≤dc:=by
     obtain ⟨bo,bcap,hsl,g1,g2,g3⟩:=HDC.out
     rw [intsZ_length] at hsl g1
     simp only [Value.slice.injEq] at hsl
     obtain ⟨-,-,rfl⟩:=hsl
     exact g1
    generalize l[k]=it at d0 d1 d2 d3 hru hTK hvi z1 z4
    obtain ⟨ik,inm,ics,int⟩:=it
    simp only at d0 d1 d2 d3 hru z1 z4
    obtain ⟨au,cu,rfl⟩: ∃au cu,u= .slice au ics.length cu:=by obtain ⟨au,cu,h,-⟩:=hru;exact ⟨au,cu,h⟩
    have HTK:=Lib.hid hTK
    have HLN:=Lib.hid (fun ww hh=>line_spec0 (u:= .slice au ics.length cu) (D:=D) ww hvi hh z1 z4 hD4)
    have HRD:=Lib.hid (show RowC wr.drew (.slice au ics.length cu) ics from hru.drewN 1)
    have HOD:=Lib.hid (show wr.drew.ownsRow w2.heap.size 9 1 (.slice aa k ac) k (strs ((printL l).take k)) from HOW.out.drew)
    have hs2:=HBR.out.size
    clear cc hu hru hTK hvi z1 z2 z3 z4 hD
    generalize baL (lineI (ik,inm,ics,int) D 0)=LN at HTK HLN
    have hbk0:(0:Int)≤(k:Int):=by omega
    have hbkL:(k:Int)<(L.length:Int):=by omega
    have HCE:=Lib.hid (show∀W',Below w2.heap.size w2 W'→W'.cell? ⟨b,o+k*4,none⟩=some (.int .i64 ik)∧W'.cell? ⟨b,o+k*4+1,none⟩=some (.string inm)∧W'.cell? ⟨b,o+k*4+2,none⟩=some (.slice au ics.length cu)∧W'.cell? ⟨b,o+k*4+3,none⟩=some (.string int)∧W'.cell? ⟨bd,od+k,none⟩=some (.int .i64 (D:Int)) from fun W' hb'=>
     have hbl':b<w2.heap.size:=Nat.lt_of_lt_of_le hbl HB2.out.size
     have cc: ∀(bb j:Nat),bb<w2.heap.size→W'.cell? ⟨bb,j,none⟩=wr.cell? ⟨bb,j,none⟩:=fun bb j h=>(hb'.cell (p:=⟨bb,j,none⟩) h).trans (HBR.out.cell (p:=⟨bb,j,none⟩) h).symm
     ⟨(cc b _ hbl').trans d0,(cc b _ hbl').trans d1,(cc b _ hbl').trans d2,(cc b _ hbl').trans d3,(cc bd _ hbdl).trans dd⟩)
    go_wp2_with fail
    go_region_held3 (fun W'=>W'.cell? ⟨b,o+k*4,none⟩=some (.int .i64 ik)∧W'.cell? ⟨b,o+k*4+1,none⟩=some (.string inm)∧W'.cell? ⟨b,o+k*4+2,none⟩=some (.slice au ics.length cu)∧W'.cell? ⟨b,o+k*4+3,none⟩=some (.string int)∧W'.cell? ⟨bd,od+k,none⟩=some (.int .i64 (D:Int)))
     (first|exact HCE.out _ HB4.out|exact HCE.out _ HB3.out|exact HCE.out _ HBR.out.drew|exact HCE.out _ HBR.out|go_keep)
     (first
       |((go_at_call 58;(with_reducible refine (HLN.out _ HRD.out).mono ?_);rintro e w3 ⟨rfl,hb3⟩;have hs3:=hb3.size;have HB3:=Lib.hid (HBR.out.drew.trans (hb3.mono HBR.out.size))))
       |(refine step_append_lies _ (by rfl) _ _ _ (by rfl) w2.heap.size 9 i0 _ 1 16 Tryz.underlying38 hi hz0 hz1 hz2 rfl (by omega) (.slice aa k ac) k _ (by rfl) (by exact ((own_belowS HOD.out hb3).alloc _))
          ⟨w3.heap.size,0,none⟩ 1 1 [.string LN] (by rfl) (by rfl) (World.news_of_block (cs:= #[.string LN]) (t:=9) (fr:=(0,0)) (heap_alloc_new w3 _)) (by simp [Value.oneCell'])
          (by omega) (by unfold maxLen;omega) (by omega) (by simp;exact Nat.le_succ_of_le (Nat.le_trans HBR.out.size hs3)) (w3.heap.size+1) (by simp) ?_;intro gg cap' w4 hown4 hgrow4 hat4 hlt4;have HB4:=Lib.hid ((HB3.out.alloc (Nat.le_trans HBR.out.size hs3) (.cells #[.string LN] 9)).grown hgrow4 (by simp;exact Nat.le_succ_of_le (Nat.le_trans HBR.out.size hs3)) (fun q hq=>(HOW.out.lt q hq).1))))
    all_goals
     have HO4:=Lib.hid hown4
     clear hown4 hgrow4 hat4 hlt4 hb3
     go_wp2
     go_roundw
     case rel=>exact ⟨k+1,by omega,by go_num,by rw [HTK.out,strs_append];exact HO4.out,HB4.out⟩
     case measure=>simp [intOf];omega
   ·obtain rfl:k=l.length:=by omega
    have hltI: ¬(l.length:Int)<(l.length:Int):=by omega
    have HFU:=Lib.hid (show RowOf wr (.slice aa l.length ac) (strs (printL l)) from by
     have:=RowOf.of_own HOW.out
     rw [List.take_of_length_le (Nat.le_of_eq HLL.out)] at this
     exact this)
    go_wp2_with fail
    refine (linesText_spec _ (printL l) wr HFU.out HPS.out).mono ?_
    rintro e w5 ⟨hj,hw5⟩
    subst hw5
    unfold Joins at hj
    subst hj
    go_wp2
    go_ret2
    exact ⟨rfl,HBW.out⟩
end Go.Proofs.YtegdjjjpoahamaaGreatDoor
namespace Go.Proofs.YtegdjjjpoahamaaGreatDoor
open Go.RowKit
theorem print_size (l:List It):(printT l).size≤20000:=by
 by_cases hk:printK l=true
 ·have h:=((lines_join _ ((printK_iff l).mp hk).2)).1
  rw [printT,if_pos hk]
  simp only [textB,Bool.and_eq_true,decide_eq_true_eq] at h;exact h.1
 ·rw [printT,if_neg hk];exact Nat.zero_le _
end Go.Proofs.YtegdjjjpoahamaaGreatDoor
namespace Go.Proofs.YtegdjjjpoahamaaGreatDoor
open Go.RowKit
theorem print_plain {l:List It} (hd:docB l=true): ∀t∈printL l,plainL t.data.toList=true:=by
 intro t ht
 obtain ⟨k,hk,rfl⟩:=List.getElem_of_mem ht
 have hk2:k<l.length:=by rw [printL_length] at hk;exact hk
 rw [show (printL l)[k]=_ from printG_at l 0 k hk2,baL_list]
 have hv:=((docB_iff l).mp hd).2.1
 rw [List.all_eq_true] at hv
 exact line_plain (hv _ (List.getElem_mem hk2)) _ 0
theorem RowKw.of {w0 w:World} {v:Value} {l:List It} (h:RowIt w0 v l):RowKw w0 w v l:=by
 obtain ⟨ao,cap,hv,h1,h2,h3⟩:=h
 refine ⟨ao,cap,hv,h1,h2,h3.imp id ?_⟩
 rintro ⟨b,o,ha,hlt,hj⟩
 refine ⟨b,o,ha,fun k hk=> ?_⟩
 obtain ⟨u,hu⟩:=hj k hk
 refine ⟨u,hu.2.2.2.2,fun W' hb _=> ?_⟩
 obtain ⟨d0,d1,d2,d3,-⟩:=hu.mono hlt hb
 exact ⟨d0,d1,d2,d3⟩
theorem printDocument_impl (v:Value) (l:List It) (w:World) (hr:RowIt w v l) (hz:ShortI l) (hl:l.length≤1048576) (htab:Tab w):
  Calls Tryz.prog 29 #[v] w fun e w'=>e= .returned (.tuple #[.string (printT l), .bool (printK l)])∧Below w.heap.size w w':=by
 have HC:=Lib.hid (documentValid_impl v l w hr (fitI_of_short hz) htab)
 have HR:=Lib.hid hr;have HT:=Lib.hid htab;have HZ:=Lib.hid hz
 obtain ⟨ao,cap,rfl,h1,h2,h3⟩:=hr
 clear h3 hz htab
 cases hok:docB l with
 |false=>
  obtain ⟨hk,ht⟩:=printT_no hok
  rw [hk,ht]
  rw [hok] at HC
  clear hk ht hok
  go_enter Tryz.func29,Tryz.ntmps29
  go_wp2_with fail
  refine HC.out.mono ?_
  rintro e w1 ⟨rfl,hb1⟩
  have HB1:=Lib.hid hb1;clear hb1
  go_wp2
  go_ret2
  exact ⟨rfl,HB1.out⟩
 |true=>
  obtain ⟨h30,hal,hn⟩:=(docB_iff l).mp hok
  rw [List.all_eq_true] at hal
  have HPT:=Lib.hid (lines_text (print_plain hok))
  have HJ:=Lib.hid (printT_join hok)
  have HDW:=Lib.hid (fun (w0 w1:World) (b:Nat) (v u:Value) (hb:Below w0.heap.size w0 w1) (hw:LwAt w0.heap.size b [] w1) (hr:RowIt w0 v l) (ht:Tab w0) (hu: ∃B,w1.ownsRow B 3 1 u l.length (ints (dps 0 l)))=>document_w w0 w1 b v u l hb hw (.of hr) HZ.out h30 (fun i hi=> .inl (hal i hi)) hn ht hu)
  have HDP:=Lib.hid (fun (w':World) (v:Value) (hr:RowIt w' v l) (ht:Tab w')=>depthsOf_impl v l w' hr (fitI_of_short HZ.out) ht)
  have HDD:=Lib.hid (show dpD l=dps 0 l by unfold dpD;rw [if_pos hok])
  have hlen:(accTo (printL l) l.length).size≤100000000:=by
   have:=acc_len HZ.out hn l.length (Nat.le_refl _)
   rw [size_bytes];omega
  rw [printL_length] at HPT
  rw [hok] at HC
  obtain ⟨A,hA⟩: ∃A,A=accTo (printL l) l.length:=⟨_,rfl⟩
  rw [←hA] at HDW HPT hlen
  have HFIN:=Lib.hid (show (if textB A=true then A else ⟨#[]⟩)=printT l∧textB A=printK l from by
   obtain ⟨p1,p2⟩:=HPT.out
   obtain ⟨j1,j2⟩:=HJ.out
   refine ⟨?_,by rw [j1,p1]⟩
   by_cases ht:textB A=true
   ·rw [if_pos ht,j2];exact p2 (by rw [←p1];exact ht)
   ·rw [if_neg ht,printT,if_neg (by rw [j1,←p1];exact ht)])
  clear hok hA hal hn
  go_enter Tryz.func29,Tryz.ntmps29
  go_wp2_with fail
  refine HC.out.mono ?_
  rintro e w1 ⟨rfl,hb1⟩
  have HB1:=Lib.hid hb1;have HR1:=Lib.hid (HR.out.mono hb1);have HT1:=Lib.hid (HT.out.keep hb1)
  have BX:=Lib.hid ((Below.refl w1.heap.size w1).alloc (Nat.le_refl _) (.cells #[.pointer none, .slice none 0 0] 64))
  clear hb1
  go_wp2_with fail
  refine (HDP.out _ _ (HR1.out.mono BX.out) (HT1.out.keep BX.out)).mono ?_
  rintro e w2 ⟨u,rfl,ho2,hb2⟩
  rw [HDD.out,dps_length] at ho2
  have W2:=Lib.hid ((LwAt.new w1).later hb2)
  have B2:=Lib.hid (BX.out.trans (hb2.mono (by simp)))
  have O2:=Lib.hid ho2
  obtain ⟨ua,uc,rfl⟩:=own_shape ho2
  clear hb2 ho2
  go_wp2_with fail
  refine (HDW.out w1 w2 w1.heap.size _ _ B2.out W2.out HR1.out HT1.out ⟨_,O2.out⟩).mono ?_
  rintro e w3 ⟨rfl,h3,hb3,-⟩
  have W3:=Lib.hid h3;have B3:=Lib.hid hb3
  clear h3 hb3
  go_wp2_with fail
  refine (result_w w1.heap.size w1.heap.size A w3 W3.out B3.out.size hlen).mono ?_
  rintro e w4 ⟨rfl,hb4⟩
  rw [HFIN.out.1,HFIN.out.2]
  have HB4:=Lib.hid (HB1.out.trans ((B3.out.trans hb4).mono HB1.out.size));clear hb4
  go_wp2
  go_ret2
  exact ⟨rfl,HB4.out⟩
end Go.Proofs.YtegdjjjpoahamaaGreatDoor
namespace Go.Proofs.YtegdjjjpoahamaaGreatDoor
open Go.RowKit
theorem drawPrintDocument_any (hany:AnyOK) (a:Option Addr) (len cap:Nat) (w:World) (h:CodeRow w a len cap):
  Calls Tryz.prog 38 #[.slice a len cap] w fun e w'=> ∃(v:Value) (l:List It),e= .returned v∧RowIt w' v l∧(∀i∈l,FewI i)∧l.length≤100∧Below w.heap.size w w':=by
 go_enter Tryz.func38,Tryz.ntmps38
 go_wp2_with fail
 refine (open_codes a len cap _ h).mono ?_
 rintro e w1 ⟨rfl,hr1,hb1,hs1⟩
 have HB:=Lib.hid hb1;have HS:=Lib.hid hs1
 clear hb1 hs1
 go_wp2_with fail
 refine (hany w.heap.size 0 9 _ (by omega) (by omega) (by omega) hr1).mono ?_
 rintro e w2 ⟨v,l,rfl,hrow,hf,hl,hr2,hg2⟩
 have HB2:=Lib.hid (HB.out.trans (grown_below hg2 (by have:=HS.out;omega) (Nat.le_refl _)))
 clear hg2 hr2 HB HS hr1
 have HRW:=Lib.hid hrow
 obtain ⟨va,vc,rfl,-⟩:=hrow
 go_wp2
 go_ret
 exact ⟨_,l,rfl,HRW.out,hf,hl,HB2.out⟩
theorem fnPrintDocument_coreG (hany:AnyOK) (a0:Option Addr) (len0 cap0:Nat) (w:World) (hrow:CodeRow w a0 len0 cap0) (htab:Tab w):
  Calls Tryz.prog 10 #[.slice a0 len0 cap0] w fun e w'=>e= .returned (.bool true)∧Below w.heap.size w w':=by
 have hcap:=hrow.1;have hmx:=hrow.2.1
 unfold maxLen at hmx
 by_cases hl:len0≤1048576
 ·have HD:=Lib.hid (drawPrintDocument_any hany a0 len0 cap0 w hrow);have HT:=Lib.hid htab
  clear hrow htab hany
  go_enter Tryz.func10,Tryz.ntmps10
  go_wp2_with fail
  refine HD.out.mono ?_
  rintro e w1 ⟨v,l,rfl,hr1,hfew,hl1,hb1⟩
  have HB1:=Lib.hid hb1;have R1:=Lib.hid hr1;have HSI:=Lib.hid (fewI_shortI hfew)
  obtain ⟨va,vc,rfl,-⟩:=hr1
  have HPI:=Lib.hid (fun w' (hr:RowIt w' (.slice va l.length vc) l) (ht:Tab w')=>printDocument_impl (.slice va l.length vc) l w' hr HSI.out (by omega) ht)
  have HPS:=Lib.hid (fun w' (hr:RowIt w' (.slice va l.length vc) l)=>printDocument_spec (.slice va l.length vc) l w' hr HSI.out (by omega))
  have HTS:=Lib.hid (print_size l)
  have HNT:=Lib.hid (show printK l=false→printT l=⟨#[]⟩ from fun h=>by rw [printT,if_neg (by rw [h];simp)])
  have HRD:=Lib.hid (show printK l=true→ ∀w',Tab w'→Calls Tryz.prog 23 #[.string (printT l)] w' (NewD (l,-1) w') from fun h w' ht=>by
   have:=readDocument_impl (printT l) w' (by have:=HTS.out;omega) ht
   rw [(print_reads (fun l hl=>rdI_text hl) h).1] at this;exact this)
  have HLN:=Lib.hid (show printK l=true→(linesB (printT l)).length=l.length from fun h=>(print_reads (fun l hl=>rdI_text hl) h).2.1)
  generalize printT l=T at HPI HPS HTS HNT HRD HLN
  generalize printK l=K at HPI HPS HNT HRD HLN
  clear hb1 hfew
  go_wp2_with fail
  refine (HPI.out _ R1.out (HT.out.keep HB1.out)).mono ?_
  rintro e w2 ⟨rfl,hb2⟩
  have HB2:=Lib.hid (HB1.out.trans (hb2.mono HB1.out.size));have R2:=Lib.hid (R1.out.mono hb2);clear hb2
  go_wp2_with fail
  refine (HPS.out _ R2.out).mono ?_
  rintro e w3 ⟨rfl,hb3⟩
  have HB3:=Lib.hid (HB2.out.trans (hb3.mono HB2.out.size));have R3:=Lib.hid (R2.out.mono hb3);clear hb3
  clear HB1 HB2 HPI HPS R1 R2
  cases K with
  |false=>
   have hT:=HNT.out rfl
   subst hT
   have e0:(⟨#[]⟩:ByteArray).toList=[]:=ByteArray.toList_eq _
   clear HRD HLN HNT
   go_wp2_with fail
   refine (alive_any _).mono ?_
   rintro e w' ⟨rfl,rfl⟩
   go_wp2
   go_ret
   exact ⟨rfl,HB3.out⟩
  |true=>
   go_wp2_with fail
   refine (HRD.out (by simp) _ (HT.out.keep HB3.out)).mono ?_
   rintro e w4 ⟨v4,us4,rfl,ho4,hb4⟩
   have X4:=Lib.hid ho4.reads;have R4:=Lib.hid (R3.out.mono hb4);have HB4:=Lib.hid (HB3.out.trans (hb4.mono HB3.out.size))
   obtain ⟨a4,c4,rfl⟩:=own_shape ho4.row
   clear ho4 hb4
   go_wp2_with fail
   refine (sameItems_same _ _ l w4 X4.out R4.out).mono ?_
   rintro e w5 ⟨rfl,hb5⟩
   have HB5:=Lib.hid (HB4.out.trans (hb5.mono HB4.out.size));clear hb5
   go_wp2_with fail
   refine (linesOf_impl T w5 (by have:=HTS.out;unfold maxLen;omega)).mono ?_
   rintro e w6 ⟨v6,rfl,ho6,hb6⟩
   rw [HLN.out (by simp)] at ho6
   have HB6:=Lib.hid (HB5.out.trans (hb6.mono HB5.out.size))
   obtain ⟨a6,c6,rfl⟩:=own_shape ho6
   clear ho6 hb6
   go_wp2
   go_ret
   exact ⟨rfl,HB6.out⟩
 ·clear hrow htab hany
  go_enter Tryz.func10,Tryz.ntmps10
  go_wp2
  go_ret
  exact ⟨rfl,Below.refl _ _⟩
end Go.Proofs.YtegdjjjpoahamaaGreatDoor
namespace Go.Proofs.YtegdjjjpoahamaaGreatDoor
open Go.RowKit
theorem fnPrintDocument_core (a0:Option Addr) (len0 cap0:Nat) (w:World) (hrow:CodeRow w a0 len0 cap0) (htab:Tab w):
  Calls Tryz.prog 10 #[.slice a0 len0 cap0] w fun e w'=>e= .returned (.bool true)∧Below w.heap.size w w':=
 fnPrintDocument_coreG any_ok a0 len0 cap0 w hrow htab
end Go.Proofs.YtegdjjjpoahamaaGreatDoor
