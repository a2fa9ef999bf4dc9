/-
  The walk of laws.FnEvaluate.
-/
import Derived.Test.YthillfgjpalpcaaGreatDoorEvaI
import Derived.Test.YthillfgjpalpcaaGreatDoorGDe
import Derived.Deep.RegionLaw
set_option linter.unusedVariables false
set_option maxHeartbeats 8000000
set_option maxRecDepth 100000
namespace Go.Proofs.YthillfgjpalpcaaGreatDoor
open Go.RowKit
theorem fnEvaluate_core (a0:Option Addr) (len0 cap0:Nat) (w:World) (hrow:CodeRow w a0 len0 cap0) (htab:Tab w):
  Calls Tryz.prog 4 #[.slice a0 len0 cap0] w fun e w'=>e= .returned (.bool true)∧Below w.heap.size w w':=by
 have hcap:=hrow.1;have hmx:=hrow.2.1
 unfold maxLen at hmx
 by_cases hl:len0≤1048576
 case neg=>
  clear hrow htab
  go_enter Tryz.func4,Tryz.ntmps4
  go_wp2
  go_ret
  exact ⟨rfl,Below.refl _ _⟩
 have HTAB:=zz htab;clear htab
 obtain ⟨i0,hi,hz0,hz1,hz2⟩:=info_parts infoBd
 go_enter Tryz.func4,Tryz.ntmps4
 go_wp2_with fail
 refine (drawEvaluate_any a0 len0 cap0 _ hrow).mono ?_
 rintro e w1 ⟨v,vb,l,us,env,rfl,hv,hwd,h60,hown,hfew,h7,hb1⟩
 have HB1:=zz hb1;have HV1:=zz hv;have HE1:=zz hown.reads;have HO1:=zz hown;have HF:=zz hfew;have HSB:=zz (few_shortB hfew);have HSH:=zz (wd_short hwd)
 clear hrow hb1 hv hown hfew
 obtain ⟨R,ok,hR,hOK,hR60,hRz,hRs,hyes,hno⟩:=evalR l env
 have HEI:=zz (fun w' (hr:RowC w' v l) (hrb:RowB w' vb env) (ht:Tab w')=>evaluate_impl v vb l env w' hr hrb HSH.out.1 HSB.out ht)
 have HES:=zz (fun w' (hr:RowC w' v l) (hrb:RowB w' vb env)=>evaluate_spec v vb l env w' hr hrb HSH.out.2 (by omega) HSB.out)
 rw [hR,hOK] at HEI HES
 have HRE:=zz (And.intro hR hOK);have HWN:=zz hwd
 have HY:=zz hyes;have HN:=zz hno;have HRZ:=zz hRz;have HRS:=zz hRs
 have hok:(ok !=ok)=false:=by simp
 clear hwd hR hOK hRz hRs hyes hno
 go_wp2_with fail
 refine (HEI.out _ HV1.out HE1.out (HTAB.out.keep HB1.out)).mono ?_
 rintro e w2 ⟨v2,rfl,ho2,hb2⟩
 have HB2:=zz (HB1.out.trans (hb2.mono HB1.out.size));have HO2:=zz (HO1.out.below hb2);have HV2:=zz (HV1.out.mono hb2);have HE2:=zz (HE1.out.mono hb2);have HR2:=zz (RowC.of_own ho2).1
 clear ho2 hb2 HB1 HO1 HV1 HE1 HEI
 go_wp2_with fail
 refine (HES.out _ HV2.out HE2.out).mono ?_
 rintro e w3 ⟨v3,rfl,ho3,hb3⟩
 have HB3:=zz (HB2.out.trans (hb3.mono HB2.out.size));have HO3:=zz (HO2.out.below hb3);have HV3:=zz (HV2.out.mono hb3);have HE3:=zz (HE2.out.mono hb3);have HR3:=zz (HR2.out.mono hb3);have HS3:=zz (RowC.of_own ho3).1
 clear ho3 hb3 HB2 HO2 HV2 HE2 HR2 HES
 go_wp2_with fail
 refine (sameCells_same v2 v3 R _ HR3.out HS3.out).mono ?_
 rintro e w4 ⟨rfl,hb4⟩
 have HB4:=zz (HB3.out.trans (hb4.mono HB3.out.size));have HO4:=zz (HO3.out.below hb4);have HV4:=zz (HV3.out.mono hb4);have HE4:=zz (HE3.out.mono hb4);have HR4:=zz (HR3.out.mono hb4)
 clear hb4 HB3 HO3 HV3 HE3 HR3 HS3
 have HWD:=zz (show∀c∈l,c.1=4→c.2.1≠⟨#[110,111,119,104,101,114,101]⟩ from fun c hc _=>wdN_ne (HWN.out c hc))
 obtain ⟨a2,c2,rfl⟩:=row_shape HR4.out
 have HEX:=zz (exprValid_spec v l w4 HV4.out HSH.out.2 (by omega))
 have HRN:=zz (show¬(okE l=true∧bindOK env=true)→ok=false∧R=[] from fun h=>by
  cases ok with
  |true=>exact absurd ⟨(HY.out rfl).2.2.1,(HY.out rfl).2.2.2⟩ h
  |false=>exact ⟨rfl,(HN.out rfl).2⟩)
 by_cases hE:okE l=true
 case neg=>
  obtain ⟨rfl,rfl⟩:=HRN.out (fun h=>hE h.1)
  have hE':okE l=false:=by simpa using hE
  rw [hE'] at HEX
  clear hE hE'
  go_wp2_with fail
  refine HEX.out.mono ?_
  rintro e w5 ⟨rfl,hb5⟩
  have HB5:=zz (HB4.out.trans (hb5.mono HB4.out.size));clear hb5
  go_wp2_with fail
  refine (alive_any _).mono ?_
  rintro e w' ⟨rfl,rfl⟩
  go_wp2
  go_ret
  exact ⟨rfl,HB5.out⟩
 rw [hE] at HEX
 have HE:=zz hE;clear hE
 go_wp2_with fail
 refine HEX.out.mono ?_
 rintro e w5 ⟨rfl,hb5⟩
 have HBN:=zz (bindingsValid_spec vb env w5 (HE4.out.mono hb5) HSB.out)
 have HB5:=zz (HB4.out.trans (hb5.mono HB4.out.size));have HV5:=zz (HV4.out.mono hb5);have HR5:=zz (HR4.out.mono hb5);have HO5:=zz (HO4.out.below hb5)
 clear hb5 HB4 HV4 HR4 HO4 HE4 HEX
 by_cases hbk:bindOK env=true
 case neg=>
  obtain ⟨rfl,rfl⟩:=HRN.out (fun h=>hbk h.2)
  have hbk':bindOK env=false:=by simpa using hbk
  rw [hbk'] at HBN
  clear hbk hbk'
  go_wp2_with fail
  refine HBN.out.mono ?_
  rintro e w6 ⟨rfl,hb6⟩
  have HB6:=zz (HB5.out.trans (hb6.mono HB5.out.size));clear hb6
  go_wp2_with fail
  refine (alive_any _).mono ?_
  rintro e w' ⟨rfl,rfl⟩
  go_wp2
  go_ret
  exact ⟨rfl,HB6.out⟩
 rw [hbk] at HBN
 have HBK:=zz hbk;clear hbk
 go_wp2_with fail
 refine HBN.out.mono ?_
 rintro e w6 ⟨rfl,hb6⟩
 have HB6:=zz (HB5.out.trans (hb6.mono HB5.out.size));have HV6:=zz (HV5.out.mono hb6);have HR6:=zz (HR5.out.mono hb6);have HO6:=zz (HO5.out.below hb6)
 clear hb6 HB5 HV5 HR5 HO5 HBN
 have hbm:=bindOK_more (b:=((⟨#[110,111,119,104,101,114,101]⟩:ByteArray),truV true)) HBK.out (by omega) (by decide) (tru_ok true) (fun x hx e=>by have:=(HF.out x hx).1;rw [e] at this;exact absurd this (by decide))
 have HEV:=zz (eval_more HE.out HBK.out hbm HWD.out)
 have HSM:=zz (show ShortB (env++[((⟨#[110,111,119,104,101,114,101]⟩:ByteArray),truV true)]) from shortB_snoc HSB.out (by decide) (okV_short (tru_ok true)) (by decide))
 clear hbm
 go_wp2_with (at_builtin;refine append_rowO rfl _ _ 30 rfl w6.heap.size 46 i0 (.agg #[.string ByteArray.empty, .slice none 0 0]) 2 40 Tryz.underlying30 hi hz0 hz1 hz2 rfl (by decide) _ 0 [] rfl (lit_B w6).row w.heap.size _ env.length (bindF env us) rfl (HO6.out.row.alloc _) (bind_one HO6.out) (by unfold maxLen;omega) (by omega) (by simp) ?_)
 intro v7 w7 hown7 hgrow7
 have HG7:=zz (grown_trans (World.grownBy_alloc w6 (.cells #[] 46) (some w6.heap.size)) (show (w6.alloc (.cells #[] 46)).grownBy w7 (some w6.heap.size) from hgrow7))
 have HO7:=zz hown7
 obtain ⟨a7,c7,rfl⟩:=own_shape hown7
 clear hown7 hgrow7
 go_wp2_with (at_builtin;refine wpList_append_lies _ rfl _ _ 30 rfl w6.heap.size 46 i0 (.agg #[.string ByteArray.empty, .slice none 0 0]) 2 40 Tryz.underlying30 hi hz0 hz1 hz2 rfl (by decide) _ _ _ rfl ((HO7.out.alloc (.cells #[.int .i64 3, .string ⟨#[116,114,117,101]⟩, .int .i64 0] 44)).alloc (.cells #[.string ⟨#[110,111,119,104,101,114,101]⟩, .slice (some ⟨w7.heap.size,0,none⟩) 1 1] 46)) ⟨w7.heap.size+1,0,none⟩ 1 1 [.string ⟨#[110,111,119,104,101,114,101]⟩, .slice (some ⟨w7.heap.size,0,none⟩) 1 1] rfl rfl (World.news_of_block (heap2_newE w7 _ _)) (by simp [Value.oneCell']) (by omega) (by unfold maxLen;omega) (by omega) (by have:=HG7.out.size;simp;omega) (w7.heap.size+2) (by simp) ?_;intro g8 cap8 w8 hown8 hgrow8 hat8 hlt8)
 have HBB:=zz (show Below w6.heap.size w6 ((w7.alloc (.cells #[.int .i64 3, .string ⟨#[116,114,117,101]⟩, .int .i64 0] 44)).alloc (.cells #[.string ⟨#[110,111,119,104,101,114,101]⟩, .slice (some ⟨w7.heap.size,0,none⟩) 1 1] 46)) from ((grown_below HG7.out (Nat.le_refl _) (Nat.le_refl _)).alloc HG7.out.size _).alloc (by have:=HG7.out.size;simp;omega) _)
 have HBA8:=zz (show Below w6.heap.size w6 w8 from Below.grown HBB.out hgrow8 (by have:=HG7.out.size;simp;omega) (fun q hq=>(HO7.out.lt q hq).1))
 have HT8:=zz (show RowC w8 (.slice (some ⟨w7.heap.size,0,none⟩) 1 1) (truV true) from by
  have h0:=World.ownsRow_lit (size:=3) (e:=44) (base:=w7.heap.size) w7 #[.int .i64 3, .string ⟨#[116,114,117,101]⟩, .int .i64 0] 1 (Nat.le_refl _) (by unfold maxLen;omega) rfl
  have h1:=(h0.alloc (.cells #[.string ⟨#[110,111,119,104,101,114,101]⟩, .slice (some ⟨w7.heap.size,0,none⟩) 1 1] 46))
  have h2:=own_keep (w':=w8) h1 (fun g hg=>hgrow8.block g (h1.lt g hg).2 (fun e=>by
   have e1:g=w7.heap.size:=by simpa [Value.ownBlock] using hg.symm
   have:=(HO7.out.lt g e.symm).2;omega))
  exact (RowC.of_own (l:=truV true) h2).1)
 have HM8:=zz (more_row (nm:=⟨#[110,111,119,104,101,114,101]⟩) HO6.out HBA8.out HT8.out (by simpa using hown8))
 have HB8:=zz (HB6.out.trans (HBA8.out.mono HB6.out.size));have HR8:=zz (HR6.out.mono HBA8.out);have HV8:=zz (HV6.out.mono HBA8.out)
 clear hown8 hgrow8 hat8 hlt8 HBB HG7 HO7 HBA8 HT8 HR6 HO6 HV6 HB6
 have HEC:=zz (evaluate_impl v _ l _ w8 HV8.out HM8.out HSH.out.1 HSM.out (HTAB.out.keep HB8.out))
 rw [HEV.out] at HEC
 have HEC:=zz (show Calls _ _ _ w8 (NewCB R ok w8) from by have:=HEC.out;rwa [HRE.out.1,HRE.out.2] at this)
 go_wp2_with fail
 refine HEC.out.mono ?_
 rintro e w9 ⟨v9,rfl,ho9,hb9⟩
 have HB9:=zz (HB8.out.trans (hb9.mono HB8.out.size));have HR9:=zz (HR8.out.mono hb9);have HX9:=zz (show RowC w9 v9 R from (RowC.of_own ho9).1)
 clear hb9 ho9 HB8 HR8 HV8 HM8 HEC
 have HE2:=zz (evaluate_impl (.slice a2 R.length c2) (.slice none 0 0) R [] w9 HR9.out (rowB_none w9) HRZ.out (fun b hb=>by cases hb) (HTAB.out.keep HB9.out))
 obtain ⟨R2,ok2,hR2,hOK2,-,-,-,hyes2,-⟩:=evalR R []
 rw [hR2,hOK2] at HE2
 have HSE:=zz (show okV R=true→okE R=true→ok2=true∧R2=R from fun h1 h2=>by
  have:=eval_self (env:=[]) h2 h1 bindOK_nil
  rw [this] at hR2 hOK2
  exact ⟨hOK2.symm,hR2.symm⟩)
 clear hR2 hOK2 hyes2
 go_wp2_with fail
 refine HE2.out.mono ?_
 rintro e w10 ⟨v10,rfl,ho10,hb10⟩
 have HB10:=zz (HB9.out.trans (hb10.mono HB9.out.size));have HR10:=zz (HR9.out.mono hb10);have HX10:=zz (HX9.out.mono hb10);have HZ10:=zz (RowC.of_own ho10).1
 clear hb10 ho10 HB9 HR9 HX9 HE2
 go_wp2_with fail
 refine (sameCells_same _ v9 R _ HR10.out HX10.out).mono ?_
 rintro e w11 ⟨rfl,hb11⟩
 have HB11:=zz (HB10.out.trans (hb11.mono HB10.out.size));have HR11:=zz (HR10.out.mono hb11);have HZ11:=zz (HZ10.out.mono hb11)
 clear hb11 HB10 HR10 HX10 HZ10
 cases ok with
 |false=>
  go_wp2
  go_ret
  exact ⟨rfl,HB11.out⟩
 |true=>
  have hvR:=(HY.out rfl).2.1
  have HVV:=zz (valueValid_impl _ R w11 HR11.out HRS.out (HTAB.out.keep HB11.out))
  rw [hvR] at HVV
  go_wp2_with fail
  refine HVV.out.mono ?_
  rintro e w12 ⟨rfl,hb12⟩
  have HB12:=zz (HB11.out.trans (hb12.mono HB11.out.size));have HR12:=zz (HR11.out.mono hb12);have HZ12:=zz (HZ11.out.mono hb12)
  clear hb12 HB11 HR11 HZ11 HVV
  have HEE:=zz (exprValid_impl _ R w12 HR12.out HRZ.out (HTAB.out.keep HB12.out))
  have HSF:=zz (show okE R=true→ok2=true∧R2=R from HSE.out hvR)
  generalize okE R=okr at HEE HSF
  go_wp2_with fail
  refine HEE.out.mono ?_
  rintro e w13 ⟨rfl,hb13⟩
  have HB13:=zz (HB12.out.trans (hb13.mono HB12.out.size));have HR13:=zz (HR12.out.mono hb13);have HZ13:=zz (HZ12.out.mono hb13)
  clear hb13 HB12 HR12 HZ12 HEE
  cases okr with
  |false=>
   go_wp2
   go_ret
   exact ⟨rfl,HB13.out⟩
  |true=>
   obtain ⟨rfl,rfl⟩:=HSF.out rfl
   go_wp2_with fail
   refine (sameCells_same v10 _ _ _ HZ13.out HR13.out).mono ?_
   rintro e w14 ⟨rfl,hb14⟩
   have HB14:=zz (HB13.out.trans (hb14.mono HB13.out.size));clear hb14
   go_wp2
   go_ret
   exact ⟨rfl,HB14.out⟩
end Go.Proofs.YthillfgjpalpcaaGreatDoor
