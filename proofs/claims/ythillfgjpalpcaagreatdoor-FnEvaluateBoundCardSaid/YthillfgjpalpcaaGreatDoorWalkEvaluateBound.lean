/-
  The walk of laws.FnEvaluateBound.
-/
import Derived.Test.YthillfgjpalpcaaGreatDoorEvaI
import Derived.Test.YthillfgjpalpcaaGreatDoorGDe
import Derived.Deep.RegionLaw
set_option linter.unusedVariables false
set_option maxHeartbeats 8000000
set_option maxRecDepth 100000
namespace Go.Proofs.YthillfgjpalpcaaGreatDoor
open Go.RowKit
theorem fnEvaluateBound_core (a0:Option Addr) (len0 cap0:Nat) (w:World) (hrow:CodeRow w a0 len0 cap0) (htab:Tab w):
  Calls Tryz.prog 7 #[.slice a0 len0 cap0] w fun e w'=>e= .returned (.bool true)∧Below w.heap.size w w':=by
 have hcap:=hrow.1;have hmx:=hrow.2.1
 unfold maxLen at hmx
 by_cases hl:len0≤1048576
 case neg=>
  clear hrow htab
  go_enter Tryz.func7,Tryz.ntmps7
  go_wp2
  go_ret
  exact ⟨rfl,Below.refl _ _⟩
 have HTAB:=zz htab;clear htab
 obtain ⟨i0,hi,hz0,hz1,hz2⟩:=info_parts infoBd
 go_enter Tryz.func7,Tryz.ntmps7
 go_wp2_with fail
 refine (drawEvaluate_any a0 len0 cap0 _ hrow).mono ?_
 rintro e w1 ⟨v,vb,l,us,env,rfl,hv,hwd,h60,hown,hfew,h7,hb1⟩
 have HB1:=zz hb1;have HV1:=zz hv;have HE1:=zz hown.reads;have HO1:=zz hown;have HF:=zz hfew;have HSB:=zz (few_shortB hfew);have HSH:=zz (wd_short hwd)
 clear hrow hb1 hv hown hfew hwd
 obtain ⟨R,ok,hR,hOK,hR60,hRz,hRs,hyes,hno⟩:=evalR l env
 have HEI:=zz (fun w' (hr:RowC w' v l) (hrb:RowB w' vb env) (ht:Tab w')=>evaluate_impl v vb l env w' hr hrb HSH.out.1 HSB.out ht)
 have HES:=zz (fun w' (hr:RowC w' v l) (hrb:RowB w' vb env)=>evaluate_spec v vb l env w' hr hrb HSH.out.2 (by omega) HSB.out)
 rw [hR,hOK] at HEI HES
 have HY:=zz hyes;have HN:=zz hno;have HRZ:=zz hRz;have HRS:=zz hRs
 have hok:(ok !=ok)=false:=by simp
 clear hR hOK hRz hRs hyes hno
 go_wp2_with fail
 refine (HEI.out _ HV1.out HE1.out (HTAB.out.keep HB1.out)).mono ?_
 rintro e w2 ⟨v2,rfl,ho2,hb2⟩
 have HB2:=zz (HB1.out.trans (hb2.mono HB1.out.size));have HO2:=zz (HO1.out.below hb2);have HV2:=zz (HV1.out.mono hb2);have HE2:=zz (HE1.out.mono hb2);have HR2:=zz (RowC.of_own ho2).1
 clear ho2 hb2 HB1 HO1 HV1 HE1 HEI
 go_wp2_with fail
 refine (HES.out _ HV2.out HE2.out).mono ?_
 rintro e w3 ⟨v3,rfl,ho3,hb3⟩
 have HB3:=zz (HB2.out.trans (hb3.mono HB2.out.size));have HO3:=zz (HO2.out.below hb3);have HV3:=zz (HV2.out.mono hb3);have HE3:=zz (HE2.out.mono hb3);have HR3:=zz (HR2.out.mono hb3);have HS3:=zz (RowC.of_own ho3).1
 clear ho3 hb3 HB2 HO2 HV2 HE2 HR2 HES
 go_wp2_with fail
 refine (sameCells_same v2 v3 R _ HR3.out HS3.out).mono ?_
 rintro e w4 ⟨rfl,hb4⟩
 have HB4:=zz (HB3.out.trans (hb4.mono HB3.out.size));have HO4:=zz (HO3.out.below hb4);have HV4:=zz (HV3.out.mono hb4);have HE4:=zz (HE3.out.mono hb4);have HR4:=zz (HR3.out.mono hb4)
 clear hb4 HB3 HO3 HV3 HE3 HR3 HS3
 cases ok with
 |false=>
  go_wp2_with fail
  refine (alive_any _).mono ?_
  rintro e w' ⟨rfl,rfl⟩
  go_wp2
  go_ret
  exact ⟨rfl,HB4.out⟩
 |true=>
  obtain ⟨hev,hvR,-,hbk⟩:=HY.out rfl
  have hbm:=bindOK_more (b:=((⟨#[102,114,101,115,104]⟩:ByteArray),R)) hbk (by omega) (by show nmL ⟨#[102,114,101,115,104]⟩=true;decide) hvR (fun x hx e=>by have:=(HF.out x hx).1;rw [e] at this;exact absurd this (by show¬(⟨#[102,114,101,115,104]⟩:ByteArray).size≤3;decide))
  have HEV:=zz (eval_bound (b:=((⟨#[102,114,101,115,104]⟩:ByteArray),R)) hbk hbm okE_fresh)
  have HSM:=zz (show ShortB (env++[((⟨#[102,114,101,115,104]⟩:ByteArray),R)]) from shortB_snoc HSB.out (by show (⟨#[102,114,101,115,104]⟩:ByteArray).size≤1048576;decide) HRS.out (by omega))
  obtain ⟨a2,c2,rfl⟩:=row_shape HR4.out
  clear hev hvR hbk hbm
  go_wp2_with (at_builtin;refine append_rowO rfl _ _ 30 rfl w4.heap.size 46 i0 (.agg #[.string ByteArray.empty, .slice none 0 0]) 2 40 Tryz.underlying30 hi hz0 hz1 hz2 rfl (by decide) _ 0 [] rfl (lit_B w4).row w.heap.size _ env.length (bindF env us) rfl (HO4.out.row.alloc _) (bind_one HO4.out) (by unfold maxLen;omega) (by omega) (by simp) ?_)
  intro v5 w5 hown5 hgrow5
  have HG5:=zz (grown_trans (World.grownBy_alloc w4 (.cells #[] 46) (some w4.heap.size)) (show (w4.alloc (.cells #[] 46)).grownBy w5 (some w4.heap.size) from hgrow5))
  have HO5:=zz hown5
  obtain ⟨a5,c5,rfl⟩:=own_shape hown5
  clear hown5 hgrow5
  go_wp2_with (at_builtin;refine wpList_append_lies _ rfl _ _ 30 rfl w4.heap.size 46 i0 (.agg #[.string ByteArray.empty, .slice none 0 0]) 2 40 Tryz.underlying30 hi hz0 hz1 hz2 rfl (by decide) _ _ _ rfl (HO5.out.alloc _) ⟨w5.heap.size,0,none⟩ 1 1 [.string ⟨#[102,114,101,115,104]⟩, .slice a2 R.length c2] rfl rfl (World.news_of_block (heap_alloc_new w5 _)) (by simp [Value.oneCell']) (by omega) (by unfold maxLen;omega) (by omega) (by have:=HG5.out.size;simp;omega) (w5.heap.size+1) (by simp) ?_;intro g6 cap6 w6 hown6 hgrow6 hat6 hlt6)
  have HBA6:=zz (show Below w4.heap.size w4 w6 from Below.grown ((grown_below HG5.out (Nat.le_refl _) (Nat.le_refl _)).alloc HG5.out.size _) hgrow6 (by have:=HG5.out.size;simp;omega) (fun q hq=>(HO5.out.lt q hq).1))
  have HM6:=zz (more_row (nm:=⟨#[102,114,101,115,104]⟩) HO4.out HBA6.out (HR4.out.mono HBA6.out) (by simpa using hown6))
  have HB6:=zz (HB4.out.trans (HBA6.out.mono HB4.out.size));have HR6:=zz (HR4.out.mono HBA6.out)
  clear hown6 hgrow6 hat6 hlt6 HG5 HO5 HBA6 HR4 HO4 HE4 HV4
  have HEC:=zz (evaluate_impl _ _ [((4:Int),(⟨#[102,114,101,115,104]⟩:ByteArray),(0:Int))] _ (w6.alloc (.cells #[.int .i64 4, .string ⟨#[102,114,101,115,104]⟩, .int .i64 0] 44)) (RowC.of_own (l:=[((4:Int),(⟨#[102,114,101,115,104]⟩:ByteArray),(0:Int))]) (World.ownsRow_lit (size:=3) (e:=44) (base:=w6.heap.size) w6 #[.int .i64 4, .string ⟨#[102,114,101,115,104]⟩, .int .i64 0] 1 (Nat.le_refl _) (by unfold maxLen;omega) rfl)).1 (HM6.out.mono ((Below.refl _ _).alloc (Nat.le_refl _) _)) (fun c hc=>by rw [List.mem_singleton] at hc;subst hc;unfold maxLen;decide) HSM.out ((HTAB.out.keep HB6.out).al _))
  rw [HEV.out] at HEC
  go_wp2_with fail
  refine HEC.out.mono ?_
  rintro e w8 ⟨v8,rfl,ho8,hb8⟩
  have hs6:(w6.alloc (.cells #[.int .i64 4, .string ⟨#[102,114,101,115,104]⟩, .int .i64 0] 44)).heap.size=w6.heap.size+1:=by simp
  rw [hs6] at hb8
  have HBX:=zz (show Below w6.heap.size w6 w8 from ((Below.refl w6.heap.size w6).alloc (Nat.le_refl _) _).trans (hb8.mono (by omega)))
  have HB8:=zz (HB6.out.trans (HBX.out.mono HB6.out.size));have HR8:=zz (HR6.out.mono HBX.out);have HX8:=zz (show RowC w8 v8 R from (RowC.of_own ho8).1)
  clear hb8 ho8 HB6 HR6 HEC HBX hs6
  go_wp2_with fail
  refine (sameCells_same v8 _ R _ HX8.out HR8.out).mono ?_
  rintro e w9 ⟨rfl,hb9⟩
  have HB9:=zz (HB8.out.trans (hb9.mono HB8.out.size));clear hb9
  go_wp2
  go_ret
  exact ⟨rfl,HB9.out⟩
end Go.Proofs.YthillfgjpalpcaaGreatDoor
