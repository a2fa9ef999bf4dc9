/-
  The walk of laws.FnEvaluateChoice.
-/
import Derived.Test.YthillfgjpalpcaaGreatDoorEvaI
import Derived.Test.YthillfgjpalpcaaGreatDoorGDe
import Derived.Deep.RegionLaw
set_option linter.unusedVariables false
set_option maxHeartbeats 8000000
set_option maxRecDepth 100000
namespace Go.Proofs.YthillfgjpalpcaaGreatDoor
open Go.RowKit
theorem fnEvaluateChoice_core (a0:Option Addr) (len0 cap0:Nat) (w:World) (hrow:CodeRow w a0 len0 cap0) (htab:Tab w):
  Calls Tryz.prog 5 #[.slice a0 len0 cap0] w fun e w'=>e= .returned (.bool true)∧Below w.heap.size w w':=by
 have hcap:=hrow.1;have hmx:=hrow.2.1
 unfold maxLen at hmx
 by_cases hl:len0≤1048576
 case neg=>
  clear hrow htab
  go_enter Tryz.func5,Tryz.ntmps5
  go_wp2
  go_ret
  exact ⟨rfl,Below.refl _ _⟩
 have HTAB:=zz htab;clear htab
 obtain ⟨i0,hi,hz0,hz1,hz2⟩:=info_parts infoC
 go_enter Tryz.func5,Tryz.ntmps5
 go_wp2_with fail
 refine (drawEvaluate_any a0 len0 cap0 _ hrow).mono ?_
 rintro e w1 ⟨v,vb,l,us,env,rfl,hv,hwd,h60,hown,hfew,h7,hb1⟩
 have HB1:=zz hb1;have HV1:=zz hv;have HE1:=zz hown.reads;have HSB:=zz (few_shortB hfew);have HSH:=zz (wd_short hwd)
 clear hrow hb1 hv hown hfew hwd
 obtain ⟨R,ok,hR,hOK,hR60,hRz,hRs,hyes,hno⟩:=evalR l env
 have HEI:=zz (fun w' (hr:RowC w' v l) (hrb:RowB w' vb env) (ht:Tab w')=>evaluate_impl v vb l env w' hr hrb HSH.out.1 HSB.out ht)
 have HES:=zz (fun w' (hr:RowC w' v l) (hrb:RowB w' vb env)=>evaluate_spec v vb l env w' hr hrb HSH.out.2 (by omega) HSB.out)
 rw [hR,hOK] at HEI HES
 have HY:=zz hyes;have HN:=zz hno
 have hok:(ok !=ok)=false:=by simp
 clear hR hOK hRz hRs hyes hno
 go_wp2_with fail
 refine (HEI.out _ HV1.out HE1.out (HTAB.out.keep HB1.out)).mono ?_
 rintro e w2 ⟨v2,rfl,ho2,hb2⟩
 have HB2:=zz (HB1.out.trans (hb2.mono HB1.out.size));have HV2:=zz (HV1.out.mono hb2);have HE2:=zz (HE1.out.mono hb2);have HR2:=zz (RowC.of_own ho2).1
 clear ho2 hb2 HB1 HV1 HE1 HEI
 go_wp2_with fail
 refine (HES.out _ HV2.out HE2.out).mono ?_
 rintro e w3 ⟨v3,rfl,ho3,hb3⟩
 have HB3:=zz (HB2.out.trans (hb3.mono HB2.out.size));have HV3:=zz (HV2.out.mono hb3);have HE3:=zz (HE2.out.mono hb3);have HR3:=zz (HR2.out.mono hb3);have HS3:=zz (RowC.of_own ho3).1
 clear ho3 hb3 HB2 HV2 HE2 HR2 HES
 go_wp2_with fail
 refine (sameCells_same v2 v3 R _ HR3.out HS3.out).mono ?_
 rintro e w4 ⟨rfl,hb4⟩
 have HB4:=zz (HB3.out.trans (hb4.mono HB3.out.size));have HV4:=zz (HV3.out.mono hb4);have HE4:=zz (HE3.out.mono hb4);have HR4:=zz (HR3.out.mono hb4)
 clear hb4 HB3 HV3 HE3 HR3 HS3
 go_wp2_with (at_builtin;refine append_rowC rfl _ _ 26 rfl w4.heap.size 44 i0 (.agg #[.int .i64 0, .string ByteArray.empty, .int .i64 0]) 32 Tryz.underlying26 hi hz0 hz1 hz2 (by decide) _ 2 [.int .i64 9, .string ByteArray.empty, .int .i64 3, .int .i64 3, .string ⟨#[102,97,108,115,101]⟩, .int .i64 0] rfl ?own _ l rfl ?src (by unfold maxLen;omega) (by omega) ?base ?_)
 case own=>exact World.ownsRow_lit (size:=3) (e:=44) w4 #[.int .i64 9, .string ByteArray.empty, .int .i64 3, .int .i64 3, .string ⟨#[102,97,108,115,101]⟩, .int .i64 0] 2 (Nat.le_refl _) (by unfold maxLen;omega) rfl
 case src=>exact (HV4.out.al _)
 case base=>simp
 intro v5 w5 hown5 hgrow5
 have HBA5:=zz (Below.grown ((Below.refl w4.heap.size w4).alloc (Nat.le_refl _) _) hgrow5 (by simp) (by intro k hk;cases hk;exact Nat.le_refl _));have HO5:=zz hown5;clear hown5 hgrow5
 go_wp2_with (at_builtin;refine append_rowC rfl _ _ 26 rfl w4.heap.size 44 i0 (.agg #[.int .i64 0, .string ByteArray.empty, .int .i64 0]) 32 Tryz.underlying26 hi hz0 hz1 hz2 (by decide) _ _ _ rfl HO5.out _ l rfl ?src (by unfold maxLen;omega) (by omega) ?base ?_)
 case src=>exact HV4.out.mono HBA5.out
 case base=>exact HBA5.out.size
 intro v6 w6 hown6 hgrow6
 have HBA6:=zz (Below.grown HBA5.out hgrow6 HBA5.out.size (fun q hq=>(HO5.out.lt q hq).1))
 have HC6:=zz (show RowC w6 v6 (choiceC l) from by
  have hfl:=flat_choice l
  simp only [List.cons_append,List.nil_append] at hfl hown6
  rw [hfl] at hown6
  exact (RowC.of_own hown6).1)
 clear hown6 hgrow6 HBA5 HO5
 have HB6:=zz (HB4.out.trans (HBA6.out.mono HB4.out.size));have HV6:=zz (HV4.out.mono HBA6.out);have HE6:=zz (HE4.out.mono HBA6.out);have HR6:=zz (HR4.out.mono HBA6.out)
 clear HBA6 HB4 HV4 HE4 HR4
 have HSC:=zz (sized_choice HSH.out.1)
 cases ok with
 |false=>
  go_wp2_with fail
  refine (alive_any _).mono ?_
  rintro e w' ⟨rfl,rfl⟩
  go_wp2
  go_ret
  exact ⟨rfl,HB6.out⟩
 |true=>
  obtain ⟨hev,-,hE,hbk⟩:=HY.out rfl
  have HCE:=zz (exprValid_impl v6 (choiceC l) _ HC6.out HSC.out (HTAB.out.keep HB6.out))
  have HCV:=zz (show okE (choiceC l)=true→evalV (choiceC l) env=some R from fun h=>by rw [eval_choice hE hbk h,hev])
  generalize okE (choiceC l)=okc at HCE HCV
  clear hev hE hbk
  go_wp2_with fail
  refine HCE.out.mono ?_
  rintro e w7 ⟨rfl,hb7⟩
  have HB7:=zz (HB6.out.trans (hb7.mono HB6.out.size));have HC7:=zz (HC6.out.mono hb7);have HE7:=zz (HE6.out.mono hb7);have HR7:=zz (HR6.out.mono hb7)
  clear hb7 HB6 HC6 HE6 HR6 HCE
  cases okc with
  |false=>
   go_wp2_with fail
   refine (alive_any _).mono ?_
   rintro e w' ⟨rfl,rfl⟩
   go_wp2
   go_ret
   exact ⟨rfl,HB7.out⟩
  |true=>
   have HEC:=zz (evaluate_impl v6 vb (choiceC l) env _ HC7.out HE7.out HSC.out HSB.out (HTAB.out.keep HB7.out))
   rw [HCV.out rfl] at HEC
   go_wp2_with fail
   refine HEC.out.mono ?_
   rintro e w8 ⟨v8,rfl,ho8,hb8⟩
   have HB8:=zz (HB7.out.trans (hb8.mono HB7.out.size));have HR8:=zz (HR7.out.mono hb8);have HX8:=zz (show RowC w8 v8 R from (RowC.of_own ho8).1)
   clear hb8 ho8 HB7 HR7 HEC
   go_wp2_with fail
   refine (sameCells_same v8 v2 R _ HX8.out HR8.out).mono ?_
   rintro e w9 ⟨rfl,hb9⟩
   have HB9:=zz (HB8.out.trans (hb9.mono HB8.out.size));clear hb9
   go_wp2
   go_ret
   exact ⟨rfl,HB9.out⟩
end Go.Proofs.YthillfgjpalpcaaGreatDoor
