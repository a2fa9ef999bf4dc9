/-
  impl's (*node).evaluate over its result; choice and decided, by their contracts.
-/
import Derived.Test.YthillfgjpalpcaaGreatDoorGEn
import Derived.Deep.RegionHeld3
set_option linter.unusedVariables false
set_option maxHeartbeats 4000000
set_option maxRecDepth 100000
namespace Go.Proofs.YthillfgjpalpcaaGreatDoor
open Go.RowKit
theorem evaluate_of (N:Nat) (sa:Option Addr) (sn scp B:Nat) (S:Nat→Prop) (o:Option (List Cl)) (w:World) (hres: ∀w',Below w.heap.size w w'→Calls Tryz.prog 76 #[.pointer (some ⟨N,0,none⟩), .agg #[.slice sa sn scp, .map (some B)]] w' (Res S o w')) (htab:Tab w):
  Calls Tryz.prog 46 #[.pointer (some ⟨N,0,none⟩), .agg #[.slice sa sn scp, .map (some B)]] w (ResE S o w):=by
 have HBA:=zz ((Below.refl w.heap.size w).alloc (Nat.le_refl _) (.cells #[.slice sa sn scp, .map (some B)] 73))
 have HRES:=zz (hres _ HBA.out);have HT:=zz (htab.keep HBA.out)
 clear hres htab
 have q1:=fun w=>eqlNo w
 go_enter Tryz.func46,Tryz.ntmps46
 go_wp2_with fail
 refine HRES.out.mono ?_
 rintro e w1 ⟨hb1,⟨rfl,hno⟩|⟨u,r,rfl,happ,hsh,hln,hval,hvl⟩⟩
 ·have HB1:=zz (HBA.out.trans (hb1.mono HBA.out.size));have HN:=zz hno
  clear hb1 hno
  go_wp2
  go_ret
  exact ResE.nil HB1.out HN.out
 ·have HVC:=zz (valueCells_app u r w1 happ hsh hln (HT.out.keep hb1))
  obtain ⟨T,x,-,rfl,-⟩:=happ
  have q2:=fun w=>eqlIf T x w
  have HB1:=zz (HBA.out.trans (hb1.mono HBA.out.size));have HVAL:=zz hval;have HVL:=zz hvl
  clear hb1 hval hvl hsh hln
  cases hok:okV r with
  |true=>
   have HOK:=zz hok
   rw [hok] at HVC
   clear hok
   go_wp2_with fail
   refine HVC.out.mono ?_
   rintro e w2 ⟨v2,rfl,-,hb2⟩
   have HV2:=zz ((HVL.out HOK.out).low hb2)
   have HB2:=zz (HB1.out.trans (hb2.mono HB1.out.size))
   clear hb2
   go_wp2
   go_ret
   exact ⟨HB2.out, .inr ⟨_,r,rfl,HV2.out,HOK.out,by rw [HVAL.out,if_pos HOK.out]⟩⟩
  |false=>
   have HN:=zz (show o=none by rw [HVAL.out,if_neg (by rw [hok];decide)])
   rw [hok] at HVC
   clear hok
   go_wp2_with fail
   refine HVC.out.mono ?_
   rintro e w2 ⟨v2,rfl,-,hb2⟩
   have HB2:=zz (HB1.out.trans (hb2.mono HB1.out.size))
   clear hb2
   go_wp2
   go_ret
   exact ResE.nil HB2.out HN.out
theorem taB_num (x:Value) (w:World):(Instr.typeAssert (.iface 154 x) 70 156 true).run Tryz.prog w= .ok (.tuple #[.bool false, .bool false]) w:=by kernel_rfl
theorem taB_text (x:Value) (w:World):(Instr.typeAssert (.iface 155 x) 70 156 true).run Tryz.prog w= .ok (.tuple #[.bool false, .bool false]) w:=by kernel_rfl
theorem taB_truth (x:Value) (w:World):(Instr.typeAssert (.iface 156 x) 70 156 true).run Tryz.prog w= .ok (.tuple #[x, .bool true]) w:=by kernel_rfl
theorem taB_list (x:Value) (w:World):(Instr.typeAssert (.iface 158 x) 70 156 true).run Tryz.prog w= .ok (.tuple #[.bool false, .bool false]) w:=by kernel_rfl
theorem taB_nil (w:World):(Instr.typeAssert .nilIface 70 156 true).run Tryz.prog w= .ok (.tuple #[.bool false, .bool false]) w:=by kernel_rfl
theorem taN_nil (w:World):(Instr.typeAssert .nilIface 70 154 true).run Tryz.prog w= .ok (.tuple #[.agg #[.int .i64 0, .int .i64 0], .bool false]) w:=by kernel_rfl
theorem ResE.truth {S:Nat→Prop} {o:Option (List Cl)} {w w':World} {e:Ending} (h:ResE S o w e w'):
  ∃u b ok,e= .returned u∧(∀w,(Instr.typeAssert u 70 156 true).run Tryz.prog w= .ok (.tuple #[.bool b, .bool ok]) w)∧(ok=true→o=some (truV b))∧(ok=false→ ∀v,o=some v→kdV v≠3):=by
 obtain ⟨hb,⟨rfl,ho⟩|⟨u,r,rfl,hv,hok,ho⟩⟩:=h
 ·exact ⟨_,false,false,rfl,taB_nil,fun h=>(by cases h),fun _ v hv=>by rw [ho] at hv;cases hv⟩
 ·rcases hv.one hok with ⟨s,hs,rfl,rfl⟩|⟨s,hs,rfl,rfl⟩|⟨b,rfl,rfl⟩|⟨v,us,ps,rfl,rfl,-⟩
  ·exact ⟨_,false,false,rfl,taB_num _,fun h=>(by cases h),fun _ v hv=>by rw [ho] at hv;injection hv with hv;subst hv;show (1:Int)≠3;decide⟩
  ·exact ⟨_,false,false,rfl,taB_text _,fun h=>(by cases h),fun _ v hv=>by rw [ho] at hv;injection hv with hv;subst hv;show (2:Int)≠3;decide⟩
  ·exact ⟨_,b,true,rfl,taB_truth _,fun _=>ho,fun h=>by cases h⟩
  ·exact ⟨_,false,false,rfl,taB_list _,fun h=>(by cases h),fun _ v hv=>by rw [ho] at hv;injection hv with hv;subst hv;show (5:Int)≠3;decide⟩
noncomputable def choO (o0 o1 o2:Option (List Cl)):Option (List Cl):=match o0 with|some v=>if kdV v=3 then (if trueW v=true then o1 else o2) else none|none=>none
theorem choO_no {o0:Option (List Cl)} (h: ∀v,o0=some v→kdV v≠3) (o1 o2:Option (List Cl)):choO o0 o1 o2=none:=by
 cases o0 with
 |none=>rfl
 |some v=>rw [choO];exact if_neg (h v rfl)
noncomputable def decO (d:Bool) (o0 o1:Option (List Cl)):Option (List Cl):=match o0 with|some a=>if kdV a=3 then (if trueW a=d then some a else match o1 with|some b=>if kdV b=3 then some b else none|none=>none) else none|none=>none
theorem decO_same (d:Bool) (o1:Option (List Cl)):decO d (some (truV d)) o1=some (truV d):=by cases d<;>rfl
theorem decO_more (d b:Bool) (o1:Option (List Cl)) (h:b≠d):decO d (some (truV b)) o1=match o1 with|some b=>if kdV b=3 then some b else none|none=>none:=by
 cases d<;>cases b<;>first|rfl|exact absurd rfl h
theorem decO_two (d b b':Bool) (h:b≠d):decO d (some (truV b)) (some (truV b'))=some (truV b'):=by rw [decO_more d b _ h];rfl
theorem decO_no2 (d b:Bool) (h:b≠d) {o1:Option (List Cl)} (h1: ∀v,o1=some v→kdV v≠3):decO d (some (truV b)) o1=none:=by
 rw [decO_more d b _ h]
 cases o1 with
 |none=>rfl
 |some v=>exact if_neg (h1 v rfl)
theorem decO_no (d:Bool) {o0:Option (List Cl)} (h: ∀v,o0=some v→kdV v≠3) (o1:Option (List Cl)):decO d o0 o1=none:=by
 cases o0 with
 |none=>rfl
 |some v=>show (if kdV v=3 then _ else none)=none;exact if_neg (h v rfl)
theorem scp_new (w:World) (sa:Option Addr) (sn scp B:Nat):(w.alloc (.cells #[.slice sa sn scp, .map (some B)] 73)).cell? ⟨w.heap.size,0,none⟩=some (.slice sa sn scp)∧(w.alloc (.cells #[.slice sa sn scp, .map (some B)] 73)).cell? ⟨w.heap.size,1,none⟩=some (.map (some B)):=⟨by simp [go_sem],by simp [go_sem]⟩
theorem choice_node (N B:Nat) (env:List Bd) (qs:List Nat) (sa:Option Addr) (sn scp:Nat) (o0 o1 o2:Option (List Cl)) (S:Nat→Prop) (w:World) (hn:NodeP w N qs) (hp:PartsE w B env qs (.agg #[.slice sa sn scp, .map (some B)]) [o0,o1,o2]) (hS:Hi w.heap.size S) (he:EnvV w S B env) (htab:Tab w):
  Calls Tryz.prog 114 #[.pointer (some ⟨N,0,none⟩), .agg #[.slice sa sn scp, .map (some B)]] w (Res S (choO o0 o1 o2) w):=by
 have hl:qs.length=3:=hp.1
 have HS:=zz hS;have HE:=zz he;have HT:=zz htab
 have HP:=zz hp.2
 obtain ⟨ao,cap,n2,hN,h1,h2,h3⟩:=hn
 obtain ⟨b,rfl,hbl,cc⟩:=h3.resolve_left (by rintro rfl;simp at hl)
 have c0:=cc 0 (by omega)
 have c1:=cc 1 (by omega)
 have c2:=cc 2 (by omega)
 rw [hl] at n2 h1
 unfold maxLen at h2
 have HL:=zz hl
 generalize hq0:qs[0]=q0 at c0
 generalize hq1:qs[1]=q1 at c1
 generalize hq2:qs[2]=q2 at c2
 have HQ0:=zz (show∀h:0<qs.length,qs[0]=q0 from fun _=>hq0)
 have HQ1:=zz (show∀h:1<qs.length,qs[1]=q1 from fun _=>hq1)
 have HQ2:=zz (show∀h:2<qs.length,qs[2]=q2 from fun _=>hq2)
 clear hq0 hq1 hq2
 clear hl cc h3 hp hS he htab
 go_enter Tryz.func114,Tryz.ntmps114
 go_wp2_with fail
 have HBA:=zz ((Below.refl w.heap.size w).alloc (Nat.le_refl _) (.cells #[.slice sa sn scp, .map (some B)] 73))
 obtain ⟨s0,s1⟩:=scp_new w sa sn scp B
 generalize w.alloc (.cells #[.slice sa sn scp, .map (some B)] 73)=wa at HBA s0 s1⊢
 have m2:wa.cell? ⟨N,2,none⟩=some (.slice (some ⟨b,0,none⟩) 3 cap):=(HBA.out.cell (p:=⟨N,2,none⟩) hN).trans n2
 have a0:wa.cell? ⟨b,0,none⟩=some (.pointer (some ⟨q0,0,none⟩)):=(HBA.out.cell (p:=⟨b,0,none⟩) hbl).trans c0
 have a1:wa.cell? ⟨b,1,none⟩=some (.pointer (some ⟨q1,0,none⟩)):=(HBA.out.cell (p:=⟨b,1,none⟩) hbl).trans c1
 have a2:wa.cell? ⟨b,2,none⟩=some (.pointer (some ⟨q2,0,none⟩)):=(HBA.out.cell (p:=⟨b,2,none⟩) hbl).trans c2
 clear n2 c0 c1 c2
 have HW:=zz (show Below w.heap.size w wa.drew from HBA.out.drew)
 have HP0:=zz (HP.out 0 (by have:=HL.out;omega) (by simp) wa.drew S HW.out (HS.out.mono HW.out.size) (HE.out.low HW.out) (HT.out.keep HW.out))
 rw [HQ0.out] at HP0
 go_region_held3 (fun w'=>w'.cell? ⟨N,2,none⟩=some (.slice (some ⟨b,0,none⟩) 3 cap)∧w'.cell? ⟨b,0,none⟩=some (.pointer (some ⟨q0,0,none⟩))∧w'.cell? ⟨w.heap.size,0,none⟩=some (.slice sa sn scp)∧w'.cell? ⟨w.heap.size,1,none⟩=some (.map (some B)))
  (first
    |go_keep
    |(go_split_ands;exact kept4 hr.1 (by assumption) (by assumption) (by assumption) (by assumption)))
  ((go_at_call 46;refine HP0.out.mono ?_;rintro e w1 hr;obtain ⟨u0,b0,ok0,rfl,hta0,hyes0,hnot0⟩:=hr.truth))
 have HB1:=zz (HW.out.trans (hr.1.mono HW.out.size))
 cases ok0 with
 |false=>
  have HN:=zz (choO_no (hnot0 rfl) o1 o2)
  clear hr hyes0 hnot0
  go_wp2
  go_ret
  exact Res.nil HB1.out HN.out
 |true=>
  cases b0 with
  |true=>
   have HN:=zz (show choO o0 o1 o2=o1 by rw [show o0=some (truV true) from hyes0 rfl];rfl)
   have m3:w1.cell? ⟨N,2,none⟩=some (.slice (some ⟨b,0,none⟩) 3 cap):=kept hr.1 m2
   have k3:w1.cell? ⟨b,1,none⟩=some (.pointer (some ⟨q1,0,none⟩)):=kept hr.1 a1
   have s2:w1.cell? ⟨w.heap.size,0,none⟩=some (.slice sa sn scp):=kept hr.1 s0
   have s3:w1.cell? ⟨w.heap.size,1,none⟩=some (.map (some B)):=kept hr.1 s1
   have HW1:=zz (show Below w.heap.size w w1.drew from HB1.out.drew)
   have HP1:=zz (HP.out 1 (by have:=HL.out;omega) (by simp) w1.drew S HW1.out (HS.out.mono HW1.out.size) (HE.out.low HW1.out) (HT.out.keep HW1.out))
   rw [HQ1.out] at HP1
   clear hr hyes0 hnot0 m2 s0 s1
   go_wp2_with fail
   go_region_held3 (fun w'=>w'.cell? ⟨N,2,none⟩=some (.slice (some ⟨b,0,none⟩) 3 cap)∧w'.cell? ⟨b,1,none⟩=some (.pointer (some ⟨q1,0,none⟩))∧w'.cell? ⟨w.heap.size,0,none⟩=some (.slice sa sn scp)∧w'.cell? ⟨w.heap.size,1,none⟩=some (.map (some B)))
    (first
      |go_keep
      |(go_split_ands;exact kept4 hres.1 (by assumption) (by assumption) (by assumption) (by assumption)))
    ((go_at_call 46;refine HP1.out.mono ?_;rintro e w2 hr;have hrr:=hr.res ((HT.out.keep HW1.out).keep hr.1);obtain ⟨r,rfl,hres⟩:=hrr.ret))
   have HR2:=zz (hres.from HW1.out)
   clear hres hrr hr
   go_wp2
   go_ret
   rw [HN.out]
   exact HR2.out
  |false=>
   have HN:=zz (show choO o0 o1 o2=o2 by rw [show o0=some (truV false) from hyes0 rfl];rfl)
   have m3:w1.cell? ⟨N,2,none⟩=some (.slice (some ⟨b,0,none⟩) 3 cap):=kept hr.1 m2
   have k3:w1.cell? ⟨b,2,none⟩=some (.pointer (some ⟨q2,0,none⟩)):=kept hr.1 a2
   have s2:w1.cell? ⟨w.heap.size,0,none⟩=some (.slice sa sn scp):=kept hr.1 s0
   have s3:w1.cell? ⟨w.heap.size,1,none⟩=some (.map (some B)):=kept hr.1 s1
   have HW1:=zz (show Below w.heap.size w w1.drew from HB1.out.drew)
   have HP1:=zz (HP.out 2 (by have:=HL.out;omega) (by simp) w1.drew S HW1.out (HS.out.mono HW1.out.size) (HE.out.low HW1.out) (HT.out.keep HW1.out))
   rw [HQ2.out] at HP1
   clear hr hyes0 hnot0 m2 s0 s1
   go_wp2_with fail
   go_region_held3 (fun w'=>w'.cell? ⟨N,2,none⟩=some (.slice (some ⟨b,0,none⟩) 3 cap)∧w'.cell? ⟨b,2,none⟩=some (.pointer (some ⟨q2,0,none⟩))∧w'.cell? ⟨w.heap.size,0,none⟩=some (.slice sa sn scp)∧w'.cell? ⟨w.heap.size,1,none⟩=some (.map (some B)))
    (first
      |go_keep
      |(go_split_ands;exact kept4 hres.1 (by assumption) (by assumption) (by assumption) (by assumption)))
    ((go_at_call 46;refine HP1.out.mono ?_;rintro e w2 hr;have hrr:=hr.res ((HT.out.keep HW1.out).keep hr.1);obtain ⟨r,rfl,hres⟩:=hrr.ret))
   have HR2:=zz (hres.from HW1.out)
   clear hres hrr hr
   go_wp2
   go_ret
   rw [HN.out]
   exact HR2.out
theorem decided_any (N B:Nat) (env:List Bd) (qs:List Nat) (sa:Option Addr) (sn scp:Nat) (d:Bool) (o0 o1:Option (List Cl)) (S:Nat→Prop) (w:World) (hn:NodeP w N qs) (hp:PartsE w B env qs (.agg #[.slice sa sn scp, .map (some B)]) [o0,o1]) (hS:Hi w.heap.size S) (he:EnvV w S B env) (htab:Tab w):
  Calls Tryz.prog 143 #[.pointer (some ⟨N,0,none⟩), .agg #[.slice sa sn scp, .map (some B)], .bool d] w (Res S (decO d o0 o1) w):=by
 have hl:qs.length=2:=hp.1
 have HS:=zz hS;have HE:=zz he;have HT:=zz htab
 have HP:=zz hp.2
 obtain ⟨ao,cap,n2,hN,h1,h2,h3⟩:=hn
 obtain ⟨b,rfl,hbl,cc⟩:=h3.resolve_left (by rintro rfl;simp at hl)
 have c0:=cc 0 (by omega)
 have c1:=cc 1 (by omega)
 rw [hl] at n2 h1
 unfold maxLen at h2
 have HL:=zz hl
 generalize hq0:qs[0]=q0 at c0
 generalize hq1:qs[1]=q1 at c1
 have HQ0:=zz (show∀h:0<qs.length,qs[0]=q0 from fun _=>hq0)
 have HQ1:=zz (show∀h:1<qs.length,qs[1]=q1 from fun _=>hq1)
 clear hq0 hq1
 clear hl cc h3 hp hS he htab
 have htru:=conc_truth
 go_enter Tryz.func143,Tryz.ntmps143
 go_wp2_with fail
 have HBA:=zz ((Below.refl w.heap.size w).alloc (Nat.le_refl _) (.cells #[.slice sa sn scp, .map (some B)] 73))
 obtain ⟨s0,s1⟩:=scp_new w sa sn scp B
 generalize w.alloc (.cells #[.slice sa sn scp, .map (some B)] 73)=wa at HBA s0 s1⊢
 have m2:wa.cell? ⟨N,2,none⟩=some (.slice (some ⟨b,0,none⟩) 2 cap):=(HBA.out.cell (p:=⟨N,2,none⟩) hN).trans n2
 have a0:wa.cell? ⟨b,0,none⟩=some (.pointer (some ⟨q0,0,none⟩)):=(HBA.out.cell (p:=⟨b,0,none⟩) hbl).trans c0
 have a1:wa.cell? ⟨b,1,none⟩=some (.pointer (some ⟨q1,0,none⟩)):=(HBA.out.cell (p:=⟨b,1,none⟩) hbl).trans c1
 clear n2 c0 c1
 have HW:=zz (show Below w.heap.size w wa.drew from HBA.out.drew)
 have HP0:=zz (HP.out 0 (by have:=HL.out;omega) (by simp) wa.drew S HW.out (HS.out.mono HW.out.size) (HE.out.low HW.out) (HT.out.keep HW.out))
 rw [HQ0.out] at HP0
 go_region_held3 (fun w'=>w'.cell? ⟨N,2,none⟩=some (.slice (some ⟨b,0,none⟩) 2 cap)∧w'.cell? ⟨b,0,none⟩=some (.pointer (some ⟨q0,0,none⟩))∧w'.cell? ⟨w.heap.size,0,none⟩=some (.slice sa sn scp)∧w'.cell? ⟨w.heap.size,1,none⟩=some (.map (some B)))
  (first
    |go_keep
    |(go_split_ands;exact kept4 hr.1 (by assumption) (by assumption) (by assumption) (by assumption)))
  ((go_at_call 46;refine HP0.out.mono ?_;rintro e w1 hr;obtain ⟨u0,b0,ok0,rfl,hta0,hyes0,hnot0⟩:=hr.truth))
 have HB1:=zz (HW.out.trans (hr.1.mono HW.out.size))
 cases ok0 with
 |false=>
  have HN:=zz (decO_no d (hnot0 rfl) o1)
  clear hr hyes0 hnot0
  go_wp2
  go_ret
  exact Res.nil HB1.out HN.out
 |true=>
  by_cases hbd:b0=d
  ·subst hbd
   have HN:=zz (show decO b0 o0 o1=some (truV b0) by rw [show o0=some (truV b0) from hyes0 rfl];exact decO_same b0 o1)
   have hee:(b0==b0)=true:=by simp
   clear hr hyes0 hnot0
   go_wp2
   go_ret
   exact Res.tru HB1.out (HT.out.keep HB1.out) b0 HN.out
  ·have HY:=zz (show o0=some (truV b0) from hyes0 rfl)
   have HBD:=zz hbd
   have hne:(b0==d)=false:=beq_eq_false_iff_ne.mpr hbd
   have m3:w1.cell? ⟨N,2,none⟩=some (.slice (some ⟨b,0,none⟩) 2 cap):=kept hr.1 m2
   have k3:w1.cell? ⟨b,1,none⟩=some (.pointer (some ⟨q1,0,none⟩)):=kept hr.1 a1
   have s2:w1.cell? ⟨w.heap.size,0,none⟩=some (.slice sa sn scp):=kept hr.1 s0
   have s3:w1.cell? ⟨w.heap.size,1,none⟩=some (.map (some B)):=kept hr.1 s1
   have HW1:=zz (show Below w.heap.size w w1.drew from HB1.out.drew)
   have HP1:=zz (HP.out 1 (by have:=HL.out;omega) (by simp) w1.drew S HW1.out (HS.out.mono HW1.out.size) (HE.out.low HW1.out) (HT.out.keep HW1.out))
   rw [HQ1.out] at HP1
   clear hr hyes0 hnot0 m2 s0 s1 hbd
   go_wp2_with fail
   go_region_held3 (fun w'=>w'.cell? ⟨N,2,none⟩=some (.slice (some ⟨b,0,none⟩) 2 cap)∧w'.cell? ⟨b,1,none⟩=some (.pointer (some ⟨q1,0,none⟩))∧w'.cell? ⟨w.heap.size,0,none⟩=some (.slice sa sn scp)∧w'.cell? ⟨w.heap.size,1,none⟩=some (.map (some B)))
    (first
      |go_keep
      |(go_split_ands;exact kept4 hr.1 (by assumption) (by assumption) (by assumption) (by assumption)))
    ((go_at_call 46;refine HP1.out.mono ?_;rintro e w2 hr;obtain ⟨u1,b1,ok1,rfl,hta1,hyes1,hnot1⟩:=hr.truth))
   have HB2:=zz (HW1.out.trans (hr.1.mono HW1.out.size))
   cases ok1 with
   |false=>
    have HN:=zz (show decO d o0 o1=none by rw [HY.out];exact decO_no2 d b0 HBD.out (hnot1 rfl))
    clear hr hyes1 hnot1
    go_wp2
    go_ret
    exact Res.nil HB2.out HN.out
   |true=>
    have HN:=zz (show decO d o0 o1=some (truV b1) by rw [HY.out,show o1=some (truV b1) from hyes1 rfl];exact decO_two d b0 b1 HBD.out)
    clear hr hyes1 hnot1
    go_wp2
    go_ret
    exact Res.tru HB2.out (HT.out.keep HB2.out) b1 HN.out
end Go.Proofs.YthillfgjpalpcaaGreatDoor
