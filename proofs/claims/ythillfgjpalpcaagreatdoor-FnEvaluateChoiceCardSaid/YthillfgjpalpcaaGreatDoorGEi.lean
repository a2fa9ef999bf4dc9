/-
  Several texts of the proof in one file: EvI3, EvI4.
-/
import Derived.Test.YthillfgjpalpcaaGreatDoorEvI1
import Derived.Test.YthillfgjpalpcaaGreatDoorGNu
set_option linter.unusedVariables false
set_option maxHeartbeats 4000000
set_option maxRecDepth 100000
namespace Go.Proofs.YthillfgjpalpcaaGreatDoor
open Go.RowKit
theorem RowV.of_ownG {w:World} {base n:Nat} {v:Value} {us:List Value} (h:w.ownsRow base 70 1 v n us) {S:Nat→Prop} (hS:Hi base S):RowV w S v us:=by
 have hl:n=us.length:=by have:=h.1;omega
 subst hl
 rcases h.2 with ⟨rfl,h0⟩|⟨g,cap,cur,rfl,_⟩
 ·exact ⟨none,0,by rw [h0],by omega,by unfold maxLen;omega, .inl (List.length_eq_zero_iff.mp h0)⟩
 ·exact (RowV.of_own h hS).1
noncomputable def unaO (word:ByteArray) (o:Option (List Cl)):Option (List Cl):=match o with
 |some v=>if word.data.toList=[33]∧kdV v=3 then some (truV (falseW v)) else if word.data.toList=[45]∧kdV v=1 then some (numV (-aT v) (aB v)) else none
 |none=>none
theorem unaO_no {word:ByteArray} {v:List Cl} (h3:word.data.toList=[33]→kdV v≠3) (h1:word.data.toList=[45]→kdV v≠1):unaO word (some v)=none:=by
 rw [unaO]
 show (if _ then _ else if _ then _ else none)=none
 rw [if_neg (fun h=>h3 h.1 h.2),if_neg (fun h=>h1 h.1 h.2)]
theorem unaO_not {word:ByteArray} (b:Bool) (h:word.data.toList=[33]):unaO word (some (truV b))=some (truV (!b)):=by
 show (if _ then _ else if _ then _ else none)=_
 rw [if_pos ⟨h,rfl⟩]
 cases b<;>rfl
theorem unaO_neg {word:ByteArray} (s:ByteArray) (h:word.data.toList=[45]):unaO word (some [(1,s,0)])=some (numV (-rdT s) (rdB s)):=by
 show (if _ then _ else if _ then _ else none)=_
 rw [if_neg (fun k=>by rw [h] at k;cases k.1),if_pos ⟨h,rfl⟩];rfl
theorem unary_nil {S:Nat→Prop} (s:ByteArray) (w:World):Calls Tryz.prog 112 #[.string s, .nilIface] w (Res S (unaO s none) w):=by
 have t1:=taB_nil
 have t2:=taN_nil
 go_enter Tryz.func112,Tryz.ntmps112
 go_wp2
 go_ret
 exact Res.nil (Below.refl _ _) rfl
theorem unary_any {S:Nat→Prop} (s:ByteArray) (u:Value) (p:List Cl) (w:World) (hv:VlS w S [u] [p]) (hok:okV p=true) (htab:Tab w):
  Calls Tryz.prog 112 #[.string s,u] w (Res S (unaO s (some p)) w):=by
 have hl:s.toList=s.data.toList:=ByteArray.toList_eq ..
 have HL:=zz hl
 rcases hv.one hok with ⟨t,ht,rfl,rfl⟩|⟨t,ht,rfl,rfl⟩|⟨b,rfl,rfl⟩|⟨v,us,ps,rfl,rfl,-⟩
 ·have t1:=fun w=>taB_num (.agg #[.int .i64 (rdT t), .int .i64 (rdB t)]) w
  have t2:=fun w=>taN_num (.agg #[.int .i64 (rdT t), .int .i64 (rdB t)]) w
  have hbd:=vB_bd (rd_valid _ ht)
  have hnum:=conc_num
  have HT:=zz htab
  have HB0:=zz ((Below.refl w.heap.size w).alloc (Nat.le_refl _) (.cells #[.int .i64 (rdT t), .int .i64 (rdB t)] 154))
  by_cases hs:s.toList=[45]
  ·have HN:=zz (unaO_neg t (hl.symm.trans hs))
   have HV:=zz (vBE_neg (rd_valid _ ht))
   obtain ⟨b1,b2,b3,b4⟩:=hbd
   clear hv hok ht hl htab
   generalize rdT t=x at*
   generalize rdB t=y at*
   go_enter Tryz.func112,Tryz.ntmps112
   go_wp2_with fail
   refine (opposite_any x y _ (by omega) (by omega)).mono ?_
   rintro e w1 ⟨rfl,hb1⟩
   have HB1:=zz (HB0.out.trans (hb1.mono HB0.out.size));clear hb1
   go_wp2
   go_ret
   exact Res.num HB1.out (HT.out.keep HB1.out) HV.out HN.out
  ·have hsb:(s.toList==[45])=false:=beq_eq_false_iff_ne.mpr hs
   have HN:=zz (show unaO s (some [(1,t,0)])=none from unaO_no (fun _=>(show (1:Int)≠3 by decide)) (fun h=>absurd (HL.out.trans h) hs))
   clear hv hok ht hl htab hs hbd
   generalize rdT t=x at*
   generalize rdB t=y at*
   go_enter Tryz.func112,Tryz.ntmps112
   go_wp2
   go_ret
   exact Res.nil HB0.out HN.out
 ·have t1:=fun w=>taB_text (.string t) w
  have t2:=fun w=>taN_text (.string t) w
  have HN:=zz (show unaO s (some [(2,t,0)])=none from unaO_no (fun _=>(show (2:Int)≠3 by decide)) (fun _=>(show (2:Int)≠1 by decide)))
  clear hv hok ht hl htab
  go_enter Tryz.func112,Tryz.ntmps112
  go_wp2
  go_ret
  exact Res.nil (Below.refl _ _) HN.out
 ·have t1:=fun w=>taB_truth (.bool b) w
  have t2:=fun w=>taN_truth (.bool b) w
  have htru:=conc_truth
  have HT:=zz htab
  by_cases hs:s.toList=[33]
  ·have HN:=zz (unaO_not b (hl.symm.trans hs))
   clear hv hok hl htab
   go_enter Tryz.func112,Tryz.ntmps112
   go_wp2
   go_ret
   exact Res.tru (Below.refl _ _) HT.out _ HN.out
  ·have hsb:(s.toList==[33])=false:=beq_eq_false_iff_ne.mpr hs
   have HN:=zz (show unaO s (some (truV b))=none from unaO_no (fun h=>absurd (HL.out.trans h) hs) (fun _=>(show (3:Int)≠1 by decide)))
   clear hv hok hl htab hs
   go_enter Tryz.func112,Tryz.ntmps112
   go_wp2
   go_ret
   exact Res.nil (Below.refl _ _) HN.out
 ·have t1:=fun w=>taB_list v w
  have t2:=fun w=>taN_list v w
  have HN:=zz (show unaO s (some (listV ps))=none from unaO_no (fun _=>(show (5:Int)≠3 by decide)) (fun _=>(show (5:Int)≠1 by decide)))
  clear hv hok hl htab
  go_enter Tryz.func112,Tryz.ntmps112
  go_wp2
  go_ret
  exact Res.nil (Below.refl _ _) HN.out
theorem binV_1 {s:ByteArray} (h:signW s.data.toList=1) (p q:List Cl):binV s p q=some (truV (decide (p=q))):=by
 unfold binV;rw [h];unfold binK;rw [if_pos rfl]
theorem binV_2 {s:ByteArray} (h:signW s.data.toList=2) (p q:List Cl):binV s p q=some (truV (!decide (p=q))):=by
 unfold binV;rw [h];unfold binK;rw [if_neg (by decide),if_pos rfl];simp
theorem vls_len {w:World} {S:Nat→Prop} {u:Value} {p:List Cl} (h:VlS w S [u] [p]) (hok:okV p=true) (htab:Tab w):AppOK w u p∧p.length≤1000:=
 ⟨h.app_ok htab 0 (by simp) (by simp),by have:=((okV_iff p).mp hok).1;omega⟩
theorem binary_1 {S:Nat→Prop} (s:ByteArray) (Ta Tb:TypeId) (xa xb:Value) (p q:List Cl) (w:World) (ha:VlS w S [.iface Ta xa] [p]) (hb:VlS w S [.iface Tb xb] [q]) (oka:okV p=true) (okb:okV q=true) (hs:signW s.data.toList=1) (htab:Tab w):
  Calls Tryz.prog 144 #[.string s, .iface Ta xa, .iface Tb xb] w (Res S (binV s p q) w):=by
 have hl:s.toList=[61,61]:=(show s.toList=s.data.toList from ByteArray.toList_eq ..).trans ((signW_is hs).1 rfl)
 have HN:=zz (binV_1 hs p q)
 obtain ⟨a1,l1⟩:=vls_len ha oka htab
 obtain ⟨a2,l2⟩:=vls_len hb okb htab
 have HSM:=zz (same_any _ _ p q w a1 a2 l1 l2)
 have HT:=zz htab
 have htru:=conc_truth
 generalize decide (p=q)=r at HSM HN
 clear ha hb oka okb hs htab a1 a2 l1 l2
 go_enter Tryz.func144,Tryz.ntmps144
 go_wp2_with fail
 refine HSM.out.mono ?_
 rintro e w1 ⟨rfl,hb1⟩
 have HB1:=zz hb1;clear hb1
 go_wp2
 go_ret
 exact Res.tru HB1.out (HT.out.keep HB1.out) _ HN.out
theorem binary_2 {S:Nat→Prop} (s:ByteArray) (Ta Tb:TypeId) (xa xb:Value) (p q:List Cl) (w:World) (ha:VlS w S [.iface Ta xa] [p]) (hb:VlS w S [.iface Tb xb] [q]) (oka:okV p=true) (okb:okV q=true) (hs:signW s.data.toList=2) (htab:Tab w):
  Calls Tryz.prog 144 #[.string s, .iface Ta xa, .iface Tb xb] w (Res S (binV s p q) w):=by
 have hl:s.toList=[33,61]:=(show s.toList=s.data.toList from ByteArray.toList_eq ..).trans ((signW_is hs).2.1 rfl)
 have HN:=zz (binV_2 hs p q)
 obtain ⟨a1,l1⟩:=vls_len ha oka htab
 obtain ⟨a2,l2⟩:=vls_len hb okb htab
 have HSM:=zz (same_any _ _ p q w a1 a2 l1 l2)
 have HT:=zz htab
 have htru:=conc_truth
 have e1: ¬s.toList=[61,61]:=by rw [hl];decide
 generalize decide (p=q)=r at HSM HN
 clear ha hb oka okb hs htab a1 a2 l1 l2
 go_enter Tryz.func144,Tryz.ntmps144
 go_wp2_with fail
 refine HSM.out.mono ?_
 rintro e w1 ⟨rfl,hb1⟩
 have HB1:=zz hb1;clear hb1
 go_wp2
 go_ret
 exact Res.tru HB1.out (HT.out.keep HB1.out) _ HN.out
theorem binary_3 {S:Nat→Prop} (s:ByteArray) (Ta Tb:TypeId) (xa xb:Value) (p q:List Cl) (w:World) (ha:VlS w S [.iface Ta xa] [p]) (hb:VlS w S [.iface Tb xb] [q]) (oka:okV p=true) (okb:okV q=true) (hS:Hi w.heap.size S) (hk3:3≤signW s.data.toList) (hk11:signW s.data.toList≤11) (htab:Tab w):
  Calls Tryz.prog 144 #[.string s, .iface Ta xa, .iface Tb xb] w (Res S (binV s p q) w):=by
 have hl:s.toList=s.data.toList:=ByteArray.toList_eq ..
 have f1:(s.toList==[61,61])=false:=beq_eq_false_iff_ne.mpr (fun h=>by rw [←hl,h] at hk3;simp [signW] at hk3)
 have f2:(s.toList==[33,61])=false:=beq_eq_false_iff_ne.mpr (fun h=>by rw [←hl,h] at hk3;simp [signW] at hk3)
 have HNO:=zz (show (kdV p≠1∨kdV q≠1)→(signW s.data.toList=3→ ¬(kdV p=2∧kdV q=2)∧ ¬(kdV p=5∧kdV q=5))→binV s p q=none from fun h1 h2=>binK_no hk3 h1 h2)
 have HS:=zz hS;have HT:=zz htab;have HL:=zz hl
 have HK3:=zz hk3;have HK11:=zz hk11
 have HA:=zz ha;have HB:=zz hb
 have HOA:=zz oka;have HOB:=zz okb
 clear hS htab hl hk3 hk11 ha hb oka okb
 rcases HA.out.asN HOA.out with ⟨ta1,ka1⟩|⟨sa,ta1,hsa,rfl⟩
 ·rcases HA.out.asT HOA.out with ⟨ta2,ka2⟩|⟨sa,ta2,hsa,rfl⟩
  ·rcases HA.out.asL HOA.out with ⟨ta3,ka3⟩|⟨ta3,us,ps,hra,hva,rfl⟩
   ·have HN:=zz (HNO.out (.inl ka1) (fun _=>⟨fun h=>ka2 h.1,fun h=>ka3 h.1⟩))
    clear ka1 ka2 ka3
    go_enter Tryz.func144,Tryz.ntmps144
    go_wp2
    go_ret
    exact Res.nil (Below.refl _ _) HN.out
   ·rcases HB.out.asL HOB.out with ⟨tb3,kb3⟩|⟨tb3,us',ps',hrb,hvb,rfl⟩
    ·have HN:=zz (HNO.out (.inl ka1) (fun _=>⟨fun h=>ka2 h.1,fun h=>kb3 h.2⟩))
     obtain ⟨ao,c,rfl,-⟩:=hra
     clear ka1 ka2 kb3 hva
     go_enter Tryz.func144,Tryz.ntmps144
     go_wp2
     go_ret
     exact Res.nil (Below.refl _ _) HN.out
    ·by_cases h3:s.toList=[43]
     ·have h3d:=HL.out.symm.trans h3
      have hk:signW s.data.toList=3:=by rw [h3d];rfl
      obtain ⟨hpa,hpp⟩:=okV_parts hva.exs HOA.out
      obtain ⟨hpb,hpq⟩:=okV_parts hvb.exs HOB.out
      have HN:=zz (show binV s (listV ps) (listV ps')=lisO (ps++ps') by
       unfold binV binK;rw [hk,if_neg (by decide),if_neg (by decide),if_neg (fun h=>ka2 h.2.1),if_pos ⟨rfl,rfl,rfl⟩,hpp,hpq])
      have hm1:ps.length≤8:=by
       have:=okVC_many (okV_head (c:=(5,⟨#[]⟩,(ps.length:Int))) (t:=ps.flatten) HOA.out)
       simp only at this;omega
      have hm2:ps'.length≤8:=by
       have:=okVC_many (okV_head (c:=(5,⟨#[]⟩,(ps'.length:Int))) (t:=ps'.flatten) HOB.out)
       simp only at this;omega
      have hl1:=hva.len;have hl2:=hvb.len
      have HRA:=zz hra;have HRB:=zz hrb;have HVA:=zz hva;have HVB:=zz hvb
      have HOK:=zz (show∀l∈ps++ps',okV l=true from fun l hl=>by rw [List.mem_append] at hl;exact hl.elim (hpa l) (hpb l))
      obtain ⟨ao,c,rfl,-⟩:=hra
      obtain ⟨ao',c',rfl,-⟩:=hrb
      have hcl:=conc_list
      have HBA:=zz ((Below.refl w.heap.size w).alloc (Nat.le_refl _) (.cells #[.slice ao us.length c, .slice ao' us'.length c'] 158))
      have g0:(w.alloc (.cells #[.slice ao us.length c, .slice ao' us'.length c'] 158)).cell? ⟨w.heap.size,0,none⟩=some (.slice ao us.length c):=by simp [go_sem]
      have g1:(w.alloc (.cells #[.slice ao us.length c, .slice ao' us'.length c'] 158)).cell? ⟨w.heap.size,1,none⟩=some (.slice ao' us'.length c'):=by simp [go_sem]
      have HCC:=zz (concat_two (S:=S) (.slice ao us.length c) (.slice ao' us'.length c') us us' _ w.heap.size (HS.out.mono HBA.out.size) (HRA.out.low HBA.out) (HRB.out.low HBA.out) HVA.out.cell1 HVB.out.cell1 (by omega) (by omega) g0 g1)
      have HLEN:=zz (show (ps++ps').length≤16 by rw [List.length_append];omega)
      clear hva hvb ka1 ka2 hpa hpb hpp hpq h3d hk hm1 hm2 hl1 hl2 g0 g1
      go_enter Tryz.func144,Tryz.ntmps144
      go_wp2_with fail
      refine HCC.out.mono ?_
      rintro e w1 ⟨v,rfl,ho1,hb1⟩
      have HB1:=zz (HBA.out.trans (hb1.mono HBA.out.size))
      have HR1:=zz (RowV.of_ownG ho1 (HS.out.mono HBA.out.size))
      have HV1:=zz ((HVA.out.low HB1.out).app (HVB.out.low HB1.out))
      obtain ⟨a1,c1,rfl⟩:=own_shape ho1
      clear ho1 hb1
      go_wp2
      go_ret
      exact Res.list HB1.out (by have h:=HR1.out;rw [List.length_append] at h;exact h) HV1.out HOK.out HLEN.out (HT.out.keep HB1.out) HN.out
     ·have f3:(s.toList==[43])=false:=beq_eq_false_iff_ne.mpr h3
      have HN:=zz (HNO.out (.inl ka1) (fun h=>absurd (HL.out.trans ((signW_is h).2.2.1 rfl)) h3))
      obtain ⟨ao,c,rfl,-⟩:=hra
      obtain ⟨ao',c',rfl,-⟩:=hrb
      clear ka1 ka2 hva hvb h3
      go_enter Tryz.func144,Tryz.ntmps144
      go_wp2
      go_ret
      exact Res.nil (Below.refl _ _) HN.out
  ·have kp:kdV [((2:Int),sa,(0:Int))]=2:=rfl
   rcases HB.out.asT HOB.out with ⟨tb2,kb2⟩|⟨sb,tb2,hsb,rfl⟩
   ·have HN:=zz (HNO.out (.inl ka1) (fun _=>⟨fun h=>kb2 h.2,fun h=>(by rw [kp] at h;exact absurd h.1 (by decide))⟩))
    clear ka1 kb2 hsa kp
    go_enter Tryz.func144,Tryz.ntmps144
    go_wp2
    go_ret
    exact Res.nil (Below.refl _ _) HN.out
   ·by_cases h3:s.toList=[43]
    ·have h3d:=HL.out.symm.trans h3
     have hk:signW s.data.toList=3:=by rw [h3d];rfl
     have HN:=zz (show binV s [(2,sa,0)] [(2,sb,0)]=texO (sa++sb) by
      unfold binV binK;rw [hk,if_neg (by decide),if_neg (by decide),if_pos ⟨rfl,rfl,rfl⟩];rfl)
     have z1:sa.size≤60:=okVC_word (okV_head HOA.out)
     have z2:sb.size≤60:=okVC_word (okV_head HOB.out)
     have hsz: ¬9223372036854775807<sa.size+sb.size:=by omega
     have hct:=conc_text
     have HZ:=zz (show (sa++sb).size≤1048576 by rw [ByteArray.size_append];omega)
     clear ka1 hsa hsb kp h3d hk
     go_enter Tryz.func144,Tryz.ntmps144
     go_wp2
     go_ret
     exact Res.text (Below.refl _ _) (sa++sb) HZ.out HN.out
    ·have f3:(s.toList==[43])=false:=beq_eq_false_iff_ne.mpr h3
     have HN:=zz (HNO.out (.inl ka1) (fun h=>absurd (HL.out.trans ((signW_is h).2.2.1 rfl)) h3))
     clear ka1 hsa hsb kp h3
     go_enter Tryz.func144,Tryz.ntmps144
     go_wp2
     go_ret
     exact Res.nil (Below.refl _ _) HN.out
 ·have kp:kdV [((1:Int),sa,(0:Int))]=1:=rfl
  rcases HB.out.asN HOB.out with ⟨tb1,kb1⟩|⟨sb,tb1,hsb,rfl⟩
  ·have HN:=zz (HNO.out (.inr kb1) (fun _=>⟨fun h=>(by rw [kp] at h;exact absurd h.1 (by decide)),fun h=>(by rw [kp] at h;exact absurd h.1 (by decide))⟩))
   clear kb1 hsa kp
   generalize rdT sa=xt at*
   generalize rdB sa=xb at*
   go_enter Tryz.func144,Tryz.ntmps144
   go_wp2
   go_ret
   exact Res.nil (((Below.refl _ _).alloc (Nat.le_refl _) _).alloc (by simp) _) HN.out
  ·have HN:=zz (show binV s [(1,sa,0)] [(1,sb,0)]=numK (signW s.data.toList) (rdT sa) (rdB sa) (rdT sb) (rdB sb) from binK_numK HK3.out rfl rfl)
   have HNUM:=zz (fun w' (ht:Tab w')=>number_any (S:=S) _ s (rdT sa) (rdB sa) (rdT sb) (rdB sb) w' (rd_valid _ hsa) (rd_valid _ hsb) rfl HK3.out HK11.out ht)
   have HBX:=zz (((Below.refl w.heap.size w).alloc (Nat.le_refl _) (.cells #[.int .i64 (rdT sa), .int .i64 (rdB sa)] 154)).alloc (by simp) (.cells #[.int .i64 (rdT sb), .int .i64 (rdB sb)] 154))
   clear hsa hsb kp HA HB
   generalize rdT sa=xt at*
   generalize rdB sa=xb at*
   generalize rdT sb=yt at*
   generalize rdB sb=yb at*
   go_enter Tryz.func144,Tryz.ntmps144
   go_wp2_with fail
   refine (HNUM.out _ (HT.out.keep HBX.out)).mono ?_
   intro e w1 hr
   obtain ⟨r,rfl,hres⟩:=hr.ret
   have HR:=zz (hres.from HBX.out)
   clear hr hres
   go_wp2
   go_ret
   rw [HN.out]
   exact HR.out
theorem binary_res {S:Nat→Prop} (s:ByteArray) (u u':Value) (p q:List Cl) (w:World) (ha:VlS w S [u] [p]) (hb:VlS w S [u'] [q]) (oka:okV p=true) (okb:okV q=true) (hS:Hi w.heap.size S) (hs:1≤signW s.data.toList∧signW s.data.toList≤11) (htab:Tab w):
  Calls Tryz.prog 144 #[.string s,u,u'] w (Res S (binV s p q) w):=by
 obtain ⟨Ta,xa,rfl⟩:=ha.iface
 obtain ⟨Tb,xb,rfl⟩:=hb.iface
 by_cases k1:signW s.data.toList=1
 ·exact binary_1 s Ta Tb xa xb p q w ha hb oka okb k1 htab
 by_cases k2:signW s.data.toList=2
 ·exact binary_2 s Ta Tb xa xb p q w ha hb oka okb k2 htab
 exact binary_3 s Ta Tb xa xb p q w ha hb oka okb hS (by omega) hs.2 htab
end Go.Proofs.YthillfgjpalpcaaGreatDoor
