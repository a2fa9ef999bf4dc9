/-
  Drawn truths: spec.l20Typed's step for the type 1.
-/
import Derived.Test.YthijkjnngfnfdaaGreatDoorDrawTyped
set_option linter.unusedVariables false
set_option maxHeartbeats 8000000
set_option maxRecDepth 100000
namespace Go.Proofs.YthijkjnngfnfdaaGreatDoor
open Go.RowKit
theorem typ_step1 (d:Nat) (hd1:1≤d) (hd3:d≤3) (ih:TypA d) (R p:Nat) (w:World) (hp:p+kt (d+1)<1073741824) (h:Rdm w R p):
  Calls Tryz.prog 81 #[.pointer (some ⟨R,0,none⟩), .int .i64 ((d+1:Nat):Int), .int .i64 1] w (TypD R p (kt (d+1)) (ct (d+1)) w):=by
 obtain ⟨i0,hi,hz0,hz1,hz2⟩:=info_parts infoC
 generalize hDD:((d+1:Nat):Int)=D
 have hD2:2≤D:=by omega
 have hD5:D≤5:=by omega
 have HDM:=Lib.hid (show D-1=(d:Int) by omega)
 clear hDD
 have hC:=ct_pos (d+1)
 have hK:=kt_pos (d+1)
 have hkp:kt (d+1)=5+3*kt d:=rfl
 have hcb:ct (d+1)=1+3*ct d:=by rw [ct,if_neg (by omega)]
 have hcb5:ct d≤13:=by
  have:d=1∨d=2∨d=3:=by omega
  rcases this with rfl|rfl|rfl<;>decide
 have IH:=Lib.hid ih;clear ih
 generalize hkd:kt d=kd at hkp
 generalize hcd:ct d=cd at hcb hcb5
 generalize hkD:kt (d+1)=kD at hkp hK hp
 generalize hcD:ct (d+1)=cD at hcb hC
 have HKD:=Lib.hid hkd;have HCD:=Lib.hid hcd;have HKP:=Lib.hid hkp;have HCB:=Lib.hid hcb
 have HLT:=Lib.hid h.lt
 clear hkd hcd hkD hcD hkp hcb
 go_enter Tryz.func81,Tryz.ntmps81
 go_wp2_with fail
 refine (pick_any R p 4 _ (by omega) h).mono ?_
 rintro e w1 ⟨j,rfl,hj0,hj1,-,hr1,hg1,hs1⟩
 have hj2:=hj1 (by omega)
 obtain ⟨j1,rfl⟩:=Int.eq_ofNat_of_zero_le hj0
 have HG1:=Lib.hid hg1
 clear hj1 hg1 hs1
 by_cases hj:j1=0
 ·subst hj
  go_wp2_with fail
  refine (pick_any R (p+1) 2 _ (by omega) (hr1.kept (World.grownBy_alloc w1 _ none) (by simp))).mono ?_
  rintro e w9 ⟨i,rfl,hi0,hi1,-,hr9,hg9,hs9⟩
  have hi2:=hi1 (by omega)
  obtain ⟨i1,rfl⟩:=Int.eq_ofNat_of_zero_le hi0
  obtain ⟨t,ht,hlit⟩:=lit_y1 i1 (by omega)
  have hcell9:=lit_cell hr1.lt hg9 hlit
  have HG9:=Lib.hid (grown_trans (grown_alloc HG1.out _) hg9)
  clear hi1 hg9 hs9 hlit
  go_wp2
  go_ret
  exact TypD.one 3 0 t ht hC (hr9.mono (by omega)) HG9.out
 ·have hjn: ¬(j1:Int)=0:=by omega
  have hjb:((j1:Int)==0)=false:=by rw [beq_eq_false_iff_ne];exact hjn
  go_wp2_with fail
  refine (pick_any R (p+1) 4 _ (by omega) (hr1.kept (World.grownBy_alloc w1 _ none) (by simp))).mono ?_
  rintro e w2 ⟨x,rfl,hx0,hx1,-,hr2,hg2,hs2⟩
  have hx2:=hx1 (by omega)
  obtain ⟨x1,rfl⟩:=Int.eq_ofNat_of_zero_le hx0
  have HG2:=Lib.hid (grown_trans (grown_alloc HG1.out _) hg2)
  clear hx1 hg2 hs2
  by_cases hx:x1=0
  ·subst hx
   go_wp2_with fail
   have HO20:=Lib.hid (show (w2.alloc (.cells #[.int .i64 9, .string ByteArray.empty, .int .i64 3] 120)).ownsRow w.heap.size 120 3 (.slice (some ⟨w2.heap.size,0,none⟩) 1 1) [((9:Int),(ByteArray.empty:ByteArray),(3:Int))].length (flatC [((9:Int),(ByteArray.empty:ByteArray),(3:Int))]) from World.ownsRow_lit (base:=w.heap.size) (e:=120) (size:=3) w2 #[.int .i64 9, .string ByteArray.empty, .int .i64 3] 1 HG2.out.size (by unfold maxLen;omega) rfl)
   have HG20:=Lib.hid (grown_alloc HG2.out (.cells #[.int .i64 9, .string ByteArray.empty, .int .i64 3] 120))
   have HR20:=Lib.hid ((hr2.kept (World.grownBy_alloc w2 (.cells #[.int .i64 9, .string ByteArray.empty, .int .i64 3] 120) none) (by simp)).mono (show _≤p+2+0*kd by omega))
   have HS20:=Lib.hid (show∀c∈[((9:Int),(ByteArray.empty:ByteArray),(3:Int))],c.2.1.size≤5 from fun c hc=>by rw [List.mem_singleton] at hc;subst hc;show (ByteArray.empty:ByteArray).size≤5;decide)
   (try rw [HDM.out])
   refine (IH.out 1 (by omega) R (p+2+0*kd) _ (by rw [HKD.out];have:=HKP.out;omega) (HR20.out.mono (by omega))).mono ?_
   rintro e w21 ⟨v21,l21,rfl,ho21,hsh21,h121,hc21,hr21,hg21⟩
   rw [HKD.out] at hr21;rw [HCD.out] at hc21
   obtain ⟨L22,HLL22⟩: ∃L:List Cl,Hid (L=[((9:Int),(ByteArray.empty:ByteArray),(3:Int))]++l21):=⟨_,Lib.hid rfl⟩
   have HK21:=Lib.hid (HO20.out.kept hg21 (.inr (by intro he;have:=(HO20.out.lt _ he).1;have:=HLT.out;omega)))
   have HG21:=Lib.hid (grown_trans HG20.out hg21)
   have HP21:=Lib.hid ho21;have HS22:=Lib.hid (show∀c∈L22,c.2.1.size≤5 by rw [HLL22.out];exact typ_app HS20.out hsh21);have HR21:=Lib.hid (hr21.mono (show _≤p+2+(0+1)*kd by omega))
   have hll21:([((9:Int),(ByteArray.empty:ByteArray),(3:Int))]).length+l21.length≤1000:=by simp only [List.length_singleton];omega
   have hle22:L22.length≤1+(0+1)*cd:=by rw [HLL22.out,List.length_append];simp only [List.length_singleton];omega
   have hpo22:1≤L22.length:=by rw [HLL22.out,List.length_append];omega
   clear ho21 hsh21 hr21 hg21
   go_wp2_with (at_builtin;refine append_rows rfl _ _ 23 rfl w.heap.size 120 i0 (.agg #[.int .i64 0, .string ByteArray.empty, .int .i64 0]) 3 32 Tryz.underlying23 hi hz0 hz1 hz2 rfl (by decide) _ _ _ rfl HK21.out _ _ _ _ rfl HP21.out (flatC_one _) (by unfold maxLen;omega) (by omega) HG21.out.size ?_;intro v22 w22 hown hgrow;have HO22:=Lib.hid (show w22.ownsRow w.heap.size 120 3 v22 L22.length (flatC L22) from (by rw [HLL22.out,List.length_append,flatC_append];exact hown));have HG22:=Lib.hid (grown_own HG21.out hgrow (fun q hq=>(HK21.out.lt q hq).1));have HR22:=Lib.hid (HR21.out.kept hgrow (fun q hq=>by have:=(HK21.out.lt q hq).1;have:=HLT.out;omega));clear hown hgrow)
   obtain ⟨a22,c22,rfl⟩:=own_shape HO22.out
   (try rw [HDM.out])
   refine (IH.out 1 (by omega) R (p+2+1*kd) _ (by rw [HKD.out];have:=HKP.out;omega) (HR22.out.mono (by omega))).mono ?_
   rintro e w23 ⟨v23,l23,rfl,ho23,hsh23,h123,hc23,hr23,hg23⟩
   rw [HKD.out] at hr23;rw [HCD.out] at hc23
   obtain ⟨L24,HLL24⟩: ∃L:List Cl,Hid (L=L22++l23):=⟨_,Lib.hid rfl⟩
   have HK23:=Lib.hid (HO22.out.kept hg23 (.inr (by intro he;have:=(HO22.out.lt _ he).1;have:=HLT.out;omega)))
   have HG23:=Lib.hid (grown_trans HG22.out hg23)
   have HP23:=Lib.hid ho23;have HS24:=Lib.hid (show∀c∈L24,c.2.1.size≤5 by rw [HLL24.out];exact typ_app HS22.out hsh23);have HR23:=Lib.hid (hr23.mono (show _≤p+2+(1+1)*kd by omega))
   have hll23:(L22).length+l23.length≤1000:=by omega
   have hle24:L24.length≤1+(1+1)*cd:=by rw [HLL24.out,List.length_append];omega
   have hpo24:1≤L24.length:=by rw [HLL24.out,List.length_append];omega
   clear ho23 hsh23 hr23 hg23
   go_wp2_with (at_builtin;refine append_rows rfl _ _ 23 rfl w.heap.size 120 i0 (.agg #[.int .i64 0, .string ByteArray.empty, .int .i64 0]) 3 32 Tryz.underlying23 hi hz0 hz1 hz2 rfl (by decide) _ _ _ rfl HK23.out _ _ _ _ rfl HP23.out (flatC_one _) (by unfold maxLen;omega) (by omega) HG23.out.size ?_;intro v24 w24 hown hgrow;have HO24:=Lib.hid (show w24.ownsRow w.heap.size 120 3 v24 L24.length (flatC L24) from (by rw [HLL24.out,List.length_append,flatC_append];exact hown));have HG24:=Lib.hid (grown_own HG23.out hgrow (fun q hq=>(HK23.out.lt q hq).1));have HR24:=Lib.hid (HR23.out.kept hgrow (fun q hq=>by have:=(HK23.out.lt q hq).1;have:=HLT.out;omega));clear hown hgrow)
   obtain ⟨a24,c24,rfl⟩:=own_shape HO24.out
   (try rw [HDM.out])
   refine (IH.out 1 (by omega) R (p+2+2*kd) _ (by rw [HKD.out];have:=HKP.out;omega) (HR24.out.mono (by omega))).mono ?_
   rintro e w25 ⟨v25,l25,rfl,ho25,hsh25,h125,hc25,hr25,hg25⟩
   rw [HKD.out] at hr25;rw [HCD.out] at hc25
   obtain ⟨L26,HLL26⟩: ∃L:List Cl,Hid (L=L24++l25):=⟨_,Lib.hid rfl⟩
   have HK25:=Lib.hid (HO24.out.kept hg25 (.inr (by intro he;have:=(HO24.out.lt _ he).1;have:=HLT.out;omega)))
   have HG25:=Lib.hid (grown_trans HG24.out hg25)
   have HP25:=Lib.hid ho25;have HS26:=Lib.hid (show∀c∈L26,c.2.1.size≤5 by rw [HLL26.out];exact typ_app HS24.out hsh25);have HR25:=Lib.hid (hr25.mono (show _≤p+2+(2+1)*kd by omega))
   have hll25:(L24).length+l25.length≤1000:=by omega
   have hle26:L26.length≤1+(2+1)*cd:=by rw [HLL26.out,List.length_append];omega
   have hpo26:1≤L26.length:=by rw [HLL26.out,List.length_append];omega
   clear ho25 hsh25 hr25 hg25
   go_wp2_with (at_builtin;refine append_rows rfl _ _ 23 rfl w.heap.size 120 i0 (.agg #[.int .i64 0, .string ByteArray.empty, .int .i64 0]) 3 32 Tryz.underlying23 hi hz0 hz1 hz2 rfl (by decide) _ _ _ rfl HK25.out _ _ _ _ rfl HP25.out (flatC_one _) (by unfold maxLen;omega) (by omega) HG25.out.size ?_;intro v26 w26 hown hgrow;have HO26:=Lib.hid (show w26.ownsRow w.heap.size 120 3 v26 L26.length (flatC L26) from (by rw [HLL26.out,List.length_append,flatC_append];exact hown));have HG26:=Lib.hid (grown_own HG25.out hgrow (fun q hq=>(HK25.out.lt q hq).1));have HR26:=Lib.hid (HR25.out.kept hgrow (fun q hq=>by have:=(HK25.out.lt q hq).1;have:=HLT.out;omega));clear hown hgrow)
   obtain ⟨a26,c26,rfl⟩:=own_shape HO26.out
   have hfin: ¬(60:Int)<(L26.length:Int):=by have:=HCB.out;omega
   have hfiN: ¬60<L26.length:=by omega
   go_wp2
   go_ret
   exact ⟨_,L26,rfl,HO26.out,HS26.out,hpo26,by have:=HCB.out;omega,HR26.out.mono (by have:=HKP.out;omega),HG26.out⟩
  ·have hxn: ¬(x1:Int)=0:=by omega
   have hxb:((x1:Int)==0)=false:=by rw [beq_eq_false_iff_ne];exact hxn
   go_wp2_with fail
   refine (pick_any R (p+2) 3 _ (by omega) (hr2.mono (by omega))).mono ?_
   rintro e w3 ⟨y,rfl,hy0,hy1,-,hr3,hg3,hs3⟩
   have hy2:=hy1 (by omega)
   obtain ⟨y1,rfl⟩:=Int.eq_ofNat_of_zero_le hy0
   have HG3:=Lib.hid (grown_trans HG2.out hg3)
   replace hr3:Rdm w3 R (p+3):=hr3.mono (by omega)
   clear hy1 hg3 hs3
   by_cases hy:y1=0
   ·subst hy
    go_wp2_with fail
    have HO20:=Lib.hid (show (w3.alloc (.cells #[.int .i64 7, .string ⟨#[33]⟩, .int .i64 1] 120)).ownsRow w.heap.size 120 3 (.slice (some ⟨w3.heap.size,0,none⟩) 1 1) [((7:Int),(⟨#[33]⟩:ByteArray),(1:Int))].length (flatC [((7:Int),(⟨#[33]⟩:ByteArray),(1:Int))]) from World.ownsRow_lit (base:=w.heap.size) (e:=120) (size:=3) w3 #[.int .i64 7, .string ⟨#[33]⟩, .int .i64 1] 1 HG3.out.size (by unfold maxLen;omega) rfl)
    have HG20:=Lib.hid (grown_alloc HG3.out (.cells #[.int .i64 7, .string ⟨#[33]⟩, .int .i64 1] 120))
    have HR20:=Lib.hid ((hr3.kept (World.grownBy_alloc w3 (.cells #[.int .i64 7, .string ⟨#[33]⟩, .int .i64 1] 120) none) (by simp)).mono (show _≤p+3+0*kd by omega))
    have HS20:=Lib.hid (show∀c∈[((7:Int),(⟨#[33]⟩:ByteArray),(1:Int))],c.2.1.size≤5 from fun c hc=>by rw [List.mem_singleton] at hc;subst hc;show (⟨#[33]⟩:ByteArray).size≤5;decide)
    (try rw [HDM.out])
    refine (IH.out 1 (by omega) R (p+3+0*kd) _ (by rw [HKD.out];have:=HKP.out;omega) (HR20.out.mono (by omega))).mono ?_
    rintro e w21 ⟨v21,l21,rfl,ho21,hsh21,h121,hc21,hr21,hg21⟩
    rw [HKD.out] at hr21;rw [HCD.out] at hc21
    obtain ⟨L22,HLL22⟩: ∃L:List Cl,Hid (L=[((7:Int),(⟨#[33]⟩:ByteArray),(1:Int))]++l21):=⟨_,Lib.hid rfl⟩
    have HK21:=Lib.hid (HO20.out.kept hg21 (.inr (by intro he;have:=(HO20.out.lt _ he).1;have:=HLT.out;omega)))
    have HG21:=Lib.hid (grown_trans HG20.out hg21)
    have HP21:=Lib.hid ho21;have HS22:=Lib.hid (show∀c∈L22,c.2.1.size≤5 by rw [HLL22.out];exact typ_app HS20.out hsh21);have HR21:=Lib.hid (hr21.mono (show _≤p+3+(0+1)*kd by omega))
    have hll21:([((7:Int),(⟨#[33]⟩:ByteArray),(1:Int))]).length+l21.length≤1000:=by simp only [List.length_singleton];omega
    have hle22:L22.length≤1+(0+1)*cd:=by rw [HLL22.out,List.length_append];simp only [List.length_singleton];omega
    have hpo22:1≤L22.length:=by rw [HLL22.out,List.length_append];omega
    clear ho21 hsh21 hr21 hg21
    go_wp2_with (at_builtin;refine append_rows rfl _ _ 23 rfl w.heap.size 120 i0 (.agg #[.int .i64 0, .string ByteArray.empty, .int .i64 0]) 3 32 Tryz.underlying23 hi hz0 hz1 hz2 rfl (by decide) _ _ _ rfl HK21.out _ _ _ _ rfl HP21.out (flatC_one _) (by unfold maxLen;omega) (by omega) HG21.out.size ?_;intro v22 w22 hown hgrow;have HO22:=Lib.hid (show w22.ownsRow w.heap.size 120 3 v22 L22.length (flatC L22) from (by rw [HLL22.out,List.length_append,flatC_append];exact hown));have HG22:=Lib.hid (grown_own HG21.out hgrow (fun q hq=>(HK21.out.lt q hq).1));have HR22:=Lib.hid (HR21.out.kept hgrow (fun q hq=>by have:=(HK21.out.lt q hq).1;have:=HLT.out;omega));clear hown hgrow)
    obtain ⟨a22,c22,rfl⟩:=own_shape HO22.out
    have hfin: ¬(60:Int)<(L22.length:Int):=by have:=HCB.out;omega
    have hfiN: ¬60<L22.length:=by omega
    go_wp2
    go_ret
    exact ⟨_,L22,rfl,HO22.out,HS22.out,hpo22,by have:=HCB.out;omega,HR22.out.mono (by have:=HKP.out;omega),HG22.out⟩
   ·have hyn: ¬(y1:Int)=0:=by omega
    have hyb:((y1:Int)==0)=false:=by rw [beq_eq_false_iff_ne];exact hyn
    go_wp2_with fail
    refine (pick_any R (p+3) 2 _ (by omega) (hr3.mono (by omega))).mono ?_
    rintro e w4 ⟨z,rfl,hv0,hv1,-,hr4,hg4,hs4⟩
    have hv2:=hv1 (by omega)
    obtain ⟨z1,rfl⟩:=Int.eq_ofNat_of_zero_le hv0
    have HG4:=Lib.hid (grown_trans HG3.out hg4)
    replace hr4:Rdm w4 R (p+4):=hr4.mono (by omega)
    clear hv1 hg4 hs4
    by_cases hz:z1=0
    ·subst hz
     have HRA:=Lib.hid (hr4.kept (World.grownBy_alloc w4 (.cells #[Value.string ⟨#[60]⟩, .string ⟨#[60,61]⟩, .string ⟨#[62]⟩, .string ⟨#[62,61]⟩, .string ⟨#[61,61]⟩, .string ⟨#[33,61]⟩] 9) none) (by simp))
     have HRO:=Lib.hid hr4
     have hwr:IntKind.i64.wrap (D-1)=(d:Int):=by rw [IntWalk.i64_in _ (by omega)];exact HDM.out
     go_wp2_with fail
     go_region_law
      ((first
       |(go_simp;go_at_call 41;(with_reducible refine (pick_any R (p+4) 6 ((w4.alloc (.cells #[Value.string ⟨#[60]⟩, .string ⟨#[60,61]⟩, .string ⟨#[62]⟩, .string ⟨#[62,61]⟩, .string ⟨#[61,61]⟩, .string ⟨#[33,61]⟩] 9)).drew) ?_ ?_).mono ?_);(focus omega);(focus (exact (HRA.out.kept (row:=none) ⟨rfl,rfl,rfl,Nat.le_refl _,fun _ _ _=>rfl⟩ (by simp))));rintro e wp ⟨i,rfl,hi0,hi1,-,hrp,hg1,hs1⟩;have hi2:=hi1 (by omega);obtain ⟨i1,rfl⟩:=Int.eq_ofNat_of_zero_le hi0;obtain ⟨t,ht,hlit⟩:=lit_yc i1 (by omega);have hi3:(i1:Int)<6:=(by omega);have HS3:=Lib.hid hs1;have HGP:=Lib.hid (litG HG4.out hg1);have hcA:wp.cell? ⟨w4.heap.size,i1,none⟩=some (.string t):=litC hr4.lt hg1 hlit;have hneA: ¬w4.heap.size=R:=(by have:=hr4.lt;omega);have HRP:=Lib.hid hrp;have hlitP:=Lib.hid hlit;clear hi1 hs1 hg1 hrp hlit)
       |(go_simp;go_at_call 41;(with_reducible refine (pick_any R (p+4) 6 (w4.drew) ?_ ?_).mono ?_);(focus omega);(focus (exact (HRO.out.kept (row:=none) ⟨rfl,rfl,rfl,Nat.le_refl _,fun _ _ _=>rfl⟩ (by simp))));rintro e wp ⟨i,rfl,hi0,hi1,-,hrp,hg1,hs1⟩;have hi2:=hi1 (by omega);obtain ⟨i1,rfl⟩:=Int.eq_ofNat_of_zero_le hi0;obtain ⟨t,ht,hlit⟩:=lit_yc i1 (by omega);have hi3:(i1:Int)<6:=(by omega);have HS3:=Lib.hid hs1;have HGP:=Lib.hid (litD HG4.out hg1);have hcW:(wp.alloc (.cells #[Value.string ⟨#[60]⟩, .string ⟨#[60,61]⟩, .string ⟨#[62]⟩, .string ⟨#[62,61]⟩, .string ⟨#[61,61]⟩, .string ⟨#[33,61]⟩] 9)).cell? ⟨wp.heap.size,i1,none⟩=some (.string t):=litW hlit;have HRP:=Lib.hid hrp;have hlitP:=Lib.hid hlit;clear hi1 hs1 hg1 hrp hlit)
       |(go_simp;go_at_call 81;(with_reducible refine (IH.out 0 (by omega) R (p+4+1) (wp) ?_ ?_).mono ?_);(focus (rw [HKD.out];have:=HKP.out;omega));(focus (exact HRP.out));rintro e w5 ⟨v5,l5,rfl,ho5,hsh5,h15,hc5,hr5,hg5⟩;(rw [HKD.out] at hr5);(rw [HCD.out] at hc5);have HG5:=Lib.hid (grown_trans (HGP.out) hg5);have HP5:=Lib.hid ho5;have HSH5:=Lib.hid hsh5;have HR5:=Lib.hid hr5;have hRp:R<wp.heap.size:=HRP.out.lt;have hlt5:wp.heap.size≤w5.heap.size:=(by have:=hg5.size;(try simp at this);omega);have hcA5:w5.cell? ⟨w4.heap.size,i1,none⟩=some (.string t):=hg5.cell hcA (fun e=>hneA (Option.some.inj e));clear ho5 hsh5 hr5 hg5)
       |(go_simp;go_at_call 81;(with_reducible refine (IH.out 0 (by omega) R (p+4+1) (wp) ?_ ?_).mono ?_);(focus (rw [HKD.out];have:=HKP.out;omega));(focus (exact HRP.out));rintro e w5 ⟨v5,l5,rfl,ho5,hsh5,h15,hc5,hr5,hg5⟩;(rw [HKD.out] at hr5);(rw [HCD.out] at hc5);have HG5:=Lib.hid (grown_trans (HGP.out) hg5);have HP5:=Lib.hid ho5;have HSH5:=Lib.hid hsh5;have HR5:=Lib.hid hr5;have hRp:R<wp.heap.size:=HRP.out.lt;have hlt5:wp.heap.size≤w5.heap.size:=(by have:=hg5.size;(try simp at this);omega);have hcW5:(w5.alloc (.cells #[Value.string ⟨#[60]⟩, .string ⟨#[60,61]⟩, .string ⟨#[62]⟩, .string ⟨#[62,61]⟩, .string ⟨#[61,61]⟩, .string ⟨#[33,61]⟩] 9)).cell? ⟨w5.heap.size,i1,none⟩=some (.string t):=litW hlitP.out;clear ho5 hsh5 hr5 hg5)
       |(go_simp;go_at_call 81;(with_reducible refine (IH.out 0 (by omega) R (p+4+1) (wp.alloc (.cells #[.int .i64 8, .string t, .int .i64 2] 120)) ?_ ?_).mono ?_);(focus (rw [HKD.out];have:=HKP.out;omega));(focus (exact (HRP.out.kept (World.grownBy_alloc wp _ none) (by simp))));rintro e w5 ⟨v5,l5,rfl,ho5,hsh5,h15,hc5,hr5,hg5⟩;(rw [HKD.out] at hr5);(rw [HCD.out] at hc5);have HG5:=Lib.hid (grown_trans (grown_alloc HGP.out (.cells #[.int .i64 8, .string t, .int .i64 2] 120)) hg5);have HP5:=Lib.hid ho5;have HSH5:=Lib.hid hsh5;have HR5:=Lib.hid hr5;have hRp:R<wp.heap.size:=HRP.out.lt;have hlt5:wp.heap.size≤w5.heap.size:=(by have:=hg5.size;(try simp at this);omega);have hrB:=(World.ownsRow_lit (base:=w.heap.size) (e:=120) (size:=3) (wp) #[.int .i64 8, .string t, .int .i64 2] 1 (by exact (by first|exact HGP.out.size|exact Nat.le_trans HGP.out.size (by simp))) (by unfold maxLen;omega) (by rfl));have HK5:=Lib.hid (hrB.kept hg5 (.inr (by intro e;simp [Value.ownBlock] at e;have:=HRP.out.lt;omega)));clear hrB;clear ho5 hsh5 hr5 hg5)
       |(go_simp;go_at_call 81;(with_reducible refine (IH.out 0 (by omega) R (p+4+1) (wp.alloc (.cells #[Value.string ⟨#[60]⟩, .string ⟨#[60,61]⟩, .string ⟨#[62]⟩, .string ⟨#[62,61]⟩, .string ⟨#[61,61]⟩, .string ⟨#[33,61]⟩] 9)) ?_ ?_).mono ?_);(focus (rw [HKD.out];have:=HKP.out;omega));(focus (exact (HRP.out.kept (World.grownBy_alloc wp _ none) (by simp))));rintro e w5 ⟨v5,l5,rfl,ho5,hsh5,h15,hc5,hr5,hg5⟩;(rw [HKD.out] at hr5);(rw [HCD.out] at hc5);have HG5:=Lib.hid (grown_trans (grown_alloc HGP.out (.cells #[Value.string ⟨#[60]⟩, .string ⟨#[60,61]⟩, .string ⟨#[62]⟩, .string ⟨#[62,61]⟩, .string ⟨#[61,61]⟩, .string ⟨#[33,61]⟩] 9)) hg5);have HP5:=Lib.hid ho5;have HSH5:=Lib.hid hsh5;have HR5:=Lib.hid hr5;have hRp:R<wp.heap.size:=HRP.out.lt;have hlt5:wp.heap.size≤w5.heap.size:=(by have:=hg5.size;(try simp at this);omega);have hcA5:w5.cell? ⟨wp.heap.size,i1,none⟩=some (.string t):=lit_cell HRP.out.lt hg5 hlitP.out;clear ho5 hsh5 hr5 hg5)
       |(go_simp;go_at_call 81;(with_reducible refine (IH.out 0 (by omega) R (p+4+1) ((wp.alloc (.cells #[Value.string ⟨#[60]⟩, .string ⟨#[60,61]⟩, .string ⟨#[62]⟩, .string ⟨#[62,61]⟩, .string ⟨#[61,61]⟩, .string ⟨#[33,61]⟩] 9)).alloc (.cells #[.int .i64 8, .string t, .int .i64 2] 120)) ?_ ?_).mono ?_);(focus (rw [HKD.out];have:=HKP.out;omega));(focus (exact ((HRP.out.kept (World.grownBy_alloc wp _ none) (by simp)).kept (World.grownBy_alloc (wp.alloc _) _ none) (by simp))));rintro e w5 ⟨v5,l5,rfl,ho5,hsh5,h15,hc5,hr5,hg5⟩;(rw [HKD.out] at hr5);(rw [HCD.out] at hc5);have HG5:=Lib.hid (grown_trans (grown_alloc (grown_alloc HGP.out (.cells #[Value.string ⟨#[60]⟩, .string ⟨#[60,61]⟩, .string ⟨#[62]⟩, .string ⟨#[62,61]⟩, .string ⟨#[61,61]⟩, .string ⟨#[33,61]⟩] 9)) (.cells #[.int .i64 8, .string t, .int .i64 2] 120)) hg5);have HP5:=Lib.hid ho5;have HSH5:=Lib.hid hsh5;have HR5:=Lib.hid hr5;have hRp:R<wp.heap.size:=HRP.out.lt;have hlt5:wp.heap.size≤w5.heap.size:=(by have:=hg5.size;(try simp at this);omega);have hrB:=(World.ownsRow_lit (base:=w.heap.size) (e:=120) (size:=3) (wp.alloc (.cells #[Value.string ⟨#[60]⟩, .string ⟨#[60,61]⟩, .string ⟨#[62]⟩, .string ⟨#[62,61]⟩, .string ⟨#[61,61]⟩, .string ⟨#[33,61]⟩] 9)) #[.int .i64 8, .string t, .int .i64 2] 1 (by exact (by first|exact HGP.out.size|exact Nat.le_trans HGP.out.size (by simp))) (by unfold maxLen;omega) (by rfl));(rw [show (wp.alloc (.cells #[Value.string ⟨#[60]⟩, .string ⟨#[60,61]⟩, .string ⟨#[62]⟩, .string ⟨#[62,61]⟩, .string ⟨#[61,61]⟩, .string ⟨#[33,61]⟩] 9)).heap.size=wp.heap.size+1 by simp] at hrB);have HK5:=Lib.hid (hrB.kept hg5 (.inr (by intro e;simp [Value.ownBlock] at e;have:=HRP.out.lt;omega)));clear hrB;clear ho5 hsh5 hr5 hg5)
       |(refine step_append_rowsT (by rfl) _ _ _ (by rfl) w.heap.size 120 i0 (.agg #[.int .i64 0, .string ByteArray.empty, .int .i64 0]) 3 32 Tryz.underlying23 hi hz0 hz1 hz2 rfl (by decide) _ 1 [.int .i64 8, .string t, .int .i64 2] (by rfl) (World.ownsRow_lit (base:=w.heap.size) (e:=120) (size:=3) (w5) #[.int .i64 8, .string t, .int .i64 2] 1 (by first|exact HG5.out.size|exact Nat.le_trans HG5.out.size (by simp)) (by unfold maxLen;omega) rfl) _ _ _ _ (by rfl) (HP5.out.alloc _) (flatC_one _) (by unfold maxLen;omega) (by omega) (by have:=HG5.out.size;(try simp);(try omega)) ?_;intro v22 w22 hown hgrow;have HOW9:=Lib.hid ((World.ownsRow_lit (base:=w.heap.size) (e:=120) (size:=3) (w5) #[.int .i64 8, .string t, .int .i64 2] 1 (by first|exact HG5.out.size|exact Nat.le_trans HG5.out.size (by simp)) (by unfold maxLen;omega) rfl));obtain ⟨L22,HLL22⟩: ∃L:List Cl,Hid (L=[((8:Int),t,(2:Int))]++l5):=⟨_,Lib.hid rfl⟩;have HO22:=Lib.hid (show w22.ownsRow w.heap.size 120 3 v22 L22.length (flatC L22) from (by rw [HLL22.out,List.length_append,flatC_append];exact hown));have HG22:=Lib.hid (grown_own (grown_alloc HG5.out (.cells #[.int .i64 8, .string t, .int .i64 2] 120)) hgrow (fun x hx=>(HOW9.out.lt x hx).1));have HR22:=Lib.hid ((HR5.out.kept (World.grownBy_alloc w5 (.cells #[.int .i64 8, .string t, .int .i64 2] 120) none) (by simp)).kept hgrow (fun x hx=>by have:=(HOW9.out.lt x hx).1;have:=HLT.out;omega));have HS22:=Lib.hid (show∀c∈L22,c.2.1.size≤5 by rw [HLL22.out];exact typ_cons ht HSH5.out);have hle22:L22.length≤1+(0+1)*cd:=(by rw [HLL22.out,List.length_append,List.length_singleton];omega);have hpo22:1≤L22.length:=(by rw [HLL22.out,List.length_append];omega);obtain ⟨a22,c22,rfl⟩:=own_shape HO22.out;clear hown hgrow)
       |(refine step_append_rowsT (by rfl) _ _ _ (by rfl) w.heap.size 120 i0 (.agg #[.int .i64 0, .string ByteArray.empty, .int .i64 0]) 3 32 Tryz.underlying23 hi hz0 hz1 hz2 rfl (by decide) _ 1 [.int .i64 8, .string t, .int .i64 2] (by rfl) (by exact HK5.out) _ _ _ _ (by rfl) (by exact HP5.out) (flatC_one _) (by unfold maxLen;omega) (by omega) (by have:=HG5.out.size;(try simp);(try omega)) ?_;intro v22 w22 hown hgrow;have HOW9:=Lib.hid (HK5.out);obtain ⟨L22,HLL22⟩: ∃L:List Cl,Hid (L=[((8:Int),t,(2:Int))]++l5):=⟨_,Lib.hid rfl⟩;have HO22:=Lib.hid (show w22.ownsRow w.heap.size 120 3 v22 L22.length (flatC L22) from (by rw [HLL22.out,List.length_append,flatC_append];exact hown));have HG22:=Lib.hid (grown_own (HG5.out) hgrow (fun x hx=>(HOW9.out.lt x hx).1));have HR22:=Lib.hid ((HR5.out).kept hgrow (fun x hx=>by have:=(HOW9.out.lt x hx).1;have:=HLT.out;omega));have HS22:=Lib.hid (show∀c∈L22,c.2.1.size≤5 by rw [HLL22.out];exact typ_cons ht HSH5.out);have hle22:L22.length≤1+(0+1)*cd:=(by rw [HLL22.out,List.length_append,List.length_singleton];omega);have hpo22:1≤L22.length:=(by rw [HLL22.out,List.length_append];omega);obtain ⟨a22,c22,rfl⟩:=own_shape HO22.out;clear hown hgrow)
       |(refine step_append_rowsT (by rfl) _ _ _ (by rfl) w.heap.size 120 i0 (.agg #[.int .i64 0, .string ByteArray.empty, .int .i64 0]) 3 32 Tryz.underlying23 hi hz0 hz1 hz2 rfl (by decide) _ 1 [.int .i64 8, .string t, .int .i64 2] (by rfl) (show ((w5.alloc (.cells #[Value.string ⟨#[60]⟩, .string ⟨#[60,61]⟩, .string ⟨#[62]⟩, .string ⟨#[62,61]⟩, .string ⟨#[61,61]⟩, .string ⟨#[33,61]⟩] 9)).alloc (.cells #[.int .i64 8, .string t, .int .i64 2] 120)).ownsRow w.heap.size 120 3 (.slice (some ⟨w5.heap.size+1,0,none⟩) 1 1) 1 [.int .i64 8, .string t, .int .i64 2] from (by have hq:=(World.ownsRow_lit (base:=w.heap.size) (e:=120) (size:=3) (w5.alloc (.cells #[Value.string ⟨#[60]⟩, .string ⟨#[60,61]⟩, .string ⟨#[62]⟩, .string ⟨#[62,61]⟩, .string ⟨#[61,61]⟩, .string ⟨#[33,61]⟩] 9)) #[.int .i64 8, .string t, .int .i64 2] 1 (by first|exact HG5.out.size|exact Nat.le_trans HG5.out.size (by simp)) (by unfold maxLen;omega) rfl);rwa [show (w5.alloc (.cells #[Value.string ⟨#[60]⟩, .string ⟨#[60,61]⟩, .string ⟨#[62]⟩, .string ⟨#[62,61]⟩, .string ⟨#[61,61]⟩, .string ⟨#[33,61]⟩] 9)).heap.size=w5.heap.size+1 by simp] at hq)) _ _ _ _ (by rfl) ((HP5.out.alloc _).alloc _) (flatC_one _) (by unfold maxLen;omega) (by omega) (by have:=HG5.out.size;(try simp);(try omega)) ?_;intro v22 w22 hown hgrow;have HOW9:=Lib.hid ((show ((w5.alloc (.cells #[Value.string ⟨#[60]⟩, .string ⟨#[60,61]⟩, .string ⟨#[62]⟩, .string ⟨#[62,61]⟩, .string ⟨#[61,61]⟩, .string ⟨#[33,61]⟩] 9)).alloc (.cells #[.int .i64 8, .string t, .int .i64 2] 120)).ownsRow w.heap.size 120 3 (.slice (some ⟨w5.heap.size+1,0,none⟩) 1 1) 1 [.int .i64 8, .string t, .int .i64 2] from (by have hq:=(World.ownsRow_lit (base:=w.heap.size) (e:=120) (size:=3) (w5.alloc (.cells #[Value.string ⟨#[60]⟩, .string ⟨#[60,61]⟩, .string ⟨#[62]⟩, .string ⟨#[62,61]⟩, .string ⟨#[61,61]⟩, .string ⟨#[33,61]⟩] 9)) #[.int .i64 8, .string t, .int .i64 2] 1 (by first|exact HG5.out.size|exact Nat.le_trans HG5.out.size (by simp)) (by unfold maxLen;omega) rfl);rwa [show (w5.alloc (.cells #[Value.string ⟨#[60]⟩, .string ⟨#[60,61]⟩, .string ⟨#[62]⟩, .string ⟨#[62,61]⟩, .string ⟨#[61,61]⟩, .string ⟨#[33,61]⟩] 9)).heap.size=w5.heap.size+1 by simp] at hq)));obtain ⟨L22,HLL22⟩: ∃L:List Cl,Hid (L=[((8:Int),t,(2:Int))]++l5):=⟨_,Lib.hid rfl⟩;have HO22:=Lib.hid (show w22.ownsRow w.heap.size 120 3 v22 L22.length (flatC L22) from (by rw [HLL22.out,List.length_append,flatC_append];exact hown));have HG22:=Lib.hid (grown_own (grown_alloc (grown_alloc HG5.out (.cells #[Value.string ⟨#[60]⟩, .string ⟨#[60,61]⟩, .string ⟨#[62]⟩, .string ⟨#[62,61]⟩, .string ⟨#[61,61]⟩, .string ⟨#[33,61]⟩] 9)) (.cells #[.int .i64 8, .string t, .int .i64 2] 120)) hgrow (fun x hx=>(HOW9.out.lt x hx).1));have HR22:=Lib.hid (((HR5.out.kept (World.grownBy_alloc w5 (.cells #[Value.string ⟨#[60]⟩, .string ⟨#[60,61]⟩, .string ⟨#[62]⟩, .string ⟨#[62,61]⟩, .string ⟨#[61,61]⟩, .string ⟨#[33,61]⟩] 9) none) (by simp)).kept (World.grownBy_alloc (w5.alloc (.cells #[Value.string ⟨#[60]⟩, .string ⟨#[60,61]⟩, .string ⟨#[62]⟩, .string ⟨#[62,61]⟩, .string ⟨#[61,61]⟩, .string ⟨#[33,61]⟩] 9)) (.cells #[.int .i64 8, .string t, .int .i64 2] 120) none) (by simp)).kept hgrow (fun x hx=>by have:=(HOW9.out.lt x hx).1;have:=HLT.out;omega));have HS22:=Lib.hid (show∀c∈L22,c.2.1.size≤5 by rw [HLL22.out];exact typ_cons ht HSH5.out);have hle22:L22.length≤1+(0+1)*cd:=(by rw [HLL22.out,List.length_append,List.length_singleton];omega);have hpo22:1≤L22.length:=(by rw [HLL22.out,List.length_append];omega);obtain ⟨a22,c22,rfl⟩:=own_shape HO22.out;clear hown hgrow)))
     all_goals
      (try go_wp2_with fail)
      (try rw [HDM.out])
      refine (IH.out 0 (by omega) R (p+5+kd+0*kd) _ (by rw [HKD.out];have:=HKP.out;omega) (HR22.out.mono (by omega))).mono ?_
      rintro e w23 ⟨v23,l23,rfl,ho23,hsh23,h123,hc23,hr23,hg23⟩
      rw [HKD.out] at hr23;rw [HCD.out] at hc23
      obtain ⟨L24,HLL24⟩: ∃L:List Cl,Hid (L=L22++l23):=⟨_,Lib.hid rfl⟩
      have HK23:=Lib.hid (HO22.out.kept hg23 (.inr (by intro he;have:=(HO22.out.lt _ he).1;have:=HLT.out;omega)))
      have HG23:=Lib.hid (grown_trans HG22.out hg23)
      have HP23:=Lib.hid ho23;have HS24:=Lib.hid (show∀c∈L24,c.2.1.size≤5 by rw [HLL24.out];exact typ_app HS22.out hsh23);have HR23:=Lib.hid (hr23.mono (show _≤p+5+kd+(0+1)*kd by omega))
      have hll23:(L22).length+l23.length≤1000:=by omega
      have hle24:L24.length≤1+(1+1)*cd:=by rw [HLL24.out,List.length_append];omega
      have hpo24:1≤L24.length:=by rw [HLL24.out,List.length_append];omega
      clear ho23 hsh23 hr23 hg23
      go_wp2_with (at_builtin;refine append_rows rfl _ _ 23 rfl w.heap.size 120 i0 (.agg #[.int .i64 0, .string ByteArray.empty, .int .i64 0]) 3 32 Tryz.underlying23 hi hz0 hz1 hz2 rfl (by decide) _ _ _ rfl HK23.out _ _ _ _ rfl HP23.out (flatC_one _) (by unfold maxLen;omega) (by omega) HG23.out.size ?_;intro v24 w24 hown hgrow;have HO24:=Lib.hid (show w24.ownsRow w.heap.size 120 3 v24 L24.length (flatC L24) from (by rw [HLL24.out,List.length_append,flatC_append];exact hown));have HG24:=Lib.hid (grown_own HG23.out hgrow (fun q hq=>(HK23.out.lt q hq).1));have HR24:=Lib.hid (HR23.out.kept hgrow (fun q hq=>by have:=(HK23.out.lt q hq).1;have:=HLT.out;omega));clear hown hgrow)
      obtain ⟨a24,c24,rfl⟩:=own_shape HO24.out
      have hfin: ¬(60:Int)<(L24.length:Int):=by have:=HCB.out;omega
      have hfiN: ¬60<L24.length:=by omega
      go_wp2
      go_ret
      exact ⟨_,L24,rfl,HO24.out,HS24.out,hpo24,by have:=HCB.out;omega,HR24.out.mono (by have:=HKP.out;omega),HG24.out⟩
    ·have hzn: ¬(z1:Int)=0:=by omega
     have hzb:((z1:Int)==0)=false:=by rw [beq_eq_false_iff_ne];exact hzn
     have HRA:=Lib.hid (hr4.kept (World.grownBy_alloc w4 (.cells #[Value.string ⟨#[38,38]⟩, .string ⟨#[124,124]⟩] 9) none) (by simp))
     have HRO:=Lib.hid hr4
     have hwr:IntKind.i64.wrap (D-1)=(d:Int):=by rw [IntWalk.i64_in _ (by omega)];exact HDM.out
     go_wp2_with fail
     go_region_law
      ((first
       |(go_simp;go_at_call 41;(with_reducible refine (pick_any R (p+4) 2 ((w4.alloc (.cells #[Value.string ⟨#[38,38]⟩, .string ⟨#[124,124]⟩] 9)).drew) ?_ ?_).mono ?_);(focus omega);(focus (exact (HRA.out.kept (row:=none) ⟨rfl,rfl,rfl,Nat.le_refl _,fun _ _ _=>rfl⟩ (by simp))));rintro e wp ⟨i,rfl,hi0,hi1,-,hrp,hg1,hs1⟩;have hi2:=hi1 (by omega);obtain ⟨i1,rfl⟩:=Int.eq_ofNat_of_zero_le hi0;obtain ⟨t,ht,hlit⟩:=lit_yb i1 (by omega);have hi3:(i1:Int)<2:=(by omega);have HS3:=Lib.hid hs1;have HGP:=Lib.hid (litG HG4.out hg1);have hcA:wp.cell? ⟨w4.heap.size,i1,none⟩=some (.string t):=litC hr4.lt hg1 hlit;have hneA: ¬w4.heap.size=R:=(by have:=hr4.lt;omega);have HRP:=Lib.hid hrp;have hlitP:=Lib.hid hlit;clear hi1 hs1 hg1 hrp hlit)
       |(go_simp;go_at_call 41;(with_reducible refine (pick_any R (p+4) 2 (w4.drew) ?_ ?_).mono ?_);(focus omega);(focus (exact (HRO.out.kept (row:=none) ⟨rfl,rfl,rfl,Nat.le_refl _,fun _ _ _=>rfl⟩ (by simp))));rintro e wp ⟨i,rfl,hi0,hi1,-,hrp,hg1,hs1⟩;have hi2:=hi1 (by omega);obtain ⟨i1,rfl⟩:=Int.eq_ofNat_of_zero_le hi0;obtain ⟨t,ht,hlit⟩:=lit_yb i1 (by omega);have hi3:(i1:Int)<2:=(by omega);have HS3:=Lib.hid hs1;have HGP:=Lib.hid (litD HG4.out hg1);have hcW:(wp.alloc (.cells #[Value.string ⟨#[38,38]⟩, .string ⟨#[124,124]⟩] 9)).cell? ⟨wp.heap.size,i1,none⟩=some (.string t):=litW hlit;have HRP:=Lib.hid hrp;have hlitP:=Lib.hid hlit;clear hi1 hs1 hg1 hrp hlit)
       |(go_simp;go_at_call 81;(with_reducible refine (IH.out 1 (by omega) R (p+4+1) (wp) ?_ ?_).mono ?_);(focus (rw [HKD.out];have:=HKP.out;omega));(focus (exact HRP.out));rintro e w5 ⟨v5,l5,rfl,ho5,hsh5,h15,hc5,hr5,hg5⟩;(rw [HKD.out] at hr5);(rw [HCD.out] at hc5);have HG5:=Lib.hid (grown_trans (HGP.out) hg5);have HP5:=Lib.hid ho5;have HSH5:=Lib.hid hsh5;have HR5:=Lib.hid hr5;have hRp:R<wp.heap.size:=HRP.out.lt;have hlt5:wp.heap.size≤w5.heap.size:=(by have:=hg5.size;(try simp at this);omega);have hcA5:w5.cell? ⟨w4.heap.size,i1,none⟩=some (.string t):=hg5.cell hcA (fun e=>hneA (Option.some.inj e));clear ho5 hsh5 hr5 hg5)
       |(go_simp;go_at_call 81;(with_reducible refine (IH.out 1 (by omega) R (p+4+1) (wp) ?_ ?_).mono ?_);(focus (rw [HKD.out];have:=HKP.out;omega));(focus (exact HRP.out));rintro e w5 ⟨v5,l5,rfl,ho5,hsh5,h15,hc5,hr5,hg5⟩;(rw [HKD.out] at hr5);(rw [HCD.out] at hc5);have HG5:=Lib.hid (grown_trans (HGP.out) hg5);have HP5:=Lib.hid ho5;have HSH5:=Lib.hid hsh5;have HR5:=Lib.hid hr5;have hRp:R<wp.heap.size:=HRP.out.lt;have hlt5:wp.heap.size≤w5.heap.size:=(by have:=hg5.size;(try simp at this);omega);have hcW5:(w5.alloc (.cells #[Value.string ⟨#[38,38]⟩, .string ⟨#[124,124]⟩] 9)).cell? ⟨w5.heap.size,i1,none⟩=some (.string t):=litW hlitP.out;clear ho5 hsh5 hr5 hg5)
       |(go_simp;go_at_call 81;(with_reducible refine (IH.out 1 (by omega) R (p+4+1) (wp.alloc (.cells #[.int .i64 8, .string t, .int .i64 2] 120)) ?_ ?_).mono ?_);(focus (rw [HKD.out];have:=HKP.out;omega));(focus (exact (HRP.out.kept (World.grownBy_alloc wp _ none) (by simp))));rintro e w5 ⟨v5,l5,rfl,ho5,hsh5,h15,hc5,hr5,hg5⟩;(rw [HKD.out] at hr5);(rw [HCD.out] at hc5);have HG5:=Lib.hid (grown_trans (grown_alloc HGP.out (.cells #[.int .i64 8, .string t, .int .i64 2] 120)) hg5);have HP5:=Lib.hid ho5;have HSH5:=Lib.hid hsh5;have HR5:=Lib.hid hr5;have hRp:R<wp.heap.size:=HRP.out.lt;have hlt5:wp.heap.size≤w5.heap.size:=(by have:=hg5.size;(try simp at this);omega);have hrB:=(World.ownsRow_lit (base:=w.heap.size) (e:=120) (size:=3) (wp) #[.int .i64 8, .string t, .int .i64 2] 1 (by exact (by first|exact HGP.out.size|exact Nat.le_trans HGP.out.size (by simp))) (by unfold maxLen;omega) (by rfl));have HK5:=Lib.hid (hrB.kept hg5 (.inr (by intro e;simp [Value.ownBlock] at e;have:=HRP.out.lt;omega)));clear hrB;clear ho5 hsh5 hr5 hg5)
       |(go_simp;go_at_call 81;(with_reducible refine (IH.out 1 (by omega) R (p+4+1) (wp.alloc (.cells #[Value.string ⟨#[38,38]⟩, .string ⟨#[124,124]⟩] 9)) ?_ ?_).mono ?_);(focus (rw [HKD.out];have:=HKP.out;omega));(focus (exact (HRP.out.kept (World.grownBy_alloc wp _ none) (by simp))));rintro e w5 ⟨v5,l5,rfl,ho5,hsh5,h15,hc5,hr5,hg5⟩;(rw [HKD.out] at hr5);(rw [HCD.out] at hc5);have HG5:=Lib.hid (grown_trans (grown_alloc HGP.out (.cells #[Value.string ⟨#[38,38]⟩, .string ⟨#[124,124]⟩] 9)) hg5);have HP5:=Lib.hid ho5;have HSH5:=Lib.hid hsh5;have HR5:=Lib.hid hr5;have hRp:R<wp.heap.size:=HRP.out.lt;have hlt5:wp.heap.size≤w5.heap.size:=(by have:=hg5.size;(try simp at this);omega);have hcA5:w5.cell? ⟨wp.heap.size,i1,none⟩=some (.string t):=lit_cell HRP.out.lt hg5 hlitP.out;clear ho5 hsh5 hr5 hg5)
       |(go_simp;go_at_call 81;(with_reducible refine (IH.out 1 (by omega) R (p+4+1) ((wp.alloc (.cells #[Value.string ⟨#[38,38]⟩, .string ⟨#[124,124]⟩] 9)).alloc (.cells #[.int .i64 8, .string t, .int .i64 2] 120)) ?_ ?_).mono ?_);(focus (rw [HKD.out];have:=HKP.out;omega));(focus (exact ((HRP.out.kept (World.grownBy_alloc wp _ none) (by simp)).kept (World.grownBy_alloc (wp.alloc _) _ none) (by simp))));rintro e w5 ⟨v5,l5,rfl,ho5,hsh5,h15,hc5,hr5,hg5⟩;(rw [HKD.out] at hr5);(rw [HCD.out] at hc5);have HG5:=Lib.hid (grown_trans (grown_alloc (grown_alloc HGP.out (.cells #[Value.string ⟨#[38,38]⟩, .string ⟨#[124,124]⟩] 9)) (.cells #[.int .i64 8, .string t, .int .i64 2] 120)) hg5);have HP5:=Lib.hid ho5;have HSH5:=Lib.hid hsh5;have HR5:=Lib.hid hr5;have hRp:R<wp.heap.size:=HRP.out.lt;have hlt5:wp.heap.size≤w5.heap.size:=(by have:=hg5.size;(try simp at this);omega);have hrB:=(World.ownsRow_lit (base:=w.heap.size) (e:=120) (size:=3) (wp.alloc (.cells #[Value.string ⟨#[38,38]⟩, .string ⟨#[124,124]⟩] 9)) #[.int .i64 8, .string t, .int .i64 2] 1 (by exact (by first|exact HGP.out.size|exact Nat.le_trans HGP.out.size (by simp))) (by unfold maxLen;omega) (by rfl));(rw [show (wp.alloc (.cells #[Value.string ⟨#[38,38]⟩, .string ⟨#[124,124]⟩] 9)).heap.size=wp.heap.size+1 by simp] at hrB);have HK5:=Lib.hid (hrB.kept hg5 (.inr (by intro e;simp [Value.ownBlock] at e;have:=HRP.out.lt;omega)));clear hrB;clear ho5 hsh5 hr5 hg5)
       |(refine step_append_rowsT (by rfl) _ _ _ (by rfl) w.heap.size 120 i0 (.agg #[.int .i64 0, .string ByteArray.empty, .int .i64 0]) 3 32 Tryz.underlying23 hi hz0 hz1 hz2 rfl (by decide) _ 1 [.int .i64 8, .string t, .int .i64 2] (by rfl) (World.ownsRow_lit (base:=w.heap.size) (e:=120) (size:=3) (w5) #[.int .i64 8, .string t, .int .i64 2] 1 (by first|exact HG5.out.size|exact Nat.le_trans HG5.out.size (by simp)) (by unfold maxLen;omega) rfl) _ _ _ _ (by rfl) (HP5.out.alloc _) (flatC_one _) (by unfold maxLen;omega) (by omega) (by have:=HG5.out.size;(try simp);(try omega)) ?_;intro v22 w22 hown hgrow;have HOW9:=Lib.hid ((World.ownsRow_lit (base:=w.heap.size) (e:=120) (size:=3) (w5) #[.int .i64 8, .string t, .int .i64 2] 1 (by first|exact HG5.out.size|exact Nat.le_trans HG5.out.size (by simp)) (by unfold maxLen;omega) rfl));obtain ⟨L22,HLL22⟩: ∃L:List Cl,Hid (L=[((8:Int),t,(2:Int))]++l5):=⟨_,Lib.hid rfl⟩;have HO22:=Lib.hid (show w22.ownsRow w.heap.size 120 3 v22 L22.length (flatC L22) from (by rw [HLL22.out,List.length_append,flatC_append];exact hown));have HG22:=Lib.hid (grown_own (grown_alloc HG5.out (.cells #[.int .i64 8, .string t, .int .i64 2] 120)) hgrow (fun x hx=>(HOW9.out.lt x hx).1));have HR22:=Lib.hid ((HR5.out.kept (World.grownBy_alloc w5 (.cells #[.int .i64 8, .string t, .int .i64 2] 120) none) (by simp)).kept hgrow (fun x hx=>by have:=(HOW9.out.lt x hx).1;have:=HLT.out;omega));have HS22:=Lib.hid (show∀c∈L22,c.2.1.size≤5 by rw [HLL22.out];exact typ_cons ht HSH5.out);have hle22:L22.length≤1+(0+1)*cd:=(by rw [HLL22.out,List.length_append,List.length_singleton];omega);have hpo22:1≤L22.length:=(by rw [HLL22.out,List.length_append];omega);obtain ⟨a22,c22,rfl⟩:=own_shape HO22.out;clear hown hgrow)
       |(refine step_append_rowsT (by rfl) _ _ _ (by rfl) w.heap.size 120 i0 (.agg #[.int .i64 0, .string ByteArray.empty, .int .i64 0]) 3 32 Tryz.underlying23 hi hz0 hz1 hz2 rfl (by decide) _ 1 [.int .i64 8, .string t, .int .i64 2] (by rfl) (by exact HK5.out) _ _ _ _ (by rfl) (by exact HP5.out) (flatC_one _) (by unfold maxLen;omega) (by omega) (by have:=HG5.out.size;(try simp);(try omega)) ?_;intro v22 w22 hown hgrow;have HOW9:=Lib.hid (HK5.out);obtain ⟨L22,HLL22⟩: ∃L:List Cl,Hid (L=[((8:Int),t,(2:Int))]++l5):=⟨_,Lib.hid rfl⟩;have HO22:=Lib.hid (show w22.ownsRow w.heap.size 120 3 v22 L22.length (flatC L22) from (by rw [HLL22.out,List.length_append,flatC_append];exact hown));have HG22:=Lib.hid (grown_own (HG5.out) hgrow (fun x hx=>(HOW9.out.lt x hx).1));have HR22:=Lib.hid ((HR5.out).kept hgrow (fun x hx=>by have:=(HOW9.out.lt x hx).1;have:=HLT.out;omega));have HS22:=Lib.hid (show∀c∈L22,c.2.1.size≤5 by rw [HLL22.out];exact typ_cons ht HSH5.out);have hle22:L22.length≤1+(0+1)*cd:=(by rw [HLL22.out,List.length_append,List.length_singleton];omega);have hpo22:1≤L22.length:=(by rw [HLL22.out,List.length_append];omega);obtain ⟨a22,c22,rfl⟩:=own_shape HO22.out;clear hown hgrow)
       |(refine step_append_rowsT (by rfl) _ _ _ (by rfl) w.heap.size 120 i0 (.agg #[.int .i64 0, .string ByteArray.empty, .int .i64 0]) 3 32 Tryz.underlying23 hi hz0 hz1 hz2 rfl (by decide) _ 1 [.int .i64 8, .string t, .int .i64 2] (by rfl) (show ((w5.alloc (.cells #[Value.string ⟨#[38,38]⟩, .string ⟨#[124,124]⟩] 9)).alloc (.cells #[.int .i64 8, .string t, .int .i64 2] 120)).ownsRow w.heap.size 120 3 (.slice (some ⟨w5.heap.size+1,0,none⟩) 1 1) 1 [.int .i64 8, .string t, .int .i64 2] from (by have hq:=(World.ownsRow_lit (base:=w.heap.size) (e:=120) (size:=3) (w5.alloc (.cells #[Value.string ⟨#[38,38]⟩, .string ⟨#[124,124]⟩] 9)) #[.int .i64 8, .string t, .int .i64 2] 1 (by first|exact HG5.out.size|exact Nat.le_trans HG5.out.size (by simp)) (by unfold maxLen;omega) rfl);rwa [show (w5.alloc (.cells #[Value.string ⟨#[38,38]⟩, .string ⟨#[124,124]⟩] 9)).heap.size=w5.heap.size+1 by simp] at hq)) _ _ _ _ (by rfl) ((HP5.out.alloc _).alloc _) (flatC_one _) (by unfold maxLen;omega) (by omega) (by have:=HG5.out.size;(try simp);(try omega)) ?_;intro v22 w22 hown hgrow;have HOW9:=Lib.hid ((show ((w5.alloc (.cells #[Value.string ⟨#[38,38]⟩, .string ⟨#[124,124]⟩] 9)).alloc (.cells #[.int .i64 8, .string t, .int .i64 2] 120)).ownsRow w.heap.size 120 3 (.slice (some ⟨w5.heap.size+1,0,none⟩) 1 1) 1 [.int .i64 8, .string t, .int .i64 2] from (by have hq:=(World.ownsRow_lit (base:=w.heap.size) (e:=120) (size:=3) (w5.alloc (.cells #[Value.string ⟨#[38,38]⟩, .string ⟨#[124,124]⟩] 9)) #[.int .i64 8, .string t, .int .i64 2] 1 (by first|exact HG5.out.size|exact Nat.le_trans HG5.out.size (by simp)) (by unfold maxLen;omega) rfl);rwa [show (w5.alloc (.cells #[Value.string ⟨#[38,38]⟩, .string ⟨#[124,124]⟩] 9)).heap.size=w5.heap.size+1 by simp] at hq)));obtain ⟨L22,HLL22⟩: ∃L:List Cl,Hid (L=[((8:Int),t,(2:Int))]++l5):=⟨_,Lib.hid rfl⟩;have HO22:=Lib.hid (show w22.ownsRow w.heap.size 120 3 v22 L22.length (flatC L22) from (by rw [HLL22.out,List.length_append,flatC_append];exact hown));have HG22:=Lib.hid (grown_own (grown_alloc (grown_alloc HG5.out (.cells #[Value.string ⟨#[38,38]⟩, .string ⟨#[124,124]⟩] 9)) (.cells #[.int .i64 8, .string t, .int .i64 2] 120)) hgrow (fun x hx=>(HOW9.out.lt x hx).1));have HR22:=Lib.hid (((HR5.out.kept (World.grownBy_alloc w5 (.cells #[Value.string ⟨#[38,38]⟩, .string ⟨#[124,124]⟩] 9) none) (by simp)).kept (World.grownBy_alloc (w5.alloc (.cells #[Value.string ⟨#[38,38]⟩, .string ⟨#[124,124]⟩] 9)) (.cells #[.int .i64 8, .string t, .int .i64 2] 120) none) (by simp)).kept hgrow (fun x hx=>by have:=(HOW9.out.lt x hx).1;have:=HLT.out;omega));have HS22:=Lib.hid (show∀c∈L22,c.2.1.size≤5 by rw [HLL22.out];exact typ_cons ht HSH5.out);have hle22:L22.length≤1+(0+1)*cd:=(by rw [HLL22.out,List.length_append,List.length_singleton];omega);have hpo22:1≤L22.length:=(by rw [HLL22.out,List.length_append];omega);obtain ⟨a22,c22,rfl⟩:=own_shape HO22.out;clear hown hgrow)))
     all_goals
      (try go_wp2_with fail)
      (try rw [HDM.out])
      refine (IH.out 1 (by omega) R (p+5+kd+0*kd) _ (by rw [HKD.out];have:=HKP.out;omega) (HR22.out.mono (by omega))).mono ?_
      rintro e w23 ⟨v23,l23,rfl,ho23,hsh23,h123,hc23,hr23,hg23⟩
      rw [HKD.out] at hr23;rw [HCD.out] at hc23
      obtain ⟨L24,HLL24⟩: ∃L:List Cl,Hid (L=L22++l23):=⟨_,Lib.hid rfl⟩
      have HK23:=Lib.hid (HO22.out.kept hg23 (.inr (by intro he;have:=(HO22.out.lt _ he).1;have:=HLT.out;omega)))
      have HG23:=Lib.hid (grown_trans HG22.out hg23)
      have HP23:=Lib.hid ho23;have HS24:=Lib.hid (show∀c∈L24,c.2.1.size≤5 by rw [HLL24.out];exact typ_app HS22.out hsh23);have HR23:=Lib.hid (hr23.mono (show _≤p+5+kd+(0+1)*kd by omega))
      have hll23:(L22).length+l23.length≤1000:=by omega
      have hle24:L24.length≤1+(1+1)*cd:=by rw [HLL24.out,List.length_append];omega
      have hpo24:1≤L24.length:=by rw [HLL24.out,List.length_append];omega
      clear ho23 hsh23 hr23 hg23
      go_wp2_with (at_builtin;refine append_rows rfl _ _ 23 rfl w.heap.size 120 i0 (.agg #[.int .i64 0, .string ByteArray.empty, .int .i64 0]) 3 32 Tryz.underlying23 hi hz0 hz1 hz2 rfl (by decide) _ _ _ rfl HK23.out _ _ _ _ rfl HP23.out (flatC_one _) (by unfold maxLen;omega) (by omega) HG23.out.size ?_;intro v24 w24 hown hgrow;have HO24:=Lib.hid (show w24.ownsRow w.heap.size 120 3 v24 L24.length (flatC L24) from (by rw [HLL24.out,List.length_append,flatC_append];exact hown));have HG24:=Lib.hid (grown_own HG23.out hgrow (fun q hq=>(HK23.out.lt q hq).1));have HR24:=Lib.hid (HR23.out.kept hgrow (fun q hq=>by have:=(HK23.out.lt q hq).1;have:=HLT.out;omega));clear hown hgrow)
      obtain ⟨a24,c24,rfl⟩:=own_shape HO24.out
      have hfin: ¬(60:Int)<(L24.length:Int):=by have:=HCB.out;omega
      have hfiN: ¬60<L24.length:=by omega
      go_wp2
      go_ret
      exact ⟨_,L24,rfl,HO24.out,HS24.out,hpo24,by have:=HCB.out;omega,HR24.out.mono (by have:=HKP.out;omega),HG24.out⟩
end Go.Proofs.YthijkjnngfnfdaaGreatDoor
