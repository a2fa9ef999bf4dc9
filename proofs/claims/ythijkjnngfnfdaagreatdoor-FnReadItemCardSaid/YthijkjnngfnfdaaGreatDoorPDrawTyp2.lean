/-
  Drawn expressions of a type: spec.l20Typed's step for the type 2.
-/
import Derived.Test.YthijkjnngfnfdaaGreatDoorZz
import Derived.Test.YthijkjnngfnfdaaGreatDoorPDrawTyped
set_option linter.unusedVariables false
set_option maxHeartbeats 8000000
set_option maxRecDepth 100000
namespace Go.Proofs.YthijkjnngfnfdaaGreatDoor
open Go.RowKit
theorem acf (d:Nat) (hd1:1≤d) (hd3:d≤3) (ih:af8 d) (R p:Nat) (w:World) (hp:p+kt (d+1)<1073741824) (h:Rdm w R p):
  Calls Tryz.prog 81 #[.pointer (some ⟨R,0,none⟩), .int .i64 ((d+1:Nat):Int), .int .i64 2] w (TypD R p (kt (d+1)) (ct (d+1)) w):=by
 obtain ⟨i0,hi,hz0,hz1,hz2⟩:=info_parts gj;generalize hDD:((d+1:Nat):Int)=D
 have hD2:2≤D:=by omega
 have hD5:D≤5:=by omega
 have HDM:=aim (show D-1=(d:Int) by omega);clear hDD;have hC:=yB (d+1);have hK:=yA (d+1);have hkp:kt (d+1)=5+3*kt d:=rfl
 have hcb:ct (d+1)=1+3*ct d:=by rw [ct,if_neg (by omega)]
 have hcb5:ct d≤13:=by
  have:d=1∨d=2∨d=3:=by omega
  rcases this with rfl|rfl|rfl<;>decide
 have IH:=aim ih;clear ih;generalize hkd:kt d=kd at hkp;generalize hcd:ct d=cd at hcb hcb5;generalize hkD:kt (d+1)=kD at hkp hK hp;generalize hcD:ct (d+1)=cD at hcb hC;have HKD:=aim hkd;have HCD:=aim hcd;have HKP:=aim hkp;have HCB:=aim hcb;have HLT:=aim h.lt;clear hkd hcd hkD hcD hkp hcb
 go_enter Tryz.func81,Tryz.ntmps81
 go_wp2_with fail;refine (ah R p 4 _ (by omega) h).mono ?_;rintro e w1 ⟨j,rfl,hj0,hj1,-,hr1,hg1,hs1⟩;have hj2:=hj1 (by omega);obtain ⟨j1,rfl⟩:=aiq hj0;have HG1:=aim hg1;clear hj1 hg1 hs1
 by_cases hj:j1=0
 ·subst hj
  go_wp2_with fail;refine (ah R (p+1) 3 _ (by omega) (hr1.kept (aip w1 _ none) (by simp))).mono ?_;rintro e w9 ⟨i,rfl,hi0,hi1,-,hr9,hg9,hs9⟩;have hi2:=hi1 (by omega);obtain ⟨i1,rfl⟩:=aiq hi0;obtain ⟨t,ht,hlit⟩:=aew i1 (by omega);have hcell9:=aU hr1.lt hg9 hlit;have HG9:=aim (ab (ae HG1.out _) hg9);clear hi1 hg9 hs9 hlit;go_wp2;go_ret;exact TypD.one 2 0 t ht hC (hr9.mono (by omega)) HG9.out
 ·have hjn: ¬(j1:Int)=0:=by omega
  have hjb:((j1:Int)==0)=false:=by rw [beq_eq_false_iff_ne];exact hjn
  go_wp2_with fail;refine (ah R (p+1) 4 _ (by omega) (hr1.kept (aip w1 _ none) (by simp))).mono ?_;rintro e w2 ⟨x,rfl,hx0,hx1,-,hr2,hg2,hs2⟩;have hx2:=hx1 (by omega);obtain ⟨x1,rfl⟩:=aiq hx0;have HG2:=aim (ab (ae HG1.out _) hg2);clear hx1 hg2 hs2
  by_cases hx:x1=0
  ·subst hx
   go_wp2_with fail;have HO20:=aim (show (w2.alloc (.cells #[.int .i64 9, .string ByteArray.empty, .int .i64 3] 120)).ownsRow w.heap.size 120 3 (.slice (some ⟨w2.heap.size,0,none⟩) 1 1) [((9:Int),(ByteArray.empty:ByteArray),(3:Int))].length (ap [((9:Int),(ByteArray.empty:ByteArray),(3:Int))]) from World.ownsRow_lit (base:=w.heap.size) (e:=120) (size:=3) w2 #[.int .i64 9, .string ByteArray.empty, .int .i64 3] 1 HG2.out.size (by unfold maxLen;omega) rfl);have HG20:=aim (ae HG2.out (.cells #[.int .i64 9, .string ByteArray.empty, .int .i64 3] 120));have HR20:=aim ((hr2.kept (aip w2 (.cells #[.int .i64 9, .string ByteArray.empty, .int .i64 3] 120) none) (by simp)).mono (show _≤p+2+0*kd by omega));have HS20:=aim (show∀c∈[((9:Int),(ByteArray.empty:ByteArray),(3:Int))],c.2.1.size≤5 from fun c hc=>by rw [List.mem_singleton] at hc;subst hc;show (ByteArray.empty:ByteArray).size≤5;decide)
   (try rw [HDM.out])
   refine (IH.out 1 (by omega) R (p+2+0*kd) _ (by rw [HKD.out];have:=HKP.out;omega) (HR20.out.mono (by omega))).mono ?_;rintro e w21 ⟨v21,l21,rfl,ho21,hsh21,h121,hc21,hr21,hg21⟩;rw [HKD.out] at hr21;rw [HCD.out] at hc21
   obtain ⟨L22,HLL22⟩: ∃L:List Cl,Hid (L=[((9:Int),(ByteArray.empty:ByteArray),(3:Int))]++l21):=⟨_,aim rfl⟩
   have HK21:=aim (HO20.out.kept hg21 (.inr (by intro he;have:=(HO20.out.lt _ he).1;have:=HLT.out;omega)));have HG21:=aim (ab HG20.out hg21);have HP21:=aim ho21;have HS22:=aim (show∀c∈L22,c.2.1.size≤5 by rw [HLL22.out];exact ea HS20.out hsh21);have HR21:=aim (hr21.mono (show _≤p+2+(0+1)*kd by omega))
   have hll21:([((9:Int),(ByteArray.empty:ByteArray),(3:Int))]).length+l21.length≤1000:=by simp only [List.length_singleton];omega
   have hle22:L22.length≤1+(0+1)*cd:=by rw [HLL22.out,aio];simp only [List.length_singleton];omega
   have hpo22:1≤L22.length:=by rw [HLL22.out,aio];omega
   clear ho21 hsh21 hr21 hg21
   go_wp2_with (at_builtin;refine aK rfl _ _ 23 rfl w.heap.size 120 i0 (.agg #[.int .i64 0, .string ByteArray.empty, .int .i64 0]) 3 32 Tryz.underlying23 hi hz0 hz1 hz2 rfl (by decide) _ _ _ rfl HK21.out _ _ _ _ rfl HP21.out (aE _) (by unfold maxLen;omega) (by omega) HG21.out.size ?_;intro v22 w22 hown hgrow;have HO22:=aim (show w22.ownsRow w.heap.size 120 3 v22 L22.length (ap L22) from (by rw [HLL22.out,aio,aB];exact hown));have HG22:=aim (az HG21.out hgrow (fun q hq=>(HK21.out.lt q hq).1));have HR22:=aim (HR21.out.kept hgrow (fun q hq=>by have:=(HK21.out.lt q hq).1;have:=HLT.out;omega));clear hown hgrow)
   obtain ⟨a22,c22,rfl⟩:=ai HO22.out
   (try rw [HDM.out])
   refine (IH.out 2 (by omega) R (p+2+1*kd) _ (by rw [HKD.out];have:=HKP.out;omega) (HR22.out.mono (by omega))).mono ?_;rintro e w23 ⟨v23,l23,rfl,ho23,hsh23,h123,hc23,hr23,hg23⟩;rw [HKD.out] at hr23;rw [HCD.out] at hc23
   obtain ⟨L24,HLL24⟩: ∃L:List Cl,Hid (L=L22++l23):=⟨_,aim rfl⟩
   have HK23:=aim (HO22.out.kept hg23 (.inr (by intro he;have:=(HO22.out.lt _ he).1;have:=HLT.out;omega)));have HG23:=aim (ab HG22.out hg23);have HP23:=aim ho23;have HS24:=aim (show∀c∈L24,c.2.1.size≤5 by rw [HLL24.out];exact ea HS22.out hsh23);have HR23:=aim (hr23.mono (show _≤p+2+(1+1)*kd by omega))
   have hll23:(L22).length+l23.length≤1000:=by omega
   have hle24:L24.length≤1+(1+1)*cd:=by rw [HLL24.out,aio];omega
   have hpo24:1≤L24.length:=by rw [HLL24.out,aio];omega
   clear ho23 hsh23 hr23 hg23
   go_wp2_with (at_builtin;refine aK rfl _ _ 23 rfl w.heap.size 120 i0 (.agg #[.int .i64 0, .string ByteArray.empty, .int .i64 0]) 3 32 Tryz.underlying23 hi hz0 hz1 hz2 rfl (by decide) _ _ _ rfl HK23.out _ _ _ _ rfl HP23.out (aE _) (by unfold maxLen;omega) (by omega) HG23.out.size ?_;intro v24 w24 hown hgrow;have HO24:=aim (show w24.ownsRow w.heap.size 120 3 v24 L24.length (ap L24) from (by rw [HLL24.out,aio,aB];exact hown));have HG24:=aim (az HG23.out hgrow (fun q hq=>(HK23.out.lt q hq).1));have HR24:=aim (HR23.out.kept hgrow (fun q hq=>by have:=(HK23.out.lt q hq).1;have:=HLT.out;omega));clear hown hgrow)
   obtain ⟨a24,c24,rfl⟩:=ai HO24.out
   (try rw [HDM.out])
   refine (IH.out 2 (by omega) R (p+2+2*kd) _ (by rw [HKD.out];have:=HKP.out;omega) (HR24.out.mono (by omega))).mono ?_;rintro e w25 ⟨v25,l25,rfl,ho25,hsh25,h125,hc25,hr25,hg25⟩;rw [HKD.out] at hr25;rw [HCD.out] at hc25
   obtain ⟨L26,HLL26⟩: ∃L:List Cl,Hid (L=L24++l25):=⟨_,aim rfl⟩
   have HK25:=aim (HO24.out.kept hg25 (.inr (by intro he;have:=(HO24.out.lt _ he).1;have:=HLT.out;omega)));have HG25:=aim (ab HG24.out hg25);have HP25:=aim ho25;have HS26:=aim (show∀c∈L26,c.2.1.size≤5 by rw [HLL26.out];exact ea HS24.out hsh25);have HR25:=aim (hr25.mono (show _≤p+2+(2+1)*kd by omega))
   have hll25:(L24).length+l25.length≤1000:=by omega
   have hle26:L26.length≤1+(2+1)*cd:=by rw [HLL26.out,aio];omega
   have hpo26:1≤L26.length:=by rw [HLL26.out,aio];omega
   clear ho25 hsh25 hr25 hg25
   go_wp2_with (at_builtin;refine aK rfl _ _ 23 rfl w.heap.size 120 i0 (.agg #[.int .i64 0, .string ByteArray.empty, .int .i64 0]) 3 32 Tryz.underlying23 hi hz0 hz1 hz2 rfl (by decide) _ _ _ rfl HK25.out _ _ _ _ rfl HP25.out (aE _) (by unfold maxLen;omega) (by omega) HG25.out.size ?_;intro v26 w26 hown hgrow;have HO26:=aim (show w26.ownsRow w.heap.size 120 3 v26 L26.length (ap L26) from (by rw [HLL26.out,aio,aB];exact hown));have HG26:=aim (az HG25.out hgrow (fun q hq=>(HK25.out.lt q hq).1));have HR26:=aim (HR25.out.kept hgrow (fun q hq=>by have:=(HK25.out.lt q hq).1;have:=HLT.out;omega));clear hown hgrow)
   obtain ⟨a26,c26,rfl⟩:=ai HO26.out
   have hfin: ¬(60:Int)<(L26.length:Int):=by have:=HCB.out;omega
   have hfiN: ¬60<L26.length:=by omega
   go_wp2;go_ret;exact ⟨_,L26,rfl,HO26.out,HS26.out,hpo26,by have:=HCB.out;omega,HR26.out.mono (by have:=HKP.out;omega),HG26.out⟩
  ·have hxn: ¬(x1:Int)=0:=by omega
   have hxb:((x1:Int)==0)=false:=by rw [beq_eq_false_iff_ne];exact hxn
   go_wp2_with fail;have HO20:=aim (show (w2.alloc (.cells #[.int .i64 8, .string ⟨#[43]⟩, .int .i64 2] 120)).ownsRow w.heap.size 120 3 (.slice (some ⟨w2.heap.size,0,none⟩) 1 1) [((8:Int),(⟨#[43]⟩:ByteArray),(2:Int))].length (ap [((8:Int),(⟨#[43]⟩:ByteArray),(2:Int))]) from World.ownsRow_lit (base:=w.heap.size) (e:=120) (size:=3) w2 #[.int .i64 8, .string ⟨#[43]⟩, .int .i64 2] 1 HG2.out.size (by unfold maxLen;omega) rfl);have HG20:=aim (ae HG2.out (.cells #[.int .i64 8, .string ⟨#[43]⟩, .int .i64 2] 120));have HR20:=aim ((hr2.kept (aip w2 (.cells #[.int .i64 8, .string ⟨#[43]⟩, .int .i64 2] 120) none) (by simp)).mono (show _≤p+2+0*kd by omega));have HS20:=aim (show∀c∈[((8:Int),(⟨#[43]⟩:ByteArray),(2:Int))],c.2.1.size≤5 from fun c hc=>by rw [List.mem_singleton] at hc;subst hc;show (⟨#[43]⟩:ByteArray).size≤5;decide)
   (try rw [HDM.out])
   refine (IH.out 2 (by omega) R (p+2+0*kd) _ (by rw [HKD.out];have:=HKP.out;omega) (HR20.out.mono (by omega))).mono ?_;rintro e w21 ⟨v21,l21,rfl,ho21,hsh21,h121,hc21,hr21,hg21⟩;rw [HKD.out] at hr21;rw [HCD.out] at hc21
   obtain ⟨L22,HLL22⟩: ∃L:List Cl,Hid (L=[((8:Int),(⟨#[43]⟩:ByteArray),(2:Int))]++l21):=⟨_,aim rfl⟩
   have HK21:=aim (HO20.out.kept hg21 (.inr (by intro he;have:=(HO20.out.lt _ he).1;have:=HLT.out;omega)));have HG21:=aim (ab HG20.out hg21);have HP21:=aim ho21;have HS22:=aim (show∀c∈L22,c.2.1.size≤5 by rw [HLL22.out];exact ea HS20.out hsh21);have HR21:=aim (hr21.mono (show _≤p+2+(0+1)*kd by omega))
   have hll21:([((8:Int),(⟨#[43]⟩:ByteArray),(2:Int))]).length+l21.length≤1000:=by simp only [List.length_singleton];omega
   have hle22:L22.length≤1+(0+1)*cd:=by rw [HLL22.out,aio];simp only [List.length_singleton];omega
   have hpo22:1≤L22.length:=by rw [HLL22.out,aio];omega
   clear ho21 hsh21 hr21 hg21
   go_wp2_with (at_builtin;refine aK rfl _ _ 23 rfl w.heap.size 120 i0 (.agg #[.int .i64 0, .string ByteArray.empty, .int .i64 0]) 3 32 Tryz.underlying23 hi hz0 hz1 hz2 rfl (by decide) _ _ _ rfl HK21.out _ _ _ _ rfl HP21.out (aE _) (by unfold maxLen;omega) (by omega) HG21.out.size ?_;intro v22 w22 hown hgrow;have HO22:=aim (show w22.ownsRow w.heap.size 120 3 v22 L22.length (ap L22) from (by rw [HLL22.out,aio,aB];exact hown));have HG22:=aim (az HG21.out hgrow (fun q hq=>(HK21.out.lt q hq).1));have HR22:=aim (HR21.out.kept hgrow (fun q hq=>by have:=(HK21.out.lt q hq).1;have:=HLT.out;omega));clear hown hgrow)
   obtain ⟨a22,c22,rfl⟩:=ai HO22.out
   (try rw [HDM.out])
   refine (IH.out 2 (by omega) R (p+2+1*kd) _ (by rw [HKD.out];have:=HKP.out;omega) (HR22.out.mono (by omega))).mono ?_;rintro e w23 ⟨v23,l23,rfl,ho23,hsh23,h123,hc23,hr23,hg23⟩;rw [HKD.out] at hr23;rw [HCD.out] at hc23
   obtain ⟨L24,HLL24⟩: ∃L:List Cl,Hid (L=L22++l23):=⟨_,aim rfl⟩
   have HK23:=aim (HO22.out.kept hg23 (.inr (by intro he;have:=(HO22.out.lt _ he).1;have:=HLT.out;omega)));have HG23:=aim (ab HG22.out hg23);have HP23:=aim ho23;have HS24:=aim (show∀c∈L24,c.2.1.size≤5 by rw [HLL24.out];exact ea HS22.out hsh23);have HR23:=aim (hr23.mono (show _≤p+2+(1+1)*kd by omega))
   have hll23:(L22).length+l23.length≤1000:=by omega
   have hle24:L24.length≤1+(1+1)*cd:=by rw [HLL24.out,aio];omega
   have hpo24:1≤L24.length:=by rw [HLL24.out,aio];omega
   clear ho23 hsh23 hr23 hg23
   go_wp2_with (at_builtin;refine aK rfl _ _ 23 rfl w.heap.size 120 i0 (.agg #[.int .i64 0, .string ByteArray.empty, .int .i64 0]) 3 32 Tryz.underlying23 hi hz0 hz1 hz2 rfl (by decide) _ _ _ rfl HK23.out _ _ _ _ rfl HP23.out (aE _) (by unfold maxLen;omega) (by omega) HG23.out.size ?_;intro v24 w24 hown hgrow;have HO24:=aim (show w24.ownsRow w.heap.size 120 3 v24 L24.length (ap L24) from (by rw [HLL24.out,aio,aB];exact hown));have HG24:=aim (az HG23.out hgrow (fun q hq=>(HK23.out.lt q hq).1));have HR24:=aim (HR23.out.kept hgrow (fun q hq=>by have:=(HK23.out.lt q hq).1;have:=HLT.out;omega));clear hown hgrow)
   obtain ⟨a24,c24,rfl⟩:=ai HO24.out
   have hfin: ¬(60:Int)<(L24.length:Int):=by have:=HCB.out;omega
   have hfiN: ¬60<L24.length:=by omega
   go_wp2;go_ret;exact ⟨_,L24,rfl,HO24.out,HS24.out,hpo24,by have:=HCB.out;omega,HR24.out.mono (by have:=HKP.out;omega),HG24.out⟩
end Go.Proofs.YthijkjnngfnfdaaGreatDoor
