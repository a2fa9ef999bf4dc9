/-
  spec.l11Nest, DocumentValid, by their contracts.
-/
import Derived.Test.YtegdjjjpoahamaaGreatDoorItemS
import Derived.Test.YtegdjjjpoahamaaGreatDoorBaseI
import Derived.Test.YtegdjjjpoahamaaGreatDoorDocPlain
set_option linter.unusedVariables false
set_option maxHeartbeats 4000000
set_option maxRecDepth 100000
namespace Go.Proofs.YtegdjjjpoahamaaGreatDoor
open Go.RowKit
def intsZ (L:List Int):List Value:=L.map fun n=>Value.int .i64 n
theorem intsZ_length (L:List Int):(intsZ L).length=L.length:=by simp [intsZ]
theorem intsZ_snoc (L:List Int) (n:Int):intsZ (L++[n])=intsZ L++[.int .i64 n]:=by simp [intsZ]
def NestC (l:List It) (w:World) (e:Ending) (w':World):Prop:=
 ∃(v:Value) (d:Int) (L:List Int),e= .returned (.tuple #[v, .int .i64 d])∧w'.ownsRow w.heap.size 3 1 v L.length (intsZ L)∧Below w.heap.size w w'∧((nestO 0 l=some d∧L=depL 0 l)∨(nestO 0 l=none∧d= -1))
theorem nest_take {l:List It} {k:Nat} {d:Int} (hk:k<l.length) (h:nestO 0 (l.take k)=some d):nestO 0 (l.take (k+1))=if 0≤depN d l[k]∧depN d l[k]≤4 then some (depN d l[k]) else none:=by
 rw [List.take_succ_eq_append_getElem hk,nestO_app,h];rfl
theorem nest_none {l:List It} {k:Nat} (h:nestO 0 (l.take k)=none):nestO 0 l=none:=by
 have:nestO 0 (l.take k++l.drop k)=none:=by rw [nestO_app,h];rfl
 rwa [List.take_append_drop] at this
theorem depL_take {l:List It} {k:Nat} {d:Int} (hk:k<l.length) (h:nestO 0 (l.take k)=some d):depL 0 (l.take (k+1))=depL 0 (l.take k)++[depS d l[k]]:=by
 rw [List.take_succ_eq_append_getElem hk,depL_app,nestO_end _ _ _ h];rfl
theorem l11Nest_any (v:Value) (l:List It) (w:World) (hr:RowIt w v l) (hl:l.length≤1048576):
  Calls Tryz.prog 52 #[v] w (NestC l w):=by
 obtain ⟨i0,hi,hz0,hz1,hz2⟩:=info_parts infoI
 obtain ⟨ao,cap,rfl,h1,h2,h3⟩:=hr
 unfold maxLen at h2
 have H3:=Lib.hid h3;clear h3
 go_enter Tryz.func52,Tryz.ntmps52
 go_wp2
 go_loopw [4,5,6] (fun out dp i wr=> ∃(k:Nat) (d:Int),k≤l.length∧i= .int .i64 (k:Int)∧dp= .int .i64 d∧0≤d∧d≤4∧nestO 0 (l.take k)=some d∧wr.ownsRow w.heap.size 3 1 out k (intsZ (depL 0 (l.take k)))∧Below w.heap.size w wr) (fun _ _ i _=>l.length-(intOf i).toNat)
 case atStart=>exact ⟨0,0,Nat.zero_le _,rfl,rfl,by omega,by omega,rfl,World.ownsRow_lit _ _ 0 (Nat.le_refl _) (by unfold maxLen;omega) rfl,(Below.refl _ _).alloc (Nat.le_refl _) _⟩
 case round=>
  obtain ⟨k,d,hk,rfl,rfl,hd0,hd4,hn,hown,hb⟩:=hrel
  have HB:=Lib.hid hb;have HN:=Lib.hid hn
  have hs0:=hb.size
  clear hb hn
  by_cases hlt:k<l.length
  ·obtain ⟨b,o,rfl,hbl,cc⟩:=H3.out.resolve_left (by rintro rfl;simp at hlt)
   obtain ⟨u,hu⟩:=cc k hlt
   have d0:=(hu.mono hbl HB.out).1
   have HK:=Lib.hid (nest_take hlt HN.out)
   have HL:=Lib.hid (depL_take hlt HN.out)
   clear cc hu
   generalize l[k]=it at d0 HK HL
   have hkc:it.1=5∨it.1=4∨(it.1≠4∧it.1≠5):=by omega
   have hD: ∀s:Int,depS d it=s→depL 0 (l.take (k+1))=depL 0 (l.take k)++[s]:=fun s h=>by rw [HL.out,h]
   have HD:=Lib.hid hD;clear hD
   rcases hkc with h5|h4|⟨h4,h5⟩
   ·have e5:(it.1==5)=true:=by rw [h5];rfl
    have e4:(it.1==4)=false:=by rw [h5];rfl
    have HS:=Lib.hid (HD.out (d-1) (by unfold depS;rw [if_pos h5]))
    have hdn:depN d it=d-1:=by unfold depN depS;rw [if_neg (by omega),if_pos h5]
    rw [hdn] at HK
    clear h5 hdn
    generalize it.1=kk at d0 e5 e4
    by_cases hin:0≤d-1
    ·have HKN:=Lib.hid (show nestO 0 (l.take (k+1))=some (d-1) by rw [HK.out,if_pos (by omega)])
     have HI:=Lib.hid (show inI (d-1) 0 4=true by simp [inI];omega)
     go_wp2_with (at_builtin;refine wpList_append_own _ rfl _ _ 25 rfl w.heap.size 3 i0 (.int .i64 0) 1 8 Tryz.underlying25 hi hz0 hz1 hz2 rfl (by decide) _ _ _ rfl (hown.alloc _) ⟨wr.heap.size,0,none⟩ 1 1 [.int .i64 (d-1)] rfl rfl (World.news_of_block (cs:= #[.int .i64 (d-1)]) (t:=3) (fr:=(0,0)) (heap_alloc_new wr _)) (by simp [Value.oneCell']) (by unfold maxLen;omega) (by omega) (by simp;omega) ?_;intro v' w2 hown' hgrow hnil;have HB2:=Lib.hid ((HB.out.alloc HB.out.size _).grown hgrow (by have:=HB.out.size;simp;omega) (fun q hq=>(hown.lt q hq).1));have HO2:=Lib.hid hown';have c0:=(HB2.out.cell (p:=⟨b,_,none⟩) hbl).trans ((HB.out.cell (p:=⟨b,_,none⟩) hbl).symm.trans d0);clear hown' hgrow hnil)
     refine (l1In_any _ _ _ _).mono ?_
     rintro e w' ⟨rfl,rfl⟩
     rw [HI.out]
     go_wp2
     go_roundw
     case rel=>exact ⟨k+1,d-1,by omega,by go_num,rfl,by omega,by omega,HKN.out,by rw [HS.out,intsZ_snoc];exact HO2.out,HB2.out⟩
     case measure=>simp [intOf];omega
    ·have HKN:=Lib.hid (nest_none (l:=l) (k:=k+1) (by rw [HK.out,if_neg (by omega)]))
     have HI:=Lib.hid (show inI (d-1) 0 4=false by simp [inI];omega)
     go_wp2_with (at_builtin;refine wpList_append_own _ rfl _ _ 25 rfl w.heap.size 3 i0 (.int .i64 0) 1 8 Tryz.underlying25 hi hz0 hz1 hz2 rfl (by decide) _ _ _ rfl (hown.alloc _) ⟨wr.heap.size,0,none⟩ 1 1 [.int .i64 (d-1)] rfl rfl (World.news_of_block (cs:= #[.int .i64 (d-1)]) (t:=3) (fr:=(0,0)) (heap_alloc_new wr _)) (by simp [Value.oneCell']) (by unfold maxLen;omega) (by omega) (by simp;omega) ?_;intro v' w2 hown' hgrow hnil;have HB2:=Lib.hid ((HB.out.alloc HB.out.size _).grown hgrow (by have:=HB.out.size;simp;omega) (fun q hq=>(hown.lt q hq).1));have HO2:=Lib.hid hown';have c0:=(HB2.out.cell (p:=⟨b,_,none⟩) hbl).trans ((HB.out.cell (p:=⟨b,_,none⟩) hbl).symm.trans d0);clear hown' hgrow hnil)
     refine (l1In_any _ _ _ _).mono ?_
     rintro e w' ⟨rfl,rfl⟩
     rw [HI.out]
     have HLN:=Lib.hid (show (depL 0 (l.take (k+1))).length=k+1 by rw [depL_length,List.length_take];omega)
     go_wp2
     exact bodyPost_ret (v:= .tuple #[v', .int .i64 (-1)]) (by simp [results,Tryz.results52,go_sem]) rfl ⟨_,_,depL 0 (l.take (k+1)),rfl,by rw [HLN.out,HS.out,intsZ_snoc];exact HO2.out,HB2.out, .inr ⟨HKN.out,rfl⟩⟩
   ·have e5:(it.1==5)=false:=by rw [h4];rfl
    have e4:(it.1==4)=true:=by rw [h4];rfl
    have HS:=Lib.hid (HD.out d (by unfold depS;rw [if_neg (by omega)]))
    have hdn:depN d it=d+1:=by unfold depN depS;rw [if_pos h4,if_neg (by omega)]
    rw [hdn] at HK
    clear h4 hdn
    generalize it.1=kk at d0 e5 e4
    by_cases hin:d+1≤4
    ·have HKN:=Lib.hid (show nestO 0 (l.take (k+1))=some (d+1) by rw [HK.out,if_pos (by omega)])
     have HI:=Lib.hid (show inI (d+1) 0 4=true by simp [inI];omega)
     go_wp2_with (at_builtin;refine wpList_append_own _ rfl _ _ 25 rfl w.heap.size 3 i0 (.int .i64 0) 1 8 Tryz.underlying25 hi hz0 hz1 hz2 rfl (by decide) _ _ _ rfl (hown.alloc _) ⟨wr.heap.size,0,none⟩ 1 1 [.int .i64 d] rfl rfl (World.news_of_block (cs:= #[.int .i64 d]) (t:=3) (fr:=(0,0)) (heap_alloc_new wr _)) (by simp [Value.oneCell']) (by unfold maxLen;omega) (by omega) (by simp;omega) ?_;intro v' w2 hown' hgrow hnil;have HB2:=Lib.hid ((HB.out.alloc HB.out.size _).grown hgrow (by have:=HB.out.size;simp;omega) (fun q hq=>(hown.lt q hq).1));have HO2:=Lib.hid hown';have c0:=(HB2.out.cell (p:=⟨b,_,none⟩) hbl).trans ((HB.out.cell (p:=⟨b,_,none⟩) hbl).symm.trans d0);clear hown' hgrow hnil)
     refine (l1In_any _ _ _ _).mono ?_
     rintro e w' ⟨rfl,rfl⟩
     rw [HI.out]
     go_wp2
     go_roundw
     case rel=>exact ⟨k+1,d+1,by omega,by go_num,rfl,by omega,by omega,HKN.out,by rw [HS.out,intsZ_snoc];exact HO2.out,HB2.out⟩
     case measure=>simp [intOf];omega
    ·have HKN:=Lib.hid (nest_none (l:=l) (k:=k+1) (by rw [HK.out,if_neg (by omega)]))
     have HI:=Lib.hid (show inI (d+1) 0 4=false by simp [inI];omega)
     go_wp2_with (at_builtin;refine wpList_append_own _ rfl _ _ 25 rfl w.heap.size 3 i0 (.int .i64 0) 1 8 Tryz.underlying25 hi hz0 hz1 hz2 rfl (by decide) _ _ _ rfl (hown.alloc _) ⟨wr.heap.size,0,none⟩ 1 1 [.int .i64 d] rfl rfl (World.news_of_block (cs:= #[.int .i64 d]) (t:=3) (fr:=(0,0)) (heap_alloc_new wr _)) (by simp [Value.oneCell']) (by unfold maxLen;omega) (by omega) (by simp;omega) ?_;intro v' w2 hown' hgrow hnil;have HB2:=Lib.hid ((HB.out.alloc HB.out.size _).grown hgrow (by have:=HB.out.size;simp;omega) (fun q hq=>(hown.lt q hq).1));have HO2:=Lib.hid hown';have c0:=(HB2.out.cell (p:=⟨b,_,none⟩) hbl).trans ((HB.out.cell (p:=⟨b,_,none⟩) hbl).symm.trans d0);clear hown' hgrow hnil)
     refine (l1In_any _ _ _ _).mono ?_
     rintro e w' ⟨rfl,rfl⟩
     rw [HI.out]
     have HLN:=Lib.hid (show (depL 0 (l.take (k+1))).length=k+1 by rw [depL_length,List.length_take];omega)
     go_wp2
     exact bodyPost_ret (v:= .tuple #[v', .int .i64 (-1)]) (by simp [results,Tryz.results52,go_sem]) rfl ⟨_,_,depL 0 (l.take (k+1)),rfl,by rw [HLN.out,HS.out,intsZ_snoc];exact HO2.out,HB2.out, .inr ⟨HKN.out,rfl⟩⟩
   ·have e5:(it.1==5)=false:=beq_eq_false_iff_ne.mpr h5
    have e4:(it.1==4)=false:=beq_eq_false_iff_ne.mpr h4
    have HS:=Lib.hid (HD.out d (by unfold depS;rw [if_neg h5]))
    have hdn:depN d it=d:=by unfold depN depS;rw [if_neg h4,if_neg h5]
    rw [hdn] at HK
    clear h4 h5 hdn
    generalize it.1=kk at d0 e5 e4
    have HKN:=Lib.hid (show nestO 0 (l.take (k+1))=some d by rw [HK.out,if_pos (by omega)])
    have HI:=Lib.hid (show inI d 0 4=true by simp [inI];omega)
    go_wp2_with (at_builtin;refine wpList_append_own _ rfl _ _ 25 rfl w.heap.size 3 i0 (.int .i64 0) 1 8 Tryz.underlying25 hi hz0 hz1 hz2 rfl (by decide) _ _ _ rfl (hown.alloc _) ⟨wr.heap.size,0,none⟩ 1 1 [.int .i64 d] rfl rfl (World.news_of_block (cs:= #[.int .i64 d]) (t:=3) (fr:=(0,0)) (heap_alloc_new wr _)) (by simp [Value.oneCell']) (by unfold maxLen;omega) (by omega) (by simp;omega) ?_;intro v' w2 hown' hgrow hnil;have HB2:=Lib.hid ((HB.out.alloc HB.out.size _).grown hgrow (by have:=HB.out.size;simp;omega) (fun q hq=>(hown.lt q hq).1));have HO2:=Lib.hid hown';have c0:=(HB2.out.cell (p:=⟨b,_,none⟩) hbl).trans ((HB.out.cell (p:=⟨b,_,none⟩) hbl).symm.trans d0);clear hown' hgrow hnil)
    refine (l1In_any _ _ _ _).mono ?_
    rintro e w' ⟨rfl,rfl⟩
    rw [HI.out]
    go_wp2
    go_roundw
    case rel=>exact ⟨k+1,d,by omega,by go_num,rfl,by omega,by omega,HKN.out,by rw [HS.out,intsZ_snoc];exact HO2.out,HB2.out⟩
    case measure=>simp [intOf];omega
  ·obtain rfl:k=l.length:=by omega
   have HNL:=Lib.hid (show nestO 0 l=some d by have:=HN.out;rwa [List.take_of_length_le (Nat.le_refl _)] at this)
   rw [List.take_of_length_le (Nat.le_refl _)] at hown
   obtain ⟨a9,c9,rfl⟩:=own_shape hown
   have HO:=Lib.hid hown;clear hown
   go_wp2
   exact bodyPost_ret (v:= .tuple #[.slice a9 l.length c9, .int .i64 d]) (by simp [results,Tryz.results52,go_sem]) rfl ⟨_,_,depL 0 l,rfl,by rw [depL_length];exact HO.out,HB.out, .inl ⟨HNL.out,rfl⟩⟩
theorem doc_bad_item {l:List It} {k:Nat} (hk:k<l.length) (h:itemB l[k]=false):docB l=false:=by
 rw [Bool.eq_false_iff];intro hh
 have:=((docB_iff l).mp hh).2.1
 rw [List.all_eq_true] at this
 have:=this _ (List.getElem_mem hk)
 rw [h] at this;cases this
theorem documentValid_spec (v:Value) (l:List It) (w:World) (hr:RowIt w v l) (hz:ShortI l) (hl:l.length≤1048576):
  Calls Tryz.prog 18 #[v] w fun e w'=>e= .returned (.bool (docB l))∧Below w.heap.size w w':=by
 have HR:=Lib.hid hr
 obtain ⟨ao,cap,rfl,h1,h2,h3⟩:=hr
 unfold maxLen at h2
 have H3:=Lib.hid h3;have HZ:=Lib.hid hz;clear h3 hz
 go_enter Tryz.func18,Tryz.ntmps18
 go_wp2
 go_loopw [3] (fun i wr=> ∃k:Nat,k≤l.length∧i= .int .i64 (k:Int)∧(l.take k).all itemB=true∧Below w.heap.size w wr) (fun i _=>l.length-(intOf i).toNat)
 case atStart=>exact ⟨0,Nat.zero_le _,rfl,rfl,Below.refl _ _⟩
 case round=>
  obtain ⟨k,hk,rfl,hok,hb⟩:=hrel
  have HOK:=Lib.hid hok;have HB:=Lib.hid hb;clear hok hb
  by_cases hlt:k<l.length
  ·obtain ⟨b,o,rfl,hbl,cc⟩:=H3.out.resolve_left (by rintro rfl;simp at hlt)
   obtain ⟨u,hu⟩:=cc k hlt
   obtain ⟨d0,d1,d2,d3,hru⟩:=hu.mono hbl HB.out
   obtain ⟨z1,z2,z3,z4⟩:=HZ.out _ (List.getElem_mem hlt)
   have HI:=Lib.hid (itemValid_spec l[k] u wr hru (by unfold maxLen;omega) z2 z3 (by unfold maxLen;omega))
   have HT:=Lib.hid (show (l.take (k+1)).all itemB=((l.take k).all itemB&&itemB l[k]) by rw [List.take_succ_eq_append_getElem hlt,List.all_append];simp)
   have HBD:=Lib.hid (fun h=>doc_bad_item hlt h)
   clear cc hu hru z1 z2 z3 z4
   generalize l[k]=it at*
   obtain ⟨kk,nn,cc,tt⟩:=it
   simp only at d0 d1 d2 d3 HI
   cases hcb:itemB (kk,nn,cc,tt) with
   |true=>
    have HN:=Lib.hid (show (l.take (k+1)).all itemB=true by rw [HT.out,HOK.out,hcb];rfl)
    go_wp2_with fail
    refine HI.out.mono ?_
    rintro e w1 ⟨rfl,hb1⟩
    have HB1:=Lib.hid (HB.out.trans (hb1.mono HB.out.size));clear hb1
    rw [hcb]
    go_wp2
    go_roundw
    case rel=>exact ⟨k+1,by omega,by go_num,HN.out,HB1.out⟩
    case measure=>simp [intOf];omega
   |false=>
    have HN:=Lib.hid (HBD.out hcb)
    go_wp2_with fail
    refine HI.out.mono ?_
    rintro e w1 ⟨rfl,hb1⟩
    have HB1:=Lib.hid (HB.out.trans (hb1.mono HB.out.size));clear hb1
    rw [hcb]
    go_wp2
    go_ret
    exact ⟨ret_b HN.out.symm,HB1.out⟩
  ·obtain rfl:k=l.length:=by omega
   have HAL:=Lib.hid (show l.all itemB=true by have:=HOK.out;rwa [List.take_of_length_le (Nat.le_refl _)] at this)
   go_wp2_with fail
   refine (l11Nest_any _ l _ (HR.out.mono HB.out) hl).mono ?_
   rintro e w1 ⟨vv,d,L,rfl,ho,hb1,hn⟩
   have HB1:=Lib.hid (HB.out.trans (hb1.mono HB.out.size))
   have HN:=Lib.hid hn
   clear ho hb1 hn
   by_cases h30:l.length≤30
   ·by_cases hd:d=0
    ·have HD:=Lib.hid (show docB l=true by
      rw [docB_iff]
      refine ⟨h30,HAL.out, ?_⟩
      rcases HN.out with ⟨h,-⟩|⟨-,h⟩
      ·rw [h,hd]
      ·omega)
     subst hd
     go_wp2
     go_ret
     exact ⟨ret_b HD.out.symm,HB1.out⟩
    ·have HD:=Lib.hid (show docB l=false by
      rw [Bool.eq_false_iff];intro hh
      have h9:=((docB_iff l).mp hh).2.2
      rcases HN.out with ⟨h,-⟩|⟨h,-⟩
      ·rw [h] at h9;injection h9 with h9;exact hd h9
      ·rw [h] at h9;cases h9)
     have hd0:(d==0)=false:=beq_eq_false_iff_ne.mpr hd
     go_wp2
     go_ret
     exact ⟨ret_b HD.out.symm,HB1.out⟩
   ·have HD:=Lib.hid (show docB l=false by rw [Bool.eq_false_iff];intro hh;exact h30 ((docB_iff l).mp hh).1)
    go_wp2
    go_ret
    exact ⟨ret_b HD.out.symm,HB1.out⟩
end Go.Proofs.YtegdjjjpoahamaaGreatDoor
