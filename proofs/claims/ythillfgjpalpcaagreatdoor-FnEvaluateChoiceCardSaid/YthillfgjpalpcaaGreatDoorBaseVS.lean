/-
  Several texts of the proof in one file: ValS, List8, Parts8.
-/
import Derived.Test.YthillfgjpalpcaaGreatDoorBaseI
set_option linter.unusedVariables false
set_option maxHeartbeats 4000000
set_option maxRecDepth 100000
namespace Go.Proofs.YthillfgjpalpcaaGreatDoor
open Go.RowKit
theorem flatC_word (l:List Cl): ∀(k:Nat) (h:k<l.length) (s:ByteArray),(flatC l).set (k*3+1) (.string s)=flatC (l.set k (l[k].1,s,l[k].2.2)):=by
 induction l with
 |nil=>intro k h;simp at h
 |cons a t ih=>
  intro k h s
  have e: ∀(b:Cl) (r:List Cl),flatC (b::r)= .int .i64 b.1:: .string b.2.1:: .int .i64 b.2.2::flatC r:=fun b r=>by simp [flatC]
  cases k with
  |zero=>rw [e];simp [e]
  |succ k=>
   have hk:k<t.length:=by simpa using h
   rw [e,show (k+1)*3+1=(k*3+1)+1+1+1 by omega]
   simp only [List.set_cons_succ,List.getElem_cons_succ]
   rw [ih k hk s,e]
def plTo (l:List Cl) (k:Nat):List Cl:=(l.take k).map plC++l.drop k
theorem plTo_len (l:List Cl) (k:Nat):(plTo l k).length=l.length:=by
 rw [plTo,List.length_append,List.length_map,List.length_take,List.length_drop];omega
theorem plTo_zero (l:List Cl):plTo l 0=l:=by simp [plTo]
theorem plTo_all (l:List Cl):plTo l l.length=l.map plC:=by simp [plTo]
theorem plTo_at (l:List Cl) (k:Nat) (h:k<l.length):(plTo l k)[k]'(by rw [plTo_len];exact h)=l[k]:=by
 simp only [plTo]
 rw [List.getElem_append_right (by simp;omega)]
 simp [Nat.min_eq_left (Nat.le_of_lt h)]
theorem plTo_num (l:List Cl) (k:Nat) (h:k<l.length) (h1:l[k].1=1):(plTo l k).set k (l[k].1,⟨#[48]⟩,l[k].2.2)=plTo l (k+1):=by
 have hm:(l.take k).map plC=(l.take k).map plC:=rfl
 rw [plTo,plTo,List.take_succ_eq_append_getElem h,List.map_append,List.set_append_right _ _ (by simp;omega)]
 simp only [List.length_map,List.length_take,Nat.min_eq_left (Nat.le_of_lt h),Nat.sub_self]
 rw [List.drop_eq_getElem_cons h,List.set_cons_zero,List.append_assoc]
 have:plC l[k]=(l[k].1,⟨#[48]⟩,l[k].2.2):=by unfold plC;rw [if_pos h1,h1]
 simp [this]
theorem plTo_oth (l:List Cl) (k:Nat) (h:k<l.length) (h1:l[k].1≠1):plTo l k=plTo l (k+1):=by
 rw [plTo,plTo,List.take_succ_eq_append_getElem h,List.map_append,List.drop_eq_getElem_cons h,List.append_assoc]
 have:plC l[k]=l[k]:=by unfold plC;rw [if_neg h1]
 simp [this]
theorem RowC.sub_al {w:World} {v:Value} {l:List Cl} (h:RowC w v l) (o:Obj):RowC (w.alloc o) v l:=h.mono ((Below.refl w.heap.size w).alloc (Nat.le_refl _) o)
theorem own_nil_lit (w:World):(w.alloc (.cells #[] 44)).ownsRow w.heap.size 44 3 (.slice (some ⟨w.heap.size,0,none⟩) 0 0) 0 []:=
 World.ownsRow_lit (e:=44) (size:=3) (base:=w.heap.size) w #[] 0 (Nat.le_refl _) (by unfold maxLen;omega) rfl
theorem own_belowT {w w1:World} {base:Nat} {e:TypeId} {size n:Nat} {v:Value} {xs:List Value} (h:w.ownsRow base e size v n xs) (hb:Below w.heap.size w w1):w1.ownsRow base e size v n xs:=
 h.kept (row:=none) ⟨hb.os,hb.tape,hb.output,hb.size,fun i hi _=>hb.block i hi⟩ (by cases hv:v.ownBlock with|none=>exact .inl rfl|some x=>exact .inr (by simp))
theorem vC_take {l:List Cl} {k:Nat} (h:k<l.length):(l.take (k+1)).all vC=((l.take k).all vC&&vC l[k]):=by
 rw [List.take_succ_eq_append_getElem h,List.all_append];simp
theorem okV_stop {l:List Cl} {k:Nat} (h:k<l.length) (hv:vC l[k]=false):okV l=false:=by
 rw [okV,Bool.and_eq_false_iff]
 left
 rw [List.all_eq_false]
 exact ⟨l[k],List.getElem_mem h,by rw [hv];decide⟩
theorem valueValid_spec (v:Value) (l:List Cl) (w:World) (hr:RowC w v l) (hz:ShortC l) (hl:l.length≤1048576):
  Calls Tryz.prog 60 #[v] w fun e w'=>e= .returned (.bool (okV l))∧Below w.heap.size w w':=by
 obtain ⟨i0,hi,hz0,hz1,hz2⟩:=info_parts infoC
 have HR:=zz hr;have HZ:=zz hz
 obtain ⟨ao,cap,rfl,q1,q2,q3⟩:=hr
 unfold maxLen at q2
 have H3:=zz q3
 clear q3 hz
 go_enter Tryz.func60,Tryz.ntmps60
 go_wp2_with (at_builtin;refine append_rowC rfl _ _ 26 rfl w.heap.size 44 i0 (.agg #[.int .i64 0, .string ByteArray.empty, .int .i64 0]) 32 Tryz.underlying26 hi hz0 hz1 hz2 (by decide) _ 0 [] rfl (own_nil_lit w) _ l rfl (HR.out.sub_al _) (by unfold maxLen;omega) (by omega) (by simp) ?_)
 intro v1 w1 hown1 hgrow1
 have HB1:=zz (((Below.refl w.heap.size w).alloc (Nat.le_refl _) (.cells #[] 44)).grown hgrow1 (by simp) (by simp [Value.ownBlock]))
 have HO1:=zz (show w1.ownsRow w.heap.size 44 3 v1 l.length (flatC l) by simpa using hown1)
 clear hown1 hgrow1
 have HZP:=zz (show∀c∈l.map plC,c.2.1.size≤1048576 by
  intro c hc
  obtain ⟨d,hd,rfl⟩:=List.mem_map.mp hc
  unfold plC
  split
  ·show (⟨#[48]⟩:ByteArray).size≤1048576
   decide
  ·exact HZ.out d hd)
 have hv1:(l=[]∧v1= .slice none 0 0)∨ ∃g cp,v1= .slice (some ⟨g,0,none⟩) l.length cp∧l.length≤cp∧cp≤maxLen:=by
  rcases HO1.out.2 with ⟨h1,h2⟩|⟨g,cp,cur,rfl,_,_,h3,h4,_⟩
  ·exact .inl ⟨List.length_eq_zero_iff.mp h2,h1⟩
  ·exact .inr ⟨g,cp,rfl,h3,h4⟩
 go_wp2_with fail
 go_loopw [4] (fun i wr=> ∃k:Nat,k≤l.length∧i= .int .i64 (k:Int)∧(l.take k).all vC=true∧wr.ownsRow w.heap.size 44 3 v1 l.length (flatC (plTo l k))∧Below w.heap.size w wr) (fun i _=>l.length-(intOf i).toNat)
 case atStart=>exact ⟨0,Nat.zero_le _,rfl,rfl,by rw [plTo_zero];exact HO1.out,HB1.out⟩
 case round=>
  obtain ⟨k,hk,rfl,hvc,hown,hb⟩:=hrel
  have HVC:=zz hvc;have HO:=zz hown;have HB:=zz hb
  clear hvc hown hb
  by_cases hlt:k<l.length
  ·obtain ⟨b,o,rfl,hbl,cc⟩:=H3.out.resolve_left (by rintro rfl;simp at hlt)
   obtain ⟨g,cp,rfl,hcp1,hcp2⟩:=hv1.resolve_left (by rintro ⟨h,-⟩;rw [h] at hlt;simp at hlt)
   unfold maxLen at hcp2
   obtain ⟨c0,c1,c2⟩:=cc k hlt
   have d0:wr.cell? ⟨b,o+k*3,none⟩=some (.int .i64 l[k].1):=(HB.out.cell (p:=⟨b,_,none⟩) hbl).trans c0
   have d1:wr.cell? ⟨b,o+k*3+1,none⟩=some (.string l[k].2.1):=(HB.out.cell (p:=⟨b,_,none⟩) hbl).trans c1
   have HZK:=zz (show l[k].2.1.size≤2097152 by have:=HZ.out _ (List.getElem_mem hlt);omega)
   have HT:=zz (vC_take hlt)
   have HST:=zz (okV_stop (l:=l) hlt)
   have HNUM:=zz (plTo_num l k hlt)
   have HOTH:=zz (plTo_oth l k hlt)
   have HVK:=zz (show vC l[k]=vC (l[k].1,l[k].2.1,l[k].2.2) from rfl)
   have HPA:=zz (plTo_at l k hlt)
   have HPL:=zz (plTo_len l k)
   have HFW:=zz (flatC_word (plTo l k) k (by rw [HPL.out];exact hlt) ⟨#[48]⟩)
   have HFW2:=zz (show l[k].1=1→(flatC (plTo l k)).set (k*3+1) (.string ⟨#[48]⟩)=flatC (plTo l (k+1)) from fun h1=>by rw [HFW.out,←HNUM.out h1,HPA.out])
   clear HFW HPA HNUM cc c0 c1 c2
   have hgbl:g≠b:=by have:=(HO.out.lt g rfl).1;omega
   have hbw:b<wr.heap.size:=by have:=HB.out.size;omega
   by_cases h1:l[k].1=1
   ·have HW2:=zz (HFW2.out h1)
    rw [h1] at d0
    have HVR:=zz (show vC l[k]=rdOK l[k].2.1 by rw [vC,if_pos h1])
    have HRF:=zz (fun w'=>readFraction_spec l[k].2.1 w' HZK.out)
    clear HFW2 HOTH HVK
    generalize l[k].2.1=ss at d1 HVR HRF HZK
    cases hrd:rdOK ss with
    |true=>
     have HN:=zz (show (l.take (k+1)).all vC=true by rw [HT.out,HVC.out,HVR.out,hrd];rfl)
     have HRD:=zz hrd
     clear hrd h1
     go_wp2_with fail
     refine (HRF.out _).mono ?_
     rintro e w2 ⟨rfl,hb2⟩
     rw [HRD.out]
     have hb3:=hb2.alloc hb2.size (.cells #[.int .i64 (rdT ss), .int .i64 (rdB ss)] 94)
     have HO3:=zz (own_belowT HO.out hb3)
     have HB3:=zz (HB.out.trans (hb3.mono HB.out.size))
     have S3:=zz (HO3.out.stored (k*3+1) (.string ⟨#[48]⟩))
     have z3:=HO3.out.frozenAt (k*3+1)
     obtain ⟨u3,g3⟩: ∃u,(w2.alloc (.cells #[.int .i64 (rdT ss), .int .i64 (rdB ss)] 94)).cell? ⟨g,k*3+1,none⟩=some u:=by
      rw [HO3.out.cellAt (k*3+1) (by omega),List.getElem?_eq_getElem (by have:=HO3.out.1;omega)];exact ⟨_,rfl⟩
     have HB4:=zz (HB3.out.setCell (p:=⟨g,k*3+1,none⟩) (HO.out.lt g rfl).1 (.string ⟨#[48]⟩))
     have e0:((w2.alloc (.cells #[.int .i64 (rdT ss), .int .i64 (rdB ss)] 94)).setCell ⟨g,k*3+1,none⟩ (.string ⟨#[48]⟩)).cell? ⟨b,o+k*3,none⟩=some (.int .i64 1):=by
      rw [HB4.out.cell (p:=⟨b,_,none⟩) hbl,←HB.out.cell (p:=⟨b,_,none⟩) hbl];exact d0
     have HO4:=zz (show _ from HW2.out▸S3.out.1)
     clear hb2 hb3 d0 d1 S3
     go_wp2
     go_roundw
     case rel=>exact ⟨k+1,by omega,by go_num,HN.out,HO4.out,HB4.out⟩
     case measure=>simp [intOf];omega
    |false=>
     have HN:=zz (HST.out (by rw [HVR.out,hrd]))
     have HRD:=zz hrd
     clear hrd h1
     go_wp2_with fail
     refine (HRF.out _).mono ?_
     rintro e w2 ⟨rfl,hb2⟩
     rw [HRD.out]
     have HB2:=zz (HB.out.trans ((hb2.alloc hb2.size (.cells #[.int .i64 (rdT ss), .int .i64 (rdB ss)] 94)).mono HB.out.size));clear hb2
     go_wp2
     go_ret
     exact ⟨ret_b HN.out.symm,HB2.out⟩
   ·have HO4:=zz (show wr.ownsRow w.heap.size 44 3 (.slice (some ⟨g,0,none⟩) l.length cp) l.length (flatC (plTo l (k+1))) by rw [←HOTH.out h1];exact HO.out)
    have HVR:=zz (show vC l[k]=(l[k].1==2||l[k].1==3||l[k].1==5) by rw [vC,if_neg h1])
    clear HFW2 HOTH HVK
    generalize l[k].1=kk at d0 HVR h1
    by_cases h2:kk=2
    ·subst h2
     have HN:=zz (show (l.take (k+1)).all vC=true by rw [HT.out,HVC.out,HVR.out];rfl)
     clear h1
     go_wp2
     go_roundw
     case rel=>exact ⟨k+1,by omega,by go_num,HN.out,HO4.out,HB.out⟩
     case measure=>simp [intOf];omega
    ·by_cases h3:kk=3
     ·subst h3
      have HN:=zz (show (l.take (k+1)).all vC=true by rw [HT.out,HVC.out,HVR.out];rfl)
      clear h1 h2
      go_wp2
      go_roundw
      case rel=>exact ⟨k+1,by omega,by go_num,HN.out,HO4.out,HB.out⟩
      case measure=>simp [intOf];omega
     ·by_cases h5:kk=5
      ·subst h5
       have HN:=zz (show (l.take (k+1)).all vC=true by rw [HT.out,HVC.out,HVR.out];rfl)
       clear h1 h2 h3
       go_wp2
       go_roundw
       case rel=>exact ⟨k+1,by omega,by go_num,HN.out,HO4.out,HB.out⟩
       case measure=>simp [intOf];omega
      ·have HN:=zz (HST.out (by rw [HVR.out];simp [h2,h3,h5]))
       have n1:(kk==1)=false:=beq_eq_false_iff_ne.mpr h1
       have n1':(kk !=1)=true:=bne_iff_ne.mpr h1
       have n2:(kk !=2)=true:=bne_iff_ne.mpr h2
       have n3:(kk !=3)=true:=bne_iff_ne.mpr h3
       have n5:(kk !=5)=true:=bne_iff_ne.mpr h5
       clear h1 h2 h3 h5
       go_wp2
       go_ret
       exact ⟨ret_b HN.out.symm,HB.out⟩
  ·obtain rfl:k=l.length:=by omega
   have HVA:=zz (show l.all vC=true by have:=HVC.out;rwa [List.take_of_length_le (Nat.le_refl _)] at this)
   have HO2:=zz (show wr.ownsRow w.heap.size 44 3 v1 l.length (flatC (l.map plC)) by have:=HO.out;rwa [plTo_all] at this)
   have HOK:=zz (show okV l=okE (l.map plC) by rw [okV,HVA.out];rfl)
   go_wp2_with fail
   refine (exprValid_spec _ (l.map plC) _ (RowC.of_own HO2.out).1 HZP.out (by rw [List.length_map];exact hl)).mono ?_
   rintro e w2 ⟨rfl,hb2⟩
   have HB2:=zz (HB.out.trans (hb2.mono HB.out.size));clear hb2
   go_wp2
   go_ret
   exact ⟨ret_b HOK.out.symm,HB2.out⟩
noncomputable def oneR (ls:List (List Cl)):List Cl:=if okV (listV ls)=true then listV ls else []
def NewCB (r:List Cl) (b:Bool) (w:World) (e:Ending) (w':World):Prop:=
 ∃v,e= .returned (.tuple #[v, .bool b])∧w'.ownsRow w.heap.size 44 3 v r.length (flatC r)∧Below w.heap.size w w'
theorem NewCB.none (w w':World) (hb:Below w.heap.size w w'):NewCB [] false w (.returned (.tuple #[.slice (some ⟨w'.heap.size,0,none⟩) 0 0, .bool false])) (w'.alloc (.cells #[] 44)):=
 ⟨_,rfl,World.ownsRow_lit (e:=44) (size:=3) (base:=w.heap.size) w' #[] 0 hb.size (by unfold maxLen;omega) rfl,hb.alloc hb.size _⟩
theorem short_listV {ls:List (List Cl)} (h: ∀l∈ls,ShortC l):ShortC (listV ls):=by
 intro c hc
 rcases List.mem_cons.mp hc with rfl|hc
 ·show (⟨#[]⟩:ByteArray).size≤1048576
  decide
 ·obtain ⟨p,hp,hcp⟩:=List.mem_flatten.mp hc
  exact h p hp c hcp
theorem okV_short {l:List Cl} (h:okV l=true):ShortC l:=fun c hc=>by
 have:=((okV_iff l).mp h).2.1
 rw [List.all_eq_true] at this
 have:=okW_size (okVC_W (this c hc))
 omega
theorem listV_len (ls:List (List Cl)):(listV ls).length=1+lenSS ls:=by simp [listV,lenSS];omega
theorem l8List_any (v:Value) (ls:List (List Cl)) (w:World) (hr:RowLs w v ls) (hz: ∀l∈ls,ShortC l) (hl:ls.length+lenSS ls≤1048576):
  Calls Tryz.prog 72 #[v] w (NewCB (oneR ls) (okV (listV ls)) w):=by
 obtain ⟨i0,hi,hz0,hz1,hz2⟩:=info_parts infoC
 have HZ:=zz (short_listV hz)
 have HLV:=zz (show listV ls=[((5:Int),(⟨#[]⟩:ByteArray),(ls.length:Int))]++ls.flatten from rfl)
 have hll:(listV ls).length≤1048576:=by
  rw [listV_len]
  cases ls with
  |nil=>simp [lenSS]
  |cons a t=>simp only [List.length_cons] at hl;omega
 have HLL:=zz hll
 obtain ⟨ao,cap,rfl,h1,h2,h3⟩:=hr
 unfold maxLen at h2
 have H3:=zz h3
 have O0:=zz (show (w.alloc (.cells #[.int .i64 5, .string ⟨#[]⟩, .int .i64 (ls.length:Int)] 44)).ownsRow w.heap.size 44 3 (.slice (some ⟨w.heap.size,0,none⟩) 1 1) ([((5:Int),(⟨#[]⟩:ByteArray),(ls.length:Int))]++(ls.take 0).flatten).length (flatC ([((5:Int),(⟨#[]⟩:ByteArray),(ls.length:Int))]++(ls.take 0).flatten)) by
  have h:=World.ownsRow_lit (e:=44) (size:=3) (base:=w.heap.size) w #[.int .i64 5, .string ⟨#[]⟩, .int .i64 (ls.length:Int)] 1 (Nat.le_refl _) (by unfold maxLen;omega) rfl
  simpa [flatC] using h)
 have B0:=zz (show Below w.heap.size w (w.alloc (.cells #[.int .i64 5, .string ⟨#[]⟩, .int .i64 (ls.length:Int)] 44)) from (Below.refl w.heap.size w).alloc (Nat.le_refl _) _)
 clear h3 hz hll
 go_enter Tryz.func72,Tryz.ntmps72
 go_wp2_with fail
 go_loopw [4,5] (fun a i wr=> ∃k:Nat,k≤ls.length∧i= .int .i64 (k:Int)∧wr.ownsRow w.heap.size 44 3 a ([((5:Int),(⟨#[]⟩:ByteArray),(ls.length:Int))]++(ls.take k).flatten).length (flatC ([((5:Int),(⟨#[]⟩:ByteArray),(ls.length:Int))]++(ls.take k).flatten))∧Below w.heap.size w wr) (fun _ i _=>ls.length-(intOf i).toNat)
 case atStart=>exact ⟨0,Nat.zero_le _,rfl,O0.out,B0.out⟩
 case round=>
  obtain ⟨k,hk,rfl,hown,hb⟩:=hrel
  have HO:=zz hown;have HB:=zz hb
  clear hown hb
  by_cases hlt:k<ls.length
  ·obtain ⟨b,o,rfl,hbl,cc⟩:=H3.out.resolve_left (by rintro rfl;simp at hlt)
   obtain ⟨u,c0,hru⟩:=cc k hlt
   have d0:wr.cell? ⟨b,o+k,none⟩=some u:=(HB.out.cell (p:=⟨b,_,none⟩) hbl).trans c0
   have HRU:=zz (hru.mono HB.out)
   have hfl:(ls.take (k+1)).flatten=(ls.take k).flatten++ls[k]:=by
    rw [List.take_succ_eq_append_getElem hlt,List.flatten_append];simp
   have hle:([((5:Int),(⟨#[]⟩:ByteArray),(ls.length:Int))]++(ls.take k).flatten).length+ls[k].length≤1048577:=by
    have h4:=lenSS_take ls k hlt
    have h5:=lenSS_le ls (k+1)
    simp only [lenSS] at h4 h5 hl
    simp only [List.length_append,List.length_cons,List.length_nil];omega
   have HNX:=zz (show∀(w':World) (v':Value),w'.ownsRow w.heap.size 44 3 v' (([((5:Int),(⟨#[]⟩:ByteArray),(ls.length:Int))]++(ls.take k).flatten).length+ls[k].length) (flatC ([((5:Int),(⟨#[]⟩:ByteArray),(ls.length:Int))]++(ls.take k).flatten)++flatC ls[k])→
     w'.ownsRow w.heap.size 44 3 v' ([((5:Int),(⟨#[]⟩:ByteArray),(ls.length:Int))]++(ls.take (k+1)).flatten).length (flatC ([((5:Int),(⟨#[]⟩:ByteArray),(ls.length:Int))]++(ls.take (k+1)).flatten)) from fun w' v' h=>by
    rw [hfl,←List.append_assoc,flatC_append,List.length_append];exact h)
   generalize ([((5:Int),(⟨#[]⟩:ByteArray),(ls.length:Int))]++(ls.take k).flatten)=acc at HO HNX hle
   generalize ls[k]=sub at HRU HNX hle
   have hbw:w.heap.size≤wr.heap.size:=HB.out.size
   clear cc c0 hru hfl
   go_wp2_with (at_builtin;refine append_rowC rfl _ _ 26 rfl w.heap.size 44 i0 (.agg #[.int .i64 0, .string ByteArray.empty, .int .i64 0]) 32 Tryz.underlying26 hi hz0 hz1 hz2 (by decide) _ acc.length (flatC acc) rfl HO.out u sub rfl HRU.out (by unfold maxLen;omega) (by omega) hbw ?_;intro v2 w2 hown2 hgrow2;have HO2:=zz (HNX.out w2 v2 hown2);have HB2:=zz (HB.out.grown hgrow2 hbw (fun x hx=>(HO.out.lt x hx).1));clear hown2 hgrow2)
   go_roundw
   case rel=>exact ⟨k+1,by omega,by go_num,HO2.out,HB2.out⟩
   case measure=>simp [intOf];omega
  ·obtain rfl:k=ls.length:=by omega
   have HO2:=zz (show wr.ownsRow w.heap.size 44 3 _ (listV ls).length (flatC (listV ls)) by
    have h:=HO.out
    rw [List.take_of_length_le (Nat.le_refl _)] at h
    rw [HLV.out];exact h)
   clear HO
   cases hok:okV (listV ls) with
   |true=>
    have HOK:=zz hok;clear hok
    go_wp2_with fail
    refine (valueValid_spec _ (listV ls) _ (RowC.of_own HO2.out).1 HZ.out HLL.out).mono ?_
    rintro e w2 ⟨rfl,hb2⟩
    rw [HOK.out]
    have HO3:=zz (own_belowS HO2.out hb2)
    have HB2:=zz (HB.out.trans (hb2.mono HB.out.size));clear hb2
    have HR1:=zz (show oneR ls=listV ls by rw [oneR,if_pos HOK.out])
    go_wp2
    exact bodyPost_ret (v:= .tuple #[_, .bool true]) (by simp [results,Tryz.results72,go_sem];rfl) rfl ⟨_,by rw [HOK.out],by rw [HR1.out];exact HO3.out,HB2.out⟩
   |false=>
    have HOK:=zz hok;clear hok
    go_wp2_with fail
    refine (valueValid_spec _ (listV ls) _ (RowC.of_own HO2.out).1 HZ.out HLL.out).mono ?_
    rintro e w2 ⟨rfl,hb2⟩
    rw [HOK.out]
    have HB2:=zz (HB.out.trans (hb2.mono HB.out.size));clear hb2
    have HR1:=zz (show oneR ls=[] by rw [oneR,if_neg (by rw [HOK.out];decide)])
    go_wp2
    exact bodyPost_ret (v:= .tuple #[.slice (some ⟨w2.heap.size,0,none⟩) 0 0, .bool false]) (by simp [results,Tryz.results72,go_sem]) rfl (by rw [HR1.out,HOK.out];exact NewCB.none _ _ HB2.out)
theorem infoCS:(Tryz.prog.info? 26).map (fun i=>(i.zero,i.size,i.bytes))=some (some (.slice none 0 0),1,24):=by kernel_rfl
theorem step_append_rowC {P:Program} {w:World} {ops:Array Oper} {o:Oper} {a:Act} {K:Act→World→Prop} {Q:Exit→Act→World→Prop} {E:Prop} (hgd:o.guard=none) (s x:Operand) (t:TypeId)
  (ho:o.op= .call {callee:= .builtin .append,args:= #[s,x],argTypes:= #[t,t]})
  (base:Nat) (e:TypeId) (i:TypeInfo) (z:Value) (bytes:Nat) (ht:P.underlying t=some (.slice e)) (hi:P.info? e=some i) (hz:i.zero=some z)
  (hsize:i.size=3) (hby:i.bytes=bytes) (hzs:z.cells.size=3)
  (v:Value) (n:Nat) (xs:List Value) (hs:a.eval s=v) (hown:w.ownsRow base e 3 v n xs)
  (u:Value) (ys:List Cl) (hx:a.eval x=u) (hsrc:RowC w u ys)
  (h63:n+ys.length≤maxLen) (hbytes:(n+ys.length)*bytes≤140737488355328) (hbase:base≤w.heap.size)
  (h: ∀v' w',w'.ownsRow base e 3 v' (n+ys.length) (xs++flatC ys)→w.grownBy w' v.ownBlock→K (a.put o.dst v') w'):
  if Region.wanted o (yielded ops a.tmps)=true then Oper.wp P o a w K Q else E:=by
 have hw:Region.wanted o (yielded ops a.tmps)=true:=by simp [Region.wanted,hgd]
 rw [if_pos hw]
 obtain ⟨ao,cap,rfl,h1,h2,h3⟩:=hsrc
 cases ao with
 |none=>
  have hy:ys=[]:=by
   rcases h3 with h3|⟨b,o',hc,-⟩
   ·exact h3
   ·cases hc
  subst hy
  have hrun:=run_append_nothing (P:=P) (w:=w) base t o.type e i 3 ht hi v n xs hown cap
  unfold Oper.wp
  simp only [List.length_nil] at hx
  simp [execOp,ho,resolve,invoke,builtin,hs,hx,hrun,Result.andThen]
  exact h v w (by simpa [flatC] using hown) (World.grownBy.refl _ _)
 |some ad=>
  refine wp_append_own w s x t ho base e i z 3 bytes ht hi hz hsize hby hzs (by decide) v n xs hs hown ad ys.length cap (flatC ys) hx (flatC_length ys) ?_ (flatC_one ys) h63 hbytes hbase (fun v' w' a1 a2 _=>h v' w' a1 a2)
  intro j y hj
  rcases h3 with rfl|⟨b,o',hc,hbl,cc⟩
  ·simp [flatC] at hj
  ·injection hc with hc
   subst hc
   exact newsC cc j y hj
theorem drewP (w:World):Below w.heap.size w w.drew:=⟨rfl,rfl,rfl,Nat.le_refl _,fun _ _=>rfl⟩
theorem cell_blockP {w w':World} {b:Nat} (h:w'.heap[b]? =w.heap[b]?) {o:Nat}:w'.cell? ⟨b,o,none⟩=w.cell? ⟨b,o,none⟩:=by
 simp only [World.cell?,h]
theorem l8Parts_any (v:Value) (l:List Cl) (w:World) (hr:RowC w v l) (hz:ShortC l) (h60:l.length≤60) (hok:l.all okM=true) (m t d:Nat) (hm:(amL l)[0]? =some m) (hx:Exs (amL l) m 1 t d):
  Calls Tryz.prog 98 #[v, .int .i64 0] w (NewSS (cutL l 1 m) w):=by
 obtain ⟨i0,hi,hz0,hz1,hz2⟩:=info_parts infoC
 obtain ⟨j0,hj,hy0,hy1,hy2⟩:=info_parts infoCS
 have HR:=zz hr;have HM:=zz hm;have HX:=zz hx;have HOK:=zz hok
 have HCUT:=zz (cutL_at hx)
 have hcl:=cutL_length l m 1
 have hm8:m≤60:=by
  have:=hx.le;rw [amL_length] at this
  by_cases h0:m=0
  ·omega
  ·have:=this.2 h0;omega
 obtain ⟨ao,cap,rfl,h1,h2,h3⟩:=hr
 unfold maxLen at h2
 have hocc:=h3
 clear h3 hz hm hx hok
 have HOCC:=zz hocc
 clear hocc
 go_enter Tryz.func98,Tryz.ntmps98
 go_wp2_with fail
 refine (l5Kids_any _ l 0 m t d _ (HR.out.al _) h60 HOK.out HM.out HX.out).mono ?_
 rintro e w2 ⟨v2,rfl,ho2,hb2⟩
 obtain ⟨r2,hkl⟩:=RowI.of_own ho2
 have hlit:OwnSS w2 w.heap.size (.slice (some ⟨w.heap.size,0,none⟩) 0 0) [] []:=by
  refine ⟨?_,rfl,fun k h=>by simp at h,fun k h=>by simp at h,fun i j h=>by simp at h⟩
  have h0:=World.ownsRow_lit (e:=26) (size:=1) (base:=w.heap.size) w #[] 0 (Nat.le_refl _) (by unfold maxLen;omega) rfl
  exact own_belowS (v:= .slice (some ⟨w.heap.size,0,none⟩) 0 0) (n:=0) (xs:=[]) h0 hb2
 have HLIT:=zz hlit
 have HB2:=zz (((Below.refl w.heap.size w).alloc (Nat.le_refl _) (.cells #[] 26)).trans (hb2.mono (by simp)))
 have hs2:w.heap.size+1≤w2.heap.size:=by have:=hb2.size;simpa using this
 have hk2:(kidsL (amL l) 1 m=[])∨ ∃b2 cap2,v2= .slice (some ⟨b2,0,none⟩) m cap2∧m≤cap2∧cap2≤maxLen∧w.heap.size<b2∧b2<w2.heap.size∧ ∀k (h:k<(kidsL (amL l) 1 m).length),w2.cell? ⟨b2,k,none⟩=some (.int .i64 ((kidsL (amL l) 1 m)[k]:Int)):=by
  obtain ⟨ao2,cap2,rfl,q1,q2,q3⟩:=r2
  rcases q3 with q3|⟨b2,rfl,q4,q5⟩
  ·exact .inl q3
  ·refine .inr ⟨b2,cap2,by rw [kidsL_length],by rw [kidsL_length] at q1;exact q1,q2, ?_,q4,q5⟩
   have:=(ho2.lt b2 rfl).1
   simp at this;omega
 have hv2: ∃ao2 cap2,v2= .slice ao2 m cap2:=by
  obtain ⟨ao2,cap2,rfl,-⟩:=r2
  exact ⟨ao2,cap2,by rw [kidsL_length]⟩
 have HK2:=zz hk2
 obtain ⟨ao2,cap2,rfl⟩:=hv2
 clear hk2 hlit r2 ho2 hb2 hkl
 go_wp2_with fail
 go_loopw [5,7] (fun a i wr=> ∃(k:Nat) (us:List Value),k≤m∧i= .int .i64 (k:Int)∧OwnSS wr w.heap.size a us ((cutL l 1 m).take k)∧Below w.heap.size w wr∧w2.heap.size≤wr.heap.size∧(∀b,b≠w.heap.size→b<w2.heap.size→wr.heap[b]? =w2.heap[b]?)∧(∀g,a.ownBlock=some g→g=w.heap.size∨w2.heap.size≤g)) (fun _ i _=>m-(intOf i).toNat)
 case atStart=>exact ⟨0,[],Nat.zero_le _,rfl,by rw [List.take_zero];exact HLIT.out,HB2.out,Nat.le_refl _,fun _ _ _=>rfl,fun g hg=> .inl (by simpa [Value.ownBlock] using hg.symm)⟩
 case round=>
  obtain ⟨k,us,hk,rfl,hown,hb,hsz,hkeep,hgg⟩:=hrel
  have HO:=zz hown;have HB:=zz hb;have HKP:=zz hkeep;have HGG:=zz hgg
  clear hown hb hkeep hgg
  by_cases hlt:k<m
  ·obtain ⟨b2,cap2',hv2,hc2,hc3,hbl2,hbs2,cc2⟩:=HK2.out.resolve_left (by intro h;have:=congrArg List.length h;rw [kidsL_length] at this;simp at this;omega)
   simp only [Value.slice.injEq] at hv2
   obtain ⟨rfl,-,rfl⟩:=hv2
   unfold maxLen at hc3
   obtain ⟨g,g',e1,a1,a2,a3,a4,a5⟩:=HCUT.out k hlt
   have hkk:k<(kidsL (amL l) 1 m).length:=by rw [kidsL_length];exact hlt
   have d0:wr.cell? ⟨b2,k,none⟩=some (.int .i64 (g:Int)):=by
    rw [cell_blockP (HKP.out b2 (by omega) hbs2),cc2 k hkk]
    rw [List.getElem?_eq_getElem hkk,Option.some.injEq] at a1
    rw [a1]
   have hle:=a2.le
   have hgl:=hle.2 (by omega)
   rw [amL_length] at hgl
   have HEI:=zz a2.endI
   have hgt:g≤g':=by omega
   have hlt3:g<l.length:=by omega
   obtain ⟨bb,oo,rfl,hbl,-⟩:=HOCC.out.resolve_left (by rintro rfl;simp at hlt3)
   have HRW:=zz (HR.out.mono HB.out)
   have HSUB:=zz (HRW.out.sub g g' hgt (by omega))
   have hbw2:b2<wr.heap.size:=by omega
   have bk0:(0:Int)≤(k:Int):=by omega
   have bk1:(k:Int)<(m:Int):=by omega
   have HEND:=zz (show∀w',RowC w' (.slice (some ⟨bb,oo,none⟩) l.length cap) l→Calls Tryz.prog 57 #[.slice (some ⟨bb,oo,none⟩) l.length cap, .int .i64 (g:Int)] w' fun e w''=>e= .returned (.int .i64 (g':Int))∧w'=w'' from fun w' h=>by
    have:=l5End_any _ l g w' h h60 HOK.out (by omega)
    rw [HEI.out] at this;exact this)
   clear cc2 a1 a2
   have hcg: ¬cap=g:=by omega
   have hg0:(0:Int)≤(g:Int):=by omega
   have hg1:(g:Int)≤(g':Int):=by omega
   have hg2:(g':Int)≤(cap:Int):=by omega
   go_wp2_with fail
   have hcl2:((l.take g').drop g).length≤60:=by rw [List.length_drop,List.length_take];omega
   have hlk:((cutL l 1 m).take k).length=k:=by rw [List.length_take,hcl];omega
   have HTK:=zz (show (cutL l 1 m).take (k+1)=(cutL l 1 m).take k++[(l.take g').drop g] by
    rw [List.take_add_one,a5,List.drop_take];rfl)
   have hOR:=HO.out.row
   rw [hlk] at hOR
   obtain ⟨aa,ac,rfl⟩:=own_shape hOR
   have HOR:=zz hOR
   generalize (l.take g').drop g=sub at HSUB HTK hcl2
   have hbw:w.heap.size≤wr.heap.size:=HB.out.size
   have HLK:=zz hlk
   clear a5 hOR hlk
   go_region_law
    ((first
     |(refine step_append_rowC (by rfl) _ _ _ (by rfl) wr.heap.size 44 i0 (.agg #[.int .i64 0, .string ByteArray.empty, .int .i64 0]) 32 Tryz.underlying26 hi hz0 hz1 hz2 (by decide) _ 0 [] (by rfl) (World.ownsRow_lit (e:=44) (size:=3) (base:=wr.heap.size) _ #[] 0 (Nat.le_refl _) (by unfold maxLen;omega) rfl) _ sub (by rfl) ((HSUB.out.mono (drewP wr)).sub_al _) (by unfold maxLen;omega) (by omega) (by simp) ?_;intro v5 w5 hown5 hgrow5;replace hown5:w5.ownsRow wr.heap.size 44 3 v5 sub.length (flatC sub):=(by simpa using hown5);obtain ⟨a5,c5,rfl⟩:=own_shape hown5;have hb5:=((drewP wr).alloc (Nat.le_refl _) (.cells #[] 44)).grown hgrow5 (by simp) (by simp [Value.ownBlock]);have hs5:=hb5.size;have hown6:=own_keep HOR.out (fun x hx=>hb5.block x (HOR.out.lt x hx).2))
     |(refine step_append_lies _ (by rfl) _ _ _ (by rfl) w.heap.size 26 j0 (.slice none 0 0) 1 24 Tryz.underlying99 hj hy0 hy1 hy2 rfl (by decide) (.slice aa k ac) k us (by rfl) (hown6.alloc _) ⟨w5.heap.size,0,none⟩ 1 1 [.slice a5 sub.length c5] (by rfl) rfl (World.news_of_block (heap_alloc_new w5 _)) (by simp [Value.oneCell']) (by omega) (by unfold maxLen;omega) (by omega) (by simp;omega) (w5.heap.size+1) (by simp) ?_;intro gg cap' w6 hown' hgrow hat hlt')
     |(go_simp;go_wp2_with (go_at_call 57;((with_reducible refine (HEND.out _ ?_).mono ?_);(focus (first|exact HRW.out.mono (drewP wr)|exact (HRW.out.mono (drewP wr)).sub_al _));rintro e w' ⟨rfl,rfl⟩)))))
   all_goals
    have HN:=zz (HO.out.push (gg:=gg) hb5 hown5 _ hgrow (show w6.ownsRow w.heap.size 26 1 _ (((cutL l 1 m).take k).length+1) _ by rw [HLK.out];exact hown') rfl hat hbw)
    have HB6:=zz (((HB.out.trans (hb5.mono hbw)).alloc (by omega) (.cells #[.slice a5 sub.length c5] 26)).grown hgrow (by simp;omega) (fun x hx=>(HOR.out.lt x hx).1))
    have hs6:w2.heap.size≤w6.heap.size:=by have:=hgrow.size;simp at this;omega
    have HK6:=zz (show∀b,b≠w.heap.size→b<w2.heap.size→w6.heap[b]? =w2.heap[b]? from fun b hb1 hb2=>by
     rw [hgrow.block b (by simp;omega) (fun e=>by have:=HGG.out b e.symm;omega),Below.heap_alloc _ _ _ (by omega),hb5.block b (by omega),HKP.out b hb1 hb2])
    have HG6:=zz (show∀x,(Value.slice (some ⟨gg,0,none⟩) (k+1) cap').ownBlock=some x→x=w.heap.size∨w2.heap.size≤x from fun x hx=>by
     have hx':gg=x:=by simpa [Value.ownBlock] using hx
     subst hx'
     rcases hat with hat|hat
     ·exact HGG.out _ hat
     ·right;omega)
    clear hown5 hgrow hown' hat hb5 hown6 hgrow5
    go_wp2
    go_roundw
    case rel=>exact ⟨k+1,us++[.slice a5 sub.length c5],by omega,by go_num,by rw [HTK.out];exact HN.out,HB6.out,hs6,HK6.out,HG6.out⟩
    case measure=>simp [intOf];omega
  ·obtain rfl:k=m:=by omega
   have HA:=zz (show (cutL l 1 k).take k=cutL l 1 k from List.take_of_length_le (by rw [hcl];exact Nat.le_refl _))
   go_wp2
   go_ret
   exact ⟨_,us,rfl,by have:=HO.out;rwa [HA.out] at this,HB.out⟩
end Go.Proofs.YthillfgjpalpcaaGreatDoor
