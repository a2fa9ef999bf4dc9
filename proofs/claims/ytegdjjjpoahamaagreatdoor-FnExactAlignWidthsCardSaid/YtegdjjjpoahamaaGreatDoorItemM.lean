/-
  laws.markItemS and heldItemS: what is marked, and that it is found again.
-/
import Derived.Test.YtegdjjjpoahamaaGreatDoorItemT
import Derived.Test.YtegdjjjpoahamaaGreatDoorMarkC
set_option linter.unusedVariables false
set_option maxHeartbeats 8000000
set_option maxRecDepth 100000
namespace Go.Proofs.YtegdjjjpoahamaaGreatDoor
open Go.RowKit
def mkI (q:Nat) (i:It):It:=((q:Int),markB (q+1),marksC (q+2) i.2.2.1.length,markB (q+2+i.2.2.1.length*3))
def stepI (i:It):Nat:=3+i.2.2.1.length*3
def marksI:Nat→List It→List It
 |_,[]=>[]
 |q,i::l=>mkI q i::marksI (q+stepI i) l
def spanI (l:List It):Nat:=l.length*3+lenI l*3
theorem spanI_take (l:List It) (k:Nat) (h:k<l.length):spanI (l.take (k+1))=spanI (l.take k)+stepI l[k]:=by
 unfold spanI stepI
 rw [lenI_take l k h,List.length_take,List.length_take,Nat.min_eq_left (by omega),Nat.min_eq_left (by omega)]
 omega
theorem marksI_length: ∀(l:List It) (q:Nat),(marksI q l).length=l.length:=by
 intro l
 induction l with
 |nil=>intro q;rfl
 |cons i l ih=>intro q;simp only [marksI,List.length_cons];rw [ih]
theorem marksI_app: ∀(a b:List It) (q:Nat),marksI q (a++b)=marksI q a++marksI (q+spanI a) b:=by
 intro a
 induction a with
 |nil=>intro b q;rfl
 |cons i a ih=>
  intro b q
  simp only [List.cons_append,marksI]
  rw [ih,show q+stepI i+spanI a=q+spanI (i::a) by unfold spanI stepI lenI;simp only [List.map_cons,List.sum_cons,List.length_cons];omega]
theorem marksI_take (l:List It) (q k:Nat) (h:k<l.length):marksI q (l.take (k+1))=marksI q (l.take k)++[mkI (q+spanI (l.take k)) l[k]]:=by
 rw [List.take_succ_eq_append_getElem h,marksI_app];rfl
theorem marksI_at (l:List It) (q k:Nat) (h:k<l.length):(marksI q l)[k]'(by rw [marksI_length];exact h)=mkI (q+spanI (l.take k)) l[k]:=by
 have e:marksI q l=marksI q (l.take k)++marksI (q+spanI (l.take k)) (l.drop k):=by rw [←marksI_app,List.take_append_drop]
 have e2:l.drop k=l[k]::l.drop (k+1):=List.drop_eq_getElem_cons h
 have hl:(marksI q (l.take k)).length=k:=by rw [marksI_length,List.length_take];omega
 have:(marksI q l)[k]? =some (mkI (q+spanI (l.take k)) l[k]):=by
  rw [e,List.getElem?_append_right (by omega),hl,Nat.sub_self,e2];rfl
 rw [List.getElem?_eq_getElem (by rw [marksI_length];exact h)] at this
 exact Option.some.inj this
structure MarkFI (base:Nat) (v:Value) (us:List Value) (w w':World):Prop where
 below:Below base w w'
 size:w.heap.size≤w'.heap.size
 rest: ∀b,b<w.heap.size→v.ownBlock≠some b→(∀u∈us,u.ownBlock≠some b)→w'.heap[b]? =w.heap[b]?
theorem MarkFI.refl (base:Nat) (v:Value) (us:List Value) (w:World):MarkFI base v us w w:=⟨Below.refl _ _,Nat.le_refl _,fun _ _ _ _=>rfl⟩
theorem MarkFI.next {base:Nat} {v:Value} {us:List Value} {w w' w2:World} (h:MarkFI base v us w w') {u:Value} (hg:w'.grownBy w2 u.ownBlock) (hu:u∈us) (hb: ∀x,u.ownBlock=some x→base≤x) (hB:base≤w.heap.size):MarkFI base v us w w2:=
 ⟨h.below.grown hg (Nat.le_trans hB h.size) hb,Nat.le_trans h.size hg.size,fun b hlt hv hb=>by rw [hg.block b (by have:=h.size;omega) (fun e=>hb u hu e.symm),h.rest b hlt hv hb]⟩
theorem MarkFI.more {base:Nat} {v:Value} {us:List Value} {w w' w2:World} (h:MarkFI base v us w w') (hb:Below w'.heap.size w' w2) (hB:base≤w.heap.size):MarkFI base v us w w2:=
 ⟨h.below.trans (hb.mono (Nat.le_trans hB h.size)),Nat.le_trans h.size hb.size,fun b hlt hv h2=>by rw [hb.block b (by have:=h.size;omega),h.rest b hlt hv h2]⟩
theorem MarkFI.cell {base g c n:Nat} {us:List Value} {w w':World} (h:MarkFI base (.slice (some ⟨g,0,none⟩) n c) us w w') (hg:base≤g) (j:Nat) (x:Value):MarkFI base (.slice (some ⟨g,0,none⟩) n c) us w (w'.setCell ⟨g,j,none⟩ x):=
 ⟨h.below.setCell hg _,by have:=h.size;simpa [World.setCell] using this,fun b hlt hv h2=>by
  rw [Below.heap_setCell _ _ _ _ (show b≠g from fun e=>hv (by rw [e];rfl)),h.rest b hlt hv h2]⟩
theorem set_mid {A B:List It} {i x:It} {k:Nat} (h:A.length=k):(A++i::B).set k x=A++x::B:=by
 rw [List.set_append_right _ _ (by omega),h,Nat.sub_self];rfl
theorem get_mid {A B:List It} {i:It} {k:Nat} (h:A.length=k) (hk:k<(A++i::B).length):(A++i::B)[k]=i:=by
 rw [List.getElem_append_right (by omega)]
 simp [h]
theorem markItemS_any (base m:Nat) (v:Value) (us:List Value) (l:List It) (w:World) (hm:m≤10000000) (hn:lenI l≤1048576) (hc:l.length≤1048576) (hB:base≤w.heap.size) (hown:OwnI w base v us l):
  Calls Tryz.prog 35 #[v, .int .i64 (m:Int)] w fun e w'=>e= .returned (.int .i64 ((m+spanI l:Nat):Int))∧OwnI w' base v us (marksI m l)∧MarkFI base v us w w':=by
 have hsh:=own_shape hown.row
 obtain ⟨aa,ac,rfl⟩:=hsh
 have hcap:ac≤2^63-1:=by
  rcases hown.row.2 with ⟨h1,h2⟩|⟨g,cap,cur,h1,_,_,_,h4,_⟩
  ·injection h1 with _ _ h3;omega
  ·injection h1 with _ _ h3;unfold maxLen at h4;omega
 have HO:=Lib.hid hown
 have HUL:=Lib.hid hown.len
 clear hown
 go_enter Tryz.func35,Tryz.ntmps35
 go_wp2
 go_loopw [1,5] (fun a i wr=> ∃(k q:Nat),k≤l.length∧i= .int .i64 (k:Int)∧a= .int .i64 (q:Int)∧q=m+spanI (l.take k)∧OwnI wr base (.slice aa l.length ac) us (marksI m (l.take k)++l.drop k)∧MarkFI base (.slice aa l.length ac) us w wr) (fun _ i _=>l.length-(intOf i).toNat)
 case atStart=>exact ⟨0,m,Nat.zero_le _,rfl,rfl,by simp [spanI,lenI],by simpa [marksI] using HO.out,MarkFI.refl _ _ _ _⟩
 case round=>
  obtain ⟨k,q,hk,rfl,rfl,hq,hown,hf⟩:=hrel
  have HF:=Lib.hid hf;have HQ:=Lib.hid hq
  have hbq:=lenI_le l k
  have hq1:q≤20000000:=by rw [hq];unfold spanI;rw [List.length_take];omega
  clear hf hq
  by_cases hlt:k<l.length
  ·rw [List.drop_eq_getElem_cons hlt] at hown
   have hA:(marksI m (l.take k)).length=k:=by rw [marksI_length,List.length_take];omega
   have HNXT:=Lib.hid (show marksI m (l.take k)++mkI q l[k]::l.drop (k+1)=marksI m (l.take (k+1))++l.drop (k+1) by
    rw [marksI_take l m k hlt,←HQ.out,List.append_assoc];rfl)
   have HSP:=Lib.hid (spanI_take l k hlt)
   have hln:=lenI_in l k hlt
   have hlt2:=lenI_take l k hlt
   have hlen:(marksI m (l.take k)++l[k]::l.drop (k+1)).length=l.length:=by rw [List.length_append,hA,List.length_cons,List.length_drop];omega
   have HMK:=Lib.hid (show mkI q l[k]=((q:Int),markB (q+1),marksC (q+2) l[k].2.2.1.length,markB (q+2+l[k].2.2.1.length*3)) from rfl)
   have HST:=Lib.hid (show stepI l[k]=3+l[k].2.2.1.length*3 from rfl)
   generalize marksI m (l.take k)=A at hown hA HNXT hlen
   generalize hBd:l.drop (k+1)=B at hown HNXT hlen
   have HBD:=Lib.hid hBd;clear hBd
   generalize l[k]=it at*
   obtain ⟨ik,inm,ics,int⟩:=it
   simp only at hln hlt2 HMK HST
   have hku:k<us.length:=by rw [HUL.out];exact hlt
   have HOR:=Lib.hid hown
   clear hown
   obtain ⟨g,rfl⟩: ∃g,aa=some ⟨g,0,none⟩:=by
    rcases HOR.out.row.2 with ⟨h1,h2⟩|⟨g,cap,cur,h1,_⟩
    ·omega
    ·injection h1 with h1 _ _;exact ⟨g,h1⟩
   have hrowF: ∀(ww:World) (L:List It),L.length=l.length→OwnI ww base (.slice (some ⟨g,0,none⟩) l.length ac) us L→base≤g∧(∀j,j<l.length*4→(∃u,ww.cell? ⟨g,j,none⟩=some u)∧ww.frozen? ⟨g,j,none⟩=false)∧ww.cell? ⟨g,k*4+2,none⟩=some us[k]:=by
    intro ww L hL ho
    have hr:=ho.row
    rw [←hL] at hr
    refine ⟨(hr.lt g rfl).1,fun j hj=>⟨?_,hr.frozenAt j⟩, ?_⟩
    ·have h1:j<(itF L us).length:=by rw [itF_length _ _ (by rw [hL];exact HUL.out.symm)];omega
     rw [hr.cellAt j (by rw [hL];exact hj),List.getElem?_eq_getElem h1];exact ⟨_,rfl⟩
    ·have h2:=(itF_at L us (by rw [hL];exact HUL.out.symm) k (by omega) hku).2.2.1
     rw [hr.cellAt _ (by omega)];exact h2
   have RF:=Lib.hid hrowF;clear hrowF
   obtain ⟨hgb,hcs,-⟩:=RF.out _ _ hlen HOR.out
   obtain ⟨⟨c0,d0⟩,z0⟩:=hcs (k*4) (by omega)
   have HO1:=Lib.hid (HOR.out.setKind hlen.symm k (by omega) (q:Int))
   rw [get_mid hA (by omega),set_mid hA] at HO1
   have HF1:=Lib.hid (HF.out.cell hgb (k*4) (.int .i64 (q:Int)))
   have hq2:((q+1:Nat):Int)=(q:Int)+1:=by omega
   have HT1:=Lib.hid (fun w'=>markText_any (q+1) w' (by omega))
   rw [hq2] at HT1
   clear hcs hq2
   go_wp2_with fail
   refine (HT1.out _).mono ?_
   rintro e w1 ⟨rfl,hb1⟩
   have HO2:=Lib.hid (HO1.out.below hb1)
   have HF2:=Lib.hid (HF1.out.more hb1 hB)
   obtain ⟨-,hcs,-⟩:=RF.out _ _ (by rw [List.length_append,hA,List.length_cons] at hlen⊢;exact hlen) HO2.out
   obtain ⟨⟨c1,d1⟩,z1⟩:=hcs (k*4+1) (by omega)
   have HO3:=Lib.hid (HO2.out.setName (by rw [List.length_append,hA,List.length_cons] at hlen⊢;exact hlen.symm) k (by rw [List.length_append,hA,List.length_cons] at hlen⊢;omega) (markB (q+1)))
   rw [get_mid hA (by rw [List.length_append,hA,List.length_cons] at hlen⊢;omega),set_mid hA] at HO3
   have HF3:=Lib.hid (HF2.out.cell hgb (k*4+1) (.string (markB (q+1))))
   obtain ⟨-,hcs3,hus⟩:=RF.out _ _ (by rw [List.length_append,hA,List.length_cons] at hlen⊢;exact hlen) HO3.out
   have heach:=HO3.out.each k hku (by rw [List.length_append,hA,List.length_cons] at hlen⊢;omega)
   rw [get_mid hA (by rw [List.length_append,hA,List.length_cons] at hlen⊢;omega)] at heach
   have HC:=Lib.hid (markCellS_full base (q+2) us[k] ics _ (by omega) (by omega) heach)
   have hqi:((q+2:Nat):Int)=(q:Int)+1+1:=by omega
   rw [hqi] at HC
   have HEB:=Lib.hid (fun (x:Nat) (hx:us[k].ownBlock=some x)=>(heach.lt x hx).1)
   have HMEM:=Lib.hid (List.getElem_mem hku)
   have HMKD:=Lib.hid (fun w' (hg:(w1.setCell ⟨g,k*4+1,none⟩ (.string (markB (q+1)))).grownBy w' us[k].ownBlock) (ho:w'.ownsRow base 110 3 us[k] (marksC (q+2) ics.length).length (flatC (marksC (q+2) ics.length)))=>
    HO3.out.mark k hku (by rw [List.length_append,hA,List.length_cons] at hlen⊢;omega) (marksC (q+2) ics.length) (by rw [marksC_length,get_mid hA]) hg ho)
   clear heach hqi hb1 hcs hcs3
   go_wp2_with fail
   refine HC.out.mono ?_
   rintro e w3 ⟨rfl,ho3,hg3⟩
   have ho4:=HMKD.out w3 hg3 (by rw [marksC_length];exact ho3)
   rw [get_mid hA (by rw [List.length_append,hA,List.length_cons] at hlen⊢;omega),set_mid hA] at ho4
   have HO4:=Lib.hid ho4
   have HF4:=Lib.hid (HF3.out.next hg3 HMEM.out HEB.out hB)
   have HT4:=Lib.hid (fun w'=>markText_any (q+2+ics.length*3) w' (by omega))
   clear ho3 hg3 ho4
   have hM1:q+2+ics.length*3≤30000000:=by omega
   generalize hM:q+2+ics.length*3=M at HT4 HMK hM1
   have HM:=Lib.hid hM
   clear hM
   go_wp2_with fail
   refine (HT4.out _).mono ?_
   rintro e w5 ⟨rfl,hb5⟩
   have HO5:=Lib.hid (HO4.out.below hb5)
   have HF5:=Lib.hid (HF4.out.more hb5 hB)
   obtain ⟨-,hcs,-⟩:=RF.out _ _ (by rw [List.length_append,hA,List.length_cons] at hlen⊢;exact hlen) HO5.out
   obtain ⟨⟨c5,d5⟩,z5⟩:=hcs (k*4+3) (by omega)
   have HO6:=Lib.hid (HO5.out.setNote (by rw [List.length_append,hA,List.length_cons] at hlen⊢;exact hlen.symm) k (by rw [List.length_append,hA,List.length_cons] at hlen⊢;omega) (markB M))
   rw [get_mid hA (by rw [List.length_append,hA,List.length_cons] at hlen⊢;omega),set_mid hA] at HO6
   have HF6:=Lib.hid (HF5.out.cell hgb (k*4+3) (.string (markB M)))
   have hq3:M+1=m+spanI (l.take (k+1)):=by rw [HSP.out,HST.out];have:=HQ.out;have:=HM.out;omega
   have HQ3:=Lib.hid hq3
   have HN6:=Lib.hid (by have:=HO6.out;rw [←HMK.out,HNXT.out] at this;exact this)
   clear hb5 hcs hq3
   go_wp2
   go_roundw
   case rel=>exact ⟨k+1,M+1,by omega,by go_num,by go_num,HQ3.out,by have:=HN6.out;rwa [←HBD.out] at this,HF6.out⟩
   case measure=>simp [intOf];omega
  ·obtain rfl:k=l.length:=by omega
   have hq0:=HQ.out
   rw [List.take_of_length_le (Nat.le_refl _)] at hq0 hown
   rw [List.drop_eq_nil_of_le (Nat.le_refl _),List.append_nil] at hown
   have HQ0:=Lib.hid hq0;have HOR:=Lib.hid hown;clear hq0 hown
   go_wp2
   go_ret
   exact ⟨by rw [←HQ0.out];rfl,HOR.out,HF.out⟩
end Go.Proofs.YtegdjjjpoahamaaGreatDoor
