/-
  laws.toItem, toItemS, by their contracts.
-/
import Derived.Test.YtegdjjjpoahamaaGreatDoorOwnI
import Derived.Test.YtegdjjjpoahamaaGreatDoorItemW
import Derived.Test.YtegdjjjpoahamaaGreatDoorItB
set_option linter.unusedVariables false
set_option maxHeartbeats 4000000
set_option maxRecDepth 100000
namespace Go.Proofs.YtegdjjjpoahamaaGreatDoor
open Go.RowKit
theorem toItem_any (u:Value) (k:Int) (nm t:ByteArray) (l:List Cl) (w:World) (hr:RowC w u l) (hl:l.length≤1048576):
  Calls Tryz.prog 65 #[.agg #[.int .i64 k, .string nm,u, .string t]] w fun e w'=> ∃u',e= .returned (.agg #[.int .i64 k, .string nm,u', .string t])∧w'.ownsRow w.heap.size 110 3 u' l.length (flatC l)∧Below w.heap.size w w':=by
 have HB0:=Lib.hid ((((Below.refl w.heap.size w).alloc (Nat.le_refl _) (.cells #[.int .i64 k, .string nm,u, .string t] 77)).alloc (by simp) (.cells #[.int .i64 0, .string ByteArray.empty, .slice none 0 0, .string ByteArray.empty] 32)).alloc (by simp;omega) (.cells #[.int .i64 k, .string nm, .slice none 0 0, .string ByteArray.empty] 32))
 have HC:=Lib.hid (toCellS_any u l _ (hr.mono HB0.out) hl)
 obtain ⟨ao,cap,rfl,-⟩:=hr
 go_enter Tryz.func65,Tryz.ntmps65
 go_wp2_with fail
 refine HC.out.mono ?_
 rintro e w2 ⟨v2,rfl,ho2,hb2⟩
 have hs2:=hb2.size
 have hs3:w.heap.size+3≤w2.heap.size:=by simpa using hs2
 obtain ⟨a2,c2,rfl⟩:=own_shape ho2
 obtain ⟨⟨x0,x1,x2,x3⟩,⟨f0,f1,f2,f3⟩,-⟩:It4 w2 (w.heap.size+1) (.int .i64 0) (.string ByteArray.empty) (.slice none 0 0) (.string ByteArray.empty):=by
  have:=((It4.new (w.alloc (.cells #[.int .i64 k, .string nm, .slice ao l.length cap, .string t] 77)) (.int .i64 0) (.string ByteArray.empty) (.slice none 0 0) (.string ByteArray.empty) 32).al (.cells #[.int .i64 k, .string nm, .slice none 0 0, .string ByteArray.empty] 32)).keep hb2
  simpa using this
 obtain ⟨⟨y0,y1,y2,y3⟩,⟨g0,g1,g2,g3⟩,-⟩:It4 w2 (w.heap.size+1+1) (.int .i64 k) (.string nm) (.slice none 0 0) (.string ByteArray.empty):=by
  have:=(It4.new ((w.alloc (.cells #[.int .i64 k, .string nm, .slice ao l.length cap, .string t] 77)).alloc (.cells #[.int .i64 0, .string ByteArray.empty, .slice none 0 0, .string ByteArray.empty] 32)) (.int .i64 k) (.string nm) (.slice none 0 0) (.string ByteArray.empty) 32).keep hb2
  simpa using this
 obtain ⟨⟨b0,b1,b2,b3⟩,-⟩:It4 w2 w.heap.size (.int .i64 k) (.string nm) (.slice ao l.length cap) (.string t):=by
  have:=(((It4.new w (.int .i64 k) (.string nm) (.slice ao l.length cap) (.string t) 77).al (.cells #[.int .i64 0, .string ByteArray.empty, .slice none 0 0, .string ByteArray.empty] 32)).al (.cells #[.int .i64 k, .string nm, .slice none 0 0, .string ByteArray.empty] 32)).keep hb2
  simpa using this
 have HB2:=Lib.hid (HB0.out.trans (hb2.mono (by simp;omega)))
 have hou: ∀g,(Value.slice a2 l.length c2).ownBlock=some g→w.heap.size+3≤g:=fun g hg=>by have:=(ho2.lt g hg).1;simpa using this
 have HOU:=Lib.hid hou
 have HO2:=Lib.hid ho2
 have HFIN:=Lib.hid (show∀w5:World,w5=(((((w2.setCell ⟨w.heap.size+1+1,2,none⟩ (.slice a2 l.length c2)).setCell ⟨w.heap.size+1+1,3,none⟩ (.string t)).setCell ⟨w.heap.size+1,0,none⟩ (.int .i64 k)).setCell ⟨w.heap.size+1,1,none⟩ (.string nm)).setCell ⟨w.heap.size+1,2,none⟩ (.slice a2 l.length c2)).setCell ⟨w.heap.size+1,3,none⟩ (.string t)→
   w5.ownsRow w.heap.size 110 3 (.slice a2 l.length c2) l.length (flatC l)∧Below w.heap.size w w5 by
  rintro w5 rfl
  refine ⟨own_base (own_keep HO2.out (fun g hg=>by
   have:=HOU.out g hg
   rw [Below.heap_setCell _ _ _ _ (show g≠w.heap.size+1 by omega),Below.heap_setCell _ _ _ _ (show g≠w.heap.size+1 by omega),Below.heap_setCell _ _ _ _ (show g≠w.heap.size+1 by omega),Below.heap_setCell _ _ _ _ (show g≠w.heap.size+1 by omega),Below.heap_setCell _ _ _ _ (show g≠w.heap.size+1+1 by omega),Below.heap_setCell _ _ _ _ (show g≠w.heap.size+1+1 by omega)])) (fun g hg=>by have:=HOU.out g hg;omega), ?_⟩
  have h1:w.heap.size≤w.heap.size+1:=by omega
  have h2:w.heap.size≤w.heap.size+1+1:=by omega
  exact (((((HB2.out.setCell (p:=⟨w.heap.size+1+1,2,none⟩) h2 _).setCell (p:=⟨w.heap.size+1+1,3,none⟩) h2 _).setCell (p:=⟨w.heap.size+1,0,none⟩) h1 _).setCell (p:=⟨w.heap.size+1,1,none⟩) h1 _).setCell (p:=⟨w.heap.size+1,2,none⟩) h1 _).setCell (p:=⟨w.heap.size+1,3,none⟩) h1 _)
 clear ho2 hb2 hou hs2
 go_wp2
 exact bodyPost_ret (v:= .agg #[.int .i64 k, .string nm, .slice a2 l.length c2, .string t]) (by simp [results,Tryz.results65,go_sem,x0,x1,x2,x3]) rfl ⟨_,rfl,(HFIN.out _ rfl).1,(HFIN.out _ rfl).2⟩
def FilledI (w:World) (B n:Nat) (us:List Value) (l:List It) (wr:World) (M:List Value) (k:Nat):Prop:=
 us.length=k∧wr.ownsRow B 32 4 (.slice (some ⟨B,0,none⟩) n n) n (itF (l.take k) us++M.drop (k*4))∧Below w.heap.size w wr∧(∀(j:Nat) (h:j<us.length) (h':j<l.length),wr.ownsRow (B+1) 110 3 us[j] l[j].2.2.1.length (flatC l[j].2.2.1))∧
  ∀(i j:Nat) (hi:i<us.length) (hj:j<us.length) (b:Nat),us[i].ownBlock=some b→us[j].ownBlock=some b→i=j
theorem set4 (A M:List Value) (k n:Nat) (x0 x1 x2 x3:Value) (hA:A.length=k*4) (hM:M.length=n*4) (hk:k<n):
  ((((A++M.drop (k*4)).set (k*4) x0).set (k*4+1) x1).set (k*4+2) x2).set (k*4+3) x3=(A++[x0,x1,x2,x3])++M.drop ((k+1)*4):=by
 have e:M.drop (k*4)=M[k*4]::M[k*4+1]::M[k*4+2]::M[k*4+3]::M.drop ((k+1)*4):=by
  rw [List.drop_eq_getElem_cons (by omega),List.drop_eq_getElem_cons (by omega),List.drop_eq_getElem_cons (by omega),List.drop_eq_getElem_cons (by omega),show (k+1)*4=k*4+1+1+1+1 by omega]
 rw [e,List.set_append_right _ _ (by omega),hA,Nat.sub_self,List.set_append_right _ _ (by omega),hA,show k*4+1-k*4=1 by omega,List.set_append_right _ _ (by omega),hA,show k*4+2-k*4=2 by omega,List.set_append_right _ _ (by omega),hA,show k*4+3-k*4=3 by omega]
 simp
theorem FilledI.next {w wr w1:World} {B n k:Nat} {us:List Value} {l:List It} {M:List Value} {u:Value} (h:FilledI w B n us l wr M k) (hk:k<n) (hkl:k<l.length) (hM:M.length=n*4) (hB:w.heap.size≤B) (hBl:B<wr.heap.size) (hb1:Below wr.heap.size wr w1)
  (hu:w1.ownsRow wr.heap.size 110 3 u l[k].2.2.1.length (flatC l[k].2.2.1)):FilledI w B n (us++[u]) l ((((w1.setCell ⟨B,k*4,none⟩ (.int .i64 l[k].1)).setCell ⟨B,k*4+1,none⟩ (.string l[k].2.1)).setCell ⟨B,k*4+2,none⟩ u).setCell ⟨B,k*4+3,none⟩ (.string l[k].2.2.2)) M (k+1):=by
 obtain ⟨h1,h2,h3,h4,h5⟩:=h
 have hs1:=hb1.size
 have hset: ∀b,b≠B→((((w1.setCell ⟨B,k*4,none⟩ (.int .i64 l[k].1)).setCell ⟨B,k*4+1,none⟩ (.string l[k].2.1)).setCell ⟨B,k*4+2,none⟩ u).setCell ⟨B,k*4+3,none⟩ (.string l[k].2.2.2)).heap[b]? =w1.heap[b]? :=fun b hbn=>(Below.heap_setCell _ _ _ _ hbn).trans ((Below.heap_setCell _ _ _ _ hbn).trans ((Below.heap_setCell _ _ _ _ hbn).trans (Below.heap_setCell _ _ _ _ hbn)))
 have hus: ∀j (hj:j<us.length) b,us[j].ownBlock=some b→B+1≤b∧b<wr.heap.size:=fun j hj b hb=>(h4 j hj (by omega)).lt b hb
 have hu1: ∀b,u.ownBlock=some b→wr.heap.size≤b∧b<w1.heap.size:=fun b hb=>hu.lt b hb
 have htl:(l.take k).length=us.length:=by rw [List.length_take];omega
 have hfl:(itF (l.take k) us).length=k*4:=by rw [itF_length _ _ htl,htl,h1]
 refine ⟨by simp [h1], ?_,((((h3.trans (hb1.mono h3.size)).setCell hB _).setCell hB _).setCell hB _).setCell hB _, ?_, ?_⟩
 ·have e:=set4 (itF (l.take k) us) M k n (.int .i64 l[k].1) (.string l[k].2.1) u (.string l[k].2.2.2) hfl hM hk
  have e2:itF (l.take (k+1)) (us++[u])=itF (l.take k) us++[.int .i64 l[k].1, .string l[k].2.1,u, .string l[k].2.2.2]:=by
   rw [List.take_succ_eq_append_getElem hkl,itF_append _ _ _ _ htl];rfl
  rw [e2,←e]
  exact ((((((own_belowS h2 hb1).stored (k*4) (.int .i64 l[k].1)).1).stored (k*4+1) (.string l[k].2.1)).1.stored (k*4+2) u).1.stored (k*4+3) (.string l[k].2.2.2)).1
 ·intro j hj hj'
  by_cases hlt:j<us.length
  ·rw [List.getElem_append_left hlt]
   exact own_keep (h4 j hlt hj') (fun g hg=>by rw [hset g (by have:=hus j hlt g hg;omega),hb1.block g (hus j hlt g hg).2])
  ·have:j=us.length:=by simp at hj;omega
   subst this
   simp only [List.getElem_append_right (Nat.le_refl _),Nat.sub_self,List.getElem_cons_zero]
   subst h1
   exact own_base (own_keep hu (fun g hg=>hset g (by have:=hu1 g hg;omega))) (fun g hg=>by have:=hu1 g hg;omega)
 ·intro i j hi hj b hbi hbj
  by_cases hli:i<us.length
  ·rw [List.getElem_append_left hli] at hbi
   by_cases hlj:j<us.length
   ·rw [List.getElem_append_left hlj] at hbj;exact h5 i j hli hlj b hbi hbj
   ·have:j=us.length:=by simp at hj;omega
    subst this
    simp only [List.getElem_append_right (Nat.le_refl _),Nat.sub_self,List.getElem_cons_zero] at hbj
    have:=hus i hli b hbi;have:=hu1 b hbj;omega
  ·have:i=us.length:=by simp at hi;omega
   subst this
   simp only [List.getElem_append_right (Nat.le_refl _),Nat.sub_self,List.getElem_cons_zero] at hbi
   by_cases hlj:j<us.length
   ·rw [List.getElem_append_left hlj] at hbj
    have:=hus j hlj b hbj;have:=hu1 b hbi;omega
   ·simp at hj;omega
theorem FilledI.done {w wr:World} {B n:Nat} {us:List Value} {l:List It} {M:List Value} (h:FilledI w B n us l wr M n) (hM:M.length=n*4) (hn:l.length=n) (hB:w.heap.size≤B):OwnI wr w.heap.size (.slice (some ⟨B,0,none⟩) n n) us l:=by
 obtain ⟨h1,h2,h3,h4,h5⟩:=h
 rw [List.drop_eq_nil_of_le (by omega),List.append_nil,List.take_of_length_le (by omega)] at h2
 refine ⟨by rw [hn];exact own_base h2 (fun g hg=>by have:=(h2.lt g hg).1;omega),by omega,fun k hk hk'=>own_base (h4 k hk hk') (fun g hg=>by have:=((h4 k hk hk').lt g hg).1;omega), ?_,h5⟩
 intro k hk b hb he
 have:B=b:=by simpa [Value.ownBlock] using he
 have:=((h4 k hk (by omega)).lt b hb).1
 omega
theorem toItemS_any (v:Value) (l:List It) (w:World) (hr:RowIt w v l) (hl:l.length≤1048576) (hll: ∀b∈l,b.2.2.1.length≤1048576):
  Calls Tryz.prog 32 #[v] w (NewI l w):=by
 obtain ⟨i0,hi,hz0,hz1,hz2⟩:=info_parts infoIt
 obtain ⟨ao,cap,rfl,h1,h2,h3⟩:=hr
 unfold maxLen at h2
 have H3:=Lib.hid h3;have HLL:=Lib.hid hll;clear h3 hll
 have hby:i0.bytes*l.length≤281474976710656:=by rw [hz2];omega
 go_enter Tryz.func32,Tryz.ntmps32
 go_wp2_with (at_make;refine wpList_make_full _ rfl _ _ 23 rfl w.heap.size 32 i0 (.agg #[.int .i64 0, .string ByteArray.empty, .slice none 0 0, .string ByteArray.empty]) 4 Tryz.underlying23 hi hz0 hz1 .i64 .i64 (l.length:Int) (l.length:Int) l.length rfl rfl rfl rfl hby (by unfold maxLen;omega) (Nat.le_refl _) ?_;intro w1 hown1 hgrow1)
 have hM:(madeCells (Value.agg #[.int .i64 0, .string ByteArray.empty, .slice none 0 0, .string ByteArray.empty]).cells (l.length*4)).toList.length=l.length*4:=by have:=hown1.1;omega
 generalize (madeCells (Value.agg #[.int .i64 0, .string ByteArray.empty, .slice none 0 0, .string ByteArray.empty]).cells (l.length*4)).toList=M at hown1 hM
 have B1:=Lib.hid ((Below.refl w.heap.size w).grown hgrow1 (Nat.le_refl _) (by simp))
 have HM:=Lib.hid hM
 have O1:=Lib.hid hown1
 clear hgrow1 hM hown1 hby
 go_wp2_with fail
 go_loopw [4] (fun i wr=> ∃(k:Nat) (us:List Value),k≤l.length∧i= .int .i64 (k:Int)∧FilledI w w.heap.size l.length us l wr M k) (fun i _=>l.length-(intOf i).toNat)
 case atStart=>exact ⟨0,[],Nat.zero_le _,rfl,rfl,by simpa [itF] using O1.out,B1.out,fun j h=>by simp at h,fun i j h=>by simp at h⟩
 case round=>
  obtain ⟨k,us,hk,rfl,hf⟩:=hrel
  have HF:=Lib.hid hf;clear hf
  by_cases hlt:k<l.length
  ·obtain ⟨b,o,rfl,hbl,cc⟩:=H3.out.resolve_left (by rintro rfl;simp at hlt)
   obtain ⟨u,hu⟩:=cc k hlt
   obtain ⟨hul,hro,hbw,-,-⟩:=HF.out
   obtain ⟨d0,d1,d2,d3,hru⟩:=hu.mono hbl hbw
   have HRU:=Lib.hid hru
   have hB:=(hro.lt w.heap.size rfl).2
   have HRO:=Lib.hid hro
   have HLK:=Lib.hid (HLL.out _ (List.getElem_mem hlt))
   have HNX:=Lib.hid (fun w1 u hb1 hu=>HF.out.next (w1:=w1) (u:=u) hlt hlt HM.out (Nat.le_refl _) hB hb1 hu)
   clear cc hu hru hro hbw hul
   go_wp2_with fail
   refine (toItem_any u l[k].1 l[k].2.1 l[k].2.2.2 l[k].2.2.1 _ HRU.out HLK.out).mono ?_
   rintro e w2 ⟨v2,rfl,ho2,hb2⟩
   obtain ⟨a2,c2,rfl⟩:=own_shape ho2
   have HO2:=Lib.hid (own_belowS HRO.out hb2)
   have ccw: ∀j,j<l.length*4→ ∃u,w2.cell? ⟨w.heap.size,j,none⟩=some u:=fun j hj=>by
    rw [HO2.out.cellAt j hj,List.getElem?_eq_getElem (by have:=HO2.out.1;omega)];exact ⟨_,rfl⟩
   obtain ⟨u3,g3⟩:=ccw (k*4) (by omega)
   obtain ⟨u4,g4⟩:=ccw (k*4+1) (by omega)
   obtain ⟨u5,g5⟩:=ccw (k*4+2) (by omega)
   obtain ⟨u6,g6⟩:=ccw (k*4+3) (by omega)
   have z3:=HO2.out.frozenAt (k*4)
   have z4:=HO2.out.frozenAt (k*4+1)
   have z5:=HO2.out.frozenAt (k*4+2)
   have z6:=HO2.out.frozenAt (k*4+3)
   have HN2:=Lib.hid (HNX.out w2 _ hb2 ho2)
   clear ho2 hb2 HNX ccw
   go_wp2
   go_roundw
   case rel=>exact ⟨k+1,us++[.slice a2 l[k].2.2.1.length c2],by omega,by go_num,HN2.out⟩
   case measure=>simp [intOf];omega
  ·obtain rfl:k=l.length:=by omega
   have HD:=Lib.hid (HF.out.done HM.out rfl (Nat.le_refl _))
   have HB:=Lib.hid HF.out.2.2.1
   go_wp2
   go_ret
   exact ⟨_,us,rfl,HD.out,HB.out⟩
end Go.Proofs.YtegdjjjpoahamaaGreatDoor
