/-
  laws.szCellS, toCellS, eqCellS, by their contracts.
-/
import Derived.Test.YtegdjjjpoahamaaGreatDoorToCell
import Derived.Test.YtegdjjjpoahamaaGreatDoorBaseX
import Derived.Test.YtegdjjjpoahamaaGreatDoorBaseE
set_option linter.unusedVariables false
set_option maxHeartbeats 4000000
set_option maxRecDepth 100000
namespace Go.Proofs.YtegdjjjpoahamaaGreatDoor
open Go.RowKit
def SzC (n:Int) (l:List Cl) (e:Ending):Prop:=
 ∃m:Int,e= .returned (.int .i64 m)∧(0≤m→(l.length:Int)≤n∧ ∀c∈l,(c.2.1.size:Int)≤n)
def SzL (n:Int) (l:List Cl) (e:Ending):Prop:=
 ∃m:Int,e= .returned (.int .i64 m)∧(0≤m→m+(l.length:Int)≤n∧ ∀c∈l,(c.2.1.size:Int)≤n)
theorem szCellS_left (v:Value) (l:List Cl) (n:Int) (w:World) (hr:RowC w v l) (hz:SizedC l) (hn0:0≤n) (hn1:n≤1048576):
  Calls Tryz.prog 97 #[v, .int .i64 n] w fun e w'=>SzL n l e∧Below w.heap.size w w':=by
 obtain ⟨ao,cap,rfl,h1,h2,h3⟩:=hr
 unfold maxLen at h2
 have H3:=Lib.hid h3;have HZ:=Lib.hid hz;clear h3 hz
 by_cases hl:(l.length:Int)≤n
 ·go_enter Tryz.func97,Tryz.ntmps97
  go_wp2
  go_loopw [1,5] (fun a i wr=> ∃(k:Nat) (m:Int),k≤l.length∧i= .int .i64 k∧a= .int .i64 m∧0≤m∧m+(l.length:Int)≤n∧(∀c∈l.take k,(c.2.1.size:Int)≤n)∧Below w.heap.size w wr) (fun _ i _=>l.length-(intOf i).toNat)
  case atStart=>exact ⟨0,_,Nat.zero_le _,rfl,rfl,by omega,by omega,fun c hc=>by simp at hc,Below.refl _ _⟩
  case round=>
   obtain ⟨k,m,hk,rfl,rfl,hm0,hm1,hall,hb⟩:=hrel
   have HA:=Lib.hid hall;have HB:=Lib.hid hb;clear hall hb
   by_cases hlt:k<l.length
   ·obtain ⟨b,o,rfl,hbl,cc⟩:=H3.out.resolve_left (by rintro rfl;simp at hlt)
    obtain ⟨c0,c1,c2⟩:=cc k hlt
    have d0:wr.cell? ⟨b,o+k*3,none⟩=some (.int .i64 l[k].1):=(HB.out.cell (p:=⟨b,_,none⟩) hbl).trans c0
    have d1:wr.cell? ⟨b,o+k*3+1,none⟩=some (.string l[k].2.1):=(HB.out.cell (p:=⟨b,_,none⟩) hbl).trans c1
    have d2:wr.cell? ⟨b,o+k*3+2,none⟩=some (.int .i64 l[k].2.2):=(HB.out.cell (p:=⟨b,_,none⟩) hbl).trans c2
    have hzk:l[k].2.1.size≤maxLen:=HZ.out _ (List.getElem_mem _)
    have HT:=Lib.hid (List.take_succ_eq_append_getElem hlt)
    have HE:=Lib.hid (show l[k]=(l[k].1,l[k].2.1,l[k].2.2) from rfl)
    have HQ:=Lib.hid (show∀c∈[l[k]],(c.2.1.size:Int)≤n↔(l[k].2.1.size:Int)≤n by simp)
    have HNX:=Lib.hid (show (l[k].2.1.size:Int)≤n→ ∀c∈l.take (k+1),(c.2.1.size:Int)≤n by
     intro h c hc
     rw [HT.out,List.mem_append] at hc
     rcases hc with hc|hc
     ·exact HA.out c hc
     ·rw [List.mem_singleton] at hc;rw [hc];exact h)
    clear HQ HE HT
    generalize l[k].1=kk at d0
    generalize l[k].2.1=ss at d1 hzk HNX
    generalize l[k].2.2=mm at d2
    have HZK:=Lib.hid hzk
    clear cc c0 c1 c2 hzk
    go_wp2_with fail
    refine (szCell_any kk mm ss m _ HZK.out hm0 (by omega)).mono ?_
    rintro e w1 ⟨rfl,hb1⟩
    have HB1:=Lib.hid (HB.out.trans (hb1.mono HB.out.size));clear hb1
    by_cases hr:(ss.size:Int)≤m
    ·rw [if_pos hr]
     have r0:0≤m-(ss.size:Int):=by omega
     have r1:m-(ss.size:Int)+(l.length:Int)≤n:=by omega
     generalize m-(ss.size:Int)=q at r0 r1
     go_wp2
     go_roundw
     case rel=>exact ⟨k+1,q,by omega,by go_num,rfl,r0,r1,HNX.out (by omega),HB1.out⟩
     case measure=>simp [intOf];omega
    ·rw [if_neg hr]
     go_wp2
     go_ret
     exact ⟨⟨-1,rfl,by omega⟩,HB1.out⟩
   ·obtain rfl:k=l.length:=by omega
    have HAL:=Lib.hid (show∀c∈l,(c.2.1.size:Int)≤n by have:=HA.out;rwa [List.take_of_length_le (Nat.le_refl _)] at this)
    go_wp2
    go_ret
    exact ⟨⟨m,rfl,fun _=>⟨hm1,HAL.out⟩⟩,HB.out⟩
 ·go_enter Tryz.func97,Tryz.ntmps97
  go_wp2
  go_ret
  exact ⟨⟨-1,rfl,by omega⟩,Below.refl _ _⟩
theorem szCellS_any (v:Value) (l:List Cl) (n:Int) (w:World) (hr:RowC w v l) (hz:SizedC l) (hn0:0≤n) (hn1:n≤1048576):
  Calls Tryz.prog 97 #[v, .int .i64 n] w fun e w'=>SzC n l e∧Below w.heap.size w w':=
 (szCellS_left v l n w hr hz hn0 hn1).mono fun e w' ⟨⟨m,he,h⟩,hb⟩=>⟨⟨m,he,fun h0=>⟨by have:=(h h0).1;omega,(h h0).2⟩⟩,hb⟩
def filledC (l:List Cl) (M:List Value) (k:Nat):List Value:=flatC (l.take k)++M.drop (k*3)
theorem filledC_length (l:List Cl) (M:List Value) (k:Nat) (hk:k≤l.length) (hM:M.length=l.length*3):(filledC l M k).length=l.length*3:=by
 rw [filledC,List.length_append,flatC_length,List.length_take,List.length_drop];omega
theorem set3 (A B:List Value) (n:Nat) (hA:A.length=n) (x y z a b c:Value):(((A++x::y::z::B).set n a).set (n+1) b).set (n+2) c=A++a::b::c::B:=by
 subst hA
 rw [List.set_append_right _ _ (Nat.le_refl _),Nat.sub_self,List.set_cons_zero,List.set_append_right _ _ (by omega),show A.length+1-A.length=1 by omega,List.set_cons_succ,List.set_cons_zero,
  List.set_append_right _ _ (by omega),show A.length+2-A.length=2 by omega,List.set_cons_succ,List.set_cons_succ,List.set_cons_zero]
theorem filledC_next (l:List Cl) (M:List Value) (k:Nat) (hk:k<l.length) (hM:M.length=l.length*3):
  (((filledC l M k).set (k*3) (.int .i64 l[k].1)).set (k*3+1) (.string l[k].2.1)).set (k*3+2) (.int .i64 l[k].2.2)=filledC l M (k+1):=by
 have hA:(flatC (l.take k)).length=k*3:=by rw [flatC_length,List.length_take];omega
 have hd:M.drop (k*3)=M[k*3]'(by omega)::M[k*3+1]'(by omega)::M[k*3+2]'(by omega)::M.drop (k*3+3):=by
  rw [List.drop_eq_getElem_cons (by omega),List.drop_eq_getElem_cons (i:=k*3+1) (by omega),List.drop_eq_getElem_cons (i:=k*3+1+1) (by omega)]
 rw [filledC,hd,set3 _ _ _ hA,filledC,List.take_succ_eq_append_getElem hk,flatC_append,show (k+1)*3=k*3+3 by omega,List.append_assoc]
 rfl
theorem toCellS_any (v:Value) (l:List Cl) (w:World) (hr:RowC w v l) (hl:l.length≤1048576):
  Calls Tryz.prog 98 #[v] w (NewCells l w):=by
 obtain ⟨i0,hi,hz0,hz1,hz2⟩:=info_parts infoC
 obtain ⟨ao,cap,rfl,h1,h2,h3⟩:=hr
 unfold maxLen at h2
 have H3:=Lib.hid h3;clear h3
 have hby:i0.bytes*l.length≤281474976710656:=by rw [hz2];omega
 go_enter Tryz.func98,Tryz.ntmps98
 go_wp2_with (at_make;refine wpList_make_full _ rfl _ _ 30 rfl w.heap.size 110 i0 (.agg #[.int .i64 0, .string ByteArray.empty, .int .i64 0]) 3 Tryz.underlying30 hi hz0 hz1 .i64 .i64 (l.length:Int) (l.length:Int) l.length rfl rfl rfl rfl hby (by unfold maxLen;omega) (Nat.le_refl _) ?_;intro w1 hown1 hgrow1)
 have hM:(madeCells (Value.agg #[.int .i64 0, .string ByteArray.empty, .int .i64 0]).cells (l.length*3)).toList.length=l.length*3:=by have:=hown1.1;omega
 generalize (madeCells (Value.agg #[.int .i64 0, .string ByteArray.empty, .int .i64 0]).cells (l.length*3)).toList=M at hown1 hM
 have B1:=Lib.hid ((Below.refl w.heap.size w).grown hgrow1 (Nat.le_refl _) (by simp))
 have HM:=Lib.hid hM
 have O1:=Lib.hid hown1
 clear hgrow1 hM hown1 hby
 go_wp2_with fail
 go_loopw [4] (fun i wr=> ∃k:Nat,k≤l.length∧i= .int .i64 k∧wr.ownsRow w.heap.size 110 3 (.slice (some ⟨w.heap.size,0,none⟩) l.length l.length) l.length (filledC l M k)∧Below w.heap.size w wr) (fun i _=>l.length-(intOf i).toNat)
 case atStart=>exact ⟨0,Nat.zero_le _,rfl,by have:=O1.out;simpa [filledC,flatC] using this,B1.out⟩
 case round=>
  obtain ⟨k,hk,rfl,hown,hb⟩:=hrel
  have HO:=Lib.hid hown;have HB:=Lib.hid hb
  clear hown hb
  by_cases hlt:k<l.length
  ·obtain ⟨b,o,rfl,hbl,cc⟩:=H3.out.resolve_left (by rintro rfl;simp at hlt)
   obtain ⟨c0,c1,c2⟩:=cc k hlt
   have d0:wr.cell? ⟨b,o+k*3,none⟩=some (.int .i64 l[k].1):=(HB.out.cell (p:=⟨b,_,none⟩) hbl).trans c0
   have d1:wr.cell? ⟨b,o+k*3+1,none⟩=some (.string l[k].2.1):=(HB.out.cell (p:=⟨b,_,none⟩) hbl).trans c1
   have d2:wr.cell? ⟨b,o+k*3+2,none⟩=some (.int .i64 l[k].2.2):=(HB.out.cell (p:=⟨b,_,none⟩) hbl).trans c2
   have HNX:=Lib.hid (filledC_next l M k hlt HM.out)
   generalize hC:l[k]=c at d0 d1 d2 HNX
   obtain ⟨kk,ss,mm⟩:=c
   simp only at d0 d1 d2 HNX
   clear cc c0 c1 c2 hC
   go_wp2_with fail
   refine (toCell_any kk mm ss _).mono ?_
   rintro e w2 ⟨rfl,hb2⟩
   have hgb:wr.grownBy w2 none:=⟨hb2.os,hb2.tape,hb2.output,hb2.size,fun i hi _=>hb2.block i hi⟩
   have HO2:=Lib.hid (HO.out.kept hgb (.inr (by simp [Value.ownBlock])))
   have HB2:=Lib.hid (HB.out.trans (hb2.mono HB.out.size))
   clear hgb hb2
   have hfl:=filledC_length l M k (by omega) HM.out
   have cc: ∀j,j<l.length*3→ ∃u,w2.cell? ⟨w.heap.size,j,none⟩=some u:=by
    intro j hj
    rw [HO2.out.cellAt j hj,List.getElem?_eq_getElem (by omega)];exact ⟨_,rfl⟩
   obtain ⟨u0,g0⟩:=cc (k*3) (by omega)
   obtain ⟨u1,g1⟩:=cc (k*3+1) (by omega)
   obtain ⟨u2,g2⟩:=cc (k*3+2) (by omega)
   have z0:=HO2.out.frozenAt (k*3)
   have z1:=HO2.out.frozenAt (k*3+1)
   have z2:=HO2.out.frozenAt (k*3+2)
   have S1:=Lib.hid (HO2.out.stored (k*3) (.int .i64 kk))
   have S2:=Lib.hid (S1.out.1.stored (k*3+1) (.string ss))
   have S3:=Lib.hid (S2.out.1.stored (k*3+2) (.int .i64 mm))
   have T3:=Lib.hid (show _ from HNX.out▸S3.out.1)
   have B3:=Lib.hid (((HB2.out.setCell (p:=⟨w.heap.size,k*3,none⟩) (Nat.le_refl _) (.int .i64 kk)).setCell (p:=⟨w.heap.size,k*3+1,none⟩) (Nat.le_refl _) (.string ss)).setCell (p:=⟨w.heap.size,k*3+2,none⟩) (Nat.le_refl _) (.int .i64 mm))
   clear S1 S2 S3 cc hfl
   go_wp2
   go_roundw
   case rel=>exact ⟨k+1,by omega,by go_num,T3.out,B3.out⟩
   case measure=>simp [intOf];omega
  ·obtain rfl:k=l.length:=by omega
   have HN:=Lib.hid (show filledC l M l.length=flatC l by rw [filledC,List.take_of_length_le (Nat.le_refl _),List.drop_eq_nil_of_le (by rw [HM.out];exact Nat.le_refl _),List.append_nil])
   go_wp2
   go_ret
   exact ⟨_,rfl,by rw [←HN.out];exact HO.out,HB.out⟩
theorem eqCell_same (k m:Int) (s:ByteArray) (w:World):
  Calls Tryz.prog 147 #[.agg #[.int .i64 k, .string s, .int .i64 m], .agg #[.int .i64 k, .string s, .int .i64 m]] w fun e w'=>e= .returned (.bool true)∧Below w.heap.size w w':=by
 have n1:(k !=k)=false:=by simp
 have n2:(!(s.toList==s.toList))=false:=by simp
 have n3:(m !=m)=false:=by simp
 go_enter Tryz.func147,Tryz.ntmps147
 go_wp2
 go_ret
 exact ⟨rfl,((Below.refl _ w).alloc (Nat.le_refl _) _).alloc (by simp) _⟩
end Go.Proofs.YtegdjjjpoahamaaGreatDoor
