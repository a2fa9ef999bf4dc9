/-
  laws.eqIntS, markIntS, heldIntS, markCellS.
-/
import Derived.Test.YtegdjjjpoahamaaGreatDoorBaseE
import Derived.Test.YtegdjjjpoahamaaGreatDoorBaseI
import Derived.Test.YtegdjjjpoahamaaGreatDoorToCellS
import Derived.Test.YtegdjjjpoahamaaGreatDoorMark
import Derived.Deep.QuietTactic
import Derived.BigQuiet
set_option linter.unusedVariables false
set_option maxHeartbeats 4000000
set_option maxRecDepth 100000
namespace Go.Proofs.YtegdjjjpoahamaaGreatDoor
open Go.RowKit
theorem drewN_below (w:World) (n:Nat):Below w.heap.size w (w.drewN n):=⟨rfl,rfl,rfl,Nat.le_refl _,fun _ _=>rfl⟩
theorem eqIntS_same (v1 v2:Value) (L:List Nat) (w:World) (h1:RowI w v1 L) (h2:RowI w v2 L):
  Calls Tryz.prog 33 #[v1,v2] w fun e w'=>e= .returned (.bool true)∧Below w.heap.size w w':=by
 obtain ⟨a1,c1,rfl,l1,m1,r1⟩:=h1
 obtain ⟨a2,c2,rfl,l2,m2,r2⟩:=h2
 unfold maxLen at m1 m2
 have R1:=Lib.hid r1;have R2:=Lib.hid r2
 clear r1 r2
 go_enter Tryz.func33,Tryz.ntmps33
 go_wp2
 go_loopw [5] (fun i wr=> ∃k n:Nat,k≤L.length∧i= .int .i64 k∧wr=w.drewN n) (fun i _=>L.length-(intOf i).toNat)
 case atStart=>exact ⟨0,0,Nat.zero_le _,rfl,rfl⟩
 case round=>
  obtain ⟨k,n,hk,rfl,rfl⟩:=hrel
  by_cases hlt:k<L.length
  ·obtain ⟨b1,hA1,-,cc1⟩:=R1.out.resolve_left (by rintro rfl;simp at hlt)
   obtain ⟨b2,hA2,-,cc2⟩:=R2.out.resolve_left (by rintro rfl;simp at hlt)
   subst hA1 hA2
   have d1:=cc1 k hlt
   have d2:=cc2 k hlt
   generalize (L[k]:Int)=x at d1 d2
   have hx:(x !=x)=false:=by simp
   clear cc1 cc2
   go_wp2_with fail
   go_quiet (fail)
   go_wp2
   go_roundw
   case rel=>exact ⟨k+1,_,by omega,by go_num,rfl⟩
   case measure=>simp [intOf];omega
  ·go_wp2
   go_ret
   exact ⟨rfl,drewN_below _ _⟩
def mks (m n:Nat):List Nat:=(List.range n).map (m+ ·)
theorem mks_length (m n:Nat):(mks m n).length=n:=by simp [mks]
theorem mks_at (m n k:Nat) (h:k<(mks m n).length):(mks m n)[k]=m+k:=by simp [mks]
def mkd (m k:Nat) (L:List Nat):List Nat:=mks m k++L.drop k
theorem mkd_length (m k:Nat) (L:List Nat) (h:k≤L.length):(mkd m k L).length=L.length:=by
 simp [mkd,mks_length];omega
theorem mkd_next (m k:Nat) (L:List Nat) (h:k<L.length):(ints (mkd m k L)).set k (.int .i64 ((m+k:Nat):Int))=ints (mkd m (k+1) L):=by
 have e:mkd m (k+1) L=(mkd m k L).set k (m+k):=by
  unfold mkd
  rw [List.set_append_right _ _ (by rw [mks_length];exact Nat.le_refl _),mks_length,Nat.sub_self,List.drop_eq_getElem_cons h,List.set_cons_zero]
  simp [mks,List.range_succ]
 rw [e,ints,ints,List.map_set]
theorem markIntS_own (base m n:Nat) (v:Value) (L:List Nat) (w:World) (hm:m≤1000000) (hn:n≤1000000) (hown:w.ownsRow base 3 1 v n (ints L)):
  Calls Tryz.prog 36 #[v, .int .i64 (m:Int)] w fun e w'=>e= .returned (.int .i64 ((m+n:Nat):Int))∧w'.ownsRow base 3 1 v n (ints (mks m n))∧w.grownBy w' v.ownBlock:=by
 have hxl:L.length=n:=by have:=hown.1;rw [ints_length] at this;omega
 rcases hown.2 with ⟨rfl,rfl⟩|⟨g,cap,cur,rfl,hbg,hh,hnc,hcm,hcs,htake⟩
 ·go_enter Tryz.func36,Tryz.ntmps36
  go_wp2
  refine wp_loop_rounds 1 ?_
  rw [rounds_succ]
  go_wp2
  go_ret
  exact ⟨rfl,World.ownsRow_nil _ _ _ _,World.grownBy.refl _ _⟩
 ·have HO:=Lib.hid hown
  unfold maxLen at hcm
  clear hown hh hcs htake
  go_enter Tryz.func36,Tryz.ntmps36
  go_wp2
  go_loopw [1,5] (fun a i wr=> ∃k:Nat,k≤n∧i= .int .i64 (k:Int)∧a= .int .i64 ((m+k:Nat):Int)∧wr.ownsRow base 3 1 (.slice (some ⟨g,0,none⟩) n cap) n (ints (mkd m k L))∧w.grownBy wr (some g)) (fun _ i _=>n-(intOf i).toNat)
  case atStart=>exact ⟨0,Nat.zero_le _,rfl,rfl,HO.out,World.grownBy.refl _ _⟩
  case round=>
   obtain ⟨k,hk,rfl,rfl,hown,hg⟩:=hrel
   have HG:=Lib.hid hg;clear hg
   have HO2:=Lib.hid hown;clear hown
   by_cases hlt:k<n
   ·have hcl:wr.cell? ⟨g,k,none⟩=(ints (mkd m k L))[k]? :=HO2.out.cellAt k (by omega)
    rw [List.getElem?_eq_getElem (by rw [ints_length,mkd_length _ _ _ (by omega)];omega)] at hcl
    have hfz:wr.frozen? ⟨g,k,none⟩=false:=HO2.out.frozenAt k
    have HO3:=Lib.hid (HO2.out.stored k (.int .i64 ((m+k:Nat):Int)))
    have HN:=Lib.hid (mkd_next m k L (by omega))
    go_wp2
    go_roundw
    case rel=>
     refine ⟨k+1,by omega,by go_num,by go_num, ?_, ?_⟩
     ·rw [←HN.out];exact HO3.out.1
     ·exact grownT HG.out HO3.out.2
    case measure=>simp [intOf];omega
   ·obtain rfl:k=n:=by omega
    go_wp2
    go_ret
    refine ⟨rfl, ?_,HG.out⟩
    have:=HO2.out
    rw [show mkd m k L=mks m k by rw [mkd,List.drop_eq_nil_of_le (by omega),List.append_nil]] at this
    exact this
theorem heldIntS_any (m n:Nat) (v:Value) (w:World) (hm:m≤1000000) (hn:n≤1000000) (h:RowI w v (mks m n)):
  Calls Tryz.prog 37 #[v, .int .i64 (m:Int)] w fun e w'=>e= .returned (.int .i64 ((m+n:Nat):Int))∧w=w':=by
 obtain ⟨ao,cap,rfl,h1,h2,h3⟩:=h
 rw [mks_length] at h1⊢
 unfold maxLen at h2
 have R3:=Lib.hid h3;clear h3
 go_enter Tryz.func37,Tryz.ntmps37
 go_wp2
 go_loop [1,5] (fun a i=> ∃k:Nat,k≤n∧i= .int .i64 (k:Int)∧a= .int .i64 ((m+k:Nat):Int)) (fun _ i=>n-(intOf i).toNat)
 case atStart=>exact ⟨0,Nat.zero_le _,rfl,rfl⟩
 case round=>
  obtain ⟨k,hk,rfl,rfl⟩:=hrel
  by_cases hlt:k<n
  ·obtain ⟨b,rfl,hbl,cc⟩:=R3.out.resolve_left (by intro h;have:=congrArg List.length h;rw [mks_length] at this;simp at this;omega)
   have d0:=cc k (by rw [mks_length];exact hlt)
   rw [mks_at] at d0
   have hx:((((m+k:Nat):Int)) !=(((m+k:Nat):Int)))=false:=by simp
   generalize hM:((m+k:Nat):Int)=M at*
   have hM0:0≤M:=by omega
   have hM1:M≤100000000:=by omega
   have HMM:=Lib.hid hM;clear hM cc
   go_wp2
   go_round
   case rel=>exact ⟨k+1,by omega,by go_num,by rw [show ((m+(k+1):Nat):Int)=M+1 by have:=HMM.out;omega]⟩
   case measure=>simp [intOf];omega
  ·obtain rfl:k=n:=by omega
   go_wp2
   go_ret
   exact ⟨rfl,rfl⟩
theorem markCellS_own (base m n:Nat) (v:Value) (xs:List Value) (w:World) (hm:m≤1000000) (hn:n≤1048576) (hown:w.ownsRow base 110 3 v n xs):
  Calls Tryz.prog 68 #[v, .int .i64 (m:Int)] w fun e w'=>e= .returned (.int .i64 ((m+n*3:Nat):Int))∧w.grownBy w' v.ownBlock:=by
 rcases hown.2 with ⟨rfl,rfl⟩|⟨g,cap,cur,rfl,hbg,hh,hnc,hcm,hcs,htake⟩
 ·go_enter Tryz.func68,Tryz.ntmps68
  go_wp2
  refine wp_loop_rounds 1 ?_
  rw [rounds_succ]
  go_wp2
  go_ret
  exact ⟨rfl,World.grownBy.refl _ _⟩
 ·have HO:=Lib.hid hown
  unfold maxLen at hcm
  clear hown hh hcs htake
  go_enter Tryz.func68,Tryz.ntmps68
  go_wp2
  go_loopw [1,5] (fun a i wr=> ∃k:Nat,k≤n∧i= .int .i64 (k:Int)∧a= .int .i64 ((m+k*3:Nat):Int)∧(∃ys,wr.ownsRow base 110 3 (.slice (some ⟨g,0,none⟩) n cap) n ys)∧w.grownBy wr (some g)) (fun _ i _=>n-(intOf i).toNat)
  case atStart=>exact ⟨0,Nat.zero_le _,rfl,rfl,⟨_,HO.out⟩,World.grownBy.refl _ _⟩
  case round=>
   obtain ⟨k,hk,rfl,rfl,⟨ys,hown⟩,hg⟩:=hrel
   have HG:=Lib.hid hg;clear hg
   have HO2:=Lib.hid hown
   have hyl:=hown.1
   clear hown
   by_cases hlt:k<n
   ·have ccw: ∀(ww:World) (zs:List Value),ww.ownsRow base 110 3 (.slice (some ⟨g,0,none⟩) n cap) n zs→ ∀j,j<n*3→ ∃u,ww.cell? ⟨g,j,none⟩=some u:=by
     intro ww zs ho j hj
     rw [ho.cellAt j hj,List.getElem?_eq_getElem (by have:=ho.1;omega)];exact ⟨_,rfl⟩
    have CCW:=Lib.hid ccw;clear ccw
    obtain ⟨u0,d0⟩:=CCW.out _ _ HO2.out (k*3) (by omega)
    have z0:=HO2.out.frozenAt (k*3)
    have S1:=Lib.hid (HO2.out.stored (k*3) (.int .i64 ((m+k*3:Nat):Int)))
    generalize hM:((m+k*3:Nat):Int)=M at*
    have hM0:0≤M:=by omega
    have hM1:M≤100000000:=by omega
    have hME:M+1=((m+k*3+1:Nat):Int):=by omega
    have HMM:=Lib.hid hM;have HME:=Lib.hid hME;clear hM hME
    go_wp2_with fail
    rw [HME.out]
    refine (markText_any (m+k*3+1) _ (by omega)).mono ?_
    rintro e w1 ⟨rfl,hb⟩
    have hgb:(wr.setCell ⟨g,k*3,none⟩ (.int .i64 M)).grownBy w1 none:=⟨hb.os,hb.tape,hb.output,hb.size,fun i hi _=>hb.block i hi⟩
    have O1:=Lib.hid (S1.out.1.kept hgb (.inr (by simp [Value.ownBlock])))
    have G1:=Lib.hid (grownT HG.out (grownT S1.out.2 ⟨hb.os,hb.tape,hb.output,hb.size,fun i hi _=>hb.block i hi⟩))
    clear hb hgb S1
    obtain ⟨u1,e1⟩:=CCW.out _ _ O1.out (k*3+1) (by omega)
    obtain ⟨u2,e2⟩:=CCW.out _ _ O1.out (k*3+2) (by omega)
    have y1:=O1.out.frozenAt (k*3+1)
    have y2:=O1.out.frozenAt (k*3+2)
    have S2:=Lib.hid (O1.out.stored (k*3+1) (.string (markB (m+k*3+1))))
    have S3:=Lib.hid (S2.out.1.stored (k*3+2) (.int .i64 (M+1+1)))
    have G3:=Lib.hid (grownT (grownT G1.out S2.out.2) S3.out.2)
    have O3:=Lib.hid S3.out.1
    generalize markB (m+k*3+1)=mb at*
    have HME2:=Lib.hid HME.out
    rw [←HME.out]
    clear S2 S3 O1 G1 CCW
    go_wp2
    go_roundw
    case rel=>exact ⟨k+1,by omega,by go_num,by rw [show ((m+(k+1)*3:Nat):Int)=M+1+1+1 by have:=HMM.out;omega],⟨_,O3.out⟩,G3.out⟩
    case measure=>simp [intOf];omega
   ·obtain rfl:k=n:=by omega
    go_wp2
    go_ret
    exact ⟨rfl,HG.out⟩
end Go.Proofs.YtegdjjjpoahamaaGreatDoor
