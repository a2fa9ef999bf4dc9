/-
  laws.markCellS and heldCellS: what is marked, and that it is found again.
-/
import Derived.Test.YtegdjjjpoahamaaGreatDoorBaseE
import Derived.Test.YtegdjjjpoahamaaGreatDoorToCellS
import Derived.Test.YtegdjjjpoahamaaGreatDoorMark
set_option linter.unusedVariables false
set_option maxHeartbeats 4000000
set_option maxRecDepth 100000
namespace Go.Proofs.YtegdjjjpoahamaaGreatDoor
open Go.RowKit
theorem flatC_set (l:List Cl): ∀(k:Nat) (h:k<l.length) (a c:Int) (s:ByteArray),(((flatC l).set (k*3) (.int .i64 a)).set (k*3+1) (.string s)).set (k*3+2) (.int .i64 c)=flatC (l.set k (a,s,c)):=by
 induction l with
 |nil=>intro k h;simp at h
 |cons x t ih=>
  intro k h a c s
  have e: ∀(b:Cl) (r:List Cl),flatC (b::r)= .int .i64 b.1:: .string b.2.1:: .int .i64 b.2.2::flatC r:=fun b r=>by simp [flatC]
  cases k with
  |zero=>rw [e];simp [e]
  |succ k=>
   have hk:k<t.length:=by simpa using h
   rw [e,show (k+1)*3=k*3+1+1+1 by omega,show k*3+1+1+1+1=(k*3+1)+1+1+1 by omega,show k*3+1+1+1+2=(k*3+2)+1+1+1 by omega]
   simp only [List.set_cons_succ]
   rw [ih k hk a c s,e]
def mkC (m j:Nat):Cl:=(((m+j*3:Nat):Int),markB (m+j*3+1),((m+j*3+2:Nat):Int))
def marksC (m n:Nat):List Cl:=(List.range n).map (mkC m)
theorem marksC_length (m n:Nat):(marksC m n).length=n:=by simp [marksC]
theorem marksC_at (m n k:Nat) (h:k<(marksC m n).length):(marksC m n)[k]=mkC m k:=by simp [marksC]
def mkdC (m k:Nat) (L:List Cl):List Cl:=marksC m k++L.drop k
theorem mkdC_length (m k:Nat) (L:List Cl) (h:k≤L.length):(mkdC m k L).length=L.length:=by
 rw [mkdC,List.length_append,marksC_length,List.length_drop];omega
theorem mkdC_next (m k:Nat) (L:List Cl) (h:k<L.length):(mkdC m k L).set k (mkC m k)=mkdC m (k+1) L:=by
 unfold mkdC
 rw [List.set_append_right _ _ (by rw [marksC_length];exact Nat.le_refl _),marksC_length,Nat.sub_self,List.drop_eq_getElem_cons h,List.set_cons_zero]
 simp [marksC,List.range_succ]
theorem markCellS_full (base m:Nat) (v:Value) (L:List Cl) (w:World) (hm:m≤100000000) (hn:L.length≤1048576) (hown:w.ownsRow base 110 3 v L.length (flatC L)):
  Calls Tryz.prog 68 #[v, .int .i64 (m:Int)] w fun e w'=>e= .returned (.int .i64 ((m+L.length*3:Nat):Int))∧w'.ownsRow base 110 3 v L.length (flatC (marksC m L.length))∧w.grownBy w' v.ownBlock:=by
 rcases hown.2 with ⟨rfl,h0⟩|⟨g,cap,cur,rfl,hbg,hh,hnc,hcm,hcs,htake⟩
 ·rw [h0]
  go_enter Tryz.func68,Tryz.ntmps68
  go_wp2
  refine wp_loop_rounds 1 ?_
  rw [rounds_succ]
  go_wp2
  go_ret
  exact ⟨rfl,World.ownsRow_nil _ _ _ _,World.grownBy.refl _ _⟩
 ·have HO:=Lib.hid hown
  unfold maxLen at hcm
  clear hown hh hcs htake
  go_enter Tryz.func68,Tryz.ntmps68
  go_wp2
  go_loopw [1,5] (fun a i wr=> ∃k:Nat,k≤L.length∧i= .int .i64 (k:Int)∧a= .int .i64 ((m+k*3:Nat):Int)∧wr.ownsRow base 110 3 (.slice (some ⟨g,0,none⟩) L.length cap) L.length (flatC (mkdC m k L))∧w.grownBy wr (some g)) (fun _ i _=>L.length-(intOf i).toNat)
  case atStart=>exact ⟨0,Nat.zero_le _,rfl,rfl,by rw [show mkdC m 0 L=L by simp [mkdC,marksC]];exact HO.out,World.grownBy.refl _ _⟩
  case round=>
   obtain ⟨k,hk,rfl,rfl,hown,hg⟩:=hrel
   have HG:=Lib.hid hg;clear hg
   have HO2:=Lib.hid hown
   clear hown
   by_cases hlt:k<L.length
   ·have ccw: ∀(ww:World) (zs:List Value),ww.ownsRow base 110 3 (.slice (some ⟨g,0,none⟩) L.length cap) L.length zs→ ∀j,j<L.length*3→ ∃u,ww.cell? ⟨g,j,none⟩=some u:=by
     intro ww zs ho j hj
     rw [ho.cellAt j hj,List.getElem?_eq_getElem (by have:=ho.1;omega)];exact ⟨_,rfl⟩
    have CCW:=Lib.hid ccw;clear ccw
    have HNX:=Lib.hid (show (((flatC (mkdC m k L)).set (k*3) (.int .i64 ((m+k*3:Nat):Int))).set (k*3+1) (.string (markB (m+k*3+1)))).set (k*3+2) (.int .i64 ((m+k*3+2:Nat):Int))=flatC (mkdC m (k+1) L) by
     rw [flatC_set _ k (by rw [mkdC_length _ _ _ hk];exact hlt),←mkdC_next m k L hlt];rfl)
    obtain ⟨u0,d0⟩:=CCW.out _ _ HO2.out (k*3) (by omega)
    have z0:=HO2.out.frozenAt (k*3)
    have S1:=Lib.hid (HO2.out.stored (k*3) (.int .i64 ((m+k*3:Nat):Int)))
    have hE2:((m+k*3+2:Nat):Int)=((m+k*3:Nat):Int)+1+1:=by omega
    rw [hE2] at HNX
    generalize hM:((m+k*3:Nat):Int)=M at*
    have hM0:0≤M:=by omega
    have hM1:M≤200000000:=by omega
    have hME:M+1=((m+k*3+1:Nat):Int):=by omega
    have HMM:=Lib.hid hM;have HME:=Lib.hid hME;clear hM hME hE2
    go_wp2_with fail
    rw [HME.out]
    refine (markText_any (m+k*3+1) _ (by omega)).mono ?_
    rintro e w1 ⟨rfl,hb⟩
    have hgb:(wr.setCell ⟨g,k*3,none⟩ (.int .i64 M)).grownBy w1 none:=⟨hb.os,hb.tape,hb.output,hb.size,fun i hi _=>hb.block i hi⟩
    have O1:=Lib.hid (S1.out.1.kept hgb (.inr (by simp [Value.ownBlock])))
    have G1:=Lib.hid (grownT HG.out (grownT S1.out.2 ⟨hb.os,hb.tape,hb.output,hb.size,fun i hi _=>hb.block i hi⟩))
    clear hb hgb S1
    obtain ⟨u1,e1⟩:=CCW.out _ _ O1.out (k*3+1) (by omega)
    obtain ⟨u2,e2⟩:=CCW.out _ _ O1.out (k*3+2) (by omega)
    have y1:=O1.out.frozenAt (k*3+1)
    have y2:=O1.out.frozenAt (k*3+2)
    have S2:=Lib.hid (O1.out.stored (k*3+1) (.string (markB (m+k*3+1))))
    have S3:=Lib.hid (S2.out.1.stored (k*3+2) (.int .i64 (M+1+1)))
    have G3:=Lib.hid (grownT (grownT G1.out S2.out.2) S3.out.2)
    have O3:=Lib.hid (show _ from HNX.out▸S3.out.1)
    generalize markB (m+k*3+1)=mb at*
    have HME2:=Lib.hid HME.out
    rw [←HME.out]
    clear S2 S3 O1 G1 CCW HNX
    go_wp2
    go_roundw
    case rel=>exact ⟨k+1,by omega,by go_num,by rw [show ((m+(k+1)*3:Nat):Int)=M+1+1+1 by have:=HMM.out;omega],O3.out,G3.out⟩
    case measure=>simp [intOf];omega
   ·obtain rfl:k=L.length:=by omega
    have HA:=Lib.hid (show mkdC m L.length L=marksC m L.length by rw [mkdC,List.drop_eq_nil_of_le (Nat.le_refl _),List.append_nil])
    go_wp2
    go_ret
    exact ⟨rfl,by have:=HO2.out;rwa [HA.out] at this,HG.out⟩
end Go.Proofs.YtegdjjjpoahamaaGreatDoor
