/-
  laws.eqCellS at two slices of the same cells.
-/
import Derived.Test.YtegdjjjpoahamaaGreatDoorToCellS
set_option linter.unusedVariables false
set_option maxHeartbeats 4000000
set_option maxRecDepth 100000
namespace Go.Proofs.YtegdjjjpoahamaaGreatDoor
open Go.RowKit
theorem eqCellS_same (v1 v2:Value) (l:List Cl) (w:World) (h1:RowC w v1 l) (h2:RowC w v2 l):
 Calls Tryz.prog 99 #[v1,v2] w fun e w'=>e= .returned (.bool true)∧Below w.heap.size w w':=by
 obtain ⟨a1,c1,rfl,l1,m1,r1⟩:=h1
 obtain ⟨a2,c2,rfl,l2,m2,r2⟩:=h2
 unfold maxLen at m1 m2
 have R1:=Lib.hid r1;have R2:=Lib.hid r2
 clear r1 r2
 go_enter Tryz.func99,Tryz.ntmps99
 go_wp2
 go_loopw [5] (fun i wr=> ∃k:Nat,k≤l.length∧i= .int .i64 (k:Int)∧Below w.heap.size w wr) (fun i _=>l.length-(intOf i).toNat)
 case atStart=>exact ⟨0,Nat.zero_le _,rfl,Below.refl _ _⟩
 case round=>
  obtain ⟨k,hk,rfl,hb⟩:=hrel
  have HB:=Lib.hid hb;clear hb
  by_cases hlt:k<l.length
  ·obtain ⟨b1,o1,hA1,lt1,cc1⟩:=R1.out.resolve_left (by rintro rfl;simp at hlt)
   obtain ⟨b2,o2,hA2,lt2,cc2⟩:=R2.out.resolve_left (by rintro rfl;simp at hlt)
   subst hA1 hA2
   obtain ⟨p0,p1,p2⟩:=cc1 k hlt
   obtain ⟨q0,q1,q2⟩:=cc2 k hlt
   have d0:=(HB.out.cell (p:=⟨b1,_,none⟩) lt1).trans p0
   have d1:=(HB.out.cell (p:=⟨b1,_,none⟩) lt1).trans p1
   have d2:=(HB.out.cell (p:=⟨b1,_,none⟩) lt1).trans p2
   have g0:=(HB.out.cell (p:=⟨b2,_,none⟩) lt2).trans q0
   have g1:=(HB.out.cell (p:=⟨b2,_,none⟩) lt2).trans q1
   have g2:=(HB.out.cell (p:=⟨b2,_,none⟩) lt2).trans q2
   generalize l[k].1=kk at d0 g0
   generalize l[k].2.1=ss at d1 g1
   generalize l[k].2.2=mm at d2 g2
   have hw1:b1<wr.heap.size:=by have:=HB.out.size;omega
   have hw2:b2<wr.heap.size:=by have:=HB.out.size;omega
   clear cc1 cc2 p0 p1 p2 q0 q1 q2
   have bk0:(0:Int)≤(k:Int):=by omega
   have bk1:(k:Int)<(l.length:Int):=by omega
   go_wp2_with fail
   go_region_held3 (fun w'=>w'.cell? ⟨b1,o1+k*3,none⟩=some (.int .i64 kk)∧w'.cell? ⟨b1,o1+k*3+1,none⟩=some (.string ss)∧w'.cell? ⟨b1,o1+k*3+2,none⟩=some (.int .i64 mm)∧w'.cell? ⟨b2,o2+k*3,none⟩=some (.int .i64 kk)∧w'.cell? ⟨b2,o2+k*3+1,none⟩=some (.string ss)∧w'.cell? ⟨b2,o2+k*3+2,none⟩=some (.int .i64 mm))
    (first
      |go_keep
      |(go_split_ands
        refine ⟨?_, ?_, ?_, ?_, ?_, ?_⟩
        ·(rw [hb1.cell (by exact hw1)];assumption)
        ·(rw [hb1.cell (by exact hw1)];assumption)
        ·(rw [hb1.cell (by exact hw1)];assumption)
        ·(rw [hb1.cell (by exact hw2)];assumption)
        ·(rw [hb1.cell (by exact hw2)];assumption)
        ·(rw [hb1.cell (by exact hw2)];assumption)))
    ((go_at_call 147;refine (eqCell_same _ _ _ _).mono ?_;rintro e w1 ⟨rfl,hb1⟩))
   go_wp2
   go_roundw
   case rel=>exact ⟨k+1,by omega,by go_num,HB.out.drew.trans (hb1.mono HB.out.size)⟩
   case measure=>simp [intOf];omega
  ·go_wp2
   go_ret
   exact ⟨rfl,HB.out⟩
end Go.Proofs.YtegdjjjpoahamaaGreatDoor
