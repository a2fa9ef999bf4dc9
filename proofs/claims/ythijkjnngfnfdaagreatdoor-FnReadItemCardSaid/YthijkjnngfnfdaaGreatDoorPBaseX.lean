/-
  Several texts of the proof in one file: NumWord, CellI, ah7, Grow, Depth, ExprI.
-/
import Derived.Test.YthijkjnngfnfdaaGreatDoorZz
import Derived.Test.YthijkjnngfnfdaaGreatDoorPBaseE
import Derived.Test.YthijkjnngfnfdaaGreatDoorPBaseA
import Derived.Test.YthijkjnngfnfdaaGreatDoorPBaseI
import Derived.Test.YthijkjnngfnfdaaGreatDoorPBaseC
import Derived.Below
import Derived.Laws.OwnMore
import Derived.Laws.Rows
import Derived.OwnWalk
import Derived.Deep.Onto
import Derived.Deep.Draws
import Derived.Deep.AppendLies
import Derived.Deep.RegionHeld3
import Derived.RegionTactic
import Derived.Deep.RegionLaw
import Derived.Deep.DrawnRows
import Derived.Deep.QuietTactic
import Derived.BigQuiet
set_option linter.unusedVariables false
set_option maxHeartbeats 4000000
set_option maxRecDepth 100000
namespace Go.Proofs.YthijkjnngfnfdaaGreatDoor
open Go.RowKit
theorem p7 (s:ByteArray) (w:World) (hs:s.size≤2097152) (htab:Tab w):
  Calls Tryz.prog 200 #[.string s] w fun e w'=>e= .returned (.bool (lR s))∧Below w.heap.size w w':=by
 have ci:=mX s w hs htab
 cases ho:gn s with
 |false=>
  have HB:=aim (show lR s=false by simp [lR,ho]);rw [HB.out];rw [ho] at ci;generalize rdT s=T at ci;generalize rdB s=B at ci;have CI:=aim ci;clear ci ho
  go_enter Tryz.func200,Tryz.ntmps200
  go_wp2_with fail;refine (CI.out).mono ?_;rintro e w1 ⟨rfl,hb1⟩;have B1:=aim hb1;clear hb1;go_wp2;go_ret;exact ⟨rfl,B1.out.alloc B1.out.size _⟩
 |true=>
  obtain ⟨b1,b2⟩:=oq s ho
  have HN:lR s=(decide (0≤rdT s)&&((1000000:Int).tmod (rdB s)==0)):=by simp [lR,ho]
  rw [ho] at ci;generalize rdT s=T at ci HN;generalize rdB s=B at ci HN b1 b2;obtain ⟨b,rfl⟩:=aiq (show 0≤B by omega)
  by_cases h0:0≤T
  ·have HM:=aim (show lR s=decide (1000000 % b=0) by
    rw [HN,decide_eq_true h0,Bool.true_and,show (1000000:Int).tmod (b:Int)=((1000000 % b:Nat):Int) from tm 1000000 b,Bool.eq_iff_iff,beq_iff_eq,decide_eq_true_eq];omega)
   rw [HM.out];have CI:=aim ci;clear ci HN ho
   go_enter Tryz.func200,Tryz.ntmps200
   go_wp2_with fail;refine (CI.out).mono ?_;rintro e w1 ⟨rfl,hb1⟩;have B1:=aim (hb1.alloc hb1.size (.cells #[.int .i64 T, .int .i64 (b:Int)] 165));clear hb1;go_wp2_with fail;refine (nR T b _ (by omega)).mono ?_;rintro e w2 ⟨rfl,hb2⟩;have B2:=aim (B1.out.trans (hb2.mono B1.out.size));clear hb2;go_wp2;go_ret;exact ⟨rfl,B2.out⟩
  ·have HM:=aim (show lR s=false by rw [HN,decide_eq_false h0];rfl)
   rw [HM.out];have CI:=aim ci;clear ci HN ho
   go_enter Tryz.func200,Tryz.ntmps200
   go_wp2_with fail;refine (CI.out).mono ?_;rintro e w1 ⟨rfl,hb1⟩;have B1:=aim hb1;clear hb1;go_wp2;go_ret;exact ⟨rfl,B1.out.alloc B1.out.size _⟩
theorem ah4 {w w1:World} {k m:Int} {s:ByteArray} {t:TypeId} (hb:Below (w.alloc (.cells #[.int .i64 k, .string s, .int .i64 m] t)).heap.size (w.alloc (.cells #[.int .i64 k, .string s, .int .i64 m] t)) w1):
  w1.cell? ⟨w.heap.size,0,none⟩=some (.int .i64 k)∧w1.cell? ⟨w.heap.size,1,none⟩=some (.string s)∧w1.cell? ⟨w.heap.size,2,none⟩=some (.int .i64 m):=by
 refine ⟨?_, ?_, ?_⟩<;>(rw [hb.cell (by simp)];simp [go_sem])
theorem qY (k:Int) (m:Int) (s:ByteArray) (w:World) (hs:s.size≤maxLen) (hl: ¬s.size≤60):
  Calls Tryz.prog 178 #[.agg #[.int .i64 k, .string s, .int .i64 m]] w fun e w'=>e= .returned (.bool (aJ k s))∧Below w.heap.size w w':=by
 have hf:aJ k s=false:=by rw [Bool.eq_false_iff];exact fun h=>hl (kT k s h)
 rw [hf];clear hf;unfold maxLen at hs
 go_enter Tryz.func178,Tryz.ntmps178
 go_wp2;go_ret;exact ⟨rfl,(Below.refl _ _).alloc (ain _) _⟩
theorem xY (m:Int) (s:ByteArray) (w:World) (hl:s.size≤60) (htab:Tab w):
  Calls Tryz.prog 178 #[.agg #[.int .i64 1, .string s, .int .i64 m]] w fun e w'=>e= .returned (.bool (aJ 1 s))∧Below w.heap.size w w':=by
 rw [show aJ 1 s=lR s by simp [aJ]]
 go_enter Tryz.func178,Tryz.ntmps178
 go_wp2_with fail;refine (p7 s _ (by omega) (htab.al _)).mono ?_;rintro e w1 ⟨rfl,hb1⟩;have B1:=aim (((Below.refl w.heap.size w).alloc (ain _) _).trans (hb1.mono (by simp)));clear hb1;go_wp2;go_ret;exact ⟨rfl,B1.out⟩
theorem xZ (m:Int) (s:ByteArray) (w:World) (hl:s.size≤60):
  Calls Tryz.prog 178 #[.agg #[.int .i64 2, .string s, .int .i64 m]] w fun e w'=>e= .returned (.bool (aJ 2 s))∧Below w.heap.size w w':=by
 rw [show aJ 2 s=aT s by simp [aJ,hl]]
 go_enter Tryz.func178,Tryz.ntmps178
 go_wp2_with fail;refine (cI s _ (by unfold maxLen;omega)).mono ?_;rintro e w' ⟨rfl,rfl⟩;go_wp2;go_ret;exact ⟨rfl,(Below.refl _ _).alloc (ain _) _⟩
theorem x6 (m:Int) (s:ByteArray) (w:World) (hl:s.size≤60):
  Calls Tryz.prog 178 #[.agg #[.int .i64 3, .string s, .int .i64 m]] w fun e w'=>e= .returned (.bool (aJ 3 s))∧Below w.heap.size w w':=by
 by_cases h1:s.data.toList=[116,114,117,101]
 ·have e1:=aS h1
  rw [show aJ 3 s=true by simp [aJ,cN,bX,h1]];clear h1
  go_enter Tryz.func178,Tryz.ntmps178
  go_wp2;go_ret;exact ⟨rfl,(Below.refl _ _).alloc (ain _) _⟩
 ·by_cases h2:s.data.toList=[102,97,108,115,101]
  ·have e1:=af h1;have e2:=aS h2
   rw [show aJ 3 s=true by simp [aJ,cN,bX,h2]];clear h1 h2
   go_enter Tryz.func178,Tryz.ntmps178
   go_wp2;go_ret;exact ⟨rfl,(Below.refl _ _).alloc (ain _) _⟩
  ·have e1:=af h1;have e2:=af h2
   rw [show aJ 3 s=false by simp [aJ,cN,bX,h1,h2]];clear h1 h2
   go_enter Tryz.func178,Tryz.ntmps178
   go_wp2;go_ret;exact ⟨rfl,(Below.refl _ _).alloc (ain _) _⟩
theorem x7 (m:Int) (s:ByteArray) (w:World) (hl:s.size≤60):
  Calls Tryz.prog 178 #[.agg #[.int .i64 7, .string s, .int .i64 m]] w fun e w'=>e= .returned (.bool (aJ 7 s))∧Below w.heap.size w w':=by
 by_cases h1:s.data.toList=[33]
 ·have e1:=aS h1
  rw [show aJ 7 s=true by simp [aJ,h1]];clear h1
  go_enter Tryz.func178,Tryz.ntmps178
  go_wp2;go_ret;exact ⟨rfl,(Below.refl _ _).alloc (ain _) _⟩
 ·by_cases h2:s.data.toList=[45]
  ·have e1:=af h1;have e2:=aS h2
   rw [show aJ 7 s=true by simp [aJ,h2]];clear h1 h2
   go_enter Tryz.func178,Tryz.ntmps178
   go_wp2;go_ret;exact ⟨rfl,(Below.refl _ _).alloc (ain _) _⟩
  ·have e1:=af h1;have e2:=af h2
   rw [show aJ 7 s=false by simp [aJ,h1,h2]];clear h1 h2
   go_enter Tryz.func178,Tryz.ntmps178
   go_wp2;go_ret;exact ⟨rfl,(Below.refl _ _).alloc (ain _) _⟩
theorem x8 (m:Int) (s:ByteArray) (w:World) (hl:s.size≤60):
  Calls Tryz.prog 178 #[.agg #[.int .i64 4, .string s, .int .i64 m]] w fun e w'=>e= .returned (.bool (aJ 4 s))∧Below w.heap.size w w':=by
 rw [show aJ 4 s=dn s.data.toList by simp [aJ,hl]]
 go_enter Tryz.func178,Tryz.ntmps178
 go_wp2_with fail;refine (qm s _ (by unfold maxLen;omega)).mono ?_;rintro e w1 ⟨rfl,hb1⟩;have B1:=aim (((Below.refl w.heap.size w).alloc (ain _) _).trans (hb1.mono (by simp)));clear hb1;go_wp2;go_ret;exact ⟨rfl,B1.out⟩
theorem x9 (m:Int) (s:ByteArray) (w:World) (hl:s.size≤60):
  Calls Tryz.prog 178 #[.agg #[.int .i64 6, .string s, .int .i64 m]] w fun e w'=>e= .returned (.bool (aJ 6 s))∧Below w.heap.size w w':=by
 rw [show aJ 6 s=gi s by simp [aJ,gi]]
 go_enter Tryz.func178,Tryz.ntmps178
 go_wp2_with fail;refine (dB s _ (by unfold maxLen;omega)).mono ?_;rintro e w1 ⟨rfl,rfl⟩;go_wp2;go_ret;exact ⟨rfl,(Below.refl _ _).alloc (ain _) _⟩
theorem yb (m:Int) (s:ByteArray) (w:World) (hl:s.size≤60):
  Calls Tryz.prog 178 #[.agg #[.int .i64 8, .string s, .int .i64 m]] w fun e w'=>e= .returned (.bool (aJ 8 s))∧Below w.heap.size w w':=by
 rw [show aJ 8 s=decide (0<aj s.data.toList) by simp [aJ]]
 go_enter Tryz.func178,Tryz.ntmps178
 go_wp2_with fail;refine (pQ s _).mono ?_;rintro e w' ⟨rfl,rfl⟩;go_wp2;go_ret;exact ⟨rfl,(Below.refl _ _).alloc (ain _) _⟩
theorem yd (m:Int) (s:ByteArray) (w:World) (hl:s.size≤60):
  Calls Tryz.prog 178 #[.agg #[.int .i64 5, .string s, .int .i64 m]] w fun e w'=>e= .returned (.bool (aJ 5 s))∧Below w.heap.size w w':=by
 cases hs:s.data.toList with
 |nil=>
  rw [show aJ 5 s=true by simp [aJ,hs]];have e1:=aS hs
  have e2:s.toList=[]:=by rw [ByteArray.toList_eq];exact hs
  have e3:s.toList.isEmpty=true:=by rw [e2];rfl
  have e4:(!s.toList.isEmpty)=false:=by rw [e2];rfl
  clear hs
  go_enter Tryz.func178,Tryz.ntmps178
  go_wp2;go_ret;exact ⟨fE (by simp [*]),(Below.refl _ _).alloc (ain _) _⟩
 |cons b t=>
  rw [show aJ 5 s=false by simp [aJ,hs]];have e1:(s.toList==[])=false:=af (by rw [hs];simp)
  have e2:s.toList≠[]:=by rw [ByteArray.toList_eq,hs];simp
  have e3:s.toList.isEmpty=false:=by rw [ByteArray.toList_eq,hs];rfl
  have e4:(!s.toList.isEmpty)=true:=by rw [e3];rfl
  clear hs
  go_enter Tryz.func178,Tryz.ntmps178
  go_wp2;go_ret;exact ⟨fE (by simp [*]),(Below.refl _ _).alloc (ain _) _⟩
theorem ye (m:Int) (s:ByteArray) (w:World) (hl:s.size≤60):
  Calls Tryz.prog 178 #[.agg #[.int .i64 9, .string s, .int .i64 m]] w fun e w'=>e= .returned (.bool (aJ 9 s))∧Below w.heap.size w w':=by
 cases hs:s.data.toList with
 |nil=>
  rw [show aJ 9 s=true by simp [aJ,hs]];have e1:=aS hs
  have e2:s.toList=[]:=by rw [ByteArray.toList_eq];exact hs
  have e3:s.toList.isEmpty=true:=by rw [e2];rfl
  have e4:(!s.toList.isEmpty)=false:=by rw [e2];rfl
  clear hs
  go_enter Tryz.func178,Tryz.ntmps178
  go_wp2;go_ret;exact ⟨fE (by simp [*]),(Below.refl _ _).alloc (ain _) _⟩
 |cons b t=>
  rw [show aJ 9 s=false by simp [aJ,hs]];have e1:(s.toList==[])=false:=af (by rw [hs];simp)
  have e2:s.toList≠[]:=by rw [ByteArray.toList_eq,hs];simp
  have e3:s.toList.isEmpty=false:=by rw [ByteArray.toList_eq,hs];rfl
  have e4:(!s.toList.isEmpty)=true:=by rw [e3];rfl
  clear hs
  go_enter Tryz.func178,Tryz.ntmps178
  go_wp2;go_ret;exact ⟨fE (by simp [*]),(Below.refl _ _).alloc (ain _) _⟩
theorem vG (k:Int) (m:Int) (s:ByteArray) (w:World) (hl:s.size≤60) (hk: ¬(1≤k∧k≤9)):
  Calls Tryz.prog 178 #[.agg #[.int .i64 k, .string s, .int .i64 m]] w fun e w'=>e= .returned (.bool (aJ k s))∧Below w.heap.size w w':=by
 have hf:aJ k s=false:=by
  unfold aJ
  iterate 9 rw [if_neg (by omega)]
 rw [hf];clear hf;have n1:(k==1)=false:=beq_eq_false_iff_ne.mpr (by omega);have n2:(k==2)=false:=beq_eq_false_iff_ne.mpr (by omega);have n3:(k==3)=false:=beq_eq_false_iff_ne.mpr (by omega);have n4:(k==4)=false:=beq_eq_false_iff_ne.mpr (by omega);have n5:(k==5)=false:=beq_eq_false_iff_ne.mpr (by omega);have n6:(k==6)=false:=beq_eq_false_iff_ne.mpr (by omega);have n7:(k==7)=false:=beq_eq_false_iff_ne.mpr (by omega);have n8:(k==8)=false:=beq_eq_false_iff_ne.mpr (by omega);have n9:(k==9)=false:=beq_eq_false_iff_ne.mpr (by omega);clear hk
 go_enter Tryz.func178,Tryz.ntmps178
 go_wp2;go_ret;exact ⟨rfl,(Below.refl _ _).alloc (ain _) _⟩
theorem vH (k:Int) (h:1≤k∧k≤9):k=1∨k=2∨k=3∨k=4∨k=5∨k=6∨k=7∨k=8∨k=9:=by omega
theorem m7 (k m:Int) (s:ByteArray) (w:World) (hs:s.size≤maxLen) (htab:Tab w):
  Calls Tryz.prog 178 #[.agg #[.int .i64 k, .string s, .int .i64 m]] w fun e w'=>e= .returned (.bool (aJ k s))∧Below w.heap.size w w':=by
 by_cases hl:s.size≤60
 ·by_cases hk:1≤k∧k≤9
  ·rcases vH k hk with rfl|rfl|rfl|rfl|rfl|rfl|rfl|rfl|rfl
   ·exact xY m s w hl htab
   ·exact xZ m s w hl
   ·exact x6 m s w hl
   ·exact x8 m s w hl
   ·exact yd m s w hl
   ·exact x9 m s w hl
   ·exact x7 m s w hl
   ·exact yb m s w hl
   ·exact ye m s w hl
  ·exact vG k m s w hl hk
 ·exact qY k m s w hs hl
theorem yf (m:Int) (s:ByteArray) (w:World):
  Calls Tryz.prog 179 #[.agg #[.int .i64 1, .string s, .int .i64 m]] w fun e w'=>e= .returned (.bool (bg 1 m))∧Below w.heap.size w w':=by
 rw [show bg 1 m=(m==0) by simp [bg]]
 go_enter Tryz.func179,Tryz.ntmps179
 go_wp2;go_ret;exact ⟨rfl,(Below.refl _ _).alloc (ain _) _⟩
theorem yg (m:Int) (s:ByteArray) (w:World):
  Calls Tryz.prog 179 #[.agg #[.int .i64 2, .string s, .int .i64 m]] w fun e w'=>e= .returned (.bool (bg 2 m))∧Below w.heap.size w w':=by
 rw [show bg 2 m=(m==0) by simp [bg]]
 go_enter Tryz.func179,Tryz.ntmps179
 go_wp2;go_ret;exact ⟨rfl,(Below.refl _ _).alloc (ain _) _⟩
theorem yh (m:Int) (s:ByteArray) (w:World):
  Calls Tryz.prog 179 #[.agg #[.int .i64 3, .string s, .int .i64 m]] w fun e w'=>e= .returned (.bool (bg 3 m))∧Below w.heap.size w w':=by
 rw [show bg 3 m=(m==0) by simp [bg]]
 go_enter Tryz.func179,Tryz.ntmps179
 go_wp2;go_ret;exact ⟨rfl,(Below.refl _ _).alloc (ain _) _⟩
theorem yi (m:Int) (s:ByteArray) (w:World):
  Calls Tryz.prog 179 #[.agg #[.int .i64 4, .string s, .int .i64 m]] w fun e w'=>e= .returned (.bool (bg 4 m))∧Below w.heap.size w w':=by
 rw [show bg 4 m=(m==0) by simp [bg]]
 go_enter Tryz.func179,Tryz.ntmps179
 go_wp2;go_ret;exact ⟨rfl,(Below.refl _ _).alloc (ain _) _⟩
theorem yj (m:Int) (s:ByteArray) (w:World):
  Calls Tryz.prog 179 #[.agg #[.int .i64 7, .string s, .int .i64 m]] w fun e w'=>e= .returned (.bool (bg 7 m))∧Below w.heap.size w w':=by
 rw [show bg 7 m=(m==1) by simp [bg]]
 go_enter Tryz.func179,Tryz.ntmps179
 go_wp2;go_ret;exact ⟨rfl,(Below.refl _ _).alloc (ain _) _⟩
theorem yk (m:Int) (s:ByteArray) (w:World):
  Calls Tryz.prog 179 #[.agg #[.int .i64 8, .string s, .int .i64 m]] w fun e w'=>e= .returned (.bool (bg 8 m))∧Below w.heap.size w w':=by
 rw [show bg 8 m=(m==2) by simp [bg]]
 go_enter Tryz.func179,Tryz.ntmps179
 go_wp2;go_ret;exact ⟨rfl,(Below.refl _ _).alloc (ain _) _⟩
theorem yl (m:Int) (s:ByteArray) (w:World):
  Calls Tryz.prog 179 #[.agg #[.int .i64 9, .string s, .int .i64 m]] w fun e w'=>e= .returned (.bool (bg 9 m))∧Below w.heap.size w w':=by
 rw [show bg 9 m=(m==3) by simp [bg]]
 go_enter Tryz.func179,Tryz.ntmps179
 go_wp2;go_ret;exact ⟨rfl,(Below.refl _ _).alloc (ain _) _⟩
theorem ym (m:Int) (s:ByteArray) (w:World):
  Calls Tryz.prog 179 #[.agg #[.int .i64 5, .string s, .int .i64 m]] w fun e w'=>e= .returned (.bool (bg 5 m))∧Below w.heap.size w w':=by
 rw [show bg 5 m=(decide (0≤m)&&decide (m≤8)) by simp [bg]]
 by_cases h0:0≤m
 ·by_cases h8:m≤8
  ·rw [decide_eq_true h0,decide_eq_true h8]
   go_enter Tryz.func179,Tryz.ntmps179
   go_wp2;go_ret;exact ⟨rfl,(Below.refl _ _).alloc (ain _) _⟩
  ·rw [decide_eq_true h0,decide_eq_false h8]
   go_enter Tryz.func179,Tryz.ntmps179
   go_wp2;go_ret;exact ⟨rfl,(Below.refl _ _).alloc (ain _) _⟩
 ·rw [decide_eq_false h0]
  go_enter Tryz.func179,Tryz.ntmps179
  go_wp2;go_ret;exact ⟨rfl,(Below.refl _ _).alloc (ain _) _⟩
theorem yo (m:Int) (s:ByteArray) (w:World):
  Calls Tryz.prog 179 #[.agg #[.int .i64 6, .string s, .int .i64 m]] w fun e w'=>e= .returned (.bool (bg 6 m))∧Below w.heap.size w w':=by
 rw [show bg 6 m=(decide (0≤m)&&decide (m≤8)) by simp [bg]]
 by_cases h0:0≤m
 ·by_cases h8:m≤8
  ·rw [decide_eq_true h0,decide_eq_true h8]
   go_enter Tryz.func179,Tryz.ntmps179
   go_wp2;go_ret;exact ⟨rfl,(Below.refl _ _).alloc (ain _) _⟩
  ·rw [decide_eq_true h0,decide_eq_false h8]
   go_enter Tryz.func179,Tryz.ntmps179
   go_wp2;go_ret;exact ⟨rfl,(Below.refl _ _).alloc (ain _) _⟩
 ·rw [decide_eq_false h0]
  go_enter Tryz.func179,Tryz.ntmps179
  go_wp2;go_ret;exact ⟨rfl,(Below.refl _ _).alloc (ain _) _⟩
theorem vI (k:Int) (m:Int) (s:ByteArray) (w:World) (hk: ¬(1≤k∧k≤9)):
  Calls Tryz.prog 179 #[.agg #[.int .i64 k, .string s, .int .i64 m]] w fun e w'=>e= .returned (.bool (bg k m))∧Below w.heap.size w w':=by
 have hf:bg k m=false:=by
  unfold bg
  iterate 5 rw [if_neg (by omega)]
 rw [hf];clear hf;have n1:(k==1)=false:=beq_eq_false_iff_ne.mpr (by omega);have n2:(k==2)=false:=beq_eq_false_iff_ne.mpr (by omega);have n3:(k==3)=false:=beq_eq_false_iff_ne.mpr (by omega);have n4:(k==4)=false:=beq_eq_false_iff_ne.mpr (by omega);have n5:(k==5)=false:=beq_eq_false_iff_ne.mpr (by omega);have n6:(k==6)=false:=beq_eq_false_iff_ne.mpr (by omega);have n7:(k==7)=false:=beq_eq_false_iff_ne.mpr (by omega);have n8:(k==8)=false:=beq_eq_false_iff_ne.mpr (by omega);have n9:(k==9)=false:=beq_eq_false_iff_ne.mpr (by omega);clear hk
 go_enter Tryz.func179,Tryz.ntmps179
 go_wp2;go_ret;exact ⟨rfl,(Below.refl _ _).alloc (ain _) _⟩
theorem th (k m:Int) (s:ByteArray) (w:World):
  Calls Tryz.prog 179 #[.agg #[.int .i64 k, .string s, .int .i64 m]] w fun e w'=>e= .returned (.bool (bg k m))∧Below w.heap.size w w':=by
 by_cases hk:1≤k∧k≤9
 ·rcases vH k hk with rfl|rfl|rfl|rfl|rfl|rfl|rfl|rfl|rfl
  ·exact yf m s w
  ·exact yg m s w
  ·exact yh m s w
  ·exact yi m s w
  ·exact ym m s w
  ·exact yo m s w
  ·exact yj m s w
  ·exact yk m s w
  ·exact yl m s w
 ·exact vI k m s w hk
theorem p8 (k m:Int) (s:ByteArray) (w:World) (hs:s.size≤maxLen) (htab:Tab w):
  Calls Tryz.prog 149 #[.agg #[.int .i64 k, .string s, .int .i64 m]] w fun e w'=>e= .returned (.bool (aQ k s m))∧Below w.heap.size w w':=by
 cases hw:aJ k s with
 |false=>
  rw [show aQ k s m=false by simp [aQ,hw]];have HW:=aim hw;clear hw
  go_enter Tryz.func149,Tryz.ntmps149
  go_wp2_with fail;refine (m7 k m s _ hs (htab.al _)).mono ?_;rintro e w1 ⟨rfl,hb1⟩;have B1:=aim (((Below.refl w.heap.size w).alloc (ain _) _).trans (hb1.mono (by simp)));clear hb1;rw [HW.out];go_wp2;go_ret;exact ⟨rfl,B1.out⟩
 |true=>
  rw [show aQ k s m=bg k m by simp [aQ,hw]];have HW:=aim hw;clear hw
  go_enter Tryz.func149,Tryz.ntmps149
  go_wp2_with fail;refine (m7 k m s _ hs (htab.al _)).mono ?_;rintro e w1 ⟨rfl,hb1⟩;obtain ⟨d0,d1,d2⟩:=ah4 hb1;have B1:=aim (((Below.refl w.heap.size w).alloc (ain _) _).trans (hb1.mono (by simp)));clear hb1;rw [HW.out];go_wp2_with fail;refine (th k m s _).mono ?_;rintro e w2 ⟨rfl,hb2⟩;have B2:=aim (B1.out.trans (hb2.mono B1.out.size));clear hb2;go_wp2;go_ret;exact ⟨rfl,B2.out⟩
def BlkN (w:World) (g:Nat) (cs:Array Value):Prop:=w.heap[g]? =some (.cells cs 188 (0,0))
section
variable {w w':World} {g:Nat} {cs:Array Value}
theorem BlkN.lt (h:BlkN w g cs):g<w.heap.size:=by
 rcases Nat.lt_or_ge g w.heap.size with hlt|hge
 ·exact hlt
 ·unfold BlkN at h;rw [Array.getElem?_eq_none hge] at h;cases h
theorem BlkN.cell (h:BlkN w g cs) (i:Nat):w.cell? ⟨g,i,none⟩=cs[i]? :=cell_of_row w g i cs _ (0,0) h
theorem BlkN.frozen (h:BlkN w g cs) (i:Nat):w.frozen? ⟨g,i,none⟩=false:=by
 unfold BlkN at h
 simp [World.frozen?,h]
theorem BlkN.new (w:World) (cs:Array Value):BlkN (w.alloc (.cells cs 188)) w.heap.size cs:=heap_alloc_new w _
theorem BlkN.keep (h:BlkN w g cs) (hb:Below w.heap.size w w'):BlkN w' g cs:=(hb.block g h.lt).trans h
theorem BlkN.alloc (h:BlkN w g cs) (o:Obj):BlkN (w.alloc o) g cs:=(Below.heap_alloc w o g h.lt).trans h
theorem BlkN.set_ (h:BlkN w g cs) (i:Nat) (u:Value):BlkN (w.setCell ⟨g,i,none⟩ u) g (cs.setIfInBounds i u):=by
 unfold BlkN at h⊢
 simp [World.setCell,Array.getElem?_modify,h]
theorem BlkN.grown {row:Option Nat} (h:BlkN w g cs) (hb:w.grownBy w' row) (hg:some g≠row):BlkN w' g cs:=(hb.block g h.lt hg).trans h
end
def eG (ps:List Nat):List Value:=ps.map fun p=>Value.pointer (some ⟨p,0,none⟩)
theorem kK (ps:List Nat):(eG ps).length=ps.length:=by simp [eG]
theorem rZ (ps:List Nat) (p:Nat):eG (ps++[p])=eG ps++[.pointer (some ⟨p,0,none⟩)]:=by simp [eG]
theorem ti (ps:List Nat) (k:Nat) (h:k<ps.length):(eG ps)[k]? =some (.pointer (some ⟨ps[k],0,none⟩)):=by simp [eG,h]
inductive TrS (w:World) (am:List Nat) (S:Nat→Prop):List Nat→Nat→Nat→Nat→Prop
 |nil (f:Nat):TrS w am S [] f f 0
 |cons {N f m g d t e:Nat} {v:Value} {qs ps:List Nat}:am[f]? =some m→S N→BlkN w N #[.int .i64 (f:Int), .int .i64 (g:Int),v]→w.ownsRow 0 140 1 v m (eG qs)→
   (∀r,v.ownBlock=some r→S r)→TrS w am S qs (f+1) g d→TrS w am S ps g t e→TrS w am S (N::ps) f t (max (d+1) e)
theorem lB {w:World} {base m:Nat} {T:TypeId} {v:Value} {qs:List Nat} (h:w.ownsRow base T 1 v m (eG qs)):qs.length=m:=by
 have:=h.1;rw [kK] at this;omega
theorem TrS.exs {w:World} {am:List Nat} {S:Nat→Prop} {ps:List Nat} {f t d:Nat} (h:TrS w am S ps f t d):Exs am ps.length f t d:=by
 induction h with
 |nil f=>exact .nil f
 | @cons N f m g d t e v qs ps hm hS hb ho hr h1 h2 i1 i2=>
  rw [lB ho] at i1;exact .cons hm i1 i2
theorem TrS.keep {w w':World} {am:List Nat} {S S':Nat→Prop} {ps:List Nat} {f t d:Nat} (h:TrS w am S ps f t d) (hw: ∀b,S b→b<w.heap.size→w'.heap[b]? =w.heap[b]?) (hS: ∀b,S b→b<w.heap.size→S' b):TrS w' am S' ps f t d:=by
 induction h with
 |nil f=>exact .nil f
 | @cons N f m g d t e v qs ps hm hN hb ho hr h1 h2 i1 i2=>
  have hlt:=hb.lt;refine .cons hm (hS N hN hlt) ((hw N hN hlt).trans hb) ?_ (fun r h=>hS r (hr r h) (ho.lt r h).2) i1 i2;refine ⟨ho.1, ?_⟩
  rcases ho.2 with hn|⟨g',cap,cur,rfl,hb',hgg,rest⟩
  ·exact .inl hn
  ·refine .inr ⟨g',cap,cur,rfl,hb', ?_,rest⟩
   rw [hw g' (hr g' rfl) (ho.lt g' rfl).2];exact hgg
theorem TrS.app {w:World} {am:List Nat} {S:Nat→Prop} {ps:List Nat} {f g d:Nat} (h:TrS w am S ps f g d): ∀{qs:List Nat} {t e:Nat},TrS w am S qs g t e→TrS w am S (ps++qs) f t (max d e):=by
 induction h with
 |nil f=>intro qs t e k;rw [Nat.zero_max];exact k
 | @cons N f m g d t e v qs ps hm hN hb ho hr h1 h2 i1 i2=>
  intro qs' t' e' k;rw [Nat.max_assoc];exact .cons hm hN hb ho hr h1 (i2 k)
theorem TrS.one {w:World} {am:List Nat} {S:Nat→Prop} {N f m g d:Nat} {v:Value} {qs:List Nat} (hm:am[f]? =some m) (hN:S N) (hb:BlkN w N #[.int .i64 (f:Int), .int .i64 (g:Int),v]) (ho:w.ownsRow 0 140 1 v m (eG qs))
  (hr: ∀r,v.ownBlock=some r→S r) (h:TrS w am S qs (f+1) g d):TrS w am S [N] f g (d+1):=by
 have:=TrS.cons hm hN hb ho hr h (.nil g)
 rwa [Nat.max_eq_left (by omega)] at this
theorem TrS.inv {w:World} {am:List Nat} {S:Nat→Prop} {N f t d:Nat} (h:TrS w am S [N] f t d): ∃m e v qs,am[f]? =some m∧S N∧BlkN w N #[.int .i64 (f:Int), .int .i64 (t:Int),v]∧w.ownsRow 0 140 1 v m (eG qs)∧(∀r,v.ownBlock=some r→S r)∧TrS w am S qs (f+1) t e∧d=e+1:=by
 cases h with
 | @cons _ _ m g d1 _ _ v qs _ hm hN hb ho hr h1 h2=>
  cases h2
  exact ⟨m,d1,v,qs,hm,hN,hb,ho,hr,h1,by omega⟩
theorem TrS.at {w:World} {am:List Nat} {S:Nat→Prop} {ps:List Nat} {f t d:Nat} (h:TrS w am S ps f t d): ∀k,(hk:k<ps.length)→ ∃g g' d0 d1 d2,TrS w am S (ps.take k) f g d0∧TrS w am S [ps[k]] g g' d1∧TrS w am S (ps.take (k+1)) f g' (max d0 d1)∧TrS w am S (ps.drop (k+1)) g' t d2∧d=max (max d0 d1) d2:=by
 induction h with
 |nil f=>intro k hk;simp at hk
 | @cons N f m g d t e v qs ps hm hN hb ho hr h1 h2 i1 i2=>
  intro k hk
  cases k with
  |zero=>
   have h:=TrS.one hm hN hb ho hr h1;exact ⟨f,g,0,d+1,e, .nil f,h,by rw [Nat.zero_max];exact h,h2,by rw [Nat.zero_max]⟩
  |succ k=>
   have hk':k<ps.length:=by simpa using hk
   obtain ⟨g1,g2,d0,d1,d2,j1,j2,j3,j4,rfl⟩:=i2 k hk';have h:=TrS.one hm hN hb ho hr h1;refine ⟨g1,g2,max (d+1) d0,d1,d2, ?_,by simpa using j2, ?_,by simpa using j4,by omega⟩
   ·rw [List.take_succ_cons];exact h.app j1
   ·rw [List.take_succ_cons]
    have:=h.app j3
    rwa [show max (d+1) (max d0 d1)=max (max (d+1) d0) d1 by omega] at this
theorem m8 {w:World} {m:Nat} {v:Value} {qs:List Nat} (ho:w.ownsRow 0 140 1 v m (eG qs)):
  ∃ao cap,v= .slice ao qs.length cap∧qs.length≤cap∧cap≤maxLen∧(qs=[]∨ ∃b,ao=some ⟨b,0,none⟩∧b<w.heap.size∧ ∀k (h:k<qs.length),w.cell? ⟨b,k,none⟩=some (.pointer (some ⟨qs[k],0,none⟩))):=by
 have hl:=lB ho;subst hl
 rcases ho.2 with ⟨rfl,h0⟩|⟨g,cap,cur,rfl,hg,hh,h1,h2,_⟩
 ·exact ⟨none,0,by rw [h0],by omega,by unfold maxLen;omega, .inl (List.length_eq_zero_iff.mp h0)⟩
 ·refine ⟨_,cap,rfl,h1,h2, .inr ⟨g,rfl,(ho.lt g rfl).2,fun k hk=> ?_⟩⟩
  rw [ho.cellAt k (by omega)];exact ti qs k hk
theorem afT:(Tryz.prog.info? 140).map (fun i=>(i.zero,i.size,i.bytes))=some (some (.pointer none),1,8):=by kernel_rfl
def zE (am:List Nat) (f:Nat) (w:World) (e:Ending) (w':World):Prop:=
 Below w.heap.size w w'∧((∃N t d,e= .returned (.pointer (some ⟨N,0,none⟩))∧TrS w' am (fun b=>w.heap.size≤b∧b<w'.heap.size) [N] f t d)∨(e= .returned (.pointer none)∧ ¬ ∃t d,Exs am 1 f t d))
def GInv (am:List Nat) (w:World) (f k g:Nat) (wr:World):Prop:=
 ∃(v:Value) (ps:List Nat) (d:Nat),BlkN wr w.heap.size #[.int .i64 (f:Int), .int .i64 (g:Int),v]∧wr.ownsRow (w.heap.size+1) 140 1 v k (eG ps)∧TrS wr am (fun b=>w.heap.size<b∧b<wr.heap.size∧v.ownBlock≠some b) ps (f+1) g d∧Below w.heap.size w wr
theorem GInv.exs {am:List Nat} {w wr:World} {f k g:Nat} (h:GInv am w f k g wr): ∃d,Exs am k (f+1) g d:=by
 obtain ⟨v,ps,d,-,ho,ht,-⟩:=h
 have hl:ps.length=k:=by have:=ho.1;rw [kK] at this;omega
 exact ⟨d,hl▸ht.exs⟩
theorem GInv.start (am:List Nat) (w:World) (f:Nat):GInv am w f 0 (f+1) (w.alloc (.cells #[.int .i64 (f:Int), .int .i64 ((f+1:Nat):Int), .slice none 0 0] 188)):=
 ⟨_,[],0,BlkN.new _ _,World.ownsRow_nil _ _ _ _, .nil _,(Below.refl _ _).alloc (ain _) _⟩
theorem GInv.done {am:List Nat} {w wr:World} {f m g:Nat} (h:GInv am w f m g wr) (hm:am[f]? =some m):zE am f w (.returned (.pointer (some ⟨w.heap.size,0,none⟩))) wr:=by
 obtain ⟨v,ps,d,hb,ho,ht,hB⟩:=h;refine ⟨hB, .inl ⟨w.heap.size,g,d+1,rfl, ?_⟩⟩;exact TrS.one hm ⟨ain _,hb.lt⟩ hb (ho.mono (air _)) (fun r hr=>⟨by have:=(ho.lt r hr).1;omega,(ho.lt r hr).2⟩) (ht.keep (fun _ _ _=>rfl) (fun b hb _=>⟨by omega,hb.2.1⟩))
theorem GInv.fail {am:List Nat} {w wr w1:World} {f k m g:Nat} (h:GInv am w f k g wr) (hm:am[f]? =some m) (hk:k<m) (hB:Below wr.heap.size wr w1) (hno: ¬ ∃t d,Exs am 1 g t d):zE am f w (.returned (.pointer none)) w1:=by
 obtain ⟨d,hx⟩:=h.exs;obtain ⟨v,ps,d',hb,ho,ht,hBw⟩:=h;exact ⟨hBw.trans (hB.mono hBw.size), .inr ⟨rfl,wz hm (aeY hx hk hno)⟩⟩
theorem GInv.next {am:List Nat} {w wr w1 w2:World} {f k g t N1 d d1 gg cap':Nat} {vv:Value} {ps:List Nat}
  (hbel:Below w.heap.size w wr) (hb:BlkN wr w.heap.size #[.int .i64 (f:Int), .int .i64 (g:Int),vv]) (ho:wr.ownsRow (w.heap.size+1) 140 1 vv k (eG ps))
  (ht:TrS wr am (fun b=>w.heap.size<b∧b<wr.heap.size∧vv.ownBlock≠some b) ps (f+1) g d) (hb1:Below wr.heap.size wr w1) (ht1:TrS w1 am (fun b=>wr.heap.size≤b∧b<w1.heap.size) [N1] g t d1)
  (o:Obj) (hgrow:(w1.alloc o).grownBy w2 vv.ownBlock) (hat:vv.ownBlock=some gg∨gg=w1.heap.size+1)
  (hown':w2.ownsRow (w.heap.size+1) 140 1 (.slice (some ⟨gg,0,none⟩) (k+1) cap') (k+1) (eG ps++[.pointer (some ⟨N1,0,none⟩)])) (hk2:BlkN w2 w.heap.size #[.int .i64 (f:Int), .int .i64 (g:Int),vv]):
  GInv am w f (k+1) t ((w2.setCell ⟨w.heap.size,2,none⟩ (.slice (some ⟨gg,0,none⟩) (k+1) cap')).setCell ⟨w.heap.size,1,none⟩ (.int .i64 (t:Int))):=by
 have hs1:=hb1.size
 have hs2:w1.heap.size+1≤w2.heap.size:=by have:=hgrow.size;simpa using this
 have hNlt:=hb.lt;have hgg:w.heap.size+1≤gg∧gg<w2.heap.size:=hown'.lt gg rfl
 have hol: ∀r,vv.ownBlock=some r→r<wr.heap.size:=fun r hr=>(ho.lt r hr).2
 have hsz:((w2.setCell ⟨w.heap.size,2,none⟩ (.slice (some ⟨gg,0,none⟩) (k+1) cap')).setCell ⟨w.heap.size,1,none⟩ (.int .i64 (t:Int))).heap.size=w2.heap.size:=by simp [World.setCell]
 have hset: ∀b,b≠w.heap.size→((w2.setCell ⟨w.heap.size,2,none⟩ (.slice (some ⟨gg,0,none⟩) (k+1) cap')).setCell ⟨w.heap.size,1,none⟩ (.int .i64 (t:Int))).heap[b]? =w2.heap[b]? :=fun b hbn=>by
  rw [Below.heap_setCell _ _ _ _ hbn,Below.heap_setCell _ _ _ _ hbn]
 refine ⟨.slice (some ⟨gg,0,none⟩) (k+1) cap',ps++[N1],max d d1, ?_, ?_, ?_, ?_⟩
 ·have:=(hk2.set_ 2 (.slice (some ⟨gg,0,none⟩) (k+1) cap')).set_ 1 (.int .i64 (t:Int))
  exact this
 ·rw [rZ]
  refine hown'.kept (row:=some w.heap.size) ⟨rfl,rfl,rfl,by rw [hsz];exact ain _,fun b _ hn=>hset b (fun e=>hn (by rw [e]))⟩ (.inr ?_);intro he
  have he:gg=w.heap.size:=by simpa [Value.ownBlock] using he
  omega
 ·refine TrS.app (ht.keep ?_ ?_) (ht1.keep ?_ ?_)
  ·rintro b ⟨h1,h2,h3⟩-
   rw [hset b (by omega),hgrow.block b (by simp;omega) (fun e=>h3 e.symm),Below.heap_alloc _ _ _ (by omega),hb1.block b h2]
  ·rintro b ⟨h1,h2,h3⟩-
   refine ⟨h1,by rw [hsz];omega,fun he=> ?_⟩
   have he:gg=b:=by simpa [Value.ownBlock] using he
   subst he
   rcases hat with h|h
   ·exact h3 h
   ·omega
  ·rintro b ⟨h1,h2⟩-
   rw [hset b (by omega),hgrow.block b (by simp;omega) (fun e=>by have:=hol b e.symm;omega),Below.heap_alloc _ _ _ (by omega)]
  ·rintro b ⟨h1,h2⟩-
   refine ⟨by omega,by rw [hsz];omega,fun he=> ?_⟩
   have he:gg=b:=by simpa [Value.ownBlock] using he
   subst he
   rcases hat with h|h
   ·have:=hol _ h;omega
   ·omega
 ·exact ((((hbel.trans (hb1.mono hbel.size)).alloc (by have:=hbel.size;omega) _).grown hgrow (by simp;have:=hbel.size;omega) (fun r hr=>by have:=(ho.lt r hr).1;omega)).setCell (ain _) _).setCell (ain _) _
theorem vJ (v:Value) (l:List Cl) (w:World) (hr:RowC w v l):
  Calls Tryz.prog 176 #[v, .int .i64 (l.length:Int)] w (zE (amL l) l.length w):=by
 have hno: ¬ ∃t d,Exs (amL l) 1 l.length t d:=by
  rintro ⟨t,d,h⟩;have:=h.le;rw [di] at this;have h2:=this.2 (by omega);omega
 have HN:=aim hno;clear hno;obtain ⟨ao,cap,rfl,h1,h2,h3⟩:=hr;unfold maxLen at h2;have H3:=aim h3;clear h3
 go_enter Tryz.func176,Tryz.ntmps176
 go_wp2;go_ret;exact ⟨Below.refl _ _, .inr ⟨rfl,HN.out⟩⟩
theorem ad9 (v:Value) (l:List Cl) (h60:l.length≤60) (hok:l.all okM=true) (j:Nat): ∀(f:Nat) (w:World),f≤l.length→l.length-f≤j→RowC w v l→
  Calls Tryz.prog 176 #[v, .int .i64 (f:Int)] w (zE (amL l) f w):=by
 induction j with
 |zero=>
  intro f w hf hj hr
  obtain rfl:f=l.length:=by omega
  exact vJ v l w hr
 |succ j ih=>
  intro f w hf hj hr
  by_cases hfl:f=l.length
  ·subst hfl;exact vJ v l w hr
  ·have hlt:f<l.length:=by omega
   obtain ⟨i0,hi,hz0,hz1,hz2⟩:=info_parts afT;have HR:=aim hr;obtain ⟨ao,cap,rfl,h1,h2,h3⟩:=hr;unfold maxLen at h2
   rcases h3 with h3|⟨b,o,rfl,hbl,hc⟩
   ·subst h3;simp at hlt
   ·obtain ⟨c0,c1,c2⟩:=hc f hlt
    have hmb:=np (o5 hok f hlt);have HAM:=aim (tF l f hlt);have hne:((f:Int)==(l.length:Int))=false:=beq_eq_false_iff_ne.mpr (by omega);have hne2:(f==l.length)=false:=beq_eq_false_iff_ne.mpr (by omega);generalize hM:l[f].2.2=M at c2 hmb HAM;have HMM:=aim hM;clear hM;obtain ⟨m,rfl⟩:=aiq hmb.1
    have hm8:m≤8:=by omega
    have HAM2:Hid ((amL l)[f]? =some m):=aim (by have:=HAM.out;simpa using this);have HIH:=aim ih;have HNE:=aim hfl;clear hc hmb HAM ih hfl HMM c0 c1 hok
    go_enter Tryz.func176,Tryz.ntmps176
    go_wp2;have HST:=aim (GInv.start (amL l) w f)
    go_loopw [6,21] (fun _ i wr=> ∃k g:Nat,k≤m∧i= .int .i64 (k:Int)∧GInv (amL l) w f k g wr) (fun _ i _=>m-(intOf i).toNat)
    case atStart=>exact ⟨0,f+1,air _,rfl,by have:=HST.out;rwa [show ((f+1:Nat):Int)=(f:Int)+1 by omega] at this⟩
    case round=>
     obtain ⟨k,g,hk,rfl,hG⟩:=hrel;have HG:=aim hG
     by_cases hkm:k<m
     ·obtain ⟨dx,hx⟩:=hG.exs
      have hxl:=hx.le;rw [di] at hxl
      have hgl:g≤l.length:=by
       by_cases hk0:k=0
       ·subst hk0;cases hx;omega
       ·exact hxl.2 hk0
      have hgf:f<g:=by omega
      clear hx hxl;obtain ⟨vv,ps,d,hb,hown,ht,hB⟩:=hG;have e0:wr.cell? ⟨w.heap.size,1,none⟩=some (.int .i64 (g:Int)):=hb.cell 1;have HB:=aim hb;have HO:=aim hown;have HT:=aim ht;have HBel:=aim hB;clear hb hown ht hB;go_wp2_with fail;refine (HIH.out g _ hgl (by omega) (HR.out.mono HBel.out)).mono ?_;rintro e w1 ⟨hb1,⟨N1,t,d1,rfl,ht1⟩|⟨rfl,hno⟩⟩
      ·obtain ⟨m1,d1',v1,qs1,-,hS1,hN1,-⟩:=ht1.inv
       have cN1:w1.cell? ⟨N1,1,none⟩=some (.int .i64 (t:Int)):=hN1.cell 1
       have hN1lt:w.heap.size<N1:=by have:=HB.out.lt;omega
       have hgb1:wr.grownBy w1 none:=⟨hb1.os,hb1.tape,hb1.output,hb1.size,fun i hi _=>hb1.block i hi⟩;have own1:=HO.out.kept hgb1 (by cases hv:vv.ownBlock<;>simp);have K1:=HB.out.keep hb1;have hM:=K1.lt;have c1:w1.cell? ⟨w.heap.size,1,none⟩=some (.int .i64 (g:Int)):=K1.cell 1;have c2:w1.cell? ⟨w.heap.size,2,none⟩=some vv:=K1.cell 2;have f1:w1.frozen? ⟨w.heap.size,1,none⟩=false:=K1.frozen 1;have f2:w1.frozen? ⟨w.heap.size,2,none⟩=false:=K1.frozen 2
       have hne:vv.ownBlock≠some w.heap.size:=fun he=>by have:=(own1.lt _ he).1;omega
       have NE:=aim hne;have HK1:=aim K1;have HN1:=aim hN1;have HT1:=aim ht1;have HB1:=aim hb1;clear hgb1 K1 hne hb1 ht1 hN1 hS1 e0
       obtain ⟨av,cv,hv⟩: ∃a c,vv= .slice a k c:=by
        rcases own1.2 with ⟨rfl,h0⟩|⟨g',cap',cur,rfl,_⟩
        ·exact ⟨none,0,by rw [h0]⟩
        ·exact ⟨_,_,rfl⟩
       subst hv
       have hfar: ∀r,(Value.slice av k cv).ownBlock=some r→r<N1:=fun r hr=>by have h1:=HT1.out.inv;obtain ⟨_,_,_,_,-,hS,-⟩:=h1;have h2:=(HO.out.lt r hr).2;omega
       have hNr:(Value.slice av k cv).ownBlock≠some N1:=fun he=>by have:=hfar _ he;omega
       have hn1: ¬N1=w.heap.size:=by omega
       have hn2: ¬w.heap.size=N1:=by omega
       have NR:=aim hNr;have FAR:=aim hfar;clear hfar hNr
       go_wp2_with (at_builtin;refine wpList_append_lies _ rfl _ _ 186 rfl (w.heap.size+1) 140 i0 (.pointer none) 1 8 Tryz.underlying186 hi hz0 hz1 hz2 rfl (by decide) (.slice av k cv) k _ rfl (own1.alloc _) ⟨w1.heap.size,0,none⟩ 1 1 [.pointer (some ⟨N1,0,none⟩)] rfl rfl (World.news_of_block (cs:= #[.pointer (some ⟨N1,0,none⟩)]) (t:=140) (fr:=(0,0)) (heap_alloc_new w1 _)) (by simp [Value.oneCell']) (by omega) (by unfold maxLen;omega) (by omega) (by simp;omega) (w1.heap.size+1) (by simp) ?_;intro gg cap' w2 hown' hgrow hat hlt';have hfz:w2.frozen? ⟨w.heap.size,2,none⟩=false:=((hgrow.frozen_far _ (by simp;omega) (fun hq=>NE.out hq.symm)).trans (((aip w1 _ none).frozen_far ⟨w.heap.size,2,none⟩ hM (by simp)).trans f2));have K2:=BlkN.grown (HK1.out.alloc _) hgrow (fun hq=>NE.out hq.symm);have M2:=BlkN.grown (HN1.out.alloc _) hgrow (fun hq=>NR.out hq.symm);have hc2:w2.cell? ⟨w.heap.size,2,none⟩=some (.slice av k cv):=K2.cell 2;have hc1:w2.cell? ⟨w.heap.size,1,none⟩=some (.int .i64 (g:Int)):=K2.cell 1;have hf1:w2.frozen? ⟨w.heap.size,1,none⟩=false:=K2.frozen 1;have hcn:w2.cell? ⟨N1,1,none⟩=some (.int .i64 (t:Int)):=M2.cell 1;have KK2:=aim K2;have HO2:=aim hown';have HG2:=aim hgrow;have HAT:=aim hat;clear K2 M2 hown' hgrow hat)
       go_roundw
       case rel=>exact ⟨k+1,t,by omega,by go_num,GInv.next HBel.out HB.out HO.out HT.out HB1.out HT1.out _ HG2.out HAT.out HO2.out KK2.out⟩
       case measure=>simp [intOf];omega
      ·have HF:=aim (HG.out.fail HAM2.out hkm hb1 hno)
       clear hno hb1;go_wp2;go_ret;exact HF.out
     ·obtain rfl:k=m:=by omega
      have HD:=aim (HG.out.done HAM2.out);go_wp2;go_ret;exact HD.out
theorem Exs.dep {am:List Nat} {n f t d:Nat} (h:Exs am n f t d):d≤t-f:=by
 induction h with
 |nil f=>omega
 | @cons f m g d n t e hm h1 h2 i1 i2=>have l1:=h1.le;have l2:=h2.le;omega
theorem ah5 {a b:Int} (h:a=b):Ending.returned (.int .i64 a)= .returned (.int .i64 b):=by rw [h]
theorem r7 (am:List Nat) (h60:am.length≤60) (S:Nat→Prop) (w:World) (j:Nat): ∀(N f t d:Nat),TrS w am S [N] f t d→t-f≤j→
  Calls Tryz.prog 177 #[.pointer (some ⟨N,0,none⟩)] w fun e w'=>e= .returned (.int .i64 (d:Int))∧w=w':=by
 induction j with
 |zero=>intro N f t d h hj;have:=h.exs.le;simp at this;omega
 |succ j ih=>
  intro N f t d h hj;obtain ⟨m,e,v,qs,hm,hS,hb,ho,hr,ht,rfl⟩:=h.inv;have hle:=ht.exs.le;have hdep:=ht.exs.dep;have htl:t≤am.length:=h.exs.le.2 (by simp);obtain ⟨ao,cap,rfl,h1,h2,h3⟩:=m8 ho;unfold maxLen at h2;have c2:w.cell? ⟨N,2,none⟩=some (.slice ao qs.length cap):=hb.cell 2;have H3:=aim h3;have HT:=aim ht;have IH:=aim ih;have HSTART:=aim (show TrS w am S (qs.take 0) (f+1) (f+1) 0 from .nil _)
  have hql:qs.length≤60:=by omega
  clear h3 ht ih h hm hS hb ho hr
  go_enter Tryz.func177,Tryz.ntmps177
  go_wp2
  go_loop [3,5,11] (fun dp _ i=> ∃k e0:Nat,k≤qs.length∧i= .int .i64 (k:Int)∧dp= .int .i64 (e0:Int)∧ ∃g,TrS w am S (qs.take k) (f+1) g e0) (fun _ _ i=>qs.length-(intOf i).toNat)
  case atStart=>exact ⟨0,0,air _,rfl,rfl,f+1,HSTART.out⟩
  case round=>
   obtain ⟨k,e0,hk,rfl,rfl,hx⟩:=hrel;have HX:=aim hx;clear hx
   by_cases hlt:k<qs.length
   ·obtain ⟨b,rfl,hbl,cc⟩:=H3.out.resolve_left (by rintro rfl;simp at hlt)
    have d1:=cc k hlt;obtain ⟨g,g',d0,d1',d2,j1,j2,j3,j4,j5⟩:=HT.out.at k hlt;obtain ⟨gx,hx⟩:=HX.out;obtain ⟨-,rfl⟩:=hx.exs.uniq j1.exs;have l1:=j1.exs.le;have l2:=j2.exs.le;have l4:=j4.exs.le;have l2d:=j2.exs.dep;have l1d:=j1.exs.dep;have HJ2:=aim j2;have HJ3:=aim j3;simp only [List.length_take,List.length_cons,List.length_nil] at l1 l2;clear j1 j2 j3 j4 hx cc HX;go_wp2_with fail;refine (IH.out _ g g' d1' HJ2.out (by omega)).mono ?_;rintro e w' ⟨rfl,rfl⟩;go_wp2
    go_round
    case rel=>exact ⟨k+1,max e0 d1',by omega,by go_num,by first|rfl|(congr 1;omega),g',HJ3.out⟩
    case measure=>simp [intOf];omega
   ·obtain rfl:k=qs.length:=by omega
    obtain ⟨g,hx⟩:=HX.out
    have HX2:=aim (show e0=e by
     rw [List.take_of_length_le (ain _)] at hx
     exact (hx.exs.uniq HT.out.exs).2)
    have:e0≤60:=by have:=HX2.out;omega
    clear hx;go_wp2;go_ret;exact ⟨ah5 (by rw [HX2.out]),rfl⟩
open Classical in
noncomputable def okP (p:Cl→Bool) (l:List Cl):Bool:=decide (l.length≤60)&&(l.all p&&decide (∃d,d≤12∧Exs (amL l) 1 0 l.length d))
theorem m9 {p:Cl→Bool} (l:List Cl):okP p l=true↔l.length≤60∧l.all p=true∧ ∃d,d≤12∧Exs (amL l) 1 0 l.length d:=by
 simp only [okP,Bool.and_eq_true,decide_eq_true_eq]
theorem agG (l:List Cl):okP okC l=okE l:=by
 rw [Bool.eq_iff_iff,m9,dL]
theorem afU {p:Cl→Bool} {l:List Cl} (h: ¬l.length≤60):okP p l=false:=by
 rw [Bool.eq_false_iff];intro h';exact h ((m9 l).mp h').1
theorem aea {p:Cl→Bool} {l:List Cl} (h: ¬l.all p=true):okP p l=false:=by
 rw [Bool.eq_false_iff];intro h';exact h ((m9 l).mp h').2.1
theorem ahs {p:Cl→Bool} {l:List Cl} {t d:Nat} (hx:Exs (amL l) 1 0 t d) (h60:l.length≤60) (hok:l.all p=true):okP p l=true↔t=l.length∧d≤12:=by
 rw [m9]
 constructor
 ·rintro ⟨-,-,d',hd,hx'⟩
  obtain ⟨rfl,rfl⟩:=hx.uniq hx';exact ⟨rfl,hd⟩
 ·rintro ⟨rfl,hd⟩
  exact ⟨h60,hok,d,hd,hx⟩
theorem aeb {p:Cl→Bool} {l:List Cl} (h: ¬ ∃t d,Exs (amL l) 1 0 t d):okP p l=false:=by
 rw [Bool.eq_false_iff];intro h';obtain ⟨-,-,d,-,hx⟩:=(m9 l).mp h';exact h ⟨_,d,hx⟩
def ah6 (p:Cl→Bool) (l:List Cl) (w:World) (e:Ending) (w':World):Prop:=
 Below w.heap.size w w'∧((∃N d,e= .returned (.pointer (some ⟨N,0,none⟩))∧okP p l=true∧d≤12∧TrS w' (amL l) (fun b=>w.heap.size≤b∧b<w'.heap.size) [N] 0 l.length d)∨(e= .returned (.pointer none)∧okP p l=false))
def ah7 (l:List Cl) (w:World) (e:Ending) (w':World):Prop:=
 Below w.heap.size w w'∧((∃N d,e= .returned (.pointer (some ⟨N,0,none⟩))∧okE l=true∧d≤12∧TrS w' (amL l) (fun b=>w.heap.size≤b∧b<w'.heap.size) [N] 0 l.length d)∨(e= .returned (.pointer none)∧okE l=false))
def Asks (F:FuncId) (p:Cl→Bool) (Z:Nat):Prop:=
 ∀(k m:Int) (s:ByteArray) (w:World),s.size≤Z→Tab w→Calls Tryz.prog F #[.agg #[.int .i64 k, .string s, .int .i64 m]] w fun e w'=>e= .returned (.bool (p (k,s,m)))∧Below w.heap.size w w'
theorem abJ {p:Cl→Bool} {l:List Cl} {k:Nat} (h:k<l.length):(l.take (k+1)).all p=((l.take k).all p&&p l[k]):=by
 rw [List.take_succ_eq_append_getElem h,List.all_append];simp
theorem tl (F:FuncId) (p:Cl→Bool) (Z:Nat) (eF: ∀args w,(callFunc F args).run Tryz.prog w= .ok (.enter F args) w) (hF:Asks F p Z) (hpM: ∀c,p c=true→okM c=true) (v:Value) (l:List Cl) (w:World) (hr:RowC w v l) (hz: ∀c∈l,c.2.1.size≤Z) (htab:Tab w):
  Calls Tryz.prog 148 #[v, .func (.func F) #[] #[]] w (ah6 p l w):=by
 have HR:=aim hr;obtain ⟨ao,cap,rfl,h1,h2,h3⟩:=hr;unfold maxLen at h2;have H3:=aim h3;have HZ:=aim hz;have HF:=aim hF;have HPM:=aim hpM;clear h3 hz hF hpM
 by_cases h60:l.length≤60
 ·go_enter Tryz.func148,Tryz.ntmps148
  go_wp2
  go_loopw [13] (fun i wr=> ∃k:Nat,k≤l.length∧i= .int .i64 (k:Int)∧(l.take k).all p=true∧Below w.heap.size w wr) (fun i _=>l.length-(intOf i).toNat)
  case atStart=>exact ⟨0,air _,rfl,rfl,Below.refl _ _⟩
  case round=>
   obtain ⟨k,hk,rfl,hok,hb⟩:=hrel;have HOK:=aim hok;have HB:=aim hb;clear hok hb
   by_cases hlt:k<l.length
   ·obtain ⟨b,o,rfl,hbl,cc⟩:=H3.out.resolve_left (by rintro rfl;simp at hlt)
    obtain ⟨c0,c1,c2⟩:=cc k hlt;have d0:wr.cell? ⟨b,o+k*3,none⟩=some (.int .i64 l[k].1):=(HB.out.cell (p:=⟨b,_,none⟩) hbl).trans c0;have d1:wr.cell? ⟨b,o+k*3+1,none⟩=some (.string l[k].2.1):=(HB.out.cell (p:=⟨b,_,none⟩) hbl).trans c1;have d2:wr.cell? ⟨b,o+k*3+2,none⟩=some (.int .i64 l[k].2.2):=(HB.out.cell (p:=⟨b,_,none⟩) hbl).trans c2;have hzk:l[k].2.1.size≤Z:=HZ.out _ (List.getElem_mem _);have HT:=aim (abJ (p:=p) hlt);have HC:=aim (show p l[k]=p (l[k].1,l[k].2.1,l[k].2.2) from rfl);generalize l[k].1=kk at d0 HC;generalize l[k].2.1=ss at d1 HC hzk;generalize l[k].2.2=mm at d2 HC;have HZK:=aim hzk;clear cc c0 c1 c2 hzk;go_wp2_with fail;refine (HF.out kk mm ss _ HZK.out ((htab.keep HB.out).al _)).mono ?_;rintro e w1 ⟨rfl,hb1⟩;have HB1:=aim ((HB.out.alloc HB.out.size _).trans (hb1.mono (by have:=HB.out.size;simp;omega)));clear hb1
    cases hcb:p (kk,ss,mm) with
    |true=>
     have HN:=aim (show (l.take (k+1)).all p=true by rw [HT.out,HOK.out,HC.out,hcb];rfl);clear hcb;go_wp2;go_roundw
     case rel=>exact ⟨k+1,by omega,by go_num,HN.out,HB1.out⟩
     case measure=>simp [intOf];omega
    |false=>
     have HN:=aim (aea (p:=p) (l:=l) (fun h=>by
      rw [List.all_eq_true] at h;have:=h _ (List.getElem_mem hlt)
      rw [HC.out,hcb] at this;cases this))
     clear hcb;go_wp2;go_ret;exact ⟨HB1.out, .inr ⟨rfl,HN.out⟩⟩
   ·obtain rfl:k=l.length:=by omega
    have HAL:=aim (show l.all p=true by have:=HOK.out;rwa [List.take_of_length_le (ain _)] at this);have HAM:=aim (show l.all okM=true by have:=HAL.out;rw [List.all_eq_true] at this⊢;exact fun c hc=>HPM.out c (this c hc));go_wp2_with fail;refine (ad9 _ l h60 HAM.out l.length 0 _ (air _) (by omega) (HR.out.mono HB.out)).mono ?_;rintro e w1 ⟨hb1,⟨N,t,d,rfl,ht⟩|⟨rfl,hno⟩⟩
    ·have HB1:=aim (HB.out.trans (hb1.mono HB.out.size))
     have HX:=aim (ahs (p:=p) ht.exs h60 HAL.out);obtain ⟨m1,e1,v1,qs1,-,-,hN1,-⟩:=ht.inv;have d1:w1.cell? ⟨N,1,none⟩=some (.int .i64 (t:Int)):=hN1.cell 1;have HT:=aim ht;have HTK:=aim (ht.keep (S':=fun b=>w.heap.size≤b∧b<w1.heap.size) (fun _ _ _=>rfl) (fun b hb _=>⟨by have:=HB.out.size;omega,hb.2⟩));have hdep:=ht.exs.dep;have hle:=ht.exs.le.2 (by simp);rw [di] at hle;clear hb1 ht hN1
     have ham:(amL l).length≤60:=by rw [di];exact h60
     by_cases htl:t=l.length
     ·subst htl
      by_cases hd:d≤12
      ·have HK:=aim (HX.out.mpr ⟨rfl,hd⟩)
       have hd':decide (12<d)=false:=decide_eq_false (by omega);go_wp2_with fail;refine (r7 (amL l) ham _ _ l.length N 0 l.length d HT.out (by omega)).mono ?_;rintro e w' ⟨rfl,rfl⟩;go_wp2;go_ret;exact ⟨HB1.out, .inl ⟨N,d,rfl,HK.out,hd,HTK.out⟩⟩
      ·have HK:=aim (show okP p l=false by rw [Bool.eq_false_iff];exact fun h=>hd (HX.out.mp h).2)
       go_wp2_with fail;refine (r7 (amL l) ham _ _ l.length N 0 l.length d HT.out (by omega)).mono ?_;rintro e w' ⟨rfl,rfl⟩;go_wp2;go_ret;exact ⟨HB1.out, .inr ⟨rfl,HK.out⟩⟩
     ·have HK:=aim (show okP p l=false by rw [Bool.eq_false_iff];exact fun h=>htl (HX.out.mp h).1)
      have hne:((t:Int) !=(l.length:Int))=true:=bne_iff_ne.mpr (by omega);go_wp2;go_ret;exact ⟨HB1.out, .inr ⟨rfl,HK.out⟩⟩
    ·have HK:=aim (aeb (p:=p) hno)
     have HB1:=aim (HB.out.trans (hb1.mono HB.out.size));clear hno hb1;go_wp2;go_ret;exact ⟨HB1.out, .inr ⟨rfl,HK.out⟩⟩
 ·have HN:=aim (afU (p:=p) h60)
  go_enter Tryz.func148,Tryz.ntmps148
  go_wp2;go_ret;exact ⟨Below.refl _ _, .inr ⟨rfl,HN.out⟩⟩
theorem oR: ∀args w,(callFunc 149 args).run Tryz.prog w= .ok (.enter 149 args) w:=enters_of Tryz.func149 (by kernel_rfl) rfl
theorem nb (v:Value) (l:List Cl) (w:World) (hr:RowC w v l) (hz:em l) (htab:Tab w):
  Calls Tryz.prog 113 #[v] w (ah7 l w):=by
 have HC:=aim (tl _ okC maxLen oR (fun k m s w hs ht=>p8 k m s w hs ht) (fun c h=>yQ h) v l w hr hz htab);obtain ⟨ao,cap,rfl,h1,h2,h3⟩:=hr;unfold maxLen at h2;clear h3 hz
 go_enter Tryz.func113,Tryz.ntmps113
 go_wp2_with fail;refine HC.out.mono ?_;rintro e w1 ⟨hb1,⟨N,d,rfl,hok,hd,ht⟩|⟨rfl,hno⟩⟩
 ·rw [agG] at hok
  have HOK:=aim hok;have HB:=aim hb1;have HT:=aim ht;clear hok hb1 ht;go_wp2;go_ret;exact ⟨HB.out, .inl ⟨N,d,rfl,HOK.out,hd,HT.out⟩⟩
 ·rw [agG] at hno
  have HOK:=aim hno;have HB:=aim hb1;clear hno hb1;go_wp2;go_ret;exact ⟨HB.out, .inr ⟨rfl,HOK.out⟩⟩
theorem kL (v:Value) (l:List Cl) (w:World) (hr:RowC w v l) (hz:em l) (htab:Tab w):
  Calls Tryz.prog 61 #[v] w fun e w'=>e= .returned (.bool (okE l))∧Below w.heap.size w w':=by
 have HC:=aim (nb v l w hr hz htab);obtain ⟨ao,cap,rfl,h1,h2,h3⟩:=hr;unfold maxLen at h2;clear h3 hz
 go_enter Tryz.func61,Tryz.ntmps61
 go_wp2_with fail;refine HC.out.mono ?_;rintro e w1 ⟨hb1,⟨N,d,rfl,hok,hd,ht⟩|⟨rfl,hno⟩⟩
 ·have HOK:=aim hok;have HB:=aim hb1
  clear hok hb1 ht;go_wp2;go_ret;exact ⟨fE HOK.out.symm,HB.out⟩
 ·have HOK:=aim hno;have HB:=aim hb1
  clear hno hb1;go_wp2;go_ret;exact ⟨fE HOK.out.symm,HB.out⟩
end Go.Proofs.YthijkjnngfnfdaaGreatDoor
