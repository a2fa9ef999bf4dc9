/-
  Part of the proof of FnReadDocument.
-/
import Derived.Test.YtegdjjjpoahamaaGreatDoorQQRah
import Derived.Below
import Derived.Laws.OwnMore
import Derived.Laws.Rows
import Derived.OwnWalk
import Derived.Deep.Onto
import Derived.Deep.Draws
import Derived.Deep.AppendLies
import Derived.Deep.RegionHeld3
import Derived.RegionTactic
import Derived.Deep.RegionLaw
import Derived.Deep.DrawnRows
import Derived.Deep.QuietTactic
import Derived.BigQuiet
set_option linter.unusedVariables false
set_option maxHeartbeats 4000000
set_option maxRecDepth 100000
namespace Go.Proofs.YtegdjjjpoahamaaGreatDoor
open Go.RowKit
theorem om (s:ByteArray) (w:World) (hs:s.size≤2097152) (Al:Tab w):
  Calls Tryz.prog 228 #[.string s] w fun e w'=>e= .returned (.bool (kf s))∧Below w.heap.size w w':=by
 have ci:=lr s w hs Al
 cases ho:fx s with
 |false=>
  have HB:=agC (show kf s=false by simp [kf,ho]);rw [HB.out];rw [ho] at ci;generalize rdT s=T at ci;generalize rdB s=B at ci;have CI:=agC ci;clear ci ho
  go_enter Tryz.func228,Tryz.ntmps228
  go_wp2_with fail;refine (CI.out).mono ?_;rintro e w1 ⟨rfl,Aa⟩;have B1:=agC Aa;clear Aa;go_wp2;go_ret;exact ⟨rfl,B1.out.alloc B1.out.size _⟩
 |true=>
  obtain ⟨b1,b2⟩:=mn s ho
  have HN:kf s=(decide (0≤rdT s)&&((1000000:Int).tmod (rdB s)==0)):=by simp [kf,ho]
  rw [ho] at ci;generalize rdT s=T at ci HN;generalize rdB s=B at ci HN b1 b2;obtain ⟨b,rfl⟩:=agG (show 0≤B by omega)
  by_cases h0:0≤T
  ·have HM:=agC (show kf s=decide (1000000 % b=0) by
    rw [HN,decide_eq_true h0,Bool.true_and,show (1000000:Int).tmod (b:Int)=((1000000 % b:Nat):Int) from tm 1000000 b,Bool.eq_iff_iff,beq_iff_eq,decide_eq_true_eq];omega)
   rw [HM.out];have CI:=agC ci;clear ci HN ho
   go_enter Tryz.func228,Tryz.ntmps228
   go_wp2_with fail;refine (CI.out).mono ?_;rintro e w1 ⟨rfl,Aa⟩;have B1:=agC (Aa.alloc Aa.size (.cells #[.int .i64 T, .int .i64 (b:Int)] 170));clear Aa;go_wp2_with fail;refine (mc T b _ (by omega)).mono ?_;rintro e w2 ⟨rfl,Ae⟩;have B2:=agC (B1.out.trans (Ae.mono B1.out.size));clear Ae;go_wp2;go_ret;exact ⟨rfl,B2.out⟩
  ·have HM:=agC (show kf s=false by rw [HN,decide_eq_false h0];rfl)
   rw [HM.out];have CI:=agC ci;clear ci HN ho
   go_enter Tryz.func228,Tryz.ntmps228
   go_wp2_with fail;refine (CI.out).mono ?_;rintro e w1 ⟨rfl,Aa⟩;have B1:=agC Aa;clear Aa;go_wp2;go_ret;exact ⟨rfl,B1.out.alloc B1.out.size _⟩
theorem agh {w w1:World} {k m:Int} {s:ByteArray} {t:TypeId} (hb:Below (w.alloc (.cells #[.int .i64 k, .string s, .int .i64 m] t)).heap.size (w.alloc (.cells #[.int .i64 k, .string s, .int .i64 m] t)) w1):
  w1.cell? ⟨w.heap.size,0,none⟩=some (.int .i64 k)∧w1.cell? ⟨w.heap.size,1,none⟩=some (.string s)∧w1.cell? ⟨w.heap.size,2,none⟩=some (.int .i64 m):=by
 refine ⟨?_, ?_, ?_⟩<;>(rw [hb.cell (by simp)];simp [go_sem])
theorem ph (k:Int) (m:Int) (s:ByteArray) (w:World) (hs:s.size≤maxLen) (hl: ¬s.size≤60):
  Calls Tryz.prog 211 #[.agg #[.int .i64 k, .string s, .int .i64 m]] w fun e w'=>e= .returned (.bool (ar k s))∧Below w.heap.size w w':=by
 have hf:ar k s=false:=by rw [Bool.eq_false_iff];exact fun h=>hl (jk k s h)
 rw [hf];clear hf;unfold maxLen at hs
 go_enter Tryz.func211,Tryz.ntmps211
 go_wp2;go_ret;exact ⟨rfl,(Below.refl _ _).alloc (agD _) _⟩
theorem vI (m:Int) (s:ByteArray) (w:World) (hl:s.size≤60) (Al:Tab w):
  Calls Tryz.prog 211 #[.agg #[.int .i64 1, .string s, .int .i64 m]] w fun e w'=>e= .returned (.bool (ar 1 s))∧Below w.heap.size w w':=by
 rw [show ar 1 s=kf s by simp [ar]]
 go_enter Tryz.func211,Tryz.ntmps211
 go_wp2_with fail;refine (om s _ (by omega) (Al.al _)).mono ?_;rintro e w1 ⟨rfl,Aa⟩;have B1:=agC (((Below.refl w.heap.size w).alloc (agD _) _).trans (Aa.mono (by simp)));clear Aa;go_wp2;go_ret;exact ⟨rfl,B1.out⟩
theorem vJ (m:Int) (s:ByteArray) (w:World) (hl:s.size≤60):
  Calls Tryz.prog 211 #[.agg #[.int .i64 2, .string s, .int .i64 m]] w fun e w'=>e= .returned (.bool (ar 2 s))∧Below w.heap.size w w':=by
 rw [show ar 2 s=aD s by simp [ar,hl]]
 go_enter Tryz.func211,Tryz.ntmps211
 go_wp2_with fail;refine (bW s _ (by unfold maxLen;omega)).mono ?_;rintro e w' ⟨rfl,rfl⟩;go_wp2;go_ret;exact ⟨rfl,(Below.refl _ _).alloc (agD _) _⟩
theorem vL (m:Int) (s:ByteArray) (w:World) (hl:s.size≤60):
  Calls Tryz.prog 211 #[.agg #[.int .i64 3, .string s, .int .i64 m]] w fun e w'=>e= .returned (.bool (ar 3 s))∧Below w.heap.size w w':=by
 by_cases h1:s.data.toList=[116,114,117,101]
 ·have e1:=dR h1
  rw [show ar 3 s=true by simp [ar,b7,bE,h1]];clear h1
  go_enter Tryz.func211,Tryz.ntmps211
  go_wp2;go_ret;exact ⟨rfl,(Below.refl _ _).alloc (agD _) _⟩
 ·by_cases h2:s.data.toList=[102,97,108,115,101]
  ·have e1:=dg h1;have e2:=dR h2
   rw [show ar 3 s=true by simp [ar,b7,bE,h2]];clear h1 h2
   go_enter Tryz.func211,Tryz.ntmps211
   go_wp2;go_ret;exact ⟨rfl,(Below.refl _ _).alloc (agD _) _⟩
  ·have e1:=dg h1;have e2:=dg h2
   rw [show ar 3 s=false by simp [ar,b7,bE,h1,h2]];clear h1 h2
   go_enter Tryz.func211,Tryz.ntmps211
   go_wp2;go_ret;exact ⟨rfl,(Below.refl _ _).alloc (agD _) _⟩
theorem vM (m:Int) (s:ByteArray) (w:World) (hl:s.size≤60):
  Calls Tryz.prog 211 #[.agg #[.int .i64 7, .string s, .int .i64 m]] w fun e w'=>e= .returned (.bool (ar 7 s))∧Below w.heap.size w w':=by
 by_cases h1:s.data.toList=[33]
 ·have e1:=dR h1
  rw [show ar 7 s=true by simp [ar,h1]];clear h1
  go_enter Tryz.func211,Tryz.ntmps211
  go_wp2;go_ret;exact ⟨rfl,(Below.refl _ _).alloc (agD _) _⟩
 ·by_cases h2:s.data.toList=[45]
  ·have e1:=dg h1;have e2:=dR h2
   rw [show ar 7 s=true by simp [ar,h2]];clear h1 h2
   go_enter Tryz.func211,Tryz.ntmps211
   go_wp2;go_ret;exact ⟨rfl,(Below.refl _ _).alloc (agD _) _⟩
  ·have e1:=dg h1;have e2:=dg h2
   rw [show ar 7 s=false by simp [ar,h1,h2]];clear h1 h2
   go_enter Tryz.func211,Tryz.ntmps211
   go_wp2;go_ret;exact ⟨rfl,(Below.refl _ _).alloc (agD _) _⟩
theorem vN (m:Int) (s:ByteArray) (w:World) (hl:s.size≤60):
  Calls Tryz.prog 211 #[.agg #[.int .i64 4, .string s, .int .i64 m]] w fun e w'=>e= .returned (.bool (ar 4 s))∧Below w.heap.size w w':=by
 rw [show ar 4 s=cI s.data.toList by simp [ar,hl]]
 go_enter Tryz.func211,Tryz.ntmps211
 go_wp2_with fail;refine (nX s _ (by unfold maxLen;omega)).mono ?_;rintro e w1 ⟨rfl,Aa⟩;have B1:=agC (((Below.refl w.heap.size w).alloc (agD _) _).trans (Aa.mono (by simp)));clear Aa;go_wp2;go_ret;exact ⟨rfl,B1.out⟩
theorem vO (m:Int) (s:ByteArray) (w:World) (hl:s.size≤60):
  Calls Tryz.prog 211 #[.agg #[.int .i64 6, .string s, .int .i64 m]] w fun e w'=>e= .returned (.bool (ar 6 s))∧Below w.heap.size w w':=by
 rw [show ar 6 s=fw s by simp [ar,fw]]
 go_enter Tryz.func211,Tryz.ntmps211
 go_wp2_with fail;refine (cN s _ (by unfold maxLen;omega)).mono ?_;rintro e w1 ⟨rfl,rfl⟩;go_wp2;go_ret;exact ⟨rfl,(Below.refl _ _).alloc (agD _) _⟩
theorem vP (m:Int) (s:ByteArray) (w:World) (hl:s.size≤60):
  Calls Tryz.prog 211 #[.agg #[.int .i64 8, .string s, .int .i64 m]] w fun e w'=>e= .returned (.bool (ar 8 s))∧Below w.heap.size w w':=by
 rw [show ar 8 s=decide (0<ap s.data.toList) by simp [ar]]
 go_enter Tryz.func211,Tryz.ntmps211
 go_wp2_with fail;refine (oW s _).mono ?_;rintro e w' ⟨rfl,rfl⟩;go_wp2;go_ret;exact ⟨rfl,(Below.refl _ _).alloc (agD _) _⟩
theorem vQ (m:Int) (s:ByteArray) (w:World) (hl:s.size≤60):
  Calls Tryz.prog 211 #[.agg #[.int .i64 5, .string s, .int .i64 m]] w fun e w'=>e= .returned (.bool (ar 5 s))∧Below w.heap.size w w':=by
 cases hs:s.data.toList with
 |nil=>
  rw [show ar 5 s=true by simp [ar,hs]];have e1:=dR hs
  have e2:s.toList=[]:=by rw [ByteArray.toList_eq];exact hs
  have e3:s.toList.isEmpty=true:=by rw [e2];rfl
  have e4:(!s.toList.isEmpty)=false:=by rw [e2];rfl
  clear hs
  go_enter Tryz.func211,Tryz.ntmps211
  go_wp2;go_ret;exact ⟨eU (by simp [*]),(Below.refl _ _).alloc (agD _) _⟩
 |cons b t=>
  rw [show ar 5 s=false by simp [ar,hs]];have e1:(s.toList==[])=false:=dg (by rw [hs];simp)
  have e2:s.toList≠[]:=by rw [ByteArray.toList_eq,hs];simp
  have e3:s.toList.isEmpty=false:=by rw [ByteArray.toList_eq,hs];rfl
  have e4:(!s.toList.isEmpty)=true:=by rw [e3];rfl
  clear hs
  go_enter Tryz.func211,Tryz.ntmps211
  go_wp2;go_ret;exact ⟨eU (by simp [*]),(Below.refl _ _).alloc (agD _) _⟩
theorem vR (m:Int) (s:ByteArray) (w:World) (hl:s.size≤60):
  Calls Tryz.prog 211 #[.agg #[.int .i64 9, .string s, .int .i64 m]] w fun e w'=>e= .returned (.bool (ar 9 s))∧Below w.heap.size w w':=by
 cases hs:s.data.toList with
 |nil=>
  rw [show ar 9 s=true by simp [ar,hs]];have e1:=dR hs
  have e2:s.toList=[]:=by rw [ByteArray.toList_eq];exact hs
  have e3:s.toList.isEmpty=true:=by rw [e2];rfl
  have e4:(!s.toList.isEmpty)=false:=by rw [e2];rfl
  clear hs
  go_enter Tryz.func211,Tryz.ntmps211
  go_wp2;go_ret;exact ⟨eU (by simp [*]),(Below.refl _ _).alloc (agD _) _⟩
 |cons b t=>
  rw [show ar 9 s=false by simp [ar,hs]];have e1:(s.toList==[])=false:=dg (by rw [hs];simp)
  have e2:s.toList≠[]:=by rw [ByteArray.toList_eq,hs];simp
  have e3:s.toList.isEmpty=false:=by rw [ByteArray.toList_eq,hs];rfl
  have e4:(!s.toList.isEmpty)=true:=by rw [e3];rfl
  clear hs
  go_enter Tryz.func211,Tryz.ntmps211
  go_wp2;go_ret;exact ⟨eU (by simp [*]),(Below.refl _ _).alloc (agD _) _⟩
theorem th (k:Int) (m:Int) (s:ByteArray) (w:World) (hl:s.size≤60) (hk: ¬(1≤k∧k≤9)):
  Calls Tryz.prog 211 #[.agg #[.int .i64 k, .string s, .int .i64 m]] w fun e w'=>e= .returned (.bool (ar k s))∧Below w.heap.size w w':=by
 have hf:ar k s=false:=by
  unfold ar
  iterate 9 rw [if_neg (by omega)]
 rw [hf];clear hf;have n1:(k==1)=false:=beq_eq_false_iff_ne.mpr (by omega);have n2:(k==2)=false:=beq_eq_false_iff_ne.mpr (by omega);have n3:(k==3)=false:=beq_eq_false_iff_ne.mpr (by omega);have n4:(k==4)=false:=beq_eq_false_iff_ne.mpr (by omega);have n5:(k==5)=false:=beq_eq_false_iff_ne.mpr (by omega);have n6:(k==6)=false:=beq_eq_false_iff_ne.mpr (by omega);have n7:(k==7)=false:=beq_eq_false_iff_ne.mpr (by omega);have n8:(k==8)=false:=beq_eq_false_iff_ne.mpr (by omega);have n9:(k==9)=false:=beq_eq_false_iff_ne.mpr (by omega);clear hk
 go_enter Tryz.func211,Tryz.ntmps211
 go_wp2;go_ret;exact ⟨rfl,(Below.refl _ _).alloc (agD _) _⟩
theorem kinds (k:Int) (h:1≤k∧k≤9):k=1∨k=2∨k=3∨k=4∨k=5∨k=6∨k=7∨k=8∨k=9:=by omega
theorem lG (k m:Int) (s:ByteArray) (w:World) (hs:s.size≤maxLen) (Al:Tab w):
  Calls Tryz.prog 211 #[.agg #[.int .i64 k, .string s, .int .i64 m]] w fun e w'=>e= .returned (.bool (ar k s))∧Below w.heap.size w w':=by
 by_cases hl:s.size≤60
 ·by_cases hk:1≤k∧k≤9
  ·rcases kinds k hk with rfl|rfl|rfl|rfl|rfl|rfl|rfl|rfl|rfl
   ·exact vI m s w hl Al
   ·exact vJ m s w hl
   ·exact vL m s w hl
   ·exact vN m s w hl
   ·exact vQ m s w hl
   ·exact vO m s w hl
   ·exact vM m s w hl
   ·exact vP m s w hl
   ·exact vR m s w hl
  ·exact th k m s w hl hk
 ·exact ph k m s w hs hl
theorem vS (m:Int) (s:ByteArray) (w:World):
  Calls Tryz.prog 212 #[.agg #[.int .i64 1, .string s, .int .i64 m]] w fun e w'=>e= .returned (.bool (aQ 1 m))∧Below w.heap.size w w':=by
 rw [show aQ 1 m=(m==0) by simp [aQ]]
 go_enter Tryz.func212,Tryz.ntmps212
 go_wp2;go_ret;exact ⟨rfl,(Below.refl _ _).alloc (agD _) _⟩
theorem vT (m:Int) (s:ByteArray) (w:World):
  Calls Tryz.prog 212 #[.agg #[.int .i64 2, .string s, .int .i64 m]] w fun e w'=>e= .returned (.bool (aQ 2 m))∧Below w.heap.size w w':=by
 rw [show aQ 2 m=(m==0) by simp [aQ]]
 go_enter Tryz.func212,Tryz.ntmps212
 go_wp2;go_ret;exact ⟨rfl,(Below.refl _ _).alloc (agD _) _⟩
theorem vU (m:Int) (s:ByteArray) (w:World):
  Calls Tryz.prog 212 #[.agg #[.int .i64 3, .string s, .int .i64 m]] w fun e w'=>e= .returned (.bool (aQ 3 m))∧Below w.heap.size w w':=by
 rw [show aQ 3 m=(m==0) by simp [aQ]]
 go_enter Tryz.func212,Tryz.ntmps212
 go_wp2;go_ret;exact ⟨rfl,(Below.refl _ _).alloc (agD _) _⟩
theorem vV (m:Int) (s:ByteArray) (w:World):
  Calls Tryz.prog 212 #[.agg #[.int .i64 4, .string s, .int .i64 m]] w fun e w'=>e= .returned (.bool (aQ 4 m))∧Below w.heap.size w w':=by
 rw [show aQ 4 m=(m==0) by simp [aQ]]
 go_enter Tryz.func212,Tryz.ntmps212
 go_wp2;go_ret;exact ⟨rfl,(Below.refl _ _).alloc (agD _) _⟩
theorem vX (m:Int) (s:ByteArray) (w:World):
  Calls Tryz.prog 212 #[.agg #[.int .i64 7, .string s, .int .i64 m]] w fun e w'=>e= .returned (.bool (aQ 7 m))∧Below w.heap.size w w':=by
 rw [show aQ 7 m=(m==1) by simp [aQ]]
 go_enter Tryz.func212,Tryz.ntmps212
 go_wp2;go_ret;exact ⟨rfl,(Below.refl _ _).alloc (agD _) _⟩
theorem vY (m:Int) (s:ByteArray) (w:World):
  Calls Tryz.prog 212 #[.agg #[.int .i64 8, .string s, .int .i64 m]] w fun e w'=>e= .returned (.bool (aQ 8 m))∧Below w.heap.size w w':=by
 rw [show aQ 8 m=(m==2) by simp [aQ]]
 go_enter Tryz.func212,Tryz.ntmps212
 go_wp2;go_ret;exact ⟨rfl,(Below.refl _ _).alloc (agD _) _⟩
theorem vZ (m:Int) (s:ByteArray) (w:World):
  Calls Tryz.prog 212 #[.agg #[.int .i64 9, .string s, .int .i64 m]] w fun e w'=>e= .returned (.bool (aQ 9 m))∧Below w.heap.size w w':=by
 rw [show aQ 9 m=(m==3) by simp [aQ]]
 go_enter Tryz.func212,Tryz.ntmps212
 go_wp2;go_ret;exact ⟨rfl,(Below.refl _ _).alloc (agD _) _⟩
theorem we (m:Int) (s:ByteArray) (w:World):
  Calls Tryz.prog 212 #[.agg #[.int .i64 5, .string s, .int .i64 m]] w fun e w'=>e= .returned (.bool (aQ 5 m))∧Below w.heap.size w w':=by
 rw [show aQ 5 m=(decide (0≤m)&&decide (m≤8)) by simp [aQ]]
 by_cases h0:0≤m
 ·by_cases h8:m≤8
  ·rw [decide_eq_true h0,decide_eq_true h8]
   go_enter Tryz.func212,Tryz.ntmps212
   go_wp2;go_ret;exact ⟨rfl,(Below.refl _ _).alloc (agD _) _⟩
  ·rw [decide_eq_true h0,decide_eq_false h8]
   go_enter Tryz.func212,Tryz.ntmps212
   go_wp2;go_ret;exact ⟨rfl,(Below.refl _ _).alloc (agD _) _⟩
 ·rw [decide_eq_false h0]
  go_enter Tryz.func212,Tryz.ntmps212
  go_wp2;go_ret;exact ⟨rfl,(Below.refl _ _).alloc (agD _) _⟩
theorem wg (m:Int) (s:ByteArray) (w:World):
  Calls Tryz.prog 212 #[.agg #[.int .i64 6, .string s, .int .i64 m]] w fun e w'=>e= .returned (.bool (aQ 6 m))∧Below w.heap.size w w':=by
 rw [show aQ 6 m=(decide (0≤m)&&decide (m≤8)) by simp [aQ]]
 by_cases h0:0≤m
 ·by_cases h8:m≤8
  ·rw [decide_eq_true h0,decide_eq_true h8]
   go_enter Tryz.func212,Tryz.ntmps212
   go_wp2;go_ret;exact ⟨rfl,(Below.refl _ _).alloc (agD _) _⟩
  ·rw [decide_eq_true h0,decide_eq_false h8]
   go_enter Tryz.func212,Tryz.ntmps212
   go_wp2;go_ret;exact ⟨rfl,(Below.refl _ _).alloc (agD _) _⟩
 ·rw [decide_eq_false h0]
  go_enter Tryz.func212,Tryz.ntmps212
  go_wp2;go_ret;exact ⟨rfl,(Below.refl _ _).alloc (agD _) _⟩
theorem ti (k:Int) (m:Int) (s:ByteArray) (w:World) (hk: ¬(1≤k∧k≤9)):
  Calls Tryz.prog 212 #[.agg #[.int .i64 k, .string s, .int .i64 m]] w fun e w'=>e= .returned (.bool (aQ k m))∧Below w.heap.size w w':=by
 have hf:aQ k m=false:=by
  unfold aQ
  iterate 5 rw [if_neg (by omega)]
 rw [hf];clear hf;have n1:(k==1)=false:=beq_eq_false_iff_ne.mpr (by omega);have n2:(k==2)=false:=beq_eq_false_iff_ne.mpr (by omega);have n3:(k==3)=false:=beq_eq_false_iff_ne.mpr (by omega);have n4:(k==4)=false:=beq_eq_false_iff_ne.mpr (by omega);have n5:(k==5)=false:=beq_eq_false_iff_ne.mpr (by omega);have n6:(k==6)=false:=beq_eq_false_iff_ne.mpr (by omega);have n7:(k==7)=false:=beq_eq_false_iff_ne.mpr (by omega);have n8:(k==8)=false:=beq_eq_false_iff_ne.mpr (by omega);have n9:(k==9)=false:=beq_eq_false_iff_ne.mpr (by omega);clear hk
 go_enter Tryz.func212,Tryz.ntmps212
 go_wp2;go_ret;exact ⟨rfl,(Below.refl _ _).alloc (agD _) _⟩
theorem qX (k m:Int) (s:ByteArray) (w:World):
  Calls Tryz.prog 212 #[.agg #[.int .i64 k, .string s, .int .i64 m]] w fun e w'=>e= .returned (.bool (aQ k m))∧Below w.heap.size w w':=by
 by_cases hk:1≤k∧k≤9
 ·rcases kinds k hk with rfl|rfl|rfl|rfl|rfl|rfl|rfl|rfl|rfl
  ·exact vS m s w
  ·exact vT m s w
  ·exact vU m s w
  ·exact vV m s w
  ·exact we m s w
  ·exact wg m s w
  ·exact vX m s w
  ·exact vY m s w
  ·exact vZ m s w
 ·exact ti k m s w hk
theorem oo (k m:Int) (s:ByteArray) (w:World) (hs:s.size≤maxLen) (Al:Tab w):
  Calls Tryz.prog 189 #[.agg #[.int .i64 k, .string s, .int .i64 m]] w fun e w'=>e= .returned (.bool (aF k s m))∧Below w.heap.size w w':=by
 cases hw:ar k s with
 |false=>
  rw [show aF k s m=false by simp [aF,hw]];have HW:=agC hw;clear hw
  go_enter Tryz.func189,Tryz.ntmps189
  go_wp2_with fail;refine (lG k m s _ hs (Al.al _)).mono ?_;rintro e w1 ⟨rfl,Aa⟩;have B1:=agC (((Below.refl w.heap.size w).alloc (agD _) _).trans (Aa.mono (by simp)));clear Aa;rw [HW.out];go_wp2;go_ret;exact ⟨rfl,B1.out⟩
 |true=>
  rw [show aF k s m=aQ k m by simp [aF,hw]];have HW:=agC hw;clear hw
  go_enter Tryz.func189,Tryz.ntmps189
  go_wp2_with fail;refine (lG k m s _ hs (Al.al _)).mono ?_;rintro e w1 ⟨rfl,Aa⟩;obtain ⟨d0,d1,d2⟩:=agh Aa;have B1:=agC (((Below.refl w.heap.size w).alloc (agD _) _).trans (Aa.mono (by simp)));clear Aa;rw [HW.out];go_wp2_with fail;refine (qX k m s _).mono ?_;rintro e w2 ⟨rfl,Ae⟩;have B2:=agC (B1.out.trans (Ae.mono B1.out.size));clear Ae;go_wp2;go_ret;exact ⟨rfl,B2.out⟩
def BlkN (w:World) (g:Nat) (cs:Array Value):Prop:=w.heap[g]? =some (.cells cs 204 (0,0))
section
variable {w w':World} {g:Nat} {cs:Array Value}
theorem BlkN.lt (h:BlkN w g cs):g<w.heap.size:=by
 rcases Nat.lt_or_ge g w.heap.size with Ab|DQ
 ·exact Ab
 ·unfold BlkN at h;rw [Array.getElem?_eq_none DQ] at h;cases h
theorem BlkN.cell (h:BlkN w g cs) (i:Nat):w.cell? ⟨g,i,none⟩=cs[i]? :=cell_of_row w g i cs _ (0,0) h
theorem BlkN.frozen (h:BlkN w g cs) (i:Nat):w.frozen? ⟨g,i,none⟩=false:=by
 unfold BlkN at h
 simp [World.frozen?,h]
theorem BlkN.new (w:World) (cs:Array Value):BlkN (w.alloc (.cells cs 204)) w.heap.size cs:=heap_alloc_new w _
theorem BlkN.keep (h:BlkN w g cs) (hb:Below w.heap.size w w'):BlkN w' g cs:=(hb.block g h.lt).trans h
theorem BlkN.alloc (h:BlkN w g cs) (o:Obj):BlkN (w.alloc o) g cs:=(Below.heap_alloc w o g h.lt).trans h
theorem BlkN.set_ (h:BlkN w g cs) (i:Nat) (u:Value):BlkN (w.setCell ⟨g,i,none⟩ u) g (cs.setIfInBounds i u):=by
 unfold BlkN at h⊢
 simp [World.setCell,Array.getElem?_modify,h]
theorem BlkN.grown {row:Option Nat} (h:BlkN w g cs) (hb:w.grownBy w' row) (hg:some g≠row):BlkN w' g cs:=(hb.block g h.lt hg).trans h
end
def ef (ps:List Nat):List Value:=ps.map fun p=>Value.pointer (some ⟨p,0,none⟩)
theorem ju (ps:List Nat):(ef ps).length=ps.length:=by simp [ef]
theorem qc (ps:List Nat) (p:Nat):ef (ps++[p])=ef ps++[.pointer (some ⟨p,0,none⟩)]:=by simp [ef]
theorem qY (ps:List Nat) (k:Nat) (h:k<ps.length):(ef ps)[k]? =some (.pointer (some ⟨ps[k],0,none⟩)):=by simp [ef,h]
inductive TrS (w:World) (am:List Nat) (S:Nat→Prop):List Nat→Nat→Nat→Nat→Prop
 |nil (f:Nat):TrS w am S [] f f 0
 |cons {N f m g d t e:Nat} {v:Value} {qs ps:List Nat}:am[f]? =some m→S N→BlkN w N #[.int .i64 (f:Int), .int .i64 (g:Int),v]→w.ownsRow 0 165 1 v m (ef qs)→
   (∀r,v.ownBlock=some r→S r)→TrS w am S qs (f+1) g d→TrS w am S ps g t e→TrS w am S (N::ps) f t (max (d+1) e)
theorem jP {w:World} {base m:Nat} {T:TypeId} {v:Value} {qs:List Nat} (h:w.ownsRow base T 1 v m (ef qs)):qs.length=m:=by
 have:=h.1;rw [ju] at this;omega
theorem TrS.exs {w:World} {am:List Nat} {S:Nat→Prop} {ps:List Nat} {f t d:Nat} (h:TrS w am S ps f t d):Exs am ps.length f t d:=by
 induction h with
 |nil f=>exact .nil f
 | @cons N f m g d t e v qs ps hm hS hb ho hr h1 h2 i1 i2=>
  rw [jP ho] at i1;exact .cons hm i1 i2
theorem TrS.keep {w w':World} {am:List Nat} {S S':Nat→Prop} {ps:List Nat} {f t d:Nat} (h:TrS w am S ps f t d) (hw: ∀b,S b→b<w.heap.size→w'.heap[b]? =w.heap[b]?) (hS: ∀b,S b→b<w.heap.size→S' b):TrS w' am S' ps f t d:=by
 induction h with
 |nil f=>exact .nil f
 | @cons N f m g d t e v qs ps hm hN hb ho hr h1 h2 i1 i2=>
  have Ab:=hb.lt;refine .cons hm (hS N hN Ab) ((hw N hN Ab).trans hb) ?_ (fun r h=>hS r (hr r h) (ho.lt r h).2) i1 i2;refine ⟨ho.1, ?_⟩
  rcases ho.2 with hn|⟨g',cap,cur,rfl,Dy,DV,rest⟩
  ·exact .inl hn
  ·refine .inr ⟨g',cap,cur,rfl,Dy, ?_,rest⟩
   rw [hw g' (hr g' rfl) (ho.lt g' rfl).2];exact DV
theorem TrS.app {w:World} {am:List Nat} {S:Nat→Prop} {ps:List Nat} {f g d:Nat} (h:TrS w am S ps f g d): ∀{qs:List Nat} {t e:Nat},TrS w am S qs g t e→TrS w am S (ps++qs) f t (max d e):=by
 induction h with
 |nil f=>intro qs t e k;rw [Nat.zero_max];exact k
 | @cons N f m g d t e v qs ps hm hN hb ho hr h1 h2 i1 i2=>
  intro qs' t' e' k;rw [Nat.max_assoc];exact .cons hm hN hb ho hr h1 (i2 k)
theorem TrS.one {w:World} {am:List Nat} {S:Nat→Prop} {N f m g d:Nat} {v:Value} {qs:List Nat} (hm:am[f]? =some m) (hN:S N) (hb:BlkN w N #[.int .i64 (f:Int), .int .i64 (g:Int),v]) (ho:w.ownsRow 0 165 1 v m (ef qs))
  (hr: ∀r,v.ownBlock=some r→S r) (h:TrS w am S qs (f+1) g d):TrS w am S [N] f g (d+1):=by
 have:=TrS.cons hm hN hb ho hr h (.nil g)
 rwa [Nat.max_eq_left (by omega)] at this
theorem TrS.inv {w:World} {am:List Nat} {S:Nat→Prop} {N f t d:Nat} (h:TrS w am S [N] f t d): ∃m e v qs,am[f]? =some m∧S N∧BlkN w N #[.int .i64 (f:Int), .int .i64 (t:Int),v]∧w.ownsRow 0 165 1 v m (ef qs)∧(∀r,v.ownBlock=some r→S r)∧TrS w am S qs (f+1) t e∧d=e+1:=by
 cases h with
 | @cons _ _ m g d1 _ _ v qs _ hm hN hb ho hr h1 h2=>
  cases h2
  exact ⟨m,d1,v,qs,hm,hN,hb,ho,hr,h1,by omega⟩
theorem TrS.at {w:World} {am:List Nat} {S:Nat→Prop} {ps:List Nat} {f t d:Nat} (h:TrS w am S ps f t d): ∀k,(hk:k<ps.length)→ ∃g g' d0 d1 d2,TrS w am S (ps.take k) f g d0∧TrS w am S [ps[k]] g g' d1∧TrS w am S (ps.take (k+1)) f g' (max d0 d1)∧TrS w am S (ps.drop (k+1)) g' t d2∧d=max (max d0 d1) d2:=by
 induction h with
 |nil f=>intro k hk;simp at hk
 | @cons N f m g d t e v qs ps hm hN hb ho hr h1 h2 i1 i2=>
  intro k hk
  cases k with
  |zero=>
   have h:=TrS.one hm hN hb ho hr h1;exact ⟨f,g,0,d+1,e, .nil f,h,by rw [Nat.zero_max];exact h,h2,by rw [Nat.zero_max]⟩
  |succ k=>
   have GL:k<ps.length:=by simpa using hk
   obtain ⟨g1,g2,d0,d1,d2,j1,j2,j3,j4,rfl⟩:=i2 k GL;have h:=TrS.one hm hN hb ho hr h1;refine ⟨g1,g2,max (d+1) d0,d1,d2, ?_,by simpa using j2, ?_,by simpa using j4,by omega⟩
   ·rw [List.take_succ_cons];exact h.app j1
   ·rw [List.take_succ_cons]
    have:=h.app j3
    rwa [show max (d+1) (max d0 d1)=max (max (d+1) d0) d1 by omega] at this
theorem lH {w:World} {m:Nat} {v:Value} {qs:List Nat} (ho:w.ownsRow 0 165 1 v m (ef qs)):
  ∃ao cap,v= .slice ao qs.length cap∧qs.length≤cap∧cap≤maxLen∧(qs=[]∨ ∃b,ao=some ⟨b,0,none⟩∧b<w.heap.size∧ ∀k (h:k<qs.length),w.cell? ⟨b,k,none⟩=some (.pointer (some ⟨qs[k],0,none⟩))):=by
 have hl:=jP ho;subst hl
 rcases ho.2 with ⟨rfl,h0⟩|⟨g,cap,cur,rfl,hg,hh,h1,h2,_⟩
 ·exact ⟨none,0,by rw [h0],by omega,by unfold maxLen;omega, .inl (List.length_eq_zero_iff.mp h0)⟩
 ·refine ⟨_,cap,rfl,h1,h2, .inr ⟨g,rfl,(ho.lt g rfl).2,fun k hk=> ?_⟩⟩
  rw [ho.cellAt k (by omega)];exact qY qs k hk
theorem ad1:(Tryz.prog.info? 165).map (fun i=>(i.zero,i.size,i.bytes))=some (some (.pointer none),1,8):=by kernel_rfl
def xT (am:List Nat) (f:Nat) (w:World) (e:Ending) (w':World):Prop:=
 Below w.heap.size w w'∧((∃N t d,e= .returned (.pointer (some ⟨N,0,none⟩))∧TrS w' am (fun b=>w.heap.size≤b∧b<w'.heap.size) [N] f t d)∨(e= .returned (.pointer none)∧ ¬ ∃t d,Exs am 1 f t d))
def GInv (am:List Nat) (w:World) (f k g:Nat) (wr:World):Prop:=
 ∃(v:Value) (ps:List Nat) (d:Nat),BlkN wr w.heap.size #[.int .i64 (f:Int), .int .i64 (g:Int),v]∧wr.ownsRow (w.heap.size+1) 165 1 v k (ef ps)∧TrS wr am (fun b=>w.heap.size<b∧b<wr.heap.size∧v.ownBlock≠some b) ps (f+1) g d∧Below w.heap.size w wr
theorem GInv.exs {am:List Nat} {w wr:World} {f k g:Nat} (h:GInv am w f k g wr): ∃d,Exs am k (f+1) g d:=by
 obtain ⟨v,ps,d,-,ho,ht,-⟩:=h
 have hl:ps.length=k:=by have:=ho.1;rw [ju] at this;omega
 exact ⟨d,hl▸ht.exs⟩
theorem GInv.start (am:List Nat) (w:World) (f:Nat):GInv am w f 0 (f+1) (w.alloc (.cells #[.int .i64 (f:Int), .int .i64 ((f+1:Nat):Int), .slice none 0 0] 204)):=
 ⟨_,[],0,BlkN.new _ _,World.ownsRow_nil _ _ _ _, .nil _,(Below.refl _ _).alloc (agD _) _⟩
theorem GInv.done {am:List Nat} {w wr:World} {f m g:Nat} (h:GInv am w f m g wr) (hm:am[f]? =some m):xT am f w (.returned (.pointer (some ⟨w.heap.size,0,none⟩))) wr:=by
 obtain ⟨v,ps,d,hb,ho,ht,hB⟩:=h;refine ⟨hB, .inl ⟨w.heap.size,g,d+1,rfl, ?_⟩⟩;exact TrS.one hm ⟨agD _,hb.lt⟩ hb (ho.mono (agH _)) (fun r hr=>⟨by have:=(ho.lt r hr).1;omega,(ho.lt r hr).2⟩) (ht.keep (fun _ _ _=>rfl) (fun b hb _=>⟨by omega,hb.2.1⟩))
theorem GInv.fail {am:List Nat} {w wr w1:World} {f k m g:Nat} (h:GInv am w f k g wr) (hm:am[f]? =some m) (hk:k<m) (hB:Below wr.heap.size wr w1) (Ar: ¬ ∃t d,Exs am 1 g t d):xT am f w (.returned (.pointer none)) w1:=by
 obtain ⟨d,hx⟩:=h.exs;obtain ⟨v,ps,d',hb,ho,ht,D0⟩:=h;exact ⟨D0.trans (hB.mono D0.size), .inr ⟨rfl,sT hm (abU hx hk Ar)⟩⟩
theorem GInv.next {am:List Nat} {w wr w1 w2:World} {f k g t N1 d d1 gg cap':Nat} {vv:Value} {ps:List Nat}
  (Bd:Below w.heap.size w wr) (hb:BlkN wr w.heap.size #[.int .i64 (f:Int), .int .i64 (g:Int),vv]) (ho:wr.ownsRow (w.heap.size+1) 165 1 vv k (ef ps))
  (ht:TrS wr am (fun b=>w.heap.size<b∧b<wr.heap.size∧vv.ownBlock≠some b) ps (f+1) g d) (Aa:Below wr.heap.size wr w1) (ht1:TrS w1 am (fun b=>wr.heap.size≤b∧b<w1.heap.size) [N1] g t d1)
  (o:Obj) (Ac:(w1.alloc o).grownBy w2 vv.ownBlock) (Bc:vv.ownBlock=some gg∨gg=w1.heap.size+1)
  (Ah:w2.ownsRow (w.heap.size+1) 165 1 (.slice (some ⟨gg,0,none⟩) (k+1) cap') (k+1) (ef ps++[.pointer (some ⟨N1,0,none⟩)])) (B8:BlkN w2 w.heap.size #[.int .i64 (f:Int), .int .i64 (g:Int),vv]):
  GInv am w f (k+1) t ((w2.setCell ⟨w.heap.size,2,none⟩ (.slice (some ⟨gg,0,none⟩) (k+1) cap')).setCell ⟨w.heap.size,1,none⟩ (.int .i64 (t:Int))):=by
 have Cj:=Aa.size
 have D7:w1.heap.size+1≤w2.heap.size:=by have:=Ac.size;simpa using this
 have Jk:=hb.lt;have DV:w.heap.size+1≤gg∧gg<w2.heap.size:=Ah.lt gg rfl
 have Me: ∀r,vv.ownBlock=some r→r<wr.heap.size:=fun r hr=>(ho.lt r hr).2
 have Au:((w2.setCell ⟨w.heap.size,2,none⟩ (.slice (some ⟨gg,0,none⟩) (k+1) cap')).setCell ⟨w.heap.size,1,none⟩ (.int .i64 (t:Int))).heap.size=w2.heap.size:=by simp [World.setCell]
 have DP: ∀b,b≠w.heap.size→((w2.setCell ⟨w.heap.size,2,none⟩ (.slice (some ⟨gg,0,none⟩) (k+1) cap')).setCell ⟨w.heap.size,1,none⟩ (.int .i64 (t:Int))).heap[b]? =w2.heap[b]? :=fun b C6=>by
  rw [Below.heap_setCell _ _ _ _ C6,Below.heap_setCell _ _ _ _ C6]
 refine ⟨.slice (some ⟨gg,0,none⟩) (k+1) cap',ps++[N1],max d d1, ?_, ?_, ?_, ?_⟩
 ·have:=(B8.set_ 2 (.slice (some ⟨gg,0,none⟩) (k+1) cap')).set_ 1 (.int .i64 (t:Int))
  exact this
 ·rw [qc]
  refine Ah.kept (row:=some w.heap.size) ⟨rfl,rfl,rfl,by rw [Au];exact agD _,fun b _ hn=>DP b (fun e=>hn (by rw [e]))⟩ (.inr ?_);intro he
  have he:gg=w.heap.size:=by simpa [Value.ownBlock] using he
  omega
 ·refine TrS.app (ht.keep ?_ ?_) (ht1.keep ?_ ?_)
  ·rintro b ⟨h1,h2,h3⟩-
   rw [DP b (by omega),Ac.block b (by simp;omega) (fun e=>h3 e.symm),Below.heap_alloc _ _ _ (by omega),Aa.block b h2]
  ·rintro b ⟨h1,h2,h3⟩-
   refine ⟨h1,by rw [Au];omega,fun he=> ?_⟩
   have he:gg=b:=by simpa [Value.ownBlock] using he
   subst he
   rcases Bc with h|h
   ·exact h3 h
   ·omega
  ·rintro b ⟨h1,h2⟩-
   rw [DP b (by omega),Ac.block b (by simp;omega) (fun e=>by have:=Me b e.symm;omega),Below.heap_alloc _ _ _ (by omega)]
  ·rintro b ⟨h1,h2⟩-
   refine ⟨by omega,by rw [Au];omega,fun he=> ?_⟩
   have he:gg=b:=by simpa [Value.ownBlock] using he
   subst he
   rcases Bc with h|h
   ·have:=Me _ h;omega
   ·omega
 ·exact ((((Bd.trans (Aa.mono Bd.size)).alloc (by have:=Bd.size;omega) _).grown Ac (by simp;have:=Bd.size;omega) (fun r hr=>by have:=(ho.lt r hr).1;omega)).setCell (agD _) _).setCell (agD _) _
theorem tl (v:Value) (l:List Cl) (w:World) (hr:RowC w v l):
  Calls Tryz.prog 209 #[v, .int .i64 (l.length:Int)] w (xT (amL l) l.length w):=by
 have Ar: ¬ ∃t d,Exs (amL l) 1 l.length t d:=by
  rintro ⟨t,d,h⟩;have:=h.le;rw [cG] at this;have h2:=this.2 (by omega);omega
 have HN:=agC Ar;clear Ar;obtain ⟨ao,cap,rfl,h1,h2,h3⟩:=hr;unfold maxLen at h2;have H3:=agC h3;clear h3
 go_enter Tryz.func209,Tryz.ntmps209
 go_wp2;go_ret;exact ⟨Below.refl _ _, .inr ⟨rfl,HN.out⟩⟩
theorem ab9 (v:Value) (l:List Cl) (Ci:l.length≤60) (Aj:l.all okM=true) (j:Nat): ∀(f:Nat) (w:World),f≤l.length→l.length-f≤j→RowC w v l→
  Calls Tryz.prog 209 #[v, .int .i64 (f:Int)] w (xT (amL l) f w):=by
 induction j with
 |zero=>
  intro f w hf hj hr
  obtain rfl:f=l.length:=by omega
  exact tl v l w hr
 |succ j ih=>
  intro f w hf hj hr
  by_cases Dr:f=l.length
  ·subst Dr;exact tl v l w hr
  ·have Ab:f<l.length:=by omega
   obtain ⟨i0,hi,Az,Ax,AC⟩:=info_parts ad1;have HR:=agC hr;obtain ⟨ao,cap,rfl,h1,h2,h3⟩:=hr;unfold maxLen at h2
   rcases h3 with h3|⟨b,o,rfl,Av,hc⟩
   ·subst h3;simp at Ab
   ·obtain ⟨c0,c1,c2⟩:=hc f Ab
    have JQ:=lE (nh Aj f Ab);have EZ:=agC (qR l f Ab);have At:((f:Int)==(l.length:Int))=false:=beq_eq_false_iff_ne.mpr (by omega);have FM:(f==l.length)=false:=beq_eq_false_iff_ne.mpr (by omega);generalize hM:l[f].2.2=M at c2 JQ EZ;have ID:=agC hM;clear hM;obtain ⟨m,rfl⟩:=agG JQ.1
    have Q9:m≤8:=by omega
    have Mf:Hid ((amL l)[f]? =some m):=agC (by have:=EZ.out;simpa using this);have Di:=agC ih;have D2:=agC Dr;clear hc JQ EZ ih Dr ID c0 c1 Aj
    go_enter Tryz.func209,Tryz.ntmps209
    go_wp2;have EM:=agC (GInv.start (amL l) w f)
    go_loopw [6,21] (fun _ i wr=> ∃k g:Nat,k≤m∧i= .int .i64 (k:Int)∧GInv (amL l) w f k g wr) (fun _ i _=>m-(intOf i).toNat)
    case atStart=>exact ⟨0,f+1,agH _,rfl,by have:=EM.out;rwa [show ((f+1:Nat):Int)=(f:Int)+1 by omega] at this⟩
    case round=>
     obtain ⟨k,g,hk,rfl,hG⟩:=hrel;have HG:=agC hG
     by_cases Oy:k<m
     ·obtain ⟨dx,hx⟩:=hG.exs
      have O7:=hx.le;rw [cG] at O7
      have IV:g≤l.length:=by
       by_cases Bo:k=0
       ·subst Bo;cases hx;omega
       ·exact O7.2 Bo
      have VC:f<g:=by omega
      clear hx O7;obtain ⟨vv,ps,d,hb,Ad,ht,hB⟩:=hG;have e0:wr.cell? ⟨w.heap.size,1,none⟩=some (.int .i64 (g:Int)):=hb.cell 1;have HB:=agC hb;have HO:=agC Ad;have HT:=agC ht;have FN:=agC hB;clear hb Ad ht hB;go_wp2_with fail;refine (Di.out g _ IV (by omega) (HR.out.mono FN.out)).mono ?_;rintro e w1 ⟨Aa,⟨N1,t,d1,rfl,ht1⟩|⟨rfl,Ar⟩⟩
      ·obtain ⟨m1,Pa,v1,Ra,-,KA,Dg,-⟩:=ht1.inv
       have cN1:w1.cell? ⟨N1,1,none⟩=some (.int .i64 (t:Int)):=Dg.cell 1
       have Mg:w.heap.size<N1:=by have:=HB.out.lt;omega
       have GM:wr.grownBy w1 none:=⟨Aa.os,Aa.tape,Aa.output,Aa.size,fun i hi _=>Aa.block i hi⟩;have EC:=HO.out.kept GM (by cases hv:vv.ownBlock<;>simp);have K1:=HB.out.keep Aa;have hM:=K1.lt;have c1:w1.cell? ⟨w.heap.size,1,none⟩=some (.int .i64 (g:Int)):=K1.cell 1;have c2:w1.cell? ⟨w.heap.size,2,none⟩=some vv:=K1.cell 2;have f1:w1.frozen? ⟨w.heap.size,1,none⟩=false:=K1.frozen 1;have f2:w1.frozen? ⟨w.heap.size,2,none⟩=false:=K1.frozen 2
       have At:vv.ownBlock≠some w.heap.size:=fun he=>by have:=(EC.lt _ he).1;omega
       have NE:=agC At;have C7:=agC K1;have FB:=agC Dg;have GN:=agC ht1;have Af:=agC Aa;clear GM K1 At Aa ht1 Dg KA e0
       obtain ⟨av,cv,hv⟩: ∃a c,vv= .slice a k c:=by
        rcases EC.2 with ⟨rfl,h0⟩|⟨g',cap',cur,rfl,_⟩
        ·exact ⟨none,0,by rw [h0]⟩
        ·exact ⟨_,_,rfl⟩
       subst hv
       have E2: ∀r,(Value.slice av k cv).ownBlock=some r→r<N1:=fun r hr=>by have h1:=GN.out.inv;obtain ⟨_,_,_,_,-,hS,-⟩:=h1;have h2:=(HO.out.lt r hr).2;omega
       have Mh:(Value.slice av k cv).ownBlock≠some N1:=fun he=>by have:=E2 _ he;omega
       have BO: ¬N1=w.heap.size:=by omega
       have DE: ¬w.heap.size=N1:=by omega
       have NR:=agC Mh;have FAR:=agC E2;clear E2 Mh
       go_wp2_with (at_builtin;refine wpList_append_lies _ rfl _ _ 202 rfl (w.heap.size+1) 165 i0 (.pointer none) 1 8 Tryz.underlying202 hi Az Ax AC rfl (by decide) (.slice av k cv) k _ rfl (EC.alloc _) ⟨w1.heap.size,0,none⟩ 1 1 [.pointer (some ⟨N1,0,none⟩)] rfl rfl (World.news_of_block (cs:= #[.pointer (some ⟨N1,0,none⟩)]) (t:=165) (fr:=(0,0)) (heap_alloc_new w1 _)) (by simp [Value.oneCell']) (by omega) (by unfold maxLen;omega) (by omega) (by simp;omega) (w1.heap.size+1) (by simp) ?_;intro gg cap' w2 Ah Ac Bc ES;have hfz:w2.frozen? ⟨w.heap.size,2,none⟩=false:=((Ac.frozen_far _ (by simp;omega) (fun hq=>NE.out hq.symm)).trans (((agF w1 _ none).frozen_far ⟨w.heap.size,2,none⟩ hM (by simp)).trans f2));have K2:=BlkN.grown (C7.out.alloc _) Ac (fun hq=>NE.out hq.symm);have M2:=BlkN.grown (FB.out.alloc _) Ac (fun hq=>NR.out hq.symm);have DS:w2.cell? ⟨w.heap.size,2,none⟩=some (.slice av k cv):=K2.cell 2;have Es:w2.cell? ⟨w.heap.size,1,none⟩=some (.int .i64 (g:Int)):=K2.cell 1;have LQ:w2.frozen? ⟨w.heap.size,1,none⟩=false:=K2.frozen 1;have M8:w2.cell? ⟨N1,1,none⟩=some (.int .i64 (t:Int)):=M2.cell 1;have KK2:=agC K2;have Cc:=agC Ah;have Bi:=agC Ac;have He:=agC Bc;clear K2 M2 Ah Ac Bc)
       go_roundw
       case rel=>exact ⟨k+1,t,by omega,by go_num,GInv.next FN.out HB.out HO.out HT.out Af.out GN.out _ Bi.out He.out Cc.out KK2.out⟩
       case measure=>simp [intOf];omega
      ·have HF:=agC (HG.out.fail Mf.out Oy Aa Ar)
       clear Ar Aa;go_wp2;go_ret;exact HF.out
     ·obtain rfl:k=m:=by omega
      have HD:=agC (HG.out.done Mf.out);go_wp2;go_ret;exact HD.out
theorem Exs.dep {am:List Nat} {n f t d:Nat} (h:Exs am n f t d):d≤t-f:=by
 induction h with
 |nil f=>omega
 | @cons f m g d n t e hm h1 h2 i1 i2=>have l1:=h1.le;have l2:=h2.le;omega
theorem agi {a b:Int} (h:a=b):Ending.returned (.int .i64 a)= .returned (.int .i64 b):=by rw [h]
theorem qd (am:List Nat) (Ci:am.length≤60) (S:Nat→Prop) (w:World) (j:Nat): ∀(N f t d:Nat),TrS w am S [N] f t d→t-f≤j→
  Calls Tryz.prog 210 #[.pointer (some ⟨N,0,none⟩)] w fun e w'=>e= .returned (.int .i64 (d:Int))∧w=w':=by
 induction j with
 |zero=>intro N f t d h hj;have:=h.exs.le;simp at this;omega
 |succ j ih=>
  intro N f t d h hj;obtain ⟨m,e,v,qs,hm,hS,hb,ho,hr,ht,rfl⟩:=h.inv;have CJ:=ht.exs.le;have JR:=ht.exs.dep;have Du:t≤am.length:=h.exs.le.2 (by simp);obtain ⟨ao,cap,rfl,h1,h2,h3⟩:=lH ho;unfold maxLen at h2;have c2:w.cell? ⟨N,2,none⟩=some (.slice ao qs.length cap):=hb.cell 2;have H3:=agC h3;have HT:=agC ht;have IH:=agC ih;have JS:=agC (show TrS w am S (qs.take 0) (f+1) (f+1) 0 from .nil _)
  have Fk:qs.length≤60:=by omega
  clear h3 ht ih h hm hS hb ho hr
  go_enter Tryz.func210,Tryz.ntmps210
  go_wp2
  go_loop [3,5,11] (fun dp _ i=> ∃k e0:Nat,k≤qs.length∧i= .int .i64 (k:Int)∧dp= .int .i64 (e0:Int)∧ ∃g,TrS w am S (qs.take k) (f+1) g e0) (fun _ _ i=>qs.length-(intOf i).toNat)
  case atStart=>exact ⟨0,0,agH _,rfl,rfl,f+1,JS.out⟩
  case round=>
   obtain ⟨k,e0,hk,rfl,rfl,hx⟩:=hrel;have HX:=agC hx;clear hx
   by_cases Ab:k<qs.length
   ·obtain ⟨b,rfl,Av,cc⟩:=H3.out.resolve_left (by rintro rfl;simp at Ab)
    have d1:=cc k Ab;obtain ⟨g,g',d0,Pa,d2,j1,j2,j3,j4,j5⟩:=HT.out.at k Ab;obtain ⟨gx,hx⟩:=HX.out;obtain ⟨-,rfl⟩:=hx.exs.uniq j1.exs;have l1:=j1.exs.le;have l2:=j2.exs.le;have l4:=j4.exs.le;have l2d:=j2.exs.dep;have l1d:=j1.exs.dep;have TB:=agC j2;have O8:=agC j3;simp only [List.length_take,List.length_cons,List.length_nil] at l1 l2;clear j1 j2 j3 j4 hx cc HX;go_wp2_with fail;refine (IH.out _ g g' Pa TB.out (by omega)).mono ?_;rintro e w' ⟨rfl,rfl⟩;go_wp2
    go_round
    case rel=>exact ⟨k+1,max e0 Pa,by omega,by go_num,by first|rfl|(congr 1;omega),g',O8.out⟩
    case measure=>simp [intOf];omega
   ·obtain rfl:k=qs.length:=by omega
    obtain ⟨g,hx⟩:=HX.out
    have GH:=agC (show e0=e by
     rw [List.take_of_length_le (agD _)] at hx
     exact (hx.exs.uniq HT.out.exs).2)
    have:e0≤60:=by have:=GH.out;omega
    clear hx;go_wp2;go_ret;exact ⟨agi (by rw [GH.out]),rfl⟩
open Classical in
noncomputable def okP (p:Cl→Bool) (l:List Cl):Bool:=decide (l.length≤60)&&(l.all p&&decide (∃d,d≤12∧Exs (amL l) 1 0 l.length d))
theorem lI {p:Cl→Bool} (l:List Cl):okP p l=true↔l.length≤60∧l.all p=true∧ ∃d,d≤12∧Exs (amL l) 1 0 l.length d:=by
 simp only [okP,Bool.and_eq_true,decide_eq_true_eq]
theorem aeL (l:List Cl):okP okC l=okE l:=by
 rw [Bool.eq_iff_iff,lI,dE]
theorem ad2 {p:Cl→Bool} {l:List Cl} (h: ¬l.length≤60):okP p l=false:=by
 rw [Bool.eq_false_iff];intro h';exact h ((lI l).mp h').1
theorem aca {p:Cl→Bool} {l:List Cl} (h: ¬l.all p=true):okP p l=false:=by
 rw [Bool.eq_false_iff];intro h';exact h ((lI l).mp h').2.1
theorem afp {p:Cl→Bool} {l:List Cl} {t d:Nat} (hx:Exs (amL l) 1 0 t d) (Ci:l.length≤60) (Aj:l.all p=true):okP p l=true↔t=l.length∧d≤12:=by
 rw [lI]
 constructor
 ·rintro ⟨-,-,d',hd,Mi⟩
  obtain ⟨rfl,rfl⟩:=hx.uniq Mi;exact ⟨rfl,hd⟩
 ·rintro ⟨rfl,hd⟩
  exact ⟨Ci,Aj,d,hd,hx⟩
theorem acb {p:Cl→Bool} {l:List Cl} (h: ¬ ∃t d,Exs (amL l) 1 0 t d):okP p l=false:=by
 rw [Bool.eq_false_iff];intro h';obtain ⟨-,-,d,-,hx⟩:=(lI l).mp h';exact h ⟨_,d,hx⟩
def agj (p:Cl→Bool) (l:List Cl) (w:World) (e:Ending) (w':World):Prop:=
 Below w.heap.size w w'∧((∃N d,e= .returned (.pointer (some ⟨N,0,none⟩))∧okP p l=true∧d≤12∧TrS w' (amL l) (fun b=>w.heap.size≤b∧b<w'.heap.size) [N] 0 l.length d)∨(e= .returned (.pointer none)∧okP p l=false))
def agk (l:List Cl) (w:World) (e:Ending) (w':World):Prop:=
 Below w.heap.size w w'∧((∃N d,e= .returned (.pointer (some ⟨N,0,none⟩))∧okE l=true∧d≤12∧TrS w' (amL l) (fun b=>w.heap.size≤b∧b<w'.heap.size) [N] 0 l.length d)∨(e= .returned (.pointer none)∧okE l=false))
def Asks (F:FuncId) (p:Cl→Bool) (Z:Nat):Prop:=
 ∀(k m:Int) (s:ByteArray) (w:World),s.size≤Z→Tab w→Calls Tryz.prog F #[.agg #[.int .i64 k, .string s, .int .i64 m]] w fun e w'=>e= .returned (.bool (p (k,s,m)))∧Below w.heap.size w w'
theorem zF {p:Cl→Bool} {l:List Cl} {k:Nat} (h:k<l.length):(l.take (k+1)).all p=((l.take k).all p&&p l[k]):=by
 rw [List.take_succ_eq_append_getElem h,List.all_append];simp
theorem qZ (F:FuncId) (p:Cl→Bool) (Z:Nat) (eF: ∀args w,(callFunc F args).run Tryz.prog w= .ok (.enter F args) w) (hF:Asks F p Z) (Rc: ∀c,p c=true→okM c=true) (v:Value) (l:List Cl) (w:World) (hr:RowC w v l) (hz: ∀c∈l,c.2.1.size≤Z) (Al:Tab w):
  Calls Tryz.prog 188 #[v, .func (.func F) #[] #[]] w (agj p l w):=by
 have HR:=agC hr;obtain ⟨ao,cap,rfl,h1,h2,h3⟩:=hr;unfold maxLen at h2;have H3:=agC h3;have HZ:=agC hz;have HF:=agC hF;have TC:=agC Rc;clear h3 hz hF Rc
 by_cases Ci:l.length≤60
 ·go_enter Tryz.func188,Tryz.ntmps188
  go_wp2
  go_loopw [13] (fun i wr=> ∃k:Nat,k≤l.length∧i= .int .i64 (k:Int)∧(l.take k).all p=true∧Below w.heap.size w wr) (fun i _=>l.length-(intOf i).toNat)
  case atStart=>exact ⟨0,agH _,rfl,rfl,Below.refl _ _⟩
  case round=>
   obtain ⟨k,hk,rfl,Aj,hb⟩:=hrel;have Bj:=agC Aj;have HB:=agC hb;clear Aj hb
   by_cases Ab:k<l.length
   ·obtain ⟨b,o,rfl,Av,cc⟩:=H3.out.resolve_left (by rintro rfl;simp at Ab)
    obtain ⟨c0,c1,c2⟩:=cc k Ab;have d0:wr.cell? ⟨b,o+k*3,none⟩=some (.int .i64 l[k].1):=(HB.out.cell (p:=⟨b,_,none⟩) Av).trans c0;have d1:wr.cell? ⟨b,o+k*3+1,none⟩=some (.string l[k].2.1):=(HB.out.cell (p:=⟨b,_,none⟩) Av).trans c1;have d2:wr.cell? ⟨b,o+k*3+2,none⟩=some (.int .i64 l[k].2.2):=(HB.out.cell (p:=⟨b,_,none⟩) Av).trans c2;have JT:l[k].2.1.size≤Z:=HZ.out _ (List.getElem_mem _);have HT:=agC (zF (p:=p) Ab);have HC:=agC (show p l[k]=p (l[k].1,l[k].2.1,l[k].2.2) from rfl);generalize l[k].1=kk at d0 HC;generalize l[k].2.1=ss at d1 HC JT;generalize l[k].2.2=mm at d2 HC;have O9:=agC JT;clear cc c0 c1 c2 JT;go_wp2_with fail;refine (HF.out kk mm ss _ O9.out ((Al.keep HB.out).al _)).mono ?_;rintro e w1 ⟨rfl,Aa⟩;have Af:=agC ((HB.out.alloc HB.out.size _).trans (Aa.mono (by have:=HB.out.size;simp;omega)));clear Aa
    cases DL:p (kk,ss,mm) with
    |true=>
     have HN:=agC (show (l.take (k+1)).all p=true by rw [HT.out,Bj.out,HC.out,DL];rfl);clear DL;go_wp2;go_roundw
     case rel=>exact ⟨k+1,by omega,by go_num,HN.out,Af.out⟩
     case measure=>simp [intOf];omega
    |false=>
     have HN:=agC (aca (p:=p) (l:=l) (fun h=>by
      rw [List.all_eq_true] at h;have:=h _ (List.getElem_mem Ab)
      rw [HC.out,DL] at this;cases this))
     clear DL;go_wp2;go_ret;exact ⟨Af.out, .inr ⟨rfl,HN.out⟩⟩
   ·obtain rfl:k=l.length:=by omega
    have BS:=agC (show l.all p=true by have:=Bj.out;rwa [List.take_of_length_le (agD _)] at this);have EZ:=agC (show l.all okM=true by have:=BS.out;rw [List.all_eq_true] at this⊢;exact fun c hc=>TC.out c (this c hc));go_wp2_with fail;refine (ab9 _ l Ci EZ.out l.length 0 _ (agH _) (by omega) (HR.out.mono HB.out)).mono ?_;rintro e w1 ⟨Aa,⟨N,t,d,rfl,ht⟩|⟨rfl,Ar⟩⟩
    ·have Af:=agC (HB.out.trans (Aa.mono HB.out.size))
     have HX:=agC (afp (p:=p) ht.exs Ci BS.out);obtain ⟨m1,e1,v1,Ra,-,-,Dg,-⟩:=ht.inv;have d1:w1.cell? ⟨N,1,none⟩=some (.int .i64 (t:Int)):=Dg.cell 1;have HT:=agC ht;have Cz:=agC (ht.keep (S':=fun b=>w.heap.size≤b∧b<w1.heap.size) (fun _ _ _=>rfl) (fun b hb _=>⟨by have:=HB.out.size;omega,hb.2⟩));have JR:=ht.exs.dep;have CJ:=ht.exs.le.2 (by simp);rw [cG] at CJ;clear Aa ht Dg
     have EP:(amL l).length≤60:=by rw [cG];exact Ci
     by_cases Du:t=l.length
     ·subst Du
      by_cases hd:d≤12
      ·have HK:=agC (HX.out.mpr ⟨rfl,hd⟩)
       have Dw:decide (12<d)=false:=decide_eq_false (by omega);go_wp2_with fail;refine (qd (amL l) EP _ _ l.length N 0 l.length d HT.out (by omega)).mono ?_;rintro e w' ⟨rfl,rfl⟩;go_wp2;go_ret;exact ⟨Af.out, .inl ⟨N,d,rfl,HK.out,hd,Cz.out⟩⟩
      ·have HK:=agC (show okP p l=false by rw [Bool.eq_false_iff];exact fun h=>hd (HX.out.mp h).2)
       go_wp2_with fail;refine (qd (amL l) EP _ _ l.length N 0 l.length d HT.out (by omega)).mono ?_;rintro e w' ⟨rfl,rfl⟩;go_wp2;go_ret;exact ⟨Af.out, .inr ⟨rfl,HK.out⟩⟩
     ·have HK:=agC (show okP p l=false by rw [Bool.eq_false_iff];exact fun h=>Du (HX.out.mp h).1)
      have At:((t:Int) !=(l.length:Int))=true:=bne_iff_ne.mpr (by omega);go_wp2;go_ret;exact ⟨Af.out, .inr ⟨rfl,HK.out⟩⟩
    ·have HK:=agC (acb (p:=p) Ar)
     have Af:=agC (HB.out.trans (Aa.mono HB.out.size));clear Ar Aa;go_wp2;go_ret;exact ⟨Af.out, .inr ⟨rfl,HK.out⟩⟩
 ·have HN:=agC (ad2 (p:=p) Ci)
  go_enter Tryz.func188,Tryz.ntmps188
  go_wp2;go_ret;exact ⟨Below.refl _ _, .inr ⟨rfl,HN.out⟩⟩
theorem m4: ∀args w,(callFunc 189 args).run Tryz.prog w= .ok (.enter 189 args) w:=enters_of Tryz.func189 (by kernel_rfl) rfl
theorem lJ (v:Value) (l:List Cl) (w:World) (hr:RowC w v l) (hz:ec l) (Al:Tab w):
  Calls Tryz.prog 163 #[v] w (agk l w):=by
 have HC:=agC (qZ _ okC maxLen m4 (fun k m s w hs ht=>oo k m s w hs ht) (fun c h=>vu h) v l w hr hz Al);obtain ⟨ao,cap,rfl,h1,h2,h3⟩:=hr;unfold maxLen at h2;clear h3 hz
 go_enter Tryz.func163,Tryz.ntmps163
 go_wp2_with fail;refine HC.out.mono ?_;rintro e w1 ⟨Aa,⟨N,d,rfl,Aj,hd,ht⟩|⟨rfl,Ar⟩⟩
 ·rw [aeL] at Aj
  have Bj:=agC Aj;have HB:=agC Aa;have HT:=agC ht;clear Aj Aa ht;go_wp2;go_ret;exact ⟨HB.out, .inl ⟨N,d,rfl,Bj.out,hd,HT.out⟩⟩
 ·rw [aeL] at Ar
  have Bj:=agC Ar;have HB:=agC Aa;clear Ar Aa;go_wp2;go_ret;exact ⟨HB.out, .inr ⟨rfl,Bj.out⟩⟩
theorem jv (v:Value) (l:List Cl) (w:World) (hr:RowC w v l) (hz:ec l) (Al:Tab w):
  Calls Tryz.prog 121 #[v] w fun e w'=>e= .returned (.bool (okE l))∧Below w.heap.size w w':=by
 have HC:=agC (lJ v l w hr hz Al);obtain ⟨ao,cap,rfl,h1,h2,h3⟩:=hr;unfold maxLen at h2;clear h3 hz
 go_enter Tryz.func121,Tryz.ntmps121
 go_wp2_with fail;refine HC.out.mono ?_;rintro e w1 ⟨Aa,⟨N,d,rfl,Aj,hd,ht⟩|⟨rfl,Ar⟩⟩
 ·have Bj:=agC Aj;have HB:=agC Aa
  clear Aj Aa ht;go_wp2;go_ret;exact ⟨eU Bj.out.symm,HB.out⟩
 ·have Bj:=agC Ar;have HB:=agC Aa
  clear Ar Aa;go_wp2;go_ret;exact ⟨eU Bj.out.symm,HB.out⟩
end Go.Proofs.YtegdjjjpoahamaaGreatDoor
