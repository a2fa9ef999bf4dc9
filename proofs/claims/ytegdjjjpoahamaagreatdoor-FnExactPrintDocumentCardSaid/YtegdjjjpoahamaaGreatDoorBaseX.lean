/-
  Several texts of the proof in one file: NumWord, CellI, Tree, Grow, Depth, ExprI.
-/
import Derived.Test.YtegdjjjpoahamaaGreatDoorBaseE
import Derived.Test.YtegdjjjpoahamaaGreatDoorBaseA
import Derived.Test.YtegdjjjpoahamaaGreatDoorBaseI
import Derived.Test.YtegdjjjpoahamaaGreatDoorBaseC
import Derived.Below
import Derived.Laws.OwnMore
import Derived.Laws.Rows
import Derived.OwnWalk
import Derived.Deep.Onto
import Derived.Deep.Draws
import Derived.Deep.AppendLies
import Derived.Deep.RegionHeld3
import Derived.RegionTactic
import Derived.Deep.RegionLaw
import Derived.Deep.DrawnRows
import Derived.Deep.QuietTactic
import Derived.BigQuiet
set_option linter.unusedVariables false
set_option maxHeartbeats 4000000
set_option maxRecDepth 100000
namespace Go.Proofs.YtegdjjjpoahamaaGreatDoor
open Go.RowKit
theorem numberWord_any (s:ByteArray) (w:World) (hs:s.size≤2097152) (htab:Tab w):
  Calls Tryz.prog 228 #[.string s] w fun e w'=>e= .returned (.bool (numB s))∧Below w.heap.size w w':=by
 have ci:=readFraction_impl s w hs htab
 cases ho:rdOK s with
 |false=>
  have HB:=Lib.hid (show numB s=false by simp [numB,ho])
  rw [HB.out]
  rw [ho] at ci
  generalize rdT s=T at ci
  generalize rdB s=B at ci
  have CI:=Lib.hid ci;clear ci ho
  go_enter Tryz.func228,Tryz.ntmps228
  go_wp2_with fail
  refine (CI.out).mono ?_
  rintro e w1 ⟨rfl,hb1⟩
  have B1:=Lib.hid hb1;clear hb1
  go_wp2
  go_ret
  exact ⟨rfl,B1.out.alloc B1.out.size _⟩
 |true=>
  obtain ⟨b1,b2⟩:=rd_bottom s ho
  have HN:numB s=(decide (0≤rdT s)&&((1000000:Int).tmod (rdB s)==0)):=by simp [numB,ho]
  rw [ho] at ci
  generalize rdT s=T at ci HN
  generalize rdB s=B at ci HN b1 b2
  obtain ⟨b,rfl⟩:=Int.eq_ofNat_of_zero_le (show 0≤B by omega)
  by_cases h0:0≤T
  ·have HM:=Lib.hid (show numB s=decide (1000000 % b=0) by
    rw [HN,decide_eq_true h0,Bool.true_and,show (1000000:Int).tmod (b:Int)=((1000000 % b:Nat):Int) from tm 1000000 b,Bool.eq_iff_iff,beq_iff_eq,decide_eq_true_eq];omega)
   rw [HM.out]
   have CI:=Lib.hid ci;clear ci HN ho
   go_enter Tryz.func228,Tryz.ntmps228
   go_wp2_with fail
   refine (CI.out).mono ?_
   rintro e w1 ⟨rfl,hb1⟩
   have B1:=Lib.hid (hb1.alloc hb1.size (.cells #[.int .i64 T, .int .i64 (b:Int)] 170));clear hb1
   go_wp2_with fail
   refine (decimal_m T b _ (by omega)).mono ?_
   rintro e w2 ⟨rfl,hb2⟩
   have B2:=Lib.hid (B1.out.trans (hb2.mono B1.out.size));clear hb2
   go_wp2
   go_ret
   exact ⟨rfl,B2.out⟩
  ·have HM:=Lib.hid (show numB s=false by rw [HN,decide_eq_false h0];rfl)
   rw [HM.out]
   have CI:=Lib.hid ci;clear ci HN ho
   go_enter Tryz.func228,Tryz.ntmps228
   go_wp2_with fail
   refine (CI.out).mono ?_
   rintro e w1 ⟨rfl,hb1⟩
   have B1:=Lib.hid hb1;clear hb1
   go_wp2
   go_ret
   exact ⟨rfl,B1.out.alloc B1.out.size _⟩
theorem index_has (l:List UInt8) (c:UInt8):decide (0≤Lib.indexByte l c)=hasL l (c.toNat:Int):=by
 induction l with
 |nil=>rfl
 |cons b t ih=>
  have e:hasL (b::t) (c.toNat:Int)=((b==c)||hasL t (c.toNat:Int)):=by
   show (((b.toNat:Int)==(c.toNat:Int))||hasL t (c.toNat:Int))=_
   rw [byte_eq]
  have:=indexByte_lt t c
  rw [e,←ih]
  by_cases hb:b=c
  ·have h0:Lib.indexByte (b::t) c=0:=by simp [Lib.indexByte,hb]
   rw [beq_iff_eq.mpr hb,Bool.true_or,decide_eq_true_eq];omega
  ·have hx:Lib.indexByte (b::t) c=if Lib.indexByte t c= -1 then-1 else Lib.indexByte t c+1:=by simp [Lib.indexByte,hb]
   rw [beq_eq_false_iff_ne.mpr hb,Bool.false_or,Bool.eq_iff_iff,decide_eq_true_eq,decide_eq_true_eq,hx]
   split<;>omega
theorem boxed {w w1:World} {k m:Int} {s:ByteArray} {t:TypeId} (hb:Below (w.alloc (.cells #[.int .i64 k, .string s, .int .i64 m] t)).heap.size (w.alloc (.cells #[.int .i64 k, .string s, .int .i64 m] t)) w1):
  w1.cell? ⟨w.heap.size,0,none⟩=some (.int .i64 k)∧w1.cell? ⟨w.heap.size,1,none⟩=some (.string s)∧w1.cell? ⟨w.heap.size,2,none⟩=some (.int .i64 m):=by
 refine ⟨?_, ?_, ?_⟩<;>(rw [hb.cell (by simp)];simp [go_sem])
theorem wordFits_long (k:Int) (m:Int) (s:ByteArray) (w:World) (hs:s.size≤maxLen) (hl: ¬s.size≤60):
  Calls Tryz.prog 211 #[.agg #[.int .i64 k, .string s, .int .i64 m]] w fun e w'=>e= .returned (.bool (wordB k s))∧Below w.heap.size w w':=by
 have hf:wordB k s=false:=by rw [Bool.eq_false_iff];exact fun h=>hl (word_len k s h)
 rw [hf];clear hf
 unfold maxLen at hs
 go_enter Tryz.func211,Tryz.ntmps211
 go_wp2
 go_ret
 exact ⟨rfl,(Below.refl _ _).alloc (Nat.le_refl _) _⟩
theorem wordFits_1 (m:Int) (s:ByteArray) (w:World) (hl:s.size≤60) (htab:Tab w):
  Calls Tryz.prog 211 #[.agg #[.int .i64 1, .string s, .int .i64 m]] w fun e w'=>e= .returned (.bool (wordB 1 s))∧Below w.heap.size w w':=by
 rw [show wordB 1 s=numB s by simp [wordB]]
 go_enter Tryz.func211,Tryz.ntmps211
 go_wp2_with fail
 refine (numberWord_any s _ (by omega) (htab.al _)).mono ?_
 rintro e w1 ⟨rfl,hb1⟩
 have B1:=Lib.hid (((Below.refl w.heap.size w).alloc (Nat.le_refl _) _).trans (hb1.mono (by simp)));clear hb1
 go_wp2
 go_ret
 exact ⟨rfl,B1.out⟩
theorem wordFits_2 (m:Int) (s:ByteArray) (w:World) (hl:s.size≤60):
  Calls Tryz.prog 211 #[.agg #[.int .i64 2, .string s, .int .i64 m]] w fun e w'=>e= .returned (.bool (wordB 2 s))∧Below w.heap.size w w':=by
 rw [show wordB 2 s=textB s by simp [wordB,hl]]
 go_enter Tryz.func211,Tryz.ntmps211
 go_wp2_with fail
 refine (textValid_impl s _ (by unfold maxLen;omega)).mono ?_
 rintro e w' ⟨rfl,rfl⟩
 go_wp2
 go_ret
 exact ⟨rfl,(Below.refl _ _).alloc (Nat.le_refl _) _⟩
theorem wordFits_3 (m:Int) (s:ByteArray) (w:World) (hl:s.size≤60):
  Calls Tryz.prog 211 #[.agg #[.int .i64 3, .string s, .int .i64 m]] w fun e w'=>e= .returned (.bool (wordB 3 s))∧Below w.heap.size w w':=by
 by_cases h1:s.data.toList=[116,114,117,101]
 ·have e1:=ls_yes h1
  rw [show wordB 3 s=true by simp [wordB,trueL,falseL,h1]]
  clear h1
  go_enter Tryz.func211,Tryz.ntmps211
  go_wp2
  go_ret
  exact ⟨rfl,(Below.refl _ _).alloc (Nat.le_refl _) _⟩
 ·by_cases h2:s.data.toList=[102,97,108,115,101]
  ·have e1:=ls_no h1;have e2:=ls_yes h2
   rw [show wordB 3 s=true by simp [wordB,trueL,falseL,h2]]
   clear h1 h2
   go_enter Tryz.func211,Tryz.ntmps211
   go_wp2
   go_ret
   exact ⟨rfl,(Below.refl _ _).alloc (Nat.le_refl _) _⟩
  ·have e1:=ls_no h1;have e2:=ls_no h2
   rw [show wordB 3 s=false by simp [wordB,trueL,falseL,h1,h2]]
   clear h1 h2
   go_enter Tryz.func211,Tryz.ntmps211
   go_wp2
   go_ret
   exact ⟨rfl,(Below.refl _ _).alloc (Nat.le_refl _) _⟩
theorem wordFits_7 (m:Int) (s:ByteArray) (w:World) (hl:s.size≤60):
  Calls Tryz.prog 211 #[.agg #[.int .i64 7, .string s, .int .i64 m]] w fun e w'=>e= .returned (.bool (wordB 7 s))∧Below w.heap.size w w':=by
 by_cases h1:s.data.toList=[33]
 ·have e1:=ls_yes h1
  rw [show wordB 7 s=true by simp [wordB,h1]]
  clear h1
  go_enter Tryz.func211,Tryz.ntmps211
  go_wp2
  go_ret
  exact ⟨rfl,(Below.refl _ _).alloc (Nat.le_refl _) _⟩
 ·by_cases h2:s.data.toList=[45]
  ·have e1:=ls_no h1;have e2:=ls_yes h2
   rw [show wordB 7 s=true by simp [wordB,h2]]
   clear h1 h2
   go_enter Tryz.func211,Tryz.ntmps211
   go_wp2
   go_ret
   exact ⟨rfl,(Below.refl _ _).alloc (Nat.le_refl _) _⟩
  ·have e1:=ls_no h1;have e2:=ls_no h2
   rw [show wordB 7 s=false by simp [wordB,h1,h2]]
   clear h1 h2
   go_enter Tryz.func211,Tryz.ntmps211
   go_wp2
   go_ret
   exact ⟨rfl,(Below.refl _ _).alloc (Nat.le_refl _) _⟩
theorem wordFits_4 (m:Int) (s:ByteArray) (w:World) (hl:s.size≤60):
  Calls Tryz.prog 211 #[.agg #[.int .i64 4, .string s, .int .i64 m]] w fun e w'=>e= .returned (.bool (wordB 4 s))∧Below w.heap.size w w':=by
 rw [show wordB 4 s=nameL s.data.toList by simp [wordB,hl]]
 go_enter Tryz.func211,Tryz.ntmps211
 go_wp2_with fail
 refine (nameValid_impl s _ (by unfold maxLen;omega)).mono ?_
 rintro e w1 ⟨rfl,hb1⟩
 have B1:=Lib.hid (((Below.refl w.heap.size w).alloc (Nat.le_refl _) _).trans (hb1.mono (by simp)));clear hb1
 go_wp2
 go_ret
 exact ⟨rfl,B1.out⟩
theorem wordFits_6 (m:Int) (s:ByteArray) (w:World) (hl:s.size≤60):
  Calls Tryz.prog 211 #[.agg #[.int .i64 6, .string s, .int .i64 m]] w fun e w'=>e= .returned (.bool (wordB 6 s))∧Below w.heap.size w w':=by
 rw [show wordB 6 s=simpB s by simp [wordB,simpB]]
 go_enter Tryz.func211,Tryz.ntmps211
 go_wp2_with fail
 refine (plainName_any s _ (by unfold maxLen;omega)).mono ?_
 rintro e w1 ⟨rfl,rfl⟩
 go_wp2
 go_ret
 exact ⟨rfl,(Below.refl _ _).alloc (Nat.le_refl _) _⟩
theorem wordFits_8 (m:Int) (s:ByteArray) (w:World) (hl:s.size≤60):
  Calls Tryz.prog 211 #[.agg #[.int .i64 8, .string s, .int .i64 m]] w fun e w'=>e= .returned (.bool (wordB 8 s))∧Below w.heap.size w w':=by
 rw [show wordB 8 s=decide (0<rankL s.data.toList) by simp [wordB]]
 go_enter Tryz.func211,Tryz.ntmps211
 go_wp2_with fail
 refine (binarySign_any s _).mono ?_
 rintro e w' ⟨rfl,rfl⟩
 go_wp2
 go_ret
 exact ⟨rfl,(Below.refl _ _).alloc (Nat.le_refl _) _⟩
theorem wordFits_5 (m:Int) (s:ByteArray) (w:World) (hl:s.size≤60):
  Calls Tryz.prog 211 #[.agg #[.int .i64 5, .string s, .int .i64 m]] w fun e w'=>e= .returned (.bool (wordB 5 s))∧Below w.heap.size w w':=by
 cases hs:s.data.toList with
 |nil=>
  rw [show wordB 5 s=true by simp [wordB,hs]]
  have e1:=ls_yes hs
  have e2:s.toList=[]:=by rw [ByteArray.toList_eq];exact hs
  have e3:s.toList.isEmpty=true:=by rw [e2];rfl
  have e4:(!s.toList.isEmpty)=false:=by rw [e2];rfl
  clear hs
  go_enter Tryz.func211,Tryz.ntmps211
  go_wp2
  go_ret
  exact ⟨ret_b (by simp [*]),(Below.refl _ _).alloc (Nat.le_refl _) _⟩
 |cons b t=>
  rw [show wordB 5 s=false by simp [wordB,hs]]
  have e1:(s.toList==[])=false:=ls_no (by rw [hs];simp)
  have e2:s.toList≠[]:=by rw [ByteArray.toList_eq,hs];simp
  have e3:s.toList.isEmpty=false:=by rw [ByteArray.toList_eq,hs];rfl
  have e4:(!s.toList.isEmpty)=true:=by rw [e3];rfl
  clear hs
  go_enter Tryz.func211,Tryz.ntmps211
  go_wp2
  go_ret
  exact ⟨ret_b (by simp [*]),(Below.refl _ _).alloc (Nat.le_refl _) _⟩
theorem wordFits_9 (m:Int) (s:ByteArray) (w:World) (hl:s.size≤60):
  Calls Tryz.prog 211 #[.agg #[.int .i64 9, .string s, .int .i64 m]] w fun e w'=>e= .returned (.bool (wordB 9 s))∧Below w.heap.size w w':=by
 cases hs:s.data.toList with
 |nil=>
  rw [show wordB 9 s=true by simp [wordB,hs]]
  have e1:=ls_yes hs
  have e2:s.toList=[]:=by rw [ByteArray.toList_eq];exact hs
  have e3:s.toList.isEmpty=true:=by rw [e2];rfl
  have e4:(!s.toList.isEmpty)=false:=by rw [e2];rfl
  clear hs
  go_enter Tryz.func211,Tryz.ntmps211
  go_wp2
  go_ret
  exact ⟨ret_b (by simp [*]),(Below.refl _ _).alloc (Nat.le_refl _) _⟩
 |cons b t=>
  rw [show wordB 9 s=false by simp [wordB,hs]]
  have e1:(s.toList==[])=false:=ls_no (by rw [hs];simp)
  have e2:s.toList≠[]:=by rw [ByteArray.toList_eq,hs];simp
  have e3:s.toList.isEmpty=false:=by rw [ByteArray.toList_eq,hs];rfl
  have e4:(!s.toList.isEmpty)=true:=by rw [e3];rfl
  clear hs
  go_enter Tryz.func211,Tryz.ntmps211
  go_wp2
  go_ret
  exact ⟨ret_b (by simp [*]),(Below.refl _ _).alloc (Nat.le_refl _) _⟩
theorem wordFits_no (k:Int) (m:Int) (s:ByteArray) (w:World) (hl:s.size≤60) (hk: ¬(1≤k∧k≤9)):
  Calls Tryz.prog 211 #[.agg #[.int .i64 k, .string s, .int .i64 m]] w fun e w'=>e= .returned (.bool (wordB k s))∧Below w.heap.size w w':=by
 have hf:wordB k s=false:=by
  unfold wordB
  iterate 9 rw [if_neg (by omega)]
 rw [hf];clear hf
 have n1:(k==1)=false:=beq_eq_false_iff_ne.mpr (by omega)
 have n2:(k==2)=false:=beq_eq_false_iff_ne.mpr (by omega)
 have n3:(k==3)=false:=beq_eq_false_iff_ne.mpr (by omega)
 have n4:(k==4)=false:=beq_eq_false_iff_ne.mpr (by omega)
 have n5:(k==5)=false:=beq_eq_false_iff_ne.mpr (by omega)
 have n6:(k==6)=false:=beq_eq_false_iff_ne.mpr (by omega)
 have n7:(k==7)=false:=beq_eq_false_iff_ne.mpr (by omega)
 have n8:(k==8)=false:=beq_eq_false_iff_ne.mpr (by omega)
 have n9:(k==9)=false:=beq_eq_false_iff_ne.mpr (by omega)
 clear hk
 go_enter Tryz.func211,Tryz.ntmps211
 go_wp2
 go_ret
 exact ⟨rfl,(Below.refl _ _).alloc (Nat.le_refl _) _⟩
theorem kinds (k:Int) (h:1≤k∧k≤9):k=1∨k=2∨k=3∨k=4∨k=5∨k=6∨k=7∨k=8∨k=9:=by omega
theorem wordFits_any (k m:Int) (s:ByteArray) (w:World) (hs:s.size≤maxLen) (htab:Tab w):
  Calls Tryz.prog 211 #[.agg #[.int .i64 k, .string s, .int .i64 m]] w fun e w'=>e= .returned (.bool (wordB k s))∧Below w.heap.size w w':=by
 by_cases hl:s.size≤60
 ·by_cases hk:1≤k∧k≤9
  ·rcases kinds k hk with rfl|rfl|rfl|rfl|rfl|rfl|rfl|rfl|rfl
   ·exact wordFits_1 m s w hl htab
   ·exact wordFits_2 m s w hl
   ·exact wordFits_3 m s w hl
   ·exact wordFits_4 m s w hl
   ·exact wordFits_5 m s w hl
   ·exact wordFits_6 m s w hl
   ·exact wordFits_7 m s w hl
   ·exact wordFits_8 m s w hl
   ·exact wordFits_9 m s w hl
  ·exact wordFits_no k m s w hl hk
 ·exact wordFits_long k m s w hs hl
theorem partsFit_1 (m:Int) (s:ByteArray) (w:World):
  Calls Tryz.prog 212 #[.agg #[.int .i64 1, .string s, .int .i64 m]] w fun e w'=>e= .returned (.bool (manyB 1 m))∧Below w.heap.size w w':=by
 rw [show manyB 1 m=(m==0) by simp [manyB]]
 go_enter Tryz.func212,Tryz.ntmps212
 go_wp2
 go_ret
 exact ⟨rfl,(Below.refl _ _).alloc (Nat.le_refl _) _⟩
theorem partsFit_2 (m:Int) (s:ByteArray) (w:World):
  Calls Tryz.prog 212 #[.agg #[.int .i64 2, .string s, .int .i64 m]] w fun e w'=>e= .returned (.bool (manyB 2 m))∧Below w.heap.size w w':=by
 rw [show manyB 2 m=(m==0) by simp [manyB]]
 go_enter Tryz.func212,Tryz.ntmps212
 go_wp2
 go_ret
 exact ⟨rfl,(Below.refl _ _).alloc (Nat.le_refl _) _⟩
theorem partsFit_3 (m:Int) (s:ByteArray) (w:World):
  Calls Tryz.prog 212 #[.agg #[.int .i64 3, .string s, .int .i64 m]] w fun e w'=>e= .returned (.bool (manyB 3 m))∧Below w.heap.size w w':=by
 rw [show manyB 3 m=(m==0) by simp [manyB]]
 go_enter Tryz.func212,Tryz.ntmps212
 go_wp2
 go_ret
 exact ⟨rfl,(Below.refl _ _).alloc (Nat.le_refl _) _⟩
theorem partsFit_4 (m:Int) (s:ByteArray) (w:World):
  Calls Tryz.prog 212 #[.agg #[.int .i64 4, .string s, .int .i64 m]] w fun e w'=>e= .returned (.bool (manyB 4 m))∧Below w.heap.size w w':=by
 rw [show manyB 4 m=(m==0) by simp [manyB]]
 go_enter Tryz.func212,Tryz.ntmps212
 go_wp2
 go_ret
 exact ⟨rfl,(Below.refl _ _).alloc (Nat.le_refl _) _⟩
theorem partsFit_7 (m:Int) (s:ByteArray) (w:World):
  Calls Tryz.prog 212 #[.agg #[.int .i64 7, .string s, .int .i64 m]] w fun e w'=>e= .returned (.bool (manyB 7 m))∧Below w.heap.size w w':=by
 rw [show manyB 7 m=(m==1) by simp [manyB]]
 go_enter Tryz.func212,Tryz.ntmps212
 go_wp2
 go_ret
 exact ⟨rfl,(Below.refl _ _).alloc (Nat.le_refl _) _⟩
theorem partsFit_8 (m:Int) (s:ByteArray) (w:World):
  Calls Tryz.prog 212 #[.agg #[.int .i64 8, .string s, .int .i64 m]] w fun e w'=>e= .returned (.bool (manyB 8 m))∧Below w.heap.size w w':=by
 rw [show manyB 8 m=(m==2) by simp [manyB]]
 go_enter Tryz.func212,Tryz.ntmps212
 go_wp2
 go_ret
 exact ⟨rfl,(Below.refl _ _).alloc (Nat.le_refl _) _⟩
theorem partsFit_9 (m:Int) (s:ByteArray) (w:World):
  Calls Tryz.prog 212 #[.agg #[.int .i64 9, .string s, .int .i64 m]] w fun e w'=>e= .returned (.bool (manyB 9 m))∧Below w.heap.size w w':=by
 rw [show manyB 9 m=(m==3) by simp [manyB]]
 go_enter Tryz.func212,Tryz.ntmps212
 go_wp2
 go_ret
 exact ⟨rfl,(Below.refl _ _).alloc (Nat.le_refl _) _⟩
theorem partsFit_5 (m:Int) (s:ByteArray) (w:World):
  Calls Tryz.prog 212 #[.agg #[.int .i64 5, .string s, .int .i64 m]] w fun e w'=>e= .returned (.bool (manyB 5 m))∧Below w.heap.size w w':=by
 rw [show manyB 5 m=(decide (0≤m)&&decide (m≤8)) by simp [manyB]]
 by_cases h0:0≤m
 ·by_cases h8:m≤8
  ·rw [decide_eq_true h0,decide_eq_true h8]
   go_enter Tryz.func212,Tryz.ntmps212
   go_wp2
   go_ret
   exact ⟨rfl,(Below.refl _ _).alloc (Nat.le_refl _) _⟩
  ·rw [decide_eq_true h0,decide_eq_false h8]
   go_enter Tryz.func212,Tryz.ntmps212
   go_wp2
   go_ret
   exact ⟨rfl,(Below.refl _ _).alloc (Nat.le_refl _) _⟩
 ·rw [decide_eq_false h0]
  go_enter Tryz.func212,Tryz.ntmps212
  go_wp2
  go_ret
  exact ⟨rfl,(Below.refl _ _).alloc (Nat.le_refl _) _⟩
theorem partsFit_6 (m:Int) (s:ByteArray) (w:World):
  Calls Tryz.prog 212 #[.agg #[.int .i64 6, .string s, .int .i64 m]] w fun e w'=>e= .returned (.bool (manyB 6 m))∧Below w.heap.size w w':=by
 rw [show manyB 6 m=(decide (0≤m)&&decide (m≤8)) by simp [manyB]]
 by_cases h0:0≤m
 ·by_cases h8:m≤8
  ·rw [decide_eq_true h0,decide_eq_true h8]
   go_enter Tryz.func212,Tryz.ntmps212
   go_wp2
   go_ret
   exact ⟨rfl,(Below.refl _ _).alloc (Nat.le_refl _) _⟩
  ·rw [decide_eq_true h0,decide_eq_false h8]
   go_enter Tryz.func212,Tryz.ntmps212
   go_wp2
   go_ret
   exact ⟨rfl,(Below.refl _ _).alloc (Nat.le_refl _) _⟩
 ·rw [decide_eq_false h0]
  go_enter Tryz.func212,Tryz.ntmps212
  go_wp2
  go_ret
  exact ⟨rfl,(Below.refl _ _).alloc (Nat.le_refl _) _⟩
theorem partsFit_no (k:Int) (m:Int) (s:ByteArray) (w:World) (hk: ¬(1≤k∧k≤9)):
  Calls Tryz.prog 212 #[.agg #[.int .i64 k, .string s, .int .i64 m]] w fun e w'=>e= .returned (.bool (manyB k m))∧Below w.heap.size w w':=by
 have hf:manyB k m=false:=by
  unfold manyB
  iterate 5 rw [if_neg (by omega)]
 rw [hf];clear hf
 have n1:(k==1)=false:=beq_eq_false_iff_ne.mpr (by omega)
 have n2:(k==2)=false:=beq_eq_false_iff_ne.mpr (by omega)
 have n3:(k==3)=false:=beq_eq_false_iff_ne.mpr (by omega)
 have n4:(k==4)=false:=beq_eq_false_iff_ne.mpr (by omega)
 have n5:(k==5)=false:=beq_eq_false_iff_ne.mpr (by omega)
 have n6:(k==6)=false:=beq_eq_false_iff_ne.mpr (by omega)
 have n7:(k==7)=false:=beq_eq_false_iff_ne.mpr (by omega)
 have n8:(k==8)=false:=beq_eq_false_iff_ne.mpr (by omega)
 have n9:(k==9)=false:=beq_eq_false_iff_ne.mpr (by omega)
 clear hk
 go_enter Tryz.func212,Tryz.ntmps212
 go_wp2
 go_ret
 exact ⟨rfl,(Below.refl _ _).alloc (Nat.le_refl _) _⟩
theorem partsFit_any (k m:Int) (s:ByteArray) (w:World):
  Calls Tryz.prog 212 #[.agg #[.int .i64 k, .string s, .int .i64 m]] w fun e w'=>e= .returned (.bool (manyB k m))∧Below w.heap.size w w':=by
 by_cases hk:1≤k∧k≤9
 ·rcases kinds k hk with rfl|rfl|rfl|rfl|rfl|rfl|rfl|rfl|rfl
  ·exact partsFit_1 m s w
  ·exact partsFit_2 m s w
  ·exact partsFit_3 m s w
  ·exact partsFit_4 m s w
  ·exact partsFit_5 m s w
  ·exact partsFit_6 m s w
  ·exact partsFit_7 m s w
  ·exact partsFit_8 m s w
  ·exact partsFit_9 m s w
 ·exact partsFit_no k m s w hk
theorem cellValid_impl (k m:Int) (s:ByteArray) (w:World) (hs:s.size≤maxLen) (htab:Tab w):
  Calls Tryz.prog 189 #[.agg #[.int .i64 k, .string s, .int .i64 m]] w fun e w'=>e= .returned (.bool (cellB k s m))∧Below w.heap.size w w':=by
 cases hw:wordB k s with
 |false=>
  rw [show cellB k s m=false by simp [cellB,hw]]
  have HW:=Lib.hid hw;clear hw
  go_enter Tryz.func189,Tryz.ntmps189
  go_wp2_with fail
  refine (wordFits_any k m s _ hs (htab.al _)).mono ?_
  rintro e w1 ⟨rfl,hb1⟩
  have B1:=Lib.hid (((Below.refl w.heap.size w).alloc (Nat.le_refl _) _).trans (hb1.mono (by simp)));clear hb1
  rw [HW.out]
  go_wp2
  go_ret
  exact ⟨rfl,B1.out⟩
 |true=>
  rw [show cellB k s m=manyB k m by simp [cellB,hw]]
  have HW:=Lib.hid hw;clear hw
  go_enter Tryz.func189,Tryz.ntmps189
  go_wp2_with fail
  refine (wordFits_any k m s _ hs (htab.al _)).mono ?_
  rintro e w1 ⟨rfl,hb1⟩
  obtain ⟨d0,d1,d2⟩:=boxed hb1
  have B1:=Lib.hid (((Below.refl w.heap.size w).alloc (Nat.le_refl _) _).trans (hb1.mono (by simp)));clear hb1
  rw [HW.out]
  go_wp2_with fail
  refine (partsFit_any k m s _).mono ?_
  rintro e w2 ⟨rfl,hb2⟩
  have B2:=Lib.hid (B1.out.trans (hb2.mono B1.out.size));clear hb2
  go_wp2
  go_ret
  exact ⟨rfl,B2.out⟩
def BlkN (w:World) (g:Nat) (cs:Array Value):Prop:=w.heap[g]? =some (.cells cs 204 (0,0))
section
variable {w w':World} {g:Nat} {cs:Array Value}
theorem BlkN.lt (h:BlkN w g cs):g<w.heap.size:=by
 rcases Nat.lt_or_ge g w.heap.size with hlt|hge
 ·exact hlt
 ·unfold BlkN at h;rw [Array.getElem?_eq_none hge] at h;cases h
theorem BlkN.cell (h:BlkN w g cs) (i:Nat):w.cell? ⟨g,i,none⟩=cs[i]? :=cell_of_row w g i cs _ (0,0) h
theorem BlkN.frozen (h:BlkN w g cs) (i:Nat):w.frozen? ⟨g,i,none⟩=false:=by
 unfold BlkN at h
 simp [World.frozen?,h]
theorem BlkN.new (w:World) (cs:Array Value):BlkN (w.alloc (.cells cs 204)) w.heap.size cs:=heap_alloc_new w _
theorem BlkN.keep (h:BlkN w g cs) (hb:Below w.heap.size w w'):BlkN w' g cs:=(hb.block g h.lt).trans h
theorem BlkN.alloc (h:BlkN w g cs) (o:Obj):BlkN (w.alloc o) g cs:=(Below.heap_alloc w o g h.lt).trans h
theorem BlkN.drew (h:BlkN w g cs):BlkN w.drew g cs:=h
theorem BlkN.set_ (h:BlkN w g cs) (i:Nat) (u:Value):BlkN (w.setCell ⟨g,i,none⟩ u) g (cs.setIfInBounds i u):=by
 unfold BlkN at h⊢
 simp [World.setCell,Array.getElem?_modify,h]
theorem BlkN.grown {row:Option Nat} (h:BlkN w g cs) (hb:w.grownBy w' row) (hg:some g≠row):BlkN w' g cs:=(hb.block g h.lt hg).trans h
end
def ptrs (ps:List Nat):List Value:=ps.map fun p=>Value.pointer (some ⟨p,0,none⟩)
theorem ptrs_length (ps:List Nat):(ptrs ps).length=ps.length:=by simp [ptrs]
theorem ptrs_snoc (ps:List Nat) (p:Nat):ptrs (ps++[p])=ptrs ps++[.pointer (some ⟨p,0,none⟩)]:=by simp [ptrs]
theorem ptrs_at (ps:List Nat) (k:Nat) (h:k<ps.length):(ptrs ps)[k]? =some (.pointer (some ⟨ps[k],0,none⟩)):=by simp [ptrs,h]
inductive TrS (w:World) (am:List Nat) (S:Nat→Prop):List Nat→Nat→Nat→Nat→Prop
 |nil (f:Nat):TrS w am S [] f f 0
 |cons {N f m g d t e:Nat} {v:Value} {qs ps:List Nat}:am[f]? =some m→S N→BlkN w N #[.int .i64 (f:Int), .int .i64 (g:Int),v]→w.ownsRow 0 165 1 v m (ptrs qs)→
   (∀r,v.ownBlock=some r→S r)→TrS w am S qs (f+1) g d→TrS w am S ps g t e→TrS w am S (N::ps) f t (max (d+1) e)
theorem own_len {w:World} {base m:Nat} {T:TypeId} {v:Value} {qs:List Nat} (h:w.ownsRow base T 1 v m (ptrs qs)):qs.length=m:=by
 have:=h.1;rw [ptrs_length] at this;omega
theorem TrS.exs {w:World} {am:List Nat} {S:Nat→Prop} {ps:List Nat} {f t d:Nat} (h:TrS w am S ps f t d):Exs am ps.length f t d:=by
 induction h with
 |nil f=>exact .nil f
 | @cons N f m g d t e v qs ps hm hS hb ho hr h1 h2 i1 i2=>
  rw [own_len ho] at i1
  exact .cons hm i1 i2
theorem TrS.keep {w w':World} {am:List Nat} {S S':Nat→Prop} {ps:List Nat} {f t d:Nat} (h:TrS w am S ps f t d) (hw: ∀b,S b→b<w.heap.size→w'.heap[b]? =w.heap[b]?) (hS: ∀b,S b→b<w.heap.size→S' b):TrS w' am S' ps f t d:=by
 induction h with
 |nil f=>exact .nil f
 | @cons N f m g d t e v qs ps hm hN hb ho hr h1 h2 i1 i2=>
  have hlt:=hb.lt
  refine .cons hm (hS N hN hlt) ((hw N hN hlt).trans hb) ?_ (fun r h=>hS r (hr r h) (ho.lt r h).2) i1 i2
  refine ⟨ho.1, ?_⟩
  rcases ho.2 with hn|⟨g',cap,cur,rfl,hb',hgg,rest⟩
  ·exact .inl hn
  ·refine .inr ⟨g',cap,cur,rfl,hb', ?_,rest⟩
   rw [hw g' (hr g' rfl) (ho.lt g' rfl).2]
   exact hgg
theorem TrS.app {w:World} {am:List Nat} {S:Nat→Prop} {ps:List Nat} {f g d:Nat} (h:TrS w am S ps f g d): ∀{qs:List Nat} {t e:Nat},TrS w am S qs g t e→TrS w am S (ps++qs) f t (max d e):=by
 induction h with
 |nil f=>intro qs t e k;rw [Nat.zero_max];exact k
 | @cons N f m g d t e v qs ps hm hN hb ho hr h1 h2 i1 i2=>
  intro qs' t' e' k
  rw [Nat.max_assoc]
  exact .cons hm hN hb ho hr h1 (i2 k)
theorem TrS.one {w:World} {am:List Nat} {S:Nat→Prop} {N f m g d:Nat} {v:Value} {qs:List Nat} (hm:am[f]? =some m) (hN:S N) (hb:BlkN w N #[.int .i64 (f:Int), .int .i64 (g:Int),v]) (ho:w.ownsRow 0 165 1 v m (ptrs qs))
  (hr: ∀r,v.ownBlock=some r→S r) (h:TrS w am S qs (f+1) g d):TrS w am S [N] f g (d+1):=by
 have:=TrS.cons hm hN hb ho hr h (.nil g)
 rwa [Nat.max_eq_left (by omega)] at this
theorem TrS.inv {w:World} {am:List Nat} {S:Nat→Prop} {N f t d:Nat} (h:TrS w am S [N] f t d): ∃m e v qs,am[f]? =some m∧S N∧BlkN w N #[.int .i64 (f:Int), .int .i64 (t:Int),v]∧w.ownsRow 0 165 1 v m (ptrs qs)∧(∀r,v.ownBlock=some r→S r)∧TrS w am S qs (f+1) t e∧d=e+1:=by
 cases h with
 | @cons _ _ m g d1 _ _ v qs _ hm hN hb ho hr h1 h2=>
  cases h2
  exact ⟨m,d1,v,qs,hm,hN,hb,ho,hr,h1,by omega⟩
theorem TrS.at {w:World} {am:List Nat} {S:Nat→Prop} {ps:List Nat} {f t d:Nat} (h:TrS w am S ps f t d): ∀k,(hk:k<ps.length)→ ∃g g' d0 d1 d2,TrS w am S (ps.take k) f g d0∧TrS w am S [ps[k]] g g' d1∧TrS w am S (ps.take (k+1)) f g' (max d0 d1)∧TrS w am S (ps.drop (k+1)) g' t d2∧d=max (max d0 d1) d2:=by
 induction h with
 |nil f=>intro k hk;simp at hk
 | @cons N f m g d t e v qs ps hm hN hb ho hr h1 h2 i1 i2=>
  intro k hk
  cases k with
  |zero=>
   have h:=TrS.one hm hN hb ho hr h1
   exact ⟨f,g,0,d+1,e, .nil f,h,by rw [Nat.zero_max];exact h,h2,by rw [Nat.zero_max]⟩
  |succ k=>
   have hk':k<ps.length:=by simpa using hk
   obtain ⟨g1,g2,d0,d1,d2,j1,j2,j3,j4,rfl⟩:=i2 k hk'
   have h:=TrS.one hm hN hb ho hr h1
   refine ⟨g1,g2,max (d+1) d0,d1,d2, ?_,by simpa using j2, ?_,by simpa using j4,by omega⟩
   ·rw [List.take_succ_cons];exact h.app j1
   ·rw [List.take_succ_cons]
    have:=h.app j3
    rwa [show max (d+1) (max d0 d1)=max (max (d+1) d0) d1 by omega] at this
theorem own_ptr {w:World} {m:Nat} {v:Value} {qs:List Nat} (ho:w.ownsRow 0 165 1 v m (ptrs qs)):
  ∃ao cap,v= .slice ao qs.length cap∧qs.length≤cap∧cap≤maxLen∧(qs=[]∨ ∃b,ao=some ⟨b,0,none⟩∧b<w.heap.size∧ ∀k (h:k<qs.length),w.cell? ⟨b,k,none⟩=some (.pointer (some ⟨qs[k],0,none⟩))):=by
 have hl:=own_len ho
 subst hl
 rcases ho.2 with ⟨rfl,h0⟩|⟨g,cap,cur,rfl,hg,hh,h1,h2,_⟩
 ·exact ⟨none,0,by rw [h0],by omega,by unfold maxLen;omega, .inl (List.length_eq_zero_iff.mp h0)⟩
 ·refine ⟨_,cap,rfl,h1,h2, .inr ⟨g,rfl,(ho.lt g rfl).2,fun k hk=> ?_⟩⟩
  rw [ho.cellAt k (by omega)]
  exact ptrs_at qs k hk
theorem infoPtr:(Tryz.prog.info? 165).map (fun i=>(i.zero,i.size,i.bytes))=some (some (.pointer none),1,8):=by kernel_rfl
def Grown (am:List Nat) (f:Nat) (w:World) (e:Ending) (w':World):Prop:=
 Below w.heap.size w w'∧((∃N t d,e= .returned (.pointer (some ⟨N,0,none⟩))∧TrS w' am (fun b=>w.heap.size≤b∧b<w'.heap.size) [N] f t d)∨(e= .returned (.pointer none)∧ ¬ ∃t d,Exs am 1 f t d))
def GInv (am:List Nat) (w:World) (f k g:Nat) (wr:World):Prop:=
 ∃(v:Value) (ps:List Nat) (d:Nat),BlkN wr w.heap.size #[.int .i64 (f:Int), .int .i64 (g:Int),v]∧wr.ownsRow (w.heap.size+1) 165 1 v k (ptrs ps)∧TrS wr am (fun b=>w.heap.size<b∧b<wr.heap.size∧v.ownBlock≠some b) ps (f+1) g d∧Below w.heap.size w wr
theorem GInv.exs {am:List Nat} {w wr:World} {f k g:Nat} (h:GInv am w f k g wr): ∃d,Exs am k (f+1) g d:=by
 obtain ⟨v,ps,d,-,ho,ht,-⟩:=h
 have hl:ps.length=k:=by have:=ho.1;rw [ptrs_length] at this;omega
 exact ⟨d,hl▸ht.exs⟩
theorem GInv.start (am:List Nat) (w:World) (f:Nat):GInv am w f 0 (f+1) (w.alloc (.cells #[.int .i64 (f:Int), .int .i64 ((f+1:Nat):Int), .slice none 0 0] 204)):=
 ⟨_,[],0,BlkN.new _ _,World.ownsRow_nil _ _ _ _, .nil _,(Below.refl _ _).alloc (Nat.le_refl _) _⟩
theorem GInv.done {am:List Nat} {w wr:World} {f m g:Nat} (h:GInv am w f m g wr) (hm:am[f]? =some m):Grown am f w (.returned (.pointer (some ⟨w.heap.size,0,none⟩))) wr:=by
 obtain ⟨v,ps,d,hb,ho,ht,hB⟩:=h
 refine ⟨hB, .inl ⟨w.heap.size,g,d+1,rfl, ?_⟩⟩
 exact TrS.one hm ⟨Nat.le_refl _,hb.lt⟩ hb (ho.mono (Nat.zero_le _)) (fun r hr=>⟨by have:=(ho.lt r hr).1;omega,(ho.lt r hr).2⟩) (ht.keep (fun _ _ _=>rfl) (fun b hb _=>⟨by omega,hb.2.1⟩))
theorem GInv.fail {am:List Nat} {w wr w1:World} {f k m g:Nat} (h:GInv am w f k g wr) (hm:am[f]? =some m) (hk:k<m) (hB:Below wr.heap.size wr w1) (hno: ¬ ∃t d,Exs am 1 g t d):Grown am f w (.returned (.pointer none)) w1:=by
 obtain ⟨d,hx⟩:=h.exs
 obtain ⟨v,ps,d',hb,ho,ht,hBw⟩:=h
 exact ⟨hBw.trans (hB.mono hBw.size), .inr ⟨rfl,exs_none_of hm (exs_stop hx hk hno)⟩⟩
theorem GInv.next {am:List Nat} {w wr w1 w2:World} {f k g t N1 d d1 gg cap':Nat} {vv:Value} {ps:List Nat}
  (hbel:Below w.heap.size w wr) (hb:BlkN wr w.heap.size #[.int .i64 (f:Int), .int .i64 (g:Int),vv]) (ho:wr.ownsRow (w.heap.size+1) 165 1 vv k (ptrs ps))
  (ht:TrS wr am (fun b=>w.heap.size<b∧b<wr.heap.size∧vv.ownBlock≠some b) ps (f+1) g d) (hb1:Below wr.heap.size wr w1) (ht1:TrS w1 am (fun b=>wr.heap.size≤b∧b<w1.heap.size) [N1] g t d1)
  (o:Obj) (hgrow:(w1.alloc o).grownBy w2 vv.ownBlock) (hat:vv.ownBlock=some gg∨gg=w1.heap.size+1)
  (hown':w2.ownsRow (w.heap.size+1) 165 1 (.slice (some ⟨gg,0,none⟩) (k+1) cap') (k+1) (ptrs ps++[.pointer (some ⟨N1,0,none⟩)])) (hk2:BlkN w2 w.heap.size #[.int .i64 (f:Int), .int .i64 (g:Int),vv]):
  GInv am w f (k+1) t ((w2.setCell ⟨w.heap.size,2,none⟩ (.slice (some ⟨gg,0,none⟩) (k+1) cap')).setCell ⟨w.heap.size,1,none⟩ (.int .i64 (t:Int))):=by
 have hs1:=hb1.size
 have hs2:w1.heap.size+1≤w2.heap.size:=by have:=hgrow.size;simpa using this
 have hNlt:=hb.lt
 have hgg:w.heap.size+1≤gg∧gg<w2.heap.size:=hown'.lt gg rfl
 have hol: ∀r,vv.ownBlock=some r→r<wr.heap.size:=fun r hr=>(ho.lt r hr).2
 have hsz:((w2.setCell ⟨w.heap.size,2,none⟩ (.slice (some ⟨gg,0,none⟩) (k+1) cap')).setCell ⟨w.heap.size,1,none⟩ (.int .i64 (t:Int))).heap.size=w2.heap.size:=by simp [World.setCell]
 have hset: ∀b,b≠w.heap.size→((w2.setCell ⟨w.heap.size,2,none⟩ (.slice (some ⟨gg,0,none⟩) (k+1) cap')).setCell ⟨w.heap.size,1,none⟩ (.int .i64 (t:Int))).heap[b]? =w2.heap[b]? :=fun b hbn=>by
  rw [Below.heap_setCell _ _ _ _ hbn,Below.heap_setCell _ _ _ _ hbn]
 refine ⟨.slice (some ⟨gg,0,none⟩) (k+1) cap',ps++[N1],max d d1, ?_, ?_, ?_, ?_⟩
 ·have:=(hk2.set_ 2 (.slice (some ⟨gg,0,none⟩) (k+1) cap')).set_ 1 (.int .i64 (t:Int))
  exact this
 ·rw [ptrs_snoc]
  refine hown'.kept (row:=some w.heap.size) ⟨rfl,rfl,rfl,by rw [hsz];exact Nat.le_refl _,fun b _ hn=>hset b (fun e=>hn (by rw [e]))⟩ (.inr ?_)
  intro he
  have he:gg=w.heap.size:=by simpa [Value.ownBlock] using he
  omega
 ·refine TrS.app (ht.keep ?_ ?_) (ht1.keep ?_ ?_)
  ·rintro b ⟨h1,h2,h3⟩-
   rw [hset b (by omega),hgrow.block b (by simp;omega) (fun e=>h3 e.symm),Below.heap_alloc _ _ _ (by omega),hb1.block b h2]
  ·rintro b ⟨h1,h2,h3⟩-
   refine ⟨h1,by rw [hsz];omega,fun he=> ?_⟩
   have he:gg=b:=by simpa [Value.ownBlock] using he
   subst he
   rcases hat with h|h
   ·exact h3 h
   ·omega
  ·rintro b ⟨h1,h2⟩-
   rw [hset b (by omega),hgrow.block b (by simp;omega) (fun e=>by have:=hol b e.symm;omega),Below.heap_alloc _ _ _ (by omega)]
  ·rintro b ⟨h1,h2⟩-
   refine ⟨by omega,by rw [hsz];omega,fun he=> ?_⟩
   have he:gg=b:=by simpa [Value.ownBlock] using he
   subst he
   rcases hat with h|h
   ·have:=hol _ h;omega
   ·omega
 ·exact ((((hbel.trans (hb1.mono hbel.size)).alloc (by have:=hbel.size;omega) _).grown hgrow (by simp;have:=hbel.size;omega) (fun r hr=>by have:=(ho.lt r hr).1;omega)).setCell (Nat.le_refl _) _).setCell (Nat.le_refl _) _
theorem grow_end (v:Value) (l:List Cl) (w:World) (hr:RowC w v l):
  Calls Tryz.prog 209 #[v, .int .i64 (l.length:Int)] w (Grown (amL l) l.length w):=by
 have hno: ¬ ∃t d,Exs (amL l) 1 l.length t d:=by
  rintro ⟨t,d,h⟩
  have:=h.le;rw [amL_length] at this;have h2:=this.2 (by omega);omega
 have HN:=Lib.hid hno;clear hno
 obtain ⟨ao,cap,rfl,h1,h2,h3⟩:=hr
 unfold maxLen at h2
 have H3:=Lib.hid h3;clear h3
 go_enter Tryz.func209,Tryz.ntmps209
 go_wp2
 go_ret
 exact ⟨Below.refl _ _, .inr ⟨rfl,HN.out⟩⟩
theorem grow_any (v:Value) (l:List Cl) (h60:l.length≤60) (hok:l.all okM=true) (j:Nat): ∀(f:Nat) (w:World),f≤l.length→l.length-f≤j→RowC w v l→
  Calls Tryz.prog 209 #[v, .int .i64 (f:Int)] w (Grown (amL l) f w):=by
 induction j with
 |zero=>
  intro f w hf hj hr
  obtain rfl:f=l.length:=by omega
  exact grow_end v l w hr
 |succ j ih=>
  intro f w hf hj hr
  by_cases hfl:f=l.length
  ·subst hfl;exact grow_end v l w hr
  ·have hlt:f<l.length:=by omega
   obtain ⟨i0,hi,hz0,hz1,hz2⟩:=info_parts infoPtr
   have HR:=Lib.hid hr
   obtain ⟨ao,cap,rfl,h1,h2,h3⟩:=hr
   unfold maxLen at h2
   rcases h3 with h3|⟨b,o,rfl,hbl,hc⟩
   ·subst h3;simp at hlt
   ·obtain ⟨c0,c1,c2⟩:=hc f hlt
    have hmb:=okM_many (okM_all hok f hlt)
    have HAM:=Lib.hid (amL_at l f hlt)
    have hne:((f:Int)==(l.length:Int))=false:=beq_eq_false_iff_ne.mpr (by omega)
    have hne2:(f==l.length)=false:=beq_eq_false_iff_ne.mpr (by omega)
    generalize hM:l[f].2.2=M at c2 hmb HAM
    have HMM:=Lib.hid hM;clear hM
    obtain ⟨m,rfl⟩:=Int.eq_ofNat_of_zero_le hmb.1
    have hm8:m≤8:=by omega
    have HAM2:Hid ((amL l)[f]? =some m):=Lib.hid (by have:=HAM.out;simpa using this)
    have HIH:=Lib.hid ih
    have HNE:=Lib.hid hfl
    clear hc hmb HAM ih hfl HMM c0 c1 hok
    go_enter Tryz.func209,Tryz.ntmps209
    go_wp2
    have HST:=Lib.hid (GInv.start (amL l) w f)
    go_loopw [6,21] (fun _ i wr=> ∃k g:Nat,k≤m∧i= .int .i64 (k:Int)∧GInv (amL l) w f k g wr) (fun _ i _=>m-(intOf i).toNat)
    case atStart=>exact ⟨0,f+1,Nat.zero_le _,rfl,by have:=HST.out;rwa [show ((f+1:Nat):Int)=(f:Int)+1 by omega] at this⟩
    case round=>
     obtain ⟨k,g,hk,rfl,hG⟩:=hrel
     have HG:=Lib.hid hG
     by_cases hkm:k<m
     ·obtain ⟨dx,hx⟩:=hG.exs
      have hxl:=hx.le
      rw [amL_length] at hxl
      have hgl:g≤l.length:=by
       by_cases hk0:k=0
       ·subst hk0;cases hx;omega
       ·exact hxl.2 hk0
      have hgf:f<g:=by omega
      clear hx hxl
      obtain ⟨vv,ps,d,hb,hown,ht,hB⟩:=hG
      have e0:wr.cell? ⟨w.heap.size,1,none⟩=some (.int .i64 (g:Int)):=hb.cell 1
      have HB:=Lib.hid hb;have HO:=Lib.hid hown;have HT:=Lib.hid ht;have HBel:=Lib.hid hB
      clear hb hown ht hB
      go_wp2_with fail
      refine (HIH.out g _ hgl (by omega) (HR.out.mono HBel.out)).mono ?_
      rintro e w1 ⟨hb1,⟨N1,t,d1,rfl,ht1⟩|⟨rfl,hno⟩⟩
      ·obtain ⟨m1,d1',v1,qs1,-,hS1,hN1,-⟩:=ht1.inv
       have cN1:w1.cell? ⟨N1,1,none⟩=some (.int .i64 (t:Int)):=hN1.cell 1
       have hN1lt:w.heap.size<N1:=by have:=HB.out.lt;omega
       have hgb1:wr.grownBy w1 none:=⟨hb1.os,hb1.tape,hb1.output,hb1.size,fun i hi _=>hb1.block i hi⟩
       have own1:=HO.out.kept hgb1 (by cases hv:vv.ownBlock<;>simp)
       have K1:=HB.out.keep hb1
       have hM:=K1.lt
       have c1:w1.cell? ⟨w.heap.size,1,none⟩=some (.int .i64 (g:Int)):=K1.cell 1
       have c2:w1.cell? ⟨w.heap.size,2,none⟩=some vv:=K1.cell 2
       have f1:w1.frozen? ⟨w.heap.size,1,none⟩=false:=K1.frozen 1
       have f2:w1.frozen? ⟨w.heap.size,2,none⟩=false:=K1.frozen 2
       have hne:vv.ownBlock≠some w.heap.size:=fun he=>by have:=(own1.lt _ he).1;omega
       have NE:=Lib.hid hne
       have HK1:=Lib.hid K1;have HN1:=Lib.hid hN1
       have HT1:=Lib.hid ht1;have HB1:=Lib.hid hb1
       clear hgb1 K1 hne hb1 ht1 hN1 hS1 e0
       obtain ⟨av,cv,hv⟩: ∃a c,vv= .slice a k c:=by
        rcases own1.2 with ⟨rfl,h0⟩|⟨g',cap',cur,rfl,_⟩
        ·exact ⟨none,0,by rw [h0]⟩
        ·exact ⟨_,_,rfl⟩
       subst hv
       have hfar: ∀r,(Value.slice av k cv).ownBlock=some r→r<N1:=fun r hr=>by have h1:=HT1.out.inv;obtain ⟨_,_,_,_,-,hS,-⟩:=h1;have h2:=(HO.out.lt r hr).2;omega
       have hNr:(Value.slice av k cv).ownBlock≠some N1:=fun he=>by have:=hfar _ he;omega
       have hn1: ¬N1=w.heap.size:=by omega
       have hn2: ¬w.heap.size=N1:=by omega
       have NR:=Lib.hid hNr;have FAR:=Lib.hid hfar;clear hfar hNr
       go_wp2_with (at_builtin;refine wpList_append_lies _ rfl _ _ 202 rfl (w.heap.size+1) 165 i0 (.pointer none) 1 8 Tryz.underlying202 hi hz0 hz1 hz2 rfl (by decide) (.slice av k cv) k _ rfl (own1.alloc _) ⟨w1.heap.size,0,none⟩ 1 1 [.pointer (some ⟨N1,0,none⟩)] rfl rfl (World.news_of_block (cs:= #[.pointer (some ⟨N1,0,none⟩)]) (t:=165) (fr:=(0,0)) (heap_alloc_new w1 _)) (by simp [Value.oneCell']) (by omega) (by unfold maxLen;omega) (by omega) (by simp;omega) (w1.heap.size+1) (by simp) ?_;intro gg cap' w2 hown' hgrow hat hlt';have hfz:w2.frozen? ⟨w.heap.size,2,none⟩=false:=((hgrow.frozen_far _ (by simp;omega) (fun hq=>NE.out hq.symm)).trans (((World.grownBy_alloc w1 _ none).frozen_far ⟨w.heap.size,2,none⟩ hM (by simp)).trans f2));have K2:=BlkN.grown (HK1.out.alloc _) hgrow (fun hq=>NE.out hq.symm);have M2:=BlkN.grown (HN1.out.alloc _) hgrow (fun hq=>NR.out hq.symm);have hc2:w2.cell? ⟨w.heap.size,2,none⟩=some (.slice av k cv):=K2.cell 2;have hc1:w2.cell? ⟨w.heap.size,1,none⟩=some (.int .i64 (g:Int)):=K2.cell 1;have hf1:w2.frozen? ⟨w.heap.size,1,none⟩=false:=K2.frozen 1;have hcn:w2.cell? ⟨N1,1,none⟩=some (.int .i64 (t:Int)):=M2.cell 1;have KK2:=Lib.hid K2;have HO2:=Lib.hid hown';have HG2:=Lib.hid hgrow;have HAT:=Lib.hid hat;clear K2 M2 hown' hgrow hat)
       go_roundw
       case rel=>exact ⟨k+1,t,by omega,by go_num,GInv.next HBel.out HB.out HO.out HT.out HB1.out HT1.out _ HG2.out HAT.out HO2.out KK2.out⟩
       case measure=>simp [intOf];omega
      ·have HF:=Lib.hid (HG.out.fail HAM2.out hkm hb1 hno)
       clear hno hb1
       go_wp2
       go_ret
       exact HF.out
     ·obtain rfl:k=m:=by omega
      have HD:=Lib.hid (HG.out.done HAM2.out)
      go_wp2
      go_ret
      exact HD.out
theorem Exs.dep {am:List Nat} {n f t d:Nat} (h:Exs am n f t d):d≤t-f:=by
 induction h with
 |nil f=>omega
 | @cons f m g d n t e hm h1 h2 i1 i2=>have l1:=h1.le;have l2:=h2.le;omega
theorem ret_i {a b:Int} (h:a=b):Ending.returned (.int .i64 a)= .returned (.int .i64 b):=by rw [h]
theorem depth_any (am:List Nat) (h60:am.length≤60) (S:Nat→Prop) (w:World) (j:Nat): ∀(N f t d:Nat),TrS w am S [N] f t d→t-f≤j→
  Calls Tryz.prog 210 #[.pointer (some ⟨N,0,none⟩)] w fun e w'=>e= .returned (.int .i64 (d:Int))∧w=w':=by
 induction j with
 |zero=>intro N f t d h hj;have:=h.exs.le;simp at this;omega
 |succ j ih=>
  intro N f t d h hj
  obtain ⟨m,e,v,qs,hm,hS,hb,ho,hr,ht,rfl⟩:=h.inv
  have hle:=ht.exs.le
  have hdep:=ht.exs.dep
  have htl:t≤am.length:=h.exs.le.2 (by simp)
  obtain ⟨ao,cap,rfl,h1,h2,h3⟩:=own_ptr ho
  unfold maxLen at h2
  have c2:w.cell? ⟨N,2,none⟩=some (.slice ao qs.length cap):=hb.cell 2
  have H3:=Lib.hid h3;have HT:=Lib.hid ht;have IH:=Lib.hid ih
  have HSTART:=Lib.hid (show TrS w am S (qs.take 0) (f+1) (f+1) 0 from .nil _)
  have hql:qs.length≤60:=by omega
  clear h3 ht ih h hm hS hb ho hr
  go_enter Tryz.func210,Tryz.ntmps210
  go_wp2
  go_loop [3,5,11] (fun dp _ i=> ∃k e0:Nat,k≤qs.length∧i= .int .i64 (k:Int)∧dp= .int .i64 (e0:Int)∧ ∃g,TrS w am S (qs.take k) (f+1) g e0) (fun _ _ i=>qs.length-(intOf i).toNat)
  case atStart=>exact ⟨0,0,Nat.zero_le _,rfl,rfl,f+1,HSTART.out⟩
  case round=>
   obtain ⟨k,e0,hk,rfl,rfl,hx⟩:=hrel
   have HX:=Lib.hid hx;clear hx
   by_cases hlt:k<qs.length
   ·obtain ⟨b,rfl,hbl,cc⟩:=H3.out.resolve_left (by rintro rfl;simp at hlt)
    have d1:=cc k hlt
    obtain ⟨g,g',d0,d1',d2,j1,j2,j3,j4,j5⟩:=HT.out.at k hlt
    obtain ⟨gx,hx⟩:=HX.out
    obtain ⟨-,rfl⟩:=hx.exs.uniq j1.exs
    have l1:=j1.exs.le;have l2:=j2.exs.le;have l4:=j4.exs.le;have l2d:=j2.exs.dep;have l1d:=j1.exs.dep
    have HJ2:=Lib.hid j2;have HJ3:=Lib.hid j3
    simp only [List.length_take,List.length_cons,List.length_nil] at l1 l2
    clear j1 j2 j3 j4 hx cc HX
    go_wp2_with fail
    refine (IH.out _ g g' d1' HJ2.out (by omega)).mono ?_
    rintro e w' ⟨rfl,rfl⟩
    go_wp2
    go_round
    case rel=>exact ⟨k+1,max e0 d1',by omega,by go_num,by first|rfl|(congr 1;omega),g',HJ3.out⟩
    case measure=>simp [intOf];omega
   ·obtain rfl:k=qs.length:=by omega
    obtain ⟨g,hx⟩:=HX.out
    have HX2:=Lib.hid (show e0=e by
     rw [List.take_of_length_le (Nat.le_refl _)] at hx
     exact (hx.exs.uniq HT.out.exs).2)
    have:e0≤60:=by have:=HX2.out;omega
    clear hx
    go_wp2
    go_ret
    exact ⟨ret_i (by rw [HX2.out]),rfl⟩
open Classical in
noncomputable def okP (p:Cl→Bool) (l:List Cl):Bool:=decide (l.length≤60)&&(l.all p&&decide (∃d,d≤12∧Exs (amL l) 1 0 l.length d))
theorem okP_iff {p:Cl→Bool} (l:List Cl):okP p l=true↔l.length≤60∧l.all p=true∧ ∃d,d≤12∧Exs (amL l) 1 0 l.length d:=by
 simp only [okP,Bool.and_eq_true,decide_eq_true_eq]
theorem okP_E (l:List Cl):okP okC l=okE l:=by
 rw [Bool.eq_iff_iff,okP_iff,okE_iff]
theorem okP_len {p:Cl→Bool} {l:List Cl} (h: ¬l.length≤60):okP p l=false:=by
 rw [Bool.eq_false_iff];intro h';exact h ((okP_iff l).mp h').1
theorem okP_cell {p:Cl→Bool} {l:List Cl} (h: ¬l.all p=true):okP p l=false:=by
 rw [Bool.eq_false_iff];intro h';exact h ((okP_iff l).mp h').2.1
theorem okP_of {p:Cl→Bool} {l:List Cl} {t d:Nat} (hx:Exs (amL l) 1 0 t d) (h60:l.length≤60) (hok:l.all p=true):okP p l=true↔t=l.length∧d≤12:=by
 rw [okP_iff]
 constructor
 ·rintro ⟨-,-,d',hd,hx'⟩
  obtain ⟨rfl,rfl⟩:=hx.uniq hx'
  exact ⟨rfl,hd⟩
 ·rintro ⟨rfl,hd⟩
  exact ⟨h60,hok,d,hd,hx⟩
theorem okP_none {p:Cl→Bool} {l:List Cl} (h: ¬ ∃t d,Exs (amL l) 1 0 t d):okP p l=false:=by
 rw [Bool.eq_false_iff];intro h'
 obtain ⟨-,-,d,-,hx⟩:=(okP_iff l).mp h'
 exact h ⟨_,d,hx⟩
def TreeP (p:Cl→Bool) (l:List Cl) (w:World) (e:Ending) (w':World):Prop:=
 Below w.heap.size w w'∧((∃N d,e= .returned (.pointer (some ⟨N,0,none⟩))∧okP p l=true∧d≤12∧TrS w' (amL l) (fun b=>w.heap.size≤b∧b<w'.heap.size) [N] 0 l.length d)∨(e= .returned (.pointer none)∧okP p l=false))
def Tree (l:List Cl) (w:World) (e:Ending) (w':World):Prop:=
 Below w.heap.size w w'∧((∃N d,e= .returned (.pointer (some ⟨N,0,none⟩))∧okE l=true∧d≤12∧TrS w' (amL l) (fun b=>w.heap.size≤b∧b<w'.heap.size) [N] 0 l.length d)∨(e= .returned (.pointer none)∧okE l=false))
def Asks (F:FuncId) (p:Cl→Bool) (Z:Nat):Prop:=
 ∀(k m:Int) (s:ByteArray) (w:World),s.size≤Z→Tab w→Calls Tryz.prog F #[.agg #[.int .i64 k, .string s, .int .i64 m]] w fun e w'=>e= .returned (.bool (p (k,s,m)))∧Below w.heap.size w w'
theorem allP_take {p:Cl→Bool} {l:List Cl} {k:Nat} (h:k<l.length):(l.take (k+1)).all p=((l.take k).all p&&p l[k]):=by
 rw [List.take_succ_eq_append_getElem h,List.all_append];simp
theorem cellTree_any (F:FuncId) (p:Cl→Bool) (Z:Nat) (eF: ∀args w,(callFunc F args).run Tryz.prog w= .ok (.enter F args) w) (hF:Asks F p Z) (hpM: ∀c,p c=true→okM c=true) (v:Value) (l:List Cl) (w:World) (hr:RowC w v l) (hz: ∀c∈l,c.2.1.size≤Z) (htab:Tab w):
  Calls Tryz.prog 188 #[v, .func (.func F) #[] #[]] w (TreeP p l w):=by
 have HR:=Lib.hid hr
 obtain ⟨ao,cap,rfl,h1,h2,h3⟩:=hr
 unfold maxLen at h2
 have H3:=Lib.hid h3;have HZ:=Lib.hid hz;have HF:=Lib.hid hF;have HPM:=Lib.hid hpM;clear h3 hz hF hpM
 by_cases h60:l.length≤60
 ·go_enter Tryz.func188,Tryz.ntmps188
  go_wp2
  go_loopw [13] (fun i wr=> ∃k:Nat,k≤l.length∧i= .int .i64 (k:Int)∧(l.take k).all p=true∧Below w.heap.size w wr) (fun i _=>l.length-(intOf i).toNat)
  case atStart=>exact ⟨0,Nat.zero_le _,rfl,rfl,Below.refl _ _⟩
  case round=>
   obtain ⟨k,hk,rfl,hok,hb⟩:=hrel
   have HOK:=Lib.hid hok;have HB:=Lib.hid hb;clear hok hb
   by_cases hlt:k<l.length
   ·obtain ⟨b,o,rfl,hbl,cc⟩:=H3.out.resolve_left (by rintro rfl;simp at hlt)
    obtain ⟨c0,c1,c2⟩:=cc k hlt
    have d0:wr.cell? ⟨b,o+k*3,none⟩=some (.int .i64 l[k].1):=(HB.out.cell (p:=⟨b,_,none⟩) hbl).trans c0
    have d1:wr.cell? ⟨b,o+k*3+1,none⟩=some (.string l[k].2.1):=(HB.out.cell (p:=⟨b,_,none⟩) hbl).trans c1
    have d2:wr.cell? ⟨b,o+k*3+2,none⟩=some (.int .i64 l[k].2.2):=(HB.out.cell (p:=⟨b,_,none⟩) hbl).trans c2
    have hzk:l[k].2.1.size≤Z:=HZ.out _ (List.getElem_mem _)
    have HT:=Lib.hid (allP_take (p:=p) hlt)
    have HC:=Lib.hid (show p l[k]=p (l[k].1,l[k].2.1,l[k].2.2) from rfl)
    generalize l[k].1=kk at d0 HC
    generalize l[k].2.1=ss at d1 HC hzk
    generalize l[k].2.2=mm at d2 HC
    have HZK:=Lib.hid hzk
    clear cc c0 c1 c2 hzk
    go_wp2_with fail
    refine (HF.out kk mm ss _ HZK.out ((htab.keep HB.out).al _)).mono ?_
    rintro e w1 ⟨rfl,hb1⟩
    have HB1:=Lib.hid ((HB.out.alloc HB.out.size _).trans (hb1.mono (by have:=HB.out.size;simp;omega)));clear hb1
    cases hcb:p (kk,ss,mm) with
    |true=>
     have HN:=Lib.hid (show (l.take (k+1)).all p=true by rw [HT.out,HOK.out,HC.out,hcb];rfl)
     clear hcb
     go_wp2
     go_roundw
     case rel=>exact ⟨k+1,by omega,by go_num,HN.out,HB1.out⟩
     case measure=>simp [intOf];omega
    |false=>
     have HN:=Lib.hid (okP_cell (p:=p) (l:=l) (fun h=>by
      rw [List.all_eq_true] at h
      have:=h _ (List.getElem_mem hlt)
      rw [HC.out,hcb] at this;cases this))
     clear hcb
     go_wp2
     go_ret
     exact ⟨HB1.out, .inr ⟨rfl,HN.out⟩⟩
   ·obtain rfl:k=l.length:=by omega
    have HAL:=Lib.hid (show l.all p=true by have:=HOK.out;rwa [List.take_of_length_le (Nat.le_refl _)] at this)
    have HAM:=Lib.hid (show l.all okM=true by have:=HAL.out;rw [List.all_eq_true] at this⊢;exact fun c hc=>HPM.out c (this c hc))
    go_wp2_with fail
    refine (grow_any _ l h60 HAM.out l.length 0 _ (Nat.zero_le _) (by omega) (HR.out.mono HB.out)).mono ?_
    rintro e w1 ⟨hb1,⟨N,t,d,rfl,ht⟩|⟨rfl,hno⟩⟩
    ·have HB1:=Lib.hid (HB.out.trans (hb1.mono HB.out.size))
     have HX:=Lib.hid (okP_of (p:=p) ht.exs h60 HAL.out)
     obtain ⟨m1,e1,v1,qs1,-,-,hN1,-⟩:=ht.inv
     have d1:w1.cell? ⟨N,1,none⟩=some (.int .i64 (t:Int)):=hN1.cell 1
     have HT:=Lib.hid ht
     have HTK:=Lib.hid (ht.keep (S':=fun b=>w.heap.size≤b∧b<w1.heap.size) (fun _ _ _=>rfl) (fun b hb _=>⟨by have:=HB.out.size;omega,hb.2⟩))
     have hdep:=ht.exs.dep
     have hle:=ht.exs.le.2 (by simp)
     rw [amL_length] at hle
     clear hb1 ht hN1
     have ham:(amL l).length≤60:=by rw [amL_length];exact h60
     by_cases htl:t=l.length
     ·subst htl
      by_cases hd:d≤12
      ·have HK:=Lib.hid (HX.out.mpr ⟨rfl,hd⟩)
       have hd':decide (12<d)=false:=decide_eq_false (by omega)
       go_wp2_with fail
       refine (depth_any (amL l) ham _ _ l.length N 0 l.length d HT.out (by omega)).mono ?_
       rintro e w' ⟨rfl,rfl⟩
       go_wp2
       go_ret
       exact ⟨HB1.out, .inl ⟨N,d,rfl,HK.out,hd,HTK.out⟩⟩
      ·have HK:=Lib.hid (show okP p l=false by rw [Bool.eq_false_iff];exact fun h=>hd (HX.out.mp h).2)
       go_wp2_with fail
       refine (depth_any (amL l) ham _ _ l.length N 0 l.length d HT.out (by omega)).mono ?_
       rintro e w' ⟨rfl,rfl⟩
       go_wp2
       go_ret
       exact ⟨HB1.out, .inr ⟨rfl,HK.out⟩⟩
     ·have HK:=Lib.hid (show okP p l=false by rw [Bool.eq_false_iff];exact fun h=>htl (HX.out.mp h).1)
      have hne:((t:Int) !=(l.length:Int))=true:=bne_iff_ne.mpr (by omega)
      go_wp2
      go_ret
      exact ⟨HB1.out, .inr ⟨rfl,HK.out⟩⟩
    ·have HK:=Lib.hid (okP_none (p:=p) hno)
     have HB1:=Lib.hid (HB.out.trans (hb1.mono HB.out.size))
     clear hno hb1
     go_wp2
     go_ret
     exact ⟨HB1.out, .inr ⟨rfl,HK.out⟩⟩
 ·have HN:=Lib.hid (okP_len (p:=p) h60)
  go_enter Tryz.func188,Tryz.ntmps188
  go_wp2
  go_ret
  exact ⟨Below.refl _ _, .inr ⟨rfl,HN.out⟩⟩
theorem enter_cellValid: ∀args w,(callFunc 189 args).run Tryz.prog w= .ok (.enter 189 args) w:=enters_of Tryz.func189 (by kernel_rfl) rfl
theorem exprTree_any (v:Value) (l:List Cl) (w:World) (hr:RowC w v l) (hz:SizedC l) (htab:Tab w):
  Calls Tryz.prog 163 #[v] w (Tree l w):=by
 have HC:=Lib.hid (cellTree_any _ okC maxLen enter_cellValid (fun k m s w hs ht=>cellValid_impl k m s w hs ht) (fun c h=>okM_of h) v l w hr hz htab)
 obtain ⟨ao,cap,rfl,h1,h2,h3⟩:=hr
 unfold maxLen at h2
 clear h3 hz
 go_enter Tryz.func163,Tryz.ntmps163
 go_wp2_with fail
 refine HC.out.mono ?_
 rintro e w1 ⟨hb1,⟨N,d,rfl,hok,hd,ht⟩|⟨rfl,hno⟩⟩
 ·rw [okP_E] at hok
  have HOK:=Lib.hid hok;have HB:=Lib.hid hb1;have HT:=Lib.hid ht
  clear hok hb1 ht
  go_wp2
  go_ret
  exact ⟨HB.out, .inl ⟨N,d,rfl,HOK.out,hd,HT.out⟩⟩
 ·rw [okP_E] at hno
  have HOK:=Lib.hid hno;have HB:=Lib.hid hb1
  clear hno hb1
  go_wp2
  go_ret
  exact ⟨HB.out, .inr ⟨rfl,HOK.out⟩⟩
theorem exprValid_impl (v:Value) (l:List Cl) (w:World) (hr:RowC w v l) (hz:SizedC l) (htab:Tab w):
  Calls Tryz.prog 121 #[v] w fun e w'=>e= .returned (.bool (okE l))∧Below w.heap.size w w':=by
 have HC:=Lib.hid (exprTree_any v l w hr hz htab)
 obtain ⟨ao,cap,rfl,h1,h2,h3⟩:=hr
 unfold maxLen at h2
 clear h3 hz
 go_enter Tryz.func121,Tryz.ntmps121
 go_wp2_with fail
 refine HC.out.mono ?_
 rintro e w1 ⟨hb1,⟨N,d,rfl,hok,hd,ht⟩|⟨rfl,hno⟩⟩
 ·have HOK:=Lib.hid hok;have HB:=Lib.hid hb1
  clear hok hb1 ht
  go_wp2
  go_ret
  exact ⟨ret_b HOK.out.symm,HB.out⟩
 ·have HOK:=Lib.hid hno;have HB:=Lib.hid hb1
  clear hno hb1
  go_wp2
  go_ret
  exact ⟨ret_b HOK.out.symm,HB.out⟩
end Go.Proofs.YtegdjjjpoahamaaGreatDoor
