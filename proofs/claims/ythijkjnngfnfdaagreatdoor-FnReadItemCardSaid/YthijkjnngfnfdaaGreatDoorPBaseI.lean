/-
  Several texts of the proof in one file: Signs, ec, ReadSAll, CellS, ExprS, ExprS2.
-/
import Derived.Test.YthijkjnngfnfdaaGreatDoorZz
import Derived.Test.YthijkjnngfnfdaaGreatDoorPBaseE
import Derived.Test.YthijkjnngfnfdaaGreatDoorPBaseA
import Derived.Deep.DeepCutAuto
import Derived.Test.YthijkjnngfnfdaaGreatDoorPBaseC
import Derived.Deep.Draws
import Derived.Deep.AppendLies
import Derived.Deep.RegionHeld3
import Derived.RegionTactic
import Derived.Deep.DrawnRows
import Derived.Laws.Rows
set_option linter.unusedVariables false
set_option maxHeartbeats 8000000
set_option maxRecDepth 100000
namespace Go.Proofs.YthijkjnngfnfdaaGreatDoor
open Go.RowKit
theorem lsS (s:ByteArray) (l:List UInt8):(s.toList==l)=(s.data.toList==l):=by rw [ByteArray.toList_eq]
theorem aS {s:ByteArray} {l:List UInt8} (h:s.data.toList=l):(s.toList==l)=true:=by rw [lsS,h];exact beq_self_eq_true l
theorem af {s:ByteArray} {l:List UInt8} (h:s.data.toList≠l):(s.toList==l)=false:=by rw [lsS];exact beq_eq_false_iff_ne.mpr h
theorem fV (s:ByteArray) (w:World):
  Calls Tryz.prog 133 #[.string s] w fun e w'=>e= .returned (.int .i64 (aj s.data.toList))∧w=w':=by
 by_cases h0:s.data.toList=[124,124]
 ·have hr:aj s.data.toList=2:=by rw [aj,if_pos h0]
  rw [hr];have e0:=aS h0;clear hr h0
  go_enter Tryz.func133,Tryz.ntmps133
  go_wp2;go_ret;exact ⟨rfl,rfl⟩
 by_cases h1:s.data.toList=[38,38]
 ·have hr:aj s.data.toList=3:=by rw [aj,if_neg h0,if_pos h1]
  rw [hr];have n0:=af h0;have e1:=aS h1;clear hr h0 h1
  go_enter Tryz.func133,Tryz.ntmps133
  go_wp2;go_ret;exact ⟨rfl,rfl⟩
 by_cases h2:s.data.toList=[61,61]
 ·have hr:aj s.data.toList=4:=by rw [aj,if_neg h0,if_neg h1,if_pos h2]
  rw [hr];have n0:=af h0;have n1:=af h1;have e2:=aS h2;clear hr h0 h1 h2
  go_enter Tryz.func133,Tryz.ntmps133
  go_wp2;go_ret;exact ⟨rfl,rfl⟩
 by_cases h3:s.data.toList=[33,61]
 ·have hr:aj s.data.toList=4:=by rw [aj,if_neg h0,if_neg h1,if_neg h2,if_pos h3]
  rw [hr];have n0:=af h0;have n1:=af h1;have n2:=af h2;have e3:=aS h3;clear hr h0 h1 h2 h3
  go_enter Tryz.func133,Tryz.ntmps133
  go_wp2;go_ret;exact ⟨rfl,rfl⟩
 by_cases h4:s.data.toList=[60]
 ·have hr:aj s.data.toList=4:=by rw [aj,if_neg h0,if_neg h1,if_neg h2,if_neg h3,if_pos h4]
  rw [hr];have n0:=af h0;have n1:=af h1;have n2:=af h2;have n3:=af h3;have e4:=aS h4;clear hr h0 h1 h2 h3 h4
  go_enter Tryz.func133,Tryz.ntmps133
  go_wp2;go_ret;exact ⟨rfl,rfl⟩
 by_cases h5:s.data.toList=[60,61]
 ·have hr:aj s.data.toList=4:=by rw [aj,if_neg h0,if_neg h1,if_neg h2,if_neg h3,if_neg h4,if_pos h5]
  rw [hr];have n0:=af h0;have n1:=af h1;have n2:=af h2;have n3:=af h3;have n4:=af h4;have e5:=aS h5;clear hr h0 h1 h2 h3 h4 h5
  go_enter Tryz.func133,Tryz.ntmps133
  go_wp2;go_ret;exact ⟨rfl,rfl⟩
 by_cases h6:s.data.toList=[62]
 ·have hr:aj s.data.toList=4:=by rw [aj,if_neg h0,if_neg h1,if_neg h2,if_neg h3,if_neg h4,if_neg h5,if_pos h6]
  rw [hr];have n0:=af h0;have n1:=af h1;have n2:=af h2;have n3:=af h3;have n4:=af h4;have n5:=af h5;have e6:=aS h6;clear hr h0 h1 h2 h3 h4 h5 h6
  go_enter Tryz.func133,Tryz.ntmps133
  go_wp2;go_ret;exact ⟨rfl,rfl⟩
 by_cases h7:s.data.toList=[62,61]
 ·have hr:aj s.data.toList=4:=by rw [aj,if_neg h0,if_neg h1,if_neg h2,if_neg h3,if_neg h4,if_neg h5,if_neg h6,if_pos h7]
  rw [hr];have n0:=af h0;have n1:=af h1;have n2:=af h2;have n3:=af h3;have n4:=af h4;have n5:=af h5;have n6:=af h6;have e7:=aS h7;clear hr h0 h1 h2 h3 h4 h5 h6 h7
  go_enter Tryz.func133,Tryz.ntmps133
  go_wp2;go_ret;exact ⟨rfl,rfl⟩
 by_cases h8:s.data.toList=[43]
 ·have hr:aj s.data.toList=5:=by rw [aj,if_neg h0,if_neg h1,if_neg h2,if_neg h3,if_neg h4,if_neg h5,if_neg h6,if_neg h7,if_pos h8]
  rw [hr];have n0:=af h0;have n1:=af h1;have n2:=af h2;have n3:=af h3;have n4:=af h4;have n5:=af h5;have n6:=af h6;have n7:=af h7;have e8:=aS h8;clear hr h0 h1 h2 h3 h4 h5 h6 h7 h8
  go_enter Tryz.func133,Tryz.ntmps133
  go_wp2;go_ret;exact ⟨rfl,rfl⟩
 by_cases h9:s.data.toList=[45]
 ·have hr:aj s.data.toList=5:=by rw [aj,if_neg h0,if_neg h1,if_neg h2,if_neg h3,if_neg h4,if_neg h5,if_neg h6,if_neg h7,if_neg h8,if_pos h9]
  rw [hr];have n0:=af h0;have n1:=af h1;have n2:=af h2;have n3:=af h3;have n4:=af h4;have n5:=af h5;have n6:=af h6;have n7:=af h7;have n8:=af h8;have e9:=aS h9;clear hr h0 h1 h2 h3 h4 h5 h6 h7 h8 h9
  go_enter Tryz.func133,Tryz.ntmps133
  go_wp2;go_ret;exact ⟨rfl,rfl⟩
 by_cases h10:s.data.toList=[42]
 ·have hr:aj s.data.toList=6:=by rw [aj,if_neg h0,if_neg h1,if_neg h2,if_neg h3,if_neg h4,if_neg h5,if_neg h6,if_neg h7,if_neg h8,if_neg h9,if_pos h10]
  rw [hr];have n0:=af h0;have n1:=af h1;have n2:=af h2;have n3:=af h3;have n4:=af h4;have n5:=af h5;have n6:=af h6;have n7:=af h7;have n8:=af h8;have n9:=af h9;have e10:=aS h10;clear hr h0 h1 h2 h3 h4 h5 h6 h7 h8 h9 h10
  go_enter Tryz.func133,Tryz.ntmps133
  go_wp2;go_ret;exact ⟨rfl,rfl⟩
 by_cases h11:s.data.toList=[47]
 ·have hr:aj s.data.toList=6:=by rw [aj,if_neg h0,if_neg h1,if_neg h2,if_neg h3,if_neg h4,if_neg h5,if_neg h6,if_neg h7,if_neg h8,if_neg h9,if_neg h10,if_pos h11]
  rw [hr];have n0:=af h0;have n1:=af h1;have n2:=af h2;have n3:=af h3;have n4:=af h4;have n5:=af h5;have n6:=af h6;have n7:=af h7;have n8:=af h8;have n9:=af h9;have n10:=af h10;have e11:=aS h11;clear hr h0 h1 h2 h3 h4 h5 h6 h7 h8 h9 h10 h11
  go_enter Tryz.func133,Tryz.ntmps133
  go_wp2;go_ret;exact ⟨rfl,rfl⟩
 by_cases h12:s.data.toList=[37]
 ·have hr:aj s.data.toList=6:=by rw [aj,if_neg h0,if_neg h1,if_neg h2,if_neg h3,if_neg h4,if_neg h5,if_neg h6,if_neg h7,if_neg h8,if_neg h9,if_neg h10,if_neg h11,if_pos h12]
  rw [hr];have n0:=af h0;have n1:=af h1;have n2:=af h2;have n3:=af h3;have n4:=af h4;have n5:=af h5;have n6:=af h6;have n7:=af h7;have n8:=af h8;have n9:=af h9;have n10:=af h10;have n11:=af h11;have e12:=aS h12;clear hr h0 h1 h2 h3 h4 h5 h6 h7 h8 h9 h10 h11 h12
  go_enter Tryz.func133,Tryz.ntmps133
  go_wp2;go_ret;exact ⟨rfl,rfl⟩
 have hr:aj s.data.toList=0:=by rw [aj,if_neg h0,if_neg h1,if_neg h2,if_neg h3,if_neg h4,if_neg h5,if_neg h6,if_neg h7,if_neg h8,if_neg h9,if_neg h10,if_neg h11,if_neg h12]
 rw [hr];have n0:=af h0;have n1:=af h1;have n2:=af h2;have n3:=af h3;have n4:=af h4;have n5:=af h5;have n6:=af h6;have n7:=af h7;have n8:=af h8;have n9:=af h9;have n10:=af h10;have n11:=af h11;have n12:=af h12;clear hr h0 h1 h2 h3 h4 h5 h6 h7 h8 h9 h10 h11 h12
 go_enter Tryz.func133,Tryz.ntmps133
 go_wp2;go_ret;exact ⟨rfl,rfl⟩
theorem pQ (s:ByteArray) (w:World):
  Calls Tryz.prog 202 #[.string s] w fun e w'=>e= .returned (.bool (decide (0<aj s.data.toList)))∧w=w':=by
 by_cases h0:s.data.toList=[124,124]
 ·have hr:aj s.data.toList=2:=by rw [aj,if_pos h0]
  rw [hr];have e0:=aS h0;clear hr h0
  go_enter Tryz.func202,Tryz.ntmps202
  go_wp2;go_ret;exact ⟨rfl,rfl⟩
 by_cases h1:s.data.toList=[38,38]
 ·have hr:aj s.data.toList=3:=by rw [aj,if_neg h0,if_pos h1]
  rw [hr];have n0:=af h0;have e1:=aS h1;clear hr h0 h1
  go_enter Tryz.func202,Tryz.ntmps202
  go_wp2;go_ret;exact ⟨rfl,rfl⟩
 by_cases h2:s.data.toList=[61,61]
 ·have hr:aj s.data.toList=4:=by rw [aj,if_neg h0,if_neg h1,if_pos h2]
  rw [hr];have n0:=af h0;have n1:=af h1;have e2:=aS h2;clear hr h0 h1 h2
  go_enter Tryz.func202,Tryz.ntmps202
  go_wp2;go_ret;exact ⟨rfl,rfl⟩
 by_cases h3:s.data.toList=[33,61]
 ·have hr:aj s.data.toList=4:=by rw [aj,if_neg h0,if_neg h1,if_neg h2,if_pos h3]
  rw [hr];have n0:=af h0;have n1:=af h1;have n2:=af h2;have e3:=aS h3;clear hr h0 h1 h2 h3
  go_enter Tryz.func202,Tryz.ntmps202
  go_wp2;go_ret;exact ⟨rfl,rfl⟩
 by_cases h4:s.data.toList=[60]
 ·have hr:aj s.data.toList=4:=by rw [aj,if_neg h0,if_neg h1,if_neg h2,if_neg h3,if_pos h4]
  rw [hr];have n0:=af h0;have n1:=af h1;have n2:=af h2;have n3:=af h3;have e4:=aS h4;clear hr h0 h1 h2 h3 h4
  go_enter Tryz.func202,Tryz.ntmps202
  go_wp2;go_ret;exact ⟨rfl,rfl⟩
 by_cases h5:s.data.toList=[60,61]
 ·have hr:aj s.data.toList=4:=by rw [aj,if_neg h0,if_neg h1,if_neg h2,if_neg h3,if_neg h4,if_pos h5]
  rw [hr];have n0:=af h0;have n1:=af h1;have n2:=af h2;have n3:=af h3;have n4:=af h4;have e5:=aS h5;clear hr h0 h1 h2 h3 h4 h5
  go_enter Tryz.func202,Tryz.ntmps202
  go_wp2;go_ret;exact ⟨rfl,rfl⟩
 by_cases h6:s.data.toList=[62]
 ·have hr:aj s.data.toList=4:=by rw [aj,if_neg h0,if_neg h1,if_neg h2,if_neg h3,if_neg h4,if_neg h5,if_pos h6]
  rw [hr];have n0:=af h0;have n1:=af h1;have n2:=af h2;have n3:=af h3;have n4:=af h4;have n5:=af h5;have e6:=aS h6;clear hr h0 h1 h2 h3 h4 h5 h6
  go_enter Tryz.func202,Tryz.ntmps202
  go_wp2;go_ret;exact ⟨rfl,rfl⟩
 by_cases h7:s.data.toList=[62,61]
 ·have hr:aj s.data.toList=4:=by rw [aj,if_neg h0,if_neg h1,if_neg h2,if_neg h3,if_neg h4,if_neg h5,if_neg h6,if_pos h7]
  rw [hr];have n0:=af h0;have n1:=af h1;have n2:=af h2;have n3:=af h3;have n4:=af h4;have n5:=af h5;have n6:=af h6;have e7:=aS h7;clear hr h0 h1 h2 h3 h4 h5 h6 h7
  go_enter Tryz.func202,Tryz.ntmps202
  go_wp2;go_ret;exact ⟨rfl,rfl⟩
 by_cases h8:s.data.toList=[43]
 ·have hr:aj s.data.toList=5:=by rw [aj,if_neg h0,if_neg h1,if_neg h2,if_neg h3,if_neg h4,if_neg h5,if_neg h6,if_neg h7,if_pos h8]
  rw [hr];have n0:=af h0;have n1:=af h1;have n2:=af h2;have n3:=af h3;have n4:=af h4;have n5:=af h5;have n6:=af h6;have n7:=af h7;have e8:=aS h8;clear hr h0 h1 h2 h3 h4 h5 h6 h7 h8
  go_enter Tryz.func202,Tryz.ntmps202
  go_wp2;go_ret;exact ⟨rfl,rfl⟩
 by_cases h9:s.data.toList=[45]
 ·have hr:aj s.data.toList=5:=by rw [aj,if_neg h0,if_neg h1,if_neg h2,if_neg h3,if_neg h4,if_neg h5,if_neg h6,if_neg h7,if_neg h8,if_pos h9]
  rw [hr];have n0:=af h0;have n1:=af h1;have n2:=af h2;have n3:=af h3;have n4:=af h4;have n5:=af h5;have n6:=af h6;have n7:=af h7;have n8:=af h8;have e9:=aS h9;clear hr h0 h1 h2 h3 h4 h5 h6 h7 h8 h9
  go_enter Tryz.func202,Tryz.ntmps202
  go_wp2;go_ret;exact ⟨rfl,rfl⟩
 by_cases h10:s.data.toList=[42]
 ·have hr:aj s.data.toList=6:=by rw [aj,if_neg h0,if_neg h1,if_neg h2,if_neg h3,if_neg h4,if_neg h5,if_neg h6,if_neg h7,if_neg h8,if_neg h9,if_pos h10]
  rw [hr];have n0:=af h0;have n1:=af h1;have n2:=af h2;have n3:=af h3;have n4:=af h4;have n5:=af h5;have n6:=af h6;have n7:=af h7;have n8:=af h8;have n9:=af h9;have e10:=aS h10;clear hr h0 h1 h2 h3 h4 h5 h6 h7 h8 h9 h10
  go_enter Tryz.func202,Tryz.ntmps202
  go_wp2;go_ret;exact ⟨rfl,rfl⟩
 by_cases h11:s.data.toList=[47]
 ·have hr:aj s.data.toList=6:=by rw [aj,if_neg h0,if_neg h1,if_neg h2,if_neg h3,if_neg h4,if_neg h5,if_neg h6,if_neg h7,if_neg h8,if_neg h9,if_neg h10,if_pos h11]
  rw [hr];have n0:=af h0;have n1:=af h1;have n2:=af h2;have n3:=af h3;have n4:=af h4;have n5:=af h5;have n6:=af h6;have n7:=af h7;have n8:=af h8;have n9:=af h9;have n10:=af h10;have e11:=aS h11;clear hr h0 h1 h2 h3 h4 h5 h6 h7 h8 h9 h10 h11
  go_enter Tryz.func202,Tryz.ntmps202
  go_wp2;go_ret;exact ⟨rfl,rfl⟩
 by_cases h12:s.data.toList=[37]
 ·have hr:aj s.data.toList=6:=by rw [aj,if_neg h0,if_neg h1,if_neg h2,if_neg h3,if_neg h4,if_neg h5,if_neg h6,if_neg h7,if_neg h8,if_neg h9,if_neg h10,if_neg h11,if_pos h12]
  rw [hr];have n0:=af h0;have n1:=af h1;have n2:=af h2;have n3:=af h3;have n4:=af h4;have n5:=af h5;have n6:=af h6;have n7:=af h7;have n8:=af h8;have n9:=af h9;have n10:=af h10;have n11:=af h11;have e12:=aS h12;clear hr h0 h1 h2 h3 h4 h5 h6 h7 h8 h9 h10 h11 h12
  go_enter Tryz.func202,Tryz.ntmps202
  go_wp2;go_ret;exact ⟨rfl,rfl⟩
 have hr:aj s.data.toList=0:=by rw [aj,if_neg h0,if_neg h1,if_neg h2,if_neg h3,if_neg h4,if_neg h5,if_neg h6,if_neg h7,if_neg h8,if_neg h9,if_neg h10,if_neg h11,if_neg h12]
 rw [hr];have n0:=af h0;have n1:=af h1;have n2:=af h2;have n3:=af h3;have n4:=af h4;have n5:=af h5;have n6:=af h6;have n7:=af h7;have n8:=af h8;have n9:=af h9;have n10:=af h10;have n11:=af h11;have n12:=af h12;clear hr h0 h1 h2 h3 h4 h5 h6 h7 h8 h9 h10 h11 h12
 go_enter Tryz.func202,Tryz.ntmps202
 go_wp2;go_ret;exact ⟨rfl,rfl⟩
theorem ji (s:ByteArray) (h:ge s=true):0<s.size∧s.extract 1 s.size=ar s∧ ∀(hz:0<s.size),(s[0].toNat:Int)=45:=by
 have hl:s.data.toList.length=s.size:=by rw [Array.length_toList];rfl
 unfold ge Lib.hasPrefix at h
 cases hx:s.data.toList with
 |nil=>rw [hx] at h;simp [List.isPrefixOf] at h
 |cons c l=>
  rw [hx] at h
  simp [List.isPrefixOf] at h
  have hz:0<s.size:=by rw [←hl,hx];simp
  refine ⟨hz, ?_, ?_⟩
  ·apply kb
   have e:(s.extract 1 s.size).data.toList=(s.data.toList.drop 1).take (s.size-1):=by simp [ByteArray.data_extract]
   rw [e,List.take_of_length_le (by rw [List.length_drop,hl];exact ain _)];unfold Lib.trimPrefix Lib.hasPrefix;rw [hx];simp [List.isPrefixOf,h]
  ·intro _
   have e:s[0]=c:=by
    have:s.data.toList[0]? =some c:=by rw [hx];rfl
    rw [List.getElem?_eq_getElem (by omega)] at this;exact Option.some.inj this
   rw [e,←h];rfl
theorem iA (s:ByteArray) (h:ge s=false):ar s=s∧ ∀(hz:0<s.size),((s[0].toNat:Int)==45)=false:=by
 have hl:s.data.toList.length=s.size:=by rw [Array.length_toList];rfl
 have hb:ar s=s:=by
  unfold ar Lib.trimPrefix;unfold ge at h;rw [h]
  apply ByteArray.ext;simp
 refine ⟨hb,fun hz=> ?_⟩;unfold ge Lib.hasPrefix at h
 cases hx:s.data.toList with
 |nil=>rw [hx] at hl;simp at hl;omega
 |cons c l=>
  rw [hx] at h
  simp [List.isPrefixOf] at h
  have e:s[0]=c:=by
   have:s.data.toList[0]? =some c:=by rw [hx];rfl
   rw [List.getElem?_eq_getElem (by omega)] at this;exact Option.some.inj this
  rw [e,show (45:Int)=((45:UInt8).toNat:Int) from rfl,beq_eq_false_iff_ne];intro e2;exact h (UInt8.toNat_inj.mp (by omega))
theorem pR (X:ByteArray) (w:World) (hs:X.size≤2097152):
  Calls Tryz.prog 163 #[.string X, .int .i64 0, .int .i64 10] w fun e w'=>e= .returned (.tuple #[.int .i64 ((bE X 0 (spK X):Nat):Int), .int .i64 ((spK X:Nat):Int)])∧w=w':=by
 have:=gX X 0 10 w hs (by omega) (by omega);rw [Nat.zero_add] at this;exact this
theorem afO (X:ByteArray) (w:World) (hs:X.size≤2097152) (hk:spK X+1≤X.size):
  Calls Tryz.prog 163 #[.string X, .int .i64 ((spK X+1:Nat):Int), .int .i64 7] w fun e w'=>e= .returned (.tuple #[.int .i64 ((bE X (spK X+1) (spJ X):Nat):Int), .int .i64 ((spK X+1+spJ X:Nat):Int)])∧w=w':=
 gX X (spK X+1) 7 w hs hk (by omega)
theorem gB (X:ByteArray):bE X 0 (spK X)<10000000000:=by
 unfold bE spK jb;exact gy _ (fG _ _) (by rw [List.length_take];have:=(iO (X.data.toList.drop 0) 10).2;omega)
theorem gC (X:ByteArray):bE X (spK X+1) (spJ X)<10000000000:=by
 unfold bE spJ jb;exact gy _ (fG _ _) (by rw [List.length_take];have:=(iO (X.data.toList.drop (spK X+1)) 7).2;omega)
theorem gT (X:ByteArray):spK X≤X.size:=by
 unfold spK jb;have:=(iO (X.data.toList.drop 0) 10).1;rw [List.drop_zero,Array.length_toList] at this;exact this
theorem gD (v:Bool) (x y:Int) (h:gd v x y=false):opT v x y=0∧opB v x y=0:=by
 cases v with
 |false=>exact ⟨(ch _ _).1,(ch _ _).2.1⟩
 |true=>
  rw [(dK _ _).2.2] at h;rw [(dK _ _).1,(dK _ _).2.1];exact pB h
theorem jZ (v:Bool) (x y:Int): -1000000000≤opT v x y∧opT v x y≤1000000000:=by
 unfold opT
 split
 ·unfold mkT
  split
  ·rename_i h;have:=iP h;omega
  ·omega
 ·omega
theorem abn (s:ByteArray) (w:World) (hs:s.size≤2097152) (hng:ge s=false) (hne:0<s.size) (h1:spO s=true)
  (T B:Int) (hT:T=spT s) (hB:B=spB s) (good:Bool) (hgood:(aW T B==s.data.toList)=good):
  Calls Tryz.prog 134 #[.string s] w fun e w'=>e=fr (if good=true then T else 0) (if good=true then B else 0) good∧Below w.heap.size w w':=by
 have b45:((s[0].toNat:Int)==45)=false:=(iA s hng).2 hne
 have e0:s.toList.isEmpty=false:=by
  rw [ByteArray.toList_eq]
  cases hc:s.data.toList with
  |nil=>have:=congrArg List.length hc;rw [Array.length_toList] at this;simp only [List.length_nil] at this;have h':s.size=0:=this;omega
  |cons x l=>rfl
 have e1:(s.toList==[])=false:=by cases hc:s.toList with
  |nil=>rw [hc] at e0;cases e0
  |cons x l=>rfl
 have hsz:s.size≤2097152:=hs;clear hng;have CD:=aim (fun w'=>bN s w' hsz);obtain ⟨o1,o2⟩:=jZ (bM s.data.toList) (bq s.data.toList) (br s.data.toList);have hO:spO s=gd (bM s.data.toList) (bq s.data.toList) (br s.data.toList):=rfl
 have hT2:T=opT (bM s.data.toList) (bq s.data.toList) (br s.data.toList):=by rw [hT,spT,if_pos h1]
 have hB2:B=opB (bM s.data.toList) (bq s.data.toList) (br s.data.toList):=by rw [hB,spB,if_pos h1]
 rw [←hO,h1,←hT2,←hB2] at CD;rw [←hT2] at o1 o2;clear hO hT hB hT2 hB2 h1;have HEQ:=aim (eqL (aW T B) s);rw [hgood] at HEQ;have CT:=aim (fun w'=>aX T B w');clear hgood;generalize (⟨(aW T B).toArray⟩:ByteArray)=Z at*;have hEE:(Z.toList==s.toList)=good:=HEQ.out
 cases good
 all_goals
  go_enter Tryz.func134,Tryz.ntmps134
  go_wp2_with fail;refine (CD.out _).mono ?_;rintro e w1 ⟨rfl,hb1⟩;have Z1:=aim ((ZeroF.new w 165).keep hb1);have hN:w.heap.size<w1.heap.size:=Z1.out.2.2.2.2
  have hN1:w.heap.size≠w1.heap.size:=by omega
  have HB1:=aim (((Below.refl _ w).alloc (ain _) _).trans (hb1.mono (by simp)));clear hb1;go_wp2_with fail;refine (CT.out _).mono ?_;rintro e w3 ⟨rfl,hb3⟩;have Z3:=aim ((Z1.out.al _).keep hb3);have F3:=aim (FrAt.keep (FrAt.new _ _ _ _) hb3);have HB3:=aim ((HB1.out.alloc HB1.out.size _).trans (hb3.mono (by have:=HB1.out.size;simp;omega)));clear hb3;obtain ⟨u0,u1,u2,u3,u4⟩:=Z3.out;obtain ⟨d0,d1⟩:=F3.out;go_wp2;exact bodyPost_ret (v:= .tuple #[.agg #[.int .i64 _, .int .i64 _], .bool _]) (by simp [results,Tryz.results134,go_sem,u0,u1]) rfl ⟨rfl,(HB3.out.setCell (ain _) _).setCell (ain _) _⟩
theorem abo (s:ByteArray) (w:World) (hs:s.size≤2097152) (hng:ge s=false) (hne:0<s.size) (h1:spO s=false) (h2:spK s=0)
  (T B:Int) (hT:T=spT s) (hB:B=spB s) (good:Bool) (hgood:(aW T B==s.data.toList)=good):
  Calls Tryz.prog 134 #[.string s] w fun e w'=>e=fr (if good=true then T else 0) (if good=true then B else 0) good∧Below w.heap.size w w':=by
 have b45:((s[0].toNat:Int)==45)=false:=(iA s hng).2 hne
 have e0:s.toList.isEmpty=false:=by
  rw [ByteArray.toList_eq]
  cases hc:s.data.toList with
  |nil=>have:=congrArg List.length hc;rw [Array.length_toList] at this;simp only [List.length_nil] at this;have h':s.size=0:=this;omega
  |cons x l=>rfl
 have e1:(s.toList==[])=false:=by cases hc:s.toList with
  |nil=>rw [hc] at e0;cases e0
  |cons x l=>rfl
 have hsz:s.size≤2097152:=hs;clear hng;have CD:=aim (fun w'=>bN s w' hsz);obtain ⟨o1,o2⟩:=jZ (bM s.data.toList) (bq s.data.toList) (br s.data.toList);have hO:spO s=gd (bM s.data.toList) (bq s.data.toList) (br s.data.toList):=rfl;obtain ⟨q1,q2⟩:=gD _ _ _ (hO.symm.trans h1);rw [←hO,h1,q1,q2] at CD;clear o1 o2 q1 q2 hO;have hvb:=gB s;have hvb1:=gC s;have hkl:=gT s;have C0:=aim (fun w'=>pR s w' hsz)
 have hgo:je s=false:=by simp [je,s6,h2]
 have hT2:T=0:=by rw [hT,spT,h1,hgo,if_neg (by simp),if_neg (by intro h;omega),if_neg (by simp)]
 have hB2:B=0:=by rw [hB,spB,h1,hgo,if_neg (by simp),if_neg (by intro h;omega),if_neg (by simp)]
 subst hT2 hB2;clear hT hB hgo;clear h1;generalize hv0:bE s 0 (spK s)=v0 at*;generalize hk:spK s=k at*;clear hv0 hk hvb1;subst h2;have HEQ:=aim (eqL (aW 0 0) s);rw [hgood] at HEQ;have CT:=aim (fun w'=>aX 0 0 w');clear hgood;generalize (⟨(aW 0 0).toArray⟩:ByteArray)=Z at*;have hEE:(Z.toList==s.toList)=good:=HEQ.out
 cases good
 all_goals
  go_enter Tryz.func134,Tryz.ntmps134
  go_wp2_with fail;refine (CD.out _).mono ?_;rintro e w1 ⟨rfl,hb1⟩;have Z1:=aim ((ZeroF.new w 165).keep hb1);have hN:w.heap.size<w1.heap.size:=Z1.out.2.2.2.2
  have hN1:w.heap.size≠w1.heap.size:=by omega
  have HB1:=aim (((Below.refl _ w).alloc (ain _) _).trans (hb1.mono (by simp)));clear hb1;go_wp2_with fail;refine (C0.out _).mono ?_;rintro e w' ⟨rfl,rfl⟩;go_wp2_with fail;refine (CT.out _).mono ?_;rintro e w3 ⟨rfl,hb3⟩;have Z3:=aim ((Z1.out.al _).keep hb3);have F3:=aim (FrAt.keep (FrAt.new _ _ _ _) hb3);have HB3:=aim ((HB1.out.alloc HB1.out.size _).trans (hb3.mono (by have:=HB1.out.size;simp;omega)));clear hb3;obtain ⟨u0,u1,u2,u3,u4⟩:=Z3.out;obtain ⟨d0,d1⟩:=F3.out;go_wp2;exact bodyPost_ret (v:= .tuple #[.agg #[.int .i64 _, .int .i64 _], .bool _]) (by simp [results,Tryz.results134,go_sem,u0,u1]) rfl ⟨rfl,(HB3.out.setCell (ain _) _).setCell (ain _) _⟩
theorem abp (s:ByteArray) (w:World) (hs:s.size≤2097152) (hng:ge s=false) (hne:0<s.size) (h1:spO s=false) (h2:0<spK s) (h3:spK s=s.size)
  (T B:Int) (hT:T=spT s) (hB:B=spB s) (good:Bool) (hgood:(aW T B==s.data.toList)=good):
  Calls Tryz.prog 134 #[.string s] w fun e w'=>e=fr (if good=true then T else 0) (if good=true then B else 0) good∧Below w.heap.size w w':=by
 have b45:((s[0].toNat:Int)==45)=false:=(iA s hng).2 hne
 have e0:s.toList.isEmpty=false:=by
  rw [ByteArray.toList_eq]
  cases hc:s.data.toList with
  |nil=>have:=congrArg List.length hc;rw [Array.length_toList] at this;simp only [List.length_nil] at this;have h':s.size=0:=this;omega
  |cons x l=>rfl
 have e1:(s.toList==[])=false:=by cases hc:s.toList with
  |nil=>rw [hc] at e0;cases e0
  |cons x l=>rfl
 have hsz:s.size≤2097152:=hs;clear hng;have CD:=aim (fun w'=>bN s w' hsz);obtain ⟨o1,o2⟩:=jZ (bM s.data.toList) (bq s.data.toList) (br s.data.toList);have hO:spO s=gd (bM s.data.toList) (bq s.data.toList) (br s.data.toList):=rfl;obtain ⟨q1,q2⟩:=gD _ _ _ (hO.symm.trans h1);rw [←hO,h1,q1,q2] at CD;clear o1 o2 q1 q2 hO;have hvb:=gB s;have hvb1:=gC s;have hkl:=gT s;have C0:=aim (fun w'=>pR s w' hsz)
 have hT2:T=((bE s 0 (spK s):Nat):Int):=by rw [hT,spT,h1,if_neg (by simp),if_pos ⟨h2,h3⟩]
 have hB2:B=1:=by rw [hB,spB,h1,if_neg (by simp),if_pos ⟨h2,h3⟩]
 subst hB2;clear hT hB;clear h1;generalize hv0:bE s 0 (spK s)=v0 at*;generalize hk:spK s=k at*;clear hv0 hk hvb1;subst hT2;have g0:decide (0<k)=true:=decide_eq_true h2;have g1:(((k:Nat):Int)==((s.size:Nat):Int))=true:=beq_iff_eq.mpr (by omega);have g2:decide (k<s.size)=false:=decide_eq_false (by omega);have g3:(k==s.size)=true:=beq_iff_eq.mpr h3;clear h3;have HEQ:=aim (eqL (aW (v0:Int) 1) s);rw [hgood] at HEQ;have CT:=aim (fun w'=>aX (v0:Int) 1 w');clear hgood;generalize (⟨(aW (v0:Int) 1).toArray⟩:ByteArray)=Z at*;have hEE:(Z.toList==s.toList)=good:=HEQ.out
 cases good
 all_goals
  go_enter Tryz.func134,Tryz.ntmps134
  go_wp2_with fail;refine (CD.out _).mono ?_;rintro e w1 ⟨rfl,hb1⟩;have Z1:=aim ((ZeroF.new w 165).keep hb1);have hN:w.heap.size<w1.heap.size:=Z1.out.2.2.2.2
  have hN1:w.heap.size≠w1.heap.size:=by omega
  have HB1:=aim (((Below.refl _ w).alloc (ain _) _).trans (hb1.mono (by simp)));clear hb1;go_wp2_with fail;refine (C0.out _).mono ?_;rintro e w' ⟨rfl,rfl⟩;go_wp2_with fail;refine (CT.out _).mono ?_;rintro e w3 ⟨rfl,hb3⟩;have Z3:=aim ((Z1.out.al _).keep hb3);have F3:=aim (FrAt.keep (FrAt.new _ _ _ _) hb3);have HB3:=aim ((HB1.out.alloc HB1.out.size _).trans (hb3.mono (by have:=HB1.out.size;simp;omega)));clear hb3;obtain ⟨u0,u1,u2,u3,u4⟩:=Z3.out;obtain ⟨d0,d1⟩:=F3.out;go_wp2;exact bodyPost_ret (v:= .tuple #[.agg #[.int .i64 _, .int .i64 _], .bool _]) (by simp [results,Tryz.results134,go_sem,u0,u1]) rfl ⟨rfl,(HB3.out.setCell (ain _) _).setCell (ain _) _⟩
theorem abq (s:ByteArray) (w:World) (hs:s.size≤2097152) (hng:ge s=false) (hne:0<s.size) (h1:spO s=false) (h2:0<spK s) (h3:spK s<s.size) (h4: ∀(hz:spK s<s.size),(s[spK s].toNat:Int)≠47)
  (T B:Int) (hT:T=spT s) (hB:B=spB s) (good:Bool) (hgood:(aW T B==s.data.toList)=good):
  Calls Tryz.prog 134 #[.string s] w fun e w'=>e=fr (if good=true then T else 0) (if good=true then B else 0) good∧Below w.heap.size w w':=by
 have b45:((s[0].toNat:Int)==45)=false:=(iA s hng).2 hne
 have e0:s.toList.isEmpty=false:=by
  rw [ByteArray.toList_eq]
  cases hc:s.data.toList with
  |nil=>have:=congrArg List.length hc;rw [Array.length_toList] at this;simp only [List.length_nil] at this;have h':s.size=0:=this;omega
  |cons x l=>rfl
 have e1:(s.toList==[])=false:=by cases hc:s.toList with
  |nil=>rw [hc] at e0;cases e0
  |cons x l=>rfl
 have hsz:s.size≤2097152:=hs;clear hng;have CD:=aim (fun w'=>bN s w' hsz);obtain ⟨o1,o2⟩:=jZ (bM s.data.toList) (bq s.data.toList) (br s.data.toList);have hO:spO s=gd (bM s.data.toList) (bq s.data.toList) (br s.data.toList):=rfl;obtain ⟨q1,q2⟩:=gD _ _ _ (hO.symm.trans h1);rw [←hO,h1,q1,q2] at CD;clear o1 o2 q1 q2 hO;have hvb:=gB s;have hvb1:=gC s;have hkl:=gT s;have C0:=aim (fun w'=>pR s w' hsz)
 have hgo:je s=false:=by
  have e:s.data.toList[spK s]? =some s[spK s]:=by rw [List.getElem?_eq_getElem (by rw [Array.length_toList];exact h3)];rfl
  simp only [je,s6,e]
  have:(some s[spK s]==some (47:UInt8))=false:=by
   rw [beq_eq_false_iff_ne];intro hh;apply h4 h3;rw [Option.some.inj hh];rfl
  rw [this];simp
 have hT2:T=0:=by rw [hT,spT,h1,hgo,if_neg (by simp),if_neg (by intro h;omega),if_neg (by simp)]
 have hB2:B=0:=by rw [hB,spB,h1,hgo,if_neg (by simp),if_neg (by intro h;omega),if_neg (by simp)]
 subst hT2 hB2;clear hT hB hgo;have f47:((s[spK s].toNat:Int)==47)=false:=beq_eq_false_iff_ne.mpr (h4 h3);clear h4;clear h1;generalize hv0:bE s 0 (spK s)=v0 at*;generalize hk:spK s=k at*;clear hv0 hk hvb1;have g0:decide (0<k)=true:=decide_eq_true h2;have g1:(((k:Nat):Int)==((s.size:Nat):Int))=false:=beq_eq_false_iff_ne.mpr (by omega);have g2:decide (k<s.size)=true:=decide_eq_true h3;have g3:(k==s.size)=false:=beq_eq_false_iff_ne.mpr (by omega);have HEQ:=aim (eqL (aW 0 0) s);rw [hgood] at HEQ;have CT:=aim (fun w'=>aX 0 0 w');clear hgood;generalize (⟨(aW 0 0).toArray⟩:ByteArray)=Z at*;have hEE:(Z.toList==s.toList)=good:=HEQ.out
 cases good
 all_goals
  go_enter Tryz.func134,Tryz.ntmps134
  go_wp2_with fail;refine (CD.out _).mono ?_;rintro e w1 ⟨rfl,hb1⟩;have Z1:=aim ((ZeroF.new w 165).keep hb1);have hN:w.heap.size<w1.heap.size:=Z1.out.2.2.2.2
  have hN1:w.heap.size≠w1.heap.size:=by omega
  have HB1:=aim (((Below.refl _ w).alloc (ain _) _).trans (hb1.mono (by simp)));clear hb1;go_wp2_with fail;refine (C0.out _).mono ?_;rintro e w' ⟨rfl,rfl⟩;go_wp2_with fail;refine (CT.out _).mono ?_;rintro e w3 ⟨rfl,hb3⟩;have Z3:=aim ((Z1.out.al _).keep hb3);have F3:=aim (FrAt.keep (FrAt.new _ _ _ _) hb3);have HB3:=aim ((HB1.out.alloc HB1.out.size _).trans (hb3.mono (by have:=HB1.out.size;simp;omega)));clear hb3;obtain ⟨u0,u1,u2,u3,u4⟩:=Z3.out;obtain ⟨d0,d1⟩:=F3.out;go_wp2;exact bodyPost_ret (v:= .tuple #[.agg #[.int .i64 _, .int .i64 _], .bool _]) (by simp [results,Tryz.results134,go_sem,u0,u1]) rfl ⟨rfl,(HB3.out.setCell (ain _) _).setCell (ain _) _⟩
theorem abr (s:ByteArray) (w:World) (hs:s.size≤2097152) (hng:ge s=false) (hne:0<s.size) (h1:spO s=false) (h2:0<spK s) (h3:spK s<s.size) (h4: ∀(hz:spK s<s.size),(s[spK s].toNat:Int)=47) (h5: ¬(spK s+1+spJ s=s.size∧0<bE s (spK s+1) (spJ s)))
  (T B:Int) (hT:T=spT s) (hB:B=spB s) (good:Bool) (hgood:(aW T B==s.data.toList)=good):
  Calls Tryz.prog 134 #[.string s] w fun e w'=>e=fr (if good=true then T else 0) (if good=true then B else 0) good∧Below w.heap.size w w':=by
 have b45:((s[0].toNat:Int)==45)=false:=(iA s hng).2 hne
 have e0:s.toList.isEmpty=false:=by
  rw [ByteArray.toList_eq]
  cases hc:s.data.toList with
  |nil=>have:=congrArg List.length hc;rw [Array.length_toList] at this;simp only [List.length_nil] at this;have h':s.size=0:=this;omega
  |cons x l=>rfl
 have e1:(s.toList==[])=false:=by cases hc:s.toList with
  |nil=>rw [hc] at e0;cases e0
  |cons x l=>rfl
 have hsz:s.size≤2097152:=hs;clear hng;have CD:=aim (fun w'=>bN s w' hsz);obtain ⟨o1,o2⟩:=jZ (bM s.data.toList) (bq s.data.toList) (br s.data.toList);have hO:spO s=gd (bM s.data.toList) (bq s.data.toList) (br s.data.toList):=rfl;obtain ⟨q1,q2⟩:=gD _ _ _ (hO.symm.trans h1);rw [←hO,h1,q1,q2] at CD;clear o1 o2 q1 q2 hO;have hvb:=gB s;have hvb1:=gC s;have hkl:=gT s;have C0:=aim (fun w'=>pR s w' hsz);have C1:=aim (fun w'=>afO s w' hsz (by omega))
 have hgo:je s=false:=by
  rw [Bool.eq_false_iff];intro hg;simp only [je,Bool.and_eq_true,decide_eq_true_eq] at hg;exact h5 ⟨hg.1.2,hg.2⟩
 have hT2:T=0:=by rw [hT,spT,h1,hgo,if_neg (by simp),if_neg (by intro h;omega),if_neg (by simp)]
 have hB2:B=0:=by rw [hB,spB,h1,hgo,if_neg (by simp),if_neg (by intro h;omega),if_neg (by simp)]
 subst hT2 hB2;clear hT hB hgo;have f47:((s[spK s].toNat:Int)==47)=true:=beq_iff_eq.mpr (h4 h3);clear h4;clear h1;generalize hv0:bE s 0 (spK s)=v0 at*;generalize hv1:bE s (spK s+1) (spJ s)=v1 at*;generalize hj:spJ s=j at*;generalize hk:spK s=k at*;generalize hm:k+1+j=m at*;clear hv0 hk hv1 hj hm;have g0:decide (0<k)=true:=decide_eq_true h2;have g1:(((k:Nat):Int)==((s.size:Nat):Int))=false:=beq_eq_false_iff_ne.mpr (by omega);have g2:decide (k<s.size)=true:=decide_eq_true h3;have g3:(k==s.size)=false:=beq_eq_false_iff_ne.mpr (by omega);have HEQ:=aim (eqL (aW 0 0) s);rw [hgood] at HEQ;have CT:=aim (fun w'=>aX 0 0 w');clear hgood;generalize (⟨(aW 0 0).toArray⟩:ByteArray)=Z at*;have hEE:(Z.toList==s.toList)=good:=HEQ.out
 cases good
 all_goals
  go_enter Tryz.func134,Tryz.ntmps134
  go_wp2_with fail;refine (CD.out _).mono ?_;rintro e w1 ⟨rfl,hb1⟩;have Z1:=aim ((ZeroF.new w 165).keep hb1);have hN:w.heap.size<w1.heap.size:=Z1.out.2.2.2.2
  have hN1:w.heap.size≠w1.heap.size:=by omega
  have HB1:=aim (((Below.refl _ w).alloc (ain _) _).trans (hb1.mono (by simp)));clear hb1;go_wp2_with fail;refine (C0.out _).mono ?_;rintro e w' ⟨rfl,rfl⟩;go_wp2_with fail;rw [show ((k:Int)+1)=((k+1:Nat):Int) by omega];refine (C1.out _).mono ?_;rintro e w' ⟨rfl,rfl⟩
  by_cases h6:m=s.size
  ·have g4:(((m:Nat):Int)==((s.size:Nat):Int))=true:=beq_iff_eq.mpr (by omega)
   have g7:(m==s.size)=true:=beq_iff_eq.mpr h6;have g5:decide (0<v1)=false:=decide_eq_false (fun h=>h5 ⟨h6,h⟩)
   have g6:v1=0:=by have:=of_decide_eq_false g5;omega
   clear h5 h6;subst g6;go_wp2_with fail;refine (CT.out _).mono ?_;rintro e w3 ⟨rfl,hb3⟩;have Z3:=aim ((Z1.out.al _).keep hb3);have F3:=aim (FrAt.keep (FrAt.new _ _ _ _) hb3);have HB3:=aim ((HB1.out.alloc HB1.out.size _).trans (hb3.mono (by have:=HB1.out.size;simp;omega)));clear hb3;obtain ⟨u0,u1,u2,u3,u4⟩:=Z3.out;obtain ⟨d0,d1⟩:=F3.out;go_wp2;exact bodyPost_ret (v:= .tuple #[.agg #[.int .i64 _, .int .i64 _], .bool _]) (by simp [results,Tryz.results134,go_sem,u0,u1]) rfl ⟨rfl,(HB3.out.setCell (ain _) _).setCell (ain _) _⟩
  ·have g4:(((m:Nat):Int)==((s.size:Nat):Int))=false:=beq_eq_false_iff_ne.mpr (by omega)
   have g7:(m==s.size)=false:=beq_eq_false_iff_ne.mpr h6;clear h5 h6;go_wp2_with fail;refine (CT.out _).mono ?_;rintro e w3 ⟨rfl,hb3⟩;have Z3:=aim ((Z1.out.al _).keep hb3);have F3:=aim (FrAt.keep (FrAt.new _ _ _ _) hb3);have HB3:=aim ((HB1.out.alloc HB1.out.size _).trans (hb3.mono (by have:=HB1.out.size;simp;omega)));clear hb3;obtain ⟨u0,u1,u2,u3,u4⟩:=Z3.out;obtain ⟨d0,d1⟩:=F3.out;go_wp2;exact bodyPost_ret (v:= .tuple #[.agg #[.int .i64 _, .int .i64 _], .bool _]) (by simp [results,Tryz.results134,go_sem,u0,u1]) rfl ⟨rfl,(HB3.out.setCell (ain _) _).setCell (ain _) _⟩
theorem abs (s:ByteArray) (w:World) (hs:s.size≤2097152) (hng:ge s=false) (hne:0<s.size) (h1:spO s=false) (h2:0<spK s) (h3:spK s<s.size) (h4: ∀(hz:spK s<s.size),(s[spK s].toNat:Int)=47) (h5:spK s+1+spJ s=s.size) (h6:0<bE s (spK s+1) (spJ s))
  (T B:Int) (hT:T=spT s) (hB:B=spB s) (good:Bool) (hgood:(aW T B==s.data.toList)=good):
  Calls Tryz.prog 134 #[.string s] w fun e w'=>e=fr (if good=true then T else 0) (if good=true then B else 0) good∧Below w.heap.size w w':=by
 have b45:((s[0].toNat:Int)==45)=false:=(iA s hng).2 hne
 have e0:s.toList.isEmpty=false:=by
  rw [ByteArray.toList_eq]
  cases hc:s.data.toList with
  |nil=>have:=congrArg List.length hc;rw [Array.length_toList] at this;simp only [List.length_nil] at this;have h':s.size=0:=this;omega
  |cons x l=>rfl
 have e1:(s.toList==[])=false:=by cases hc:s.toList with
  |nil=>rw [hc] at e0;cases e0
  |cons x l=>rfl
 have hsz:s.size≤2097152:=hs;clear hng;have CD:=aim (fun w'=>bN s w' hsz);obtain ⟨o1,o2⟩:=jZ (bM s.data.toList) (bq s.data.toList) (br s.data.toList);have hO:spO s=gd (bM s.data.toList) (bq s.data.toList) (br s.data.toList):=rfl;obtain ⟨q1,q2⟩:=gD _ _ _ (hO.symm.trans h1);rw [←hO,h1,q1,q2] at CD;clear o1 o2 q1 q2 hO;have hvb:=gB s;have hvb1:=gC s;have hkl:=gT s;have C0:=aim (fun w'=>pR s w' hsz);have C1:=aim (fun w'=>afO s w' hsz (by omega))
 have e47:s.data.toList[spK s]? =some 47:=by
  rw [List.getElem?_eq_getElem (by rw [Array.length_toList];exact h3)]
  congr 1
  exact UInt8.toNat_inj.mp (by have:=h4 h3;show s[spK s].toNat=47;omega)
 have hgo:je s=true:=by simp only [je,s6,e47,decide_eq_true h2,decide_eq_true h3,decide_eq_true h5,decide_eq_true h6];rfl
 have hT2:T=((bE s 0 (spK s):Nat):Int):=by rw [hT,spT,h1,hgo,if_neg (by simp),if_neg (by intro h;omega),if_pos rfl]
 have hB2:B=((bE s (spK s+1) (spJ s):Nat):Int):=by rw [hB,spB,h1,hgo,if_neg (by simp),if_neg (by intro h;omega),if_pos rfl]
 clear hT hB hgo e47;have f47:((s[spK s].toNat:Int)==47)=true:=beq_iff_eq.mpr (h4 h3);clear h4;clear h1;generalize hv0:bE s 0 (spK s)=v0 at*;generalize hv1:bE s (spK s+1) (spJ s)=v1 at*;generalize hj:spJ s=j at*;generalize hk:spK s=k at*;generalize hm:k+1+j=m at*;clear hv0 hk hv1 hj hm;subst hT2 hB2;have g0:decide (0<k)=true:=decide_eq_true h2;have g1:(((k:Nat):Int)==((s.size:Nat):Int))=false:=beq_eq_false_iff_ne.mpr (by omega);have g2:decide (k<s.size)=true:=decide_eq_true h3;have g3:(k==s.size)=false:=beq_eq_false_iff_ne.mpr (by omega);have g4:(((m:Nat):Int)==((s.size:Nat):Int))=true:=beq_iff_eq.mpr (by omega);have g6:(m==s.size)=true:=beq_iff_eq.mpr h5;have g5:decide (0<v1)=true:=decide_eq_true h6;clear h5;have HEQ:=aim (eqL (aW (v0:Int) (v1:Int)) s);rw [hgood] at HEQ;have CT:=aim (fun w'=>aX (v0:Int) (v1:Int) w');clear hgood;generalize (⟨(aW (v0:Int) (v1:Int)).toArray⟩:ByteArray)=Z at*;have hEE:(Z.toList==s.toList)=good:=HEQ.out
 cases good
 all_goals
  go_enter Tryz.func134,Tryz.ntmps134
  go_wp2_with fail;refine (CD.out _).mono ?_;rintro e w1 ⟨rfl,hb1⟩;have Z1:=aim ((ZeroF.new w 165).keep hb1);have hN:w.heap.size<w1.heap.size:=Z1.out.2.2.2.2
  have hN1:w.heap.size≠w1.heap.size:=by omega
  have HB1:=aim (((Below.refl _ w).alloc (ain _) _).trans (hb1.mono (by simp)));clear hb1;go_wp2_with fail;refine (C0.out _).mono ?_;rintro e w' ⟨rfl,rfl⟩;go_wp2_with fail;rw [show ((k:Int)+1)=((k+1:Nat):Int) by omega];refine (C1.out _).mono ?_;rintro e w' ⟨rfl,rfl⟩;go_wp2_with fail;refine (CT.out _).mono ?_;rintro e w3 ⟨rfl,hb3⟩;have Z3:=aim ((Z1.out.al _).keep hb3);have F3:=aim (FrAt.keep (FrAt.new _ _ _ _) hb3);have HB3:=aim ((HB1.out.alloc HB1.out.size _).trans (hb3.mono (by have:=HB1.out.size;simp;omega)));clear hb3;obtain ⟨u0,u1,u2,u3,u4⟩:=Z3.out;obtain ⟨d0,d1⟩:=F3.out;go_wp2;exact bodyPost_ret (v:= .tuple #[.agg #[.int .i64 _, .int .i64 _], .bool _]) (by simp [results,Tryz.results134,go_sem,u0,u1]) rfl ⟨rfl,(HB3.out.setCell (ain _) _).setCell (ain _) _⟩
theorem abt (s:ByteArray) (w:World) (hs:s.size≤2097152) (hng:ge s=true) (h1:spO (ar s)=true)
  (T B:Int) (hT:T=spT (ar s)) (hB:B=spB (ar s)) (good:Bool) (hgood:(aW (-T) B==s.data.toList)=good):
  Calls Tryz.prog 134 #[.string s] w fun e w'=>e=fr (if good=true then (-T) else 0) (if good=true then B else 0) good∧Below w.heap.size w w':=by
 obtain ⟨hne,hbx,h45⟩:=ji s hng;have HBX:=aim hbx;have b45:((s[0].toNat:Int)==45)=true:=beq_iff_eq.mpr (h45 hne)
 have e0:s.toList.isEmpty=false:=by
  rw [ByteArray.toList_eq]
  cases hc:s.data.toList with
  |nil=>have:=congrArg List.length hc;rw [Array.length_toList] at this;simp only [List.length_nil] at this;have h':s.size=0:=this;omega
  |cons x l=>rfl
 have e1:(s.toList==[])=false:=by cases hc:s.toList with
  |nil=>rw [hc] at e0;cases e0
  |cons x l=>rfl
 have hsz:(ar s).size≤2097152:=by have:=iu s;omega
 clear hng hbx h45;generalize hXX:ar s=X at*;clear hXX;have CD:=aim (fun w'=>bN X w' hsz);obtain ⟨o1,o2⟩:=jZ (bM X.data.toList) (bq X.data.toList) (br X.data.toList);have hO:spO X=gd (bM X.data.toList) (bq X.data.toList) (br X.data.toList):=rfl
 have hT2:T=opT (bM X.data.toList) (bq X.data.toList) (br X.data.toList):=by rw [hT,spT,if_pos h1]
 have hB2:B=opB (bM X.data.toList) (bq X.data.toList) (br X.data.toList):=by rw [hB,spB,if_pos h1]
 rw [←hO,h1,←hT2,←hB2] at CD;rw [←hT2] at o1 o2;clear hO hT hB hT2 hB2 h1;have HEQ:=aim (eqL (aW (-T) B) s);rw [hgood] at HEQ;have CT:=aim (fun w'=>aX (-T) B w');clear hgood;generalize (⟨(aW (-T) B).toArray⟩:ByteArray)=Z at*;have hEE:(Z.toList==s.toList)=good:=HEQ.out
 cases good
 all_goals
  go_enter Tryz.func134,Tryz.ntmps134
  go_wp2_with fail;rw [HBX.out];refine (CD.out _).mono ?_;rintro e w1 ⟨rfl,hb1⟩;have Z1:=aim ((ZeroF.new w 165).keep hb1);have hN:w.heap.size<w1.heap.size:=Z1.out.2.2.2.2
  have hN1:w.heap.size≠w1.heap.size:=by omega
  have HB1:=aim (((Below.refl _ w).alloc (ain _) _).trans (hb1.mono (by simp)));clear hb1;go_wp2_with fail;refine (CT.out _).mono ?_;rintro e w3 ⟨rfl,hb3⟩;have Z3:=aim ((Z1.out.al _).keep hb3);have F3:=aim (FrAt.keep (FrAt.new _ _ _ _) hb3);have HB3:=aim ((HB1.out.alloc HB1.out.size _).trans (hb3.mono (by have:=HB1.out.size;simp;omega)));clear hb3;obtain ⟨u0,u1,u2,u3,u4⟩:=Z3.out;obtain ⟨d0,d1⟩:=F3.out;go_wp2;exact bodyPost_ret (v:= .tuple #[.agg #[.int .i64 _, .int .i64 _], .bool _]) (by simp [results,Tryz.results134,go_sem,u0,u1]) rfl ⟨rfl,(HB3.out.setCell (ain _) _).setCell (ain _) _⟩
theorem abu (s:ByteArray) (w:World) (hs:s.size≤2097152) (hng:ge s=true) (h1:spO (ar s)=false) (h2:spK (ar s)=0)
  (T B:Int) (hT:T=spT (ar s)) (hB:B=spB (ar s)) (good:Bool) (hgood:(aW (-T) B==s.data.toList)=good):
  Calls Tryz.prog 134 #[.string s] w fun e w'=>e=fr (if good=true then (-T) else 0) (if good=true then B else 0) good∧Below w.heap.size w w':=by
 obtain ⟨hne,hbx,h45⟩:=ji s hng;have HBX:=aim hbx;have b45:((s[0].toNat:Int)==45)=true:=beq_iff_eq.mpr (h45 hne)
 have e0:s.toList.isEmpty=false:=by
  rw [ByteArray.toList_eq]
  cases hc:s.data.toList with
  |nil=>have:=congrArg List.length hc;rw [Array.length_toList] at this;simp only [List.length_nil] at this;have h':s.size=0:=this;omega
  |cons x l=>rfl
 have e1:(s.toList==[])=false:=by cases hc:s.toList with
  |nil=>rw [hc] at e0;cases e0
  |cons x l=>rfl
 have hsz:(ar s).size≤2097152:=by have:=iu s;omega
 clear hng hbx h45;generalize hXX:ar s=X at*;clear hXX;have CD:=aim (fun w'=>bN X w' hsz);obtain ⟨o1,o2⟩:=jZ (bM X.data.toList) (bq X.data.toList) (br X.data.toList);have hO:spO X=gd (bM X.data.toList) (bq X.data.toList) (br X.data.toList):=rfl;obtain ⟨q1,q2⟩:=gD _ _ _ (hO.symm.trans h1);rw [←hO,h1,q1,q2] at CD;clear o1 o2 q1 q2 hO;have hvb:=gB X;have hvb1:=gC X;have hkl:=gT X;have C0:=aim (fun w'=>pR X w' hsz)
 have hgo:je X=false:=by simp [je,s6,h2]
 have hT2:T=0:=by rw [hT,spT,h1,hgo,if_neg (by simp),if_neg (by intro h;omega),if_neg (by simp)]
 have hB2:B=0:=by rw [hB,spB,h1,hgo,if_neg (by simp),if_neg (by intro h;omega),if_neg (by simp)]
 subst hT2 hB2;clear hT hB hgo;clear h1;generalize hv0:bE X 0 (spK X)=v0 at*;generalize hk:spK X=k at*;clear hv0 hk hvb1;subst h2;have HEQ:=aim (eqL (aW (-0) 0) s);rw [hgood] at HEQ;have CT:=aim (fun w'=>aX (-0) 0 w');rw [show (-0:Int)=0 from rfl] at HEQ CT;rw [show (-0:Int)=0 from rfl];clear hgood;generalize (⟨(aW 0 0).toArray⟩:ByteArray)=Z at*;have hEE:(Z.toList==s.toList)=good:=HEQ.out
 cases good
 all_goals
  go_enter Tryz.func134,Tryz.ntmps134
  go_wp2_with fail;rw [HBX.out];refine (CD.out _).mono ?_;rintro e w1 ⟨rfl,hb1⟩;have Z1:=aim ((ZeroF.new w 165).keep hb1);have hN:w.heap.size<w1.heap.size:=Z1.out.2.2.2.2
  have hN1:w.heap.size≠w1.heap.size:=by omega
  have HB1:=aim (((Below.refl _ w).alloc (ain _) _).trans (hb1.mono (by simp)));clear hb1;go_wp2_with fail;refine (C0.out _).mono ?_;rintro e w' ⟨rfl,rfl⟩;go_wp2_with fail;refine (CT.out _).mono ?_;rintro e w3 ⟨rfl,hb3⟩;have Z3:=aim ((Z1.out.al _).keep hb3);have F3:=aim (FrAt.keep (FrAt.new _ _ _ _) hb3);have HB3:=aim ((HB1.out.alloc HB1.out.size _).trans (hb3.mono (by have:=HB1.out.size;simp;omega)));clear hb3;obtain ⟨u0,u1,u2,u3,u4⟩:=Z3.out;obtain ⟨d0,d1⟩:=F3.out;go_wp2;exact bodyPost_ret (v:= .tuple #[.agg #[.int .i64 _, .int .i64 _], .bool _]) (by simp [results,Tryz.results134,go_sem,u0,u1]) rfl ⟨rfl,(HB3.out.setCell (ain _) _).setCell (ain _) _⟩
theorem abv (s:ByteArray) (w:World) (hs:s.size≤2097152) (hng:ge s=true) (h1:spO (ar s)=false) (h2:0<spK (ar s)) (h3:spK (ar s)=(ar s).size)
  (T B:Int) (hT:T=spT (ar s)) (hB:B=spB (ar s)) (good:Bool) (hgood:(aW (-T) B==s.data.toList)=good):
  Calls Tryz.prog 134 #[.string s] w fun e w'=>e=fr (if good=true then (-T) else 0) (if good=true then B else 0) good∧Below w.heap.size w w':=by
 obtain ⟨hne,hbx,h45⟩:=ji s hng;have HBX:=aim hbx;have b45:((s[0].toNat:Int)==45)=true:=beq_iff_eq.mpr (h45 hne)
 have e0:s.toList.isEmpty=false:=by
  rw [ByteArray.toList_eq]
  cases hc:s.data.toList with
  |nil=>have:=congrArg List.length hc;rw [Array.length_toList] at this;simp only [List.length_nil] at this;have h':s.size=0:=this;omega
  |cons x l=>rfl
 have e1:(s.toList==[])=false:=by cases hc:s.toList with
  |nil=>rw [hc] at e0;cases e0
  |cons x l=>rfl
 have hsz:(ar s).size≤2097152:=by have:=iu s;omega
 clear hng hbx h45;generalize hXX:ar s=X at*;clear hXX;have CD:=aim (fun w'=>bN X w' hsz);obtain ⟨o1,o2⟩:=jZ (bM X.data.toList) (bq X.data.toList) (br X.data.toList);have hO:spO X=gd (bM X.data.toList) (bq X.data.toList) (br X.data.toList):=rfl;obtain ⟨q1,q2⟩:=gD _ _ _ (hO.symm.trans h1);rw [←hO,h1,q1,q2] at CD;clear o1 o2 q1 q2 hO;have hvb:=gB X;have hvb1:=gC X;have hkl:=gT X;have C0:=aim (fun w'=>pR X w' hsz)
 have hT2:T=((bE X 0 (spK X):Nat):Int):=by rw [hT,spT,h1,if_neg (by simp),if_pos ⟨h2,h3⟩]
 have hB2:B=1:=by rw [hB,spB,h1,if_neg (by simp),if_pos ⟨h2,h3⟩]
 subst hB2;clear hT hB;clear h1;generalize hv0:bE X 0 (spK X)=v0 at*;generalize hk:spK X=k at*;clear hv0 hk hvb1;subst hT2;have g0:decide (0<k)=true:=decide_eq_true h2;have g1:(((k:Nat):Int)==((X.size:Nat):Int))=true:=beq_iff_eq.mpr (by omega);have g2:decide (k<X.size)=false:=decide_eq_false (by omega);have g3:(k==X.size)=true:=beq_iff_eq.mpr h3;clear h3;have HEQ:=aim (eqL (aW (-(v0:Int)) 1) s);rw [hgood] at HEQ;have CT:=aim (fun w'=>aX (-(v0:Int)) 1 w');clear hgood;generalize (⟨(aW (-(v0:Int)) 1).toArray⟩:ByteArray)=Z at*;have hEE:(Z.toList==s.toList)=good:=HEQ.out
 cases good
 all_goals
  go_enter Tryz.func134,Tryz.ntmps134
  go_wp2_with fail;rw [HBX.out];refine (CD.out _).mono ?_;rintro e w1 ⟨rfl,hb1⟩;have Z1:=aim ((ZeroF.new w 165).keep hb1);have hN:w.heap.size<w1.heap.size:=Z1.out.2.2.2.2
  have hN1:w.heap.size≠w1.heap.size:=by omega
  have HB1:=aim (((Below.refl _ w).alloc (ain _) _).trans (hb1.mono (by simp)));clear hb1;go_wp2_with fail;refine (C0.out _).mono ?_;rintro e w' ⟨rfl,rfl⟩;go_wp2_with fail;refine (CT.out _).mono ?_;rintro e w3 ⟨rfl,hb3⟩;have Z3:=aim ((Z1.out.al _).keep hb3);have F3:=aim (FrAt.keep (FrAt.new _ _ _ _) hb3);have HB3:=aim ((HB1.out.alloc HB1.out.size _).trans (hb3.mono (by have:=HB1.out.size;simp;omega)));clear hb3;obtain ⟨u0,u1,u2,u3,u4⟩:=Z3.out;obtain ⟨d0,d1⟩:=F3.out;go_wp2;exact bodyPost_ret (v:= .tuple #[.agg #[.int .i64 _, .int .i64 _], .bool _]) (by simp [results,Tryz.results134,go_sem,u0,u1]) rfl ⟨rfl,(HB3.out.setCell (ain _) _).setCell (ain _) _⟩
theorem abw (s:ByteArray) (w:World) (hs:s.size≤2097152) (hng:ge s=true) (h1:spO (ar s)=false) (h2:0<spK (ar s)) (h3:spK (ar s)<(ar s).size) (h4: ∀(hz:spK (ar s)<(ar s).size),((ar s)[spK (ar s)].toNat:Int)≠47)
  (T B:Int) (hT:T=spT (ar s)) (hB:B=spB (ar s)) (good:Bool) (hgood:(aW (-T) B==s.data.toList)=good):
  Calls Tryz.prog 134 #[.string s] w fun e w'=>e=fr (if good=true then (-T) else 0) (if good=true then B else 0) good∧Below w.heap.size w w':=by
 obtain ⟨hne,hbx,h45⟩:=ji s hng;have HBX:=aim hbx;have b45:((s[0].toNat:Int)==45)=true:=beq_iff_eq.mpr (h45 hne)
 have e0:s.toList.isEmpty=false:=by
  rw [ByteArray.toList_eq]
  cases hc:s.data.toList with
  |nil=>have:=congrArg List.length hc;rw [Array.length_toList] at this;simp only [List.length_nil] at this;have h':s.size=0:=this;omega
  |cons x l=>rfl
 have e1:(s.toList==[])=false:=by cases hc:s.toList with
  |nil=>rw [hc] at e0;cases e0
  |cons x l=>rfl
 have hsz:(ar s).size≤2097152:=by have:=iu s;omega
 clear hng hbx h45;generalize hXX:ar s=X at*;clear hXX;have CD:=aim (fun w'=>bN X w' hsz);obtain ⟨o1,o2⟩:=jZ (bM X.data.toList) (bq X.data.toList) (br X.data.toList);have hO:spO X=gd (bM X.data.toList) (bq X.data.toList) (br X.data.toList):=rfl;obtain ⟨q1,q2⟩:=gD _ _ _ (hO.symm.trans h1);rw [←hO,h1,q1,q2] at CD;clear o1 o2 q1 q2 hO;have hvb:=gB X;have hvb1:=gC X;have hkl:=gT X;have C0:=aim (fun w'=>pR X w' hsz)
 have hgo:je X=false:=by
  have e:X.data.toList[spK X]? =some X[spK X]:=by rw [List.getElem?_eq_getElem (by rw [Array.length_toList];exact h3)];rfl
  simp only [je,s6,e]
  have:(some X[spK X]==some (47:UInt8))=false:=by
   rw [beq_eq_false_iff_ne];intro hh;apply h4 h3;rw [Option.some.inj hh];rfl
  rw [this];simp
 have hT2:T=0:=by rw [hT,spT,h1,hgo,if_neg (by simp),if_neg (by intro h;omega),if_neg (by simp)]
 have hB2:B=0:=by rw [hB,spB,h1,hgo,if_neg (by simp),if_neg (by intro h;omega),if_neg (by simp)]
 subst hT2 hB2;clear hT hB hgo;have f47:((X[spK X].toNat:Int)==47)=false:=beq_eq_false_iff_ne.mpr (h4 h3);clear h4;clear h1;generalize hv0:bE X 0 (spK X)=v0 at*;generalize hk:spK X=k at*;clear hv0 hk hvb1;have g0:decide (0<k)=true:=decide_eq_true h2;have g1:(((k:Nat):Int)==((X.size:Nat):Int))=false:=beq_eq_false_iff_ne.mpr (by omega);have g2:decide (k<X.size)=true:=decide_eq_true h3;have g3:(k==X.size)=false:=beq_eq_false_iff_ne.mpr (by omega);have HEQ:=aim (eqL (aW (-0) 0) s);rw [hgood] at HEQ;have CT:=aim (fun w'=>aX (-0) 0 w');rw [show (-0:Int)=0 from rfl] at HEQ CT;rw [show (-0:Int)=0 from rfl];clear hgood;generalize (⟨(aW 0 0).toArray⟩:ByteArray)=Z at*;have hEE:(Z.toList==s.toList)=good:=HEQ.out
 cases good
 all_goals
  go_enter Tryz.func134,Tryz.ntmps134
  go_wp2_with fail;rw [HBX.out];refine (CD.out _).mono ?_;rintro e w1 ⟨rfl,hb1⟩;have Z1:=aim ((ZeroF.new w 165).keep hb1);have hN:w.heap.size<w1.heap.size:=Z1.out.2.2.2.2
  have hN1:w.heap.size≠w1.heap.size:=by omega
  have HB1:=aim (((Below.refl _ w).alloc (ain _) _).trans (hb1.mono (by simp)));clear hb1;go_wp2_with fail;refine (C0.out _).mono ?_;rintro e w' ⟨rfl,rfl⟩;go_wp2_with fail;refine (CT.out _).mono ?_;rintro e w3 ⟨rfl,hb3⟩;have Z3:=aim ((Z1.out.al _).keep hb3);have F3:=aim (FrAt.keep (FrAt.new _ _ _ _) hb3);have HB3:=aim ((HB1.out.alloc HB1.out.size _).trans (hb3.mono (by have:=HB1.out.size;simp;omega)));clear hb3;obtain ⟨u0,u1,u2,u3,u4⟩:=Z3.out;obtain ⟨d0,d1⟩:=F3.out;go_wp2;exact bodyPost_ret (v:= .tuple #[.agg #[.int .i64 _, .int .i64 _], .bool _]) (by simp [results,Tryz.results134,go_sem,u0,u1]) rfl ⟨rfl,(HB3.out.setCell (ain _) _).setCell (ain _) _⟩
theorem abx (s:ByteArray) (w:World) (hs:s.size≤2097152) (hng:ge s=true) (h1:spO (ar s)=false) (h2:0<spK (ar s)) (h3:spK (ar s)<(ar s).size) (h4: ∀(hz:spK (ar s)<(ar s).size),((ar s)[spK (ar s)].toNat:Int)=47) (h5: ¬(spK (ar s)+1+spJ (ar s)=(ar s).size∧0<bE (ar s) (spK (ar s)+1) (spJ (ar s))))
  (T B:Int) (hT:T=spT (ar s)) (hB:B=spB (ar s)) (good:Bool) (hgood:(aW (-T) B==s.data.toList)=good):
  Calls Tryz.prog 134 #[.string s] w fun e w'=>e=fr (if good=true then (-T) else 0) (if good=true then B else 0) good∧Below w.heap.size w w':=by
 obtain ⟨hne,hbx,h45⟩:=ji s hng;have HBX:=aim hbx;have b45:((s[0].toNat:Int)==45)=true:=beq_iff_eq.mpr (h45 hne)
 have e0:s.toList.isEmpty=false:=by
  rw [ByteArray.toList_eq]
  cases hc:s.data.toList with
  |nil=>have:=congrArg List.length hc;rw [Array.length_toList] at this;simp only [List.length_nil] at this;have h':s.size=0:=this;omega
  |cons x l=>rfl
 have e1:(s.toList==[])=false:=by cases hc:s.toList with
  |nil=>rw [hc] at e0;cases e0
  |cons x l=>rfl
 have hsz:(ar s).size≤2097152:=by have:=iu s;omega
 clear hng hbx h45;generalize hXX:ar s=X at*;clear hXX;have CD:=aim (fun w'=>bN X w' hsz);obtain ⟨o1,o2⟩:=jZ (bM X.data.toList) (bq X.data.toList) (br X.data.toList);have hO:spO X=gd (bM X.data.toList) (bq X.data.toList) (br X.data.toList):=rfl;obtain ⟨q1,q2⟩:=gD _ _ _ (hO.symm.trans h1);rw [←hO,h1,q1,q2] at CD;clear o1 o2 q1 q2 hO;have hvb:=gB X;have hvb1:=gC X;have hkl:=gT X;have C0:=aim (fun w'=>pR X w' hsz);have C1:=aim (fun w'=>afO X w' hsz (by omega))
 have hgo:je X=false:=by
  rw [Bool.eq_false_iff];intro hg;simp only [je,Bool.and_eq_true,decide_eq_true_eq] at hg;exact h5 ⟨hg.1.2,hg.2⟩
 have hT2:T=0:=by rw [hT,spT,h1,hgo,if_neg (by simp),if_neg (by intro h;omega),if_neg (by simp)]
 have hB2:B=0:=by rw [hB,spB,h1,hgo,if_neg (by simp),if_neg (by intro h;omega),if_neg (by simp)]
 subst hT2 hB2;clear hT hB hgo;have f47:((X[spK X].toNat:Int)==47)=true:=beq_iff_eq.mpr (h4 h3);clear h4;clear h1;generalize hv0:bE X 0 (spK X)=v0 at*;generalize hv1:bE X (spK X+1) (spJ X)=v1 at*;generalize hj:spJ X=j at*;generalize hk:spK X=k at*;generalize hm:k+1+j=m at*;clear hv0 hk hv1 hj hm;have g0:decide (0<k)=true:=decide_eq_true h2;have g1:(((k:Nat):Int)==((X.size:Nat):Int))=false:=beq_eq_false_iff_ne.mpr (by omega);have g2:decide (k<X.size)=true:=decide_eq_true h3;have g3:(k==X.size)=false:=beq_eq_false_iff_ne.mpr (by omega);have HEQ:=aim (eqL (aW (-0) 0) s);rw [hgood] at HEQ;have CT:=aim (fun w'=>aX (-0) 0 w');rw [show (-0:Int)=0 from rfl] at HEQ CT;rw [show (-0:Int)=0 from rfl];clear hgood;generalize (⟨(aW 0 0).toArray⟩:ByteArray)=Z at*;have hEE:(Z.toList==s.toList)=good:=HEQ.out
 cases good
 all_goals
  go_enter Tryz.func134,Tryz.ntmps134
  go_wp2_with fail;rw [HBX.out];refine (CD.out _).mono ?_;rintro e w1 ⟨rfl,hb1⟩;have Z1:=aim ((ZeroF.new w 165).keep hb1);have hN:w.heap.size<w1.heap.size:=Z1.out.2.2.2.2
  have hN1:w.heap.size≠w1.heap.size:=by omega
  have HB1:=aim (((Below.refl _ w).alloc (ain _) _).trans (hb1.mono (by simp)));clear hb1;go_wp2_with fail;refine (C0.out _).mono ?_;rintro e w' ⟨rfl,rfl⟩;go_wp2_with fail;rw [show ((k:Int)+1)=((k+1:Nat):Int) by omega];refine (C1.out _).mono ?_;rintro e w' ⟨rfl,rfl⟩
  by_cases h6:m=X.size
  ·have g4:(((m:Nat):Int)==((X.size:Nat):Int))=true:=beq_iff_eq.mpr (by omega)
   have g7:(m==X.size)=true:=beq_iff_eq.mpr h6;have g5:decide (0<v1)=false:=decide_eq_false (fun h=>h5 ⟨h6,h⟩)
   have g6:v1=0:=by have:=of_decide_eq_false g5;omega
   clear h5 h6;subst g6;go_wp2_with fail;refine (CT.out _).mono ?_;rintro e w3 ⟨rfl,hb3⟩;have Z3:=aim ((Z1.out.al _).keep hb3);have F3:=aim (FrAt.keep (FrAt.new _ _ _ _) hb3);have HB3:=aim ((HB1.out.alloc HB1.out.size _).trans (hb3.mono (by have:=HB1.out.size;simp;omega)));clear hb3;obtain ⟨u0,u1,u2,u3,u4⟩:=Z3.out;obtain ⟨d0,d1⟩:=F3.out;go_wp2;exact bodyPost_ret (v:= .tuple #[.agg #[.int .i64 _, .int .i64 _], .bool _]) (by simp [results,Tryz.results134,go_sem,u0,u1]) rfl ⟨rfl,(HB3.out.setCell (ain _) _).setCell (ain _) _⟩
  ·have g4:(((m:Nat):Int)==((X.size:Nat):Int))=false:=beq_eq_false_iff_ne.mpr (by omega)
   have g7:(m==X.size)=false:=beq_eq_false_iff_ne.mpr h6;clear h5 h6;go_wp2_with fail;refine (CT.out _).mono ?_;rintro e w3 ⟨rfl,hb3⟩;have Z3:=aim ((Z1.out.al _).keep hb3);have F3:=aim (FrAt.keep (FrAt.new _ _ _ _) hb3);have HB3:=aim ((HB1.out.alloc HB1.out.size _).trans (hb3.mono (by have:=HB1.out.size;simp;omega)));clear hb3;obtain ⟨u0,u1,u2,u3,u4⟩:=Z3.out;obtain ⟨d0,d1⟩:=F3.out;go_wp2;exact bodyPost_ret (v:= .tuple #[.agg #[.int .i64 _, .int .i64 _], .bool _]) (by simp [results,Tryz.results134,go_sem,u0,u1]) rfl ⟨rfl,(HB3.out.setCell (ain _) _).setCell (ain _) _⟩
theorem aby (s:ByteArray) (w:World) (hs:s.size≤2097152) (hng:ge s=true) (h1:spO (ar s)=false) (h2:0<spK (ar s)) (h3:spK (ar s)<(ar s).size) (h4: ∀(hz:spK (ar s)<(ar s).size),((ar s)[spK (ar s)].toNat:Int)=47) (h5:spK (ar s)+1+spJ (ar s)=(ar s).size) (h6:0<bE (ar s) (spK (ar s)+1) (spJ (ar s)))
  (T B:Int) (hT:T=spT (ar s)) (hB:B=spB (ar s)) (good:Bool) (hgood:(aW (-T) B==s.data.toList)=good):
  Calls Tryz.prog 134 #[.string s] w fun e w'=>e=fr (if good=true then (-T) else 0) (if good=true then B else 0) good∧Below w.heap.size w w':=by
 obtain ⟨hne,hbx,h45⟩:=ji s hng;have HBX:=aim hbx;have b45:((s[0].toNat:Int)==45)=true:=beq_iff_eq.mpr (h45 hne)
 have e0:s.toList.isEmpty=false:=by
  rw [ByteArray.toList_eq]
  cases hc:s.data.toList with
  |nil=>have:=congrArg List.length hc;rw [Array.length_toList] at this;simp only [List.length_nil] at this;have h':s.size=0:=this;omega
  |cons x l=>rfl
 have e1:(s.toList==[])=false:=by cases hc:s.toList with
  |nil=>rw [hc] at e0;cases e0
  |cons x l=>rfl
 have hsz:(ar s).size≤2097152:=by have:=iu s;omega
 clear hng hbx h45;generalize hXX:ar s=X at*;clear hXX;have CD:=aim (fun w'=>bN X w' hsz);obtain ⟨o1,o2⟩:=jZ (bM X.data.toList) (bq X.data.toList) (br X.data.toList);have hO:spO X=gd (bM X.data.toList) (bq X.data.toList) (br X.data.toList):=rfl;obtain ⟨q1,q2⟩:=gD _ _ _ (hO.symm.trans h1);rw [←hO,h1,q1,q2] at CD;clear o1 o2 q1 q2 hO;have hvb:=gB X;have hvb1:=gC X;have hkl:=gT X;have C0:=aim (fun w'=>pR X w' hsz);have C1:=aim (fun w'=>afO X w' hsz (by omega))
 have e47:X.data.toList[spK X]? =some 47:=by
  rw [List.getElem?_eq_getElem (by rw [Array.length_toList];exact h3)]
  congr 1
  exact UInt8.toNat_inj.mp (by have:=h4 h3;show X[spK X].toNat=47;omega)
 have hgo:je X=true:=by simp only [je,s6,e47,decide_eq_true h2,decide_eq_true h3,decide_eq_true h5,decide_eq_true h6];rfl
 have hT2:T=((bE X 0 (spK X):Nat):Int):=by rw [hT,spT,h1,hgo,if_neg (by simp),if_neg (by intro h;omega),if_pos rfl]
 have hB2:B=((bE X (spK X+1) (spJ X):Nat):Int):=by rw [hB,spB,h1,hgo,if_neg (by simp),if_neg (by intro h;omega),if_pos rfl]
 clear hT hB hgo e47;have f47:((X[spK X].toNat:Int)==47)=true:=beq_iff_eq.mpr (h4 h3);clear h4;clear h1;generalize hv0:bE X 0 (spK X)=v0 at*;generalize hv1:bE X (spK X+1) (spJ X)=v1 at*;generalize hj:spJ X=j at*;generalize hk:spK X=k at*;generalize hm:k+1+j=m at*;clear hv0 hk hv1 hj hm;subst hT2 hB2;have g0:decide (0<k)=true:=decide_eq_true h2;have g1:(((k:Nat):Int)==((X.size:Nat):Int))=false:=beq_eq_false_iff_ne.mpr (by omega);have g2:decide (k<X.size)=true:=decide_eq_true h3;have g3:(k==X.size)=false:=beq_eq_false_iff_ne.mpr (by omega);have g4:(((m:Nat):Int)==((X.size:Nat):Int))=true:=beq_iff_eq.mpr (by omega);have g6:(m==X.size)=true:=beq_iff_eq.mpr h5;have g5:decide (0<v1)=true:=decide_eq_true h6;clear h5;have HEQ:=aim (eqL (aW (-(v0:Int)) (v1:Int)) s);rw [hgood] at HEQ;have CT:=aim (fun w'=>aX (-(v0:Int)) (v1:Int) w');clear hgood;generalize (⟨(aW (-(v0:Int)) (v1:Int)).toArray⟩:ByteArray)=Z at*;have hEE:(Z.toList==s.toList)=good:=HEQ.out
 cases good
 all_goals
  go_enter Tryz.func134,Tryz.ntmps134
  go_wp2_with fail;rw [HBX.out];refine (CD.out _).mono ?_;rintro e w1 ⟨rfl,hb1⟩;have Z1:=aim ((ZeroF.new w 165).keep hb1);have hN:w.heap.size<w1.heap.size:=Z1.out.2.2.2.2
  have hN1:w.heap.size≠w1.heap.size:=by omega
  have HB1:=aim (((Below.refl _ w).alloc (ain _) _).trans (hb1.mono (by simp)));clear hb1;go_wp2_with fail;refine (C0.out _).mono ?_;rintro e w' ⟨rfl,rfl⟩;go_wp2_with fail;rw [show ((k:Int)+1)=((k+1:Nat):Int) by omega];refine (C1.out _).mono ?_;rintro e w' ⟨rfl,rfl⟩;go_wp2_with fail;refine (CT.out _).mono ?_;rintro e w3 ⟨rfl,hb3⟩;have Z3:=aim ((Z1.out.al _).keep hb3);have F3:=aim (FrAt.keep (FrAt.new _ _ _ _) hb3);have HB3:=aim ((HB1.out.alloc HB1.out.size _).trans (hb3.mono (by have:=HB1.out.size;simp;omega)));clear hb3;obtain ⟨u0,u1,u2,u3,u4⟩:=Z3.out;obtain ⟨d0,d1⟩:=F3.out;go_wp2;exact bodyPost_ret (v:= .tuple #[.agg #[.int .i64 _, .int .i64 _], .bool _]) (by simp [results,Tryz.results134,go_sem,u0,u1]) rfl ⟨rfl,(HB3.out.setCell (ain _) _).setCell (ain _) _⟩
theorem xP (w:World):
  Calls Tryz.prog 134 #[.string ⟨#[]⟩] w fun e w'=>e=fr 0 0 false∧Below w.heap.size w w':=by
 have CD:=aim (fun w'=>bN ⟨#[]⟩ w' (by decide));rw [show gd (bM (⟨#[]⟩:ByteArray).data.toList) (bq (⟨#[]⟩:ByteArray).data.toList) (br (⟨#[]⟩:ByteArray).data.toList)=false by decide] at CD;rw [show opT (bM (⟨#[]⟩:ByteArray).data.toList) (bq (⟨#[]⟩:ByteArray).data.toList) (br (⟨#[]⟩:ByteArray).data.toList)=0 by decide] at CD;rw [show opB (bM (⟨#[]⟩:ByteArray).data.toList) (bq (⟨#[]⟩:ByteArray).data.toList) (br (⟨#[]⟩:ByteArray).data.toList)=0 by decide] at CD;have C0:=aim (fun w'=>pR ⟨#[]⟩ w' (by decide));rw [show spK ⟨#[]⟩=0 by decide,show bE ⟨#[]⟩ 0 0=0 by decide] at C0
 go_enter Tryz.func134,Tryz.ntmps134
 go_wp2_with fail;refine (CD.out _).mono ?_;rintro e w1 ⟨rfl,hb1⟩;have Z1:=aim ((ZeroF.new w 165).keep hb1);have hN:w.heap.size<w1.heap.size:=Z1.out.2.2.2.2
 have hN1:w.heap.size≠w1.heap.size:=by omega
 have HB1:=aim (((Below.refl _ w).alloc (ain _) _).trans (hb1.mono (by simp)));clear hb1;go_wp2_with fail;refine (C0.out _).mono ?_;rintro e w' ⟨rfl,rfl⟩;obtain ⟨u0,u1,u2,u3,u4⟩:=Z1.out;have F:FrAt ((w1.setCell ⟨w.heap.size,0,none⟩ (.int .i64 0)).setCell ⟨w.heap.size,1,none⟩ (.int .i64 0)) w.heap.size 0 0:=⟨by simp [go_sem,u0],by simp [go_sem,u1]⟩;obtain ⟨f0,f1⟩:=F.al (.cells #[.int .i64 0, .int .i64 0] 165);go_wp2
 exact bodyPost_ret (v:= .tuple #[.agg #[.int .i64 _, .int .i64 _], .bool _]) (by simp [results,Tryz.results134,go_sem,f0,f1]) rfl ⟨rfl,by
  have h0:Below w.heap.size w ((w1.setCell ⟨w.heap.size,0,none⟩ (.int .i64 0)).setCell ⟨w.heap.size,1,none⟩ (.int .i64 0)):=(HB1.out.setCell (ain _) _).setCell (ain _) _
  exact h0.alloc h0.size _⟩
theorem m4 (s:ByteArray) (w:World) (hs:s.size≤2097152):
  Calls Tryz.prog 134 #[.string s] w fun e w'=>e=fr (rdT s) (rdB s) (gn s)∧Below w.heap.size w w':=by
 obtain ⟨hq,hv⟩:=aaW s
 have hl:s.data.toList.length=s.size:=by rw [Array.length_toList];rfl
 by_cases hne:0<s.size
 ·have hemp:s.data.toList.isEmpty=false:=by
   cases hc:s.data.toList with
   |nil=>rw [hc] at hl;simp at hl;omega
   |cons x l=>rfl
  have hgood:(aW (jX s) (spB (ar s))==s.data.toList)=gn s:=by
   rw [←hq,xF,hemp];rfl
  have hres:rdT s=(if gn s=true then jX s else 0)∧rdB s=(if gn s=true then spB (ar s) else 0):=by
   unfold rdT rdB
   cases hr:gn s with
   |false=>exact ⟨rfl,rfl⟩
   |true=>obtain ⟨e1,e2⟩:=hv hr;rw [e1,e2];exact ⟨rfl,rfl⟩
  rw [hres.1,hres.2]
  cases hng:ge s with
  |true=>
   have ht:jX s= -spT (ar s):=by rw [jX,hng];rfl
   rw [ht] at hgood⊢;have hk:=gT (ar s)
   cases h1:spO (ar s) with
   |true=>exact abt s w hs hng h1 _ _ rfl rfl _ hgood
   |false=>
    by_cases h2:spK (ar s)=0
    ·exact abu s w hs hng h1 h2 _ _ rfl rfl _ hgood
    ·by_cases h3:spK (ar s)=(ar s).size
     ·exact abv s w hs hng h1 (by omega) h3 _ _ rfl rfl _ hgood
     ·have h3':spK (ar s)<(ar s).size:=by omega
      by_cases h4:((ar s)[spK (ar s)].toNat:Int)=47
      ·by_cases h5:spK (ar s)+1+spJ (ar s)=(ar s).size∧0<bE (ar s) (spK (ar s)+1) (spJ (ar s))
       ·exact aby s w hs hng h1 (by omega) h3' (fun _=>h4) h5.1 h5.2 _ _ rfl rfl _ hgood
       ·exact abx s w hs hng h1 (by omega) h3' (fun _=>h4) h5 _ _ rfl rfl _ hgood
      ·exact abw s w hs hng h1 (by omega) h3' (fun _=>h4) _ _ rfl rfl _ hgood
  |false=>
   have hb:=(iA s hng).1
   have ht:jX s=spT s:=by rw [jX,hng,hb];rfl
   rw [ht,hb] at hgood;rw [ht,hb];have hk:=gT s
   cases h1:spO s with
   |true=>exact abn s w hs hng hne h1 _ _ rfl rfl _ hgood
   |false=>
    by_cases h2:spK s=0
    ·exact abo s w hs hng hne h1 h2 _ _ rfl rfl _ hgood
    ·by_cases h3:spK s=s.size
     ·exact abp s w hs hng hne h1 (by omega) h3 _ _ rfl rfl _ hgood
     ·have h3':spK s<s.size:=by omega
      by_cases h4:(s[spK s].toNat:Int)=47
      ·by_cases h5:spK s+1+spJ s=s.size∧0<bE s (spK s+1) (spJ s)
       ·exact abs s w hs hng hne h1 (by omega) h3' (fun _=>h4) h5.1 h5.2 _ _ rfl rfl _ hgood
       ·exact abr s w hs hng hne h1 (by omega) h3' (fun _=>h4) h5 _ _ rfl rfl _ hgood
      ·exact abq s w hs hng hne h1 (by omega) h3' (fun _=>h4) _ _ rfl rfl _ hgood
 ·have hnil:s.data.toList=[]:=List.length_eq_zero_iff.mp (by omega)
  have hf:gn s=false:=by rw [←hq,xF,hnil];rfl
  have e:s=⟨#[]⟩:=by apply ByteArray.ext;exact Array.toList_eq_nil_iff.mp hnil
  unfold rdT rdB;rw [hf,if_neg (by simp),if_neg (by simp),e];exact xP w
theorem s9 {w w1:World} {k m:Int} {s:ByteArray} {t:TypeId} (hb:Below (w.alloc (.cells #[.int .i64 k, .string s, .int .i64 m] t)).heap.size (w.alloc (.cells #[.int .i64 k, .string s, .int .i64 m] t)) w1):
  w1.cell? ⟨w.heap.size,0,none⟩=some (.int .i64 k)∧w1.cell? ⟨w.heap.size,1,none⟩=some (.string s)∧w1.cell? ⟨w.heap.size,2,none⟩=some (.int .i64 m):=by
 refine ⟨?_, ?_, ?_⟩<;>(rw [hb.cell (by simp)];simp [go_sem])
theorem tmB (t b:Nat):(t:Int).tmod (b:Int)=((t % b:Nat):Int):=by rw [Int.tmod_eq_emod_of_nonneg (by omega),Int.natCast_emod]
theorem uX (m:Int) (s:ByteArray) (w:World) (hs:s.size≤1048576):
  Calls Tryz.prog 92 #[.agg #[.int .i64 1, .string s, .int .i64 m]] w fun e w'=>e= .returned (.bool (aQ 1 s m))∧Below w.heap.size w w':=by
 have cs:=fun w'=>m4 s w' (by omega)
 cases ho:gn s with
 |false=>
  rw [show aQ 1 s m=false by simp [aQ,aJ,lR,ho]];rw [ho] at cs;generalize rdT s=T at cs;generalize rdB s=B at cs;have CS:=aim cs;clear cs ho
  go_enter Tryz.func92,Tryz.ntmps92
  go_wp2_with fail;refine (CS.out _).mono ?_;rintro e w1 ⟨rfl,hb1⟩;obtain ⟨d0,d1,d2⟩:=s9 (hb1.alloc hb1.size (.cells #[.int .i64 T, .int .i64 B] 165));have B1:=aim (((Below.refl w.heap.size w).alloc (ain _) _).trans ((hb1.alloc hb1.size (.cells #[.int .i64 T, .int .i64 B] 165)).mono (by simp)));clear hb1;go_wp2;go_ret;exact ⟨rfl,B1.out⟩
 |true=>
  obtain ⟨b1,b2⟩:=oq s ho
  have HN:aQ 1 s m=(decide (0≤rdT s)&&((1000000:Int).tmod (rdB s)==0)&&(m==0)):=by simp [aQ,aJ,lR,bg,ho]
  rw [ho] at cs;generalize rdT s=T at cs HN;generalize rdB s=B at cs HN b1 b2;obtain ⟨b,rfl⟩:=aiq (show 0≤B by omega);have e1:(1000000:Int).tmod (b:Int)=((1000000 % b:Nat):Int):=tmB 1000000 b;have e0:((b:Int)==0)=false:=beq_eq_false_iff_ne.mpr (by omega);rw [e1] at HN;have CS:=aim cs;clear cs ho
  by_cases h0:0≤T
  ·rw [decide_eq_true h0,Bool.true_and] at HN
   by_cases h:1000000 % b=0
   ·have e2:(((1000000 % b:Nat):Int)==0)=true:=beq_iff_eq.mpr (by omega)
    rw [e2,Bool.true_and] at HN;rw [HN];clear HN h;generalize 1000000 % b=q at e1 e2
    go_enter Tryz.func92,Tryz.ntmps92
    go_wp2_with fail;refine (CS.out _).mono ?_;rintro e w1 ⟨rfl,hb1⟩;obtain ⟨d0,d1,d2⟩:=s9 (hb1.alloc hb1.size (.cells #[.int .i64 T, .int .i64 (b:Int)] 165));have B1:=aim (((Below.refl w.heap.size w).alloc (ain _) _).trans ((hb1.alloc hb1.size (.cells #[.int .i64 T, .int .i64 (b:Int)] 165)).mono (by simp)));clear hb1;go_wp2;go_ret;exact ⟨rfl,B1.out⟩
   ·have e2:(((1000000 % b:Nat):Int)==0)=false:=beq_eq_false_iff_ne.mpr (by omega)
    rw [e2,Bool.false_and] at HN;rw [HN];clear HN h;generalize 1000000 % b=q at e1 e2
    go_enter Tryz.func92,Tryz.ntmps92
    go_wp2_with fail;refine (CS.out _).mono ?_;rintro e w1 ⟨rfl,hb1⟩;obtain ⟨d0,d1,d2⟩:=s9 (hb1.alloc hb1.size (.cells #[.int .i64 T, .int .i64 (b:Int)] 165));have B1:=aim (((Below.refl w.heap.size w).alloc (ain _) _).trans ((hb1.alloc hb1.size (.cells #[.int .i64 T, .int .i64 (b:Int)] 165)).mono (by simp)));clear hb1;go_wp2;go_ret;exact ⟨rfl,B1.out⟩
  ·rw [decide_eq_false h0,Bool.false_and,Bool.false_and] at HN
   rw [HN];clear HN;generalize 1000000 % b=q at e1
   go_enter Tryz.func92,Tryz.ntmps92
   go_wp2_with fail;refine (CS.out _).mono ?_;rintro e w1 ⟨rfl,hb1⟩;obtain ⟨d0,d1,d2⟩:=s9 (hb1.alloc hb1.size (.cells #[.int .i64 T, .int .i64 (b:Int)] 165));have B1:=aim (((Below.refl w.heap.size w).alloc (ain _) _).trans ((hb1.alloc hb1.size (.cells #[.int .i64 T, .int .i64 (b:Int)] 165)).mono (by simp)));clear hb1;go_wp2;go_ret;exact ⟨rfl,B1.out⟩
theorem uY (m:Int) (s:ByteArray) (w:World) (hs:s.size≤1048576):
  Calls Tryz.prog 92 #[.agg #[.int .i64 2, .string s, .int .i64 m]] w fun e w'=>e= .returned (.bool (aQ 2 s m))∧Below w.heap.size w w':=by
 have hN:aQ 2 s m=(aT s&&decide (s.size≤60)&&(m==0)):=by simp [aQ,aJ,bg]
 rw [hN];clear hN
 cases ht:aT s with
 |false=>
  rw [Bool.false_and,Bool.false_and];have HT:=aim ht;clear ht
  go_enter Tryz.func92,Tryz.ntmps92
  go_wp2_with fail;refine (aR s _ (by unfold maxLen;omega)).mono ?_;rintro e w' ⟨rfl,rfl⟩;rw [HT.out];go_wp2;go_ret;exact ⟨rfl,(Below.refl _ _).alloc (ain _) _⟩
 |true=>
  rw [Bool.true_and];have HT:=aim ht;clear ht
  by_cases h6:s.size≤60
  ·rw [decide_eq_true h6,Bool.true_and]
   go_enter Tryz.func92,Tryz.ntmps92
   go_wp2_with fail;refine (aR s _ (by unfold maxLen;omega)).mono ?_;rintro e w' ⟨rfl,rfl⟩;rw [HT.out];go_wp2;go_ret;exact ⟨rfl,(Below.refl _ _).alloc (ain _) _⟩
  ·rw [decide_eq_false h6,Bool.false_and]
   go_enter Tryz.func92,Tryz.ntmps92
   go_wp2_with fail;refine (aR s _ (by unfold maxLen;omega)).mono ?_;rintro e w' ⟨rfl,rfl⟩;rw [HT.out];go_wp2;go_ret;exact ⟨rfl,(Below.refl _ _).alloc (ain _) _⟩
theorem uZ (m:Int) (s:ByteArray) (w:World) (hs:s.size≤1048576):
  Calls Tryz.prog 92 #[.agg #[.int .i64 4, .string s, .int .i64 m]] w fun e w'=>e= .returned (.bool (aQ 4 s m))∧Below w.heap.size w w':=by
 have hN:aQ 4 s m=(dn s.data.toList&&decide (s.size≤60)&&(m==0)):=by simp [aQ,aJ,bg]
 rw [hN];clear hN
 cases ht:dn s.data.toList with
 |false=>
  rw [Bool.false_and,Bool.false_and];have HT:=aim ht;clear ht
  go_enter Tryz.func92,Tryz.ntmps92
  go_wp2_with fail;refine (cW s _ (by unfold maxLen;omega)).mono ?_;rintro e w' ⟨rfl,rfl⟩;rw [HT.out];go_wp2;go_ret;exact ⟨rfl,(Below.refl _ _).alloc (ain _) _⟩
 |true=>
  rw [Bool.true_and];have HT:=aim ht;clear ht
  by_cases h6:s.size≤60
  ·rw [decide_eq_true h6,Bool.true_and]
   go_enter Tryz.func92,Tryz.ntmps92
   go_wp2_with fail;refine (cW s _ (by unfold maxLen;omega)).mono ?_;rintro e w' ⟨rfl,rfl⟩;rw [HT.out];go_wp2;go_ret;exact ⟨rfl,(Below.refl _ _).alloc (ain _) _⟩
  ·rw [decide_eq_false h6,Bool.false_and]
   go_enter Tryz.func92,Tryz.ntmps92
   go_wp2_with fail;refine (cW s _ (by unfold maxLen;omega)).mono ?_;rintro e w' ⟨rfl,rfl⟩;rw [HT.out];go_wp2;go_ret;exact ⟨rfl,(Below.refl _ _).alloc (ain _) _⟩
theorem ve (m:Int) (s:ByteArray) (w:World) (hs:s.size≤1048576):
  Calls Tryz.prog 92 #[.agg #[.int .i64 3, .string s, .int .i64 m]] w fun e w'=>e= .returned (.bool (aQ 3 s m))∧Below w.heap.size w w':=by
 by_cases h1:s.data.toList=[116,114,117,101]
 ·have e1:=aS h1
  rw [show aQ 3 s m=(m==0) by simp [aQ,aJ,bg,cN,bX,h1]];clear h1
  go_enter Tryz.func92,Tryz.ntmps92
  go_wp2;go_ret;exact ⟨rfl,(Below.refl _ _).alloc (ain _) _⟩
 ·by_cases h2:s.data.toList=[102,97,108,115,101]
  ·have e1:=af h1;have e2:=aS h2
   rw [show aQ 3 s m=(m==0) by simp [aQ,aJ,bg,cN,bX,h2]];clear h1 h2
   go_enter Tryz.func92,Tryz.ntmps92
   go_wp2;go_ret;exact ⟨rfl,(Below.refl _ _).alloc (ain _) _⟩
  ·have e1:=af h1;have e2:=af h2
   rw [show aQ 3 s m=false by simp [aQ,aJ,cN,bX,h1,h2]];clear h1 h2
   go_enter Tryz.func92,Tryz.ntmps92
   go_wp2;go_ret;exact ⟨rfl,(Below.refl _ _).alloc (ain _) _⟩
theorem vf (m:Int) (s:ByteArray) (w:World) (hs:s.size≤1048576):
  Calls Tryz.prog 92 #[.agg #[.int .i64 7, .string s, .int .i64 m]] w fun e w'=>e= .returned (.bool (aQ 7 s m))∧Below w.heap.size w w':=by
 by_cases h1:s.data.toList=[33]
 ·have e1:=aS h1
  rw [show aQ 7 s m=(m==1) by simp [aQ,aJ,bg,h1]];clear h1
  go_enter Tryz.func92,Tryz.ntmps92
  go_wp2;go_ret;exact ⟨rfl,(Below.refl _ _).alloc (ain _) _⟩
 ·by_cases h2:s.data.toList=[45]
  ·have e1:=af h1;have e2:=aS h2
   rw [show aQ 7 s m=(m==1) by simp [aQ,aJ,bg,h2]];clear h1 h2
   go_enter Tryz.func92,Tryz.ntmps92
   go_wp2;go_ret;exact ⟨rfl,(Below.refl _ _).alloc (ain _) _⟩
  ·have e1:=af h1;have e2:=af h2
   rw [show aQ 7 s m=false by simp [aQ,aJ,h1,h2]];clear h1 h2
   go_enter Tryz.func92,Tryz.ntmps92
   go_wp2;go_ret;exact ⟨rfl,(Below.refl _ _).alloc (ain _) _⟩
theorem vg (m:Int) (s:ByteArray) (w:World) (hs:s.size≤1048576):
  Calls Tryz.prog 92 #[.agg #[.int .i64 5, .string s, .int .i64 m]] w fun e w'=>e= .returned (.bool (aQ 5 s m))∧Below w.heap.size w w':=by
 cases he:s.data.toList with
 |nil=>
  rw [show aQ 5 s m=inI m 0 8 by simp [aQ,aJ,bg,inI,he]];have e1:=aS he
  have e2:s.toList=[]:=by rw [ByteArray.toList_eq];exact he
  have e3:s.toList.isEmpty=true:=by rw [e2];rfl
  have e4:(!s.toList.isEmpty)=false:=by rw [e2];rfl
  clear he
  go_enter Tryz.func92,Tryz.ntmps92
  go_wp2_with fail;refine (eh m 0 8 _).mono ?_;rintro e w' ⟨rfl,rfl⟩;go_wp2;go_ret;exact ⟨rfl,(Below.refl _ _).alloc (ain _) _⟩
 |cons b t=>
  rw [show aQ 5 s m=false by simp [aQ,aJ,he]];have e1:(s.toList==[])=false:=af (by rw [he];simp)
  have e2:s.toList≠[]:=by rw [ByteArray.toList_eq,he];simp
  have e3:s.toList.isEmpty=false:=by rw [ByteArray.toList_eq,he];rfl
  have e4:(!s.toList.isEmpty)=true:=by rw [e3];rfl
  clear he
  go_enter Tryz.func92,Tryz.ntmps92
  go_wp2;go_ret;exact ⟨fE (by simp [*]),(Below.refl _ _).alloc (ain _) _⟩
theorem vh (m:Int) (s:ByteArray) (w:World) (hs:s.size≤1048576):
  Calls Tryz.prog 92 #[.agg #[.int .i64 9, .string s, .int .i64 m]] w fun e w'=>e= .returned (.bool (aQ 9 s m))∧Below w.heap.size w w':=by
 cases he:s.data.toList with
 |nil=>
  rw [show aQ 9 s m=(m==3) by simp [aQ,aJ,bg,he]];have e1:=aS he
  have e2:s.toList=[]:=by rw [ByteArray.toList_eq];exact he
  have e3:s.toList.isEmpty=true:=by rw [e2];rfl
  have e4:(!s.toList.isEmpty)=false:=by rw [e2];rfl
  clear he
  go_enter Tryz.func92,Tryz.ntmps92
  go_wp2;go_ret;exact ⟨rfl,(Below.refl _ _).alloc (ain _) _⟩
 |cons b t=>
  rw [show aQ 9 s m=false by simp [aQ,aJ,he]];have e1:(s.toList==[])=false:=af (by rw [he];simp)
  have e2:s.toList≠[]:=by rw [ByteArray.toList_eq,he];simp
  have e3:s.toList.isEmpty=false:=by rw [ByteArray.toList_eq,he];rfl
  have e4:(!s.toList.isEmpty)=true:=by rw [e3];rfl
  clear he
  go_enter Tryz.func92,Tryz.ntmps92
  go_wp2;go_ret;exact ⟨fE (by simp [*]),(Below.refl _ _).alloc (ain _) _⟩
theorem vi (m:Int) (s:ByteArray) (w:World) (hs:s.size≤1048576):
  Calls Tryz.prog 92 #[.agg #[.int .i64 6, .string s, .int .i64 m]] w fun e w'=>e= .returned (.bool (aQ 6 s m))∧Below w.heap.size w w':=by
 have hN:aQ 6 s m=(dn s.data.toList&& !eH s.data.toList 46&&inI m 0 8):=by simp [aQ,aJ,bg,inI]
 rw [hN];clear hN
 cases ht:dn s.data.toList with
 |false=>
  rw [Bool.false_and,Bool.false_and];have HT:=aim ht;clear ht
  go_enter Tryz.func92,Tryz.ntmps92
  go_wp2_with fail;refine (cW s _ (by unfold maxLen;omega)).mono ?_;rintro e w' ⟨rfl,rfl⟩;rw [HT.out];go_wp2;go_ret;exact ⟨rfl,(Below.refl _ _).alloc (ain _) _⟩
 |true=>
  rw [Bool.true_and];have HT:=aim ht;clear ht
  cases hh:eH s.data.toList 46
  ·rw [Bool.not_false,Bool.true_and]
   have HH:=aim hh;clear hh
   go_enter Tryz.func92,Tryz.ntmps92
   go_wp2_with fail;refine (cW s _ (by unfold maxLen;omega)).mono ?_;rintro e w' ⟨rfl,rfl⟩;rw [HT.out];go_wp2_with fail;refine (fc s 46 _ (by unfold maxLen;omega) (by omega) (by omega)).mono ?_;rintro e w' ⟨rfl,rfl⟩;rw [HH.out];go_wp2_with fail;refine (eh m 0 8 _).mono ?_;rintro e w' ⟨rfl,rfl⟩;go_wp2;go_ret;exact ⟨rfl,(Below.refl _ _).alloc (ain _) _⟩
  ·rw [Bool.not_true,Bool.false_and]
   have HH:=aim hh;clear hh
   go_enter Tryz.func92,Tryz.ntmps92
   go_wp2_with fail;refine (cW s _ (by unfold maxLen;omega)).mono ?_;rintro e w' ⟨rfl,rfl⟩;rw [HT.out];go_wp2_with fail;refine (fc s 46 _ (by unfold maxLen;omega) (by omega) (by omega)).mono ?_;rintro e w' ⟨rfl,rfl⟩;rw [HH.out];go_wp2;go_ret;exact ⟨rfl,(Below.refl _ _).alloc (ain _) _⟩
theorem vj (m:Int) (s:ByteArray) (w:World) (hs:s.size≤1048576):
  Calls Tryz.prog 92 #[.agg #[.int .i64 8, .string s, .int .i64 m]] w fun e w'=>e= .returned (.bool (aQ 8 s m))∧Below w.heap.size w w':=by
 have hN:aQ 8 s m=(decide (0<aj s.data.toList)&&(m==2)):=by simp [aQ,aJ,bg]
 rw [hN];clear hN
 by_cases h6:0<aj s.data.toList
 ·rw [decide_eq_true h6,Bool.true_and]
  have CR:=aim (fun w'=>fV s w');generalize aj s.data.toList=r at CR h6
  go_enter Tryz.func92,Tryz.ntmps92
  go_wp2_with fail;refine (CR.out _).mono ?_;rintro e w' ⟨rfl,rfl⟩;go_wp2;go_ret;exact ⟨rfl,(Below.refl _ _).alloc (ain _) _⟩
 ·rw [decide_eq_false h6,Bool.false_and]
  have CR:=aim (fun w'=>fV s w');generalize aj s.data.toList=r at CR h6
  go_enter Tryz.func92,Tryz.ntmps92
  go_wp2_with fail;refine (CR.out _).mono ?_;rintro e w' ⟨rfl,rfl⟩;go_wp2;go_ret;exact ⟨rfl,(Below.refl _ _).alloc (ain _) _⟩
theorem ta (k:Int) (m:Int) (s:ByteArray) (w:World) (hs:s.size≤1048576) (hk: ¬(1≤k∧k≤9)):
  Calls Tryz.prog 92 #[.agg #[.int .i64 k, .string s, .int .i64 m]] w fun e w'=>e= .returned (.bool (aQ k s m))∧Below w.heap.size w w':=by
 have hf:aQ k s m=false:=by
  unfold aQ aJ
  iterate 9 rw [if_neg (by omega)]
  rfl
 rw [hf];clear hf;have n1:(k==1)=false:=beq_eq_false_iff_ne.mpr (by omega);have n2:(k==2)=false:=beq_eq_false_iff_ne.mpr (by omega);have n3:(k==3)=false:=beq_eq_false_iff_ne.mpr (by omega);have n4:(k==4)=false:=beq_eq_false_iff_ne.mpr (by omega);have n5:(k==5)=false:=beq_eq_false_iff_ne.mpr (by omega);have n6:(k==6)=false:=beq_eq_false_iff_ne.mpr (by omega);have n7:(k==7)=false:=beq_eq_false_iff_ne.mpr (by omega);have n8:(k==8)=false:=beq_eq_false_iff_ne.mpr (by omega);have n9:(k==9)=false:=beq_eq_false_iff_ne.mpr (by omega);clear hk
 go_enter Tryz.func92,Tryz.ntmps92
 go_wp2;go_ret;exact ⟨rfl,(Below.refl _ _).alloc (ain _) _⟩
theorem ahm (k:Int) (h:1≤k∧k≤9):k=1∨k=2∨k=3∨k=4∨k=5∨k=6∨k=7∨k=8∨k=9:=by omega
theorem pS (k m:Int) (s:ByteArray) (w:World) (hs:s.size≤1048576):
  Calls Tryz.prog 92 #[.agg #[.int .i64 k, .string s, .int .i64 m]] w fun e w'=>e= .returned (.bool (aQ k s m))∧Below w.heap.size w w':=by
 by_cases hk:1≤k∧k≤9
 ·rcases ahm k hk with rfl|rfl|rfl|rfl|rfl|rfl|rfl|rfl|rfl
  ·exact uX m s w hs
  ·exact uY m s w hs
  ·exact ve m s w hs
  ·exact uZ m s w hs
  ·exact vg m s w hs
  ·exact vi m s w hs
  ·exact vf m s w hs
  ·exact vj m s w hs
  ·exact vh m s w hs
 ·exact ta k m s w hs hk
def abz (am:List Nat) (f:Nat):Int:=match scA (am.drop f) f 1 with
 |some t=>(t:Int)
 |none=> -1
theorem lu {am:List Nat} {f t:Nat} (h:scA (am.drop f) f 1=some t):abz am f=(t:Int):=by simp [abz,h]
theorem rQ {am:List Nat} {f:Nat} (h:scA (am.drop f) f 1=none):abz am f= -1:=by simp [abz,h]
theorem Exs.endI {am:List Nat} {f t d:Nat} (h:Exs am 1 f t d):abz am f=(t:Int):=lu h.sc0
theorem tb {a b:Int} (h:a=b):Ending.returned (.int .i64 a)= .returned (.int .i64 b):=by rw [h]
theorem ExsS.dep {am:List Nat} {n f t d:Nat} (h:Exs am n f t d):d≤t-f:=by
 induction h with
 |nil f=>omega
 | @cons f m g d n t e hm h1 h2 i1 i2=>have l1:=h1.le;have l2:=h2.le;omega
theorem lw (v:Value) (l:List Cl) (f:Nat) (w:World) (hr:RowC w v l) (h60:l.length≤60) (hok:l.all okM=true) (hf:f≤l.length):
  Calls Tryz.prog 93 #[v, .int .i64 (f:Int)] w fun e w'=>e= .returned (.int .i64 (abz (amL l) f))∧w=w':=by
 obtain ⟨ao,cap,rfl,h1,h2,h3⟩:=hr;unfold maxLen at h2;have H3:=aim h3;have HK:=aim hok;clear h3 hok
 go_enter Tryz.func93,Tryz.ntmps93
 go_wp2
 go_loop [1,5] (fun a lf=> ∃k L:Nat,f≤k∧k≤l.length∧a= .int .i64 (k:Int)∧lf= .int .i64 (L:Int)∧L≤1+8*k∧scA ((amL l).drop k) k L=scA ((amL l).drop f) f 1) (fun a _=>l.length-(intOf a).toNat)
 case atStart=>exact ⟨f,1,ain _,hf,rfl,rfl,by omega,rfl⟩
 case round=>
  obtain ⟨k,L,hfk,hk,rfl,rfl,hL,hsc⟩:=hrel;have HS:=aim hsc;clear hsc
  by_cases hlt:k<l.length
  ·by_cases hL0:0<L
   ·obtain ⟨b,o,rfl,hbl,cc⟩:=H3.out.resolve_left (by rintro rfl;simp at hlt)
    obtain ⟨-,-,c2⟩:=cc k hlt;have hmb:=np (o5 HK.out k hlt);have HAM:=aim (tE (amL l) k _ (tF l k hlt));generalize l[k].2.2=M at c2 hmb HAM;obtain ⟨m,rfl⟩:=aiq hmb.1
    have hm8:m≤8:=by omega
    have hmx:max (0:Int) (m:Int)=(m:Int):=by omega
    obtain ⟨L',rfl⟩: ∃x,L=x+1:=⟨L-1,by omega⟩
    have HN:=aim (show scA ((amL l).drop (k+1)) (k+1) (L'+m)=scA ((amL l).drop f) f 1 by
     rw [←HS.out,HAM.out,scA];simp)
    clear cc hmb;go_wp2
    go_round
    case rel=>exact ⟨k+1,L'+m,by omega,by omega,by go_num,by first|go_num|(congr 1;omega),by omega,HN.out⟩
    case measure=>simp [intOf];omega
   ·obtain rfl:L=0:=by omega
    have HE:=aim (lu (am:=amL l) (f:=f) (t:=k) (by rw [←HS.out,kS]));go_wp2;go_ret;exact ⟨tb HE.out.symm,rfl⟩
  ·obtain rfl:k=l.length:=by omega
   by_cases hL0:0<L
   ·obtain ⟨L',rfl⟩: ∃x,L=x+1:=⟨L-1,by omega⟩
    have HE:=aim (rQ (am:=amL l) (f:=f) (by rw [←HS.out,List.drop_of_length_le (by rw [di];exact ain _)];rfl));go_wp2;go_ret;exact ⟨tb HE.out.symm,rfl⟩
   ·obtain rfl:L=0:=by omega
    have HE:=aim (lu (am:=amL l) (f:=f) (t:=l.length) (by rw [←HS.out,kS]));go_wp2;go_ret;exact ⟨tb HE.out.symm,rfl⟩
def gf (L:List Nat):List Value:=L.map fun (n:Nat)=>Value.int .i64 (n:Int)
theorem vk (L:List Nat):(gf L).length=L.length:=by simp [gf]
theorem abA (L:List Nat) (n:Nat):gf (L++[n])=gf L++[.int .i64 (n:Int)]:=by simp [gf]
theorem afP (L:List Nat) (k:Nat) (h:k<L.length):(gf L)[k]? =some (.int .i64 (L[k]:Int)):=by simp [gf,h]
def RowI (w:World) (v:Value) (L:List Nat):Prop:=
 ∃ao cap,v= .slice ao L.length cap∧L.length≤cap∧cap≤maxLen∧(L=[]∨ ∃b,ao=some ⟨b,0,none⟩∧b<w.heap.size∧ ∀k (h:k<L.length),w.cell? ⟨b,k,none⟩=some (.int .i64 (L[k]:Int)))
theorem RowI.of_own {w:World} {base m:Nat} {v:Value} {L:List Nat} (ho:w.ownsRow base 3 1 v m (gf L)):RowI w v L∧m=L.length:=by
 have hl:L.length=m:=by have:=ho.1;rw [vk] at this;omega
 subst hl;refine ⟨?_,rfl⟩
 rcases ho.2 with ⟨rfl,h0⟩|⟨g,cap,cur,rfl,hg,hh,h1,h2,_⟩
 ·exact ⟨none,0,by rw [h0],by omega,by unfold maxLen;omega, .inl (List.length_eq_zero_iff.mp h0)⟩
 ·refine ⟨_,cap,rfl,h1,h2, .inr ⟨g,rfl,(ho.lt g rfl).2,fun k hk=> ?_⟩⟩
  rw [ho.cellAt k (by omega)];exact afP L k hk
def zv (L:List Nat) (w:World) (e:Ending) (w':World):Prop:=
 ∃v,e= .returned v∧w'.ownsRow w.heap.size 3 1 v L.length (gf L)∧Below w.heap.size w w'
theorem adZ:(Tryz.prog.info? 3).map (fun i=>(i.zero,i.size,i.bytes))=some (some (.int .i64 0),1,8):=by kernel_rfl
theorem pT (v:Value) (l:List Cl) (f m t d:Nat) (w:World) (hr:RowC w v l) (h60:l.length≤60) (hok:l.all okM=true) (hm:(amL l)[f]? =some m) (hx:Exs (amL l) m (f+1) t d):
  Calls Tryz.prog 130 #[v, .int .i64 (f:Int)] w (zv (ga (amL l) (f+1) m) w):=by
 obtain ⟨i0,hi,hz0,hz1,hz2⟩:=info_parts adZ
 have hflt:f<l.length:=by
  by_cases hk:f<l.length
  ·exact hk
  ·rw [List.getElem?_eq_none (by rw [di];omega)] at hm;cases hm
 have hm8:m≤8:=by
  have:=np (o5 hok f hflt)
  rw [tF l f hflt] at hm;injection hm with hm;omega
 have HR:=aim hr;obtain ⟨ao,cap,rfl,h1,h2,h3⟩:=hr;unfold maxLen at h2;obtain ⟨b,o,rfl,hbl,cc⟩:=h3.resolve_left (by rintro rfl;simp at hflt);obtain ⟨-,-,c2⟩:=cc f hflt
 have hc2:l[f].2.2=(m:Int):=by
  have:=np (o5 hok f hflt)
  rw [tF l f hflt] at hm;injection hm with hm;omega
 rw [hc2] at c2;have HX:=aim hx;have HK:=aim hok;have HM:=aim hm;clear hx hok hm hc2 cc h3
 go_enter Tryz.func130,Tryz.ntmps130
 go_wp2
 go_loopw [5,6,7] (fun out nx i wr=> ∃k g d':Nat,k≤m∧i= .int .i64 (k:Int)∧nx= .int .i64 (g:Int)∧Exs (amL l) k (f+1) g d'∧wr.ownsRow w.heap.size 3 1 out k (gf (ga (amL l) (f+1) k))∧Below w.heap.size w wr) (fun _ _ i _=>m-(intOf i).toNat)
 case atStart=>exact ⟨0,f+1,0,air _,rfl,by go_num, .nil _,World.ownsRow_lit _ _ 0 (ain _) (by unfold maxLen;omega) rfl,(Below.refl _ _).alloc (ain _) _⟩
 case round=>
  obtain ⟨k,g,d',hk,rfl,rfl,hx,hown,hb⟩:=hrel;have e2:wr.cell? ⟨b,o+f*3+2,none⟩=some (.int .i64 (m:Int)):=(hb.cell (p:=⟨b,_,none⟩) hbl).trans c2;have HB:=aim hb
  by_cases hlt:k<m
  ·have hsplit:=HX.out
   rw [show m=k+(1+(m-k-1)) by omega] at hsplit;obtain ⟨g1,q1,q2,s1,s2,-⟩:=hsplit.split;obtain ⟨rfl,-⟩:=s1.uniq hx;obtain ⟨g2,r1,r2,s3,s4,-⟩:=s2.split
   have hg1:g1≤l.length:=by have:=s3.le.2 (by omega);have h3:=s3.le.1;rw [di] at this;omega
   have HEI:=aim s3.endI;have HXN:=aim (s1.snoc s3);have HL:=aim (yP s1);have hs0:=hb.size;clear s1 s2 s3 s4 hsplit hx hb
   go_wp2_with (at_builtin;refine wpList_append_own _ rfl _ _ 87 rfl w.heap.size 3 i0 (.int .i64 0) 1 8 Tryz.underlying87 hi hz0 hz1 hz2 rfl (by decide) _ _ _ rfl (hown.alloc _) ⟨wr.heap.size,0,none⟩ 1 1 [.int .i64 (g1:Int)] rfl rfl (World.news_of_block (cs:= #[.int .i64 (g1:Int)]) (t:=3) (fr:=(0,0)) (heap_alloc_new wr _)) (by simp [Value.oneCell']) (by unfold maxLen;omega) (by omega) (by simp;omega) ?_;intro v' w2 hown' hgrow hnil;have HB2:=aim ((HB.out.alloc HB.out.size _).grown hgrow (by have:=HB.out.size;simp;omega) (fun q hq=>(hown.lt q hq).1));have HO2:=aim hown';clear hown' hgrow hnil)
   refine (lw _ l g1 _ (HR.out.mono HB2.out) h60 HK.out hg1).mono ?_;rintro e w' ⟨rfl,rfl⟩;rw [HEI.out];go_wp2;go_roundw
   case rel=>exact ⟨k+1,g2,_,by omega,by go_num,rfl,HXN.out,by rw [HL.out,abA];exact HO2.out,HB2.out⟩
   case measure=>simp [intOf];omega
  ·obtain rfl:k=m:=by omega
   have HO:=aim hown;clear hown hx hb;go_wp2;go_ret;exact ⟨_,rfl,by rw [jS];exact HO.out,HB.out⟩
theorem vl (v:Value) (l:List Cl) (h60:l.length≤60) (hok:l.all okM=true) (j:Nat): ∀(f t d:Nat) (w:World),Exs (amL l) 1 f t d→t-f≤j→RowC w v l→
  Calls Tryz.prog 94 #[v, .int .i64 (f:Int)] w fun e w'=>e= .returned (.int .i64 (d:Int))∧Below w.heap.size w w':=by
 induction j with
 |zero=>intro f t d w h hj;have:=h.le;omega
 |succ j ih=>
  intro f t d w h hj hr;obtain ⟨m,e,hm,hx,rfl⟩:=h.inv;have HK:=aim (pT v l f m t e w hr h60 hok hm hx);have HR:=aim hr;obtain ⟨ao,cap,rfl,h1,h2,h3⟩:=hr;unfold maxLen at h2;have hdep:=ExsS.dep hx;have htl:=h.le.2 (by omega);rw [di] at htl
  have hml:m≤60:=by have:=hx.le;omega
  have IH:=aim ih;have HX:=aim hx;have HLEN:=aim (jS (amL l) m (f+1));have HST:=aim (show Exs (amL l) 0 (f+1) (f+1) 0 from .nil _);clear h3 ih h hm hx
  go_enter Tryz.func94,Tryz.ntmps94
  go_wp2_with fail;refine HK.out.mono ?_;rintro e1 w1 ⟨v1,rfl,hown1,hb1⟩;obtain ⟨hri,-⟩:=RowI.of_own hown1;have HB1:=aim hb1;generalize hL:ga (amL l) (f+1) m=L at*;have HLL:=aim hL;clear hL;obtain ⟨bo,cp,rfl,g1,g2,g3⟩:=hri;have hLm:=HLEN.out;rw [hLm] at g1⊢;unfold maxLen at g2;have G3:=aim g3;clear g3 hb1 hown1 hLm;go_wp2_with fail
  go_loopw [5,7] (fun dp i wr=> ∃k e0:Nat,k≤m∧i= .int .i64 (k:Int)∧dp= .int .i64 (e0:Int)∧(∃g,Exs (amL l) k (f+1) g e0)∧Below w1.heap.size w1 wr) (fun _ i _=>m-(intOf i).toNat)
  case atStart=>exact ⟨0,0,air _,rfl,rfl,⟨_,HST.out⟩,Below.refl _ _⟩
  case round=>
   obtain ⟨k,e0,hk,rfl,rfl,hgx,hb⟩:=hrel;have HG:=aim hgx;have HB:=aim hb;clear hgx hb
   by_cases hlt:k<m
   ·obtain ⟨kk,g',d0,d1,d2,j1,j2,j3,j4,j5,j6⟩:=ahI HX.out k hlt
    obtain ⟨gx,hgx⟩:=HG.out;obtain ⟨rfl,rfl⟩:=hgx.uniq j2;rw [HLL.out] at j1
    have hkL:k<L.length:=by rw [HLEN.out];exact hlt
    rw [List.getElem?_eq_getElem hkL] at j1;injection j1 with j1
    obtain ⟨b,rfl,hbl,cc⟩:=G3.out.resolve_left (by rintro rfl;simp at hkL);have c1:=cc k hkL;rw [j1] at c1;have c1':=(HB.out.cell (p:=⟨b,k,none⟩) hbl).trans c1;have l2:=j2.le;have l3:=j3.le;have l5:=j5.le;have p2:=ExsS.dep j2;have p3:=ExsS.dep j3;have HJ3:=aim j3;have HJ4:=aim j4;clear cc c1 j1 j2 j3 j4 j5 hgx HG;go_wp2_with fail;refine (IH.out _ g' d1 _ HJ3.out (by omega) (HR.out.mono (HB1.out.trans (HB.out.mono HB1.out.size)))).mono ?_;rintro e2 w2 ⟨rfl,hb2⟩;have HB2:=aim (HB.out.trans (hb2.mono HB.out.size));clear hb2;go_wp2;go_roundw
    case rel=>exact ⟨k+1,max e0 d1,by omega,by go_num,by first|rfl|(congr 1;omega),⟨_,HJ4.out⟩,HB2.out⟩
    case measure=>simp [intOf];omega
   ·obtain rfl:k=m:=by omega
    obtain ⟨gx,hgx⟩:=HG.out;obtain ⟨-,rfl⟩:=hgx.uniq HX.out;have HBB:=aim (HB1.out.trans (HB.out.mono HB1.out.size));clear hgx;go_wp2;go_ret;exact ⟨tb (by omega),HBB.out⟩
theorem ad0 {l:List Cl} (h: ¬l.all okC=true):okE l=false:=by
 rw [Bool.eq_false_iff];intro h';exact h ((dL l).mp h').2.1
theorem abB {l:List Cl} {k:Nat} (h:k<l.length):(l.take (k+1)).all okC=((l.take k).all okC&&okC l[k]):=by
 rw [List.take_succ_eq_append_getElem h,List.all_append];simp
theorem kC (v:Value) (l:List Cl) (w:World) (hr:RowC w v l) (hz:dQ l) (hl:l.length≤1048576):
  Calls Tryz.prog 48 #[v] w fun e w'=>e= .returned (.bool (okE l))∧Below w.heap.size w w':=by
 have HR:=aim hr;obtain ⟨ao,cap,rfl,h1,h2,h3⟩:=hr;unfold maxLen at h2;have H3:=aim h3;have HZ:=aim hz;clear h3 hz
 have key: ∃b,okE l=b:=⟨_,rfl⟩
 obtain ⟨bk,hbk⟩:=key;rw [hbk];have HBK:=aim hbk;clear hbk
 go_enter Tryz.func48,Tryz.ntmps48
 go_wp2
 go_loopw [3] (fun i wr=> ∃k:Nat,k≤l.length∧i= .int .i64 (k:Int)∧(l.take k).all okC=true∧Below w.heap.size w wr) (fun i _=>l.length-(intOf i).toNat)
 case atStart=>exact ⟨0,air _,rfl,rfl,Below.refl _ _⟩
 case round=>
  obtain ⟨k,hk,rfl,hok,hb⟩:=hrel;have HOK:=aim hok;have HB:=aim hb;clear hok hb
  by_cases hlt:k<l.length
  ·obtain ⟨b,o,rfl,hbl,cc⟩:=H3.out.resolve_left (by rintro rfl;simp at hlt)
   obtain ⟨c0,c1,c2⟩:=cc k hlt;have d0:wr.cell? ⟨b,o+k*3,none⟩=some (.int .i64 l[k].1):=(HB.out.cell (p:=⟨b,_,none⟩) hbl).trans c0;have d1:wr.cell? ⟨b,o+k*3+1,none⟩=some (.string l[k].2.1):=(HB.out.cell (p:=⟨b,_,none⟩) hbl).trans c1;have d2:wr.cell? ⟨b,o+k*3+2,none⟩=some (.int .i64 l[k].2.2):=(HB.out.cell (p:=⟨b,_,none⟩) hbl).trans c2;have hzk:l[k].2.1.size≤1048576:=HZ.out _ (List.getElem_mem _);have HT:=aim (abB hlt);have HC:=aim (show okC l[k]=aQ l[k].1 l[k].2.1 l[k].2.2 from rfl);generalize l[k].1=kk at d0 HC;generalize l[k].2.1=ss at d1 HC hzk;generalize l[k].2.2=mm at d2 HC;have HZK:=aim hzk;clear cc c0 c1 c2 hzk;go_wp2_with fail;refine (pS kk mm ss _ HZK.out).mono ?_;rintro e w1 ⟨rfl,hb1⟩;have HB1:=aim (HB.out.trans (hb1.mono HB.out.size));clear hb1
   cases hcb:aQ kk ss mm with
   |true=>
    have HN:=aim (show (l.take (k+1)).all okC=true by rw [HT.out,HOK.out,HC.out,hcb];rfl);clear hcb;go_wp2;go_roundw
    case rel=>exact ⟨k+1,by omega,by go_num,HN.out,HB1.out⟩
    case measure=>simp [intOf];omega
   |false=>
    have HN:=aim (ad0 (l:=l) (fun h=>by
     have:=lL h k hlt
     rw [HC.out,hcb] at this;cases this))
    clear hcb;go_wp2;go_ret;exact ⟨fE (HN.out.symm.trans HBK.out),HB1.out⟩
  ·obtain rfl:k=l.length:=by omega
   have HAL:=aim (show l.all okC=true by have:=HOK.out;rwa [List.take_of_length_le (ain _)] at this)
   by_cases hin:1≤l.length∧l.length≤60
   ·have HIN:=aim (show inI (l.length:Int) 1 60=true by simp [inI];omega)
    cases hsc:scA ((amL l).drop 0) 0 1 with
    |none=>
     have HE:=aim (rQ hsc)
     have HN:=aim (show okE l=false by
      rw [Bool.eq_false_iff];intro h';obtain ⟨-,-,d,-,hx⟩:=(dL l).mp h'
      rw [hx.sc0] at hsc;cases hsc)
     have hne:((-1:Int)==(l.length:Int))=false:=beq_eq_false_iff_ne.mpr (by omega);clear hsc;go_wp2_with fail;refine (eh _ _ _ _).mono ?_;rintro e w' ⟨rfl,rfl⟩;rw [HIN.out];go_wp2_with fail;refine (lw _ l 0 _ (HR.out.mono HB.out) hin.2 (o6 HAL.out) (air _)).mono ?_;rintro e w' ⟨rfl,rfl⟩;rw [HE.out];go_wp2;go_ret;exact ⟨fE (HN.out.symm.trans HBK.out),HB.out⟩
    |some t=>
     have HE:=aim (lu hsc);obtain ⟨d,hx⟩:=ack (amL l) (amL l).length 1 0 t (by omega) hsc;have HX:=aim hx;have hdep:=ExsS.dep hx;have hle:=hx.le.2 (by omega);rw [di] at hle;clear hsc hx
     by_cases htl:t=l.length
     ·subst htl
      have HN:=aim (show okE l=decide ((d:Int)≤12) by
       rw [Bool.eq_iff_iff,dL,decide_eq_true_eq]
       constructor
       ·rintro ⟨-,-,d',hd,hx'⟩
        obtain ⟨-,rfl⟩:=HX.out.uniq hx';omega
       ·intro hd;exact ⟨hin.2,HAL.out,d,by omega,HX.out⟩)
      have hne:((l.length:Int)==(l.length:Int))=true:=beq_self_eq_true _;go_wp2_with fail;refine (eh _ _ _ _).mono ?_;rintro e w' ⟨rfl,rfl⟩;rw [HIN.out];go_wp2_with fail;refine (lw _ l 0 _ (HR.out.mono HB.out) hin.2 (o6 HAL.out) (air _)).mono ?_;rintro e w' ⟨rfl,rfl⟩;rw [HE.out];go_wp2_with fail;refine (vl _ l hin.2 (o6 HAL.out) l.length 0 l.length d _ HX.out (by omega) (HR.out.mono HB.out)).mono ?_;rintro e w2 ⟨rfl,hb2⟩;have HB2:=aim (HB.out.trans (hb2.mono HB.out.size));clear hb2
      by_cases hd:(d:Int)≤12
      ·have HN2:=aim (show okE l=true by rw [HN.out,decide_eq_true hd])
       go_wp2;go_ret;exact ⟨fE (HN2.out.symm.trans HBK.out),HB2.out⟩
      ·go_wp2
       go_ret;exact ⟨fE (HN.out.symm.trans HBK.out),HB2.out⟩
     ·have HN:=aim (show okE l=false by
       rw [Bool.eq_false_iff];intro h';obtain ⟨-,-,d',-,hx'⟩:=(dL l).mp h'
       exact htl (HX.out.uniq hx').1)
      have hne:((t:Int)==(l.length:Int))=false:=beq_eq_false_iff_ne.mpr (by omega);have hne2:(t==l.length)=false:=beq_eq_false_iff_ne.mpr htl;go_wp2_with fail;refine (eh _ _ _ _).mono ?_;rintro e w' ⟨rfl,rfl⟩;rw [HIN.out];go_wp2_with fail;refine (lw _ l 0 _ (HR.out.mono HB.out) hin.2 (o6 HAL.out) (air _)).mono ?_;rintro e w' ⟨rfl,rfl⟩;rw [HE.out];go_wp2;go_ret;exact ⟨fE (HN.out.symm.trans HBK.out),HB.out⟩
   ·have HIN:=aim (show inI (l.length:Int) 1 60=false by simp [inI];omega)
    have HN:=aim (show okE l=false by
     rw [Bool.eq_false_iff];intro h';obtain ⟨h60,-,d,-,hx⟩:=(dL l).mp h'
     have:=hx.le;omega)
    go_wp2_with fail;refine (eh _ _ _ _).mono ?_;rintro e w' ⟨rfl,rfl⟩;rw [HIN.out];go_wp2;go_ret;exact ⟨fE (HN.out.symm.trans HBK.out),HB.out⟩
end Go.Proofs.YthijkjnngfnfdaaGreatDoor
