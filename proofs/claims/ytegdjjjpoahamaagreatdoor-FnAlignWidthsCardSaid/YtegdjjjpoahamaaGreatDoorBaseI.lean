/-
  Several texts of the proof in one file: Signs, ReadS, ReadSAll, CellS, ExprS, ExprS2.
-/
import Derived.Test.YtegdjjjpoahamaaGreatDoorBaseE
import Derived.Test.YtegdjjjpoahamaaGreatDoorBaseA
import Derived.Deep.DeepCutAuto
import Derived.Test.YtegdjjjpoahamaaGreatDoorBaseC
import Derived.Deep.Draws
import Derived.Deep.AppendLies
import Derived.Deep.RegionHeld3
import Derived.RegionTactic
import Derived.Deep.DrawnRows
import Derived.Laws.Rows
set_option linter.unusedVariables false
set_option maxHeartbeats 8000000
set_option maxRecDepth 100000
namespace Go.Proofs.YtegdjjjpoahamaaGreatDoor
open Go.RowKit
theorem lsS (s:ByteArray) (l:List UInt8):(s.toList==l)=(s.data.toList==l):=by rw [ByteArray.toList_eq]
theorem ls_yes {s:ByteArray} {l:List UInt8} (h:s.data.toList=l):(s.toList==l)=true:=by rw [lsS,h];exact beq_self_eq_true l
theorem ls_no {s:ByteArray} {l:List UInt8} (h:s.data.toList≠l):(s.toList==l)=false:=by rw [lsS];exact beq_eq_false_iff_ne.mpr h
theorem l5Binary_any (s:ByteArray) (w:World):
  Calls Tryz.prog 143 #[.string s] w fun e w'=>e= .returned (.int .i64 (rankL s.data.toList))∧w=w':=by
 go_enter Tryz.func143,Tryz.ntmps143
 go_wp2
 all_goals
  go_ret
  refine ⟨?_,rfl⟩
  simp_all [rankL,ByteArray.toList_eq]
theorem binarySign_any (s:ByteArray) (w:World):
  Calls Tryz.prog 230 #[.string s] w fun e w'=>e= .returned (.bool (decide (0<rankL s.data.toList)))∧w=w':=by
 go_enter Tryz.func230,Tryz.ntmps230
 go_wp2
 all_goals
  go_ret
  refine ⟨?_,rfl⟩
  simp_all [rankL,ByteArray.toList_eq]
theorem body_neg (s:ByteArray) (h:negS s=true):0<s.size∧s.extract 1 s.size=bodyS s∧ ∀(hz:0<s.size),(s[0].toNat:Int)=45:=by
 have hl:s.data.toList.length=s.size:=by rw [Array.length_toList];rfl
 unfold negS Lib.hasPrefix at h
 cases hx:s.data.toList with
 |nil=>rw [hx] at h;simp [List.isPrefixOf] at h
 |cons c l=>
  rw [hx] at h
  simp [List.isPrefixOf] at h
  have hz:0<s.size:=by rw [←hl,hx];simp
  refine ⟨hz, ?_, ?_⟩
  ·apply strL
   have e:(s.extract 1 s.size).data.toList=(s.data.toList.drop 1).take (s.size-1):=by simp [ByteArray.data_extract]
   rw [e,List.take_of_length_le (by rw [List.length_drop,hl];exact Nat.le_refl _)]
   unfold Lib.trimPrefix Lib.hasPrefix
   rw [hx];simp [List.isPrefixOf,h]
  ·intro _
   have e:s[0]=c:=by
    have:s.data.toList[0]? =some c:=by rw [hx];rfl
    rw [List.getElem?_eq_getElem (by omega)] at this
    exact Option.some.inj this
   rw [e,←h];rfl
theorem body_pos (s:ByteArray) (h:negS s=false):bodyS s=s∧ ∀(hz:0<s.size),((s[0].toNat:Int)==45)=false:=by
 have hl:s.data.toList.length=s.size:=by rw [Array.length_toList];rfl
 have hb:bodyS s=s:=by
  unfold bodyS Lib.trimPrefix
  unfold negS at h
  rw [h]
  apply ByteArray.ext;simp
 refine ⟨hb,fun hz=> ?_⟩
 unfold negS Lib.hasPrefix at h
 cases hx:s.data.toList with
 |nil=>rw [hx] at hl;simp at hl;omega
 |cons c l=>
  rw [hx] at h
  simp [List.isPrefixOf] at h
  have e:s[0]=c:=by
   have:s.data.toList[0]? =some c:=by rw [hx];rfl
   rw [List.getElem?_eq_getElem (by omega)] at this
   exact Option.some.inj this
  rw [e,show (45:Int)=((45:UInt8).toNat:Int) from rfl,beq_eq_false_iff_ne]
  intro e2
  exact h (UInt8.toNat_inj.mp (by omega))
theorem l2D0 (X:ByteArray) (w:World) (hs:X.size≤2097152):
  Calls Tryz.prog 192 #[.string X, .int .i64 0, .int .i64 10] w fun e w'=>e= .returned (.tuple #[.int .i64 ((valAt X 0 (spK X):Nat):Int), .int .i64 ((spK X:Nat):Int)])∧w=w':=by
 have:=l2Digits_any X 0 10 w hs (by omega) (by omega)
 rw [Nat.zero_add] at this
 exact this
theorem l2D1 (X:ByteArray) (w:World) (hs:X.size≤2097152) (hk:spK X+1≤X.size):
  Calls Tryz.prog 192 #[.string X, .int .i64 ((spK X+1:Nat):Int), .int .i64 7] w fun e w'=>e= .returned (.tuple #[.int .i64 ((valAt X (spK X+1) (spJ X):Nat):Int), .int .i64 ((spK X+1+spJ X:Nat):Int)])∧w=w':=
 l2Digits_any X (spK X+1) 7 w hs hk (by omega)
theorem val0_bd (X:ByteArray):valAt X 0 (spK X)<10000000000:=by
 unfold valAt spK runAt
 exact valD_bd _ (runD_take _ _) (by rw [List.length_take];have:=(runD_le (X.data.toList.drop 0) 10).2;omega)
theorem val1_bd (X:ByteArray):valAt X (spK X+1) (spJ X)<10000000000:=by
 unfold valAt spJ runAt
 exact valD_bd _ (runD_take _ _) (by rw [List.length_take];have:=(runD_le (X.data.toList.drop (spK X+1)) 7).2;omega)
theorem spK_le (X:ByteArray):spK X≤X.size:=by
 unfold spK runAt
 have:=(runD_le (X.data.toList.drop 0) 10).1
 rw [List.drop_zero,Array.length_toList] at this
 exact this
theorem op_zero (v:Bool) (x y:Int) (h:opOK v x y=false):opT v x y=0∧opB v x y=0:=by
 cases v with
 |false=>exact ⟨(op_false _ _).1,(op_false _ _).2.1⟩
 |true=>
  rw [(op_true _ _).2.2] at h
  rw [(op_true _ _).1,(op_true _ _).2.1]
  exact mk_no h
theorem op_bd (v:Bool) (x y:Int): -1000000000≤opT v x y∧opT v x y≤1000000000:=by
 unfold opT
 split
 ·unfold mkT
  split
  ·rename_i h;have:=vB_bd h;omega
  ·omega
 ·omega
theorem read_pos1 (s:ByteArray) (w:World) (hs:s.size≤2097152) (hng:negS s=false) (hne:0<s.size) (h1:spO s=true)
  (T B:Int) (hT:T=spT s) (hB:B=spB s) (good:Bool) (hgood:(textF T B==s.data.toList)=good):
  Calls Tryz.prog 168 #[.string s] w fun e w'=>e=fr (if good=true then T else 0) (if good=true then B else 0) good∧Below w.heap.size w w':=by
 have b45:((s[0].toNat:Int)==45)=false:=(body_pos s hng).2 hne
 have e0:s.toList.isEmpty=false:=by
  rw [ByteArray.toList_eq]
  cases hc:s.data.toList with
  |nil=>have:=congrArg List.length hc;rw [Array.length_toList] at this;simp only [List.length_nil] at this;have h':s.size=0:=this;omega
  |cons x l=>rfl
 have e1:(s.toList==[])=false:=by cases hc:s.toList with
  |nil=>rw [hc] at e0;cases e0
  |cons x l=>rfl
 have hsz:s.size≤2097152:=hs
 clear hng
 have CD:=Lib.hid (fun w'=>decimal_spec s w' hsz)
 obtain ⟨o1,o2⟩:=op_bd (decV s.data.toList) (decX s.data.toList) (decY s.data.toList)
 have hO:spO s=opOK (decV s.data.toList) (decX s.data.toList) (decY s.data.toList):=rfl
 have hT2:T=opT (decV s.data.toList) (decX s.data.toList) (decY s.data.toList):=by rw [hT,spT,if_pos h1]
 have hB2:B=opB (decV s.data.toList) (decX s.data.toList) (decY s.data.toList):=by rw [hB,spB,if_pos h1]
 rw [←hO,h1,←hT2,←hB2] at CD
 rw [←hT2] at o1 o2
 clear hO hT hB hT2 hB2 h1
 have HEQ:=Lib.hid (eqL (textF T B) s)
 rw [hgood] at HEQ
 have CT:=Lib.hid (fun w'=>fractionText_spec T B w')
 clear hgood
 generalize (⟨(textF T B).toArray⟩:ByteArray)=Z at*
 have hEE:(Z.toList==s.toList)=good:=HEQ.out
 cases good
 all_goals
  go_enter Tryz.func168,Tryz.ntmps168
  go_wp2_with fail
  refine (CD.out _).mono ?_
  rintro e w1 ⟨rfl,hb1⟩
  have Z1:=Lib.hid ((ZeroF.new w 170).keep hb1)
  have hN:w.heap.size<w1.heap.size:=Z1.out.2.2.2.2
  have hN1:w.heap.size≠w1.heap.size:=by omega
  have HB1:=Lib.hid (((Below.refl _ w).alloc (Nat.le_refl _) _).trans (hb1.mono (by simp)));clear hb1
  go_wp2_with fail
  refine (CT.out _).mono ?_
  rintro e w3 ⟨rfl,hb3⟩
  have Z3:=Lib.hid ((Z1.out.al _).keep hb3)
  have F3:=Lib.hid (FrAt.keep (FrAt.new _ _ _ _) hb3)
  have HB3:=Lib.hid ((HB1.out.alloc HB1.out.size _).trans (hb3.mono (by have:=HB1.out.size;simp;omega)));clear hb3
  obtain ⟨u0,u1,u2,u3,u4⟩:=Z3.out
  obtain ⟨d0,d1⟩:=F3.out
  go_wp2
  exact bodyPost_ret (v:= .tuple #[.agg #[.int .i64 _, .int .i64 _], .bool _]) (by simp [results,Tryz.results168,go_sem,u0,u1]) rfl ⟨rfl,(HB3.out.setCell (Nat.le_refl _) _).setCell (Nat.le_refl _) _⟩
theorem read_pos2 (s:ByteArray) (w:World) (hs:s.size≤2097152) (hng:negS s=false) (hne:0<s.size) (h1:spO s=false) (h2:spK s=0)
  (T B:Int) (hT:T=spT s) (hB:B=spB s) (good:Bool) (hgood:(textF T B==s.data.toList)=good):
  Calls Tryz.prog 168 #[.string s] w fun e w'=>e=fr (if good=true then T else 0) (if good=true then B else 0) good∧Below w.heap.size w w':=by
 have b45:((s[0].toNat:Int)==45)=false:=(body_pos s hng).2 hne
 have e0:s.toList.isEmpty=false:=by
  rw [ByteArray.toList_eq]
  cases hc:s.data.toList with
  |nil=>have:=congrArg List.length hc;rw [Array.length_toList] at this;simp only [List.length_nil] at this;have h':s.size=0:=this;omega
  |cons x l=>rfl
 have e1:(s.toList==[])=false:=by cases hc:s.toList with
  |nil=>rw [hc] at e0;cases e0
  |cons x l=>rfl
 have hsz:s.size≤2097152:=hs
 clear hng
 have CD:=Lib.hid (fun w'=>decimal_spec s w' hsz)
 obtain ⟨o1,o2⟩:=op_bd (decV s.data.toList) (decX s.data.toList) (decY s.data.toList)
 have hO:spO s=opOK (decV s.data.toList) (decX s.data.toList) (decY s.data.toList):=rfl
 obtain ⟨q1,q2⟩:=op_zero _ _ _ (hO.symm.trans h1)
 rw [←hO,h1,q1,q2] at CD
 clear o1 o2 q1 q2 hO
 have hvb:=val0_bd s
 have hvb1:=val1_bd s
 have hkl:=spK_le s
 have C0:=Lib.hid (fun w'=>l2D0 s w' hsz)
 have hgo:spGo s=false:=by simp [spGo,spSl,h2]
 have hT2:T=0:=by rw [hT,spT,h1,hgo,if_neg (by simp),if_neg (by intro h;omega),if_neg (by simp)]
 have hB2:B=0:=by rw [hB,spB,h1,hgo,if_neg (by simp),if_neg (by intro h;omega),if_neg (by simp)]
 subst hT2 hB2
 clear hT hB hgo
 clear h1
 generalize hv0:valAt s 0 (spK s)=v0 at*
 generalize hk:spK s=k at*
 clear hv0 hk hvb1
 subst h2
 have HEQ:=Lib.hid (eqL (textF 0 0) s)
 rw [hgood] at HEQ
 have CT:=Lib.hid (fun w'=>fractionText_spec 0 0 w')
 clear hgood
 generalize (⟨(textF 0 0).toArray⟩:ByteArray)=Z at*
 have hEE:(Z.toList==s.toList)=good:=HEQ.out
 cases good
 all_goals
  go_enter Tryz.func168,Tryz.ntmps168
  go_wp2_with fail
  refine (CD.out _).mono ?_
  rintro e w1 ⟨rfl,hb1⟩
  have Z1:=Lib.hid ((ZeroF.new w 170).keep hb1)
  have hN:w.heap.size<w1.heap.size:=Z1.out.2.2.2.2
  have hN1:w.heap.size≠w1.heap.size:=by omega
  have HB1:=Lib.hid (((Below.refl _ w).alloc (Nat.le_refl _) _).trans (hb1.mono (by simp)));clear hb1
  go_wp2_with fail
  refine (C0.out _).mono ?_
  rintro e w' ⟨rfl,rfl⟩
  go_wp2_with fail
  refine (CT.out _).mono ?_
  rintro e w3 ⟨rfl,hb3⟩
  have Z3:=Lib.hid ((Z1.out.al _).keep hb3)
  have F3:=Lib.hid (FrAt.keep (FrAt.new _ _ _ _) hb3)
  have HB3:=Lib.hid ((HB1.out.alloc HB1.out.size _).trans (hb3.mono (by have:=HB1.out.size;simp;omega)));clear hb3
  obtain ⟨u0,u1,u2,u3,u4⟩:=Z3.out
  obtain ⟨d0,d1⟩:=F3.out
  go_wp2
  exact bodyPost_ret (v:= .tuple #[.agg #[.int .i64 _, .int .i64 _], .bool _]) (by simp [results,Tryz.results168,go_sem,u0,u1]) rfl ⟨rfl,(HB3.out.setCell (Nat.le_refl _) _).setCell (Nat.le_refl _) _⟩
theorem read_pos3 (s:ByteArray) (w:World) (hs:s.size≤2097152) (hng:negS s=false) (hne:0<s.size) (h1:spO s=false) (h2:0<spK s) (h3:spK s=s.size)
  (T B:Int) (hT:T=spT s) (hB:B=spB s) (good:Bool) (hgood:(textF T B==s.data.toList)=good):
  Calls Tryz.prog 168 #[.string s] w fun e w'=>e=fr (if good=true then T else 0) (if good=true then B else 0) good∧Below w.heap.size w w':=by
 have b45:((s[0].toNat:Int)==45)=false:=(body_pos s hng).2 hne
 have e0:s.toList.isEmpty=false:=by
  rw [ByteArray.toList_eq]
  cases hc:s.data.toList with
  |nil=>have:=congrArg List.length hc;rw [Array.length_toList] at this;simp only [List.length_nil] at this;have h':s.size=0:=this;omega
  |cons x l=>rfl
 have e1:(s.toList==[])=false:=by cases hc:s.toList with
  |nil=>rw [hc] at e0;cases e0
  |cons x l=>rfl
 have hsz:s.size≤2097152:=hs
 clear hng
 have CD:=Lib.hid (fun w'=>decimal_spec s w' hsz)
 obtain ⟨o1,o2⟩:=op_bd (decV s.data.toList) (decX s.data.toList) (decY s.data.toList)
 have hO:spO s=opOK (decV s.data.toList) (decX s.data.toList) (decY s.data.toList):=rfl
 obtain ⟨q1,q2⟩:=op_zero _ _ _ (hO.symm.trans h1)
 rw [←hO,h1,q1,q2] at CD
 clear o1 o2 q1 q2 hO
 have hvb:=val0_bd s
 have hvb1:=val1_bd s
 have hkl:=spK_le s
 have C0:=Lib.hid (fun w'=>l2D0 s w' hsz)
 have hT2:T=((valAt s 0 (spK s):Nat):Int):=by rw [hT,spT,h1,if_neg (by simp),if_pos ⟨h2,h3⟩]
 have hB2:B=1:=by rw [hB,spB,h1,if_neg (by simp),if_pos ⟨h2,h3⟩]
 subst hB2
 clear hT hB
 clear h1
 generalize hv0:valAt s 0 (spK s)=v0 at*
 generalize hk:spK s=k at*
 clear hv0 hk hvb1
 subst hT2
 have g0:decide (0<k)=true:=decide_eq_true h2
 have g1:(((k:Nat):Int)==((s.size:Nat):Int))=true:=beq_iff_eq.mpr (by omega)
 have g2:decide (k<s.size)=false:=decide_eq_false (by omega)
 have g3:(k==s.size)=true:=beq_iff_eq.mpr h3
 clear h3
 have HEQ:=Lib.hid (eqL (textF (v0:Int) 1) s)
 rw [hgood] at HEQ
 have CT:=Lib.hid (fun w'=>fractionText_spec (v0:Int) 1 w')
 clear hgood
 generalize (⟨(textF (v0:Int) 1).toArray⟩:ByteArray)=Z at*
 have hEE:(Z.toList==s.toList)=good:=HEQ.out
 cases good
 all_goals
  go_enter Tryz.func168,Tryz.ntmps168
  go_wp2_with fail
  refine (CD.out _).mono ?_
  rintro e w1 ⟨rfl,hb1⟩
  have Z1:=Lib.hid ((ZeroF.new w 170).keep hb1)
  have hN:w.heap.size<w1.heap.size:=Z1.out.2.2.2.2
  have hN1:w.heap.size≠w1.heap.size:=by omega
  have HB1:=Lib.hid (((Below.refl _ w).alloc (Nat.le_refl _) _).trans (hb1.mono (by simp)));clear hb1
  go_wp2_with fail
  refine (C0.out _).mono ?_
  rintro e w' ⟨rfl,rfl⟩
  go_wp2_with fail
  refine (CT.out _).mono ?_
  rintro e w3 ⟨rfl,hb3⟩
  have Z3:=Lib.hid ((Z1.out.al _).keep hb3)
  have F3:=Lib.hid (FrAt.keep (FrAt.new _ _ _ _) hb3)
  have HB3:=Lib.hid ((HB1.out.alloc HB1.out.size _).trans (hb3.mono (by have:=HB1.out.size;simp;omega)));clear hb3
  obtain ⟨u0,u1,u2,u3,u4⟩:=Z3.out
  obtain ⟨d0,d1⟩:=F3.out
  go_wp2
  exact bodyPost_ret (v:= .tuple #[.agg #[.int .i64 _, .int .i64 _], .bool _]) (by simp [results,Tryz.results168,go_sem,u0,u1]) rfl ⟨rfl,(HB3.out.setCell (Nat.le_refl _) _).setCell (Nat.le_refl _) _⟩
theorem read_pos4 (s:ByteArray) (w:World) (hs:s.size≤2097152) (hng:negS s=false) (hne:0<s.size) (h1:spO s=false) (h2:0<spK s) (h3:spK s<s.size) (h4: ∀(hz:spK s<s.size),(s[spK s].toNat:Int)≠47)
  (T B:Int) (hT:T=spT s) (hB:B=spB s) (good:Bool) (hgood:(textF T B==s.data.toList)=good):
  Calls Tryz.prog 168 #[.string s] w fun e w'=>e=fr (if good=true then T else 0) (if good=true then B else 0) good∧Below w.heap.size w w':=by
 have b45:((s[0].toNat:Int)==45)=false:=(body_pos s hng).2 hne
 have e0:s.toList.isEmpty=false:=by
  rw [ByteArray.toList_eq]
  cases hc:s.data.toList with
  |nil=>have:=congrArg List.length hc;rw [Array.length_toList] at this;simp only [List.length_nil] at this;have h':s.size=0:=this;omega
  |cons x l=>rfl
 have e1:(s.toList==[])=false:=by cases hc:s.toList with
  |nil=>rw [hc] at e0;cases e0
  |cons x l=>rfl
 have hsz:s.size≤2097152:=hs
 clear hng
 have CD:=Lib.hid (fun w'=>decimal_spec s w' hsz)
 obtain ⟨o1,o2⟩:=op_bd (decV s.data.toList) (decX s.data.toList) (decY s.data.toList)
 have hO:spO s=opOK (decV s.data.toList) (decX s.data.toList) (decY s.data.toList):=rfl
 obtain ⟨q1,q2⟩:=op_zero _ _ _ (hO.symm.trans h1)
 rw [←hO,h1,q1,q2] at CD
 clear o1 o2 q1 q2 hO
 have hvb:=val0_bd s
 have hvb1:=val1_bd s
 have hkl:=spK_le s
 have C0:=Lib.hid (fun w'=>l2D0 s w' hsz)
 have hgo:spGo s=false:=by
  have e:s.data.toList[spK s]? =some s[spK s]:=by rw [List.getElem?_eq_getElem (by rw [Array.length_toList];exact h3)];rfl
  simp only [spGo,spSl,e]
  have:(some s[spK s]==some (47:UInt8))=false:=by
   rw [beq_eq_false_iff_ne];intro hh;apply h4 h3;rw [Option.some.inj hh];rfl
  rw [this];simp
 have hT2:T=0:=by rw [hT,spT,h1,hgo,if_neg (by simp),if_neg (by intro h;omega),if_neg (by simp)]
 have hB2:B=0:=by rw [hB,spB,h1,hgo,if_neg (by simp),if_neg (by intro h;omega),if_neg (by simp)]
 subst hT2 hB2
 clear hT hB hgo
 have f47:((s[spK s].toNat:Int)==47)=false:=beq_eq_false_iff_ne.mpr (h4 h3)
 clear h4
 clear h1
 generalize hv0:valAt s 0 (spK s)=v0 at*
 generalize hk:spK s=k at*
 clear hv0 hk hvb1
 have g0:decide (0<k)=true:=decide_eq_true h2
 have g1:(((k:Nat):Int)==((s.size:Nat):Int))=false:=beq_eq_false_iff_ne.mpr (by omega)
 have g2:decide (k<s.size)=true:=decide_eq_true h3
 have g3:(k==s.size)=false:=beq_eq_false_iff_ne.mpr (by omega)
 have HEQ:=Lib.hid (eqL (textF 0 0) s)
 rw [hgood] at HEQ
 have CT:=Lib.hid (fun w'=>fractionText_spec 0 0 w')
 clear hgood
 generalize (⟨(textF 0 0).toArray⟩:ByteArray)=Z at*
 have hEE:(Z.toList==s.toList)=good:=HEQ.out
 cases good
 all_goals
  go_enter Tryz.func168,Tryz.ntmps168
  go_wp2_with fail
  refine (CD.out _).mono ?_
  rintro e w1 ⟨rfl,hb1⟩
  have Z1:=Lib.hid ((ZeroF.new w 170).keep hb1)
  have hN:w.heap.size<w1.heap.size:=Z1.out.2.2.2.2
  have hN1:w.heap.size≠w1.heap.size:=by omega
  have HB1:=Lib.hid (((Below.refl _ w).alloc (Nat.le_refl _) _).trans (hb1.mono (by simp)));clear hb1
  go_wp2_with fail
  refine (C0.out _).mono ?_
  rintro e w' ⟨rfl,rfl⟩
  go_wp2_with fail
  refine (CT.out _).mono ?_
  rintro e w3 ⟨rfl,hb3⟩
  have Z3:=Lib.hid ((Z1.out.al _).keep hb3)
  have F3:=Lib.hid (FrAt.keep (FrAt.new _ _ _ _) hb3)
  have HB3:=Lib.hid ((HB1.out.alloc HB1.out.size _).trans (hb3.mono (by have:=HB1.out.size;simp;omega)));clear hb3
  obtain ⟨u0,u1,u2,u3,u4⟩:=Z3.out
  obtain ⟨d0,d1⟩:=F3.out
  go_wp2
  exact bodyPost_ret (v:= .tuple #[.agg #[.int .i64 _, .int .i64 _], .bool _]) (by simp [results,Tryz.results168,go_sem,u0,u1]) rfl ⟨rfl,(HB3.out.setCell (Nat.le_refl _) _).setCell (Nat.le_refl _) _⟩
theorem read_pos5 (s:ByteArray) (w:World) (hs:s.size≤2097152) (hng:negS s=false) (hne:0<s.size) (h1:spO s=false) (h2:0<spK s) (h3:spK s<s.size) (h4: ∀(hz:spK s<s.size),(s[spK s].toNat:Int)=47) (h5: ¬(spK s+1+spJ s=s.size∧0<valAt s (spK s+1) (spJ s)))
  (T B:Int) (hT:T=spT s) (hB:B=spB s) (good:Bool) (hgood:(textF T B==s.data.toList)=good):
  Calls Tryz.prog 168 #[.string s] w fun e w'=>e=fr (if good=true then T else 0) (if good=true then B else 0) good∧Below w.heap.size w w':=by
 have b45:((s[0].toNat:Int)==45)=false:=(body_pos s hng).2 hne
 have e0:s.toList.isEmpty=false:=by
  rw [ByteArray.toList_eq]
  cases hc:s.data.toList with
  |nil=>have:=congrArg List.length hc;rw [Array.length_toList] at this;simp only [List.length_nil] at this;have h':s.size=0:=this;omega
  |cons x l=>rfl
 have e1:(s.toList==[])=false:=by cases hc:s.toList with
  |nil=>rw [hc] at e0;cases e0
  |cons x l=>rfl
 have hsz:s.size≤2097152:=hs
 clear hng
 have CD:=Lib.hid (fun w'=>decimal_spec s w' hsz)
 obtain ⟨o1,o2⟩:=op_bd (decV s.data.toList) (decX s.data.toList) (decY s.data.toList)
 have hO:spO s=opOK (decV s.data.toList) (decX s.data.toList) (decY s.data.toList):=rfl
 obtain ⟨q1,q2⟩:=op_zero _ _ _ (hO.symm.trans h1)
 rw [←hO,h1,q1,q2] at CD
 clear o1 o2 q1 q2 hO
 have hvb:=val0_bd s
 have hvb1:=val1_bd s
 have hkl:=spK_le s
 have C0:=Lib.hid (fun w'=>l2D0 s w' hsz)
 have C1:=Lib.hid (fun w'=>l2D1 s w' hsz (by omega))
 have hgo:spGo s=false:=by
  rw [Bool.eq_false_iff];intro hg
  simp only [spGo,Bool.and_eq_true,decide_eq_true_eq] at hg
  exact h5 ⟨hg.1.2,hg.2⟩
 have hT2:T=0:=by rw [hT,spT,h1,hgo,if_neg (by simp),if_neg (by intro h;omega),if_neg (by simp)]
 have hB2:B=0:=by rw [hB,spB,h1,hgo,if_neg (by simp),if_neg (by intro h;omega),if_neg (by simp)]
 subst hT2 hB2
 clear hT hB hgo
 have f47:((s[spK s].toNat:Int)==47)=true:=beq_iff_eq.mpr (h4 h3)
 clear h4
 clear h1
 generalize hv0:valAt s 0 (spK s)=v0 at*
 generalize hv1:valAt s (spK s+1) (spJ s)=v1 at*
 generalize hj:spJ s=j at*
 generalize hk:spK s=k at*
 generalize hm:k+1+j=m at*
 clear hv0 hk hv1 hj hm
 have g0:decide (0<k)=true:=decide_eq_true h2
 have g1:(((k:Nat):Int)==((s.size:Nat):Int))=false:=beq_eq_false_iff_ne.mpr (by omega)
 have g2:decide (k<s.size)=true:=decide_eq_true h3
 have g3:(k==s.size)=false:=beq_eq_false_iff_ne.mpr (by omega)
 have HEQ:=Lib.hid (eqL (textF 0 0) s)
 rw [hgood] at HEQ
 have CT:=Lib.hid (fun w'=>fractionText_spec 0 0 w')
 clear hgood
 generalize (⟨(textF 0 0).toArray⟩:ByteArray)=Z at*
 have hEE:(Z.toList==s.toList)=good:=HEQ.out
 cases good
 all_goals
  go_enter Tryz.func168,Tryz.ntmps168
  go_wp2_with fail
  refine (CD.out _).mono ?_
  rintro e w1 ⟨rfl,hb1⟩
  have Z1:=Lib.hid ((ZeroF.new w 170).keep hb1)
  have hN:w.heap.size<w1.heap.size:=Z1.out.2.2.2.2
  have hN1:w.heap.size≠w1.heap.size:=by omega
  have HB1:=Lib.hid (((Below.refl _ w).alloc (Nat.le_refl _) _).trans (hb1.mono (by simp)));clear hb1
  go_wp2_with fail
  refine (C0.out _).mono ?_
  rintro e w' ⟨rfl,rfl⟩
  go_wp2_with fail
  rw [show ((k:Int)+1)=((k+1:Nat):Int) by omega]
  refine (C1.out _).mono ?_
  rintro e w' ⟨rfl,rfl⟩
  by_cases h6:m=s.size
  ·have g4:(((m:Nat):Int)==((s.size:Nat):Int))=true:=beq_iff_eq.mpr (by omega)
   have g7:(m==s.size)=true:=beq_iff_eq.mpr h6
   have g5:decide (0<v1)=false:=decide_eq_false (fun h=>h5 ⟨h6,h⟩)
   have g6:v1=0:=by have:=of_decide_eq_false g5;omega
   clear h5 h6
   subst g6
   go_wp2_with fail
   refine (CT.out _).mono ?_
   rintro e w3 ⟨rfl,hb3⟩
   have Z3:=Lib.hid ((Z1.out.al _).keep hb3)
   have F3:=Lib.hid (FrAt.keep (FrAt.new _ _ _ _) hb3)
   have HB3:=Lib.hid ((HB1.out.alloc HB1.out.size _).trans (hb3.mono (by have:=HB1.out.size;simp;omega)));clear hb3
   obtain ⟨u0,u1,u2,u3,u4⟩:=Z3.out
   obtain ⟨d0,d1⟩:=F3.out
   go_wp2
   exact bodyPost_ret (v:= .tuple #[.agg #[.int .i64 _, .int .i64 _], .bool _]) (by simp [results,Tryz.results168,go_sem,u0,u1]) rfl ⟨rfl,(HB3.out.setCell (Nat.le_refl _) _).setCell (Nat.le_refl _) _⟩
  ·have g4:(((m:Nat):Int)==((s.size:Nat):Int))=false:=beq_eq_false_iff_ne.mpr (by omega)
   have g7:(m==s.size)=false:=beq_eq_false_iff_ne.mpr h6
   clear h5 h6
   go_wp2_with fail
   refine (CT.out _).mono ?_
   rintro e w3 ⟨rfl,hb3⟩
   have Z3:=Lib.hid ((Z1.out.al _).keep hb3)
   have F3:=Lib.hid (FrAt.keep (FrAt.new _ _ _ _) hb3)
   have HB3:=Lib.hid ((HB1.out.alloc HB1.out.size _).trans (hb3.mono (by have:=HB1.out.size;simp;omega)));clear hb3
   obtain ⟨u0,u1,u2,u3,u4⟩:=Z3.out
   obtain ⟨d0,d1⟩:=F3.out
   go_wp2
   exact bodyPost_ret (v:= .tuple #[.agg #[.int .i64 _, .int .i64 _], .bool _]) (by simp [results,Tryz.results168,go_sem,u0,u1]) rfl ⟨rfl,(HB3.out.setCell (Nat.le_refl _) _).setCell (Nat.le_refl _) _⟩
theorem read_pos6 (s:ByteArray) (w:World) (hs:s.size≤2097152) (hng:negS s=false) (hne:0<s.size) (h1:spO s=false) (h2:0<spK s) (h3:spK s<s.size) (h4: ∀(hz:spK s<s.size),(s[spK s].toNat:Int)=47) (h5:spK s+1+spJ s=s.size) (h6:0<valAt s (spK s+1) (spJ s))
  (T B:Int) (hT:T=spT s) (hB:B=spB s) (good:Bool) (hgood:(textF T B==s.data.toList)=good):
  Calls Tryz.prog 168 #[.string s] w fun e w'=>e=fr (if good=true then T else 0) (if good=true then B else 0) good∧Below w.heap.size w w':=by
 have b45:((s[0].toNat:Int)==45)=false:=(body_pos s hng).2 hne
 have e0:s.toList.isEmpty=false:=by
  rw [ByteArray.toList_eq]
  cases hc:s.data.toList with
  |nil=>have:=congrArg List.length hc;rw [Array.length_toList] at this;simp only [List.length_nil] at this;have h':s.size=0:=this;omega
  |cons x l=>rfl
 have e1:(s.toList==[])=false:=by cases hc:s.toList with
  |nil=>rw [hc] at e0;cases e0
  |cons x l=>rfl
 have hsz:s.size≤2097152:=hs
 clear hng
 have CD:=Lib.hid (fun w'=>decimal_spec s w' hsz)
 obtain ⟨o1,o2⟩:=op_bd (decV s.data.toList) (decX s.data.toList) (decY s.data.toList)
 have hO:spO s=opOK (decV s.data.toList) (decX s.data.toList) (decY s.data.toList):=rfl
 obtain ⟨q1,q2⟩:=op_zero _ _ _ (hO.symm.trans h1)
 rw [←hO,h1,q1,q2] at CD
 clear o1 o2 q1 q2 hO
 have hvb:=val0_bd s
 have hvb1:=val1_bd s
 have hkl:=spK_le s
 have C0:=Lib.hid (fun w'=>l2D0 s w' hsz)
 have C1:=Lib.hid (fun w'=>l2D1 s w' hsz (by omega))
 have e47:s.data.toList[spK s]? =some 47:=by
  rw [List.getElem?_eq_getElem (by rw [Array.length_toList];exact h3)]
  congr 1
  exact UInt8.toNat_inj.mp (by have:=h4 h3;show s[spK s].toNat=47;omega)
 have hgo:spGo s=true:=by simp only [spGo,spSl,e47,decide_eq_true h2,decide_eq_true h3,decide_eq_true h5,decide_eq_true h6];rfl
 have hT2:T=((valAt s 0 (spK s):Nat):Int):=by rw [hT,spT,h1,hgo,if_neg (by simp),if_neg (by intro h;omega),if_pos rfl]
 have hB2:B=((valAt s (spK s+1) (spJ s):Nat):Int):=by rw [hB,spB,h1,hgo,if_neg (by simp),if_neg (by intro h;omega),if_pos rfl]
 clear hT hB hgo e47
 have f47:((s[spK s].toNat:Int)==47)=true:=beq_iff_eq.mpr (h4 h3)
 clear h4
 clear h1
 generalize hv0:valAt s 0 (spK s)=v0 at*
 generalize hv1:valAt s (spK s+1) (spJ s)=v1 at*
 generalize hj:spJ s=j at*
 generalize hk:spK s=k at*
 generalize hm:k+1+j=m at*
 clear hv0 hk hv1 hj hm
 subst hT2 hB2
 have g0:decide (0<k)=true:=decide_eq_true h2
 have g1:(((k:Nat):Int)==((s.size:Nat):Int))=false:=beq_eq_false_iff_ne.mpr (by omega)
 have g2:decide (k<s.size)=true:=decide_eq_true h3
 have g3:(k==s.size)=false:=beq_eq_false_iff_ne.mpr (by omega)
 have g4:(((m:Nat):Int)==((s.size:Nat):Int))=true:=beq_iff_eq.mpr (by omega)
 have g6:(m==s.size)=true:=beq_iff_eq.mpr h5
 have g5:decide (0<v1)=true:=decide_eq_true h6
 clear h5
 have HEQ:=Lib.hid (eqL (textF (v0:Int) (v1:Int)) s)
 rw [hgood] at HEQ
 have CT:=Lib.hid (fun w'=>fractionText_spec (v0:Int) (v1:Int) w')
 clear hgood
 generalize (⟨(textF (v0:Int) (v1:Int)).toArray⟩:ByteArray)=Z at*
 have hEE:(Z.toList==s.toList)=good:=HEQ.out
 cases good
 all_goals
  go_enter Tryz.func168,Tryz.ntmps168
  go_wp2_with fail
  refine (CD.out _).mono ?_
  rintro e w1 ⟨rfl,hb1⟩
  have Z1:=Lib.hid ((ZeroF.new w 170).keep hb1)
  have hN:w.heap.size<w1.heap.size:=Z1.out.2.2.2.2
  have hN1:w.heap.size≠w1.heap.size:=by omega
  have HB1:=Lib.hid (((Below.refl _ w).alloc (Nat.le_refl _) _).trans (hb1.mono (by simp)));clear hb1
  go_wp2_with fail
  refine (C0.out _).mono ?_
  rintro e w' ⟨rfl,rfl⟩
  go_wp2_with fail
  rw [show ((k:Int)+1)=((k+1:Nat):Int) by omega]
  refine (C1.out _).mono ?_
  rintro e w' ⟨rfl,rfl⟩
  go_wp2_with fail
  refine (CT.out _).mono ?_
  rintro e w3 ⟨rfl,hb3⟩
  have Z3:=Lib.hid ((Z1.out.al _).keep hb3)
  have F3:=Lib.hid (FrAt.keep (FrAt.new _ _ _ _) hb3)
  have HB3:=Lib.hid ((HB1.out.alloc HB1.out.size _).trans (hb3.mono (by have:=HB1.out.size;simp;omega)));clear hb3
  obtain ⟨u0,u1,u2,u3,u4⟩:=Z3.out
  obtain ⟨d0,d1⟩:=F3.out
  go_wp2
  exact bodyPost_ret (v:= .tuple #[.agg #[.int .i64 _, .int .i64 _], .bool _]) (by simp [results,Tryz.results168,go_sem,u0,u1]) rfl ⟨rfl,(HB3.out.setCell (Nat.le_refl _) _).setCell (Nat.le_refl _) _⟩
theorem read_neg1 (s:ByteArray) (w:World) (hs:s.size≤2097152) (hng:negS s=true) (h1:spO (bodyS s)=true)
  (T B:Int) (hT:T=spT (bodyS s)) (hB:B=spB (bodyS s)) (good:Bool) (hgood:(textF (-T) B==s.data.toList)=good):
  Calls Tryz.prog 168 #[.string s] w fun e w'=>e=fr (if good=true then (-T) else 0) (if good=true then B else 0) good∧Below w.heap.size w w':=by
 obtain ⟨hne,hbx,h45⟩:=body_neg s hng
 have HBX:=Lib.hid hbx
 have b45:((s[0].toNat:Int)==45)=true:=beq_iff_eq.mpr (h45 hne)
 have e0:s.toList.isEmpty=false:=by
  rw [ByteArray.toList_eq]
  cases hc:s.data.toList with
  |nil=>have:=congrArg List.length hc;rw [Array.length_toList] at this;simp only [List.length_nil] at this;have h':s.size=0:=this;omega
  |cons x l=>rfl
 have e1:(s.toList==[])=false:=by cases hc:s.toList with
  |nil=>rw [hc] at e0;cases e0
  |cons x l=>rfl
 have hsz:(bodyS s).size≤2097152:=by have:=bodyS_le s;omega
 clear hng hbx h45
 generalize hXX:bodyS s=X at*
 clear hXX
 have CD:=Lib.hid (fun w'=>decimal_spec X w' hsz)
 obtain ⟨o1,o2⟩:=op_bd (decV X.data.toList) (decX X.data.toList) (decY X.data.toList)
 have hO:spO X=opOK (decV X.data.toList) (decX X.data.toList) (decY X.data.toList):=rfl
 have hT2:T=opT (decV X.data.toList) (decX X.data.toList) (decY X.data.toList):=by rw [hT,spT,if_pos h1]
 have hB2:B=opB (decV X.data.toList) (decX X.data.toList) (decY X.data.toList):=by rw [hB,spB,if_pos h1]
 rw [←hO,h1,←hT2,←hB2] at CD
 rw [←hT2] at o1 o2
 clear hO hT hB hT2 hB2 h1
 have HEQ:=Lib.hid (eqL (textF (-T) B) s)
 rw [hgood] at HEQ
 have CT:=Lib.hid (fun w'=>fractionText_spec (-T) B w')
 clear hgood
 generalize (⟨(textF (-T) B).toArray⟩:ByteArray)=Z at*
 have hEE:(Z.toList==s.toList)=good:=HEQ.out
 cases good
 all_goals
  go_enter Tryz.func168,Tryz.ntmps168
  go_wp2_with fail
  rw [HBX.out]
  refine (CD.out _).mono ?_
  rintro e w1 ⟨rfl,hb1⟩
  have Z1:=Lib.hid ((ZeroF.new w 170).keep hb1)
  have hN:w.heap.size<w1.heap.size:=Z1.out.2.2.2.2
  have hN1:w.heap.size≠w1.heap.size:=by omega
  have HB1:=Lib.hid (((Below.refl _ w).alloc (Nat.le_refl _) _).trans (hb1.mono (by simp)));clear hb1
  go_wp2_with fail
  refine (CT.out _).mono ?_
  rintro e w3 ⟨rfl,hb3⟩
  have Z3:=Lib.hid ((Z1.out.al _).keep hb3)
  have F3:=Lib.hid (FrAt.keep (FrAt.new _ _ _ _) hb3)
  have HB3:=Lib.hid ((HB1.out.alloc HB1.out.size _).trans (hb3.mono (by have:=HB1.out.size;simp;omega)));clear hb3
  obtain ⟨u0,u1,u2,u3,u4⟩:=Z3.out
  obtain ⟨d0,d1⟩:=F3.out
  go_wp2
  exact bodyPost_ret (v:= .tuple #[.agg #[.int .i64 _, .int .i64 _], .bool _]) (by simp [results,Tryz.results168,go_sem,u0,u1]) rfl ⟨rfl,(HB3.out.setCell (Nat.le_refl _) _).setCell (Nat.le_refl _) _⟩
theorem read_neg2 (s:ByteArray) (w:World) (hs:s.size≤2097152) (hng:negS s=true) (h1:spO (bodyS s)=false) (h2:spK (bodyS s)=0)
  (T B:Int) (hT:T=spT (bodyS s)) (hB:B=spB (bodyS s)) (good:Bool) (hgood:(textF (-T) B==s.data.toList)=good):
  Calls Tryz.prog 168 #[.string s] w fun e w'=>e=fr (if good=true then (-T) else 0) (if good=true then B else 0) good∧Below w.heap.size w w':=by
 obtain ⟨hne,hbx,h45⟩:=body_neg s hng
 have HBX:=Lib.hid hbx
 have b45:((s[0].toNat:Int)==45)=true:=beq_iff_eq.mpr (h45 hne)
 have e0:s.toList.isEmpty=false:=by
  rw [ByteArray.toList_eq]
  cases hc:s.data.toList with
  |nil=>have:=congrArg List.length hc;rw [Array.length_toList] at this;simp only [List.length_nil] at this;have h':s.size=0:=this;omega
  |cons x l=>rfl
 have e1:(s.toList==[])=false:=by cases hc:s.toList with
  |nil=>rw [hc] at e0;cases e0
  |cons x l=>rfl
 have hsz:(bodyS s).size≤2097152:=by have:=bodyS_le s;omega
 clear hng hbx h45
 generalize hXX:bodyS s=X at*
 clear hXX
 have CD:=Lib.hid (fun w'=>decimal_spec X w' hsz)
 obtain ⟨o1,o2⟩:=op_bd (decV X.data.toList) (decX X.data.toList) (decY X.data.toList)
 have hO:spO X=opOK (decV X.data.toList) (decX X.data.toList) (decY X.data.toList):=rfl
 obtain ⟨q1,q2⟩:=op_zero _ _ _ (hO.symm.trans h1)
 rw [←hO,h1,q1,q2] at CD
 clear o1 o2 q1 q2 hO
 have hvb:=val0_bd X
 have hvb1:=val1_bd X
 have hkl:=spK_le X
 have C0:=Lib.hid (fun w'=>l2D0 X w' hsz)
 have hgo:spGo X=false:=by simp [spGo,spSl,h2]
 have hT2:T=0:=by rw [hT,spT,h1,hgo,if_neg (by simp),if_neg (by intro h;omega),if_neg (by simp)]
 have hB2:B=0:=by rw [hB,spB,h1,hgo,if_neg (by simp),if_neg (by intro h;omega),if_neg (by simp)]
 subst hT2 hB2
 clear hT hB hgo
 clear h1
 generalize hv0:valAt X 0 (spK X)=v0 at*
 generalize hk:spK X=k at*
 clear hv0 hk hvb1
 subst h2
 have HEQ:=Lib.hid (eqL (textF (-0) 0) s)
 rw [hgood] at HEQ
 have CT:=Lib.hid (fun w'=>fractionText_spec (-0) 0 w')
 rw [show (-0:Int)=0 from rfl] at HEQ CT
 rw [show (-0:Int)=0 from rfl]
 clear hgood
 generalize (⟨(textF 0 0).toArray⟩:ByteArray)=Z at*
 have hEE:(Z.toList==s.toList)=good:=HEQ.out
 cases good
 all_goals
  go_enter Tryz.func168,Tryz.ntmps168
  go_wp2_with fail
  rw [HBX.out]
  refine (CD.out _).mono ?_
  rintro e w1 ⟨rfl,hb1⟩
  have Z1:=Lib.hid ((ZeroF.new w 170).keep hb1)
  have hN:w.heap.size<w1.heap.size:=Z1.out.2.2.2.2
  have hN1:w.heap.size≠w1.heap.size:=by omega
  have HB1:=Lib.hid (((Below.refl _ w).alloc (Nat.le_refl _) _).trans (hb1.mono (by simp)));clear hb1
  go_wp2_with fail
  refine (C0.out _).mono ?_
  rintro e w' ⟨rfl,rfl⟩
  go_wp2_with fail
  refine (CT.out _).mono ?_
  rintro e w3 ⟨rfl,hb3⟩
  have Z3:=Lib.hid ((Z1.out.al _).keep hb3)
  have F3:=Lib.hid (FrAt.keep (FrAt.new _ _ _ _) hb3)
  have HB3:=Lib.hid ((HB1.out.alloc HB1.out.size _).trans (hb3.mono (by have:=HB1.out.size;simp;omega)));clear hb3
  obtain ⟨u0,u1,u2,u3,u4⟩:=Z3.out
  obtain ⟨d0,d1⟩:=F3.out
  go_wp2
  exact bodyPost_ret (v:= .tuple #[.agg #[.int .i64 _, .int .i64 _], .bool _]) (by simp [results,Tryz.results168,go_sem,u0,u1]) rfl ⟨rfl,(HB3.out.setCell (Nat.le_refl _) _).setCell (Nat.le_refl _) _⟩
theorem read_neg3 (s:ByteArray) (w:World) (hs:s.size≤2097152) (hng:negS s=true) (h1:spO (bodyS s)=false) (h2:0<spK (bodyS s)) (h3:spK (bodyS s)=(bodyS s).size)
  (T B:Int) (hT:T=spT (bodyS s)) (hB:B=spB (bodyS s)) (good:Bool) (hgood:(textF (-T) B==s.data.toList)=good):
  Calls Tryz.prog 168 #[.string s] w fun e w'=>e=fr (if good=true then (-T) else 0) (if good=true then B else 0) good∧Below w.heap.size w w':=by
 obtain ⟨hne,hbx,h45⟩:=body_neg s hng
 have HBX:=Lib.hid hbx
 have b45:((s[0].toNat:Int)==45)=true:=beq_iff_eq.mpr (h45 hne)
 have e0:s.toList.isEmpty=false:=by
  rw [ByteArray.toList_eq]
  cases hc:s.data.toList with
  |nil=>have:=congrArg List.length hc;rw [Array.length_toList] at this;simp only [List.length_nil] at this;have h':s.size=0:=this;omega
  |cons x l=>rfl
 have e1:(s.toList==[])=false:=by cases hc:s.toList with
  |nil=>rw [hc] at e0;cases e0
  |cons x l=>rfl
 have hsz:(bodyS s).size≤2097152:=by have:=bodyS_le s;omega
 clear hng hbx h45
 generalize hXX:bodyS s=X at*
 clear hXX
 have CD:=Lib.hid (fun w'=>decimal_spec X w' hsz)
 obtain ⟨o1,o2⟩:=op_bd (decV X.data.toList) (decX X.data.toList) (decY X.data.toList)
 have hO:spO X=opOK (decV X.data.toList) (decX X.data.toList) (decY X.data.toList):=rfl
 obtain ⟨q1,q2⟩:=op_zero _ _ _ (hO.symm.trans h1)
 rw [←hO,h1,q1,q2] at CD
 clear o1 o2 q1 q2 hO
 have hvb:=val0_bd X
 have hvb1:=val1_bd X
 have hkl:=spK_le X
 have C0:=Lib.hid (fun w'=>l2D0 X w' hsz)
 have hT2:T=((valAt X 0 (spK X):Nat):Int):=by rw [hT,spT,h1,if_neg (by simp),if_pos ⟨h2,h3⟩]
 have hB2:B=1:=by rw [hB,spB,h1,if_neg (by simp),if_pos ⟨h2,h3⟩]
 subst hB2
 clear hT hB
 clear h1
 generalize hv0:valAt X 0 (spK X)=v0 at*
 generalize hk:spK X=k at*
 clear hv0 hk hvb1
 subst hT2
 have g0:decide (0<k)=true:=decide_eq_true h2
 have g1:(((k:Nat):Int)==((X.size:Nat):Int))=true:=beq_iff_eq.mpr (by omega)
 have g2:decide (k<X.size)=false:=decide_eq_false (by omega)
 have g3:(k==X.size)=true:=beq_iff_eq.mpr h3
 clear h3
 have HEQ:=Lib.hid (eqL (textF (-(v0:Int)) 1) s)
 rw [hgood] at HEQ
 have CT:=Lib.hid (fun w'=>fractionText_spec (-(v0:Int)) 1 w')
 clear hgood
 generalize (⟨(textF (-(v0:Int)) 1).toArray⟩:ByteArray)=Z at*
 have hEE:(Z.toList==s.toList)=good:=HEQ.out
 cases good
 all_goals
  go_enter Tryz.func168,Tryz.ntmps168
  go_wp2_with fail
  rw [HBX.out]
  refine (CD.out _).mono ?_
  rintro e w1 ⟨rfl,hb1⟩
  have Z1:=Lib.hid ((ZeroF.new w 170).keep hb1)
  have hN:w.heap.size<w1.heap.size:=Z1.out.2.2.2.2
  have hN1:w.heap.size≠w1.heap.size:=by omega
  have HB1:=Lib.hid (((Below.refl _ w).alloc (Nat.le_refl _) _).trans (hb1.mono (by simp)));clear hb1
  go_wp2_with fail
  refine (C0.out _).mono ?_
  rintro e w' ⟨rfl,rfl⟩
  go_wp2_with fail
  refine (CT.out _).mono ?_
  rintro e w3 ⟨rfl,hb3⟩
  have Z3:=Lib.hid ((Z1.out.al _).keep hb3)
  have F3:=Lib.hid (FrAt.keep (FrAt.new _ _ _ _) hb3)
  have HB3:=Lib.hid ((HB1.out.alloc HB1.out.size _).trans (hb3.mono (by have:=HB1.out.size;simp;omega)));clear hb3
  obtain ⟨u0,u1,u2,u3,u4⟩:=Z3.out
  obtain ⟨d0,d1⟩:=F3.out
  go_wp2
  exact bodyPost_ret (v:= .tuple #[.agg #[.int .i64 _, .int .i64 _], .bool _]) (by simp [results,Tryz.results168,go_sem,u0,u1]) rfl ⟨rfl,(HB3.out.setCell (Nat.le_refl _) _).setCell (Nat.le_refl _) _⟩
theorem read_neg4 (s:ByteArray) (w:World) (hs:s.size≤2097152) (hng:negS s=true) (h1:spO (bodyS s)=false) (h2:0<spK (bodyS s)) (h3:spK (bodyS s)<(bodyS s).size) (h4: ∀(hz:spK (bodyS s)<(bodyS s).size),((bodyS s)[spK (bodyS s)].toNat:Int)≠47)
  (T B:Int) (hT:T=spT (bodyS s)) (hB:B=spB (bodyS s)) (good:Bool) (hgood:(textF (-T) B==s.data.toList)=good):
  Calls Tryz.prog 168 #[.string s] w fun e w'=>e=fr (if good=true then (-T) else 0) (if good=true then B else 0) good∧Below w.heap.size w w':=by
 obtain ⟨hne,hbx,h45⟩:=body_neg s hng
 have HBX:=Lib.hid hbx
 have b45:((s[0].toNat:Int)==45)=true:=beq_iff_eq.mpr (h45 hne)
 have e0:s.toList.isEmpty=false:=by
  rw [ByteArray.toList_eq]
  cases hc:s.data.toList with
  |nil=>have:=congrArg List.length hc;rw [Array.length_toList] at this;simp only [List.length_nil] at this;have h':s.size=0:=this;omega
  |cons x l=>rfl
 have e1:(s.toList==[])=false:=by cases hc:s.toList with
  |nil=>rw [hc] at e0;cases e0
  |cons x l=>rfl
 have hsz:(bodyS s).size≤2097152:=by have:=bodyS_le s;omega
 clear hng hbx h45
 generalize hXX:bodyS s=X at*
 clear hXX
 have CD:=Lib.hid (fun w'=>decimal_spec X w' hsz)
 obtain ⟨o1,o2⟩:=op_bd (decV X.data.toList) (decX X.data.toList) (decY X.data.toList)
 have hO:spO X=opOK (decV X.data.toList) (decX X.data.toList) (decY X.data.toList):=rfl
 obtain ⟨q1,q2⟩:=op_zero _ _ _ (hO.symm.trans h1)
 rw [←hO,h1,q1,q2] at CD
 clear o1 o2 q1 q2 hO
 have hvb:=val0_bd X
 have hvb1:=val1_bd X
 have hkl:=spK_le X
 have C0:=Lib.hid (fun w'=>l2D0 X w' hsz)
 have hgo:spGo X=false:=by
  have e:X.data.toList[spK X]? =some X[spK X]:=by rw [List.getElem?_eq_getElem (by rw [Array.length_toList];exact h3)];rfl
  simp only [spGo,spSl,e]
  have:(some X[spK X]==some (47:UInt8))=false:=by
   rw [beq_eq_false_iff_ne];intro hh;apply h4 h3;rw [Option.some.inj hh];rfl
  rw [this];simp
 have hT2:T=0:=by rw [hT,spT,h1,hgo,if_neg (by simp),if_neg (by intro h;omega),if_neg (by simp)]
 have hB2:B=0:=by rw [hB,spB,h1,hgo,if_neg (by simp),if_neg (by intro h;omega),if_neg (by simp)]
 subst hT2 hB2
 clear hT hB hgo
 have f47:((X[spK X].toNat:Int)==47)=false:=beq_eq_false_iff_ne.mpr (h4 h3)
 clear h4
 clear h1
 generalize hv0:valAt X 0 (spK X)=v0 at*
 generalize hk:spK X=k at*
 clear hv0 hk hvb1
 have g0:decide (0<k)=true:=decide_eq_true h2
 have g1:(((k:Nat):Int)==((X.size:Nat):Int))=false:=beq_eq_false_iff_ne.mpr (by omega)
 have g2:decide (k<X.size)=true:=decide_eq_true h3
 have g3:(k==X.size)=false:=beq_eq_false_iff_ne.mpr (by omega)
 have HEQ:=Lib.hid (eqL (textF (-0) 0) s)
 rw [hgood] at HEQ
 have CT:=Lib.hid (fun w'=>fractionText_spec (-0) 0 w')
 rw [show (-0:Int)=0 from rfl] at HEQ CT
 rw [show (-0:Int)=0 from rfl]
 clear hgood
 generalize (⟨(textF 0 0).toArray⟩:ByteArray)=Z at*
 have hEE:(Z.toList==s.toList)=good:=HEQ.out
 cases good
 all_goals
  go_enter Tryz.func168,Tryz.ntmps168
  go_wp2_with fail
  rw [HBX.out]
  refine (CD.out _).mono ?_
  rintro e w1 ⟨rfl,hb1⟩
  have Z1:=Lib.hid ((ZeroF.new w 170).keep hb1)
  have hN:w.heap.size<w1.heap.size:=Z1.out.2.2.2.2
  have hN1:w.heap.size≠w1.heap.size:=by omega
  have HB1:=Lib.hid (((Below.refl _ w).alloc (Nat.le_refl _) _).trans (hb1.mono (by simp)));clear hb1
  go_wp2_with fail
  refine (C0.out _).mono ?_
  rintro e w' ⟨rfl,rfl⟩
  go_wp2_with fail
  refine (CT.out _).mono ?_
  rintro e w3 ⟨rfl,hb3⟩
  have Z3:=Lib.hid ((Z1.out.al _).keep hb3)
  have F3:=Lib.hid (FrAt.keep (FrAt.new _ _ _ _) hb3)
  have HB3:=Lib.hid ((HB1.out.alloc HB1.out.size _).trans (hb3.mono (by have:=HB1.out.size;simp;omega)));clear hb3
  obtain ⟨u0,u1,u2,u3,u4⟩:=Z3.out
  obtain ⟨d0,d1⟩:=F3.out
  go_wp2
  exact bodyPost_ret (v:= .tuple #[.agg #[.int .i64 _, .int .i64 _], .bool _]) (by simp [results,Tryz.results168,go_sem,u0,u1]) rfl ⟨rfl,(HB3.out.setCell (Nat.le_refl _) _).setCell (Nat.le_refl _) _⟩
theorem read_neg5 (s:ByteArray) (w:World) (hs:s.size≤2097152) (hng:negS s=true) (h1:spO (bodyS s)=false) (h2:0<spK (bodyS s)) (h3:spK (bodyS s)<(bodyS s).size) (h4: ∀(hz:spK (bodyS s)<(bodyS s).size),((bodyS s)[spK (bodyS s)].toNat:Int)=47) (h5: ¬(spK (bodyS s)+1+spJ (bodyS s)=(bodyS s).size∧0<valAt (bodyS s) (spK (bodyS s)+1) (spJ (bodyS s))))
  (T B:Int) (hT:T=spT (bodyS s)) (hB:B=spB (bodyS s)) (good:Bool) (hgood:(textF (-T) B==s.data.toList)=good):
  Calls Tryz.prog 168 #[.string s] w fun e w'=>e=fr (if good=true then (-T) else 0) (if good=true then B else 0) good∧Below w.heap.size w w':=by
 obtain ⟨hne,hbx,h45⟩:=body_neg s hng
 have HBX:=Lib.hid hbx
 have b45:((s[0].toNat:Int)==45)=true:=beq_iff_eq.mpr (h45 hne)
 have e0:s.toList.isEmpty=false:=by
  rw [ByteArray.toList_eq]
  cases hc:s.data.toList with
  |nil=>have:=congrArg List.length hc;rw [Array.length_toList] at this;simp only [List.length_nil] at this;have h':s.size=0:=this;omega
  |cons x l=>rfl
 have e1:(s.toList==[])=false:=by cases hc:s.toList with
  |nil=>rw [hc] at e0;cases e0
  |cons x l=>rfl
 have hsz:(bodyS s).size≤2097152:=by have:=bodyS_le s;omega
 clear hng hbx h45
 generalize hXX:bodyS s=X at*
 clear hXX
 have CD:=Lib.hid (fun w'=>decimal_spec X w' hsz)
 obtain ⟨o1,o2⟩:=op_bd (decV X.data.toList) (decX X.data.toList) (decY X.data.toList)
 have hO:spO X=opOK (decV X.data.toList) (decX X.data.toList) (decY X.data.toList):=rfl
 obtain ⟨q1,q2⟩:=op_zero _ _ _ (hO.symm.trans h1)
 rw [←hO,h1,q1,q2] at CD
 clear o1 o2 q1 q2 hO
 have hvb:=val0_bd X
 have hvb1:=val1_bd X
 have hkl:=spK_le X
 have C0:=Lib.hid (fun w'=>l2D0 X w' hsz)
 have C1:=Lib.hid (fun w'=>l2D1 X w' hsz (by omega))
 have hgo:spGo X=false:=by
  rw [Bool.eq_false_iff];intro hg
  simp only [spGo,Bool.and_eq_true,decide_eq_true_eq] at hg
  exact h5 ⟨hg.1.2,hg.2⟩
 have hT2:T=0:=by rw [hT,spT,h1,hgo,if_neg (by simp),if_neg (by intro h;omega),if_neg (by simp)]
 have hB2:B=0:=by rw [hB,spB,h1,hgo,if_neg (by simp),if_neg (by intro h;omega),if_neg (by simp)]
 subst hT2 hB2
 clear hT hB hgo
 have f47:((X[spK X].toNat:Int)==47)=true:=beq_iff_eq.mpr (h4 h3)
 clear h4
 clear h1
 generalize hv0:valAt X 0 (spK X)=v0 at*
 generalize hv1:valAt X (spK X+1) (spJ X)=v1 at*
 generalize hj:spJ X=j at*
 generalize hk:spK X=k at*
 generalize hm:k+1+j=m at*
 clear hv0 hk hv1 hj hm
 have g0:decide (0<k)=true:=decide_eq_true h2
 have g1:(((k:Nat):Int)==((X.size:Nat):Int))=false:=beq_eq_false_iff_ne.mpr (by omega)
 have g2:decide (k<X.size)=true:=decide_eq_true h3
 have g3:(k==X.size)=false:=beq_eq_false_iff_ne.mpr (by omega)
 have HEQ:=Lib.hid (eqL (textF (-0) 0) s)
 rw [hgood] at HEQ
 have CT:=Lib.hid (fun w'=>fractionText_spec (-0) 0 w')
 rw [show (-0:Int)=0 from rfl] at HEQ CT
 rw [show (-0:Int)=0 from rfl]
 clear hgood
 generalize (⟨(textF 0 0).toArray⟩:ByteArray)=Z at*
 have hEE:(Z.toList==s.toList)=good:=HEQ.out
 cases good
 all_goals
  go_enter Tryz.func168,Tryz.ntmps168
  go_wp2_with fail
  rw [HBX.out]
  refine (CD.out _).mono ?_
  rintro e w1 ⟨rfl,hb1⟩
  have Z1:=Lib.hid ((ZeroF.new w 170).keep hb1)
  have hN:w.heap.size<w1.heap.size:=Z1.out.2.2.2.2
  have hN1:w.heap.size≠w1.heap.size:=by omega
  have HB1:=Lib.hid (((Below.refl _ w).alloc (Nat.le_refl _) _).trans (hb1.mono (by simp)));clear hb1
  go_wp2_with fail
  refine (C0.out _).mono ?_
  rintro e w' ⟨rfl,rfl⟩
  go_wp2_with fail
  rw [show ((k:Int)+1)=((k+1:Nat):Int) by omega]
  refine (C1.out _).mono ?_
  rintro e w' ⟨rfl,rfl⟩
  by_cases h6:m=X.size
  ·have g4:(((m:Nat):Int)==((X.size:Nat):Int))=true:=beq_iff_eq.mpr (by omega)
   have g7:(m==X.size)=true:=beq_iff_eq.mpr h6
   have g5:decide (0<v1)=false:=decide_eq_false (fun h=>h5 ⟨h6,h⟩)
   have g6:v1=0:=by have:=of_decide_eq_false g5;omega
   clear h5 h6
   subst g6
   go_wp2_with fail
   refine (CT.out _).mono ?_
   rintro e w3 ⟨rfl,hb3⟩
   have Z3:=Lib.hid ((Z1.out.al _).keep hb3)
   have F3:=Lib.hid (FrAt.keep (FrAt.new _ _ _ _) hb3)
   have HB3:=Lib.hid ((HB1.out.alloc HB1.out.size _).trans (hb3.mono (by have:=HB1.out.size;simp;omega)));clear hb3
   obtain ⟨u0,u1,u2,u3,u4⟩:=Z3.out
   obtain ⟨d0,d1⟩:=F3.out
   go_wp2
   exact bodyPost_ret (v:= .tuple #[.agg #[.int .i64 _, .int .i64 _], .bool _]) (by simp [results,Tryz.results168,go_sem,u0,u1]) rfl ⟨rfl,(HB3.out.setCell (Nat.le_refl _) _).setCell (Nat.le_refl _) _⟩
  ·have g4:(((m:Nat):Int)==((X.size:Nat):Int))=false:=beq_eq_false_iff_ne.mpr (by omega)
   have g7:(m==X.size)=false:=beq_eq_false_iff_ne.mpr h6
   clear h5 h6
   go_wp2_with fail
   refine (CT.out _).mono ?_
   rintro e w3 ⟨rfl,hb3⟩
   have Z3:=Lib.hid ((Z1.out.al _).keep hb3)
   have F3:=Lib.hid (FrAt.keep (FrAt.new _ _ _ _) hb3)
   have HB3:=Lib.hid ((HB1.out.alloc HB1.out.size _).trans (hb3.mono (by have:=HB1.out.size;simp;omega)));clear hb3
   obtain ⟨u0,u1,u2,u3,u4⟩:=Z3.out
   obtain ⟨d0,d1⟩:=F3.out
   go_wp2
   exact bodyPost_ret (v:= .tuple #[.agg #[.int .i64 _, .int .i64 _], .bool _]) (by simp [results,Tryz.results168,go_sem,u0,u1]) rfl ⟨rfl,(HB3.out.setCell (Nat.le_refl _) _).setCell (Nat.le_refl _) _⟩
theorem read_neg6 (s:ByteArray) (w:World) (hs:s.size≤2097152) (hng:negS s=true) (h1:spO (bodyS s)=false) (h2:0<spK (bodyS s)) (h3:spK (bodyS s)<(bodyS s).size) (h4: ∀(hz:spK (bodyS s)<(bodyS s).size),((bodyS s)[spK (bodyS s)].toNat:Int)=47) (h5:spK (bodyS s)+1+spJ (bodyS s)=(bodyS s).size) (h6:0<valAt (bodyS s) (spK (bodyS s)+1) (spJ (bodyS s)))
  (T B:Int) (hT:T=spT (bodyS s)) (hB:B=spB (bodyS s)) (good:Bool) (hgood:(textF (-T) B==s.data.toList)=good):
  Calls Tryz.prog 168 #[.string s] w fun e w'=>e=fr (if good=true then (-T) else 0) (if good=true then B else 0) good∧Below w.heap.size w w':=by
 obtain ⟨hne,hbx,h45⟩:=body_neg s hng
 have HBX:=Lib.hid hbx
 have b45:((s[0].toNat:Int)==45)=true:=beq_iff_eq.mpr (h45 hne)
 have e0:s.toList.isEmpty=false:=by
  rw [ByteArray.toList_eq]
  cases hc:s.data.toList with
  |nil=>have:=congrArg List.length hc;rw [Array.length_toList] at this;simp only [List.length_nil] at this;have h':s.size=0:=this;omega
  |cons x l=>rfl
 have e1:(s.toList==[])=false:=by cases hc:s.toList with
  |nil=>rw [hc] at e0;cases e0
  |cons x l=>rfl
 have hsz:(bodyS s).size≤2097152:=by have:=bodyS_le s;omega
 clear hng hbx h45
 generalize hXX:bodyS s=X at*
 clear hXX
 have CD:=Lib.hid (fun w'=>decimal_spec X w' hsz)
 obtain ⟨o1,o2⟩:=op_bd (decV X.data.toList) (decX X.data.toList) (decY X.data.toList)
 have hO:spO X=opOK (decV X.data.toList) (decX X.data.toList) (decY X.data.toList):=rfl
 obtain ⟨q1,q2⟩:=op_zero _ _ _ (hO.symm.trans h1)
 rw [←hO,h1,q1,q2] at CD
 clear o1 o2 q1 q2 hO
 have hvb:=val0_bd X
 have hvb1:=val1_bd X
 have hkl:=spK_le X
 have C0:=Lib.hid (fun w'=>l2D0 X w' hsz)
 have C1:=Lib.hid (fun w'=>l2D1 X w' hsz (by omega))
 have e47:X.data.toList[spK X]? =some 47:=by
  rw [List.getElem?_eq_getElem (by rw [Array.length_toList];exact h3)]
  congr 1
  exact UInt8.toNat_inj.mp (by have:=h4 h3;show X[spK X].toNat=47;omega)
 have hgo:spGo X=true:=by simp only [spGo,spSl,e47,decide_eq_true h2,decide_eq_true h3,decide_eq_true h5,decide_eq_true h6];rfl
 have hT2:T=((valAt X 0 (spK X):Nat):Int):=by rw [hT,spT,h1,hgo,if_neg (by simp),if_neg (by intro h;omega),if_pos rfl]
 have hB2:B=((valAt X (spK X+1) (spJ X):Nat):Int):=by rw [hB,spB,h1,hgo,if_neg (by simp),if_neg (by intro h;omega),if_pos rfl]
 clear hT hB hgo e47
 have f47:((X[spK X].toNat:Int)==47)=true:=beq_iff_eq.mpr (h4 h3)
 clear h4
 clear h1
 generalize hv0:valAt X 0 (spK X)=v0 at*
 generalize hv1:valAt X (spK X+1) (spJ X)=v1 at*
 generalize hj:spJ X=j at*
 generalize hk:spK X=k at*
 generalize hm:k+1+j=m at*
 clear hv0 hk hv1 hj hm
 subst hT2 hB2
 have g0:decide (0<k)=true:=decide_eq_true h2
 have g1:(((k:Nat):Int)==((X.size:Nat):Int))=false:=beq_eq_false_iff_ne.mpr (by omega)
 have g2:decide (k<X.size)=true:=decide_eq_true h3
 have g3:(k==X.size)=false:=beq_eq_false_iff_ne.mpr (by omega)
 have g4:(((m:Nat):Int)==((X.size:Nat):Int))=true:=beq_iff_eq.mpr (by omega)
 have g6:(m==X.size)=true:=beq_iff_eq.mpr h5
 have g5:decide (0<v1)=true:=decide_eq_true h6
 clear h5
 have HEQ:=Lib.hid (eqL (textF (-(v0:Int)) (v1:Int)) s)
 rw [hgood] at HEQ
 have CT:=Lib.hid (fun w'=>fractionText_spec (-(v0:Int)) (v1:Int) w')
 clear hgood
 generalize (⟨(textF (-(v0:Int)) (v1:Int)).toArray⟩:ByteArray)=Z at*
 have hEE:(Z.toList==s.toList)=good:=HEQ.out
 cases good
 all_goals
  go_enter Tryz.func168,Tryz.ntmps168
  go_wp2_with fail
  rw [HBX.out]
  refine (CD.out _).mono ?_
  rintro e w1 ⟨rfl,hb1⟩
  have Z1:=Lib.hid ((ZeroF.new w 170).keep hb1)
  have hN:w.heap.size<w1.heap.size:=Z1.out.2.2.2.2
  have hN1:w.heap.size≠w1.heap.size:=by omega
  have HB1:=Lib.hid (((Below.refl _ w).alloc (Nat.le_refl _) _).trans (hb1.mono (by simp)));clear hb1
  go_wp2_with fail
  refine (C0.out _).mono ?_
  rintro e w' ⟨rfl,rfl⟩
  go_wp2_with fail
  rw [show ((k:Int)+1)=((k+1:Nat):Int) by omega]
  refine (C1.out _).mono ?_
  rintro e w' ⟨rfl,rfl⟩
  go_wp2_with fail
  refine (CT.out _).mono ?_
  rintro e w3 ⟨rfl,hb3⟩
  have Z3:=Lib.hid ((Z1.out.al _).keep hb3)
  have F3:=Lib.hid (FrAt.keep (FrAt.new _ _ _ _) hb3)
  have HB3:=Lib.hid ((HB1.out.alloc HB1.out.size _).trans (hb3.mono (by have:=HB1.out.size;simp;omega)));clear hb3
  obtain ⟨u0,u1,u2,u3,u4⟩:=Z3.out
  obtain ⟨d0,d1⟩:=F3.out
  go_wp2
  exact bodyPost_ret (v:= .tuple #[.agg #[.int .i64 _, .int .i64 _], .bool _]) (by simp [results,Tryz.results168,go_sem,u0,u1]) rfl ⟨rfl,(HB3.out.setCell (Nat.le_refl _) _).setCell (Nat.le_refl _) _⟩
theorem read_empty (w:World):
  Calls Tryz.prog 168 #[.string ⟨#[]⟩] w fun e w'=>e=fr 0 0 false∧Below w.heap.size w w':=by
 have CD:=Lib.hid (fun w'=>decimal_spec ⟨#[]⟩ w' (by decide))
 rw [show opOK (decV (⟨#[]⟩:ByteArray).data.toList) (decX (⟨#[]⟩:ByteArray).data.toList) (decY (⟨#[]⟩:ByteArray).data.toList)=false by decide] at CD
 rw [show opT (decV (⟨#[]⟩:ByteArray).data.toList) (decX (⟨#[]⟩:ByteArray).data.toList) (decY (⟨#[]⟩:ByteArray).data.toList)=0 by decide] at CD
 rw [show opB (decV (⟨#[]⟩:ByteArray).data.toList) (decX (⟨#[]⟩:ByteArray).data.toList) (decY (⟨#[]⟩:ByteArray).data.toList)=0 by decide] at CD
 have C0:=Lib.hid (fun w'=>l2D0 ⟨#[]⟩ w' (by decide))
 rw [show spK ⟨#[]⟩=0 by decide,show valAt ⟨#[]⟩ 0 0=0 by decide] at C0
 go_enter Tryz.func168,Tryz.ntmps168
 go_wp2_with fail
 refine (CD.out _).mono ?_
 rintro e w1 ⟨rfl,hb1⟩
 have Z1:=Lib.hid ((ZeroF.new w 170).keep hb1)
 have hN:w.heap.size<w1.heap.size:=Z1.out.2.2.2.2
 have hN1:w.heap.size≠w1.heap.size:=by omega
 have HB1:=Lib.hid (((Below.refl _ w).alloc (Nat.le_refl _) _).trans (hb1.mono (by simp)));clear hb1
 go_wp2_with fail
 refine (C0.out _).mono ?_
 rintro e w' ⟨rfl,rfl⟩
 obtain ⟨u0,u1,u2,u3,u4⟩:=Z1.out
 have F:FrAt ((w1.setCell ⟨w.heap.size,0,none⟩ (.int .i64 0)).setCell ⟨w.heap.size,1,none⟩ (.int .i64 0)) w.heap.size 0 0:=⟨by simp [go_sem,u0],by simp [go_sem,u1]⟩
 obtain ⟨f0,f1⟩:=F.al (.cells #[.int .i64 0, .int .i64 0] 170)
 go_wp2
 exact bodyPost_ret (v:= .tuple #[.agg #[.int .i64 _, .int .i64 _], .bool _]) (by simp [results,Tryz.results168,go_sem,f0,f1]) rfl ⟨rfl,by
  have h0:Below w.heap.size w ((w1.setCell ⟨w.heap.size,0,none⟩ (.int .i64 0)).setCell ⟨w.heap.size,1,none⟩ (.int .i64 0)):=(HB1.out.setCell (Nat.le_refl _) _).setCell (Nat.le_refl _) _
  exact h0.alloc h0.size _⟩
theorem readFraction_spec (s:ByteArray) (w:World) (hs:s.size≤2097152):
  Calls Tryz.prog 168 #[.string s] w fun e w'=>e=fr (rdT s) (rdB s) (rdOK s)∧Below w.heap.size w w':=by
 obtain ⟨hq,hv⟩:=read_same s
 have hl:s.data.toList.length=s.size:=by rw [Array.length_toList];rfl
 by_cases hne:0<s.size
 ·have hemp:s.data.toList.isEmpty=false:=by
   cases hc:s.data.toList with
   |nil=>rw [hc] at hl;simp at hl;omega
   |cons x l=>rfl
  have hgood:(textF (sdTop s) (spB (bodyS s))==s.data.toList)=rdOK s:=by
   rw [←hq,sdOK,hemp];rfl
  have hres:rdT s=(if rdOK s=true then sdTop s else 0)∧rdB s=(if rdOK s=true then spB (bodyS s) else 0):=by
   unfold rdT rdB
   cases hr:rdOK s with
   |false=>exact ⟨rfl,rfl⟩
   |true=>obtain ⟨e1,e2⟩:=hv hr;rw [e1,e2];exact ⟨rfl,rfl⟩
  rw [hres.1,hres.2]
  cases hng:negS s with
  |true=>
   have ht:sdTop s= -spT (bodyS s):=by rw [sdTop,hng];rfl
   rw [ht] at hgood⊢
   have hk:=spK_le (bodyS s)
   cases h1:spO (bodyS s) with
   |true=>exact read_neg1 s w hs hng h1 _ _ rfl rfl _ hgood
   |false=>
    by_cases h2:spK (bodyS s)=0
    ·exact read_neg2 s w hs hng h1 h2 _ _ rfl rfl _ hgood
    ·by_cases h3:spK (bodyS s)=(bodyS s).size
     ·exact read_neg3 s w hs hng h1 (by omega) h3 _ _ rfl rfl _ hgood
     ·have h3':spK (bodyS s)<(bodyS s).size:=by omega
      by_cases h4:((bodyS s)[spK (bodyS s)].toNat:Int)=47
      ·by_cases h5:spK (bodyS s)+1+spJ (bodyS s)=(bodyS s).size∧0<valAt (bodyS s) (spK (bodyS s)+1) (spJ (bodyS s))
       ·exact read_neg6 s w hs hng h1 (by omega) h3' (fun _=>h4) h5.1 h5.2 _ _ rfl rfl _ hgood
       ·exact read_neg5 s w hs hng h1 (by omega) h3' (fun _=>h4) h5 _ _ rfl rfl _ hgood
      ·exact read_neg4 s w hs hng h1 (by omega) h3' (fun _=>h4) _ _ rfl rfl _ hgood
  |false=>
   have hb:=(body_pos s hng).1
   have ht:sdTop s=spT s:=by rw [sdTop,hng,hb];rfl
   rw [ht,hb] at hgood
   rw [ht,hb]
   have hk:=spK_le s
   cases h1:spO s with
   |true=>exact read_pos1 s w hs hng hne h1 _ _ rfl rfl _ hgood
   |false=>
    by_cases h2:spK s=0
    ·exact read_pos2 s w hs hng hne h1 h2 _ _ rfl rfl _ hgood
    ·by_cases h3:spK s=s.size
     ·exact read_pos3 s w hs hng hne h1 (by omega) h3 _ _ rfl rfl _ hgood
     ·have h3':spK s<s.size:=by omega
      by_cases h4:(s[spK s].toNat:Int)=47
      ·by_cases h5:spK s+1+spJ s=s.size∧0<valAt s (spK s+1) (spJ s)
       ·exact read_pos6 s w hs hng hne h1 (by omega) h3' (fun _=>h4) h5.1 h5.2 _ _ rfl rfl _ hgood
       ·exact read_pos5 s w hs hng hne h1 (by omega) h3' (fun _=>h4) h5 _ _ rfl rfl _ hgood
      ·exact read_pos4 s w hs hng hne h1 (by omega) h3' (fun _=>h4) _ _ rfl rfl _ hgood
 ·have hnil:s.data.toList=[]:=List.length_eq_zero_iff.mp (by omega)
  have hf:rdOK s=false:=by rw [←hq,sdOK,hnil];rfl
  have e:s=⟨#[]⟩:=by apply ByteArray.ext;exact Array.toList_eq_nil_iff.mp hnil
  unfold rdT rdB
  rw [hf,if_neg (by simp),if_neg (by simp),e]
  exact read_empty w
theorem boxedS {w w1:World} {k m:Int} {s:ByteArray} {t:TypeId} (hb:Below (w.alloc (.cells #[.int .i64 k, .string s, .int .i64 m] t)).heap.size (w.alloc (.cells #[.int .i64 k, .string s, .int .i64 m] t)) w1):
  w1.cell? ⟨w.heap.size,0,none⟩=some (.int .i64 k)∧w1.cell? ⟨w.heap.size,1,none⟩=some (.string s)∧w1.cell? ⟨w.heap.size,2,none⟩=some (.int .i64 m):=by
 refine ⟨?_, ?_, ?_⟩<;>(rw [hb.cell (by simp)];simp [go_sem])
theorem tmB (t b:Nat):(t:Int).tmod (b:Int)=((t % b:Nat):Int):=by rw [Int.tmod_eq_emod_of_nonneg (by omega),Int.natCast_emod]
theorem in8 (m:Int):inI m 0 8=(decide (0≤m)&&decide (m≤8)):=rfl
theorem cellValid_1 (m:Int) (s:ByteArray) (w:World) (hs:s.size≤1048576):
  Calls Tryz.prog 129 #[.agg #[.int .i64 1, .string s, .int .i64 m]] w fun e w'=>e= .returned (.bool (cellB 1 s m))∧Below w.heap.size w w':=by
 have cs:=fun w'=>readFraction_spec s w' (by omega)
 cases ho:rdOK s with
 |false=>
  rw [show cellB 1 s m=false by simp [cellB,wordB,numB,ho]]
  rw [ho] at cs
  generalize rdT s=T at cs
  generalize rdB s=B at cs
  have CS:=Lib.hid cs;clear cs ho
  go_enter Tryz.func129,Tryz.ntmps129
  go_wp2_with fail
  refine (CS.out _).mono ?_
  rintro e w1 ⟨rfl,hb1⟩
  obtain ⟨d0,d1,d2⟩:=boxedS (hb1.alloc hb1.size (.cells #[.int .i64 T, .int .i64 B] 170))
  have B1:=Lib.hid (((Below.refl w.heap.size w).alloc (Nat.le_refl _) _).trans ((hb1.alloc hb1.size (.cells #[.int .i64 T, .int .i64 B] 170)).mono (by simp)));clear hb1
  go_wp2
  go_ret
  exact ⟨rfl,B1.out⟩
 |true=>
  obtain ⟨b1,b2⟩:=rd_bottom s ho
  have HN:cellB 1 s m=(decide (0≤rdT s)&&((1000000:Int).tmod (rdB s)==0)&&(m==0)):=by simp [cellB,wordB,numB,manyB,ho]
  rw [ho] at cs
  generalize rdT s=T at cs HN
  generalize rdB s=B at cs HN b1 b2
  obtain ⟨b,rfl⟩:=Int.eq_ofNat_of_zero_le (show 0≤B by omega)
  have e1:(1000000:Int).tmod (b:Int)=((1000000 % b:Nat):Int):=tmB 1000000 b
  have e0:((b:Int)==0)=false:=beq_eq_false_iff_ne.mpr (by omega)
  rw [e1] at HN
  have CS:=Lib.hid cs;clear cs ho
  by_cases h0:0≤T
  ·rw [decide_eq_true h0,Bool.true_and] at HN
   by_cases h:1000000 % b=0
   ·have e2:(((1000000 % b:Nat):Int)==0)=true:=beq_iff_eq.mpr (by omega)
    rw [e2,Bool.true_and] at HN
    rw [HN];clear HN h
    generalize 1000000 % b=q at e1 e2
    go_enter Tryz.func129,Tryz.ntmps129
    go_wp2_with fail
    refine (CS.out _).mono ?_
    rintro e w1 ⟨rfl,hb1⟩
    obtain ⟨d0,d1,d2⟩:=boxedS (hb1.alloc hb1.size (.cells #[.int .i64 T, .int .i64 (b:Int)] 170))
    have B1:=Lib.hid (((Below.refl w.heap.size w).alloc (Nat.le_refl _) _).trans ((hb1.alloc hb1.size (.cells #[.int .i64 T, .int .i64 (b:Int)] 170)).mono (by simp)));clear hb1
    go_wp2
    go_ret
    exact ⟨rfl,B1.out⟩
   ·have e2:(((1000000 % b:Nat):Int)==0)=false:=beq_eq_false_iff_ne.mpr (by omega)
    rw [e2,Bool.false_and] at HN
    rw [HN];clear HN h
    generalize 1000000 % b=q at e1 e2
    go_enter Tryz.func129,Tryz.ntmps129
    go_wp2_with fail
    refine (CS.out _).mono ?_
    rintro e w1 ⟨rfl,hb1⟩
    obtain ⟨d0,d1,d2⟩:=boxedS (hb1.alloc hb1.size (.cells #[.int .i64 T, .int .i64 (b:Int)] 170))
    have B1:=Lib.hid (((Below.refl w.heap.size w).alloc (Nat.le_refl _) _).trans ((hb1.alloc hb1.size (.cells #[.int .i64 T, .int .i64 (b:Int)] 170)).mono (by simp)));clear hb1
    go_wp2
    go_ret
    exact ⟨rfl,B1.out⟩
  ·rw [decide_eq_false h0,Bool.false_and,Bool.false_and] at HN
   rw [HN];clear HN
   generalize 1000000 % b=q at e1
   go_enter Tryz.func129,Tryz.ntmps129
   go_wp2_with fail
   refine (CS.out _).mono ?_
   rintro e w1 ⟨rfl,hb1⟩
   obtain ⟨d0,d1,d2⟩:=boxedS (hb1.alloc hb1.size (.cells #[.int .i64 T, .int .i64 (b:Int)] 170))
   have B1:=Lib.hid (((Below.refl w.heap.size w).alloc (Nat.le_refl _) _).trans ((hb1.alloc hb1.size (.cells #[.int .i64 T, .int .i64 (b:Int)] 170)).mono (by simp)));clear hb1
   go_wp2
   go_ret
   exact ⟨rfl,B1.out⟩
theorem cellValid_2 (m:Int) (s:ByteArray) (w:World) (hs:s.size≤1048576):
  Calls Tryz.prog 129 #[.agg #[.int .i64 2, .string s, .int .i64 m]] w fun e w'=>e= .returned (.bool (cellB 2 s m))∧Below w.heap.size w w':=by
 have hN:cellB 2 s m=(textB s&&decide (s.size≤60)&&(m==0)):=by simp [cellB,wordB,manyB]
 rw [hN];clear hN
 cases ht:textB s with
 |false=>
  rw [Bool.false_and,Bool.false_and]
  have HT:=Lib.hid ht;clear ht
  go_enter Tryz.func129,Tryz.ntmps129
  go_wp2_with fail
  refine (textValid_spec s _ (by unfold maxLen;omega)).mono ?_
  rintro e w' ⟨rfl,rfl⟩
  rw [HT.out]
  go_wp2
  go_ret
  exact ⟨rfl,(Below.refl _ _).alloc (Nat.le_refl _) _⟩
 |true=>
  rw [Bool.true_and]
  have HT:=Lib.hid ht;clear ht
  by_cases h6:s.size≤60
  ·rw [decide_eq_true h6,Bool.true_and]
   go_enter Tryz.func129,Tryz.ntmps129
   go_wp2_with fail
   refine (textValid_spec s _ (by unfold maxLen;omega)).mono ?_
   rintro e w' ⟨rfl,rfl⟩
   rw [HT.out]
   go_wp2
   go_ret
   exact ⟨rfl,(Below.refl _ _).alloc (Nat.le_refl _) _⟩
  ·rw [decide_eq_false h6,Bool.false_and]
   go_enter Tryz.func129,Tryz.ntmps129
   go_wp2_with fail
   refine (textValid_spec s _ (by unfold maxLen;omega)).mono ?_
   rintro e w' ⟨rfl,rfl⟩
   rw [HT.out]
   go_wp2
   go_ret
   exact ⟨rfl,(Below.refl _ _).alloc (Nat.le_refl _) _⟩
theorem cellValid_4 (m:Int) (s:ByteArray) (w:World) (hs:s.size≤1048576):
  Calls Tryz.prog 129 #[.agg #[.int .i64 4, .string s, .int .i64 m]] w fun e w'=>e= .returned (.bool (cellB 4 s m))∧Below w.heap.size w w':=by
 have hN:cellB 4 s m=(nameL s.data.toList&&decide (s.size≤60)&&(m==0)):=by simp [cellB,wordB,manyB]
 rw [hN];clear hN
 cases ht:nameL s.data.toList with
 |false=>
  rw [Bool.false_and,Bool.false_and]
  have HT:=Lib.hid ht;clear ht
  go_enter Tryz.func129,Tryz.ntmps129
  go_wp2_with fail
  refine (nameValid_spec s _ (by unfold maxLen;omega)).mono ?_
  rintro e w' ⟨rfl,rfl⟩
  rw [HT.out]
  go_wp2
  go_ret
  exact ⟨rfl,(Below.refl _ _).alloc (Nat.le_refl _) _⟩
 |true=>
  rw [Bool.true_and]
  have HT:=Lib.hid ht;clear ht
  by_cases h6:s.size≤60
  ·rw [decide_eq_true h6,Bool.true_and]
   go_enter Tryz.func129,Tryz.ntmps129
   go_wp2_with fail
   refine (nameValid_spec s _ (by unfold maxLen;omega)).mono ?_
   rintro e w' ⟨rfl,rfl⟩
   rw [HT.out]
   go_wp2
   go_ret
   exact ⟨rfl,(Below.refl _ _).alloc (Nat.le_refl _) _⟩
  ·rw [decide_eq_false h6,Bool.false_and]
   go_enter Tryz.func129,Tryz.ntmps129
   go_wp2_with fail
   refine (nameValid_spec s _ (by unfold maxLen;omega)).mono ?_
   rintro e w' ⟨rfl,rfl⟩
   rw [HT.out]
   go_wp2
   go_ret
   exact ⟨rfl,(Below.refl _ _).alloc (Nat.le_refl _) _⟩
theorem cellValid_3 (m:Int) (s:ByteArray) (w:World) (hs:s.size≤1048576):
  Calls Tryz.prog 129 #[.agg #[.int .i64 3, .string s, .int .i64 m]] w fun e w'=>e= .returned (.bool (cellB 3 s m))∧Below w.heap.size w w':=by
 by_cases h1:s.data.toList=[116,114,117,101]
 ·have e1:=ls_yes h1
  rw [show cellB 3 s m=(m==0) by simp [cellB,wordB,manyB,trueL,falseL,h1]]
  clear h1
  go_enter Tryz.func129,Tryz.ntmps129
  go_wp2
  go_ret
  exact ⟨rfl,(Below.refl _ _).alloc (Nat.le_refl _) _⟩
 ·by_cases h2:s.data.toList=[102,97,108,115,101]
  ·have e1:=ls_no h1;have e2:=ls_yes h2
   rw [show cellB 3 s m=(m==0) by simp [cellB,wordB,manyB,trueL,falseL,h2]]
   clear h1 h2
   go_enter Tryz.func129,Tryz.ntmps129
   go_wp2
   go_ret
   exact ⟨rfl,(Below.refl _ _).alloc (Nat.le_refl _) _⟩
  ·have e1:=ls_no h1;have e2:=ls_no h2
   rw [show cellB 3 s m=false by simp [cellB,wordB,trueL,falseL,h1,h2]]
   clear h1 h2
   go_enter Tryz.func129,Tryz.ntmps129
   go_wp2
   go_ret
   exact ⟨rfl,(Below.refl _ _).alloc (Nat.le_refl _) _⟩
theorem cellValid_7 (m:Int) (s:ByteArray) (w:World) (hs:s.size≤1048576):
  Calls Tryz.prog 129 #[.agg #[.int .i64 7, .string s, .int .i64 m]] w fun e w'=>e= .returned (.bool (cellB 7 s m))∧Below w.heap.size w w':=by
 by_cases h1:s.data.toList=[33]
 ·have e1:=ls_yes h1
  rw [show cellB 7 s m=(m==1) by simp [cellB,wordB,manyB,h1]]
  clear h1
  go_enter Tryz.func129,Tryz.ntmps129
  go_wp2
  go_ret
  exact ⟨rfl,(Below.refl _ _).alloc (Nat.le_refl _) _⟩
 ·by_cases h2:s.data.toList=[45]
  ·have e1:=ls_no h1;have e2:=ls_yes h2
   rw [show cellB 7 s m=(m==1) by simp [cellB,wordB,manyB,h2]]
   clear h1 h2
   go_enter Tryz.func129,Tryz.ntmps129
   go_wp2
   go_ret
   exact ⟨rfl,(Below.refl _ _).alloc (Nat.le_refl _) _⟩
  ·have e1:=ls_no h1;have e2:=ls_no h2
   rw [show cellB 7 s m=false by simp [cellB,wordB,h1,h2]]
   clear h1 h2
   go_enter Tryz.func129,Tryz.ntmps129
   go_wp2
   go_ret
   exact ⟨rfl,(Below.refl _ _).alloc (Nat.le_refl _) _⟩
theorem cellValid_5 (m:Int) (s:ByteArray) (w:World) (hs:s.size≤1048576):
  Calls Tryz.prog 129 #[.agg #[.int .i64 5, .string s, .int .i64 m]] w fun e w'=>e= .returned (.bool (cellB 5 s m))∧Below w.heap.size w w':=by
 cases he:s.data.toList with
 |nil=>
  rw [show cellB 5 s m=inI m 0 8 by simp [cellB,wordB,manyB,inI,he]]
  have e1:=ls_yes he
  have e2:s.toList=[]:=by rw [ByteArray.toList_eq];exact he
  have e3:s.toList.isEmpty=true:=by rw [e2];rfl
  have e4:(!s.toList.isEmpty)=false:=by rw [e2];rfl
  clear he
  go_enter Tryz.func129,Tryz.ntmps129
  go_wp2_with fail
  refine (l1In_any m 0 8 _).mono ?_
  rintro e w' ⟨rfl,rfl⟩
  go_wp2
  go_ret
  exact ⟨rfl,(Below.refl _ _).alloc (Nat.le_refl _) _⟩
 |cons b t=>
  rw [show cellB 5 s m=false by simp [cellB,wordB,he]]
  have e1:(s.toList==[])=false:=ls_no (by rw [he];simp)
  have e2:s.toList≠[]:=by rw [ByteArray.toList_eq,he];simp
  have e3:s.toList.isEmpty=false:=by rw [ByteArray.toList_eq,he];rfl
  have e4:(!s.toList.isEmpty)=true:=by rw [e3];rfl
  clear he
  go_enter Tryz.func129,Tryz.ntmps129
  go_wp2
  go_ret
  exact ⟨ret_b (by simp [*]),(Below.refl _ _).alloc (Nat.le_refl _) _⟩
theorem cellValid_9 (m:Int) (s:ByteArray) (w:World) (hs:s.size≤1048576):
  Calls Tryz.prog 129 #[.agg #[.int .i64 9, .string s, .int .i64 m]] w fun e w'=>e= .returned (.bool (cellB 9 s m))∧Below w.heap.size w w':=by
 cases he:s.data.toList with
 |nil=>
  rw [show cellB 9 s m=(m==3) by simp [cellB,wordB,manyB,he]]
  have e1:=ls_yes he
  have e2:s.toList=[]:=by rw [ByteArray.toList_eq];exact he
  have e3:s.toList.isEmpty=true:=by rw [e2];rfl
  have e4:(!s.toList.isEmpty)=false:=by rw [e2];rfl
  clear he
  go_enter Tryz.func129,Tryz.ntmps129
  go_wp2
  go_ret
  exact ⟨rfl,(Below.refl _ _).alloc (Nat.le_refl _) _⟩
 |cons b t=>
  rw [show cellB 9 s m=false by simp [cellB,wordB,he]]
  have e1:(s.toList==[])=false:=ls_no (by rw [he];simp)
  have e2:s.toList≠[]:=by rw [ByteArray.toList_eq,he];simp
  have e3:s.toList.isEmpty=false:=by rw [ByteArray.toList_eq,he];rfl
  have e4:(!s.toList.isEmpty)=true:=by rw [e3];rfl
  clear he
  go_enter Tryz.func129,Tryz.ntmps129
  go_wp2
  go_ret
  exact ⟨ret_b (by simp [*]),(Below.refl _ _).alloc (Nat.le_refl _) _⟩
theorem cellValid_6 (m:Int) (s:ByteArray) (w:World) (hs:s.size≤1048576):
  Calls Tryz.prog 129 #[.agg #[.int .i64 6, .string s, .int .i64 m]] w fun e w'=>e= .returned (.bool (cellB 6 s m))∧Below w.heap.size w w':=by
 have hN:cellB 6 s m=(nameL s.data.toList&& !hasL s.data.toList 46&&inI m 0 8):=by simp [cellB,wordB,manyB,inI]
 rw [hN];clear hN
 cases ht:nameL s.data.toList with
 |false=>
  rw [Bool.false_and,Bool.false_and]
  have HT:=Lib.hid ht;clear ht
  go_enter Tryz.func129,Tryz.ntmps129
  go_wp2_with fail
  refine (nameValid_spec s _ (by unfold maxLen;omega)).mono ?_
  rintro e w' ⟨rfl,rfl⟩
  rw [HT.out]
  go_wp2
  go_ret
  exact ⟨rfl,(Below.refl _ _).alloc (Nat.le_refl _) _⟩
 |true=>
  rw [Bool.true_and]
  have HT:=Lib.hid ht;clear ht
  cases hh:hasL s.data.toList 46
  ·rw [Bool.not_false,Bool.true_and]
   have HH:=Lib.hid hh;clear hh
   go_enter Tryz.func129,Tryz.ntmps129
   go_wp2_with fail
   refine (nameValid_spec s _ (by unfold maxLen;omega)).mono ?_
   rintro e w' ⟨rfl,rfl⟩
   rw [HT.out]
   go_wp2_with fail
   refine (l1Has_any s 46 _ (by unfold maxLen;omega) (by omega) (by omega)).mono ?_
   rintro e w' ⟨rfl,rfl⟩
   rw [HH.out]
   go_wp2_with fail
   refine (l1In_any m 0 8 _).mono ?_
   rintro e w' ⟨rfl,rfl⟩
   go_wp2
   go_ret
   exact ⟨rfl,(Below.refl _ _).alloc (Nat.le_refl _) _⟩
  ·rw [Bool.not_true,Bool.false_and]
   have HH:=Lib.hid hh;clear hh
   go_enter Tryz.func129,Tryz.ntmps129
   go_wp2_with fail
   refine (nameValid_spec s _ (by unfold maxLen;omega)).mono ?_
   rintro e w' ⟨rfl,rfl⟩
   rw [HT.out]
   go_wp2_with fail
   refine (l1Has_any s 46 _ (by unfold maxLen;omega) (by omega) (by omega)).mono ?_
   rintro e w' ⟨rfl,rfl⟩
   rw [HH.out]
   go_wp2
   go_ret
   exact ⟨rfl,(Below.refl _ _).alloc (Nat.le_refl _) _⟩
theorem cellValid_8 (m:Int) (s:ByteArray) (w:World) (hs:s.size≤1048576):
  Calls Tryz.prog 129 #[.agg #[.int .i64 8, .string s, .int .i64 m]] w fun e w'=>e= .returned (.bool (cellB 8 s m))∧Below w.heap.size w w':=by
 have hN:cellB 8 s m=(decide (0<rankL s.data.toList)&&(m==2)):=by simp [cellB,wordB,manyB]
 rw [hN];clear hN
 by_cases h6:0<rankL s.data.toList
 ·rw [decide_eq_true h6,Bool.true_and]
  have CR:=Lib.hid (fun w'=>l5Binary_any s w')
  generalize rankL s.data.toList=r at CR h6
  go_enter Tryz.func129,Tryz.ntmps129
  go_wp2_with fail
  refine (CR.out _).mono ?_
  rintro e w' ⟨rfl,rfl⟩
  go_wp2
  go_ret
  exact ⟨rfl,(Below.refl _ _).alloc (Nat.le_refl _) _⟩
 ·rw [decide_eq_false h6,Bool.false_and]
  have CR:=Lib.hid (fun w'=>l5Binary_any s w')
  generalize rankL s.data.toList=r at CR h6
  go_enter Tryz.func129,Tryz.ntmps129
  go_wp2_with fail
  refine (CR.out _).mono ?_
  rintro e w' ⟨rfl,rfl⟩
  go_wp2
  go_ret
  exact ⟨rfl,(Below.refl _ _).alloc (Nat.le_refl _) _⟩
theorem cellValid_no (k:Int) (m:Int) (s:ByteArray) (w:World) (hs:s.size≤1048576) (hk: ¬(1≤k∧k≤9)):
  Calls Tryz.prog 129 #[.agg #[.int .i64 k, .string s, .int .i64 m]] w fun e w'=>e= .returned (.bool (cellB k s m))∧Below w.heap.size w w':=by
 have hf:cellB k s m=false:=by
  unfold cellB wordB
  iterate 9 rw [if_neg (by omega)]
  rfl
 rw [hf];clear hf
 have n1:(k==1)=false:=beq_eq_false_iff_ne.mpr (by omega)
 have n2:(k==2)=false:=beq_eq_false_iff_ne.mpr (by omega)
 have n3:(k==3)=false:=beq_eq_false_iff_ne.mpr (by omega)
 have n4:(k==4)=false:=beq_eq_false_iff_ne.mpr (by omega)
 have n5:(k==5)=false:=beq_eq_false_iff_ne.mpr (by omega)
 have n6:(k==6)=false:=beq_eq_false_iff_ne.mpr (by omega)
 have n7:(k==7)=false:=beq_eq_false_iff_ne.mpr (by omega)
 have n8:(k==8)=false:=beq_eq_false_iff_ne.mpr (by omega)
 have n9:(k==9)=false:=beq_eq_false_iff_ne.mpr (by omega)
 clear hk
 go_enter Tryz.func129,Tryz.ntmps129
 go_wp2
 go_ret
 exact ⟨rfl,(Below.refl _ _).alloc (Nat.le_refl _) _⟩
theorem kindsS (k:Int) (h:1≤k∧k≤9):k=1∨k=2∨k=3∨k=4∨k=5∨k=6∨k=7∨k=8∨k=9:=by omega
theorem cellValid_spec (k m:Int) (s:ByteArray) (w:World) (hs:s.size≤1048576):
  Calls Tryz.prog 129 #[.agg #[.int .i64 k, .string s, .int .i64 m]] w fun e w'=>e= .returned (.bool (cellB k s m))∧Below w.heap.size w w':=by
 by_cases hk:1≤k∧k≤9
 ·rcases kindsS k hk with rfl|rfl|rfl|rfl|rfl|rfl|rfl|rfl|rfl
  ·exact cellValid_1 m s w hs
  ·exact cellValid_2 m s w hs
  ·exact cellValid_3 m s w hs
  ·exact cellValid_4 m s w hs
  ·exact cellValid_5 m s w hs
  ·exact cellValid_6 m s w hs
  ·exact cellValid_7 m s w hs
  ·exact cellValid_8 m s w hs
  ·exact cellValid_9 m s w hs
 ·exact cellValid_no k m s w hs hk
def endI (am:List Nat) (f:Nat):Int:=match scA (am.drop f) f 1 with
 |some t=>(t:Int)
 |none=> -1
theorem endI_some {am:List Nat} {f t:Nat} (h:scA (am.drop f) f 1=some t):endI am f=(t:Int):=by simp [endI,h]
theorem endI_none {am:List Nat} {f:Nat} (h:scA (am.drop f) f 1=none):endI am f= -1:=by simp [endI,h]
theorem Exs.endI {am:List Nat} {f t d:Nat} (h:Exs am 1 f t d):endI am f=(t:Int):=endI_some h.sc0
theorem ret_iS {a b:Int} (h:a=b):Ending.returned (.int .i64 a)= .returned (.int .i64 b):=by rw [h]
theorem ExsS.dep {am:List Nat} {n f t d:Nat} (h:Exs am n f t d):d≤t-f:=by
 induction h with
 |nil f=>omega
 | @cons f m g d n t e hm h1 h2 i1 i2=>have l1:=h1.le;have l2:=h2.le;omega
theorem l5End_any (v:Value) (l:List Cl) (f:Nat) (w:World) (hr:RowC w v l) (h60:l.length≤60) (hok:l.all okM=true) (hf:f≤l.length):
  Calls Tryz.prog 130 #[v, .int .i64 (f:Int)] w fun e w'=>e= .returned (.int .i64 (endI (amL l) f))∧w=w':=by
 obtain ⟨ao,cap,rfl,h1,h2,h3⟩:=hr
 unfold maxLen at h2
 have H3:=Lib.hid h3;have HK:=Lib.hid hok;clear h3 hok
 go_enter Tryz.func130,Tryz.ntmps130
 go_wp2
 go_loop [1,5] (fun a lf=> ∃k L:Nat,f≤k∧k≤l.length∧a= .int .i64 (k:Int)∧lf= .int .i64 (L:Int)∧L≤1+8*k∧scA ((amL l).drop k) k L=scA ((amL l).drop f) f 1) (fun a _=>l.length-(intOf a).toNat)
 case atStart=>exact ⟨f,1,Nat.le_refl _,hf,rfl,rfl,by omega,rfl⟩
 case round=>
  obtain ⟨k,L,hfk,hk,rfl,rfl,hL,hsc⟩:=hrel
  have HS:=Lib.hid hsc;clear hsc
  by_cases hlt:k<l.length
  ·by_cases hL0:0<L
   ·obtain ⟨b,o,rfl,hbl,cc⟩:=H3.out.resolve_left (by rintro rfl;simp at hlt)
    obtain ⟨-,-,c2⟩:=cc k hlt
    have hmb:=okM_many (okM_all HK.out k hlt)
    have HAM:=Lib.hid (am_drop (amL l) k _ (amL_at l k hlt))
    generalize l[k].2.2=M at c2 hmb HAM
    obtain ⟨m,rfl⟩:=Int.eq_ofNat_of_zero_le hmb.1
    have hm8:m≤8:=by omega
    have hmx:max (0:Int) (m:Int)=(m:Int):=by omega
    obtain ⟨L',rfl⟩: ∃x,L=x+1:=⟨L-1,by omega⟩
    have HN:=Lib.hid (show scA ((amL l).drop (k+1)) (k+1) (L'+m)=scA ((amL l).drop f) f 1 by
     rw [←HS.out,HAM.out,scA];simp)
    clear cc hmb
    go_wp2
    go_round
    case rel=>exact ⟨k+1,L'+m,by omega,by omega,by go_num,by first|go_num|(congr 1;omega),by omega,HN.out⟩
    case measure=>simp [intOf];omega
   ·obtain rfl:L=0:=by omega
    have HE:=Lib.hid (endI_some (am:=amL l) (f:=f) (t:=k) (by rw [←HS.out,scA_zero]))
    go_wp2
    go_ret
    exact ⟨ret_iS HE.out.symm,rfl⟩
  ·obtain rfl:k=l.length:=by omega
   by_cases hL0:0<L
   ·obtain ⟨L',rfl⟩: ∃x,L=x+1:=⟨L-1,by omega⟩
    have HE:=Lib.hid (endI_none (am:=amL l) (f:=f) (by rw [←HS.out,List.drop_of_length_le (by rw [amL_length];exact Nat.le_refl _)];rfl))
    go_wp2
    go_ret
    exact ⟨ret_iS HE.out.symm,rfl⟩
   ·obtain rfl:L=0:=by omega
    have HE:=Lib.hid (endI_some (am:=amL l) (f:=f) (t:=l.length) (by rw [←HS.out,scA_zero]))
    go_wp2
    go_ret
    exact ⟨ret_iS HE.out.symm,rfl⟩
def ints (L:List Nat):List Value:=L.map fun (n:Nat)=>Value.int .i64 (n:Int)
theorem ints_length (L:List Nat):(ints L).length=L.length:=by simp [ints]
theorem ints_snoc (L:List Nat) (n:Nat):ints (L++[n])=ints L++[.int .i64 (n:Int)]:=by simp [ints]
theorem ints_at (L:List Nat) (k:Nat) (h:k<L.length):(ints L)[k]? =some (.int .i64 (L[k]:Int)):=by simp [ints,h]
def RowI (w:World) (v:Value) (L:List Nat):Prop:=
 ∃ao cap,v= .slice ao L.length cap∧L.length≤cap∧cap≤maxLen∧(L=[]∨ ∃b,ao=some ⟨b,0,none⟩∧b<w.heap.size∧ ∀k (h:k<L.length),w.cell? ⟨b,k,none⟩=some (.int .i64 (L[k]:Int)))
theorem RowI.mono {w w':World} {v:Value} {L:List Nat} (h:RowI w v L) (hb:Below w.heap.size w w'):RowI w' v L:=by
 obtain ⟨ao,cap,hv,h1,h2,h3⟩:=h
 refine ⟨ao,cap,hv,h1,h2, ?_⟩
 rcases h3 with h3|⟨b,ha,hlt,hj⟩
 ·exact .inl h3
 ·exact .inr ⟨b,ha,Nat.lt_of_lt_of_le hlt hb.size,fun k hk=>by rw [hb.cell (by exact hlt)];exact hj k hk⟩
theorem RowI.of_own {w:World} {base m:Nat} {v:Value} {L:List Nat} (ho:w.ownsRow base 3 1 v m (ints L)):RowI w v L∧m=L.length:=by
 have hl:L.length=m:=by have:=ho.1;rw [ints_length] at this;omega
 subst hl
 refine ⟨?_,rfl⟩
 rcases ho.2 with ⟨rfl,h0⟩|⟨g,cap,cur,rfl,hg,hh,h1,h2,_⟩
 ·exact ⟨none,0,by rw [h0],by omega,by unfold maxLen;omega, .inl (List.length_eq_zero_iff.mp h0)⟩
 ·refine ⟨_,cap,rfl,h1,h2, .inr ⟨g,rfl,(ho.lt g rfl).2,fun k hk=> ?_⟩⟩
  rw [ho.cellAt k (by omega)]
  exact ints_at L k hk
def NewInts (L:List Nat) (w:World) (e:Ending) (w':World):Prop:=
 ∃v,e= .returned v∧w'.ownsRow w.heap.size 3 1 v L.length (ints L)∧Below w.heap.size w w'
theorem infoI:(Tryz.prog.info? 3).map (fun i=>(i.zero,i.size,i.bytes))=some (some (.int .i64 0),1,8):=by kernel_rfl
theorem l5Kids_any (v:Value) (l:List Cl) (f m t d:Nat) (w:World) (hr:RowC w v l) (h60:l.length≤60) (hok:l.all okM=true) (hm:(amL l)[f]? =some m) (hx:Exs (amL l) m (f+1) t d):
  Calls Tryz.prog 140 #[v, .int .i64 (f:Int)] w (NewInts (kidsL (amL l) (f+1) m) w):=by
 obtain ⟨i0,hi,hz0,hz1,hz2⟩:=info_parts infoI
 have hflt:f<l.length:=by
  by_cases hk:f<l.length
  ·exact hk
  ·rw [List.getElem?_eq_none (by rw [amL_length];omega)] at hm;cases hm
 have hm8:m≤8:=by
  have:=okM_many (okM_all hok f hflt)
  rw [amL_at l f hflt] at hm;injection hm with hm;omega
 have HR:=Lib.hid hr
 obtain ⟨ao,cap,rfl,h1,h2,h3⟩:=hr
 unfold maxLen at h2
 obtain ⟨b,o,rfl,hbl,cc⟩:=h3.resolve_left (by rintro rfl;simp at hflt)
 obtain ⟨-,-,c2⟩:=cc f hflt
 have hc2:l[f].2.2=(m:Int):=by
  have:=okM_many (okM_all hok f hflt)
  rw [amL_at l f hflt] at hm;injection hm with hm;omega
 rw [hc2] at c2
 have HX:=Lib.hid hx;have HK:=Lib.hid hok;have HM:=Lib.hid hm
 clear hx hok hm hc2 cc h3
 go_enter Tryz.func140,Tryz.ntmps140
 go_wp2
 go_loopw [5,6,7] (fun out nx i wr=> ∃k g d':Nat,k≤m∧i= .int .i64 (k:Int)∧nx= .int .i64 (g:Int)∧Exs (amL l) k (f+1) g d'∧wr.ownsRow w.heap.size 3 1 out k (ints (kidsL (amL l) (f+1) k))∧Below w.heap.size w wr) (fun _ _ i _=>m-(intOf i).toNat)
 case atStart=>exact ⟨0,f+1,0,Nat.zero_le _,rfl,by go_num, .nil _,World.ownsRow_lit _ _ 0 (Nat.le_refl _) (by unfold maxLen;omega) rfl,(Below.refl _ _).alloc (Nat.le_refl _) _⟩
 case round=>
  obtain ⟨k,g,d',hk,rfl,rfl,hx,hown,hb⟩:=hrel
  have e2:wr.cell? ⟨b,o+f*3+2,none⟩=some (.int .i64 (m:Int)):=(hb.cell (p:=⟨b,_,none⟩) hbl).trans c2
  have HB:=Lib.hid hb
  by_cases hlt:k<m
  ·have hsplit:=HX.out
   rw [show m=k+(1+(m-k-1)) by omega] at hsplit
   obtain ⟨g1,q1,q2,s1,s2,-⟩:=hsplit.split
   obtain ⟨rfl,-⟩:=s1.uniq hx
   obtain ⟨g2,r1,r2,s3,s4,-⟩:=s2.split
   have hg1:g1≤l.length:=by have:=s3.le.2 (by omega);have h3:=s3.le.1;rw [amL_length] at this;omega
   have HEI:=Lib.hid s3.endI
   have HXN:=Lib.hid (s1.snoc s3)
   have HL:=Lib.hid (kidsL_snoc s1)
   have hs0:=hb.size
   clear s1 s2 s3 s4 hsplit hx hb
   go_wp2_with (at_builtin;refine wpList_append_own _ rfl _ _ 25 rfl w.heap.size 3 i0 (.int .i64 0) 1 8 Tryz.underlying25 hi hz0 hz1 hz2 rfl (by decide) _ _ _ rfl (hown.alloc _) ⟨wr.heap.size,0,none⟩ 1 1 [.int .i64 (g1:Int)] rfl rfl (World.news_of_block (cs:= #[.int .i64 (g1:Int)]) (t:=3) (fr:=(0,0)) (heap_alloc_new wr _)) (by simp [Value.oneCell']) (by unfold maxLen;omega) (by omega) (by simp;omega) ?_;intro v' w2 hown' hgrow hnil;have HB2:=Lib.hid ((HB.out.alloc HB.out.size _).grown hgrow (by have:=HB.out.size;simp;omega) (fun q hq=>(hown.lt q hq).1));have HO2:=Lib.hid hown';clear hown' hgrow hnil)
   refine (l5End_any _ l g1 _ (HR.out.mono HB2.out) h60 HK.out hg1).mono ?_
   rintro e w' ⟨rfl,rfl⟩
   rw [HEI.out]
   go_wp2
   go_roundw
   case rel=>exact ⟨k+1,g2,_,by omega,by go_num,rfl,HXN.out,by rw [HL.out,ints_snoc];exact HO2.out,HB2.out⟩
   case measure=>simp [intOf];omega
  ·obtain rfl:k=m:=by omega
   have HO:=Lib.hid hown;clear hown hx hb
   go_wp2
   go_ret
   exact ⟨_,rfl,by rw [kidsL_length];exact HO.out,HB.out⟩
theorem l5Depth_any (v:Value) (l:List Cl) (h60:l.length≤60) (hok:l.all okM=true) (j:Nat): ∀(f t d:Nat) (w:World),Exs (amL l) 1 f t d→t-f≤j→RowC w v l→
  Calls Tryz.prog 131 #[v, .int .i64 (f:Int)] w fun e w'=>e= .returned (.int .i64 (d:Int))∧Below w.heap.size w w':=by
 induction j with
 |zero=>intro f t d w h hj;have:=h.le;omega
 |succ j ih=>
  intro f t d w h hj hr
  obtain ⟨m,e,hm,hx,rfl⟩:=h.inv
  have HK:=Lib.hid (l5Kids_any v l f m t e w hr h60 hok hm hx)
  have HR:=Lib.hid hr
  obtain ⟨ao,cap,rfl,h1,h2,h3⟩:=hr
  unfold maxLen at h2
  have hdep:=ExsS.dep hx
  have htl:=h.le.2 (by omega)
  rw [amL_length] at htl
  have hml:m≤60:=by have:=hx.le;omega
  have IH:=Lib.hid ih;have HX:=Lib.hid hx
  have HLEN:=Lib.hid (kidsL_length (amL l) m (f+1))
  have HST:=Lib.hid (show Exs (amL l) 0 (f+1) (f+1) 0 from .nil _)
  clear h3 ih h hm hx
  go_enter Tryz.func131,Tryz.ntmps131
  go_wp2_with fail
  refine HK.out.mono ?_
  rintro e1 w1 ⟨v1,rfl,hown1,hb1⟩
  obtain ⟨hri,-⟩:=RowI.of_own hown1
  have HB1:=Lib.hid hb1
  generalize hL:kidsL (amL l) (f+1) m=L at*
  have HLL:=Lib.hid hL;clear hL
  obtain ⟨bo,cp,rfl,g1,g2,g3⟩:=hri
  have hLm:=HLEN.out
  rw [hLm] at g1⊢
  unfold maxLen at g2
  have G3:=Lib.hid g3
  clear g3 hb1 hown1 hLm
  go_wp2_with fail
  go_loopw [5,7] (fun dp i wr=> ∃k e0:Nat,k≤m∧i= .int .i64 (k:Int)∧dp= .int .i64 (e0:Int)∧(∃g,Exs (amL l) k (f+1) g e0)∧Below w1.heap.size w1 wr) (fun _ i _=>m-(intOf i).toNat)
  case atStart=>exact ⟨0,0,Nat.zero_le _,rfl,rfl,⟨_,HST.out⟩,Below.refl _ _⟩
  case round=>
   obtain ⟨k,e0,hk,rfl,rfl,hgx,hb⟩:=hrel
   have HG:=Lib.hid hgx;have HB:=Lib.hid hb;clear hgx hb
   by_cases hlt:k<m
   ·obtain ⟨kk,g',d0,d1,d2,j1,j2,j3,j4,j5,j6⟩:=kid_at HX.out k hlt
    obtain ⟨gx,hgx⟩:=HG.out
    obtain ⟨rfl,rfl⟩:=hgx.uniq j2
    rw [HLL.out] at j1
    have hkL:k<L.length:=by rw [HLEN.out];exact hlt
    rw [List.getElem?_eq_getElem hkL] at j1;injection j1 with j1
    obtain ⟨b,rfl,hbl,cc⟩:=G3.out.resolve_left (by rintro rfl;simp at hkL)
    have c1:=cc k hkL
    rw [j1] at c1
    have c1':=(HB.out.cell (p:=⟨b,k,none⟩) hbl).trans c1
    have l2:=j2.le;have l3:=j3.le;have l5:=j5.le;have p2:=ExsS.dep j2;have p3:=ExsS.dep j3
    have HJ3:=Lib.hid j3;have HJ4:=Lib.hid j4
    clear cc c1 j1 j2 j3 j4 j5 hgx HG
    go_wp2_with fail
    refine (IH.out _ g' d1 _ HJ3.out (by omega) (HR.out.mono (HB1.out.trans (HB.out.mono HB1.out.size)))).mono ?_
    rintro e2 w2 ⟨rfl,hb2⟩
    have HB2:=Lib.hid (HB.out.trans (hb2.mono HB.out.size));clear hb2
    go_wp2
    go_roundw
    case rel=>exact ⟨k+1,max e0 d1,by omega,by go_num,by first|rfl|(congr 1;omega),⟨_,HJ4.out⟩,HB2.out⟩
    case measure=>simp [intOf];omega
   ·obtain rfl:k=m:=by omega
    obtain ⟨gx,hgx⟩:=HG.out
    obtain ⟨-,rfl⟩:=hgx.uniq HX.out
    have HBB:=Lib.hid (HB1.out.trans (HB.out.mono HB1.out.size))
    clear hgx
    go_wp2
    go_ret
    exact ⟨ret_iS (by omega),HBB.out⟩
theorem okS_cell {l:List Cl} (h: ¬l.all okC=true):okE l=false:=by
 rw [Bool.eq_false_iff];intro h';exact h ((okE_iff l).mp h').2.1
theorem all_takeS {l:List Cl} {k:Nat} (h:k<l.length):(l.take (k+1)).all okC=((l.take k).all okC&&okC l[k]):=by
 rw [List.take_succ_eq_append_getElem h,List.all_append];simp
theorem exprValid_spec (v:Value) (l:List Cl) (w:World) (hr:RowC w v l) (hz:ShortC l) (hl:l.length≤1048576):
  Calls Tryz.prog 84 #[v] w fun e w'=>e= .returned (.bool (okE l))∧Below w.heap.size w w':=by
 have HR:=Lib.hid hr
 obtain ⟨ao,cap,rfl,h1,h2,h3⟩:=hr
 unfold maxLen at h2
 have H3:=Lib.hid h3;have HZ:=Lib.hid hz;clear h3 hz
 have key: ∃b,okE l=b:=⟨_,rfl⟩
 obtain ⟨bk,hbk⟩:=key
 rw [hbk]
 have HBK:=Lib.hid hbk;clear hbk
 go_enter Tryz.func84,Tryz.ntmps84
 go_wp2
 go_loopw [3] (fun i wr=> ∃k:Nat,k≤l.length∧i= .int .i64 (k:Int)∧(l.take k).all okC=true∧Below w.heap.size w wr) (fun i _=>l.length-(intOf i).toNat)
 case atStart=>exact ⟨0,Nat.zero_le _,rfl,rfl,Below.refl _ _⟩
 case round=>
  obtain ⟨k,hk,rfl,hok,hb⟩:=hrel
  have HOK:=Lib.hid hok;have HB:=Lib.hid hb;clear hok hb
  by_cases hlt:k<l.length
  ·obtain ⟨b,o,rfl,hbl,cc⟩:=H3.out.resolve_left (by rintro rfl;simp at hlt)
   obtain ⟨c0,c1,c2⟩:=cc k hlt
   have d0:wr.cell? ⟨b,o+k*3,none⟩=some (.int .i64 l[k].1):=(HB.out.cell (p:=⟨b,_,none⟩) hbl).trans c0
   have d1:wr.cell? ⟨b,o+k*3+1,none⟩=some (.string l[k].2.1):=(HB.out.cell (p:=⟨b,_,none⟩) hbl).trans c1
   have d2:wr.cell? ⟨b,o+k*3+2,none⟩=some (.int .i64 l[k].2.2):=(HB.out.cell (p:=⟨b,_,none⟩) hbl).trans c2
   have hzk:l[k].2.1.size≤1048576:=HZ.out _ (List.getElem_mem _)
   have HT:=Lib.hid (all_takeS hlt)
   have HC:=Lib.hid (show okC l[k]=cellB l[k].1 l[k].2.1 l[k].2.2 from rfl)
   generalize l[k].1=kk at d0 HC
   generalize l[k].2.1=ss at d1 HC hzk
   generalize l[k].2.2=mm at d2 HC
   have HZK:=Lib.hid hzk
   clear cc c0 c1 c2 hzk
   go_wp2_with fail
   refine (cellValid_spec kk mm ss _ HZK.out).mono ?_
   rintro e w1 ⟨rfl,hb1⟩
   have HB1:=Lib.hid (HB.out.trans (hb1.mono HB.out.size));clear hb1
   cases hcb:cellB kk ss mm with
   |true=>
    have HN:=Lib.hid (show (l.take (k+1)).all okC=true by rw [HT.out,HOK.out,HC.out,hcb];rfl)
    clear hcb
    go_wp2
    go_roundw
    case rel=>exact ⟨k+1,by omega,by go_num,HN.out,HB1.out⟩
    case measure=>simp [intOf];omega
   |false=>
    have HN:=Lib.hid (okS_cell (l:=l) (fun h=>by
     have:=okC_all h k hlt
     rw [HC.out,hcb] at this;cases this))
    clear hcb
    go_wp2
    go_ret
    exact ⟨ret_b (HN.out.symm.trans HBK.out),HB1.out⟩
  ·obtain rfl:k=l.length:=by omega
   have HAL:=Lib.hid (show l.all okC=true by have:=HOK.out;rwa [List.take_of_length_le (Nat.le_refl _)] at this)
   by_cases hin:1≤l.length∧l.length≤60
   ·have HIN:=Lib.hid (show inI (l.length:Int) 1 60=true by simp [inI];omega)
    cases hsc:scA ((amL l).drop 0) 0 1 with
    |none=>
     have HE:=Lib.hid (endI_none hsc)
     have HN:=Lib.hid (show okE l=false by
      rw [Bool.eq_false_iff];intro h'
      obtain ⟨-,-,d,-,hx⟩:=(okE_iff l).mp h'
      rw [hx.sc0] at hsc;cases hsc)
     have hne:((-1:Int)==(l.length:Int))=false:=beq_eq_false_iff_ne.mpr (by omega)
     clear hsc
     go_wp2_with fail
     refine (l1In_any _ _ _ _).mono ?_
     rintro e w' ⟨rfl,rfl⟩
     rw [HIN.out]
     go_wp2_with fail
     refine (l5End_any _ l 0 _ (HR.out.mono HB.out) hin.2 (allM_of HAL.out) (Nat.zero_le _)).mono ?_
     rintro e w' ⟨rfl,rfl⟩
     rw [HE.out]
     go_wp2
     go_ret
     exact ⟨ret_b (HN.out.symm.trans HBK.out),HB.out⟩
    |some t=>
     have HE:=Lib.hid (endI_some hsc)
     obtain ⟨d,hx⟩:=exs_of_sc (amL l) (amL l).length 1 0 t (by omega) hsc
     have HX:=Lib.hid hx
     have hdep:=ExsS.dep hx
     have hle:=hx.le.2 (by omega)
     rw [amL_length] at hle
     clear hsc hx
     by_cases htl:t=l.length
     ·subst htl
      have HN:=Lib.hid (show okE l=decide ((d:Int)≤12) by
       rw [Bool.eq_iff_iff,okE_iff,decide_eq_true_eq]
       constructor
       ·rintro ⟨-,-,d',hd,hx'⟩
        obtain ⟨-,rfl⟩:=HX.out.uniq hx';omega
       ·intro hd;exact ⟨hin.2,HAL.out,d,by omega,HX.out⟩)
      have hne:((l.length:Int)==(l.length:Int))=true:=beq_self_eq_true _
      go_wp2_with fail
      refine (l1In_any _ _ _ _).mono ?_
      rintro e w' ⟨rfl,rfl⟩
      rw [HIN.out]
      go_wp2_with fail
      refine (l5End_any _ l 0 _ (HR.out.mono HB.out) hin.2 (allM_of HAL.out) (Nat.zero_le _)).mono ?_
      rintro e w' ⟨rfl,rfl⟩
      rw [HE.out]
      go_wp2_with fail
      refine (l5Depth_any _ l hin.2 (allM_of HAL.out) l.length 0 l.length d _ HX.out (by omega) (HR.out.mono HB.out)).mono ?_
      rintro e w2 ⟨rfl,hb2⟩
      have HB2:=Lib.hid (HB.out.trans (hb2.mono HB.out.size));clear hb2
      by_cases hd:(d:Int)≤12
      ·have HN2:=Lib.hid (show okE l=true by rw [HN.out,decide_eq_true hd])
       go_wp2
       go_ret
       exact ⟨ret_b (HN2.out.symm.trans HBK.out),HB2.out⟩
      ·go_wp2
       go_ret
       exact ⟨ret_b (HN.out.symm.trans HBK.out),HB2.out⟩
     ·have HN:=Lib.hid (show okE l=false by
       rw [Bool.eq_false_iff];intro h'
       obtain ⟨-,-,d',-,hx'⟩:=(okE_iff l).mp h'
       exact htl (HX.out.uniq hx').1)
      have hne:((t:Int)==(l.length:Int))=false:=beq_eq_false_iff_ne.mpr (by omega)
      have hne2:(t==l.length)=false:=beq_eq_false_iff_ne.mpr htl
      go_wp2_with fail
      refine (l1In_any _ _ _ _).mono ?_
      rintro e w' ⟨rfl,rfl⟩
      rw [HIN.out]
      go_wp2_with fail
      refine (l5End_any _ l 0 _ (HR.out.mono HB.out) hin.2 (allM_of HAL.out) (Nat.zero_le _)).mono ?_
      rintro e w' ⟨rfl,rfl⟩
      rw [HE.out]
      go_wp2
      go_ret
      exact ⟨ret_b (HN.out.symm.trans HBK.out),HB.out⟩
   ·have HIN:=Lib.hid (show inI (l.length:Int) 1 60=false by simp [inI];omega)
    have HN:=Lib.hid (show okE l=false by
     rw [Bool.eq_false_iff];intro h'
     obtain ⟨h60,-,d,-,hx⟩:=(okE_iff l).mp h'
     have:=hx.le;omega)
    go_wp2_with fail
    refine (l1In_any _ _ _ _).mono ?_
    rintro e w' ⟨rfl,rfl⟩
    rw [HIN.out]
    go_wp2
    go_ret
    exact ⟨ret_b (HN.out.symm.trans HBK.out),HB.out⟩
end Go.Proofs.YtegdjjjpoahamaaGreatDoor
