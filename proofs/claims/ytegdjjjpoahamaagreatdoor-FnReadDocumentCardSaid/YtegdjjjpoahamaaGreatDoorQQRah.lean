/-
  Part of the proof of FnReadDocument.
-/
import Derived.Test.YtegdjjjpoahamaaGreatDoorQQRae
import Derived.Deep.DeepCutAuto
import Derived.Deep.Draws
import Derived.Deep.AppendLies
import Derived.Deep.RegionHeld3
import Derived.RegionTactic
import Derived.Deep.DrawnRows
import Derived.Laws.Rows
set_option linter.unusedVariables false
set_option maxHeartbeats 8000000
set_option maxRecDepth 100000
namespace Go.Proofs.YtegdjjjpoahamaaGreatDoor
open Go.RowKit
theorem lsS (s:ByteArray) (l:List UInt8):(s.toList==l)=(s.data.toList==l):=by rw [ByteArray.toList_eq]
theorem dR {s:ByteArray} {l:List UInt8} (h:s.data.toList=l):(s.toList==l)=true:=by rw [lsS,h];exact beq_self_eq_true l
theorem dg {s:ByteArray} {l:List UInt8} (h:s.data.toList≠l):(s.toList==l)=false:=by rw [lsS];exact beq_eq_false_iff_ne.mpr h
theorem fp (s:ByteArray) (w:World):
  Calls Tryz.prog 143 #[.string s] w fun e w'=>e= .returned (.int .i64 (ap s.data.toList))∧w=w':=by
 go_enter Tryz.func143,Tryz.ntmps143
 go_wp2
 all_goals
  go_ret;refine ⟨?_,rfl⟩
  simp_all [ap,ByteArray.toList_eq]
theorem oW (s:ByteArray) (w:World):
  Calls Tryz.prog 230 #[.string s] w fun e w'=>e= .returned (.bool (decide (0<ap s.data.toList)))∧w=w':=by
 go_enter Tryz.func230,Tryz.ntmps230
 go_wp2
 all_goals
  go_ret;refine ⟨?_,rfl⟩
  simp_all [ap,ByteArray.toList_eq]
theorem iy (s:ByteArray) (h:ft s=true):0<s.size∧s.extract 1 s.size=ae s∧ ∀(hz:0<s.size),(s[0].toNat:Int)=45:=by
 have hl:s.data.toList.length=s.size:=by rw [Array.length_toList];rfl
 unfold ft Lib.hasPrefix at h
 cases hx:s.data.toList with
 |nil=>rw [hx] at h;simp [List.isPrefixOf] at h
 |cons c l=>
  rw [hx] at h
  simp [List.isPrefixOf] at h
  have hz:0<s.size:=by rw [←hl,hx];simp
  refine ⟨hz, ?_, ?_⟩
  ·apply ke
   have e:(s.extract 1 s.size).data.toList=(s.data.toList.drop 1).take (s.size-1):=by simp [ByteArray.data_extract]
   rw [e,List.take_of_length_le (by rw [List.length_drop,hl];exact agD _)];unfold Lib.trimPrefix Lib.hasPrefix;rw [hx];simp [List.isPrefixOf,h]
  ·intro _
   have e:s[0]=c:=by
    have:s.data.toList[0]? =some c:=by rw [hx];rfl
    rw [List.getElem?_eq_getElem (by omega)] at this;exact Option.some.inj this
   rw [e,←h];rfl
theorem gG (s:ByteArray) (h:ft s=false):ae s=s∧ ∀(hz:0<s.size),((s[0].toNat:Int)==45)=false:=by
 have hl:s.data.toList.length=s.size:=by rw [Array.length_toList];rfl
 have hb:ae s=s:=by
  unfold ae Lib.trimPrefix;unfold ft at h;rw [h]
  apply ByteArray.ext;simp
 refine ⟨hb,fun hz=> ?_⟩;unfold ft Lib.hasPrefix at h
 cases hx:s.data.toList with
 |nil=>rw [hx] at hl;simp at hl;omega
 |cons c l=>
  rw [hx] at h
  simp [List.isPrefixOf] at h
  have e:s[0]=c:=by
   have:s.data.toList[0]? =some c:=by rw [hx];rfl
   rw [List.getElem?_eq_getElem (by omega)] at this;exact Option.some.inj this
  rw [e,show (45:Int)=((45:UInt8).toNat:Int) from rfl,beq_eq_false_iff_ne];intro e2;exact h (UInt8.toNat_inj.mp (by omega))
theorem oX (X:ByteArray) (w:World) (hs:X.size≤2097152):
  Calls Tryz.prog 192 #[.string X, .int .i64 0, .int .i64 10] w fun e w'=>e= .returned (.tuple #[.int .i64 ((bm X 0 (spK X):Nat):Int), .int .i64 ((spK X:Nat):Int)])∧w=w':=by
 have:=f8 X 0 10 w hs (by omega) (by omega);rw [Nat.zero_add] at this;exact this
theorem aeC (X:ByteArray) (w:World) (hs:X.size≤2097152) (hk:spK X+1≤X.size):
  Calls Tryz.prog 192 #[.string X, .int .i64 ((spK X+1:Nat):Int), .int .i64 7] w fun e w'=>e= .returned (.tuple #[.int .i64 ((bm X (spK X+1) (spJ X):Nat):Int), .int .i64 ((spK X+1+spJ X:Nat):Int)])∧w=w':=
 f8 X (spK X+1) 7 w hs hk (by omega)
theorem fJ (X:ByteArray):bm X 0 (spK X)<10000000000:=by
 unfold bm spK hZ;exact fB _ (eW _ _) (by rw [List.length_take];have:=(gM (X.data.toList.drop 0) 10).2;omega)
theorem fK (X:ByteArray):bm X (spK X+1) (spJ X)<10000000000:=by
 unfold bm spJ hZ;exact fB _ (eW _ _) (by rw [List.length_take];have:=(gM (X.data.toList.drop (spK X+1)) 7).2;omega)
theorem fZ (X:ByteArray):spK X≤X.size:=by
 unfold spK hZ;have:=(gM (X.data.toList.drop 0) 10).1;rw [List.drop_zero,Array.length_toList] at this;exact this
theorem fL (v:Bool) (x y:Int) (h:fs v x y=false):opT v x y=0∧opB v x y=0:=by
 cases v with
 |false=>exact ⟨(bQ _ _).1,(bQ _ _).2.1⟩
 |true=>
  rw [(cZ _ _).2.2] at h;rw [(cZ _ _).1,(cZ _ _).2.1];exact nK h
theorem i6 (v:Bool) (x y:Int): -1000000000≤opT v x y∧opT v x y≤1000000000:=by
 unfold opT
 split
 ·unfold mkT
  split
  ·rename_i h;have:=gN h;omega
  ·omega
 ·omega
theorem aat (s:ByteArray) (w:World) (hs:s.size≤2097152) (AX:ft s=false) (At:0<s.size) (h1:spO s=true)
  (T B:Int) (hT:T=spT s) (hB:B=spB s) (good:Bool) (Ao:(aJ T B==s.data.toList)=good):
  Calls Tryz.prog 168 #[.string s] w fun e w'=>e=fr (if good=true then T else 0) (if good=true then B else 0) good∧Below w.heap.size w w':=by
 have Hd:((s[0].toNat:Int)==45)=false:=(gG s AX).2 At
 have e0:s.toList.isEmpty=false:=by
  rw [ByteArray.toList_eq]
  cases hc:s.data.toList with
  |nil=>have:=congrArg List.length hc;rw [Array.length_toList] at this;simp only [List.length_nil] at this;have h':s.size=0:=this;omega
  |cons x l=>rfl
 have e1:(s.toList==[])=false:=by cases hc:s.toList with
  |nil=>rw [hc] at e0;cases e0
  |cons x l=>rfl
 have Au:s.size≤2097152:=hs;clear AX;have CD:=agC (fun w'=>bv s w' Au);obtain ⟨o1,o2⟩:=i6 (bu s.data.toList) (aW s.data.toList) (aX s.data.toList);have hO:spO s=fs (bu s.data.toList) (aW s.data.toList) (aX s.data.toList):=rfl
 have Bz:T=opT (bu s.data.toList) (aW s.data.toList) (aX s.data.toList):=by rw [hT,spT,if_pos h1]
 have Cv:B=opB (bu s.data.toList) (aW s.data.toList) (aX s.data.toList):=by rw [hB,spB,if_pos h1]
 rw [←hO,h1,←Bz,←Cv] at CD;rw [←Bz] at o1 o2;clear hO hT hB Bz Cv h1;have BA:=agC (eqL (aJ T B) s);rw [Ao] at BA;have CT:=agC (fun w'=>aK T B w');clear Ao;generalize (⟨(aJ T B).toArray⟩:ByteArray)=Z at*;have FC:(Z.toList==s.toList)=good:=BA.out
 cases good
 all_goals
  go_enter Tryz.func168,Tryz.ntmps168
  go_wp2_with fail;refine (CD.out _).mono ?_;rintro e w1 ⟨rfl,Aa⟩;have Z1:=agC ((ZeroF.new w 170).keep Aa);have hN:w.heap.size<w1.heap.size:=Z1.out.2.2.2.2
  have Dg:w.heap.size≠w1.heap.size:=by omega
  have Af:=agC (((Below.refl _ w).alloc (agD _) _).trans (Aa.mono (by simp)));clear Aa;go_wp2_with fail;refine (CT.out _).mono ?_;rintro e w3 ⟨rfl,Ag⟩;have Z3:=agC ((Z1.out.al _).keep Ag);have F3:=agC (FrAt.keep (FrAt.new _ _ _ _) Ag);have Ap:=agC ((Af.out.alloc Af.out.size _).trans (Ag.mono (by have:=Af.out.size;simp;omega)));clear Ag;obtain ⟨u0,u1,u2,u3,u4⟩:=Z3.out;obtain ⟨d0,d1⟩:=F3.out;go_wp2;exact bodyPost_ret (v:= .tuple #[.agg #[.int .i64 _, .int .i64 _], .bool _]) (by simp [results,Tryz.results168,go_sem,u0,u1]) rfl ⟨rfl,(Ap.out.setCell (agD _) _).setCell (agD _) _⟩
theorem aau (s:ByteArray) (w:World) (hs:s.size≤2097152) (AX:ft s=false) (At:0<s.size) (h1:spO s=false) (h2:spK s=0)
  (T B:Int) (hT:T=spT s) (hB:B=spB s) (good:Bool) (Ao:(aJ T B==s.data.toList)=good):
  Calls Tryz.prog 168 #[.string s] w fun e w'=>e=fr (if good=true then T else 0) (if good=true then B else 0) good∧Below w.heap.size w w':=by
 have Hd:((s[0].toNat:Int)==45)=false:=(gG s AX).2 At
 have e0:s.toList.isEmpty=false:=by
  rw [ByteArray.toList_eq]
  cases hc:s.data.toList with
  |nil=>have:=congrArg List.length hc;rw [Array.length_toList] at this;simp only [List.length_nil] at this;have h':s.size=0:=this;omega
  |cons x l=>rfl
 have e1:(s.toList==[])=false:=by cases hc:s.toList with
  |nil=>rw [hc] at e0;cases e0
  |cons x l=>rfl
 have Au:s.size≤2097152:=hs;clear AX;have CD:=agC (fun w'=>bv s w' Au);obtain ⟨o1,o2⟩:=i6 (bu s.data.toList) (aW s.data.toList) (aX s.data.toList);have hO:spO s=fs (bu s.data.toList) (aW s.data.toList) (aX s.data.toList):=rfl;obtain ⟨q1,q2⟩:=fL _ _ _ (hO.symm.trans h1);rw [←hO,h1,q1,q2] at CD;clear o1 o2 q1 q2 hO;have GP:=fJ s;have CA:=fK s;have Cs:=fZ s;have C0:=agC (fun w'=>oX s w' Au)
 have B5:ic s=false:=by simp [ic,qL,h2]
 have Bz:T=0:=by rw [hT,spT,h1,B5,if_neg (by simp),if_neg (by intro h;omega),if_neg (by simp)]
 have Cv:B=0:=by rw [hB,spB,h1,B5,if_neg (by simp),if_neg (by intro h;omega),if_neg (by simp)]
 subst Bz Cv;clear hT hB B5;clear h1;generalize hv0:bm s 0 (spK s)=v0 at*;generalize hk:spK s=k at*;clear hv0 hk CA;subst h2;have BA:=agC (eqL (aJ 0 0) s);rw [Ao] at BA;have CT:=agC (fun w'=>aK 0 0 w');clear Ao;generalize (⟨(aJ 0 0).toArray⟩:ByteArray)=Z at*;have FC:(Z.toList==s.toList)=good:=BA.out
 cases good
 all_goals
  go_enter Tryz.func168,Tryz.ntmps168
  go_wp2_with fail;refine (CD.out _).mono ?_;rintro e w1 ⟨rfl,Aa⟩;have Z1:=agC ((ZeroF.new w 170).keep Aa);have hN:w.heap.size<w1.heap.size:=Z1.out.2.2.2.2
  have Dg:w.heap.size≠w1.heap.size:=by omega
  have Af:=agC (((Below.refl _ w).alloc (agD _) _).trans (Aa.mono (by simp)));clear Aa;go_wp2_with fail;refine (C0.out _).mono ?_;rintro e w' ⟨rfl,rfl⟩;go_wp2_with fail;refine (CT.out _).mono ?_;rintro e w3 ⟨rfl,Ag⟩;have Z3:=agC ((Z1.out.al _).keep Ag);have F3:=agC (FrAt.keep (FrAt.new _ _ _ _) Ag);have Ap:=agC ((Af.out.alloc Af.out.size _).trans (Ag.mono (by have:=Af.out.size;simp;omega)));clear Ag;obtain ⟨u0,u1,u2,u3,u4⟩:=Z3.out;obtain ⟨d0,d1⟩:=F3.out;go_wp2;exact bodyPost_ret (v:= .tuple #[.agg #[.int .i64 _, .int .i64 _], .bool _]) (by simp [results,Tryz.results168,go_sem,u0,u1]) rfl ⟨rfl,(Ap.out.setCell (agD _) _).setCell (agD _) _⟩
theorem aav (s:ByteArray) (w:World) (hs:s.size≤2097152) (AX:ft s=false) (At:0<s.size) (h1:spO s=false) (h2:0<spK s) (h3:spK s=s.size)
  (T B:Int) (hT:T=spT s) (hB:B=spB s) (good:Bool) (Ao:(aJ T B==s.data.toList)=good):
  Calls Tryz.prog 168 #[.string s] w fun e w'=>e=fr (if good=true then T else 0) (if good=true then B else 0) good∧Below w.heap.size w w':=by
 have Hd:((s[0].toNat:Int)==45)=false:=(gG s AX).2 At
 have e0:s.toList.isEmpty=false:=by
  rw [ByteArray.toList_eq]
  cases hc:s.data.toList with
  |nil=>have:=congrArg List.length hc;rw [Array.length_toList] at this;simp only [List.length_nil] at this;have h':s.size=0:=this;omega
  |cons x l=>rfl
 have e1:(s.toList==[])=false:=by cases hc:s.toList with
  |nil=>rw [hc] at e0;cases e0
  |cons x l=>rfl
 have Au:s.size≤2097152:=hs;clear AX;have CD:=agC (fun w'=>bv s w' Au);obtain ⟨o1,o2⟩:=i6 (bu s.data.toList) (aW s.data.toList) (aX s.data.toList);have hO:spO s=fs (bu s.data.toList) (aW s.data.toList) (aX s.data.toList):=rfl;obtain ⟨q1,q2⟩:=fL _ _ _ (hO.symm.trans h1);rw [←hO,h1,q1,q2] at CD;clear o1 o2 q1 q2 hO;have GP:=fJ s;have CA:=fK s;have Cs:=fZ s;have C0:=agC (fun w'=>oX s w' Au)
 have Bz:T=((bm s 0 (spK s):Nat):Int):=by rw [hT,spT,h1,if_neg (by simp),if_pos ⟨h2,h3⟩]
 have Cv:B=1:=by rw [hB,spB,h1,if_neg (by simp),if_pos ⟨h2,h3⟩]
 subst Cv;clear hT hB;clear h1;generalize hv0:bm s 0 (spK s)=v0 at*;generalize hk:spK s=k at*;clear hv0 hk CA;subst Bz;have g0:decide (0<k)=true:=decide_eq_true h2;have g1:(((k:Nat):Int)==((s.size:Nat):Int))=true:=beq_iff_eq.mpr (by omega);have g2:decide (k<s.size)=false:=decide_eq_false (by omega);have g3:(k==s.size)=true:=beq_iff_eq.mpr h3;clear h3;have BA:=agC (eqL (aJ (v0:Int) 1) s);rw [Ao] at BA;have CT:=agC (fun w'=>aK (v0:Int) 1 w');clear Ao;generalize (⟨(aJ (v0:Int) 1).toArray⟩:ByteArray)=Z at*;have FC:(Z.toList==s.toList)=good:=BA.out
 cases good
 all_goals
  go_enter Tryz.func168,Tryz.ntmps168
  go_wp2_with fail;refine (CD.out _).mono ?_;rintro e w1 ⟨rfl,Aa⟩;have Z1:=agC ((ZeroF.new w 170).keep Aa);have hN:w.heap.size<w1.heap.size:=Z1.out.2.2.2.2
  have Dg:w.heap.size≠w1.heap.size:=by omega
  have Af:=agC (((Below.refl _ w).alloc (agD _) _).trans (Aa.mono (by simp)));clear Aa;go_wp2_with fail;refine (C0.out _).mono ?_;rintro e w' ⟨rfl,rfl⟩;go_wp2_with fail;refine (CT.out _).mono ?_;rintro e w3 ⟨rfl,Ag⟩;have Z3:=agC ((Z1.out.al _).keep Ag);have F3:=agC (FrAt.keep (FrAt.new _ _ _ _) Ag);have Ap:=agC ((Af.out.alloc Af.out.size _).trans (Ag.mono (by have:=Af.out.size;simp;omega)));clear Ag;obtain ⟨u0,u1,u2,u3,u4⟩:=Z3.out;obtain ⟨d0,d1⟩:=F3.out;go_wp2;exact bodyPost_ret (v:= .tuple #[.agg #[.int .i64 _, .int .i64 _], .bool _]) (by simp [results,Tryz.results168,go_sem,u0,u1]) rfl ⟨rfl,(Ap.out.setCell (agD _) _).setCell (agD _) _⟩
theorem aaw (s:ByteArray) (w:World) (hs:s.size≤2097152) (AX:ft s=false) (At:0<s.size) (h1:spO s=false) (h2:0<spK s) (h3:spK s<s.size) (h4: ∀(hz:spK s<s.size),(s[spK s].toNat:Int)≠47)
  (T B:Int) (hT:T=spT s) (hB:B=spB s) (good:Bool) (Ao:(aJ T B==s.data.toList)=good):
  Calls Tryz.prog 168 #[.string s] w fun e w'=>e=fr (if good=true then T else 0) (if good=true then B else 0) good∧Below w.heap.size w w':=by
 have Hd:((s[0].toNat:Int)==45)=false:=(gG s AX).2 At
 have e0:s.toList.isEmpty=false:=by
  rw [ByteArray.toList_eq]
  cases hc:s.data.toList with
  |nil=>have:=congrArg List.length hc;rw [Array.length_toList] at this;simp only [List.length_nil] at this;have h':s.size=0:=this;omega
  |cons x l=>rfl
 have e1:(s.toList==[])=false:=by cases hc:s.toList with
  |nil=>rw [hc] at e0;cases e0
  |cons x l=>rfl
 have Au:s.size≤2097152:=hs;clear AX;have CD:=agC (fun w'=>bv s w' Au);obtain ⟨o1,o2⟩:=i6 (bu s.data.toList) (aW s.data.toList) (aX s.data.toList);have hO:spO s=fs (bu s.data.toList) (aW s.data.toList) (aX s.data.toList):=rfl;obtain ⟨q1,q2⟩:=fL _ _ _ (hO.symm.trans h1);rw [←hO,h1,q1,q2] at CD;clear o1 o2 q1 q2 hO;have GP:=fJ s;have CA:=fK s;have Cs:=fZ s;have C0:=agC (fun w'=>oX s w' Au)
 have B5:ic s=false:=by
  have e:s.data.toList[spK s]? =some s[spK s]:=by rw [List.getElem?_eq_getElem (by rw [Array.length_toList];exact h3)];rfl
  simp only [ic,qL,e]
  have:(some s[spK s]==some (47:UInt8))=false:=by
   rw [beq_eq_false_iff_ne];intro hh;apply h4 h3;rw [Option.some.inj hh];rfl
  rw [this];simp
 have Bz:T=0:=by rw [hT,spT,h1,B5,if_neg (by simp),if_neg (by intro h;omega),if_neg (by simp)]
 have Cv:B=0:=by rw [hB,spB,h1,B5,if_neg (by simp),if_neg (by intro h;omega),if_neg (by simp)]
 subst Bz Cv;clear hT hB B5;have ML:((s[spK s].toNat:Int)==47)=false:=beq_eq_false_iff_ne.mpr (h4 h3);clear h4;clear h1;generalize hv0:bm s 0 (spK s)=v0 at*;generalize hk:spK s=k at*;clear hv0 hk CA;have g0:decide (0<k)=true:=decide_eq_true h2;have g1:(((k:Nat):Int)==((s.size:Nat):Int))=false:=beq_eq_false_iff_ne.mpr (by omega);have g2:decide (k<s.size)=true:=decide_eq_true h3;have g3:(k==s.size)=false:=beq_eq_false_iff_ne.mpr (by omega);have BA:=agC (eqL (aJ 0 0) s);rw [Ao] at BA;have CT:=agC (fun w'=>aK 0 0 w');clear Ao;generalize (⟨(aJ 0 0).toArray⟩:ByteArray)=Z at*;have FC:(Z.toList==s.toList)=good:=BA.out
 cases good
 all_goals
  go_enter Tryz.func168,Tryz.ntmps168
  go_wp2_with fail;refine (CD.out _).mono ?_;rintro e w1 ⟨rfl,Aa⟩;have Z1:=agC ((ZeroF.new w 170).keep Aa);have hN:w.heap.size<w1.heap.size:=Z1.out.2.2.2.2
  have Dg:w.heap.size≠w1.heap.size:=by omega
  have Af:=agC (((Below.refl _ w).alloc (agD _) _).trans (Aa.mono (by simp)));clear Aa;go_wp2_with fail;refine (C0.out _).mono ?_;rintro e w' ⟨rfl,rfl⟩;go_wp2_with fail;refine (CT.out _).mono ?_;rintro e w3 ⟨rfl,Ag⟩;have Z3:=agC ((Z1.out.al _).keep Ag);have F3:=agC (FrAt.keep (FrAt.new _ _ _ _) Ag);have Ap:=agC ((Af.out.alloc Af.out.size _).trans (Ag.mono (by have:=Af.out.size;simp;omega)));clear Ag;obtain ⟨u0,u1,u2,u3,u4⟩:=Z3.out;obtain ⟨d0,d1⟩:=F3.out;go_wp2;exact bodyPost_ret (v:= .tuple #[.agg #[.int .i64 _, .int .i64 _], .bool _]) (by simp [results,Tryz.results168,go_sem,u0,u1]) rfl ⟨rfl,(Ap.out.setCell (agD _) _).setCell (agD _) _⟩
theorem aax (s:ByteArray) (w:World) (hs:s.size≤2097152) (AX:ft s=false) (At:0<s.size) (h1:spO s=false) (h2:0<spK s) (h3:spK s<s.size) (h4: ∀(hz:spK s<s.size),(s[spK s].toNat:Int)=47) (h5: ¬(spK s+1+spJ s=s.size∧0<bm s (spK s+1) (spJ s)))
  (T B:Int) (hT:T=spT s) (hB:B=spB s) (good:Bool) (Ao:(aJ T B==s.data.toList)=good):
  Calls Tryz.prog 168 #[.string s] w fun e w'=>e=fr (if good=true then T else 0) (if good=true then B else 0) good∧Below w.heap.size w w':=by
 have Hd:((s[0].toNat:Int)==45)=false:=(gG s AX).2 At
 have e0:s.toList.isEmpty=false:=by
  rw [ByteArray.toList_eq]
  cases hc:s.data.toList with
  |nil=>have:=congrArg List.length hc;rw [Array.length_toList] at this;simp only [List.length_nil] at this;have h':s.size=0:=this;omega
  |cons x l=>rfl
 have e1:(s.toList==[])=false:=by cases hc:s.toList with
  |nil=>rw [hc] at e0;cases e0
  |cons x l=>rfl
 have Au:s.size≤2097152:=hs;clear AX;have CD:=agC (fun w'=>bv s w' Au);obtain ⟨o1,o2⟩:=i6 (bu s.data.toList) (aW s.data.toList) (aX s.data.toList);have hO:spO s=fs (bu s.data.toList) (aW s.data.toList) (aX s.data.toList):=rfl;obtain ⟨q1,q2⟩:=fL _ _ _ (hO.symm.trans h1);rw [←hO,h1,q1,q2] at CD;clear o1 o2 q1 q2 hO;have GP:=fJ s;have CA:=fK s;have Cs:=fZ s;have C0:=agC (fun w'=>oX s w' Au);have C1:=agC (fun w'=>aeC s w' Au (by omega))
 have B5:ic s=false:=by
  rw [Bool.eq_false_iff];intro hg;simp only [ic,Bool.and_eq_true,decide_eq_true_eq] at hg;exact h5 ⟨hg.1.2,hg.2⟩
 have Bz:T=0:=by rw [hT,spT,h1,B5,if_neg (by simp),if_neg (by intro h;omega),if_neg (by simp)]
 have Cv:B=0:=by rw [hB,spB,h1,B5,if_neg (by simp),if_neg (by intro h;omega),if_neg (by simp)]
 subst Bz Cv;clear hT hB B5;have ML:((s[spK s].toNat:Int)==47)=true:=beq_iff_eq.mpr (h4 h3);clear h4;clear h1;generalize hv0:bm s 0 (spK s)=v0 at*;generalize hv1:bm s (spK s+1) (spJ s)=v1 at*;generalize hj:spJ s=j at*;generalize hk:spK s=k at*;generalize hm:k+1+j=m at*;clear hv0 hk hv1 hj hm;have g0:decide (0<k)=true:=decide_eq_true h2;have g1:(((k:Nat):Int)==((s.size:Nat):Int))=false:=beq_eq_false_iff_ne.mpr (by omega);have g2:decide (k<s.size)=true:=decide_eq_true h3;have g3:(k==s.size)=false:=beq_eq_false_iff_ne.mpr (by omega);have BA:=agC (eqL (aJ 0 0) s);rw [Ao] at BA;have CT:=agC (fun w'=>aK 0 0 w');clear Ao;generalize (⟨(aJ 0 0).toArray⟩:ByteArray)=Z at*;have FC:(Z.toList==s.toList)=good:=BA.out
 cases good
 all_goals
  go_enter Tryz.func168,Tryz.ntmps168
  go_wp2_with fail;refine (CD.out _).mono ?_;rintro e w1 ⟨rfl,Aa⟩;have Z1:=agC ((ZeroF.new w 170).keep Aa);have hN:w.heap.size<w1.heap.size:=Z1.out.2.2.2.2
  have Dg:w.heap.size≠w1.heap.size:=by omega
  have Af:=agC (((Below.refl _ w).alloc (agD _) _).trans (Aa.mono (by simp)));clear Aa;go_wp2_with fail;refine (C0.out _).mono ?_;rintro e w' ⟨rfl,rfl⟩;go_wp2_with fail;rw [show ((k:Int)+1)=((k+1:Nat):Int) by omega];refine (C1.out _).mono ?_;rintro e w' ⟨rfl,rfl⟩
  by_cases h6:m=s.size
  ·have g4:(((m:Nat):Int)==((s.size:Nat):Int))=true:=beq_iff_eq.mpr (by omega)
   have g7:(m==s.size)=true:=beq_iff_eq.mpr h6;have g5:decide (0<v1)=false:=decide_eq_false (fun h=>h5 ⟨h6,h⟩)
   have g6:v1=0:=by have:=of_decide_eq_false g5;omega
   clear h5 h6;subst g6;go_wp2_with fail;refine (CT.out _).mono ?_;rintro e w3 ⟨rfl,Ag⟩;have Z3:=agC ((Z1.out.al _).keep Ag);have F3:=agC (FrAt.keep (FrAt.new _ _ _ _) Ag);have Ap:=agC ((Af.out.alloc Af.out.size _).trans (Ag.mono (by have:=Af.out.size;simp;omega)));clear Ag;obtain ⟨u0,u1,u2,u3,u4⟩:=Z3.out;obtain ⟨d0,d1⟩:=F3.out;go_wp2;exact bodyPost_ret (v:= .tuple #[.agg #[.int .i64 _, .int .i64 _], .bool _]) (by simp [results,Tryz.results168,go_sem,u0,u1]) rfl ⟨rfl,(Ap.out.setCell (agD _) _).setCell (agD _) _⟩
  ·have g4:(((m:Nat):Int)==((s.size:Nat):Int))=false:=beq_eq_false_iff_ne.mpr (by omega)
   have g7:(m==s.size)=false:=beq_eq_false_iff_ne.mpr h6;clear h5 h6;go_wp2_with fail;refine (CT.out _).mono ?_;rintro e w3 ⟨rfl,Ag⟩;have Z3:=agC ((Z1.out.al _).keep Ag);have F3:=agC (FrAt.keep (FrAt.new _ _ _ _) Ag);have Ap:=agC ((Af.out.alloc Af.out.size _).trans (Ag.mono (by have:=Af.out.size;simp;omega)));clear Ag;obtain ⟨u0,u1,u2,u3,u4⟩:=Z3.out;obtain ⟨d0,d1⟩:=F3.out;go_wp2;exact bodyPost_ret (v:= .tuple #[.agg #[.int .i64 _, .int .i64 _], .bool _]) (by simp [results,Tryz.results168,go_sem,u0,u1]) rfl ⟨rfl,(Ap.out.setCell (agD _) _).setCell (agD _) _⟩
theorem aay (s:ByteArray) (w:World) (hs:s.size≤2097152) (AX:ft s=false) (At:0<s.size) (h1:spO s=false) (h2:0<spK s) (h3:spK s<s.size) (h4: ∀(hz:spK s<s.size),(s[spK s].toNat:Int)=47) (h5:spK s+1+spJ s=s.size) (h6:0<bm s (spK s+1) (spJ s))
  (T B:Int) (hT:T=spT s) (hB:B=spB s) (good:Bool) (Ao:(aJ T B==s.data.toList)=good):
  Calls Tryz.prog 168 #[.string s] w fun e w'=>e=fr (if good=true then T else 0) (if good=true then B else 0) good∧Below w.heap.size w w':=by
 have Hd:((s[0].toNat:Int)==45)=false:=(gG s AX).2 At
 have e0:s.toList.isEmpty=false:=by
  rw [ByteArray.toList_eq]
  cases hc:s.data.toList with
  |nil=>have:=congrArg List.length hc;rw [Array.length_toList] at this;simp only [List.length_nil] at this;have h':s.size=0:=this;omega
  |cons x l=>rfl
 have e1:(s.toList==[])=false:=by cases hc:s.toList with
  |nil=>rw [hc] at e0;cases e0
  |cons x l=>rfl
 have Au:s.size≤2097152:=hs;clear AX;have CD:=agC (fun w'=>bv s w' Au);obtain ⟨o1,o2⟩:=i6 (bu s.data.toList) (aW s.data.toList) (aX s.data.toList);have hO:spO s=fs (bu s.data.toList) (aW s.data.toList) (aX s.data.toList):=rfl;obtain ⟨q1,q2⟩:=fL _ _ _ (hO.symm.trans h1);rw [←hO,h1,q1,q2] at CD;clear o1 o2 q1 q2 hO;have GP:=fJ s;have CA:=fK s;have Cs:=fZ s;have C0:=agC (fun w'=>oX s w' Au);have C1:=agC (fun w'=>aeC s w' Au (by omega))
 have MM:s.data.toList[spK s]? =some 47:=by
  rw [List.getElem?_eq_getElem (by rw [Array.length_toList];exact h3)]
  congr 1
  exact UInt8.toNat_inj.mp (by have:=h4 h3;show s[spK s].toNat=47;omega)
 have B5:ic s=true:=by simp only [ic,qL,MM,decide_eq_true h2,decide_eq_true h3,decide_eq_true h5,decide_eq_true h6];rfl
 have Bz:T=((bm s 0 (spK s):Nat):Int):=by rw [hT,spT,h1,B5,if_neg (by simp),if_neg (by intro h;omega),if_pos rfl]
 have Cv:B=((bm s (spK s+1) (spJ s):Nat):Int):=by rw [hB,spB,h1,B5,if_neg (by simp),if_neg (by intro h;omega),if_pos rfl]
 clear hT hB B5 MM;have ML:((s[spK s].toNat:Int)==47)=true:=beq_iff_eq.mpr (h4 h3);clear h4;clear h1;generalize hv0:bm s 0 (spK s)=v0 at*;generalize hv1:bm s (spK s+1) (spJ s)=v1 at*;generalize hj:spJ s=j at*;generalize hk:spK s=k at*;generalize hm:k+1+j=m at*;clear hv0 hk hv1 hj hm;subst Bz Cv;have g0:decide (0<k)=true:=decide_eq_true h2;have g1:(((k:Nat):Int)==((s.size:Nat):Int))=false:=beq_eq_false_iff_ne.mpr (by omega);have g2:decide (k<s.size)=true:=decide_eq_true h3;have g3:(k==s.size)=false:=beq_eq_false_iff_ne.mpr (by omega);have g4:(((m:Nat):Int)==((s.size:Nat):Int))=true:=beq_iff_eq.mpr (by omega);have g6:(m==s.size)=true:=beq_iff_eq.mpr h5;have g5:decide (0<v1)=true:=decide_eq_true h6;clear h5;have BA:=agC (eqL (aJ (v0:Int) (v1:Int)) s);rw [Ao] at BA;have CT:=agC (fun w'=>aK (v0:Int) (v1:Int) w');clear Ao;generalize (⟨(aJ (v0:Int) (v1:Int)).toArray⟩:ByteArray)=Z at*;have FC:(Z.toList==s.toList)=good:=BA.out
 cases good
 all_goals
  go_enter Tryz.func168,Tryz.ntmps168
  go_wp2_with fail;refine (CD.out _).mono ?_;rintro e w1 ⟨rfl,Aa⟩;have Z1:=agC ((ZeroF.new w 170).keep Aa);have hN:w.heap.size<w1.heap.size:=Z1.out.2.2.2.2
  have Dg:w.heap.size≠w1.heap.size:=by omega
  have Af:=agC (((Below.refl _ w).alloc (agD _) _).trans (Aa.mono (by simp)));clear Aa;go_wp2_with fail;refine (C0.out _).mono ?_;rintro e w' ⟨rfl,rfl⟩;go_wp2_with fail;rw [show ((k:Int)+1)=((k+1:Nat):Int) by omega];refine (C1.out _).mono ?_;rintro e w' ⟨rfl,rfl⟩;go_wp2_with fail;refine (CT.out _).mono ?_;rintro e w3 ⟨rfl,Ag⟩;have Z3:=agC ((Z1.out.al _).keep Ag);have F3:=agC (FrAt.keep (FrAt.new _ _ _ _) Ag);have Ap:=agC ((Af.out.alloc Af.out.size _).trans (Ag.mono (by have:=Af.out.size;simp;omega)));clear Ag;obtain ⟨u0,u1,u2,u3,u4⟩:=Z3.out;obtain ⟨d0,d1⟩:=F3.out;go_wp2;exact bodyPost_ret (v:= .tuple #[.agg #[.int .i64 _, .int .i64 _], .bool _]) (by simp [results,Tryz.results168,go_sem,u0,u1]) rfl ⟨rfl,(Ap.out.setCell (agD _) _).setCell (agD _) _⟩
theorem aaz (s:ByteArray) (w:World) (hs:s.size≤2097152) (AX:ft s=true) (h1:spO (ae s)=true)
  (T B:Int) (hT:T=spT (ae s)) (hB:B=spB (ae s)) (good:Bool) (Ao:(aJ (-T) B==s.data.toList)=good):
  Calls Tryz.prog 168 #[.string s] w fun e w'=>e=fr (if good=true then (-T) else 0) (if good=true then B else 0) good∧Below w.heap.size w w':=by
 obtain ⟨At,DY,EE⟩:=iy s AX;have DF:=agC DY;have Hd:((s[0].toNat:Int)==45)=true:=beq_iff_eq.mpr (EE At)
 have e0:s.toList.isEmpty=false:=by
  rw [ByteArray.toList_eq]
  cases hc:s.data.toList with
  |nil=>have:=congrArg List.length hc;rw [Array.length_toList] at this;simp only [List.length_nil] at this;have h':s.size=0:=this;omega
  |cons x l=>rfl
 have e1:(s.toList==[])=false:=by cases hc:s.toList with
  |nil=>rw [hc] at e0;cases e0
  |cons x l=>rfl
 have Au:(ae s).size≤2097152:=by have:=gn s;omega
 clear AX DY EE;generalize hXX:ae s=X at*;clear hXX;have CD:=agC (fun w'=>bv X w' Au);obtain ⟨o1,o2⟩:=i6 (bu X.data.toList) (aW X.data.toList) (aX X.data.toList);have hO:spO X=fs (bu X.data.toList) (aW X.data.toList) (aX X.data.toList):=rfl
 have Bz:T=opT (bu X.data.toList) (aW X.data.toList) (aX X.data.toList):=by rw [hT,spT,if_pos h1]
 have Cv:B=opB (bu X.data.toList) (aW X.data.toList) (aX X.data.toList):=by rw [hB,spB,if_pos h1]
 rw [←hO,h1,←Bz,←Cv] at CD;rw [←Bz] at o1 o2;clear hO hT hB Bz Cv h1;have BA:=agC (eqL (aJ (-T) B) s);rw [Ao] at BA;have CT:=agC (fun w'=>aK (-T) B w');clear Ao;generalize (⟨(aJ (-T) B).toArray⟩:ByteArray)=Z at*;have FC:(Z.toList==s.toList)=good:=BA.out
 cases good
 all_goals
  go_enter Tryz.func168,Tryz.ntmps168
  go_wp2_with fail;rw [DF.out];refine (CD.out _).mono ?_;rintro e w1 ⟨rfl,Aa⟩;have Z1:=agC ((ZeroF.new w 170).keep Aa);have hN:w.heap.size<w1.heap.size:=Z1.out.2.2.2.2
  have Dg:w.heap.size≠w1.heap.size:=by omega
  have Af:=agC (((Below.refl _ w).alloc (agD _) _).trans (Aa.mono (by simp)));clear Aa;go_wp2_with fail;refine (CT.out _).mono ?_;rintro e w3 ⟨rfl,Ag⟩;have Z3:=agC ((Z1.out.al _).keep Ag);have F3:=agC (FrAt.keep (FrAt.new _ _ _ _) Ag);have Ap:=agC ((Af.out.alloc Af.out.size _).trans (Ag.mono (by have:=Af.out.size;simp;omega)));clear Ag;obtain ⟨u0,u1,u2,u3,u4⟩:=Z3.out;obtain ⟨d0,d1⟩:=F3.out;go_wp2;exact bodyPost_ret (v:= .tuple #[.agg #[.int .i64 _, .int .i64 _], .bool _]) (by simp [results,Tryz.results168,go_sem,u0,u1]) rfl ⟨rfl,(Ap.out.setCell (agD _) _).setCell (agD _) _⟩
theorem aaA (s:ByteArray) (w:World) (hs:s.size≤2097152) (AX:ft s=true) (h1:spO (ae s)=false) (h2:spK (ae s)=0)
  (T B:Int) (hT:T=spT (ae s)) (hB:B=spB (ae s)) (good:Bool) (Ao:(aJ (-T) B==s.data.toList)=good):
  Calls Tryz.prog 168 #[.string s] w fun e w'=>e=fr (if good=true then (-T) else 0) (if good=true then B else 0) good∧Below w.heap.size w w':=by
 obtain ⟨At,DY,EE⟩:=iy s AX;have DF:=agC DY;have Hd:((s[0].toNat:Int)==45)=true:=beq_iff_eq.mpr (EE At)
 have e0:s.toList.isEmpty=false:=by
  rw [ByteArray.toList_eq]
  cases hc:s.data.toList with
  |nil=>have:=congrArg List.length hc;rw [Array.length_toList] at this;simp only [List.length_nil] at this;have h':s.size=0:=this;omega
  |cons x l=>rfl
 have e1:(s.toList==[])=false:=by cases hc:s.toList with
  |nil=>rw [hc] at e0;cases e0
  |cons x l=>rfl
 have Au:(ae s).size≤2097152:=by have:=gn s;omega
 clear AX DY EE;generalize hXX:ae s=X at*;clear hXX;have CD:=agC (fun w'=>bv X w' Au);obtain ⟨o1,o2⟩:=i6 (bu X.data.toList) (aW X.data.toList) (aX X.data.toList);have hO:spO X=fs (bu X.data.toList) (aW X.data.toList) (aX X.data.toList):=rfl;obtain ⟨q1,q2⟩:=fL _ _ _ (hO.symm.trans h1);rw [←hO,h1,q1,q2] at CD;clear o1 o2 q1 q2 hO;have GP:=fJ X;have CA:=fK X;have Cs:=fZ X;have C0:=agC (fun w'=>oX X w' Au)
 have B5:ic X=false:=by simp [ic,qL,h2]
 have Bz:T=0:=by rw [hT,spT,h1,B5,if_neg (by simp),if_neg (by intro h;omega),if_neg (by simp)]
 have Cv:B=0:=by rw [hB,spB,h1,B5,if_neg (by simp),if_neg (by intro h;omega),if_neg (by simp)]
 subst Bz Cv;clear hT hB B5;clear h1;generalize hv0:bm X 0 (spK X)=v0 at*;generalize hk:spK X=k at*;clear hv0 hk CA;subst h2;have BA:=agC (eqL (aJ (-0) 0) s);rw [Ao] at BA;have CT:=agC (fun w'=>aK (-0) 0 w');rw [show (-0:Int)=0 from rfl] at BA CT;rw [show (-0:Int)=0 from rfl];clear Ao;generalize (⟨(aJ 0 0).toArray⟩:ByteArray)=Z at*;have FC:(Z.toList==s.toList)=good:=BA.out
 cases good
 all_goals
  go_enter Tryz.func168,Tryz.ntmps168
  go_wp2_with fail;rw [DF.out];refine (CD.out _).mono ?_;rintro e w1 ⟨rfl,Aa⟩;have Z1:=agC ((ZeroF.new w 170).keep Aa);have hN:w.heap.size<w1.heap.size:=Z1.out.2.2.2.2
  have Dg:w.heap.size≠w1.heap.size:=by omega
  have Af:=agC (((Below.refl _ w).alloc (agD _) _).trans (Aa.mono (by simp)));clear Aa;go_wp2_with fail;refine (C0.out _).mono ?_;rintro e w' ⟨rfl,rfl⟩;go_wp2_with fail;refine (CT.out _).mono ?_;rintro e w3 ⟨rfl,Ag⟩;have Z3:=agC ((Z1.out.al _).keep Ag);have F3:=agC (FrAt.keep (FrAt.new _ _ _ _) Ag);have Ap:=agC ((Af.out.alloc Af.out.size _).trans (Ag.mono (by have:=Af.out.size;simp;omega)));clear Ag;obtain ⟨u0,u1,u2,u3,u4⟩:=Z3.out;obtain ⟨d0,d1⟩:=F3.out;go_wp2;exact bodyPost_ret (v:= .tuple #[.agg #[.int .i64 _, .int .i64 _], .bool _]) (by simp [results,Tryz.results168,go_sem,u0,u1]) rfl ⟨rfl,(Ap.out.setCell (agD _) _).setCell (agD _) _⟩
theorem aaB (s:ByteArray) (w:World) (hs:s.size≤2097152) (AX:ft s=true) (h1:spO (ae s)=false) (h2:0<spK (ae s)) (h3:spK (ae s)=(ae s).size)
  (T B:Int) (hT:T=spT (ae s)) (hB:B=spB (ae s)) (good:Bool) (Ao:(aJ (-T) B==s.data.toList)=good):
  Calls Tryz.prog 168 #[.string s] w fun e w'=>e=fr (if good=true then (-T) else 0) (if good=true then B else 0) good∧Below w.heap.size w w':=by
 obtain ⟨At,DY,EE⟩:=iy s AX;have DF:=agC DY;have Hd:((s[0].toNat:Int)==45)=true:=beq_iff_eq.mpr (EE At)
 have e0:s.toList.isEmpty=false:=by
  rw [ByteArray.toList_eq]
  cases hc:s.data.toList with
  |nil=>have:=congrArg List.length hc;rw [Array.length_toList] at this;simp only [List.length_nil] at this;have h':s.size=0:=this;omega
  |cons x l=>rfl
 have e1:(s.toList==[])=false:=by cases hc:s.toList with
  |nil=>rw [hc] at e0;cases e0
  |cons x l=>rfl
 have Au:(ae s).size≤2097152:=by have:=gn s;omega
 clear AX DY EE;generalize hXX:ae s=X at*;clear hXX;have CD:=agC (fun w'=>bv X w' Au);obtain ⟨o1,o2⟩:=i6 (bu X.data.toList) (aW X.data.toList) (aX X.data.toList);have hO:spO X=fs (bu X.data.toList) (aW X.data.toList) (aX X.data.toList):=rfl;obtain ⟨q1,q2⟩:=fL _ _ _ (hO.symm.trans h1);rw [←hO,h1,q1,q2] at CD;clear o1 o2 q1 q2 hO;have GP:=fJ X;have CA:=fK X;have Cs:=fZ X;have C0:=agC (fun w'=>oX X w' Au)
 have Bz:T=((bm X 0 (spK X):Nat):Int):=by rw [hT,spT,h1,if_neg (by simp),if_pos ⟨h2,h3⟩]
 have Cv:B=1:=by rw [hB,spB,h1,if_neg (by simp),if_pos ⟨h2,h3⟩]
 subst Cv;clear hT hB;clear h1;generalize hv0:bm X 0 (spK X)=v0 at*;generalize hk:spK X=k at*;clear hv0 hk CA;subst Bz;have g0:decide (0<k)=true:=decide_eq_true h2;have g1:(((k:Nat):Int)==((X.size:Nat):Int))=true:=beq_iff_eq.mpr (by omega);have g2:decide (k<X.size)=false:=decide_eq_false (by omega);have g3:(k==X.size)=true:=beq_iff_eq.mpr h3;clear h3;have BA:=agC (eqL (aJ (-(v0:Int)) 1) s);rw [Ao] at BA;have CT:=agC (fun w'=>aK (-(v0:Int)) 1 w');clear Ao;generalize (⟨(aJ (-(v0:Int)) 1).toArray⟩:ByteArray)=Z at*;have FC:(Z.toList==s.toList)=good:=BA.out
 cases good
 all_goals
  go_enter Tryz.func168,Tryz.ntmps168
  go_wp2_with fail;rw [DF.out];refine (CD.out _).mono ?_;rintro e w1 ⟨rfl,Aa⟩;have Z1:=agC ((ZeroF.new w 170).keep Aa);have hN:w.heap.size<w1.heap.size:=Z1.out.2.2.2.2
  have Dg:w.heap.size≠w1.heap.size:=by omega
  have Af:=agC (((Below.refl _ w).alloc (agD _) _).trans (Aa.mono (by simp)));clear Aa;go_wp2_with fail;refine (C0.out _).mono ?_;rintro e w' ⟨rfl,rfl⟩;go_wp2_with fail;refine (CT.out _).mono ?_;rintro e w3 ⟨rfl,Ag⟩;have Z3:=agC ((Z1.out.al _).keep Ag);have F3:=agC (FrAt.keep (FrAt.new _ _ _ _) Ag);have Ap:=agC ((Af.out.alloc Af.out.size _).trans (Ag.mono (by have:=Af.out.size;simp;omega)));clear Ag;obtain ⟨u0,u1,u2,u3,u4⟩:=Z3.out;obtain ⟨d0,d1⟩:=F3.out;go_wp2;exact bodyPost_ret (v:= .tuple #[.agg #[.int .i64 _, .int .i64 _], .bool _]) (by simp [results,Tryz.results168,go_sem,u0,u1]) rfl ⟨rfl,(Ap.out.setCell (agD _) _).setCell (agD _) _⟩
theorem aaC (s:ByteArray) (w:World) (hs:s.size≤2097152) (AX:ft s=true) (h1:spO (ae s)=false) (h2:0<spK (ae s)) (h3:spK (ae s)<(ae s).size) (h4: ∀(hz:spK (ae s)<(ae s).size),((ae s)[spK (ae s)].toNat:Int)≠47)
  (T B:Int) (hT:T=spT (ae s)) (hB:B=spB (ae s)) (good:Bool) (Ao:(aJ (-T) B==s.data.toList)=good):
  Calls Tryz.prog 168 #[.string s] w fun e w'=>e=fr (if good=true then (-T) else 0) (if good=true then B else 0) good∧Below w.heap.size w w':=by
 obtain ⟨At,DY,EE⟩:=iy s AX;have DF:=agC DY;have Hd:((s[0].toNat:Int)==45)=true:=beq_iff_eq.mpr (EE At)
 have e0:s.toList.isEmpty=false:=by
  rw [ByteArray.toList_eq]
  cases hc:s.data.toList with
  |nil=>have:=congrArg List.length hc;rw [Array.length_toList] at this;simp only [List.length_nil] at this;have h':s.size=0:=this;omega
  |cons x l=>rfl
 have e1:(s.toList==[])=false:=by cases hc:s.toList with
  |nil=>rw [hc] at e0;cases e0
  |cons x l=>rfl
 have Au:(ae s).size≤2097152:=by have:=gn s;omega
 clear AX DY EE;generalize hXX:ae s=X at*;clear hXX;have CD:=agC (fun w'=>bv X w' Au);obtain ⟨o1,o2⟩:=i6 (bu X.data.toList) (aW X.data.toList) (aX X.data.toList);have hO:spO X=fs (bu X.data.toList) (aW X.data.toList) (aX X.data.toList):=rfl;obtain ⟨q1,q2⟩:=fL _ _ _ (hO.symm.trans h1);rw [←hO,h1,q1,q2] at CD;clear o1 o2 q1 q2 hO;have GP:=fJ X;have CA:=fK X;have Cs:=fZ X;have C0:=agC (fun w'=>oX X w' Au)
 have B5:ic X=false:=by
  have e:X.data.toList[spK X]? =some X[spK X]:=by rw [List.getElem?_eq_getElem (by rw [Array.length_toList];exact h3)];rfl
  simp only [ic,qL,e]
  have:(some X[spK X]==some (47:UInt8))=false:=by
   rw [beq_eq_false_iff_ne];intro hh;apply h4 h3;rw [Option.some.inj hh];rfl
  rw [this];simp
 have Bz:T=0:=by rw [hT,spT,h1,B5,if_neg (by simp),if_neg (by intro h;omega),if_neg (by simp)]
 have Cv:B=0:=by rw [hB,spB,h1,B5,if_neg (by simp),if_neg (by intro h;omega),if_neg (by simp)]
 subst Bz Cv;clear hT hB B5;have ML:((X[spK X].toNat:Int)==47)=false:=beq_eq_false_iff_ne.mpr (h4 h3);clear h4;clear h1;generalize hv0:bm X 0 (spK X)=v0 at*;generalize hk:spK X=k at*;clear hv0 hk CA;have g0:decide (0<k)=true:=decide_eq_true h2;have g1:(((k:Nat):Int)==((X.size:Nat):Int))=false:=beq_eq_false_iff_ne.mpr (by omega);have g2:decide (k<X.size)=true:=decide_eq_true h3;have g3:(k==X.size)=false:=beq_eq_false_iff_ne.mpr (by omega);have BA:=agC (eqL (aJ (-0) 0) s);rw [Ao] at BA;have CT:=agC (fun w'=>aK (-0) 0 w');rw [show (-0:Int)=0 from rfl] at BA CT;rw [show (-0:Int)=0 from rfl];clear Ao;generalize (⟨(aJ 0 0).toArray⟩:ByteArray)=Z at*;have FC:(Z.toList==s.toList)=good:=BA.out
 cases good
 all_goals
  go_enter Tryz.func168,Tryz.ntmps168
  go_wp2_with fail;rw [DF.out];refine (CD.out _).mono ?_;rintro e w1 ⟨rfl,Aa⟩;have Z1:=agC ((ZeroF.new w 170).keep Aa);have hN:w.heap.size<w1.heap.size:=Z1.out.2.2.2.2
  have Dg:w.heap.size≠w1.heap.size:=by omega
  have Af:=agC (((Below.refl _ w).alloc (agD _) _).trans (Aa.mono (by simp)));clear Aa;go_wp2_with fail;refine (C0.out _).mono ?_;rintro e w' ⟨rfl,rfl⟩;go_wp2_with fail;refine (CT.out _).mono ?_;rintro e w3 ⟨rfl,Ag⟩;have Z3:=agC ((Z1.out.al _).keep Ag);have F3:=agC (FrAt.keep (FrAt.new _ _ _ _) Ag);have Ap:=agC ((Af.out.alloc Af.out.size _).trans (Ag.mono (by have:=Af.out.size;simp;omega)));clear Ag;obtain ⟨u0,u1,u2,u3,u4⟩:=Z3.out;obtain ⟨d0,d1⟩:=F3.out;go_wp2;exact bodyPost_ret (v:= .tuple #[.agg #[.int .i64 _, .int .i64 _], .bool _]) (by simp [results,Tryz.results168,go_sem,u0,u1]) rfl ⟨rfl,(Ap.out.setCell (agD _) _).setCell (agD _) _⟩
theorem aaD (s:ByteArray) (w:World) (hs:s.size≤2097152) (AX:ft s=true) (h1:spO (ae s)=false) (h2:0<spK (ae s)) (h3:spK (ae s)<(ae s).size) (h4: ∀(hz:spK (ae s)<(ae s).size),((ae s)[spK (ae s)].toNat:Int)=47) (h5: ¬(spK (ae s)+1+spJ (ae s)=(ae s).size∧0<bm (ae s) (spK (ae s)+1) (spJ (ae s))))
  (T B:Int) (hT:T=spT (ae s)) (hB:B=spB (ae s)) (good:Bool) (Ao:(aJ (-T) B==s.data.toList)=good):
  Calls Tryz.prog 168 #[.string s] w fun e w'=>e=fr (if good=true then (-T) else 0) (if good=true then B else 0) good∧Below w.heap.size w w':=by
 obtain ⟨At,DY,EE⟩:=iy s AX;have DF:=agC DY;have Hd:((s[0].toNat:Int)==45)=true:=beq_iff_eq.mpr (EE At)
 have e0:s.toList.isEmpty=false:=by
  rw [ByteArray.toList_eq]
  cases hc:s.data.toList with
  |nil=>have:=congrArg List.length hc;rw [Array.length_toList] at this;simp only [List.length_nil] at this;have h':s.size=0:=this;omega
  |cons x l=>rfl
 have e1:(s.toList==[])=false:=by cases hc:s.toList with
  |nil=>rw [hc] at e0;cases e0
  |cons x l=>rfl
 have Au:(ae s).size≤2097152:=by have:=gn s;omega
 clear AX DY EE;generalize hXX:ae s=X at*;clear hXX;have CD:=agC (fun w'=>bv X w' Au);obtain ⟨o1,o2⟩:=i6 (bu X.data.toList) (aW X.data.toList) (aX X.data.toList);have hO:spO X=fs (bu X.data.toList) (aW X.data.toList) (aX X.data.toList):=rfl;obtain ⟨q1,q2⟩:=fL _ _ _ (hO.symm.trans h1);rw [←hO,h1,q1,q2] at CD;clear o1 o2 q1 q2 hO;have GP:=fJ X;have CA:=fK X;have Cs:=fZ X;have C0:=agC (fun w'=>oX X w' Au);have C1:=agC (fun w'=>aeC X w' Au (by omega))
 have B5:ic X=false:=by
  rw [Bool.eq_false_iff];intro hg;simp only [ic,Bool.and_eq_true,decide_eq_true_eq] at hg;exact h5 ⟨hg.1.2,hg.2⟩
 have Bz:T=0:=by rw [hT,spT,h1,B5,if_neg (by simp),if_neg (by intro h;omega),if_neg (by simp)]
 have Cv:B=0:=by rw [hB,spB,h1,B5,if_neg (by simp),if_neg (by intro h;omega),if_neg (by simp)]
 subst Bz Cv;clear hT hB B5;have ML:((X[spK X].toNat:Int)==47)=true:=beq_iff_eq.mpr (h4 h3);clear h4;clear h1;generalize hv0:bm X 0 (spK X)=v0 at*;generalize hv1:bm X (spK X+1) (spJ X)=v1 at*;generalize hj:spJ X=j at*;generalize hk:spK X=k at*;generalize hm:k+1+j=m at*;clear hv0 hk hv1 hj hm;have g0:decide (0<k)=true:=decide_eq_true h2;have g1:(((k:Nat):Int)==((X.size:Nat):Int))=false:=beq_eq_false_iff_ne.mpr (by omega);have g2:decide (k<X.size)=true:=decide_eq_true h3;have g3:(k==X.size)=false:=beq_eq_false_iff_ne.mpr (by omega);have BA:=agC (eqL (aJ (-0) 0) s);rw [Ao] at BA;have CT:=agC (fun w'=>aK (-0) 0 w');rw [show (-0:Int)=0 from rfl] at BA CT;rw [show (-0:Int)=0 from rfl];clear Ao;generalize (⟨(aJ 0 0).toArray⟩:ByteArray)=Z at*;have FC:(Z.toList==s.toList)=good:=BA.out
 cases good
 all_goals
  go_enter Tryz.func168,Tryz.ntmps168
  go_wp2_with fail;rw [DF.out];refine (CD.out _).mono ?_;rintro e w1 ⟨rfl,Aa⟩;have Z1:=agC ((ZeroF.new w 170).keep Aa);have hN:w.heap.size<w1.heap.size:=Z1.out.2.2.2.2
  have Dg:w.heap.size≠w1.heap.size:=by omega
  have Af:=agC (((Below.refl _ w).alloc (agD _) _).trans (Aa.mono (by simp)));clear Aa;go_wp2_with fail;refine (C0.out _).mono ?_;rintro e w' ⟨rfl,rfl⟩;go_wp2_with fail;rw [show ((k:Int)+1)=((k+1:Nat):Int) by omega];refine (C1.out _).mono ?_;rintro e w' ⟨rfl,rfl⟩
  by_cases h6:m=X.size
  ·have g4:(((m:Nat):Int)==((X.size:Nat):Int))=true:=beq_iff_eq.mpr (by omega)
   have g7:(m==X.size)=true:=beq_iff_eq.mpr h6;have g5:decide (0<v1)=false:=decide_eq_false (fun h=>h5 ⟨h6,h⟩)
   have g6:v1=0:=by have:=of_decide_eq_false g5;omega
   clear h5 h6;subst g6;go_wp2_with fail;refine (CT.out _).mono ?_;rintro e w3 ⟨rfl,Ag⟩;have Z3:=agC ((Z1.out.al _).keep Ag);have F3:=agC (FrAt.keep (FrAt.new _ _ _ _) Ag);have Ap:=agC ((Af.out.alloc Af.out.size _).trans (Ag.mono (by have:=Af.out.size;simp;omega)));clear Ag;obtain ⟨u0,u1,u2,u3,u4⟩:=Z3.out;obtain ⟨d0,d1⟩:=F3.out;go_wp2;exact bodyPost_ret (v:= .tuple #[.agg #[.int .i64 _, .int .i64 _], .bool _]) (by simp [results,Tryz.results168,go_sem,u0,u1]) rfl ⟨rfl,(Ap.out.setCell (agD _) _).setCell (agD _) _⟩
  ·have g4:(((m:Nat):Int)==((X.size:Nat):Int))=false:=beq_eq_false_iff_ne.mpr (by omega)
   have g7:(m==X.size)=false:=beq_eq_false_iff_ne.mpr h6;clear h5 h6;go_wp2_with fail;refine (CT.out _).mono ?_;rintro e w3 ⟨rfl,Ag⟩;have Z3:=agC ((Z1.out.al _).keep Ag);have F3:=agC (FrAt.keep (FrAt.new _ _ _ _) Ag);have Ap:=agC ((Af.out.alloc Af.out.size _).trans (Ag.mono (by have:=Af.out.size;simp;omega)));clear Ag;obtain ⟨u0,u1,u2,u3,u4⟩:=Z3.out;obtain ⟨d0,d1⟩:=F3.out;go_wp2;exact bodyPost_ret (v:= .tuple #[.agg #[.int .i64 _, .int .i64 _], .bool _]) (by simp [results,Tryz.results168,go_sem,u0,u1]) rfl ⟨rfl,(Ap.out.setCell (agD _) _).setCell (agD _) _⟩
theorem aaE (s:ByteArray) (w:World) (hs:s.size≤2097152) (AX:ft s=true) (h1:spO (ae s)=false) (h2:0<spK (ae s)) (h3:spK (ae s)<(ae s).size) (h4: ∀(hz:spK (ae s)<(ae s).size),((ae s)[spK (ae s)].toNat:Int)=47) (h5:spK (ae s)+1+spJ (ae s)=(ae s).size) (h6:0<bm (ae s) (spK (ae s)+1) (spJ (ae s)))
  (T B:Int) (hT:T=spT (ae s)) (hB:B=spB (ae s)) (good:Bool) (Ao:(aJ (-T) B==s.data.toList)=good):
  Calls Tryz.prog 168 #[.string s] w fun e w'=>e=fr (if good=true then (-T) else 0) (if good=true then B else 0) good∧Below w.heap.size w w':=by
 obtain ⟨At,DY,EE⟩:=iy s AX;have DF:=agC DY;have Hd:((s[0].toNat:Int)==45)=true:=beq_iff_eq.mpr (EE At)
 have e0:s.toList.isEmpty=false:=by
  rw [ByteArray.toList_eq]
  cases hc:s.data.toList with
  |nil=>have:=congrArg List.length hc;rw [Array.length_toList] at this;simp only [List.length_nil] at this;have h':s.size=0:=this;omega
  |cons x l=>rfl
 have e1:(s.toList==[])=false:=by cases hc:s.toList with
  |nil=>rw [hc] at e0;cases e0
  |cons x l=>rfl
 have Au:(ae s).size≤2097152:=by have:=gn s;omega
 clear AX DY EE;generalize hXX:ae s=X at*;clear hXX;have CD:=agC (fun w'=>bv X w' Au);obtain ⟨o1,o2⟩:=i6 (bu X.data.toList) (aW X.data.toList) (aX X.data.toList);have hO:spO X=fs (bu X.data.toList) (aW X.data.toList) (aX X.data.toList):=rfl;obtain ⟨q1,q2⟩:=fL _ _ _ (hO.symm.trans h1);rw [←hO,h1,q1,q2] at CD;clear o1 o2 q1 q2 hO;have GP:=fJ X;have CA:=fK X;have Cs:=fZ X;have C0:=agC (fun w'=>oX X w' Au);have C1:=agC (fun w'=>aeC X w' Au (by omega))
 have MM:X.data.toList[spK X]? =some 47:=by
  rw [List.getElem?_eq_getElem (by rw [Array.length_toList];exact h3)]
  congr 1
  exact UInt8.toNat_inj.mp (by have:=h4 h3;show X[spK X].toNat=47;omega)
 have B5:ic X=true:=by simp only [ic,qL,MM,decide_eq_true h2,decide_eq_true h3,decide_eq_true h5,decide_eq_true h6];rfl
 have Bz:T=((bm X 0 (spK X):Nat):Int):=by rw [hT,spT,h1,B5,if_neg (by simp),if_neg (by intro h;omega),if_pos rfl]
 have Cv:B=((bm X (spK X+1) (spJ X):Nat):Int):=by rw [hB,spB,h1,B5,if_neg (by simp),if_neg (by intro h;omega),if_pos rfl]
 clear hT hB B5 MM;have ML:((X[spK X].toNat:Int)==47)=true:=beq_iff_eq.mpr (h4 h3);clear h4;clear h1;generalize hv0:bm X 0 (spK X)=v0 at*;generalize hv1:bm X (spK X+1) (spJ X)=v1 at*;generalize hj:spJ X=j at*;generalize hk:spK X=k at*;generalize hm:k+1+j=m at*;clear hv0 hk hv1 hj hm;subst Bz Cv;have g0:decide (0<k)=true:=decide_eq_true h2;have g1:(((k:Nat):Int)==((X.size:Nat):Int))=false:=beq_eq_false_iff_ne.mpr (by omega);have g2:decide (k<X.size)=true:=decide_eq_true h3;have g3:(k==X.size)=false:=beq_eq_false_iff_ne.mpr (by omega);have g4:(((m:Nat):Int)==((X.size:Nat):Int))=true:=beq_iff_eq.mpr (by omega);have g6:(m==X.size)=true:=beq_iff_eq.mpr h5;have g5:decide (0<v1)=true:=decide_eq_true h6;clear h5;have BA:=agC (eqL (aJ (-(v0:Int)) (v1:Int)) s);rw [Ao] at BA;have CT:=agC (fun w'=>aK (-(v0:Int)) (v1:Int) w');clear Ao;generalize (⟨(aJ (-(v0:Int)) (v1:Int)).toArray⟩:ByteArray)=Z at*;have FC:(Z.toList==s.toList)=good:=BA.out
 cases good
 all_goals
  go_enter Tryz.func168,Tryz.ntmps168
  go_wp2_with fail;rw [DF.out];refine (CD.out _).mono ?_;rintro e w1 ⟨rfl,Aa⟩;have Z1:=agC ((ZeroF.new w 170).keep Aa);have hN:w.heap.size<w1.heap.size:=Z1.out.2.2.2.2
  have Dg:w.heap.size≠w1.heap.size:=by omega
  have Af:=agC (((Below.refl _ w).alloc (agD _) _).trans (Aa.mono (by simp)));clear Aa;go_wp2_with fail;refine (C0.out _).mono ?_;rintro e w' ⟨rfl,rfl⟩;go_wp2_with fail;rw [show ((k:Int)+1)=((k+1:Nat):Int) by omega];refine (C1.out _).mono ?_;rintro e w' ⟨rfl,rfl⟩;go_wp2_with fail;refine (CT.out _).mono ?_;rintro e w3 ⟨rfl,Ag⟩;have Z3:=agC ((Z1.out.al _).keep Ag);have F3:=agC (FrAt.keep (FrAt.new _ _ _ _) Ag);have Ap:=agC ((Af.out.alloc Af.out.size _).trans (Ag.mono (by have:=Af.out.size;simp;omega)));clear Ag;obtain ⟨u0,u1,u2,u3,u4⟩:=Z3.out;obtain ⟨d0,d1⟩:=F3.out;go_wp2;exact bodyPost_ret (v:= .tuple #[.agg #[.int .i64 _, .int .i64 _], .bool _]) (by simp [results,Tryz.results168,go_sem,u0,u1]) rfl ⟨rfl,(Ap.out.setCell (agD _) _).setCell (agD _) _⟩
theorem xm (w:World):
  Calls Tryz.prog 168 #[.string ⟨#[]⟩] w fun e w'=>e=fr 0 0 false∧Below w.heap.size w w':=by
 have CD:=agC (fun w'=>bv ⟨#[]⟩ w' (by decide));rw [show fs (bu (⟨#[]⟩:ByteArray).data.toList) (aW (⟨#[]⟩:ByteArray).data.toList) (aX (⟨#[]⟩:ByteArray).data.toList)=false by decide] at CD;rw [show opT (bu (⟨#[]⟩:ByteArray).data.toList) (aW (⟨#[]⟩:ByteArray).data.toList) (aX (⟨#[]⟩:ByteArray).data.toList)=0 by decide] at CD;rw [show opB (bu (⟨#[]⟩:ByteArray).data.toList) (aW (⟨#[]⟩:ByteArray).data.toList) (aX (⟨#[]⟩:ByteArray).data.toList)=0 by decide] at CD;have C0:=agC (fun w'=>oX ⟨#[]⟩ w' (by decide));rw [show spK ⟨#[]⟩=0 by decide,show bm ⟨#[]⟩ 0 0=0 by decide] at C0
 go_enter Tryz.func168,Tryz.ntmps168
 go_wp2_with fail;refine (CD.out _).mono ?_;rintro e w1 ⟨rfl,Aa⟩;have Z1:=agC ((ZeroF.new w 170).keep Aa);have hN:w.heap.size<w1.heap.size:=Z1.out.2.2.2.2
 have Dg:w.heap.size≠w1.heap.size:=by omega
 have Af:=agC (((Below.refl _ w).alloc (agD _) _).trans (Aa.mono (by simp)));clear Aa;go_wp2_with fail;refine (C0.out _).mono ?_;rintro e w' ⟨rfl,rfl⟩;obtain ⟨u0,u1,u2,u3,u4⟩:=Z1.out;have F:FrAt ((w1.setCell ⟨w.heap.size,0,none⟩ (.int .i64 0)).setCell ⟨w.heap.size,1,none⟩ (.int .i64 0)) w.heap.size 0 0:=⟨by simp [go_sem,u0],by simp [go_sem,u1]⟩;obtain ⟨f0,f1⟩:=F.al (.cells #[.int .i64 0, .int .i64 0] 170);go_wp2
 exact bodyPost_ret (v:= .tuple #[.agg #[.int .i64 _, .int .i64 _], .bool _]) (by simp [results,Tryz.results168,go_sem,f0,f1]) rfl ⟨rfl,by
  have h0:Below w.heap.size w ((w1.setCell ⟨w.heap.size,0,none⟩ (.int .i64 0)).setCell ⟨w.heap.size,1,none⟩ (.int .i64 0)):=(Af.out.setCell (agD _) _).setCell (agD _) _
  exact h0.alloc h0.size _⟩
theorem lX (s:ByteArray) (w:World) (hs:s.size≤2097152):
  Calls Tryz.prog 168 #[.string s] w fun e w'=>e=fr (rdT s) (rdB s) (fx s)∧Below w.heap.size w w':=by
 obtain ⟨hq,hv⟩:=y4 s
 have hl:s.data.toList.length=s.size:=by rw [Array.length_toList];rfl
 by_cases At:0<s.size
 ·have Qd:s.data.toList.isEmpty=false:=by
   cases hc:s.data.toList with
   |nil=>rw [hc] at hl;simp at hl;omega
   |cons x l=>rfl
  have Ao:(aJ (iY s) (spB (ae s))==s.data.toList)=fx s:=by
   rw [←hq,uQ,Qd];rfl
  have Am:rdT s=(if fx s=true then iY s else 0)∧rdB s=(if fx s=true then spB (ae s) else 0):=by
   unfold rdT rdB
   cases hr:fx s with
   |false=>exact ⟨rfl,rfl⟩
   |true=>obtain ⟨e1,e2⟩:=hv hr;rw [e1,e2];exact ⟨rfl,rfl⟩
  rw [Am.1,Am.2]
  cases AX:ft s with
  |true=>
   have ht:iY s= -spT (ae s):=by rw [iY,AX];rfl
   rw [ht] at Ao⊢;have hk:=fZ (ae s)
   cases h1:spO (ae s) with
   |true=>exact aaz s w hs AX h1 _ _ rfl rfl _ Ao
   |false=>
    by_cases h2:spK (ae s)=0
    ·exact aaA s w hs AX h1 h2 _ _ rfl rfl _ Ao
    ·by_cases h3:spK (ae s)=(ae s).size
     ·exact aaB s w hs AX h1 (by omega) h3 _ _ rfl rfl _ Ao
     ·have I5:spK (ae s)<(ae s).size:=by omega
      by_cases h4:((ae s)[spK (ae s)].toNat:Int)=47
      ·by_cases h5:spK (ae s)+1+spJ (ae s)=(ae s).size∧0<bm (ae s) (spK (ae s)+1) (spJ (ae s))
       ·exact aaE s w hs AX h1 (by omega) I5 (fun _=>h4) h5.1 h5.2 _ _ rfl rfl _ Ao
       ·exact aaD s w hs AX h1 (by omega) I5 (fun _=>h4) h5 _ _ rfl rfl _ Ao
      ·exact aaC s w hs AX h1 (by omega) I5 (fun _=>h4) _ _ rfl rfl _ Ao
  |false=>
   have hb:=(gG s AX).1
   have ht:iY s=spT s:=by rw [iY,AX,hb];rfl
   rw [ht,hb] at Ao;rw [ht,hb];have hk:=fZ s
   cases h1:spO s with
   |true=>exact aat s w hs AX At h1 _ _ rfl rfl _ Ao
   |false=>
    by_cases h2:spK s=0
    ·exact aau s w hs AX At h1 h2 _ _ rfl rfl _ Ao
    ·by_cases h3:spK s=s.size
     ·exact aav s w hs AX At h1 (by omega) h3 _ _ rfl rfl _ Ao
     ·have I5:spK s<s.size:=by omega
      by_cases h4:(s[spK s].toNat:Int)=47
      ·by_cases h5:spK s+1+spJ s=s.size∧0<bm s (spK s+1) (spJ s)
       ·exact aay s w hs AX At h1 (by omega) I5 (fun _=>h4) h5.1 h5.2 _ _ rfl rfl _ Ao
       ·exact aax s w hs AX At h1 (by omega) I5 (fun _=>h4) h5 _ _ rfl rfl _ Ao
      ·exact aaw s w hs AX At h1 (by omega) I5 (fun _=>h4) _ _ rfl rfl _ Ao
 ·have By:s.data.toList=[]:=List.length_eq_zero_iff.mp (by omega)
  have hf:fx s=false:=by rw [←hq,uQ,By];rfl
  have e:s=⟨#[]⟩:=by apply ByteArray.ext;exact Array.toList_eq_nil_iff.mp By
  unfold rdT rdB;rw [hf,if_neg (by simp),if_neg (by simp),e];exact xm w
theorem rK {w w1:World} {k m:Int} {s:ByteArray} {t:TypeId} (hb:Below (w.alloc (.cells #[.int .i64 k, .string s, .int .i64 m] t)).heap.size (w.alloc (.cells #[.int .i64 k, .string s, .int .i64 m] t)) w1):
  w1.cell? ⟨w.heap.size,0,none⟩=some (.int .i64 k)∧w1.cell? ⟨w.heap.size,1,none⟩=some (.string s)∧w1.cell? ⟨w.heap.size,2,none⟩=some (.int .i64 m):=by
 refine ⟨?_, ?_, ?_⟩<;>(rw [hb.cell (by simp)];simp [go_sem])
theorem tmB (t b:Nat):(t:Int).tmod (b:Int)=((t % b:Nat):Int):=by rw [Int.tmod_eq_emod_of_nonneg (by omega),Int.natCast_emod]
theorem un (m:Int) (s:ByteArray) (w:World) (hs:s.size≤1048576):
  Calls Tryz.prog 129 #[.agg #[.int .i64 1, .string s, .int .i64 m]] w fun e w'=>e= .returned (.bool (aF 1 s m))∧Below w.heap.size w w':=by
 have cs:=fun w'=>lX s w' (by omega)
 cases ho:fx s with
 |false=>
  rw [show aF 1 s m=false by simp [aF,ar,kf,ho]];rw [ho] at cs;generalize rdT s=T at cs;generalize rdB s=B at cs;have CS:=agC cs;clear cs ho
  go_enter Tryz.func129,Tryz.ntmps129
  go_wp2_with fail;refine (CS.out _).mono ?_;rintro e w1 ⟨rfl,Aa⟩;obtain ⟨d0,d1,d2⟩:=rK (Aa.alloc Aa.size (.cells #[.int .i64 T, .int .i64 B] 170));have B1:=agC (((Below.refl w.heap.size w).alloc (agD _) _).trans ((Aa.alloc Aa.size (.cells #[.int .i64 T, .int .i64 B] 170)).mono (by simp)));clear Aa;go_wp2;go_ret;exact ⟨rfl,B1.out⟩
 |true=>
  obtain ⟨b1,b2⟩:=mn s ho
  have HN:aF 1 s m=(decide (0≤rdT s)&&((1000000:Int).tmod (rdB s)==0)&&(m==0)):=by simp [aF,ar,kf,aQ,ho]
  rw [ho] at cs;generalize rdT s=T at cs HN;generalize rdB s=B at cs HN b1 b2;obtain ⟨b,rfl⟩:=agG (show 0≤B by omega);have e1:(1000000:Int).tmod (b:Int)=((1000000 % b:Nat):Int):=tmB 1000000 b;have e0:((b:Int)==0)=false:=beq_eq_false_iff_ne.mpr (by omega);rw [e1] at HN;have CS:=agC cs;clear cs ho
  by_cases h0:0≤T
  ·rw [decide_eq_true h0,Bool.true_and] at HN
   by_cases h:1000000 % b=0
   ·have e2:(((1000000 % b:Nat):Int)==0)=true:=beq_iff_eq.mpr (by omega)
    rw [e2,Bool.true_and] at HN;rw [HN];clear HN h;generalize 1000000 % b=q at e1 e2
    go_enter Tryz.func129,Tryz.ntmps129
    go_wp2_with fail;refine (CS.out _).mono ?_;rintro e w1 ⟨rfl,Aa⟩;obtain ⟨d0,d1,d2⟩:=rK (Aa.alloc Aa.size (.cells #[.int .i64 T, .int .i64 (b:Int)] 170));have B1:=agC (((Below.refl w.heap.size w).alloc (agD _) _).trans ((Aa.alloc Aa.size (.cells #[.int .i64 T, .int .i64 (b:Int)] 170)).mono (by simp)));clear Aa;go_wp2;go_ret;exact ⟨rfl,B1.out⟩
   ·have e2:(((1000000 % b:Nat):Int)==0)=false:=beq_eq_false_iff_ne.mpr (by omega)
    rw [e2,Bool.false_and] at HN;rw [HN];clear HN h;generalize 1000000 % b=q at e1 e2
    go_enter Tryz.func129,Tryz.ntmps129
    go_wp2_with fail;refine (CS.out _).mono ?_;rintro e w1 ⟨rfl,Aa⟩;obtain ⟨d0,d1,d2⟩:=rK (Aa.alloc Aa.size (.cells #[.int .i64 T, .int .i64 (b:Int)] 170));have B1:=agC (((Below.refl w.heap.size w).alloc (agD _) _).trans ((Aa.alloc Aa.size (.cells #[.int .i64 T, .int .i64 (b:Int)] 170)).mono (by simp)));clear Aa;go_wp2;go_ret;exact ⟨rfl,B1.out⟩
  ·rw [decide_eq_false h0,Bool.false_and,Bool.false_and] at HN
   rw [HN];clear HN;generalize 1000000 % b=q at e1
   go_enter Tryz.func129,Tryz.ntmps129
   go_wp2_with fail;refine (CS.out _).mono ?_;rintro e w1 ⟨rfl,Aa⟩;obtain ⟨d0,d1,d2⟩:=rK (Aa.alloc Aa.size (.cells #[.int .i64 T, .int .i64 (b:Int)] 170));have B1:=agC (((Below.refl w.heap.size w).alloc (agD _) _).trans ((Aa.alloc Aa.size (.cells #[.int .i64 T, .int .i64 (b:Int)] 170)).mono (by simp)));clear Aa;go_wp2;go_ret;exact ⟨rfl,B1.out⟩
theorem uo (m:Int) (s:ByteArray) (w:World) (hs:s.size≤1048576):
  Calls Tryz.prog 129 #[.agg #[.int .i64 2, .string s, .int .i64 m]] w fun e w'=>e= .returned (.bool (aF 2 s m))∧Below w.heap.size w w':=by
 have hN:aF 2 s m=(aD s&&decide (s.size≤60)&&(m==0)):=by simp [aF,ar,aQ]
 rw [hN];clear hN
 cases ht:aD s with
 |false=>
  rw [Bool.false_and,Bool.false_and];have HT:=agC ht;clear ht
  go_enter Tryz.func129,Tryz.ntmps129
  go_wp2_with fail;refine (aG s _ (by unfold maxLen;omega)).mono ?_;rintro e w' ⟨rfl,rfl⟩;rw [HT.out];go_wp2;go_ret;exact ⟨rfl,(Below.refl _ _).alloc (agD _) _⟩
 |true=>
  rw [Bool.true_and];have HT:=agC ht;clear ht
  by_cases h6:s.size≤60
  ·rw [decide_eq_true h6,Bool.true_and]
   go_enter Tryz.func129,Tryz.ntmps129
   go_wp2_with fail;refine (aG s _ (by unfold maxLen;omega)).mono ?_;rintro e w' ⟨rfl,rfl⟩;rw [HT.out];go_wp2;go_ret;exact ⟨rfl,(Below.refl _ _).alloc (agD _) _⟩
  ·rw [decide_eq_false h6,Bool.false_and]
   go_enter Tryz.func129,Tryz.ntmps129
   go_wp2_with fail;refine (aG s _ (by unfold maxLen;omega)).mono ?_;rintro e w' ⟨rfl,rfl⟩;rw [HT.out];go_wp2;go_ret;exact ⟨rfl,(Below.refl _ _).alloc (agD _) _⟩
theorem uq (m:Int) (s:ByteArray) (w:World) (hs:s.size≤1048576):
  Calls Tryz.prog 129 #[.agg #[.int .i64 4, .string s, .int .i64 m]] w fun e w'=>e= .returned (.bool (aF 4 s m))∧Below w.heap.size w w':=by
 have hN:aF 4 s m=(cI s.data.toList&&decide (s.size≤60)&&(m==0)):=by simp [aF,ar,aQ]
 rw [hN];clear hN
 cases ht:cI s.data.toList with
 |false=>
  rw [Bool.false_and,Bool.false_and];have HT:=agC ht;clear ht
  go_enter Tryz.func129,Tryz.ntmps129
  go_wp2_with fail;refine (cn s _ (by unfold maxLen;omega)).mono ?_;rintro e w' ⟨rfl,rfl⟩;rw [HT.out];go_wp2;go_ret;exact ⟨rfl,(Below.refl _ _).alloc (agD _) _⟩
 |true=>
  rw [Bool.true_and];have HT:=agC ht;clear ht
  by_cases h6:s.size≤60
  ·rw [decide_eq_true h6,Bool.true_and]
   go_enter Tryz.func129,Tryz.ntmps129
   go_wp2_with fail;refine (cn s _ (by unfold maxLen;omega)).mono ?_;rintro e w' ⟨rfl,rfl⟩;rw [HT.out];go_wp2;go_ret;exact ⟨rfl,(Below.refl _ _).alloc (agD _) _⟩
  ·rw [decide_eq_false h6,Bool.false_and]
   go_enter Tryz.func129,Tryz.ntmps129
   go_wp2_with fail;refine (cn s _ (by unfold maxLen;omega)).mono ?_;rintro e w' ⟨rfl,rfl⟩;rw [HT.out];go_wp2;go_ret;exact ⟨rfl,(Below.refl _ _).alloc (agD _) _⟩
theorem ur (m:Int) (s:ByteArray) (w:World) (hs:s.size≤1048576):
  Calls Tryz.prog 129 #[.agg #[.int .i64 3, .string s, .int .i64 m]] w fun e w'=>e= .returned (.bool (aF 3 s m))∧Below w.heap.size w w':=by
 by_cases h1:s.data.toList=[116,114,117,101]
 ·have e1:=dR h1
  rw [show aF 3 s m=(m==0) by simp [aF,ar,aQ,b7,bE,h1]];clear h1
  go_enter Tryz.func129,Tryz.ntmps129
  go_wp2;go_ret;exact ⟨rfl,(Below.refl _ _).alloc (agD _) _⟩
 ·by_cases h2:s.data.toList=[102,97,108,115,101]
  ·have e1:=dg h1;have e2:=dR h2
   rw [show aF 3 s m=(m==0) by simp [aF,ar,aQ,b7,bE,h2]];clear h1 h2
   go_enter Tryz.func129,Tryz.ntmps129
   go_wp2;go_ret;exact ⟨rfl,(Below.refl _ _).alloc (agD _) _⟩
  ·have e1:=dg h1;have e2:=dg h2
   rw [show aF 3 s m=false by simp [aF,ar,b7,bE,h1,h2]];clear h1 h2
   go_enter Tryz.func129,Tryz.ntmps129
   go_wp2;go_ret;exact ⟨rfl,(Below.refl _ _).alloc (agD _) _⟩
theorem ut (m:Int) (s:ByteArray) (w:World) (hs:s.size≤1048576):
  Calls Tryz.prog 129 #[.agg #[.int .i64 7, .string s, .int .i64 m]] w fun e w'=>e= .returned (.bool (aF 7 s m))∧Below w.heap.size w w':=by
 by_cases h1:s.data.toList=[33]
 ·have e1:=dR h1
  rw [show aF 7 s m=(m==1) by simp [aF,ar,aQ,h1]];clear h1
  go_enter Tryz.func129,Tryz.ntmps129
  go_wp2;go_ret;exact ⟨rfl,(Below.refl _ _).alloc (agD _) _⟩
 ·by_cases h2:s.data.toList=[45]
  ·have e1:=dg h1;have e2:=dR h2
   rw [show aF 7 s m=(m==1) by simp [aF,ar,aQ,h2]];clear h1 h2
   go_enter Tryz.func129,Tryz.ntmps129
   go_wp2;go_ret;exact ⟨rfl,(Below.refl _ _).alloc (agD _) _⟩
  ·have e1:=dg h1;have e2:=dg h2
   rw [show aF 7 s m=false by simp [aF,ar,h1,h2]];clear h1 h2
   go_enter Tryz.func129,Tryz.ntmps129
   go_wp2;go_ret;exact ⟨rfl,(Below.refl _ _).alloc (agD _) _⟩
theorem uu (m:Int) (s:ByteArray) (w:World) (hs:s.size≤1048576):
  Calls Tryz.prog 129 #[.agg #[.int .i64 5, .string s, .int .i64 m]] w fun e w'=>e= .returned (.bool (aF 5 s m))∧Below w.heap.size w w':=by
 cases he:s.data.toList with
 |nil=>
  rw [show aF 5 s m=inI m 0 8 by simp [aF,ar,aQ,inI,he]];have e1:=dR he
  have e2:s.toList=[]:=by rw [ByteArray.toList_eq];exact he
  have e3:s.toList.isEmpty=true:=by rw [e2];rfl
  have e4:(!s.toList.isEmpty)=false:=by rw [e2];rfl
  clear he
  go_enter Tryz.func129,Tryz.ntmps129
  go_wp2_with fail;refine (dG m 0 8 _).mono ?_;rintro e w' ⟨rfl,rfl⟩;go_wp2;go_ret;exact ⟨rfl,(Below.refl _ _).alloc (agD _) _⟩
 |cons b t=>
  rw [show aF 5 s m=false by simp [aF,ar,he]];have e1:(s.toList==[])=false:=dg (by rw [he];simp)
  have e2:s.toList≠[]:=by rw [ByteArray.toList_eq,he];simp
  have e3:s.toList.isEmpty=false:=by rw [ByteArray.toList_eq,he];rfl
  have e4:(!s.toList.isEmpty)=true:=by rw [e3];rfl
  clear he
  go_enter Tryz.func129,Tryz.ntmps129
  go_wp2;go_ret;exact ⟨eU (by simp [*]),(Below.refl _ _).alloc (agD _) _⟩
theorem uv (m:Int) (s:ByteArray) (w:World) (hs:s.size≤1048576):
  Calls Tryz.prog 129 #[.agg #[.int .i64 9, .string s, .int .i64 m]] w fun e w'=>e= .returned (.bool (aF 9 s m))∧Below w.heap.size w w':=by
 cases he:s.data.toList with
 |nil=>
  rw [show aF 9 s m=(m==3) by simp [aF,ar,aQ,he]];have e1:=dR he
  have e2:s.toList=[]:=by rw [ByteArray.toList_eq];exact he
  have e3:s.toList.isEmpty=true:=by rw [e2];rfl
  have e4:(!s.toList.isEmpty)=false:=by rw [e2];rfl
  clear he
  go_enter Tryz.func129,Tryz.ntmps129
  go_wp2;go_ret;exact ⟨rfl,(Below.refl _ _).alloc (agD _) _⟩
 |cons b t=>
  rw [show aF 9 s m=false by simp [aF,ar,he]];have e1:(s.toList==[])=false:=dg (by rw [he];simp)
  have e2:s.toList≠[]:=by rw [ByteArray.toList_eq,he];simp
  have e3:s.toList.isEmpty=false:=by rw [ByteArray.toList_eq,he];rfl
  have e4:(!s.toList.isEmpty)=true:=by rw [e3];rfl
  clear he
  go_enter Tryz.func129,Tryz.ntmps129
  go_wp2;go_ret;exact ⟨eU (by simp [*]),(Below.refl _ _).alloc (agD _) _⟩
theorem uw (m:Int) (s:ByteArray) (w:World) (hs:s.size≤1048576):
  Calls Tryz.prog 129 #[.agg #[.int .i64 6, .string s, .int .i64 m]] w fun e w'=>e= .returned (.bool (aF 6 s m))∧Below w.heap.size w w':=by
 have hN:aF 6 s m=(cI s.data.toList&& !dV s.data.toList 46&&inI m 0 8):=by simp [aF,ar,aQ,inI]
 rw [hN];clear hN
 cases ht:cI s.data.toList with
 |false=>
  rw [Bool.false_and,Bool.false_and];have HT:=agC ht;clear ht
  go_enter Tryz.func129,Tryz.ntmps129
  go_wp2_with fail;refine (cn s _ (by unfold maxLen;omega)).mono ?_;rintro e w' ⟨rfl,rfl⟩;rw [HT.out];go_wp2;go_ret;exact ⟨rfl,(Below.refl _ _).alloc (agD _) _⟩
 |true=>
  rw [Bool.true_and];have HT:=agC ht;clear ht
  cases hh:dV s.data.toList 46
  ·rw [Bool.not_false,Bool.true_and]
   have HH:=agC hh;clear hh
   go_enter Tryz.func129,Tryz.ntmps129
   go_wp2_with fail;refine (cn s _ (by unfold maxLen;omega)).mono ?_;rintro e w' ⟨rfl,rfl⟩;rw [HT.out];go_wp2_with fail;refine (ev s 46 _ (by unfold maxLen;omega) (by omega) (by omega)).mono ?_;rintro e w' ⟨rfl,rfl⟩;rw [HH.out];go_wp2_with fail;refine (dG m 0 8 _).mono ?_;rintro e w' ⟨rfl,rfl⟩;go_wp2;go_ret;exact ⟨rfl,(Below.refl _ _).alloc (agD _) _⟩
  ·rw [Bool.not_true,Bool.false_and]
   have HH:=agC hh;clear hh
   go_enter Tryz.func129,Tryz.ntmps129
   go_wp2_with fail;refine (cn s _ (by unfold maxLen;omega)).mono ?_;rintro e w' ⟨rfl,rfl⟩;rw [HT.out];go_wp2_with fail;refine (ev s 46 _ (by unfold maxLen;omega) (by omega) (by omega)).mono ?_;rintro e w' ⟨rfl,rfl⟩;rw [HH.out];go_wp2;go_ret;exact ⟨rfl,(Below.refl _ _).alloc (agD _) _⟩
theorem ux (m:Int) (s:ByteArray) (w:World) (hs:s.size≤1048576):
  Calls Tryz.prog 129 #[.agg #[.int .i64 8, .string s, .int .i64 m]] w fun e w'=>e= .returned (.bool (aF 8 s m))∧Below w.heap.size w w':=by
 have hN:aF 8 s m=(decide (0<ap s.data.toList)&&(m==2)):=by simp [aF,ar,aQ]
 rw [hN];clear hN
 by_cases h6:0<ap s.data.toList
 ·rw [decide_eq_true h6,Bool.true_and]
  have CR:=agC (fun w'=>fp s w');generalize ap s.data.toList=r at CR h6
  go_enter Tryz.func129,Tryz.ntmps129
  go_wp2_with fail;refine (CR.out _).mono ?_;rintro e w' ⟨rfl,rfl⟩;go_wp2;go_ret;exact ⟨rfl,(Below.refl _ _).alloc (agD _) _⟩
 ·rw [decide_eq_false h6,Bool.false_and]
  have CR:=agC (fun w'=>fp s w');generalize ap s.data.toList=r at CR h6
  go_enter Tryz.func129,Tryz.ntmps129
  go_wp2_with fail;refine (CR.out _).mono ?_;rintro e w' ⟨rfl,rfl⟩;go_wp2;go_ret;exact ⟨rfl,(Below.refl _ _).alloc (agD _) _⟩
theorem rL (k:Int) (m:Int) (s:ByteArray) (w:World) (hs:s.size≤1048576) (hk: ¬(1≤k∧k≤9)):
  Calls Tryz.prog 129 #[.agg #[.int .i64 k, .string s, .int .i64 m]] w fun e w'=>e= .returned (.bool (aF k s m))∧Below w.heap.size w w':=by
 have hf:aF k s m=false:=by
  unfold aF ar
  iterate 9 rw [if_neg (by omega)]
  rfl
 rw [hf];clear hf;have n1:(k==1)=false:=beq_eq_false_iff_ne.mpr (by omega);have n2:(k==2)=false:=beq_eq_false_iff_ne.mpr (by omega);have n3:(k==3)=false:=beq_eq_false_iff_ne.mpr (by omega);have n4:(k==4)=false:=beq_eq_false_iff_ne.mpr (by omega);have n5:(k==5)=false:=beq_eq_false_iff_ne.mpr (by omega);have n6:(k==6)=false:=beq_eq_false_iff_ne.mpr (by omega);have n7:(k==7)=false:=beq_eq_false_iff_ne.mpr (by omega);have n8:(k==8)=false:=beq_eq_false_iff_ne.mpr (by omega);have n9:(k==9)=false:=beq_eq_false_iff_ne.mpr (by omega);clear hk
 go_enter Tryz.func129,Tryz.ntmps129
 go_wp2;go_ret;exact ⟨rfl,(Below.refl _ _).alloc (agD _) _⟩
theorem afY (k:Int) (h:1≤k∧k≤9):k=1∨k=2∨k=3∨k=4∨k=5∨k=6∨k=7∨k=8∨k=9:=by omega
theorem oY (k m:Int) (s:ByteArray) (w:World) (hs:s.size≤1048576):
  Calls Tryz.prog 129 #[.agg #[.int .i64 k, .string s, .int .i64 m]] w fun e w'=>e= .returned (.bool (aF k s m))∧Below w.heap.size w w':=by
 by_cases hk:1≤k∧k≤9
 ·rcases afY k hk with rfl|rfl|rfl|rfl|rfl|rfl|rfl|rfl|rfl
  ·exact un m s w hs
  ·exact uo m s w hs
  ·exact ur m s w hs
  ·exact uq m s w hs
  ·exact uu m s w hs
  ·exact uw m s w hs
  ·exact ut m s w hs
  ·exact ux m s w hs
  ·exact uv m s w hs
 ·exact rL k m s w hs hk
def aaF (am:List Nat) (f:Nat):Int:=match scA (am.drop f) f 1 with
 |some t=>(t:Int)
 |none=> -1
theorem j9 {am:List Nat} {f t:Nat} (h:scA (am.drop f) f 1=some t):aaF am f=(t:Int):=by simp [aaF,h]
theorem qz {am:List Nat} {f:Nat} (h:scA (am.drop f) f 1=none):aaF am f= -1:=by simp [aaF,h]
theorem Exs.endI {am:List Nat} {f t d:Nat} (h:Exs am 1 f t d):aaF am f=(t:Int):=j9 h.sc0
theorem rM {a b:Int} (h:a=b):Ending.returned (.int .i64 a)= .returned (.int .i64 b):=by rw [h]
theorem ExsS.dep {am:List Nat} {n f t d:Nat} (h:Exs am n f t d):d≤t-f:=by
 induction h with
 |nil f=>omega
 | @cons f m g d n t e hm h1 h2 i1 i2=>have l1:=h1.le;have l2:=h2.le;omega
theorem kb (v:Value) (l:List Cl) (f:Nat) (w:World) (hr:RowC w v l) (Ci:l.length≤60) (Aj:l.all okM=true) (hf:f≤l.length):
  Calls Tryz.prog 130 #[v, .int .i64 (f:Int)] w fun e w'=>e= .returned (.int .i64 (aaF (amL l) f))∧w=w':=by
 obtain ⟨ao,cap,rfl,h1,h2,h3⟩:=hr;unfold maxLen at h2;have H3:=agC h3;have HK:=agC Aj;clear h3 Aj
 go_enter Tryz.func130,Tryz.ntmps130
 go_wp2
 go_loop [1,5] (fun a lf=> ∃k L:Nat,f≤k∧k≤l.length∧a= .int .i64 (k:Int)∧lf= .int .i64 (L:Int)∧L≤1+8*k∧scA ((amL l).drop k) k L=scA ((amL l).drop f) f 1) (fun a _=>l.length-(intOf a).toNat)
 case atStart=>exact ⟨f,1,agD _,hf,rfl,rfl,by omega,rfl⟩
 case round=>
  obtain ⟨k,L,V4,hk,rfl,rfl,hL,G5⟩:=hrel;have HS:=agC G5;clear G5
  by_cases Ab:k<l.length
  ·by_cases hL0:0<L
   ·obtain ⟨b,o,rfl,Av,cc⟩:=H3.out.resolve_left (by rintro rfl;simp at Ab)
    obtain ⟨-,-,c2⟩:=cc k Ab;have JQ:=lE (nh HK.out k Ab);have EZ:=agC (qQ (amL l) k _ (qR l k Ab));generalize l[k].2.2=M at c2 JQ EZ;obtain ⟨m,rfl⟩:=agG JQ.1
    have Q9:m≤8:=by omega
    have Ku:max (0:Int) (m:Int)=(m:Int):=by omega
    obtain ⟨L',rfl⟩: ∃x,L=x+1:=⟨L-1,by omega⟩
    have HN:=agC (show scA ((amL l).drop (k+1)) (k+1) (L'+m)=scA ((amL l).drop f) f 1 by
     rw [←HS.out,EZ.out,scA];simp)
    clear cc JQ;go_wp2
    go_round
    case rel=>exact ⟨k+1,L'+m,by omega,by omega,by go_num,by first|go_num|(congr 1;omega),by omega,HN.out⟩
    case measure=>simp [intOf];omega
   ·obtain rfl:L=0:=by omega
    have HE:=agC (j9 (am:=amL l) (f:=f) (t:=k) (by rw [←HS.out,jj]));go_wp2;go_ret;exact ⟨rM HE.out.symm,rfl⟩
  ·obtain rfl:k=l.length:=by omega
   by_cases hL0:0<L
   ·obtain ⟨L',rfl⟩: ∃x,L=x+1:=⟨L-1,by omega⟩
    have HE:=agC (qz (am:=amL l) (f:=f) (by rw [←HS.out,List.drop_of_length_le (by rw [cG];exact agD _)];rfl));go_wp2;go_ret;exact ⟨rM HE.out.symm,rfl⟩
   ·obtain rfl:L=0:=by omega
    have HE:=agC (j9 (am:=amL l) (f:=f) (t:=l.length) (by rw [←HS.out,jj]));go_wp2;go_ret;exact ⟨rM HE.out.symm,rfl⟩
def fu (L:List Nat):List Value:=L.map fun (n:Nat)=>Value.int .i64 (n:Int)
theorem uy (L:List Nat):(fu L).length=L.length:=by simp [fu]
theorem aaG (L:List Nat) (n:Nat):fu (L++[n])=fu L++[.int .i64 (n:Int)]:=by simp [fu]
theorem aeD (L:List Nat) (k:Nat) (h:k<L.length):(fu L)[k]? =some (.int .i64 (L[k]:Int)):=by simp [fu,h]
def RowI (w:World) (v:Value) (L:List Nat):Prop:=
 ∃ao cap,v= .slice ao L.length cap∧L.length≤cap∧cap≤maxLen∧(L=[]∨ ∃b,ao=some ⟨b,0,none⟩∧b<w.heap.size∧ ∀k (h:k<L.length),w.cell? ⟨b,k,none⟩=some (.int .i64 (L[k]:Int)))
theorem RowI.of_own {w:World} {base m:Nat} {v:Value} {L:List Nat} (ho:w.ownsRow base 3 1 v m (fu L)):RowI w v L∧m=L.length:=by
 have hl:L.length=m:=by have:=ho.1;rw [uy] at this;omega
 subst hl;refine ⟨?_,rfl⟩
 rcases ho.2 with ⟨rfl,h0⟩|⟨g,cap,cur,rfl,hg,hh,h1,h2,_⟩
 ·exact ⟨none,0,by rw [h0],by omega,by unfold maxLen;omega, .inl (List.length_eq_zero_iff.mp h0)⟩
 ·refine ⟨_,cap,rfl,h1,h2, .inr ⟨g,rfl,(ho.lt g rfl).2,fun k hk=> ?_⟩⟩
  rw [ho.cellAt k (by omega)];exact aeD L k hk
def yi (L:List Nat) (w:World) (e:Ending) (w':World):Prop:=
 ∃v,e= .returned v∧w'.ownsRow w.heap.size 3 1 v L.length (fu L)∧Below w.heap.size w w'
theorem ade:(Tryz.prog.info? 3).map (fun i=>(i.zero,i.size,i.bytes))=some (some (.int .i64 0),1,8):=by kernel_rfl
theorem oZ (v:Value) (l:List Cl) (f m t d:Nat) (w:World) (hr:RowC w v l) (Ci:l.length≤60) (Aj:l.all okM=true) (hm:(amL l)[f]? =some m) (hx:Exs (amL l) m (f+1) t d):
  Calls Tryz.prog 140 #[v, .int .i64 (f:Int)] w (yi (fh (amL l) (f+1) m) w):=by
 obtain ⟨i0,hi,Az,Ax,AC⟩:=info_parts ade
 have FU:f<l.length:=by
  by_cases hk:f<l.length
  ·exact hk
  ·rw [List.getElem?_eq_none (by rw [cG];omega)] at hm;cases hm
 have Q9:m≤8:=by
  have:=lE (nh Aj f FU)
  rw [qR l f FU] at hm;injection hm with hm;omega
 have HR:=agC hr;obtain ⟨ao,cap,rfl,h1,h2,h3⟩:=hr;unfold maxLen at h2;obtain ⟨b,o,rfl,Av,cc⟩:=h3.resolve_left (by rintro rfl;simp at FU);obtain ⟨-,-,c2⟩:=cc f FU
 have DS:l[f].2.2=(m:Int):=by
  have:=lE (nh Aj f FU)
  rw [qR l f FU] at hm;injection hm with hm;omega
 rw [DS] at c2;have HX:=agC hx;have HK:=agC Aj;have HM:=agC hm;clear hx Aj hm DS cc h3
 go_enter Tryz.func140,Tryz.ntmps140
 go_wp2
 go_loopw [5,6,7] (fun out nx i wr=> ∃k g d':Nat,k≤m∧i= .int .i64 (k:Int)∧nx= .int .i64 (g:Int)∧Exs (amL l) k (f+1) g d'∧wr.ownsRow w.heap.size 3 1 out k (fu (fh (amL l) (f+1) k))∧Below w.heap.size w wr) (fun _ _ i _=>m-(intOf i).toNat)
 case atStart=>exact ⟨0,f+1,0,agH _,rfl,by go_num, .nil _,World.ownsRow_lit _ _ 0 (agD _) (by unfold maxLen;omega) rfl,(Below.refl _ _).alloc (agD _) _⟩
 case round=>
  obtain ⟨k,g,d',hk,rfl,rfl,hx,Ad,hb⟩:=hrel;have e2:wr.cell? ⟨b,o+f*3+2,none⟩=some (.int .i64 (m:Int)):=(hb.cell (p:=⟨b,_,none⟩) Av).trans c2;have HB:=agC hb
  by_cases Ab:k<m
  ·have Fh:=HX.out
   rw [show m=k+(1+(m-k-1)) by omega] at Fh;obtain ⟨g1,q1,q2,s1,s2,-⟩:=Fh.split;obtain ⟨rfl,-⟩:=s1.uniq hx;obtain ⟨g2,r1,r2,s3,s4,-⟩:=s2.split
   have hg1:g1≤l.length:=by have:=s3.le.2 (by omega);have h3:=s3.le.1;rw [cG] at this;omega
   have UR:=agC s3.endI;have US:=agC (s1.snoc s3);have HL:=agC (vt s1);have Ln:=hb.size;clear s1 s2 s3 s4 Fh hx hb
   go_wp2_with (at_builtin;refine wpList_append_own _ rfl _ _ 25 rfl w.heap.size 3 i0 (.int .i64 0) 1 8 Tryz.underlying25 hi Az Ax AC rfl (by decide) _ _ _ rfl (Ad.alloc _) ⟨wr.heap.size,0,none⟩ 1 1 [.int .i64 (g1:Int)] rfl rfl (World.news_of_block (cs:= #[.int .i64 (g1:Int)]) (t:=3) (fr:=(0,0)) (heap_alloc_new wr _)) (by simp [Value.oneCell']) (by unfold maxLen;omega) (by omega) (by simp;omega) ?_;intro v' w2 Ah Ac By;have Ak:=agC ((HB.out.alloc HB.out.size _).grown Ac (by have:=HB.out.size;simp;omega) (fun q hq=>(Ad.lt q hq).1));have Cc:=agC Ah;clear Ah Ac By)
   refine (kb _ l g1 _ (HR.out.mono Ak.out) Ci HK.out hg1).mono ?_;rintro e w' ⟨rfl,rfl⟩;rw [UR.out];go_wp2;go_roundw
   case rel=>exact ⟨k+1,g2,_,by omega,by go_num,rfl,US.out,by rw [HL.out,aaG];exact Cc.out,Ak.out⟩
   case measure=>simp [intOf];omega
  ·obtain rfl:k=m:=by omega
   have HO:=agC Ad;clear Ad hx hb;go_wp2;go_ret;exact ⟨_,rfl,by rw [iL];exact HO.out,HB.out⟩
theorem uz (v:Value) (l:List Cl) (Ci:l.length≤60) (Aj:l.all okM=true) (j:Nat): ∀(f t d:Nat) (w:World),Exs (amL l) 1 f t d→t-f≤j→RowC w v l→
  Calls Tryz.prog 131 #[v, .int .i64 (f:Int)] w fun e w'=>e= .returned (.int .i64 (d:Int))∧Below w.heap.size w w':=by
 induction j with
 |zero=>intro f t d w h hj;have:=h.le;omega
 |succ j ih=>
  intro f t d w h hj hr;obtain ⟨m,e,hm,hx,rfl⟩:=h.inv;have HK:=agC (oZ v l f m t e w hr Ci Aj hm hx);have HR:=agC hr;obtain ⟨ao,cap,rfl,h1,h2,h3⟩:=hr;unfold maxLen at h2;have JR:=ExsS.dep hx;have Du:=h.le.2 (by omega);rw [cG] at Du
  have Sj:m≤60:=by have:=hx.le;omega
  have IH:=agC ih;have HX:=agC hx;have Ek:=agC (iL (amL l) m (f+1));have EM:=agC (show Exs (amL l) 0 (f+1) (f+1) 0 from .nil _);clear h3 ih h hm hx
  go_enter Tryz.func131,Tryz.ntmps131
  go_wp2_with fail;refine HK.out.mono ?_;rintro e1 w1 ⟨v1,rfl,C9,Aa⟩;obtain ⟨Eg,-⟩:=RowI.of_own C9;have Af:=agC Aa;generalize hL:fh (amL l) (f+1) m=L at*;have FO:=agC hL;clear hL;obtain ⟨bo,cp,rfl,g1,g2,g3⟩:=Eg;have FH:=Ek.out;rw [FH] at g1⊢;unfold maxLen at g2;have G3:=agC g3;clear g3 Aa C9 FH;go_wp2_with fail
  go_loopw [5,7] (fun dp i wr=> ∃k e0:Nat,k≤m∧i= .int .i64 (k:Int)∧dp= .int .i64 (e0:Int)∧(∃g,Exs (amL l) k (f+1) g e0)∧Below w1.heap.size w1 wr) (fun _ i _=>m-(intOf i).toNat)
  case atStart=>exact ⟨0,0,agH _,rfl,rfl,⟨_,EM.out⟩,Below.refl _ _⟩
  case round=>
   obtain ⟨k,e0,hk,rfl,rfl,Gv,hb⟩:=hrel;have HG:=agC Gv;have HB:=agC hb;clear Gv hb
   by_cases Ab:k<m
   ·obtain ⟨kk,g',d0,d1,d2,j1,j2,j3,j4,j5,j6⟩:=afk HX.out k Ab
    obtain ⟨gx,Gv⟩:=HG.out;obtain ⟨rfl,rfl⟩:=Gv.uniq j2;rw [FO.out] at j1
    have Qe:k<L.length:=by rw [Ek.out];exact Ab
    rw [List.getElem?_eq_getElem Qe] at j1;injection j1 with j1
    obtain ⟨b,rfl,Av,cc⟩:=G3.out.resolve_left (by rintro rfl;simp at Qe);have c1:=cc k Qe;rw [j1] at c1;have V3:=(HB.out.cell (p:=⟨b,k,none⟩) Av).trans c1;have l2:=j2.le;have l3:=j3.le;have l5:=j5.le;have p2:=ExsS.dep j2;have p3:=ExsS.dep j3;have O8:=agC j3;have UT:=agC j4;clear cc c1 j1 j2 j3 j4 j5 Gv HG;go_wp2_with fail;refine (IH.out _ g' d1 _ O8.out (by omega) (HR.out.mono (Af.out.trans (HB.out.mono Af.out.size)))).mono ?_;rintro e2 w2 ⟨rfl,Ae⟩;have Ak:=agC (HB.out.trans (Ae.mono HB.out.size));clear Ae;go_wp2;go_roundw
    case rel=>exact ⟨k+1,max e0 d1,by omega,by go_num,by first|rfl|(congr 1;omega),⟨_,UT.out⟩,Ak.out⟩
    case measure=>simp [intOf];omega
   ·obtain rfl:k=m:=by omega
    obtain ⟨gx,Gv⟩:=HG.out;obtain ⟨-,rfl⟩:=Gv.uniq HX.out;have I1:=agC (Af.out.trans (HB.out.mono Af.out.size));clear Gv;go_wp2;go_ret;exact ⟨rM (by omega),I1.out⟩
theorem adf {l:List Cl} (h: ¬l.all okC=true):okE l=false:=by
 rw [Bool.eq_false_iff];intro h';exact h ((dE l).mp h').2.1
theorem aaH {l:List Cl} {k:Nat} (h:k<l.length):(l.take (k+1)).all okC=((l.take k).all okC&&okC l[k]):=by
 rw [List.take_succ_eq_append_getElem h,List.all_append];simp
theorem jB (v:Value) (l:List Cl) (w:World) (hr:RowC w v l) (hz:co l) (hl:l.length≤1048576):
  Calls Tryz.prog 84 #[v] w fun e w'=>e= .returned (.bool (okE l))∧Below w.heap.size w w':=by
 have HR:=agC hr;obtain ⟨ao,cap,rfl,h1,h2,h3⟩:=hr;unfold maxLen at h2;have H3:=agC h3;have HZ:=agC hz;clear h3 hz
 have key: ∃b,okE l=b:=⟨_,rfl⟩
 obtain ⟨bk,AJ⟩:=key;rw [AJ];have DR:=agC AJ;clear AJ
 go_enter Tryz.func84,Tryz.ntmps84
 go_wp2
 go_loopw [3] (fun i wr=> ∃k:Nat,k≤l.length∧i= .int .i64 (k:Int)∧(l.take k).all okC=true∧Below w.heap.size w wr) (fun i _=>l.length-(intOf i).toNat)
 case atStart=>exact ⟨0,agH _,rfl,rfl,Below.refl _ _⟩
 case round=>
  obtain ⟨k,hk,rfl,Aj,hb⟩:=hrel;have Bj:=agC Aj;have HB:=agC hb;clear Aj hb
  by_cases Ab:k<l.length
  ·obtain ⟨b,o,rfl,Av,cc⟩:=H3.out.resolve_left (by rintro rfl;simp at Ab)
   obtain ⟨c0,c1,c2⟩:=cc k Ab;have d0:wr.cell? ⟨b,o+k*3,none⟩=some (.int .i64 l[k].1):=(HB.out.cell (p:=⟨b,_,none⟩) Av).trans c0;have d1:wr.cell? ⟨b,o+k*3+1,none⟩=some (.string l[k].2.1):=(HB.out.cell (p:=⟨b,_,none⟩) Av).trans c1;have d2:wr.cell? ⟨b,o+k*3+2,none⟩=some (.int .i64 l[k].2.2):=(HB.out.cell (p:=⟨b,_,none⟩) Av).trans c2;have JT:l[k].2.1.size≤1048576:=HZ.out _ (List.getElem_mem _);have HT:=agC (aaH Ab);have HC:=agC (show okC l[k]=aF l[k].1 l[k].2.1 l[k].2.2 from rfl);generalize l[k].1=kk at d0 HC;generalize l[k].2.1=ss at d1 HC JT;generalize l[k].2.2=mm at d2 HC;have O9:=agC JT;clear cc c0 c1 c2 JT;go_wp2_with fail;refine (oY kk mm ss _ O9.out).mono ?_;rintro e w1 ⟨rfl,Aa⟩;have Af:=agC (HB.out.trans (Aa.mono HB.out.size));clear Aa
   cases DL:aF kk ss mm with
   |true=>
    have HN:=agC (show (l.take (k+1)).all okC=true by rw [HT.out,Bj.out,HC.out,DL];rfl);clear DL;go_wp2;go_roundw
    case rel=>exact ⟨k+1,by omega,by go_num,HN.out,Af.out⟩
    case measure=>simp [intOf];omega
   |false=>
    have HN:=agC (adf (l:=l) (fun h=>by
     have:=jL h k Ab
     rw [HC.out,DL] at this;cases this))
    clear DL;go_wp2;go_ret;exact ⟨eU (HN.out.symm.trans DR.out),Af.out⟩
  ·obtain rfl:k=l.length:=by omega
   have BS:=agC (show l.all okC=true by have:=Bj.out;rwa [List.take_of_length_le (agD _)] at this)
   by_cases CN:1≤l.length∧l.length≤60
   ·have Id:=agC (show inI (l.length:Int) 1 60=true by simp [inI];omega)
    cases G5:scA ((amL l).drop 0) 0 1 with
    |none=>
     have HE:=agC (qz G5)
     have HN:=agC (show okE l=false by
      rw [Bool.eq_false_iff];intro h';obtain ⟨-,-,d,-,hx⟩:=(dE l).mp h'
      rw [hx.sc0] at G5;cases G5)
     have At:((-1:Int)==(l.length:Int))=false:=beq_eq_false_iff_ne.mpr (by omega);clear G5;go_wp2_with fail;refine (dG _ _ _ _).mono ?_;rintro e w' ⟨rfl,rfl⟩;rw [Id.out];go_wp2_with fail;refine (kb _ l 0 _ (HR.out.mono HB.out) CN.2 (ni BS.out) (agH _)).mono ?_;rintro e w' ⟨rfl,rfl⟩;rw [HE.out];go_wp2;go_ret;exact ⟨eU (HN.out.symm.trans DR.out),HB.out⟩
    |some t=>
     have HE:=agC (j9 G5);obtain ⟨d,hx⟩:=zu (amL l) (amL l).length 1 0 t (by omega) G5;have HX:=agC hx;have JR:=ExsS.dep hx;have CJ:=hx.le.2 (by omega);rw [cG] at CJ;clear G5 hx
     by_cases Du:t=l.length
     ·subst Du
      have HN:=agC (show okE l=decide ((d:Int)≤12) by
       rw [Bool.eq_iff_iff,dE,decide_eq_true_eq]
       constructor
       ·rintro ⟨-,-,d',hd,Mi⟩
        obtain ⟨-,rfl⟩:=HX.out.uniq Mi;omega
       ·intro hd;exact ⟨CN.2,BS.out,d,by omega,HX.out⟩)
      have At:((l.length:Int)==(l.length:Int))=true:=beq_self_eq_true _;go_wp2_with fail;refine (dG _ _ _ _).mono ?_;rintro e w' ⟨rfl,rfl⟩;rw [Id.out];go_wp2_with fail;refine (kb _ l 0 _ (HR.out.mono HB.out) CN.2 (ni BS.out) (agH _)).mono ?_;rintro e w' ⟨rfl,rfl⟩;rw [HE.out];go_wp2_with fail;refine (uz _ l CN.2 (ni BS.out) l.length 0 l.length d _ HX.out (by omega) (HR.out.mono HB.out)).mono ?_;rintro e w2 ⟨rfl,Ae⟩;have Ak:=agC (HB.out.trans (Ae.mono HB.out.size));clear Ae
      by_cases hd:(d:Int)≤12
      ·have Gk:=agC (show okE l=true by rw [HN.out,decide_eq_true hd])
       go_wp2;go_ret;exact ⟨eU (Gk.out.symm.trans DR.out),Ak.out⟩
      ·go_wp2
       go_ret;exact ⟨eU (HN.out.symm.trans DR.out),Ak.out⟩
     ·have HN:=agC (show okE l=false by
       rw [Bool.eq_false_iff];intro h';obtain ⟨-,-,d',-,Mi⟩:=(dE l).mp h'
       exact Du (HX.out.uniq Mi).1)
      have At:((t:Int)==(l.length:Int))=false:=beq_eq_false_iff_ne.mpr (by omega);have FM:(t==l.length)=false:=beq_eq_false_iff_ne.mpr Du;go_wp2_with fail;refine (dG _ _ _ _).mono ?_;rintro e w' ⟨rfl,rfl⟩;rw [Id.out];go_wp2_with fail;refine (kb _ l 0 _ (HR.out.mono HB.out) CN.2 (ni BS.out) (agH _)).mono ?_;rintro e w' ⟨rfl,rfl⟩;rw [HE.out];go_wp2;go_ret;exact ⟨eU (HN.out.symm.trans DR.out),HB.out⟩
   ·have Id:=agC (show inI (l.length:Int) 1 60=false by simp [inI];omega)
    have HN:=agC (show okE l=false by
     rw [Bool.eq_false_iff];intro h';obtain ⟨Ci,-,d,-,hx⟩:=(dE l).mp h'
     have:=hx.le;omega)
    go_wp2_with fail;refine (dG _ _ _ _).mono ?_;rintro e w' ⟨rfl,rfl⟩;rw [Id.out];go_wp2;go_ret;exact ⟨eU (HN.out.symm.trans DR.out),HB.out⟩
end Go.Proofs.YtegdjjjpoahamaaGreatDoor
