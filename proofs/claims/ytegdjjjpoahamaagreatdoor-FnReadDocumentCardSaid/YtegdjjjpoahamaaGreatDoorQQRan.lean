/-
  Part of the proof of FnReadDocument.
-/
import Derived.Test.YtegdjjjpoahamaaGreatDoorQQRag
import Derived.Test.YtegdjjjpoahamaaGreatDoorQQRak
import Derived.Deep.QuietTactic
import Derived.RegionTactic
import Derived.Deep.RegionWith
import Derived.Deep.DeepCutAuto
set_option linter.unusedVariables false
set_option maxHeartbeats 4000000
set_option maxRecDepth 100000
namespace Go.Proofs.YtegdjjjpoahamaaGreatDoor
open Go.RowKit
def rkI (l:List UInt8):Int:=if ap l=0 then 0 else ap l-1
theorem afI {p:Prop} [Decidable p] {a b:Int} (ha:a=0∨(2≤a∧a≤6)) (hb:b=0∨(2≤b∧b≤6)):(if p then a else b)=0∨(2≤(if p then a else b)∧(if p then a else b)≤6):=by
 by_cases h:p
 ·rw [if_pos h];exact ha
 ·rw [if_neg h];exact hb
theorem oG (l:List UInt8):ap l=0∨(2≤ap l∧ap l≤6):=by
 unfold ap
 iterate 13 (refine afI (by decide) ?_)
 decide
theorem afJ (l:List UInt8):0≤rkI l∧rkI l≤5:=by
 unfold rkI;have:=oG l;split<;>omega
theorem fo (s:ByteArray) (w:World):
  Calls Tryz.prog 217 #[.string s] w fun e w'=>e= .returned (.int .i64 (rkI s.data.toList))∧w=w':=by
 go_enter Tryz.func217,Tryz.ntmps217
 go_wp2
 all_goals
  go_ret;refine ⟨?_,rfl⟩
  simp_all [rkI,ap,ByteArray.toList_eq]
theorem agq:liesAt Tryz.prog Tryz.prog.depth 174 (3/Tryz.prog.cellsOf 174) 1 62 1=true:=by kernel_rfl
def WrV (B b:Nat) (lv p v:Value) (l:List UInt8) (w:World):Prop:=
 B≤b∧w.heap[b]? =some (.cells #[lv,p,v] 174 (0,0))∧w.ownsRow B 5 1 v (Lib.byteCells l).length (Lib.byteCells l)∧v.ownBlock≠some b
def WrAt (B b:Nat) (lv:Value) (l:List UInt8) (w:World):Prop:= ∃p v,(p= .pointer none∨p= .pointer (some ⟨b,1,none⟩))∧WrV B b lv p v l w
section
variable {B b:Nat} {lv p v:Value} {l:List UInt8} {w:World}
theorem WrV.lt (h:WrV B b lv p v l w):b<w.heap.size:=by
 rcases Nat.lt_or_ge b w.heap.size with Ab|DQ
 ·exact Ab
 ·have:=h.2.1;rw [Array.getElem?_eq_none DQ] at this;cases this
theorem WrV.cells (h:WrV B b lv p v l w):w.cell? ⟨b,0,none⟩=some lv∧w.cell? ⟨b,1,none⟩=some p∧w.cell? ⟨b,2,none⟩=some v:=by
 refine ⟨?_, ?_, ?_⟩<;>(rw [Lib.cell_of_heap h.2.1];rfl)
theorem WrV.frozen (h:WrV B b lv p v l w) (j:Nat):w.frozen? ⟨b,j,none⟩=false:=Lib.frozen_of_heap h.2.1 j
theorem WrV.shape (h:WrV B b lv p v l w):w.shape? b=some (174,3):=by simp [World.shape?,h.2.1]
theorem WrV.used (h:WrV B b lv p v l w) (q:Value):WrV B b lv q v l (w.setCell ⟨b,1,none⟩ q):=by
 obtain ⟨hB,hb,Ad,At⟩:=h;refine ⟨hB,by simp [World.setCell,Array.getElem?_modify,hb], ?_,At⟩;exact Ad.kept (row:=some b) ⟨rfl,rfl,rfl,by simp [World.setCell],fun k _ hk=>Below.heap_setCell _ _ _ _ (fun e=>hk (by simp [e]))⟩ (Or.inr At)
theorem WrAt.lt (h:WrAt B b lv l w):B≤b∧b<w.heap.size:=by
 obtain ⟨p,v,-,h⟩:=h;exact ⟨h.1,h.lt⟩
theorem WrAt.list (h:WrAt B b lv l w):w.cell? ⟨b,0,none⟩=some lv:=by
 obtain ⟨p,v,-,h⟩:=h;exact h.cells.1
end
theorem WrV.put {B b:Nat} {lv p v v':Value} {l':List UInt8} {w:World} (hB:B≤b) (hb:w.heap[b]? =some (.cells #[lv,p,v] 174 (0,0))) (Ad:w.ownsRow B 5 1 v' (Lib.byteCells l').length (Lib.byteCells l')):WrV B b lv p v' l' (w.setCell ⟨b,2,none⟩ v'):=by
 have At:=Lib.ownBlock_ne (T:=174) (e:=5) Ad hb (by decide);refine ⟨hB,by simp [World.setCell,Array.getElem?_modify,hb], ?_,At⟩;exact Ad.kept (row:=some b) ⟨rfl,rfl,rfl,by simp [World.setCell],fun k _ hk=>Below.heap_setCell _ _ _ _ (fun e=>hk (by simp [e]))⟩ (Or.inr At)
def KT (w w':World):Prop:= ∀(i:Nat) (cs:Array Value) (T:TypeId) (fr:Nat×Nat),w.heap[i]? =some (.cells cs T fr)→T≠5→T≠174→w'.heap[i]? =some (.cells cs T fr)
theorem lQ {w:World} {i:Nat} {o:Obj} (h:w.heap[i]? =some o):i<w.heap.size:=by
 rcases Nat.lt_or_ge i w.heap.size with Ab|DQ
 ·exact Ab
 ·rw [Array.getElem?_eq_none DQ] at h;cases h
theorem KT.refl (w:World):KT w w:=fun i cs T fr h _ _=>h
theorem KT.trans {a b c:World} (h:KT a b) (k:KT b c):KT a c:=fun i cs T fr hh h1 h2=>k i cs T fr (h i cs T fr hh h1 h2) h1 h2
theorem KT.below {w w':World} (h:Below w.heap.size w w'):KT w w':=fun i cs T fr hh _ _=>(h.block i (lQ hh)).trans hh
theorem KT.alloc (w:World) (o:Obj):KT w (w.alloc o):= .below ((Below.refl _ _).alloc (agD _) _)
theorem KT.set {w:World} {b:Nat} {cs0:Array Value} (hb:w.heap[b]? =some (.cells cs0 174 (0,0))) (j:Nat) (u:Value):KT w (w.setCell ⟨b,j,none⟩ u):=fun i cs T fr hh h1 h2=>by
 have At:i≠b:=by
  rintro rfl;rw [hb] at hh;simp only [Option.some.injEq,Obj.cells.injEq] at hh;exact h2 hh.2.1.symm
 exact (Below.heap_setCell _ _ _ _ At).trans hh
theorem KT.grown {w w':World} {base n:Nat} {v:Value} {xs:List Value} (ho:w.ownsRow base 5 1 v n xs) (hg:w.grownBy w' v.ownBlock):KT w w':=fun i cs T fr hh h1 h2=>
 (hg.block i (lQ hh) (fun e=>(Lib.ownBlock_ne ho hh h1) e.symm)).trans hh
theorem WrAt.new (w:World) (lv:Value):WrAt w.heap.size w.heap.size lv [] (w.alloc (.cells #[lv, .pointer none, .slice none 0 0] 174)):=
 ⟨_,_, .inl rfl,agD _,heap_alloc_new w _,World.ownsRow_nil _ _ _ _,by simp [Value.ownBlock]⟩
theorem tU (b:Nat) (w:World) (h0:w.cell? ⟨b,1,none⟩=some (.pointer (some ⟨b,1,none⟩))):
  Calls Tryz.prog 135 #[.pointer (some ⟨b,1,none⟩)] w fun e w'=>e= .returned (.tuple #[])∧w=w':=by
 obtain ⟨j,hj,_⟩:=Option.map_eq_some_iff.1 qn;have hn:=Lib.run_neq_ptr_same (P:=Tryz.prog) w ⟨b,1,none⟩ Tryz.underlying60 hj;clear hj
 go_enter Tryz.func135,Tryz.ntmps135
 go_wp2;go_end0;exact ⟨rfl,rfl⟩
theorem rl (b:Nat) (w:World) (h0:w.cell? ⟨b,1,none⟩=some (.pointer none)) (Ef:w.shape? b=some (174,3)) (hfz:w.frozen? ⟨b,1,none⟩=false):
  Calls Tryz.prog 135 #[.pointer (some ⟨b,1,none⟩)] w fun e w'=>e= .returned (.tuple #[])∧w.setCell ⟨b,1,none⟩ (.pointer (some ⟨b,1,none⟩))=w':=by
 obtain ⟨j,hj,Ml⟩:=Option.map_eq_some_iff.1 qn;have ET:=Lib.run_to_unsafe (P:=Tryz.prog) w ⟨b,1,none⟩ Tryz.underlying60 Tryz.underlying176 hj (by rw [Ml];decide) Ef (show (1:Nat)<3 by decide);have IY:=Lib.run_from_unsafe (P:=Tryz.prog) w ⟨b,1,none⟩ Tryz.underlying176 Tryz.underlying60 hj Ef agq
 have Mk:(callFunc 170 #[.pointer (some ⟨b,1,none⟩)]).run Tryz.prog w= .ok (.value (.pointer (some ⟨b,1,none⟩))) w:=by
  rw [run_callFunc_extern Tryz.func170 (by kernel_rfl) (by kernel_rfl) (by kernel_rfl) (e:=Extern.AbiNoEscape.same) (by kernel_rfl),Lib.run_noEscape]
  rfl
 clear hj
 go_enter Tryz.func135,Tryz.ntmps135
 go_wp2;go_end0;exact ⟨rfl,rfl⟩
theorem oH (B b:Nat) (lv:Value) (l:List UInt8) (w:World) (h:WrAt B b lv l w):
  Calls Tryz.prog 135 #[.pointer (some ⟨b,1,none⟩)] w fun e w'=>e= .returned (.tuple #[])∧(∃v,WrV B b lv (.pointer (some ⟨b,1,none⟩)) v l w')∧Below B w w'∧KT w w':=by
 obtain ⟨p,v,rfl|rfl,h⟩:=h
 ·refine (rl b w h.cells.2.1 h.shape (h.frozen 1)).mono ?_
  rintro e w' ⟨rfl,rfl⟩;exact ⟨rfl,⟨v,h.used _⟩,(Below.refl B w).setCell (p:=⟨b,1,none⟩) h.1 _,KT.set h.2.1 1 _⟩
 ·refine (tU b w h.cells.2.1).mono ?_
  rintro e w' ⟨rfl,rfl⟩;exact ⟨rfl,⟨v,h⟩,Below.refl B _,KT.refl _⟩
theorem ql (B b:Nat) (lv:Value) (l:List UInt8) (c:UInt8) (n:Int) (hn:(c.toNat:Int)=n) (w:World) (h:WrAt B b lv l w) (Ai:l.length≤1000000000) (D0:B≤w.heap.size):
  Calls Tryz.prog 88 #[.pointer (some ⟨b,1,none⟩), .int .u8 n] w fun e w'=>e= .returned .nilIface∧WrAt B b lv (l++[c]) w'∧Below B w w'∧KT w w':=by
 obtain ⟨i0,hi,Az,Ax,AC⟩:=info_parts oK;have HL:=agC (Lib.byteCells_length l);have HX:=agC hn;clear hn
 go_enter Tryz.func88,Tryz.ntmps88
 go_wp2_with fail;refine (oH B b lv l _ h).mono ?_;rintro e w1 ⟨rfl,⟨v,h1⟩,Aa,CB⟩;have C7:=agC CB;clear CB;have Au:=Aa.size;have c1:=h1.cells.2.2;have Ab:=h1.lt;have H1:=agC h1;have Af:=agC Aa;have Ad:=h1.2.2.1;clear h1 Aa h
 go_wp2_with (at_builtin;refine wpList_append_own _ rfl _ _ 22 rfl B 5 i0 (.int .u8 0) 1 1 Tryz.underlying22 hi Az Ax AC rfl (by decide) _ _ _ rfl (Ad.alloc _) ⟨w1.heap.size,0,none⟩ 1 1 [.int .u8 n] rfl rfl ?c1 ?c2 ?c3 ?c4 ?c5 ?_)
 case c1=>
  intro j u hj
  match j,hj with
  |0,hj=>simp at hj;subst hj;simp [Addr.add]
 case c2=>intro u hu;simp at hu;subst hu;rfl
 case c3=>have:=HL.out;unfold maxLen;omega
 case c4=>have:=HL.out;omega
 case c5=>simp;omega
 intro v' w2 Ah Ac _
 have Ae:w2.heap[b]? =some (.cells #[lv, .pointer (some ⟨b,1,none⟩),v] 174 (0,0)):=by
  rw [Ac.block b (by simp;omega) (fun e=>H1.out.2.2.2 e.symm),Lib.alloc_old w1 _ b Ab];exact H1.out.2.1
 have d1:w2.cell? ⟨b,2,none⟩=some v:=by rw [Lib.cell_of_heap Ae];rfl
 have f1:w2.frozen? ⟨b,2,none⟩=false:=Lib.frozen_of_heap Ae 2;have Ak:=agC Ae;have HW:=agC Ah;have HG:=agC Ac;clear Ae Ac
 obtain ⟨g,cap,rfl⟩: ∃g cap,v'= .slice (some ⟨g,0,none⟩) ((Lib.byteCells l).length+1) cap:=by
  rcases Ah.2 with ⟨_,h0⟩|⟨g,cap,cur,hv,_⟩
  ·omega
  ·exact ⟨g,cap,hv⟩
 clear Ah hi Az Ax AC c1;go_wp2;go_ret;refine ⟨rfl,⟨_,_, .inr rfl,WrV.put H1.out.1 Ak.out ?_⟩, ?_⟩
 ·rw [show Lib.byteCells (l++[c])=Lib.byteCells l++[.int .u8 n] by rw [kY,HX.out]]
  simpa using HW.out
 ·exact ⟨((Af.out.alloc (by omega) _).grown HG.out (by simp;omega) (fun k hk=>(Ad.lt k hk).1)).setCell (p:=⟨b,2,none⟩) H1.out.1 _,((C7.out.trans (KT.alloc _ _)).trans (KT.grown (Ad.alloc _) HG.out)).trans (KT.set Ak.out 2 _)⟩
theorem dA (B b:Nat) (lv:Value) (l:List UInt8) (s:ByteArray) (w:World) (h:WrAt B b lv l w) (Ai:l.length+s.size≤1000000000) (D0:B≤w.heap.size):
  Calls Tryz.prog 132 #[.pointer (some ⟨b,1,none⟩), .string s] w fun e w'=>e= .returned (.tuple #[.int .i64 s.size, .nilIface])∧WrAt B b lv (l++s.data.toList) w'∧Below B w w'∧KT w w':=by
 obtain ⟨i0,hi,Az,Ax,AC⟩:=info_parts oK;have HL:=agC (Lib.byteCells_length l)
 go_enter Tryz.func132,Tryz.ntmps132
 go_wp2_with fail;refine (oH B b lv l _ h).mono ?_;rintro e w1 ⟨rfl,⟨v,h1⟩,Aa,CB⟩;have C7:=agC CB;clear CB;have Au:=Aa.size;have c1:=h1.cells.2.2;have Ab:=h1.lt;have H1:=agC h1;have Af:=agC Aa;have Ad:=h1.2.2.1;clear h1 Aa h
 go_wp2_with (at_builtin;refine Lib.wpList_append_own_string _ rfl _ _ 22 9 rfl B 5 i0 Tryz.underlying22 Tryz.underlying9 hi Az Ax AC _ _ _ rfl Ad s rfl ?c3 ?c4 ?c5 ?_)
 case c3=>have:=HL.out;unfold maxLen;omega
 case c4=>have:=HL.out;omega
 case c5=>omega
 intro v' w2 Ah Ac _
 have Ae:w2.heap[b]? =some (.cells #[lv, .pointer (some ⟨b,1,none⟩),v] 174 (0,0)):=by
  rw [Ac.block b Ab (fun e=>H1.out.2.2.2 e.symm)];exact H1.out.2.1
 have d1:w2.cell? ⟨b,2,none⟩=some v:=by rw [Lib.cell_of_heap Ae];rfl
 have f1:w2.frozen? ⟨b,2,none⟩=false:=Lib.frozen_of_heap Ae 2;have Ak:=agC Ae;have HW:=agC Ah;have HG:=agC Ac;clear Ae Ac
 obtain ⟨ao,n',cap,rfl⟩: ∃ao n' cap,v'= .slice ao n' cap:=by
  rcases Ah.2 with ⟨hv,_⟩|⟨g,cap,cur,hv,_⟩
  ·exact ⟨_,_,_,hv⟩
  ·exact ⟨_,_,_,hv⟩
 clear Ah hi Az Ax AC c1;go_wp2;go_ret2;refine ⟨rfl,⟨_,_, .inr rfl,WrV.put H1.out.1 Ak.out ?_⟩, ?_⟩
 ·have e:(Lib.byteCells s.data.toList).length=s.size:=by rw [Lib.byteCells_length,Array.length_toList];rfl
  rw [Lib.byteCells_append,agE,e,←Lib.strCells_eq];exact HW.out
 ·exact ⟨(Af.out.grown HG.out (by omega) (fun k hk=>(Ad.lt k hk).1)).setCell (p:=⟨b,2,none⟩) H1.out.1 _,(C7.out.trans (KT.grown Ad HG.out)).trans (KT.set Ak.out 2 _)⟩
theorem aab (B b:Nat) (lv:Value) (l:List UInt8) (w:World) (h:WrAt B b lv l w) (h0:l≠[]):
  Calls Tryz.prog 91 #[.pointer (some ⟨b,1,none⟩)] w fun e w'=>e= .returned (.string ⟨l.toArray⟩)∧Below B w w':=by
 obtain ⟨p,v,-,hB,AJ,Ad,At⟩:=h
 have Iq:l.length≠0:=by simpa using h0
 rw [Lib.byteCells_length] at Ad
 obtain ⟨g,cap,cur,rfl,Ij,hg,Pe,GC,hcs,Mm⟩: ∃g cap cur,v= .slice (some ⟨g,0,none⟩) l.length cap∧B≤g∧w.heap[g]? =some (.cells cur 5 (0,0))∧l.length≤cap∧cap≤maxLen∧cur.size=cap*1∧cur.toList.take (l.length*1)=Lib.byteCells l:=by
  rcases Ad.2 with ⟨_,hz⟩|⟨g,cap,cur,hv,r⟩
  ·exact absurd hz Iq
  ·exact ⟨g,cap,cur,hv,r⟩
 have c1:w.drew.cell? ⟨b,2,none⟩=some (.slice (some ⟨g,0,none⟩) l.length cap):=by
  have:w.drew.heap[b]? =some (.cells #[lv,p, .slice (some ⟨g,0,none⟩) l.length cap] 174 (0,0)):=AJ;rw [Lib.cell_of_heap this];rfl
 have Nk:(Builtin.unsafeSliceData_ #[22] 143 #[.slice (some ⟨g,0,none⟩) l.length cap]).run Tryz.prog w.drew= .ok (.pointer (some ⟨g,0,none⟩)) w.drew:=
  Lib.run_unsafeSliceData_row _ _ _ _ _ _ (by omega)
 have Nl:(Builtin.unsafeString_ #[143,3] 9 #[.pointer (some ⟨g,0,none⟩), .int .i64 l.length]).run Tryz.prog w.drew= .ok (.string ⟨l.toArray⟩) (w.drew.freeze ⟨g,0,none⟩ l.length):=by
  refine Lib.run_unsafeString_row w.drew 143 3 9 5 Tryz.underlying143 (by kernel_rfl) g cur.size (by have Gu:w.drew.heap[g]? =some (.cells cur 5 (0,0)):=hg;simp [World.shape?,Gu]) l h0 (by omega) (by unfold maxLen at GC;omega) ?_;intro j x hx;have:=Ad.cells (g:=g) rfl j (.int .u8 x.toNat) (by simp [Lib.byteCells,hx]);exact this
 go_enter Tryz.func91,Tryz.ntmps91
 go_wp2
 go_region
 all_goals (go_wp2;go_ret;exact ⟨rfl,Lib.below_freeze (Below.drew (Below.refl B w)) (p:=⟨g,0,none⟩) Ij _⟩)
theorem tV (k m:Int) (s:ByteArray) (w:World) (hk:okC (k,s,m)=true):
  Calls Tryz.prog 194 #[.agg #[.int .i64 k, .string s, .int .i64 m]] w fun e w'=>e= .returned (.int .i64 (rkC (k,s,m)-1))∧Below w.heap.size w w':=by
 by_cases h9:k=9
 ·subst h9
  have hr:rkC (9,s,m)-1=0:=rfl;rw [hr];clear hr hk
  go_enter Tryz.func194,Tryz.ntmps194
  go_wp2;go_ret;exact ⟨rfl,(Below.refl _ _).alloc (agD _) _⟩
 by_cases h8:k=8
 ·subst h8
  have hp:0<ap s.data.toList:=by
   simp only [okC,aF,ar,Bool.and_eq_true] at hk;simpa using hk.1
  have hr:rkC (8,s,m)-1=rkI s.data.toList:=by
   rw [rkI,if_neg (by omega)];rfl
  rw [hr];have hb:=afJ s.data.toList;have HC:=agC (fun w'=>fo s w');generalize rkI s.data.toList=q at HC hb;clear hr hk hp
  go_enter Tryz.func194,Tryz.ntmps194
  go_wp2_with fail;refine (HC.out _).mono ?_;rintro e w1 ⟨rfl,rfl⟩;go_wp2;go_ret;exact ⟨rfl,(Below.refl _ _).alloc (agD _) _⟩
 by_cases h7:k=7
 ·subst h7
  have hr:rkC (7,s,m)-1=6:=rfl;rw [hr];clear hr hk
  go_enter Tryz.func194,Tryz.ntmps194
  go_wp2;go_ret;exact ⟨rfl,(Below.refl _ _).alloc (agD _) _⟩
 ·have hr:rkC (k,s,m)-1=7:=by simp [rkC,h9,h8,h7]
  rw [hr];have n9:(k==9)=false:=beq_eq_false_iff_ne.mpr h9;have n8:(k==8)=false:=beq_eq_false_iff_ne.mpr h8;have n7:(k==7)=false:=beq_eq_false_iff_ne.mpr h7;clear hr hk h9 h8 h7
  go_enter Tryz.func194,Tryz.ntmps194
  go_wp2;go_ret;exact ⟨rfl,(Below.refl _ _).alloc (agD _) _⟩
def mC (w1:World) (b:Nat) (lv:Value) (T:List UInt8) (w:World) (e:Ending) (w':World):Prop:=e= .returned (.tuple #[])∧WrAt w1.heap.size b lv T w'∧Below w1.heap.size w1 w'∧KT w w'
structure Base (w1:World) (l:List Cl) (lv:Value) (S:Nat→Prop):Prop where
 row:RowC w1 lv l
 ok:l.all okC=true
 short:l.length≤60
 low: ∀b,S b→b<w1.heap.size
def ExprOK (w1:World) (l:List Cl) (lv:Value) (S:Nat→Prop) (b j:Nat):Prop:=
 ∀(N f t d:Nat) (x:Pt) (least:Int) (T:List UInt8) (w:World),TrS w1 (amL l) S [N] f t d→Tx l 1 f t [x]→t-f≤j→ -1≤least→least≤10→Below w1.heap.size w1 w→WrAt w1.heap.size b lv T w→T.length+200*(t-f)≤100000→
  Calls Tryz.prog 169 #[.pointer (some ⟨b,0,none⟩), .pointer (some ⟨N,0,none⟩), .int .i64 least] w (mC w1 b lv (T++cR (least+1) x) w)
def acv (w1:World) (l:List Cl) (lv:Value) (S:Nat→Prop) (b j:Nat):Prop:=
 ∀(N f t d:Nat) (x:Pt) (T:List UInt8) (w:World),TrS w1 (amL l) S [N] f t d→Tx l 1 f t [x]→t-f≤j→Below w1.heap.size w1 w→WrAt w1.heap.size b lv T w→T.length+200*(t-f)≤100010→
  Calls Tryz.prog 195 #[.pointer (some ⟨b,0,none⟩), .pointer (some ⟨N,0,none⟩)] w (mC w1 b lv (T++x.2) w)
theorem TrS.later {w1 w:World} {l:List Cl} {S:Nat→Prop} {N f t d:Nat} (h:TrS w1 (amL l) S [N] f t d) (hb:Below w1.heap.size w1 w): ∃v,w.cell? ⟨N,0,none⟩=some (.int .i64 (f:Int))∧w.cell? ⟨N,1,none⟩=some (.int .i64 (t:Int))∧w.cell? ⟨N,2,none⟩=some v:=by
 obtain ⟨m,e,v,qs,-,-,hN,-⟩:=h.inv;have:=hN.keep hb;exact ⟨v,this.cell 0,this.cell 1,this.cell 2⟩
theorem Base.at {w1 w:World} {l:List Cl} {lv:Value} {S:Nat→Prop} (h:Base w1 l lv S) (hb:Below w1.heap.size w1 w) {f:Nat} {c:Cl} (hc:l[f]? =some c):
  ∃b o cap,lv= .slice (some ⟨b,o,none⟩) l.length cap∧f<l.length∧w.cell? ⟨b,o+f*3,none⟩=some (.int .i64 c.1)∧w.cell? ⟨b,o+f*3+1,none⟩=some (.string c.2.1)∧w.cell? ⟨b,o+f*3+2,none⟩=some (.int .i64 c.2.2)∧okC c=true:=by
 obtain ⟨hl,he⟩:=List.getElem?_eq_some_iff.mp hc;obtain ⟨ao,cap,rfl,-,-,h3⟩:=h.row;obtain ⟨b,o,rfl,Av,cc⟩:=h3.resolve_left (by rintro rfl;simp at hl);obtain ⟨c0,c1,c2⟩:=cc f hl;rw [he] at c0 c1 c2;exact ⟨b,o,cap,rfl,hl,(hb.cell (p:=⟨b,_,none⟩) Av).trans c0,(hb.cell (p:=⟨b,_,none⟩) Av).trans c1,(hb.cell (p:=⟨b,_,none⟩) Av).trans c2,by rw [←he];exact jL h.ok f hl⟩
theorem WrAt.later {B b:Nat} {lv:Value} {T:List UInt8} {w w':World} (h:WrAt B b lv T w) (hb:Below w.heap.size w w'):WrAt B b lv T w':=by
 obtain ⟨p,v,hp,h1,h2,h3,h4⟩:=h;have Ab:b<w.heap.size:=WrV.lt ⟨h1,h2,h3,h4⟩;refine ⟨p,v,hp,h1,(hb.block b Ab).trans h2, ?_,h4⟩;exact h3.kept (row:=none) ⟨hb.os,hb.tape,hb.output,hb.size,fun i hi _=>hb.block i hi⟩ (by cases hv:v.ownBlock with|none=>exact .inl rfl|some x=>exact .inr (by simp))
theorem aac {w1:World} {l:List Cl} {lv:Value} {S:Nat→Prop} {b j:Nat} (hB:Base w1 l lv S) (ih:acv w1 l lv S b j):ExprOK w1 l lv S b j:=by
 intro N f t d x least T w hT hX hj Iq FF hb hw Ai;obtain ⟨c,ks,hc,Cm,rfl⟩:=hX.inv;obtain ⟨v,n0,n1,n2⟩:=hT.later hb;obtain ⟨lb,o,cap,rfl,Dr,c0,c1,c2,Aj⟩:=hB.at hb hc;have Ci:=hB.short;have M9:=hw.list;have HR:=agC (fun w'=>tV c.1 c.2.2 c.2.1 w' Aj);have Di:=agC (ih N f t d _ · · hT hX hj);have CJ:=hT.exs.le;have HB:=agC hb;have HW:=agC hw
 have Dt:0≤rkC c-1∧rkC c-1≤7:=by
  unfold rkC;have:=oG c.2.1.data.toList
  have hp:c.1=8→0<ap c.2.1.data.toList:=by
   intro h8;simp only [okC,aF,ar,h8,Bool.and_eq_true] at Aj;simpa using Aj.1
  repeat' split
  all_goals omega
 have HP:=agC (show cR (least+1) (rkC c,bF c ks)=if rkC c-1<least then 40::(bF c ks++[41]) else bF c ks by
  unfold cR;simp only [show (rkC c<least+1)=(rkC c-1<least) by simp;omega])
 have Oq:=(hX.short hB.ok).1;simp only [fY] at Oq;generalize bF c ks=bt at Di HP Oq;rw [show ((c.1,c.2.1,c.2.2):Cl)=c from rfl] at HR;generalize Da:rkC c-1=rk at HR Dt HP;generalize c.1=ck at c0 HR;generalize c.2.1=cw at c1 HR;generalize c.2.2=cm at c2 HR;have BG:=agC hw.lt;clear Da Aj hc Cm hT hX ih hb hw hB
 go_enter Tryz.func169,Tryz.ntmps169
 go_wp2_with fail
 go_region_with ((go_at_call 194;refine (HR.out _).mono ?_;rintro e w2 ⟨rfl,Ae⟩))
 all_goals
  have Ak:=agC (HB.out.drew.trans (Ae.mono HB.out.size));have I4:=agC ((show WrAt w1.heap.size b _ T w.drew from HW.out).later Ae);have C8:=agC (show KT w w2 from (show KT w w.drew from KT.refl w).trans (KT.below Ae));clear Ae
  by_cases Ab:rk<least
  ·have Ik:=agC (HP.out.trans (if_pos Ab))
   go_wp2_with fail;refine (ql _ b _ T 40 40 (by decide) _ I4.out (by omega) Ak.out.size).mono ?_;rintro e w3 ⟨rfl,h3,Ag,Bf⟩;have H3:=agC h3;have Ap:=agC (Ak.out.trans Ag);have F0:=agC (C8.out.trans Bf);clear h3 Ag Bf;go_wp2_with fail;refine (Di.out _ _ Ap.out H3.out (by simp only [agE,List.length_cons,List.length_nil];omega)).mono ?_;rintro e w4 ⟨rfl,h4,As,Ay⟩;have H4:=agC h4;have Aw:=agC As;have Cp:=agC (F0.out.trans Ay);clear h4 As Ay;go_wp2_with fail;refine (ql _ b _ _ 41 41 (by decide) _ H4.out (by simp only [agE,List.length_cons,List.length_nil];omega) Aw.out.size).mono ?_;rintro e w5 ⟨rfl,h5,AI,Dm⟩;have H5:=agC h5;have AQ:=agC (Aw.out.trans AI);have FP:=agC (Cp.out.trans Dm);clear h5 AI Dm;go_wp2;go_end0;refine ⟨rfl, ?_,AQ.out,FP.out⟩;rw [Ik.out];have:=H5.out;simpa using this
  ·have Ik:=agC (HP.out.trans (if_neg Ab))
   go_wp2_with fail;refine (Di.out _ _ Ak.out I4.out (by omega)).mono ?_;rintro e w4 ⟨rfl,h4,As,Ay⟩;have H4:=agC h4;have Aw:=agC As;have Cp:=agC (C8.out.trans Ay);clear h4 As Ay;go_wp2;go_end0;exact ⟨rfl,by rw [Ik.out];exact H4.out,Aw.out,Cp.out⟩
theorem tW {l:List Cl} (Aj:l.all okC=true) {n f t:Nat} {xs:List Pt} (h:Tx l n f t xs):(cJ xs).length≤200*(t-f)∧f≤t:=by
 have h1:=h.short Aj;have h2:=jM xs;omega
theorem oI {w1:World} {l:List Cl} {lv:Value} {S:Nat→Prop} {b j:Nat} (hB:Base w1 l lv S) (ih:ExprOK w1 l lv S b j) (op cl:ByteArray) (v:Value) (m f t e:Nat) (qs:List Nat) (ks:List Pt) (T:List UInt8) (w:World)
  (ho:w1.ownsRow 0 165 1 v m (ef qs)) (hT:TrS w1 (amL l) S qs f t e) (hX:Tx l m f t ks) (hj:t-f≤j) (hb:Below w1.heap.size w1 w) (hw:WrAt w1.heap.size b lv T w) (Ai:T.length+200*(t-f)+op.size+cl.size≤99900):
  Calls Tryz.prog 219 #[.pointer (some ⟨b,0,none⟩), .string op,v, .string cl] w (mC w1 b lv (T++op.data.toList++cJ ks++cl.data.toList) w):=by
 obtain ⟨ao,cap,rfl,h1,h2,h3⟩:=lH ho;have hm:qs.length=m:=jP ho;unfold maxLen at h2;have Dt:=(tW hB.ok hX).1;have VS:=bn op;have G5:=bn cl;have H3:=agC h3;have HT:=agC hT;have HX:=agC hX;have IH:=agC ih;have HB:=agC hb;have HW:=agC hw;clear h3 hT hX ih hb hw ho
 go_enter Tryz.func219,Tryz.ntmps219
 go_wp2_with fail;refine (dA _ b _ T op _ HW.out (by omega) HB.out.size).mono ?_;rintro e w3 ⟨rfl,h3,Ag,Bf⟩;have W3:=agC h3;have Ap:=agC (HB.out.trans Ag);have F0:=agC Bf;clear h3 Ag Bf;go_wp2_with fail
 go_loopw [17] (fun i wr=> ∃k g:Nat,k≤m∧i= .int .i64 (k:Int)∧Tx l k f g (ks.take k)∧WrAt w1.heap.size b lv (T++op.data.toList++cJ (ks.take k)) wr∧Below w1.heap.size w1 wr∧KT w wr) (fun i _=>m-(intOf i).toNat)
 case atStart=>exact ⟨0,f,agH _,rfl, .nil f,by have:=W3.out;simpa [cJ] using this,Ap.out,F0.out⟩
 case round=>
  obtain ⟨k,g,hk,rfl,EA,Rw,Hp,Rx⟩:=hrel;have PD:=agC Rx;clear Rx;have PE:=agC Rw;have Dj:=agC Hp;have MW:=tW hB.ok EA
  by_cases Ab:k<m
  ·obtain ⟨g1,g2,x,x1,x2,x3,x4,-⟩:=HX.out.at k Ab
   obtain ⟨rfl,-⟩:=EA.uniq x2;obtain ⟨a1,a2,d0,d1,d2,t0,t1,t2,t3,-⟩:=HT.out.at k (by omega)
   have hg1:a1=g:=by
    obtain ⟨dx,hx⟩:=EA.exs;have:=t0.exs;rw [List.length_take,Nat.min_eq_left (by omega)] at this;exact (this.uniq hx).1
   subst hg1
   have Ud:a2=g2:=by
    obtain ⟨dx,hx⟩:=x3.exs;exact (t1.exs.uniq hx).1
   subst Ud;obtain ⟨blk,rfl,Av,cc⟩:=H3.out.resolve_left (by rintro rfl;simp at hm;omega);have d1:wr.cell? ⟨blk,k,none⟩=_:=(Dj.out.cell (p:=⟨blk,k,none⟩) Av).trans (cc k (by omega));have HN:=agC (kL ks k x x1);have e3:=x3.exs;have e4:=x4.exs;obtain ⟨_,e3⟩:=e3;obtain ⟨_,e4⟩:=e4;have l3:=e3.le;have l4:=e4.le;have Ue:=(x3.short hB.ok).1;simp only [fY] at Ue;have HJ:=agC (IH.out _ a1 a2 _ x 0 · · t1 x3 (by omega) (by omega) (by omega));have GH:=agC (x2.snoc x1 x3);have Rv:=agC (jN (x:=x) (r:=0+1) (by have:=(x3.rk hB.ok x (by simp)).1;omega));clear cc x1 x2 x3 x4 t0 t1 t2 t3 EA Rw Hp e3 e4
   by_cases Bo:k=0
   ·subst Bo
    go_wp2_with fail;refine (HJ.out _ _ Dj.out PE.out (by simp [cJ];omega)).mono ?_;rintro e w5 ⟨rfl,h5,AI,Dm⟩;have W5:=agC h5;have AQ:=agC AI;have FP:=agC (PD.out.trans Dm);clear h5 AI Dm;go_wp2;go_roundw
    case rel=>exact ⟨1,a2,by omega,by go_num,GH.out,by rw [HN.out];have:=W5.out;rw [Rv.out] at this;simpa [cJ] using this,AQ.out,FP.out⟩
    case measure=>simp [intOf];omega
   ·have CB:(0:Int)<(k:Int):=by omega
    go_wp2_with fail;refine (dA _ b _ _ ⟨#[44,32]⟩ _ PE.out (by simp only [agE];rw [show (⟨#[44,32]⟩:ByteArray).size=2 from rfl];omega) Dj.out.size).mono ?_;rintro e w4 ⟨rfl,h4,As,Ay⟩;have W4:=agC h4;have Aw:=agC (Dj.out.trans As);have Cp:=agC (PD.out.trans Ay);clear h4 As Ay;go_wp2_with fail;refine (HJ.out _ _ Aw.out W4.out (by simp only [agE];rw [show (⟨#[44,32]⟩:ByteArray).data.toList.length=2 from rfl];omega)).mono ?_;rintro e w5 ⟨rfl,h5,AI,Dm⟩;have W5:=agC h5;have AQ:=agC AI;have FP:=agC (Cp.out.trans Dm);clear h5 AI Dm;go_wp2;go_roundw
    case rel=>exact ⟨k+1,a2,by omega,by go_num,GH.out,by rw [HN.out,if_neg Bo];have:=W5.out;rw [Rv.out] at this;simpa using this,AQ.out,FP.out⟩
    case measure=>simp [intOf];omega
  ·obtain rfl:k=m:=by omega
   have HE:=agC (show ks.take k=ks by rw [List.take_of_length_le];rw [HX.out.len];exact agD _)
   have KE:g=t:=by
    have h:=EA;rw [HE.out] at h;exact (h.uniq HX.out).1
   go_wp2_with fail;refine (dA _ b _ _ cl _ PE.out (by simp only [agE];omega) Dj.out.size).mono ?_;rintro e w4 ⟨rfl,h4,As,Ay⟩;have W4:=agC h4;have Aw:=agC (Dj.out.trans As);have Cp:=agC (PD.out.trans Ay);clear h4 As Ay;go_wp2;go_end0;exact ⟨rfl,by have:=W4.out;rw [HE.out] at this;exact this,Aw.out,Cp.out⟩
structure PartAt (w1:World) (l:List Cl) (S:Nat→Prop) (q f t:Nat) (x:Pt):Prop where
 tree: ∃d,TrS w1 (amL l) S [q] f t d
 text:Tx l 1 f t [x]
theorem iv {w1:World} {l:List Cl} {S:Nat→Prop} {qs:List Nat} {m f t e:Nat} {ks:List Pt} (hT:TrS w1 (amL l) S qs f t e) (hX:Tx l m f t ks) (k:Nat) (hk:k<m) (Ul:k<qs.length):
  ∃g g' x,ks[k]? =some x∧PartAt w1 l S qs[k] g g' x∧Tx l k f g (ks.take k)∧Tx l (k+1) f g' (ks.take (k+1))∧f≤g∧g<g'∧g'≤t:=by
 obtain ⟨g1,g2,x,x1,x2,x3,x4,-⟩:=hX.at k hk;obtain ⟨a1,a2,d0,d1,d2,t0,t1,t2,t3,-⟩:=hT.at k Ul;obtain ⟨dx,hx⟩:=x2.exs;have h0:=t0.exs;rw [List.length_take,Nat.min_eq_left (by omega)] at h0;obtain ⟨rfl,-⟩:=h0.uniq hx;obtain ⟨dy,hy⟩:=x3.exs;obtain ⟨rfl,-⟩:=t1.exs.uniq hy;obtain ⟨dz,hz⟩:=x4.exs;have l1:=hx.le;have l2:=hy.le;have l3:=hz.le;exact ⟨_,_,x,x1,⟨⟨_,t1⟩,x3⟩,x2,x2.snoc x1 x3,by omega,by omega,by omega⟩
theorem ExprOK.part {w1:World} {l:List Cl} {lv:Value} {S:Nat→Prop} {b j:Nat} (h:ExprOK w1 l lv S b j) {q f t:Nat} {x:Pt} (hp:PartAt w1 l S q f t x) (least:Int) (T:List UInt8) (w:World) (hj:t-f≤j) (h0: -1≤least) (h1:least≤10) (hb:Below w1.heap.size w1 w) (hw:WrAt w1.heap.size b lv T w) (Ai:T.length+200*(t-f)≤100000):
  Calls Tryz.prog 169 #[.pointer (some ⟨b,0,none⟩), .pointer (some ⟨q,0,none⟩), .int .i64 least] w (mC w1 b lv (T++cR (least+1) x) w):=by
 obtain ⟨d,hd⟩:=hp.tree;exact h q f t d x least T w hd hp.text hj h0 h1 hb hw Ai
theorem PartAt.len {w1:World} {l:List Cl} {lv:Value} {S:Nat→Prop} {q f t:Nat} {x:Pt} (hB:Base w1 l lv S) (hp:PartAt w1 l S q f t x):x.2.length+8≤200*(t-f)∧1≤x.1:=by
 have h1:=(hp.text.short hB.ok).1;have h2:=(hp.text.rk hB.ok x (by simp)).1;simp only [fY] at h1;omega
def CpAt (w:World) (g:Nat) (k:Int) (s:ByteArray) (m:Int):Prop:=w.heap[g]? =some (.cells #[.int .i64 k, .string s, .int .i64 m] 110 (0,0))
theorem CpAt.keep {w w':World} {g:Nat} {k m:Int} {s:ByteArray} (h:CpAt w g k s m) (hk:KT w w'):CpAt w' g k s m:=hk g _ _ _ h (by decide) (by decide)
theorem CpAt.cells {w:World} {g:Nat} {k m:Int} {s:ByteArray} (h:CpAt w g k s m):w.cell? ⟨g,0,none⟩=some (.int .i64 k)∧w.cell? ⟨g,1,none⟩=some (.string s)∧w.cell? ⟨g,2,none⟩=some (.int .i64 m):=by
 refine ⟨?_, ?_, ?_⟩<;>(rw [Lib.cell_of_heap h];rfl)
theorem CpAt.new (w:World) (k:Int) (s:ByteArray) (m:Int):CpAt (w.alloc (.cells #[.int .i64 k, .string s, .int .i64 m] 110)) w.heap.size k s m:=heap_alloc_new w _
theorem acw (s:ByteArray):((⟨#[32]⟩:ByteArray)++s++⟨#[32]⟩).data.toList=[32]++s.data.toList++[32]:=by simp
theorem xY (B b:Nat) (lv:Value) (T:List UInt8) (s:ByteArray) (w:World) (h:WrAt B b lv T w) (Ai:T.length+s.size≤900000000) (D0:B≤w.heap.size):
  Calls Tryz.prog 132 #[.pointer (some ⟨b,1,none⟩), .string ((⟨#[32]⟩:ByteArray)++s++⟨#[32]⟩)] w.drew fun e w'=>e= .returned (.tuple #[.int .i64 ((⟨#[32]⟩:ByteArray)++s++⟨#[32]⟩).size, .nilIface])∧WrAt B b lv (T++([32]++s.data.toList++[32])) w'∧Below B w w'∧KT w w':=by
 have hs:((⟨#[32]⟩:ByteArray)++s++⟨#[32]⟩).size=s.size+2:=by
  rw [←bn,acw,←bn];simp
 refine (dA B b lv T _ w.drew h (by omega) D0).mono ?_;rintro e w' ⟨h1,h2,h3,h4⟩;rw [acw] at h2;exact ⟨h1,h2,(Below.refl B w).drew.trans h3,(show KT w w.drew from KT.refl w).trans h4⟩
theorem wP (r:Int) (h:2≤r):(if r-1=3 then 4 else r-1)+1=cC r:=by
 unfold cC;repeat' split
 all_goals omega
theorem wQ {w1:World} {l:List Cl} {lv:Value} {S:Nat→Prop} {b j:Nat} (hB:Base w1 l lv S) (ih:ExprOK w1 l lv S b j) (s:ByteArray) (v:Value) (f t e:Nat) (qs:List Nat) (ks:List Pt) (T:List UInt8) (w:World) (Aj:okC (8,s,2)=true)
  (ho:w1.ownsRow 0 165 1 v 2 (ef qs)) (hT:TrS w1 (amL l) S qs f t e) (hX:Tx l 2 f t ks) (hj:t-f≤j) (hb:Below w1.heap.size w1 w) (hw:WrAt w1.heap.size b lv T w) (Ai:T.length+200*(t-f)≤99900):
  Calls Tryz.prog 220 #[.pointer (some ⟨b,0,none⟩), .agg #[.int .i64 8, .string s, .int .i64 2],v] w (mC w1 b lv (T++(cR (cC (ap s.data.toList)) (dH ks 0)++([32]++s.data.toList++[32])++cR (ap s.data.toList+1) (dH ks 1))) w):=by
 obtain ⟨ao,cap,rfl,h1,h2,h3⟩:=lH ho;have hm:qs.length=2:=jP ho;unfold maxLen at h2;obtain ⟨g0,Eh,x0,y0,p0,-,z0,b0,JI,b0''⟩:=iv hT hX 0 (by omega) (by omega);obtain ⟨g1,JJ,x1,y1,p1,z1,-,b1,OU,b1''⟩:=iv hT hX 1 (by omega) (by omega);obtain ⟨rfl,-⟩:=z0.uniq z1;obtain ⟨blk,rfl,Av,cc⟩:=h3.resolve_left (by rintro rfl;simp at hm);have c0:w1.cell? ⟨blk,0,none⟩=_:=cc 0 (by omega);have c1:w1.cell? ⟨blk,1,none⟩=_:=cc 1 (by omega);have s0:=p0.len hB;have s1:=p1.len hB
 have S6:s.size≤60:=by simp only [okC,aF,Bool.and_eq_true] at Aj;exact jk _ _ Aj.1
 have AM:2≤ap s.data.toList∧ap s.data.toList≤6:=by
  refine lF _ ?_;simp only [okC,aF,ar,Bool.and_eq_true] at Aj;simpa using Aj.1
 have HR:=agC (fun w'=>tV 8 2 s w' Aj);have Da:rkC (8,s,2)-1=ap s.data.toList-1:=rfl;rw [Da] at HR
 have e0:dH ks 0=x0:=by rw [dH,List.getD_eq_getElem?_getD,y0];rfl
 have e1:dH ks 1=x1:=by rw [dH,List.getD_eq_getElem?_getD,y1];rfl
 rw [e0,e1,hm];have HF:=agC (wP (ap s.data.toList) AM.1);generalize qs[0]=q0 at p0 c0;generalize qs[1]=q1 at p1 c1;have Au:=bn s;generalize ap s.data.toList=r at HR HF AM;have KG:=agC p0;have Eu:=agC p1;have IH:=agC ih;have HB:=agC hb;have HW:=agC hw;have Ky:=agC c0;have Kz:=agC c1;rw [hm] at h1;clear h3 hT hX ih hb hw ho Da e0 e1 y0 y1 z0 z1 p0 p1 cc Aj c0 c1;have d0:w.cell? ⟨blk,0,none⟩=some (.pointer (some ⟨q0,0,none⟩)):=(HB.out.cell (p:=⟨blk,0,none⟩) Av).trans Ky.out
 go_enter Tryz.func220,Tryz.ntmps220
 have JG:=agC (CpAt.new w 8 s 2);have Iu:=agC (HW.out.later ((Below.refl _ _).alloc (agD _) (.cells #[.int .i64 8, .string s, .int .i64 2] 110)));have BR:=agC (HB.out.alloc HB.out.size (.cells #[.int .i64 8, .string s, .int .i64 2] 110));have Iv:=agC (KT.alloc w (.cells #[.int .i64 8, .string s, .int .i64 2] 110));go_wp2_with fail;refine (HR.out _).mono ?_;rintro e w2 ⟨rfl,Ae⟩;have MB:=agC (JG.out.keep (KT.below Ae));have I4:=agC (Iu.out.later Ae);have Ak:=agC (BR.out.trans (Ae.mono BR.out.size));have C8:=agC (Iv.out.trans (KT.below Ae));clear Ae;have d2:w2.cell? ⟨blk,0,none⟩=some (.pointer (some ⟨q0,0,none⟩)):=(Ak.out.cell (p:=⟨blk,0,none⟩) Av).trans Ky.out
 by_cases h3:r-1=3
 ·rw [if_pos h3] at HF
  obtain rfl:r=4:=by omega
  go_wp2_with fail;refine (IH.out.part KG.out 4 T w2 (by omega) (by omega) (by omega) Ak.out I4.out (by omega)).mono ?_;rintro e w3 ⟨rfl,h3,Ag,Bf⟩;rw [HF.out] at h3;have W3:=agC h3;have Ap:=agC Ag;have F0:=agC (C8.out.trans Bf);have J5:=agC (MB.out.keep Bf);clear h3 Ag Bf;obtain ⟨k0,k1,k2⟩:=J5.out.cells;have FO:=agC (show (T++cR (cC 4) x0).length+s.size≤900000000 by have:=dv (cC 4) x0;simp only [agE];omega);have MC:=agC (show ((T++cR (cC 4) x0)++([32]++s.data.toList++[32])).length+200*(JJ-Eh)≤100000 by have:=dv (cC 4) x0;simp only [agE,List.length_cons,List.length_nil];omega);go_wp2_with fail
  go_region_with ((go_at_call 132;refine (xY _ b _ _ s w3 W3.out FO.out Ap.out.size).mono ?_;rintro e w4 ⟨rfl,h4,As,Ay⟩))
  all_goals
   have W4:=agC h4;have Aw:=agC (Ap.out.trans As);have Cp:=agC (F0.out.trans Ay);clear h4 As Ay;have d4:w4.cell? ⟨blk,1,none⟩=some (.pointer (some ⟨q1,0,none⟩)):=(Aw.out.cell (p:=⟨blk,1,none⟩) Av).trans Kz.out;go_wp2_with fail;refine (IH.out.part Eu.out 4 _ w4 (by omega) (by omega) (by omega) Aw.out W4.out MC.out).mono ?_;rintro e w5 ⟨rfl,h5,AI,Dm⟩;have W5:=agC h5;have AQ:=agC AI;have FP:=agC (Cp.out.trans Dm);clear h5 AI Dm;go_wp2;go_end0;exact ⟨rfl,by have:=W5.out;simpa using this,AQ.out,FP.out⟩
 ·rw [if_neg h3] at HF
  have I5:(r-1==3)=false:=beq_eq_false_iff_ne.mpr h3;go_wp2_with fail;refine (IH.out.part KG.out (r-1) T w2 (by omega) (by omega) (by omega) Ak.out I4.out (by omega)).mono ?_;rintro e w3 ⟨rfl,h3,Ag,Bf⟩;rw [HF.out] at h3;have W3:=agC h3;have Ap:=agC Ag;have F0:=agC (C8.out.trans Bf);have J5:=agC (MB.out.keep Bf);clear h3 Ag Bf;obtain ⟨k0,k1,k2⟩:=J5.out.cells;have FO:=agC (show (T++cR (cC r) x0).length+s.size≤900000000 by have:=dv (cC r) x0;simp only [agE];omega);have MC:=agC (show ((T++cR (cC r) x0)++([32]++s.data.toList++[32])).length+200*(JJ-Eh)≤100000 by have:=dv (cC r) x0;simp only [agE,List.length_cons,List.length_nil];omega);go_wp2_with fail
  go_region_with ((go_at_call 132;refine (xY _ b _ _ s w3 W3.out FO.out Ap.out.size).mono ?_;rintro e w4 ⟨rfl,h4,As,Ay⟩))
  all_goals
   have W4:=agC h4;have Aw:=agC (Ap.out.trans As);have Cp:=agC (F0.out.trans Ay);clear h4 As Ay;have d4:w4.cell? ⟨blk,1,none⟩=some (.pointer (some ⟨q1,0,none⟩)):=(Aw.out.cell (p:=⟨blk,1,none⟩) Av).trans Kz.out;go_wp2_with fail;refine (IH.out.part Eu.out r _ w4 (by omega) (by omega) (by omega) Aw.out W4.out MC.out).mono ?_;rintro e w5 ⟨rfl,h5,AI,Dm⟩;have W5:=agC h5;have AQ:=agC AI;have FP:=agC (Cp.out.trans Dm);clear h5 AI Dm;go_wp2;go_end0;exact ⟨rfl,by have:=W5.out;simpa using this,AQ.out,FP.out⟩
theorem wR {w1:World} {l:List Cl} {lv:Value} {S:Nat→Prop} {b j:Nat} (hB:Base w1 l lv S) (ih:ExprOK w1 l lv S b j) (v:Value) (f t e:Nat) (qs:List Nat) (ks:List Pt) (T:List UInt8) (w:World)
  (ho:w1.ownsRow 0 165 1 v 3 (ef qs)) (hT:TrS w1 (amL l) S qs f t e) (hX:Tx l 3 f t ks) (hj:t-f≤j) (hb:Below w1.heap.size w1 w) (hw:WrAt w1.heap.size b lv T w) (Ai:T.length+200*(t-f)≤99900):
  Calls Tryz.prog 221 #[.pointer (some ⟨b,0,none⟩),v] w (mC w1 b lv (T++(cR 2 (dH ks 0)++[32,63,32]++(dH ks 1).2++[32,58,32]++(dH ks 2).2)) w):=by
 obtain ⟨ao,cap,rfl,h1,h2,h3⟩:=lH ho;have hm:qs.length=3:=jP ho;unfold maxLen at h2;obtain ⟨g0,Eh,x0,y0,p0,-,z0,b0,JI,b0''⟩:=iv hT hX 0 (by omega) (by omega);obtain ⟨g1,JJ,x1,y1,p1,z1,Ry,b1,OU,b1''⟩:=iv hT hX 1 (by omega) (by omega);obtain ⟨rfl,-⟩:=z0.uniq z1;obtain ⟨g2,QX,x2,y2,p2,z2,-,b2,Tg,b2''⟩:=iv hT hX 2 (by omega) (by omega);obtain ⟨rfl,-⟩:=Ry.uniq z2;obtain ⟨blk,rfl,Av,cc⟩:=h3.resolve_left (by rintro rfl;simp at hm);have c0:w1.cell? ⟨blk,0,none⟩=_:=cc 0 (by omega);have c1:w1.cell? ⟨blk,1,none⟩=_:=cc 1 (by omega);have c2:w1.cell? ⟨blk,2,none⟩=_:=cc 2 (by omega);have s0:=p0.len hB;have s1:=p1.len hB;have s2:=p2.len hB
 have e0:dH ks 0=x0:=by rw [dH,List.getD_eq_getElem?_getD,y0];rfl
 have e1:dH ks 1=x1:=by rw [dH,List.getD_eq_getElem?_getD,y1];rfl
 have e2:dH ks 2=x2:=by rw [dH,List.getD_eq_getElem?_getD,y2];rfl
 rw [e0,e1,e2,hm];generalize qs[0]=q0 at p0 c0;generalize qs[1]=q1 at p1 c1;generalize qs[2]=q2 at p2 c2;have PB1:=agC (jN (x:=x1) (r:=0+1) (by omega));have PB2:=agC (jN (x:=x2) (r:=0+1) (by omega));have KG:=agC p0;have Eu:=agC p1;have Ik:=agC p2;have IH:=agC ih;have HB:=agC hb;have HW:=agC hw;have Kz:=agC c1;have OP:=agC c2;have d0:w.cell? ⟨blk,0,none⟩=some (.pointer (some ⟨q0,0,none⟩)):=(HB.out.cell (p:=⟨blk,0,none⟩) Av).trans c0;rw [hm] at h1;have Uf:=dv (1+1) x0;clear h3 hT hX ih hb hw ho e0 e1 e2 y0 y1 y2 z0 z1 Ry z2 p0 p1 p2 cc c0 c1 c2
 go_enter Tryz.func221,Tryz.ntmps221
 go_wp2_with fail;refine (IH.out.part KG.out 1 T w (by omega) (by omega) (by omega) HB.out HW.out (by omega)).mono ?_;rintro e w3 ⟨rfl,h3,Ag,Bf⟩;have W3:=agC h3;have Ap:=agC Ag;have F0:=agC Bf;clear h3 Ag Bf;go_wp2_with fail;refine (dA _ b _ _ ⟨#[32,63,32]⟩ _ W3.out (by rw [show (⟨#[32,63,32]⟩:ByteArray).size=3 from rfl];simp only [agE];omega) Ap.out.size).mono ?_;rintro e w4 ⟨rfl,h4,As,Ay⟩;have W4:=agC h4;have Aw:=agC (Ap.out.trans As);have Cp:=agC (F0.out.trans Ay);clear h4 As Ay;have d4:w4.cell? ⟨blk,1,none⟩=some (.pointer (some ⟨q1,0,none⟩)):=(Aw.out.cell (p:=⟨blk,1,none⟩) Av).trans Kz.out;go_wp2_with fail;refine (IH.out.part Eu.out 0 _ w4 (by omega) (by omega) (by omega) Aw.out W4.out (by simp only [agE,List.length_cons,List.length_nil];omega)).mono ?_;rintro e w5 ⟨rfl,h5,AI,Dm⟩;rw [PB1.out] at h5;have W5:=agC h5;have AQ:=agC AI;have FP:=agC (Cp.out.trans Dm);clear h5 AI Dm;go_wp2_with fail;refine (dA _ b _ _ ⟨#[32,58,32]⟩ _ W5.out (by rw [show (⟨#[32,58,32]⟩:ByteArray).size=3 from rfl];simp only [agE,List.length_cons,List.length_nil];omega) AQ.out.size).mono ?_;rintro e w6 ⟨rfl,h6,Bv,PG⟩;have W6:=agC h6;have CK:=agC (AQ.out.trans Bv);have Ug:=agC (FP.out.trans PG);clear h6 Bv PG;have d6:w6.cell? ⟨blk,2,none⟩=some (.pointer (some ⟨q2,0,none⟩)):=(CK.out.cell (p:=⟨blk,2,none⟩) Av).trans OP.out;go_wp2_with fail;refine (IH.out.part Ik.out 0 _ w6 (by omega) (by omega) (by omega) CK.out W6.out (by simp only [agE,List.length_cons,List.length_nil];omega)).mono ?_;rintro e w7 ⟨rfl,h7,BK,I7⟩;rw [PB2.out] at h7;have W7:=agC h7;have Em:=agC BK;have Uh:=agC (Ug.out.trans I7);clear h7 BK I7;go_wp2;go_end0;exact ⟨rfl,by have:=W7.out;simpa using this,Em.out,Uh.out⟩
structure NodeIn (w1 w:World) (l:List Cl) (lv:Value) (S:Nat→Prop) (N f t:Nat) (c:Cl) (ks:List Pt) (v:Value) (qs:List Nat):Prop where
 own:w1.ownsRow 0 165 1 v c.2.2.toNat (ef qs)
 tree: ∃d,TrS w1 (amL l) S qs (f+1) t d
 text:Tx l c.2.2.toNat (f+1) t ks
 le:f+1≤t∧t≤60
 ok:okC c=true
 low:N<w1.heap.size
 parts:w1.cell? ⟨N,2,none⟩=some v
theorem afK {w1 w:World} {l:List Cl} {lv:Value} {S:Nat→Prop} {N f t d:Nat} {x:Pt} (hB:Base w1 l lv S) (hT:TrS w1 (amL l) S [N] f t d) (hX:Tx l 1 f t [x]) (hb:Below w1.heap.size w1 w):
  ∃c ks v qs lb o cap,x=(rkC c,bF c ks)∧lv= .slice (some ⟨lb,o,none⟩) l.length cap∧f<l.length∧NodeIn w1 w l lv S N f t c ks v qs∧
   w.cell? ⟨N,0,none⟩=some (.int .i64 (f:Int))∧w.cell? ⟨N,2,none⟩=some v∧
   w.cell? ⟨lb,o+f*3,none⟩=some (.int .i64 c.1)∧w.cell? ⟨lb,o+f*3+1,none⟩=some (.string c.2.1)∧w.cell? ⟨lb,o+f*3+2,none⟩=some (.int .i64 c.2.2):=by
 obtain ⟨c,ks,hc,Cm,rfl⟩:=hX.inv;obtain ⟨m,e,v,qs,hm,hS,hN,ho,hr,ht,-⟩:=hT.inv;obtain ⟨lb,o,cap,rfl,Dr,c0,c1,c2,Aj⟩:=hB.at hb hc;have EO:=oe hc
 rw [hm] at EO;injection EO with EO;subst EO
 have hn:=hN.keep hb;obtain ⟨_,hx⟩:=Cm.exs;have CJ:=hx.le;have PF:=hT.exs.le.2 (by simp);rw [cG] at PF;have:=hB.short;exact ⟨c,ks,v,qs,lb,o,cap,rfl,rfl,Dr,⟨ho,⟨e,ht⟩,Cm,⟨by omega,by omega⟩,Aj,hN.lt,hN.cell 2⟩,hn.cell 0,hn.cell 2,c0,c1,c2⟩
theorem aad {w1:World} {l:List Cl} {lv:Value} {S:Nat→Prop} {b j:Nat} (hB:Base w1 l lv S) (ih:ExprOK w1 l lv S b j):acv w1 l lv S b (j+1):=by
 intro N f t d x T w hT hX hj hb hw Ai;obtain ⟨⟨k,s,m⟩,ks,v,qs,lb,o,cap,rfl,rfl,Dr,hN,n0,n2,c0,c1,c2⟩:=afK hB hT hX hb;have Ci:=hB.short;have M9:=hw.list;have CJ:=hN.le;have Di:=agC ih;have HB:=agC hb;have HW:=agC hw;have HN:=agC hN;have I1:=agC hB;simp only at c0 c1 c2;have ln:=(jm n0).2;have ll:=(jm c0).2;have lb':=HW.out.lt.2;simp only at ln ll
 have e1: ¬N=w.heap.size:=by omega
 have e2: ¬lb=w.heap.size:=by omega
 have e3: ¬b=w.heap.size:=by omega
 clear hT hX ih hb hw hN hB
 go_enter Tryz.func195,Tryz.ntmps195
 go_upto_region 0 with fail
 go_cut [4] (fun x wx=>x= .pointer (some ⟨w.heap.size,0,none⟩)∧wx=(w.alloc (.cells #[.int .i64 k, .string s, .int .i64 m] 110)).drew)
 case first=>
  go_region
  all_goals (go_wp2_with fail;go_meet;exact ⟨rfl,rfl⟩)
 case rest=>
  obtain ⟨rfl,J7⟩:=hcut;have JG:=agC (show CpAt wc w.heap.size k s m by rw [J7];exact CpAt.new w k s m)
  have Gb:Below w.heap.size w wc:=by rw [J7];exact ((Below.refl _ _).alloc (agD _) _).drew
  have Iu:=agC (HW.out.later Gb);have BR:=agC (HB.out.trans (Gb.mono HB.out.size));have Iv:=agC (KT.below Gb);have g2:wc.cell? ⟨N,2,none⟩=some v:=(Gb.cell (p:=⟨N,2,none⟩) ln).trans n2;clear J7 Gb n0 n2 c0 c1 c2 M9 ln ll lb' e1 e2 e3;generalize w.heap.size=CG at JG;obtain ⟨k0,k1,k2⟩:=JG.out.cells;have Cm:=HN.out.ok
  have M9:s.size≤60:=by simp only [okC,aF,Bool.and_eq_true] at Cm;exact jk _ _ Cm.1
  have BT:=bn s
  by_cases h2:k=2
  ·subst h2
   have HT:=agC (show aD s=true by simp only [okC,aF,ar,Bool.and_eq_true] at Cm;have:=Cm.1;simp at this;exact this.1);have HE:=agC (show bF (2,s,m) ks=bc s.data.toList from rfl);clear Cm;have HQ:=agC (show (cA s).data.toList=bc s.data.toList by rw [cA,if_pos HT.out])
   have Fk:(cA s).size≤122:=by
    rw [←bn,HQ.out];have:=(iM s.data.toList).2;simp only [bc,List.length_cons,agE,List.length_nil];omega
   go_wp2_with fail
   go_region_with (first
    |(go_at_call 218;refine (oL s _ (by unfold maxLen;omega)).mono ?_;rintro e wq ⟨rfl,Nu⟩;have Ui:=agC ((show WrAt _ b _ T wc.drew from Iu.out).later Nu);have JD:=agC (BR.out.drew.trans (Nu.mono BR.out.size));have Uj:=agC ((Iv.out.trans (show KT wc wc.drew from KT.refl wc)).trans (KT.below Nu));clear Nu)
    |(go_at_call 132;refine (dA _ b _ _ _ _ Ui.out (by omega) JD.out.size).mono ?_;rintro e w4 ⟨rfl,h4,As,Ay⟩))
   all_goals
    have W4:=agC h4;have Aw:=agC (JD.out.trans As);have Cp:=agC (Uj.out.trans Ay);clear h4 As Ay;go_wp2;go_end0;exact ⟨rfl,by have:=W4.out;rw [HQ.out] at this;exact this,Aw.out,Cp.out⟩
  by_cases h5:k=5
  ·subst h5
   have HE:=agC (show bF (5,s,m) ks=91::(cJ ks++[93]) from rfl);clear Cm h2;obtain ⟨e0,ht⟩:=HN.out.tree;have Hs:=agC ht;clear ht;go_wp2_with fail;refine (oI I1.out Di.out ⟨#[91]⟩ ⟨#[93]⟩ v _ (f+1) t e0 qs ks T wc HN.out.own Hs.out HN.out.text (by omega) BR.out Iu.out (by rw [show (⟨#[91]⟩:ByteArray).size=1 from rfl,show (⟨#[93]⟩:ByteArray).size=1 from rfl];omega)).mono ?_;rintro e w4 ⟨rfl,h4,As,Ay⟩;have W4:=agC h4;have Aw:=agC As;have Cp:=agC (Iv.out.trans Ay);clear h4 As Ay;go_wp2;go_end0;exact ⟨rfl,by have:=W4.out;rw [HE.out];simpa using this,Aw.out,Cp.out⟩
  by_cases h6:k=6
  ·subst h6
   have HE:=agC (show bF (6,s,m) ks=s.data.toList++(40::(cJ ks++[41])) from rfl);clear Cm h2 h5;obtain ⟨e0,ht⟩:=HN.out.tree;have Hs:=agC ht;clear ht;have Fr:=agC (show (s++(⟨#[40]⟩:ByteArray)).data.toList=s.data.toList++[40] by simp)
   have Nt:(s++(⟨#[40]⟩:ByteArray)).size=s.size+1:=by rw [←bn,Fr.out,agE,BT];rfl
   go_wp2_with fail
   go_region_with ((go_at_call 219;refine (oI I1.out Di.out (s++⟨#[40]⟩) ⟨#[41]⟩ v _ (f+1) t e0 qs ks T wc.drew HN.out.own Hs.out HN.out.text (by omega) BR.out.drew Iu.out (by rw [Nt,show (⟨#[41]⟩:ByteArray).size=1 from rfl];omega)).mono ?_;rintro e w4 ⟨rfl,h4,As,Ay⟩))
   all_goals
    have W4:=agC h4;have Aw:=agC As;have Cp:=agC ((Iv.out.trans (show KT wc wc.drew from KT.refl wc)).trans Ay);clear h4 As Ay;go_wp2;go_end0;exact ⟨rfl,by have:=W4.out;rw [HE.out];simpa using this,Aw.out,Cp.out⟩
  by_cases h7:k=7
  ·subst h7
   have HE:=agC (show bF (7,s,m) ks=s.data.toList++cR 7 (dH ks 0) from rfl);clear Cm h2 h5 h6
   have Co:m.toNat=1:=by
    have:=HN.out.ok;simp only [okC,aF,aQ,Bool.and_eq_true] at this;have:=this.2
    simp at this;omega
   obtain ⟨e0,ht⟩:=HN.out.tree;have Cn:qs.length=1:=(jP HN.out.own).trans Co;obtain ⟨g0,Eh,x0,y0,p0,-,-,b0,JI,b0''⟩:=iv ht HN.out.text 0 (by show 0<m.toNat;omega) (by omega)
   have DH:dH ks 0=x0:=by rw [dH,List.getD_eq_getElem?_getD,y0];rfl
   obtain ⟨ao,cap',rfl,p1,p2,p3⟩:=lH HN.out.own;obtain ⟨blk,rfl,Av,cc⟩:=p3.resolve_left (by rintro rfl;simp at Cn);have c0:w1.cell? ⟨blk,0,none⟩=_:=cc 0 (by omega);generalize qs[0]=q0 at p0 c0;have Ky:=agC c0;have KG:=agC p0;have Uf:=dv 7 x0;rw [DH] at HE;rw [Cn] at p1 g2;unfold maxLen at p2;have Bi:=agC (show w1.cell? ⟨N,2,none⟩=some (.slice (some ⟨blk,0,none⟩) 1 cap') by rw [HN.out.parts,Cn]);have J6:=HN.out.low;clear cc p0 c0 y0 ht p3 DH g2;go_wp2_with fail
   go_region_with ((go_at_call 132;refine (dA _ b _ T s _ (show WrAt _ b _ T wc.drew from Iu.out) (by omega) BR.out.drew.size).mono ?_;rintro e w4 ⟨rfl,h4,As,Ay⟩))
   all_goals
    have W4:=agC h4;have Aw:=agC (BR.out.drew.trans As);have Cp:=agC ((Iv.out.trans (show KT wc wc.drew from KT.refl wc)).trans Ay);clear h4 As Ay;have d2:w4.cell? ⟨N,2,none⟩=_:=(Aw.out.cell (p:=⟨N,2,none⟩) J6).trans Bi.out;have d4:w4.cell? ⟨blk,0,none⟩=some (.pointer (some ⟨q0,0,none⟩)):=(Aw.out.cell (p:=⟨blk,0,none⟩) Av).trans Ky.out;go_wp2_with fail;refine (Di.out.part KG.out 6 _ w4 (by omega) (by omega) (by omega) Aw.out W4.out (by simp only [agE];omega)).mono ?_;rintro e w5 ⟨rfl,h5,AI,Dm⟩;have W5:=agC h5;have AQ:=agC AI;have FP:=agC (Cp.out.trans Dm);clear h5 AI Dm;go_wp2;go_end0;exact ⟨rfl,by have:=W5.out;rw [HE.out];simpa using this,AQ.out,FP.out⟩
  by_cases h8:k=8
  ·subst h8
   clear Cm h2 h5 h6 h7;obtain ⟨e0,ht⟩:=HN.out.tree;have Hs:=agC ht;clear ht
   have DZ:m=2:=by
    have:=HN.out.ok;simp only [okC,aF,aQ,Bool.and_eq_true] at this
    simpa using this.2
   subst DZ;go_wp2_with fail
   go_region_with ((go_at_call 220;refine (wQ I1.out Di.out s v (f+1) t e0 qs ks T wc.drew HN.out.ok HN.out.own Hs.out HN.out.text (by omega) BR.out.drew Iu.out (by omega)).mono ?_;rintro e w4 ⟨rfl,h4,As,Ay⟩))
   all_goals
    have W4:=agC h4;have Aw:=agC As;have Cp:=agC ((Iv.out.trans (show KT wc wc.drew from KT.refl wc)).trans Ay);clear h4 As Ay;go_wp2;go_end0;exact ⟨rfl,W4.out,Aw.out,Cp.out⟩
  by_cases h9:k=9
  ·subst h9
   clear Cm h2 h5 h6 h7 h8;obtain ⟨e0,ht⟩:=HN.out.tree;have Hs:=agC ht;clear ht
   have Nc:m=3:=by
    have:=HN.out.ok;simp only [okC,aF,aQ,Bool.and_eq_true] at this
    simpa using this.2
   subst Nc;go_wp2_with fail;refine (wR I1.out Di.out v (f+1) t e0 qs ks T wc HN.out.own Hs.out HN.out.text (by omega) BR.out Iu.out (by omega)).mono ?_;rintro e w4 ⟨rfl,h4,As,Ay⟩;have W4:=agC h4;have Aw:=agC As;have Cp:=agC (Iv.out.trans Ay);clear h4 As Ay;go_wp2;go_end0;exact ⟨rfl,W4.out,Aw.out,Cp.out⟩
  have HE:=agC (show bF (k,s,m) ks=s.data.toList by simp [bF,h2,h5,h6,h7,h8,h9]);have q2:(k==2)=false:=beq_eq_false_iff_ne.mpr h2;have q5:(k==5)=false:=beq_eq_false_iff_ne.mpr h5;have q6:(k==6)=false:=beq_eq_false_iff_ne.mpr h6;have q7:(k==7)=false:=beq_eq_false_iff_ne.mpr h7;have q8:(k==8)=false:=beq_eq_false_iff_ne.mpr h8;have q9:(k==9)=false:=beq_eq_false_iff_ne.mpr h9;clear Cm h2 h5 h6 h7 h8 h9;go_wp2_with fail
  go_region_with ((go_at_call 132;refine (dA _ b _ T s _ (show WrAt _ b _ T wc.drew from Iu.out) (by omega) BR.out.drew.size).mono ?_;rintro e w4 ⟨rfl,h4,As,Ay⟩))
  all_goals
   have W4:=agC h4;have Aw:=agC (BR.out.drew.trans As);have Cp:=agC ((Iv.out.trans (show KT wc wc.drew from KT.refl wc)).trans Ay);clear h4 As Ay;go_wp2;go_end0;exact ⟨rfl,by have:=W4.out;rw [HE.out];exact this,Aw.out,Cp.out⟩
theorem acx {w1:World} {l:List Cl} {lv:Value} {S:Nat→Prop} {b:Nat} (hB:Base w1 l lv S): ∀j,ExprOK w1 l lv S b j:=by
 intro j
 induction j with
 |zero=>
  intro N f t d x least T w hT hX hj;have:=hT.exs.le
  simp at this;omega
 |succ j ih=>exact aac hB (aad hB ih)
theorem acy {k m:Int} {s:ByteArray} (h:okC (k,s,m)=true) (h5:k≠5) (h9:k≠9) (h2:k≠2):s.data.toList≠[]:=by
 intro hs;obtain rfl:s=⟨#[]⟩:=dW (by rw [hs]);simp only [okC,aF,Bool.and_eq_true] at h;have h:=h.1;unfold ar at h
 repeat' split at h
 all_goals first
  |exact h5 ‹_›
  |exact h9 ‹_›
  |exact h2 ‹_›
  |(revert h;decide)
theorem acz {c:Cl} (h:okC c=true) (ks:List Pt):bF c ks≠[]:=by
 obtain ⟨k,s,m⟩:=c;have hw:=acy h;unfold bF
 repeat' split
 all_goals first
  |(simp [bc];done)
  |(simp;done)
  |(simp_all;done)
theorem acA {l:List Cl} (Aj:okE l=true):bh l≠[]:=by
 obtain ⟨x,h⟩:=og Aj;rw [io Aj h];obtain ⟨c,ks,hc,-,rfl⟩:=h.inv;obtain ⟨hl,he⟩:=List.getElem?_eq_some_iff.mp hc;exact acz (by rw [←he];exact jL ((dE l).mp Aj).2.1 _ hl) ks
theorem pj (v:Value) (l:List Cl) (w:World) (hr:RowC w v l) (hz:ec l) (Al:Tab w):
  Calls Tryz.prog 133 #[v] w fun e w'=>e= .returned (.string ⟨(bh l).toArray⟩)∧Below w.heap.size w w':=by
 have HC:=agC (lJ v l w hr hz Al);have HR:=agC hr;obtain ⟨ao,cap,rfl,h1,h2,h3⟩:=hr;unfold maxLen at h2;clear h3 hz
 go_enter Tryz.func133,Tryz.ntmps133
 go_wp2_with fail;refine HC.out.mono ?_;rintro e w1 ⟨Aa,⟨N,d,rfl,Aj,hd,ht⟩|⟨rfl,Ar⟩⟩
 ·have HB:=agC Aa;have HT:=agC ht
  obtain ⟨x,hx⟩:=og Aj;have Ia:=(dE l).mp Aj;have HE:=agC (io Aj hx);have D2:=agC (acA Aj);have Lr:=agC (show Base w1 l _ (fun b=>w.heap.size≤b∧b<w1.heap.size) from ⟨HR.out.mono Aa,Ia.2.1,Ia.1,fun b h=>h.2⟩);have HX:=agC hx;have OX:=(hx.short Ia.2.1).1;have Uk:=Ia.1;have PB:=agC (jN (x:=x) (r:=0+1) (by have:=(hx.rk Ia.2.1 x (by simp)).1;omega));clear Aa Aj ht hx Ia;have HN:=agC (WrAt.new w1 (.slice ao l.length cap));have LD:=agC ((Below.refl w1.heap.size w1).alloc (agD _) (.cells #[.slice ao l.length cap, .pointer none, .slice none 0 0] 174));go_wp2_with fail;refine (acx (b:=w1.heap.size) Lr.out l.length N 0 l.length d x 0 [] _ HT.out HX.out (by omega) (by omega) (by omega) LD.out HN.out (by simp;omega)).mono ?_;rintro e w2 ⟨rfl,h4,As,Ay⟩;rw [PB.out,List.nil_append,←HE.out] at h4;have W4:=agC h4;have Aw:=agC As;clear h4 As Ay;go_wp2_with fail;refine (aab _ w1.heap.size _ _ _ W4.out D2.out).mono ?_;rintro e w3 ⟨rfl,AI⟩;have AQ:=agC (HB.out.trans ((Aw.out.trans AI).mono HB.out.size));clear AI;go_wp2;go_ret;exact ⟨rfl,AQ.out⟩
 ·have HE:=agC (sX Ar)
  have HB:=agC Aa;clear Aa Ar;go_wp2;go_ret;exact ⟨by rw [HE.out];rfl,HB.out⟩
end Go.Proofs.YtegdjjjpoahamaaGreatDoor
