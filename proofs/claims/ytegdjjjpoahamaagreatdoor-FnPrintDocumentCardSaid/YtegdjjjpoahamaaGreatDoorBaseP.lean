/-
  Several texts of the proof in one file: RankI, Writer, PrintI, PrintI2, PrintI3, PrintI4.
-/
import Derived.Test.YtegdjjjpoahamaaGreatDoorBaseI
import Derived.Test.YtegdjjjpoahamaaGreatDoorBaseJ
import Derived.Deep.QuietTactic
import Derived.RegionTactic
import Derived.Deep.RegionWith
import Derived.Test.YtegdjjjpoahamaaGreatDoorBaseE
import Derived.Test.YtegdjjjpoahamaaGreatDoorBaseX
import Derived.Deep.DeepCutAuto
set_option linter.unusedVariables false
set_option maxHeartbeats 4000000
set_option maxRecDepth 100000
namespace Go.Proofs.YtegdjjjpoahamaaGreatDoor
open Go.RowKit
def rkI (l:List UInt8):Int:=if rankL l=0 then 0 else rankL l-1
theorem rkI_of {l:List UInt8} {r:Int} (h:rankL l=r) (h0:r≠0):rkI l=r-1:=by rw [rkI,if_neg (by rw [h];exact h0),h]
theorem ite_bd {p:Prop} [Decidable p] {a b:Int} (ha:a=0∨(2≤a∧a≤6)) (hb:b=0∨(2≤b∧b≤6)):(if p then a else b)=0∨(2≤(if p then a else b)∧(if p then a else b)≤6):=by
 by_cases h:p
 ·rw [if_pos h];exact ha
 ·rw [if_neg h];exact hb
theorem rankL_bd (l:List UInt8):rankL l=0∨(2≤rankL l∧rankL l≤6):=by
 unfold rankL
 iterate 13 (refine ite_bd (by decide) ?_)
 decide
theorem rkI_bd (l:List UInt8):0≤rkI l∧rkI l≤5:=by
 unfold rkI;have:=rankL_bd l;split<;>omega
theorem binaryRank_any (s:ByteArray) (w:World):
  Calls Tryz.prog 217 #[.string s] w fun e w'=>e= .returned (.int .i64 (rkI s.data.toList))∧w=w':=by
 go_enter Tryz.func217,Tryz.ntmps217
 go_wp2
 all_goals
  go_ret
  refine ⟨?_,rfl⟩
  simp_all [rkI,rankL,ByteArray.toList_eq]
theorem wLies:liesAt Tryz.prog Tryz.prog.depth 174 (3/Tryz.prog.cellsOf 174) 1 62 1=true:=by kernel_rfl
def WrV (B b:Nat) (lv p v:Value) (l:List UInt8) (w:World):Prop:=
 B≤b∧w.heap[b]? =some (.cells #[lv,p,v] 174 (0,0))∧w.ownsRow B 5 1 v (Lib.byteCells l).length (Lib.byteCells l)∧v.ownBlock≠some b
def WrAt (B b:Nat) (lv:Value) (l:List UInt8) (w:World):Prop:= ∃p v,(p= .pointer none∨p= .pointer (some ⟨b,1,none⟩))∧WrV B b lv p v l w
section
variable {B b:Nat} {lv p v:Value} {l:List UInt8} {w:World}
theorem WrV.lt (h:WrV B b lv p v l w):b<w.heap.size:=by
 rcases Nat.lt_or_ge b w.heap.size with hlt|hge
 ·exact hlt
 ·have:=h.2.1;rw [Array.getElem?_eq_none hge] at this;cases this
theorem WrV.cells (h:WrV B b lv p v l w):w.cell? ⟨b,0,none⟩=some lv∧w.cell? ⟨b,1,none⟩=some p∧w.cell? ⟨b,2,none⟩=some v:=by
 refine ⟨?_, ?_, ?_⟩<;>(rw [Lib.cell_of_heap h.2.1];rfl)
theorem WrV.frozen (h:WrV B b lv p v l w) (j:Nat):w.frozen? ⟨b,j,none⟩=false:=Lib.frozen_of_heap h.2.1 j
theorem WrV.shape (h:WrV B b lv p v l w):w.shape? b=some (174,3):=by simp [World.shape?,h.2.1]
theorem WrV.used (h:WrV B b lv p v l w) (q:Value):WrV B b lv q v l (w.setCell ⟨b,1,none⟩ q):=by
 obtain ⟨hB,hb,hown,hne⟩:=h
 refine ⟨hB,by simp [World.setCell,Array.getElem?_modify,hb], ?_,hne⟩
 exact hown.kept (row:=some b) ⟨rfl,rfl,rfl,by simp [World.setCell],fun k _ hk=>Below.heap_setCell _ _ _ _ (fun e=>hk (by simp [e]))⟩ (Or.inr hne)
theorem WrAt.lt (h:WrAt B b lv l w):B≤b∧b<w.heap.size:=by
 obtain ⟨p,v,-,h⟩:=h;exact ⟨h.1,h.lt⟩
theorem WrAt.list (h:WrAt B b lv l w):w.cell? ⟨b,0,none⟩=some lv:=by
 obtain ⟨p,v,-,h⟩:=h;exact h.cells.1
end
theorem WrV.put {B b:Nat} {lv p v v':Value} {l':List UInt8} {w:World} (hB:B≤b) (hb:w.heap[b]? =some (.cells #[lv,p,v] 174 (0,0))) (hown:w.ownsRow B 5 1 v' (Lib.byteCells l').length (Lib.byteCells l')):WrV B b lv p v' l' (w.setCell ⟨b,2,none⟩ v'):=by
 have hne:=Lib.ownBlock_ne (T:=174) (e:=5) hown hb (by decide)
 refine ⟨hB,by simp [World.setCell,Array.getElem?_modify,hb], ?_,hne⟩
 exact hown.kept (row:=some b) ⟨rfl,rfl,rfl,by simp [World.setCell],fun k _ hk=>Below.heap_setCell _ _ _ _ (fun e=>hk (by simp [e]))⟩ (Or.inr hne)
def KT (w w':World):Prop:= ∀(i:Nat) (cs:Array Value) (T:TypeId) (fr:Nat×Nat),w.heap[i]? =some (.cells cs T fr)→T≠5→T≠174→w'.heap[i]? =some (.cells cs T fr)
theorem heap_lt {w:World} {i:Nat} {o:Obj} (h:w.heap[i]? =some o):i<w.heap.size:=by
 rcases Nat.lt_or_ge i w.heap.size with hlt|hge
 ·exact hlt
 ·rw [Array.getElem?_eq_none hge] at h;cases h
theorem KT.refl (w:World):KT w w:=fun i cs T fr h _ _=>h
theorem KT.trans {a b c:World} (h:KT a b) (k:KT b c):KT a c:=fun i cs T fr hh h1 h2=>k i cs T fr (h i cs T fr hh h1 h2) h1 h2
theorem KT.below {w w':World} (h:Below w.heap.size w w'):KT w w':=fun i cs T fr hh _ _=>(h.block i (heap_lt hh)).trans hh
theorem KT.alloc (w:World) (o:Obj):KT w (w.alloc o):= .below ((Below.refl _ _).alloc (Nat.le_refl _) _)
theorem KT.set {w:World} {b:Nat} {cs0:Array Value} (hb:w.heap[b]? =some (.cells cs0 174 (0,0))) (j:Nat) (u:Value):KT w (w.setCell ⟨b,j,none⟩ u):=fun i cs T fr hh h1 h2=>by
 have hne:i≠b:=by
  rintro rfl
  rw [hb] at hh
  simp only [Option.some.injEq,Obj.cells.injEq] at hh
  exact h2 hh.2.1.symm
 exact (Below.heap_setCell _ _ _ _ hne).trans hh
theorem KT.grown {w w':World} {base n:Nat} {v:Value} {xs:List Value} (ho:w.ownsRow base 5 1 v n xs) (hg:w.grownBy w' v.ownBlock):KT w w':=fun i cs T fr hh h1 h2=>
 (hg.block i (heap_lt hh) (fun e=>(Lib.ownBlock_ne ho hh h1) e.symm)).trans hh
theorem WrAt.new (w:World) (lv:Value):WrAt w.heap.size w.heap.size lv [] (w.alloc (.cells #[lv, .pointer none, .slice none 0 0] 174)):=
 ⟨_,_, .inl rfl,Nat.le_refl _,heap_alloc_new w _,World.ownsRow_nil _ _ _ _,by simp [Value.ownBlock]⟩
theorem wcheck_used (b:Nat) (w:World) (h0:w.cell? ⟨b,1,none⟩=some (.pointer (some ⟨b,1,none⟩))):
  Calls Tryz.prog 135 #[.pointer (some ⟨b,1,none⟩)] w fun e w'=>e= .returned (.tuple #[])∧w=w':=by
 obtain ⟨j,hj,_⟩:=Option.map_eq_some_iff.1 bInfo
 have hn:=Lib.run_neq_ptr_same (P:=Tryz.prog) w ⟨b,1,none⟩ Tryz.underlying60 hj
 clear hj
 go_enter Tryz.func135,Tryz.ntmps135
 go_wp2
 go_end0
 exact ⟨rfl,rfl⟩
theorem wcheck_fresh (b:Nat) (w:World) (h0:w.cell? ⟨b,1,none⟩=some (.pointer none)) (hsh:w.shape? b=some (174,3)) (hfz:w.frozen? ⟨b,1,none⟩=false):
  Calls Tryz.prog 135 #[.pointer (some ⟨b,1,none⟩)] w fun e w'=>e= .returned (.tuple #[])∧w.setCell ⟨b,1,none⟩ (.pointer (some ⟨b,1,none⟩))=w':=by
 obtain ⟨j,hj,hjs⟩:=Option.map_eq_some_iff.1 bInfo
 have hto:=Lib.run_to_unsafe (P:=Tryz.prog) w ⟨b,1,none⟩ Tryz.underlying60 Tryz.underlying176 hj (by rw [hjs];decide) hsh (show (1:Nat)<3 by decide)
 have hfrom:=Lib.run_from_unsafe (P:=Tryz.prog) w ⟨b,1,none⟩ Tryz.underlying176 Tryz.underlying60 hj hsh wLies
 have hext:(callFunc 170 #[.pointer (some ⟨b,1,none⟩)]).run Tryz.prog w= .ok (.value (.pointer (some ⟨b,1,none⟩))) w:=by
  rw [run_callFunc_extern Tryz.func170 (by kernel_rfl) (by kernel_rfl) (by kernel_rfl) (e:=Extern.AbiNoEscape.same) (by kernel_rfl),Lib.run_noEscape]
  rfl
 clear hj
 go_enter Tryz.func135,Tryz.ntmps135
 go_wp2
 go_end0
 exact ⟨rfl,rfl⟩
theorem wcheck_any (B b:Nat) (lv:Value) (l:List UInt8) (w:World) (h:WrAt B b lv l w):
  Calls Tryz.prog 135 #[.pointer (some ⟨b,1,none⟩)] w fun e w'=>e= .returned (.tuple #[])∧(∃v,WrV B b lv (.pointer (some ⟨b,1,none⟩)) v l w')∧Below B w w'∧KT w w':=by
 obtain ⟨p,v,rfl|rfl,h⟩:=h
 ·refine (wcheck_fresh b w h.cells.2.1 h.shape (h.frozen 1)).mono ?_
  rintro e w' ⟨rfl,rfl⟩
  exact ⟨rfl,⟨v,h.used _⟩,(Below.refl B w).setCell (p:=⟨b,1,none⟩) h.1 _,KT.set h.2.1 1 _⟩
 ·refine (wcheck_used b w h.cells.2.1).mono ?_
  rintro e w' ⟨rfl,rfl⟩
  exact ⟨rfl,⟨v,h⟩,Below.refl B _,KT.refl _⟩
theorem wByte_any (B b:Nat) (lv:Value) (l:List UInt8) (c:UInt8) (n:Int) (hn:(c.toNat:Int)=n) (w:World) (h:WrAt B b lv l w) (hlen:l.length≤1000000000) (hBw:B≤w.heap.size):
  Calls Tryz.prog 88 #[.pointer (some ⟨b,1,none⟩), .int .u8 n] w fun e w'=>e= .returned .nilIface∧WrAt B b lv (l++[c]) w'∧Below B w w'∧KT w w':=by
 obtain ⟨i0,hi,hz0,hz1,hz2⟩:=info_parts u8Info
 have HL:=Lib.hid (Lib.byteCells_length l)
 have HX:=Lib.hid hn;clear hn
 go_enter Tryz.func88,Tryz.ntmps88
 go_wp2_with fail
 refine (wcheck_any B b lv l _ h).mono ?_
 rintro e w1 ⟨rfl,⟨v,h1⟩,hb1,hk1⟩
 have HK1:=Lib.hid hk1;clear hk1
 have hsz:=hb1.size
 have c1:=h1.cells.2.2
 have hlt:=h1.lt
 have H1:=Lib.hid h1;have HB1:=Lib.hid hb1
 have hown:=h1.2.2.1
 clear h1 hb1 h
 go_wp2_with (at_builtin;refine wpList_append_own _ rfl _ _ 22 rfl B 5 i0 (.int .u8 0) 1 1 Tryz.underlying22 hi hz0 hz1 hz2 rfl (by decide) _ _ _ rfl (hown.alloc _) ⟨w1.heap.size,0,none⟩ 1 1 [.int .u8 n] rfl rfl ?c1 ?c2 ?c3 ?c4 ?c5 ?_)
 case c1=>
  intro j u hj
  match j,hj with
  |0,hj=>simp at hj;subst hj;simp [Addr.add]
 case c2=>intro u hu;simp at hu;subst hu;rfl
 case c3=>have:=HL.out;unfold maxLen;omega
 case c4=>have:=HL.out;omega
 case c5=>simp;omega
 intro v' w2 hown' hgrow _
 have hb2:w2.heap[b]? =some (.cells #[lv, .pointer (some ⟨b,1,none⟩),v] 174 (0,0)):=by
  rw [hgrow.block b (by simp;omega) (fun e=>H1.out.2.2.2 e.symm),Lib.alloc_old w1 _ b hlt]
  exact H1.out.2.1
 have d1:w2.cell? ⟨b,2,none⟩=some v:=by rw [Lib.cell_of_heap hb2];rfl
 have f1:w2.frozen? ⟨b,2,none⟩=false:=Lib.frozen_of_heap hb2 2
 have HB2:=Lib.hid hb2;have HW:=Lib.hid hown';have HG:=Lib.hid hgrow
 clear hb2 hgrow
 obtain ⟨g,cap,rfl⟩: ∃g cap,v'= .slice (some ⟨g,0,none⟩) ((Lib.byteCells l).length+1) cap:=by
  rcases hown'.2 with ⟨_,h0⟩|⟨g,cap,cur,hv,_⟩
  ·omega
  ·exact ⟨g,cap,hv⟩
 clear hown' hi hz0 hz1 hz2 c1
 go_wp2
 go_ret
 refine ⟨rfl,⟨_,_, .inr rfl,WrV.put H1.out.1 HB2.out ?_⟩, ?_⟩
 ·rw [show Lib.byteCells (l++[c])=Lib.byteCells l++[.int .u8 n] by rw [cells_snoc,HX.out]]
  simpa using HW.out
 ·exact ⟨((HB1.out.alloc (by omega) _).grown HG.out (by simp;omega) (fun k hk=>(hown.lt k hk).1)).setCell (p:=⟨b,2,none⟩) H1.out.1 _,((HK1.out.trans (KT.alloc _ _)).trans (KT.grown (hown.alloc _) HG.out)).trans (KT.set HB2.out 2 _)⟩
theorem wString_any (B b:Nat) (lv:Value) (l:List UInt8) (s:ByteArray) (w:World) (h:WrAt B b lv l w) (hlen:l.length+s.size≤1000000000) (hBw:B≤w.heap.size):
  Calls Tryz.prog 132 #[.pointer (some ⟨b,1,none⟩), .string s] w fun e w'=>e= .returned (.tuple #[.int .i64 s.size, .nilIface])∧WrAt B b lv (l++s.data.toList) w'∧Below B w w'∧KT w w':=by
 obtain ⟨i0,hi,hz0,hz1,hz2⟩:=info_parts u8Info
 have HL:=Lib.hid (Lib.byteCells_length l)
 go_enter Tryz.func132,Tryz.ntmps132
 go_wp2_with fail
 refine (wcheck_any B b lv l _ h).mono ?_
 rintro e w1 ⟨rfl,⟨v,h1⟩,hb1,hk1⟩
 have HK1:=Lib.hid hk1;clear hk1
 have hsz:=hb1.size
 have c1:=h1.cells.2.2
 have hlt:=h1.lt
 have H1:=Lib.hid h1;have HB1:=Lib.hid hb1
 have hown:=h1.2.2.1
 clear h1 hb1 h
 go_wp2_with (at_builtin;refine Lib.wpList_append_own_string _ rfl _ _ 22 9 rfl B 5 i0 Tryz.underlying22 Tryz.underlying9 hi hz0 hz1 hz2 _ _ _ rfl hown s rfl ?c3 ?c4 ?c5 ?_)
 case c3=>have:=HL.out;unfold maxLen;omega
 case c4=>have:=HL.out;omega
 case c5=>omega
 intro v' w2 hown' hgrow _
 have hb2:w2.heap[b]? =some (.cells #[lv, .pointer (some ⟨b,1,none⟩),v] 174 (0,0)):=by
  rw [hgrow.block b hlt (fun e=>H1.out.2.2.2 e.symm)]
  exact H1.out.2.1
 have d1:w2.cell? ⟨b,2,none⟩=some v:=by rw [Lib.cell_of_heap hb2];rfl
 have f1:w2.frozen? ⟨b,2,none⟩=false:=Lib.frozen_of_heap hb2 2
 have HB2:=Lib.hid hb2;have HW:=Lib.hid hown';have HG:=Lib.hid hgrow
 clear hb2 hgrow
 obtain ⟨ao,n',cap,rfl⟩: ∃ao n' cap,v'= .slice ao n' cap:=by
  rcases hown'.2 with ⟨hv,_⟩|⟨g,cap,cur,hv,_⟩
  ·exact ⟨_,_,_,hv⟩
  ·exact ⟨_,_,_,hv⟩
 clear hown' hi hz0 hz1 hz2 c1
 go_wp2
 go_ret2
 refine ⟨rfl,⟨_,_, .inr rfl,WrV.put H1.out.1 HB2.out ?_⟩, ?_⟩
 ·have e:(Lib.byteCells s.data.toList).length=s.size:=by rw [Lib.byteCells_length,Array.length_toList];rfl
  rw [Lib.byteCells_append,List.length_append,e,←Lib.strCells_eq]
  exact HW.out
 ·exact ⟨(HB1.out.grown HG.out (by omega) (fun k hk=>(hown.lt k hk).1)).setCell (p:=⟨b,2,none⟩) H1.out.1 _,(HK1.out.trans (KT.grown hown HG.out)).trans (KT.set HB2.out 2 _)⟩
theorem wText_any (B b:Nat) (lv:Value) (l:List UInt8) (w:World) (h:WrAt B b lv l w) (h0:l≠[]):
  Calls Tryz.prog 91 #[.pointer (some ⟨b,1,none⟩)] w fun e w'=>e= .returned (.string ⟨l.toArray⟩)∧Below B w w':=by
 obtain ⟨p,v,-,hB,hbk,hown,hne⟩:=h
 have hl0:l.length≠0:=by simpa using h0
 rw [Lib.byteCells_length] at hown
 obtain ⟨g,cap,cur,rfl,hbg,hg,hnc,hcm,hcs,htake⟩: ∃g cap cur,v= .slice (some ⟨g,0,none⟩) l.length cap∧B≤g∧w.heap[g]? =some (.cells cur 5 (0,0))∧l.length≤cap∧cap≤maxLen∧cur.size=cap*1∧cur.toList.take (l.length*1)=Lib.byteCells l:=by
  rcases hown.2 with ⟨_,hz⟩|⟨g,cap,cur,hv,r⟩
  ·exact absurd hz hl0
  ·exact ⟨g,cap,cur,hv,r⟩
 have c1:w.drew.cell? ⟨b,2,none⟩=some (.slice (some ⟨g,0,none⟩) l.length cap):=by
  have:w.drew.heap[b]? =some (.cells #[lv,p, .slice (some ⟨g,0,none⟩) l.length cap] 174 (0,0)):=hbk
  rw [Lib.cell_of_heap this];rfl
 have hSD:(Builtin.unsafeSliceData_ #[22] 143 #[.slice (some ⟨g,0,none⟩) l.length cap]).run Tryz.prog w.drew= .ok (.pointer (some ⟨g,0,none⟩)) w.drew:=
  Lib.run_unsafeSliceData_row _ _ _ _ _ _ (by omega)
 have hUS:(Builtin.unsafeString_ #[143,3] 9 #[.pointer (some ⟨g,0,none⟩), .int .i64 l.length]).run Tryz.prog w.drew= .ok (.string ⟨l.toArray⟩) (w.drew.freeze ⟨g,0,none⟩ l.length):=by
  refine Lib.run_unsafeString_row w.drew 143 3 9 5 Tryz.underlying143 (by kernel_rfl) g cur.size (by have hg':w.drew.heap[g]? =some (.cells cur 5 (0,0)):=hg;simp [World.shape?,hg']) l h0 (by omega) (by unfold maxLen at hcm;omega) ?_
  intro j x hx
  have:=hown.cells (g:=g) rfl j (.int .u8 x.toNat) (by simp [Lib.byteCells,hx])
  exact this
 go_enter Tryz.func91,Tryz.ntmps91
 go_wp2
 go_region
 all_goals (go_wp2;go_ret;exact ⟨rfl,Lib.below_freeze (Below.drew (Below.refl B w)) (p:=⟨g,0,none⟩) hbg _⟩)
theorem rank_any (k m:Int) (s:ByteArray) (w:World) (hk:okC (k,s,m)=true):
  Calls Tryz.prog 194 #[.agg #[.int .i64 k, .string s, .int .i64 m]] w fun e w'=>e= .returned (.int .i64 (rkC (k,s,m)-1))∧Below w.heap.size w w':=by
 by_cases h9:k=9
 ·subst h9
  have hr:rkC (9,s,m)-1=0:=rfl
  rw [hr];clear hr hk
  go_enter Tryz.func194,Tryz.ntmps194
  go_wp2
  go_ret
  exact ⟨rfl,(Below.refl _ _).alloc (Nat.le_refl _) _⟩
 by_cases h8:k=8
 ·subst h8
  have hp:0<rankL s.data.toList:=by
   simp only [okC,cellB,wordB,Bool.and_eq_true] at hk;simpa using hk.1
  have hr:rkC (8,s,m)-1=rkI s.data.toList:=by
   rw [rkI,if_neg (by omega)];rfl
  rw [hr]
  have hb:=rkI_bd s.data.toList
  have HC:=Lib.hid (fun w'=>binaryRank_any s w')
  generalize rkI s.data.toList=q at HC hb
  clear hr hk hp
  go_enter Tryz.func194,Tryz.ntmps194
  go_wp2_with fail
  refine (HC.out _).mono ?_
  rintro e w1 ⟨rfl,rfl⟩
  go_wp2
  go_ret
  exact ⟨rfl,(Below.refl _ _).alloc (Nat.le_refl _) _⟩
 by_cases h7:k=7
 ·subst h7
  have hr:rkC (7,s,m)-1=6:=rfl
  rw [hr];clear hr hk
  go_enter Tryz.func194,Tryz.ntmps194
  go_wp2
  go_ret
  exact ⟨rfl,(Below.refl _ _).alloc (Nat.le_refl _) _⟩
 ·have hr:rkC (k,s,m)-1=7:=by simp [rkC,h9,h8,h7]
  rw [hr]
  have n9:(k==9)=false:=beq_eq_false_iff_ne.mpr h9
  have n8:(k==8)=false:=beq_eq_false_iff_ne.mpr h8
  have n7:(k==7)=false:=beq_eq_false_iff_ne.mpr h7
  clear hr hk h9 h8 h7
  go_enter Tryz.func194,Tryz.ntmps194
  go_wp2
  go_ret
  exact ⟨rfl,(Below.refl _ _).alloc (Nat.le_refl _) _⟩
def WrPost (w1:World) (b:Nat) (lv:Value) (T:List UInt8) (w:World) (e:Ending) (w':World):Prop:=e= .returned (.tuple #[])∧WrAt w1.heap.size b lv T w'∧Below w1.heap.size w1 w'∧KT w w'
structure Base (w1:World) (l:List Cl) (lv:Value) (S:Nat→Prop):Prop where
 row:RowC w1 lv l
 ok:l.all okC=true
 short:l.length≤60
 low: ∀b,S b→b<w1.heap.size
def ExprOK (w1:World) (l:List Cl) (lv:Value) (S:Nat→Prop) (b j:Nat):Prop:=
 ∀(N f t d:Nat) (x:Pt) (least:Int) (T:List UInt8) (w:World),TrS w1 (amL l) S [N] f t d→Tx l 1 f t [x]→t-f≤j→ -1≤least→least≤10→Below w1.heap.size w1 w→WrAt w1.heap.size b lv T w→T.length+200*(t-f)≤100000→
  Calls Tryz.prog 169 #[.pointer (some ⟨b,0,none⟩), .pointer (some ⟨N,0,none⟩), .int .i64 least] w (WrPost w1 b lv (T++parT (least+1) x) w)
def BareOK (w1:World) (l:List Cl) (lv:Value) (S:Nat→Prop) (b j:Nat):Prop:=
 ∀(N f t d:Nat) (x:Pt) (T:List UInt8) (w:World),TrS w1 (amL l) S [N] f t d→Tx l 1 f t [x]→t-f≤j→Below w1.heap.size w1 w→WrAt w1.heap.size b lv T w→T.length+200*(t-f)≤100010→
  Calls Tryz.prog 195 #[.pointer (some ⟨b,0,none⟩), .pointer (some ⟨N,0,none⟩)] w (WrPost w1 b lv (T++x.2) w)
theorem TrS.later {w1 w:World} {l:List Cl} {S:Nat→Prop} {N f t d:Nat} (h:TrS w1 (amL l) S [N] f t d) (hb:Below w1.heap.size w1 w): ∃v,w.cell? ⟨N,0,none⟩=some (.int .i64 (f:Int))∧w.cell? ⟨N,1,none⟩=some (.int .i64 (t:Int))∧w.cell? ⟨N,2,none⟩=some v:=by
 obtain ⟨m,e,v,qs,-,-,hN,-⟩:=h.inv
 have:=hN.keep hb
 exact ⟨v,this.cell 0,this.cell 1,this.cell 2⟩
theorem Base.at {w1 w:World} {l:List Cl} {lv:Value} {S:Nat→Prop} (h:Base w1 l lv S) (hb:Below w1.heap.size w1 w) {f:Nat} {c:Cl} (hc:l[f]? =some c):
  ∃b o cap,lv= .slice (some ⟨b,o,none⟩) l.length cap∧f<l.length∧w.cell? ⟨b,o+f*3,none⟩=some (.int .i64 c.1)∧w.cell? ⟨b,o+f*3+1,none⟩=some (.string c.2.1)∧w.cell? ⟨b,o+f*3+2,none⟩=some (.int .i64 c.2.2)∧okC c=true:=by
 obtain ⟨hl,he⟩:=List.getElem?_eq_some_iff.mp hc
 obtain ⟨ao,cap,rfl,-,-,h3⟩:=h.row
 obtain ⟨b,o,rfl,hbl,cc⟩:=h3.resolve_left (by rintro rfl;simp at hl)
 obtain ⟨c0,c1,c2⟩:=cc f hl
 rw [he] at c0 c1 c2
 exact ⟨b,o,cap,rfl,hl,(hb.cell (p:=⟨b,_,none⟩) hbl).trans c0,(hb.cell (p:=⟨b,_,none⟩) hbl).trans c1,(hb.cell (p:=⟨b,_,none⟩) hbl).trans c2,by rw [←he];exact okC_all h.ok f hl⟩
theorem WrAt.later {B b:Nat} {lv:Value} {T:List UInt8} {w w':World} (h:WrAt B b lv T w) (hb:Below w.heap.size w w'):WrAt B b lv T w':=by
 obtain ⟨p,v,hp,h1,h2,h3,h4⟩:=h
 have hlt:b<w.heap.size:=WrV.lt ⟨h1,h2,h3,h4⟩
 refine ⟨p,v,hp,h1,(hb.block b hlt).trans h2, ?_,h4⟩
 exact h3.kept (row:=none) ⟨hb.os,hb.tape,hb.output,hb.size,fun i hi _=>hb.block i hi⟩ (by cases hv:v.ownBlock with|none=>exact .inl rfl|some x=>exact .inr (by simp))
theorem expr_step {w1:World} {l:List Cl} {lv:Value} {S:Nat→Prop} {b j:Nat} (hB:Base w1 l lv S) (ih:BareOK w1 l lv S b j):ExprOK w1 l lv S b j:=by
 intro N f t d x least T w hT hX hj hl0 hl1 hb hw hlen
 obtain ⟨c,ks,hc,hks,rfl⟩:=hX.inv
 obtain ⟨v,n0,n1,n2⟩:=hT.later hb
 obtain ⟨lb,o,cap,rfl,hfl,c0,c1,c2,hok⟩:=hB.at hb hc
 have h60:=hB.short
 have hwl:=hw.list
 have HR:=Lib.hid (fun w'=>rank_any c.1 c.2.2 c.2.1 w' hok)
 have HIH:=Lib.hid (ih N f t d _ · · hT hX hj)
 have hle:=hT.exs.le
 have HB:=Lib.hid hb;have HW:=Lib.hid hw
 have hbd:0≤rkC c-1∧rkC c-1≤7:=by
  unfold rkC;have:=rankL_bd c.2.1.data.toList
  have hp:c.1=8→0<rankL c.2.1.data.toList:=by
   intro h8
   simp only [okC,cellB,wordB,h8,Bool.and_eq_true] at hok;simpa using hok.1
  repeat' split
  all_goals omega
 have HP:=Lib.hid (show parT (least+1) (rkC c,bareT c ks)=if rkC c-1<least then 40::(bareT c ks++[41]) else bareT c ks by
  unfold parT;simp only [show (rkC c<least+1)=(rkC c-1<least) by simp;omega])
 have hlb:=(hX.short hB.ok).1
 simp only [sumT] at hlb
 generalize bareT c ks=bt at HIH HP hlb
 rw [show ((c.1,c.2.1,c.2.2):Cl)=c from rfl] at HR
 generalize hrk:rkC c-1=rk at HR hbd HP
 generalize c.1=ck at c0 HR
 generalize c.2.1=cw at c1 HR
 generalize c.2.2=cm at c2 HR
 have HLT:=Lib.hid hw.lt
 clear hrk hok hc hks hT hX ih hb hw hB
 go_enter Tryz.func169,Tryz.ntmps169
 go_wp2_with fail
 go_region_with ((go_at_call 194;refine (HR.out _).mono ?_;rintro e w2 ⟨rfl,hb2⟩))
 all_goals
  have HB2:=Lib.hid (HB.out.drew.trans (hb2.mono HB.out.size))
  have HW2:=Lib.hid ((show WrAt w1.heap.size b _ T w.drew from HW.out).later hb2)
  have HK2:=Lib.hid (show KT w w2 from (show KT w w.drew from KT.refl w).trans (KT.below hb2));clear hb2
  by_cases hlt:rk<least
  ·have HP2:=Lib.hid (HP.out.trans (if_pos hlt))
   go_wp2_with fail
   refine (wByte_any _ b _ T 40 40 (by decide) _ HW2.out (by omega) HB2.out.size).mono ?_
   rintro e w3 ⟨rfl,h3,hb3,hk3⟩
   have H3:=Lib.hid h3;have HB3:=Lib.hid (HB2.out.trans hb3);have HK3:=Lib.hid (HK2.out.trans hk3);clear h3 hb3 hk3
   go_wp2_with fail
   refine (HIH.out _ _ HB3.out H3.out (by simp only [List.length_append,List.length_cons,List.length_nil];omega)).mono ?_
   rintro e w4 ⟨rfl,h4,hb4,hk4⟩
   have H4:=Lib.hid h4;have HB4:=Lib.hid hb4;have HK4:=Lib.hid (HK3.out.trans hk4);clear h4 hb4 hk4
   go_wp2_with fail
   refine (wByte_any _ b _ _ 41 41 (by decide) _ H4.out (by simp only [List.length_append,List.length_cons,List.length_nil];omega) HB4.out.size).mono ?_
   rintro e w5 ⟨rfl,h5,hb5,hk5⟩
   have H5:=Lib.hid h5;have HB5:=Lib.hid (HB4.out.trans hb5);have HK5:=Lib.hid (HK4.out.trans hk5);clear h5 hb5 hk5
   go_wp2
   go_end0
   refine ⟨rfl, ?_,HB5.out,HK5.out⟩
   rw [HP2.out];have:=H5.out;simpa using this
  ·have HP2:=Lib.hid (HP.out.trans (if_neg hlt))
   go_wp2_with fail
   refine (HIH.out _ _ HB2.out HW2.out (by omega)).mono ?_
   rintro e w4 ⟨rfl,h4,hb4,hk4⟩
   have H4:=Lib.hid h4;have HB4:=Lib.hid hb4;have HK4:=Lib.hid (HK2.out.trans hk4);clear h4 hb4 hk4
   go_wp2
   go_end0
   exact ⟨rfl,by rw [HP2.out];exact H4.out,HB4.out,HK4.out⟩
theorem joinT_bd {l:List Cl} (hok:l.all okC=true) {n f t:Nat} {xs:List Pt} (h:Tx l n f t xs):(joinT xs).length≤200*(t-f)∧f≤t:=by
 have h1:=h.short hok;have h2:=joinT_len xs;omega
theorem series_any {w1:World} {l:List Cl} {lv:Value} {S:Nat→Prop} {b j:Nat} (hB:Base w1 l lv S) (ih:ExprOK w1 l lv S b j) (op cl:ByteArray) (v:Value) (m f t e:Nat) (qs:List Nat) (ks:List Pt) (T:List UInt8) (w:World)
  (ho:w1.ownsRow 0 165 1 v m (ptrs qs)) (hT:TrS w1 (amL l) S qs f t e) (hX:Tx l m f t ks) (hj:t-f≤j) (hb:Below w1.heap.size w1 w) (hw:WrAt w1.heap.size b lv T w) (hlen:T.length+200*(t-f)+op.size+cl.size≤99900):
  Calls Tryz.prog 219 #[.pointer (some ⟨b,0,none⟩), .string op,v, .string cl] w (WrPost w1 b lv (T++op.data.toList++joinT ks++cl.data.toList) w):=by
 obtain ⟨ao,cap,rfl,h1,h2,h3⟩:=own_ptr ho
 have hm:qs.length=m:=own_len ho
 unfold maxLen at h2
 have hbd:=(joinT_bd hB.ok hX).1
 have hso:=size_list op;have hsc:=size_list cl
 have H3:=Lib.hid h3;have HT:=Lib.hid hT;have HX:=Lib.hid hX;have IH:=Lib.hid ih
 have HB:=Lib.hid hb;have HW:=Lib.hid hw
 clear h3 hT hX ih hb hw ho
 go_enter Tryz.func219,Tryz.ntmps219
 go_wp2_with fail
 refine (wString_any _ b _ T op _ HW.out (by omega) HB.out.size).mono ?_
 rintro e w3 ⟨rfl,h3,hb3,hk3⟩
 have W3:=Lib.hid h3;have HB3:=Lib.hid (HB.out.trans hb3);have HK3:=Lib.hid hk3;clear h3 hb3 hk3
 go_wp2_with fail
 go_loopw [17] (fun i wr=> ∃k g:Nat,k≤m∧i= .int .i64 (k:Int)∧Tx l k f g (ks.take k)∧WrAt w1.heap.size b lv (T++op.data.toList++joinT (ks.take k)) wr∧Below w1.heap.size w1 wr∧KT w wr) (fun i _=>m-(intOf i).toNat)
 case atStart=>exact ⟨0,f,Nat.zero_le _,rfl, .nil f,by have:=W3.out;simpa [joinT] using this,HB3.out,HK3.out⟩
 case round=>
  obtain ⟨k,g,hk,rfl,hXk,hWr,hBr,hKr⟩:=hrel
  have HKr:=Lib.hid hKr;clear hKr
  have HWr:=Lib.hid hWr;have HBr:=Lib.hid hBr
  have hjb:=joinT_bd hB.ok hXk
  by_cases hlt:k<m
  ·obtain ⟨g1,g2,x,x1,x2,x3,x4,-⟩:=HX.out.at k hlt
   obtain ⟨rfl,-⟩:=hXk.uniq x2
   obtain ⟨a1,a2,d0,d1,d2,t0,t1,t2,t3,-⟩:=HT.out.at k (by omega)
   have hg1:a1=g:=by
    obtain ⟨dx,hx⟩:=hXk.exs
    have:=t0.exs
    rw [List.length_take,Nat.min_eq_left (by omega)] at this
    exact (this.uniq hx).1
   subst hg1
   have ha2:a2=g2:=by
    obtain ⟨dx,hx⟩:=x3.exs
    exact (t1.exs.uniq hx).1
   subst ha2
   obtain ⟨blk,rfl,hbl,cc⟩:=H3.out.resolve_left (by rintro rfl;simp at hm;omega)
   have d1:wr.cell? ⟨blk,k,none⟩=_:=(HBr.out.cell (p:=⟨blk,k,none⟩) hbl).trans (cc k (by omega))
   have HN:=Lib.hid (joinT_next ks k x x1)
   have e3:=x3.exs;have e4:=x4.exs
   obtain ⟨_,e3⟩:=e3;obtain ⟨_,e4⟩:=e4
   have l3:=e3.le;have l4:=e4.le
   have hxs:=(x3.short hB.ok).1
   simp only [sumT] at hxs
   have HJ:=Lib.hid (IH.out _ a1 a2 _ x 0 · · t1 x3 (by omega) (by omega) (by omega))
   have HX2:=Lib.hid (x2.snoc x1 x3)
   have HPX:=Lib.hid (parT_bare (x:=x) (r:=0+1) (by have:=(x3.rk hB.ok x (by simp)).1;omega))
   clear cc x1 x2 x3 x4 t0 t1 t2 t3 hXk hWr hBr e3 e4
   by_cases hk0:k=0
   ·subst hk0
    go_wp2_with fail
    refine (HJ.out _ _ HBr.out HWr.out (by simp [joinT];omega)).mono ?_
    rintro e w5 ⟨rfl,h5,hb5,hk5⟩
    have W5:=Lib.hid h5;have HB5:=Lib.hid hb5;have HK5:=Lib.hid (HKr.out.trans hk5);clear h5 hb5 hk5
    go_wp2
    go_roundw
    case rel=>exact ⟨1,a2,by omega,by go_num,HX2.out,by rw [HN.out];have:=W5.out;rw [HPX.out] at this;simpa [joinT] using this,HB5.out,HK5.out⟩
    case measure=>simp [intOf];omega
   ·have hk1:(0:Int)<(k:Int):=by omega
    go_wp2_with fail
    refine (wString_any _ b _ _ ⟨#[44,32]⟩ _ HWr.out (by simp only [List.length_append];rw [show (⟨#[44,32]⟩:ByteArray).size=2 from rfl];omega) HBr.out.size).mono ?_
    rintro e w4 ⟨rfl,h4,hb4,hk4⟩
    have W4:=Lib.hid h4;have HB4:=Lib.hid (HBr.out.trans hb4);have HK4:=Lib.hid (HKr.out.trans hk4);clear h4 hb4 hk4
    go_wp2_with fail
    refine (HJ.out _ _ HB4.out W4.out (by simp only [List.length_append];rw [show (⟨#[44,32]⟩:ByteArray).data.toList.length=2 from rfl];omega)).mono ?_
    rintro e w5 ⟨rfl,h5,hb5,hk5⟩
    have W5:=Lib.hid h5;have HB5:=Lib.hid hb5;have HK5:=Lib.hid (HK4.out.trans hk5);clear h5 hb5 hk5
    go_wp2
    go_roundw
    case rel=>exact ⟨k+1,a2,by omega,by go_num,HX2.out,by rw [HN.out,if_neg hk0];have:=W5.out;rw [HPX.out] at this;simpa using this,HB5.out,HK5.out⟩
    case measure=>simp [intOf];omega
  ·obtain rfl:k=m:=by omega
   have HE:=Lib.hid (show ks.take k=ks by rw [List.take_of_length_le];rw [HX.out.len];exact Nat.le_refl _)
   have hgt:g=t:=by
    have h:=hXk;rw [HE.out] at h;exact (h.uniq HX.out).1
   go_wp2_with fail
   refine (wString_any _ b _ _ cl _ HWr.out (by simp only [List.length_append];omega) HBr.out.size).mono ?_
   rintro e w4 ⟨rfl,h4,hb4,hk4⟩
   have W4:=Lib.hid h4;have HB4:=Lib.hid (HBr.out.trans hb4);have HK4:=Lib.hid (HKr.out.trans hk4);clear h4 hb4 hk4
   go_wp2
   go_end0
   exact ⟨rfl,by have:=W4.out;rw [HE.out] at this;exact this,HB4.out,HK4.out⟩
structure PartAt (w1:World) (l:List Cl) (S:Nat→Prop) (q f t:Nat) (x:Pt):Prop where
 tree: ∃d,TrS w1 (amL l) S [q] f t d
 text:Tx l 1 f t [x]
theorem parts_at {w1:World} {l:List Cl} {S:Nat→Prop} {qs:List Nat} {m f t e:Nat} {ks:List Pt} (hT:TrS w1 (amL l) S qs f t e) (hX:Tx l m f t ks) (k:Nat) (hk:k<m) (hkq:k<qs.length):
  ∃g g' x,ks[k]? =some x∧PartAt w1 l S qs[k] g g' x∧Tx l k f g (ks.take k)∧Tx l (k+1) f g' (ks.take (k+1))∧f≤g∧g<g'∧g'≤t:=by
 obtain ⟨g1,g2,x,x1,x2,x3,x4,-⟩:=hX.at k hk
 obtain ⟨a1,a2,d0,d1,d2,t0,t1,t2,t3,-⟩:=hT.at k hkq
 obtain ⟨dx,hx⟩:=x2.exs
 have h0:=t0.exs
 rw [List.length_take,Nat.min_eq_left (by omega)] at h0
 obtain ⟨rfl,-⟩:=h0.uniq hx
 obtain ⟨dy,hy⟩:=x3.exs
 obtain ⟨rfl,-⟩:=t1.exs.uniq hy
 obtain ⟨dz,hz⟩:=x4.exs
 have l1:=hx.le;have l2:=hy.le;have l3:=hz.le
 exact ⟨_,_,x,x1,⟨⟨_,t1⟩,x3⟩,x2,x2.snoc x1 x3,by omega,by omega,by omega⟩
theorem ExprOK.part {w1:World} {l:List Cl} {lv:Value} {S:Nat→Prop} {b j:Nat} (h:ExprOK w1 l lv S b j) {q f t:Nat} {x:Pt} (hp:PartAt w1 l S q f t x) (least:Int) (T:List UInt8) (w:World) (hj:t-f≤j) (h0: -1≤least) (h1:least≤10) (hb:Below w1.heap.size w1 w) (hw:WrAt w1.heap.size b lv T w) (hlen:T.length+200*(t-f)≤100000):
  Calls Tryz.prog 169 #[.pointer (some ⟨b,0,none⟩), .pointer (some ⟨q,0,none⟩), .int .i64 least] w (WrPost w1 b lv (T++parT (least+1) x) w):=by
 obtain ⟨d,hd⟩:=hp.tree
 exact h q f t d x least T w hd hp.text hj h0 h1 hb hw hlen
theorem PartAt.len {w1:World} {l:List Cl} {lv:Value} {S:Nat→Prop} {q f t:Nat} {x:Pt} (hB:Base w1 l lv S) (hp:PartAt w1 l S q f t x):x.2.length+8≤200*(t-f)∧1≤x.1:=by
 have h1:=(hp.text.short hB.ok).1
 have h2:=(hp.text.rk hB.ok x (by simp)).1
 simp only [sumT] at h1;omega
def CpAt (w:World) (g:Nat) (k:Int) (s:ByteArray) (m:Int):Prop:=w.heap[g]? =some (.cells #[.int .i64 k, .string s, .int .i64 m] 110 (0,0))
theorem CpAt.keep {w w':World} {g:Nat} {k m:Int} {s:ByteArray} (h:CpAt w g k s m) (hk:KT w w'):CpAt w' g k s m:=hk g _ _ _ h (by decide) (by decide)
theorem CpAt.cells {w:World} {g:Nat} {k m:Int} {s:ByteArray} (h:CpAt w g k s m):w.cell? ⟨g,0,none⟩=some (.int .i64 k)∧w.cell? ⟨g,1,none⟩=some (.string s)∧w.cell? ⟨g,2,none⟩=some (.int .i64 m):=by
 refine ⟨?_, ?_, ?_⟩<;>(rw [Lib.cell_of_heap h];rfl)
theorem CpAt.new (w:World) (k:Int) (s:ByteArray) (m:Int):CpAt (w.alloc (.cells #[.int .i64 k, .string s, .int .i64 m] 110)) w.heap.size k s m:=heap_alloc_new w _
theorem spaced (s:ByteArray):((⟨#[32]⟩:ByteArray)++s++⟨#[32]⟩).data.toList=[32]++s.data.toList++[32]:=by simp
theorem wSpaced (B b:Nat) (lv:Value) (T:List UInt8) (s:ByteArray) (w:World) (h:WrAt B b lv T w) (hlen:T.length+s.size≤900000000) (hBw:B≤w.heap.size):
  Calls Tryz.prog 132 #[.pointer (some ⟨b,1,none⟩), .string ((⟨#[32]⟩:ByteArray)++s++⟨#[32]⟩)] w.drew fun e w'=>e= .returned (.tuple #[.int .i64 ((⟨#[32]⟩:ByteArray)++s++⟨#[32]⟩).size, .nilIface])∧WrAt B b lv (T++([32]++s.data.toList++[32])) w'∧Below B w w'∧KT w w':=by
 have hs:((⟨#[32]⟩:ByteArray)++s++⟨#[32]⟩).size=s.size+2:=by
  rw [←size_list,spaced,←size_list];simp
 refine (wString_any B b lv T _ w.drew h (by omega) hBw).mono ?_
 rintro e w' ⟨h1,h2,h3,h4⟩
 rw [spaced] at h2
 exact ⟨h1,h2,(Below.refl B w).drew.trans h3,(show KT w w.drew from KT.refl w).trans h4⟩
theorem first_rank (r:Int) (h:2≤r):(if r-1=3 then 4 else r-1)+1=leftR r:=by
 unfold leftR;repeat' split
 all_goals omega
theorem binary_any {w1:World} {l:List Cl} {lv:Value} {S:Nat→Prop} {b j:Nat} (hB:Base w1 l lv S) (ih:ExprOK w1 l lv S b j) (s:ByteArray) (v:Value) (f t e:Nat) (qs:List Nat) (ks:List Pt) (T:List UInt8) (w:World) (hok:okC (8,s,2)=true)
  (ho:w1.ownsRow 0 165 1 v 2 (ptrs qs)) (hT:TrS w1 (amL l) S qs f t e) (hX:Tx l 2 f t ks) (hj:t-f≤j) (hb:Below w1.heap.size w1 w) (hw:WrAt w1.heap.size b lv T w) (hlen:T.length+200*(t-f)≤99900):
  Calls Tryz.prog 220 #[.pointer (some ⟨b,0,none⟩), .agg #[.int .i64 8, .string s, .int .i64 2],v] w (WrPost w1 b lv (T++(parT (leftR (rankL s.data.toList)) (ptAt ks 0)++([32]++s.data.toList++[32])++parT (rankL s.data.toList+1) (ptAt ks 1))) w):=by
 obtain ⟨ao,cap,rfl,h1,h2,h3⟩:=own_ptr ho
 have hm:qs.length=2:=own_len ho
 unfold maxLen at h2
 obtain ⟨g0,g0',x0,y0,p0,-,z0,b0,b0',b0''⟩:=parts_at hT hX 0 (by omega) (by omega)
 obtain ⟨g1,g1',x1,y1,p1,z1,-,b1,b1',b1''⟩:=parts_at hT hX 1 (by omega) (by omega)
 obtain ⟨rfl,-⟩:=z0.uniq z1
 obtain ⟨blk,rfl,hbl,cc⟩:=h3.resolve_left (by rintro rfl;simp at hm)
 have c0:w1.cell? ⟨blk,0,none⟩=_:=cc 0 (by omega)
 have c1:w1.cell? ⟨blk,1,none⟩=_:=cc 1 (by omega)
 have s0:=p0.len hB;have s1:=p1.len hB
 have hws:s.size≤60:=by simp only [okC,cellB,Bool.and_eq_true] at hok;exact word_len _ _ hok.1
 have hr2:2≤rankL s.data.toList∧rankL s.data.toList≤6:=by
  refine rankL_in _ ?_
  simp only [okC,cellB,wordB,Bool.and_eq_true] at hok;simpa using hok.1
 have HR:=Lib.hid (fun w'=>rank_any 8 2 s w' hok)
 have hrk:rkC (8,s,2)-1=rankL s.data.toList-1:=rfl
 rw [hrk] at HR
 have e0:ptAt ks 0=x0:=by rw [ptAt,List.getD_eq_getElem?_getD,y0];rfl
 have e1:ptAt ks 1=x1:=by rw [ptAt,List.getD_eq_getElem?_getD,y1];rfl
 rw [e0,e1,hm]
 have HF:=Lib.hid (first_rank (rankL s.data.toList) hr2.1)
 generalize qs[0]=q0 at p0 c0
 generalize qs[1]=q1 at p1 c1
 have hsz:=size_list s
 generalize rankL s.data.toList=r at HR HF hr2
 have HP0:=Lib.hid p0;have HP1:=Lib.hid p1;have IH:=Lib.hid ih
 have HB:=Lib.hid hb;have HW:=Lib.hid hw
 have HC0:=Lib.hid c0;have HC1:=Lib.hid c1
 rw [hm] at h1
 clear h3 hT hX ih hb hw ho hrk e0 e1 y0 y1 z0 z1 p0 p1 cc hok c0 c1
 have d0:w.cell? ⟨blk,0,none⟩=some (.pointer (some ⟨q0,0,none⟩)):=(HB.out.cell (p:=⟨blk,0,none⟩) hbl).trans HC0.out
 go_enter Tryz.func220,Tryz.ntmps220
 have HCP:=Lib.hid (CpAt.new w 8 s 2)
 have HWA:=Lib.hid (HW.out.later ((Below.refl _ _).alloc (Nat.le_refl _) (.cells #[.int .i64 8, .string s, .int .i64 2] 110)))
 have HBA:=Lib.hid (HB.out.alloc HB.out.size (.cells #[.int .i64 8, .string s, .int .i64 2] 110))
 have HKA:=Lib.hid (KT.alloc w (.cells #[.int .i64 8, .string s, .int .i64 2] 110))
 go_wp2_with fail
 refine (HR.out _).mono ?_
 rintro e w2 ⟨rfl,hb2⟩
 have HCP2:=Lib.hid (HCP.out.keep (KT.below hb2))
 have HW2:=Lib.hid (HWA.out.later hb2);have HB2:=Lib.hid (HBA.out.trans (hb2.mono HBA.out.size));have HK2:=Lib.hid (HKA.out.trans (KT.below hb2));clear hb2
 have d2:w2.cell? ⟨blk,0,none⟩=some (.pointer (some ⟨q0,0,none⟩)):=(HB2.out.cell (p:=⟨blk,0,none⟩) hbl).trans HC0.out
 by_cases h3:r-1=3
 ·rw [if_pos h3] at HF
  obtain rfl:r=4:=by omega
  go_wp2_with fail
  refine (IH.out.part HP0.out 4 T w2 (by omega) (by omega) (by omega) HB2.out HW2.out (by omega)).mono ?_
  rintro e w3 ⟨rfl,h3,hb3,hk3⟩
  rw [HF.out] at h3
  have W3:=Lib.hid h3;have HB3:=Lib.hid hb3;have HK3:=Lib.hid (HK2.out.trans hk3);have HCP3:=Lib.hid (HCP2.out.keep hk3);clear h3 hb3 hk3
  obtain ⟨k0,k1,k2⟩:=HCP3.out.cells
  have HLL:=Lib.hid (show (T++parT (leftR 4) x0).length+s.size≤900000000 by have:=parT_len (leftR 4) x0;simp only [List.length_append];omega)
  have HL2:=Lib.hid (show ((T++parT (leftR 4) x0)++([32]++s.data.toList++[32])).length+200*(g1'-g0')≤100000 by have:=parT_len (leftR 4) x0;simp only [List.length_append,List.length_cons,List.length_nil];omega)
  go_wp2_with fail
  go_region_with ((go_at_call 132;refine (wSpaced _ b _ _ s w3 W3.out HLL.out HB3.out.size).mono ?_;rintro e w4 ⟨rfl,h4,hb4,hk4⟩))
  all_goals
   have W4:=Lib.hid h4;have HB4:=Lib.hid (HB3.out.trans hb4);have HK4:=Lib.hid (HK3.out.trans hk4);clear h4 hb4 hk4
   have d4:w4.cell? ⟨blk,1,none⟩=some (.pointer (some ⟨q1,0,none⟩)):=(HB4.out.cell (p:=⟨blk,1,none⟩) hbl).trans HC1.out
   go_wp2_with fail
   refine (IH.out.part HP1.out 4 _ w4 (by omega) (by omega) (by omega) HB4.out W4.out HL2.out).mono ?_
   rintro e w5 ⟨rfl,h5,hb5,hk5⟩
   have W5:=Lib.hid h5;have HB5:=Lib.hid hb5;have HK5:=Lib.hid (HK4.out.trans hk5);clear h5 hb5 hk5
   go_wp2
   go_end0
   exact ⟨rfl,by have:=W5.out;simpa using this,HB5.out,HK5.out⟩
 ·rw [if_neg h3] at HF
  have h3':(r-1==3)=false:=beq_eq_false_iff_ne.mpr h3
  go_wp2_with fail
  refine (IH.out.part HP0.out (r-1) T w2 (by omega) (by omega) (by omega) HB2.out HW2.out (by omega)).mono ?_
  rintro e w3 ⟨rfl,h3,hb3,hk3⟩
  rw [HF.out] at h3
  have W3:=Lib.hid h3;have HB3:=Lib.hid hb3;have HK3:=Lib.hid (HK2.out.trans hk3);have HCP3:=Lib.hid (HCP2.out.keep hk3);clear h3 hb3 hk3
  obtain ⟨k0,k1,k2⟩:=HCP3.out.cells
  have HLL:=Lib.hid (show (T++parT (leftR r) x0).length+s.size≤900000000 by have:=parT_len (leftR r) x0;simp only [List.length_append];omega)
  have HL2:=Lib.hid (show ((T++parT (leftR r) x0)++([32]++s.data.toList++[32])).length+200*(g1'-g0')≤100000 by have:=parT_len (leftR r) x0;simp only [List.length_append,List.length_cons,List.length_nil];omega)
  go_wp2_with fail
  go_region_with ((go_at_call 132;refine (wSpaced _ b _ _ s w3 W3.out HLL.out HB3.out.size).mono ?_;rintro e w4 ⟨rfl,h4,hb4,hk4⟩))
  all_goals
   have W4:=Lib.hid h4;have HB4:=Lib.hid (HB3.out.trans hb4);have HK4:=Lib.hid (HK3.out.trans hk4);clear h4 hb4 hk4
   have d4:w4.cell? ⟨blk,1,none⟩=some (.pointer (some ⟨q1,0,none⟩)):=(HB4.out.cell (p:=⟨blk,1,none⟩) hbl).trans HC1.out
   go_wp2_with fail
   refine (IH.out.part HP1.out r _ w4 (by omega) (by omega) (by omega) HB4.out W4.out HL2.out).mono ?_
   rintro e w5 ⟨rfl,h5,hb5,hk5⟩
   have W5:=Lib.hid h5;have HB5:=Lib.hid hb5;have HK5:=Lib.hid (HK4.out.trans hk5);clear h5 hb5 hk5
   go_wp2
   go_end0
   exact ⟨rfl,by have:=W5.out;simpa using this,HB5.out,HK5.out⟩
theorem choice_any {w1:World} {l:List Cl} {lv:Value} {S:Nat→Prop} {b j:Nat} (hB:Base w1 l lv S) (ih:ExprOK w1 l lv S b j) (v:Value) (f t e:Nat) (qs:List Nat) (ks:List Pt) (T:List UInt8) (w:World)
  (ho:w1.ownsRow 0 165 1 v 3 (ptrs qs)) (hT:TrS w1 (amL l) S qs f t e) (hX:Tx l 3 f t ks) (hj:t-f≤j) (hb:Below w1.heap.size w1 w) (hw:WrAt w1.heap.size b lv T w) (hlen:T.length+200*(t-f)≤99900):
  Calls Tryz.prog 221 #[.pointer (some ⟨b,0,none⟩),v] w (WrPost w1 b lv (T++(parT 2 (ptAt ks 0)++[32,63,32]++(ptAt ks 1).2++[32,58,32]++(ptAt ks 2).2)) w):=by
 obtain ⟨ao,cap,rfl,h1,h2,h3⟩:=own_ptr ho
 have hm:qs.length=3:=own_len ho
 unfold maxLen at h2
 obtain ⟨g0,g0',x0,y0,p0,-,z0,b0,b0',b0''⟩:=parts_at hT hX 0 (by omega) (by omega)
 obtain ⟨g1,g1',x1,y1,p1,z1,z1',b1,b1',b1''⟩:=parts_at hT hX 1 (by omega) (by omega)
 obtain ⟨rfl,-⟩:=z0.uniq z1
 obtain ⟨g2,g2',x2,y2,p2,z2,-,b2,b2',b2''⟩:=parts_at hT hX 2 (by omega) (by omega)
 obtain ⟨rfl,-⟩:=z1'.uniq z2
 obtain ⟨blk,rfl,hbl,cc⟩:=h3.resolve_left (by rintro rfl;simp at hm)
 have c0:w1.cell? ⟨blk,0,none⟩=_:=cc 0 (by omega)
 have c1:w1.cell? ⟨blk,1,none⟩=_:=cc 1 (by omega)
 have c2:w1.cell? ⟨blk,2,none⟩=_:=cc 2 (by omega)
 have s0:=p0.len hB;have s1:=p1.len hB;have s2:=p2.len hB
 have e0:ptAt ks 0=x0:=by rw [ptAt,List.getD_eq_getElem?_getD,y0];rfl
 have e1:ptAt ks 1=x1:=by rw [ptAt,List.getD_eq_getElem?_getD,y1];rfl
 have e2:ptAt ks 2=x2:=by rw [ptAt,List.getD_eq_getElem?_getD,y2];rfl
 rw [e0,e1,e2,hm]
 generalize qs[0]=q0 at p0 c0
 generalize qs[1]=q1 at p1 c1
 generalize qs[2]=q2 at p2 c2
 have PB1:=Lib.hid (parT_bare (x:=x1) (r:=0+1) (by omega));have PB2:=Lib.hid (parT_bare (x:=x2) (r:=0+1) (by omega))
 have HP0:=Lib.hid p0;have HP1:=Lib.hid p1;have HP2:=Lib.hid p2;have IH:=Lib.hid ih
 have HB:=Lib.hid hb;have HW:=Lib.hid hw
 have HC1:=Lib.hid c1;have HC2:=Lib.hid c2
 have d0:w.cell? ⟨blk,0,none⟩=some (.pointer (some ⟨q0,0,none⟩)):=(HB.out.cell (p:=⟨blk,0,none⟩) hbl).trans c0
 rw [hm] at h1
 have pl0:=parT_len (1+1) x0
 clear h3 hT hX ih hb hw ho e0 e1 e2 y0 y1 y2 z0 z1 z1' z2 p0 p1 p2 cc c0 c1 c2
 go_enter Tryz.func221,Tryz.ntmps221
 go_wp2_with fail
 refine (IH.out.part HP0.out 1 T w (by omega) (by omega) (by omega) HB.out HW.out (by omega)).mono ?_
 rintro e w3 ⟨rfl,h3,hb3,hk3⟩
 have W3:=Lib.hid h3;have HB3:=Lib.hid hb3;have HK3:=Lib.hid hk3;clear h3 hb3 hk3
 go_wp2_with fail
 refine (wString_any _ b _ _ ⟨#[32,63,32]⟩ _ W3.out (by rw [show (⟨#[32,63,32]⟩:ByteArray).size=3 from rfl];simp only [List.length_append];omega) HB3.out.size).mono ?_
 rintro e w4 ⟨rfl,h4,hb4,hk4⟩
 have W4:=Lib.hid h4;have HB4:=Lib.hid (HB3.out.trans hb4);have HK4:=Lib.hid (HK3.out.trans hk4);clear h4 hb4 hk4
 have d4:w4.cell? ⟨blk,1,none⟩=some (.pointer (some ⟨q1,0,none⟩)):=(HB4.out.cell (p:=⟨blk,1,none⟩) hbl).trans HC1.out
 go_wp2_with fail
 refine (IH.out.part HP1.out 0 _ w4 (by omega) (by omega) (by omega) HB4.out W4.out (by simp only [List.length_append,List.length_cons,List.length_nil];omega)).mono ?_
 rintro e w5 ⟨rfl,h5,hb5,hk5⟩
 rw [PB1.out] at h5
 have W5:=Lib.hid h5;have HB5:=Lib.hid hb5;have HK5:=Lib.hid (HK4.out.trans hk5);clear h5 hb5 hk5
 go_wp2_with fail
 refine (wString_any _ b _ _ ⟨#[32,58,32]⟩ _ W5.out (by rw [show (⟨#[32,58,32]⟩:ByteArray).size=3 from rfl];simp only [List.length_append,List.length_cons,List.length_nil];omega) HB5.out.size).mono ?_
 rintro e w6 ⟨rfl,h6,hb6,hk6⟩
 have W6:=Lib.hid h6;have HB6:=Lib.hid (HB5.out.trans hb6);have HK6:=Lib.hid (HK5.out.trans hk6);clear h6 hb6 hk6
 have d6:w6.cell? ⟨blk,2,none⟩=some (.pointer (some ⟨q2,0,none⟩)):=(HB6.out.cell (p:=⟨blk,2,none⟩) hbl).trans HC2.out
 go_wp2_with fail
 refine (IH.out.part HP2.out 0 _ w6 (by omega) (by omega) (by omega) HB6.out W6.out (by simp only [List.length_append,List.length_cons,List.length_nil];omega)).mono ?_
 rintro e w7 ⟨rfl,h7,hb7,hk7⟩
 rw [PB2.out] at h7
 have W7:=Lib.hid h7;have HB7:=Lib.hid hb7;have HK7:=Lib.hid (HK6.out.trans hk7);clear h7 hb7 hk7
 go_wp2
 go_end0
 exact ⟨rfl,by have:=W7.out;simpa using this,HB7.out,HK7.out⟩
structure NodeIn (w1 w:World) (l:List Cl) (lv:Value) (S:Nat→Prop) (N f t:Nat) (c:Cl) (ks:List Pt) (v:Value) (qs:List Nat):Prop where
 own:w1.ownsRow 0 165 1 v c.2.2.toNat (ptrs qs)
 tree: ∃d,TrS w1 (amL l) S qs (f+1) t d
 text:Tx l c.2.2.toNat (f+1) t ks
 le:f+1≤t∧t≤60
 ok:okC c=true
 low:N<w1.heap.size
 parts:w1.cell? ⟨N,2,none⟩=some v
theorem nodeIn {w1 w:World} {l:List Cl} {lv:Value} {S:Nat→Prop} {N f t d:Nat} {x:Pt} (hB:Base w1 l lv S) (hT:TrS w1 (amL l) S [N] f t d) (hX:Tx l 1 f t [x]) (hb:Below w1.heap.size w1 w):
  ∃c ks v qs lb o cap,x=(rkC c,bareT c ks)∧lv= .slice (some ⟨lb,o,none⟩) l.length cap∧f<l.length∧NodeIn w1 w l lv S N f t c ks v qs∧
   w.cell? ⟨N,0,none⟩=some (.int .i64 (f:Int))∧w.cell? ⟨N,2,none⟩=some v∧
   w.cell? ⟨lb,o+f*3,none⟩=some (.int .i64 c.1)∧w.cell? ⟨lb,o+f*3+1,none⟩=some (.string c.2.1)∧w.cell? ⟨lb,o+f*3+2,none⟩=some (.int .i64 c.2.2):=by
 obtain ⟨c,ks,hc,hks,rfl⟩:=hX.inv
 obtain ⟨m,e,v,qs,hm,hS,hN,ho,hr,ht,-⟩:=hT.inv
 obtain ⟨lb,o,cap,rfl,hfl,c0,c1,c2,hok⟩:=hB.at hb hc
 have hm':=amL_some hc
 rw [hm] at hm';injection hm' with hm';subst hm'
 have hn:=hN.keep hb
 obtain ⟨_,hx⟩:=hks.exs
 have hle:=hx.le
 have hle2:=hT.exs.le.2 (by simp)
 rw [amL_length] at hle2
 have:=hB.short
 exact ⟨c,ks,v,qs,lb,o,cap,rfl,rfl,hfl,⟨ho,⟨e,ht⟩,hks,⟨by omega,by omega⟩,hok,hN.lt,hN.cell 2⟩,hn.cell 0,hn.cell 2,c0,c1,c2⟩
theorem bare_step {w1:World} {l:List Cl} {lv:Value} {S:Nat→Prop} {b j:Nat} (hB:Base w1 l lv S) (ih:ExprOK w1 l lv S b j):BareOK w1 l lv S b (j+1):=by
 intro N f t d x T w hT hX hj hb hw hlen
 obtain ⟨⟨k,s,m⟩,ks,v,qs,lb,o,cap,rfl,rfl,hfl,hN,n0,n2,c0,c1,c2⟩:=nodeIn hB hT hX hb
 have h60:=hB.short
 have hwl:=hw.list
 have hle:=hN.le
 have HIH:=Lib.hid ih;have HB:=Lib.hid hb;have HW:=Lib.hid hw;have HN:=Lib.hid hN;have HBB:=Lib.hid hB
 simp only at c0 c1 c2
 have ln:=(cell_low n0).2;have ll:=(cell_low c0).2;have lb':=HW.out.lt.2
 simp only at ln ll
 have e1: ¬N=w.heap.size:=by omega
 have e2: ¬lb=w.heap.size:=by omega
 have e3: ¬b=w.heap.size:=by omega
 clear hT hX ih hb hw hN hB
 go_enter Tryz.func195,Tryz.ntmps195
 go_upto_region 0 with fail
 go_cut [4] (fun x wx=>x= .pointer (some ⟨w.heap.size,0,none⟩)∧wx=(w.alloc (.cells #[.int .i64 k, .string s, .int .i64 m] 110)).drew)
 case first=>
  go_region
  all_goals (go_wp2_with fail;go_meet;exact ⟨rfl,rfl⟩)
 case rest=>
  obtain ⟨rfl,hwc⟩:=hcut
  have HCP:=Lib.hid (show CpAt wc w.heap.size k s m by rw [hwc];exact CpAt.new w k s m)
  have hbA:Below w.heap.size w wc:=by rw [hwc];exact ((Below.refl _ _).alloc (Nat.le_refl _) _).drew
  have HWA:=Lib.hid (HW.out.later hbA)
  have HBA:=Lib.hid (HB.out.trans (hbA.mono HB.out.size))
  have HKA:=Lib.hid (KT.below hbA)
  have g2:wc.cell? ⟨N,2,none⟩=some v:=(hbA.cell (p:=⟨N,2,none⟩) ln).trans n2
  clear hwc hbA n0 n2 c0 c1 c2 hwl ln ll lb' e1 e2 e3
  generalize w.heap.size=CG at HCP
  obtain ⟨k0,k1,k2⟩:=HCP.out.cells
  have hks:=HN.out.ok
  have hwl:s.size≤60:=by simp only [okC,cellB,Bool.and_eq_true] at hks;exact word_len _ _ hks.1
  have hsl:=size_list s
  by_cases h2:k=2
  ·subst h2
   have HT:=Lib.hid (show textB s=true by simp only [okC,cellB,wordB,Bool.and_eq_true] at hks;have:=hks.1;simp at this;exact this.1)
   have HE:=Lib.hid (show bareT (2,s,m) ks=quoteL s.data.toList from rfl)
   clear hks
   have HQ:=Lib.hid (show (quoteT s).data.toList=quoteL s.data.toList by rw [quoteT,if_pos HT.out])
   have hql:(quoteT s).size≤122:=by
    rw [←size_list,HQ.out]
    have:=(quoteI_len s.data.toList).2
    simp only [quoteL,List.length_cons,List.length_append,List.length_nil];omega
   go_wp2_with fail
   go_region_with (first
    |(go_at_call 218;refine (quoteText_impl s _ (by unfold maxLen;omega)).mono ?_;rintro e wq ⟨rfl,hbq⟩;have HWQ:=Lib.hid ((show WrAt _ b _ T wc.drew from HWA.out).later hbq);have HBQ:=Lib.hid (HBA.out.drew.trans (hbq.mono HBA.out.size));have HKQ:=Lib.hid ((HKA.out.trans (show KT wc wc.drew from KT.refl wc)).trans (KT.below hbq));clear hbq)
    |(go_at_call 132;refine (wString_any _ b _ _ _ _ HWQ.out (by omega) HBQ.out.size).mono ?_;rintro e w4 ⟨rfl,h4,hb4,hk4⟩))
   all_goals
    have W4:=Lib.hid h4;have HB4:=Lib.hid (HBQ.out.trans hb4);have HK4:=Lib.hid (HKQ.out.trans hk4);clear h4 hb4 hk4
    go_wp2
    go_end0
    exact ⟨rfl,by have:=W4.out;rw [HQ.out] at this;exact this,HB4.out,HK4.out⟩
  by_cases h5:k=5
  ·subst h5
   have HE:=Lib.hid (show bareT (5,s,m) ks=91::(joinT ks++[93]) from rfl)
   clear hks h2
   obtain ⟨e0,ht⟩:=HN.out.tree
   have HTT:=Lib.hid ht;clear ht
   go_wp2_with fail
   refine (series_any HBB.out HIH.out ⟨#[91]⟩ ⟨#[93]⟩ v _ (f+1) t e0 qs ks T wc HN.out.own HTT.out HN.out.text (by omega) HBA.out HWA.out (by rw [show (⟨#[91]⟩:ByteArray).size=1 from rfl,show (⟨#[93]⟩:ByteArray).size=1 from rfl];omega)).mono ?_
   rintro e w4 ⟨rfl,h4,hb4,hk4⟩
   have W4:=Lib.hid h4;have HB4:=Lib.hid hb4;have HK4:=Lib.hid (HKA.out.trans hk4);clear h4 hb4 hk4
   go_wp2
   go_end0
   exact ⟨rfl,by have:=W4.out;rw [HE.out];simpa using this,HB4.out,HK4.out⟩
  by_cases h6:k=6
  ·subst h6
   have HE:=Lib.hid (show bareT (6,s,m) ks=s.data.toList++(40::(joinT ks++[41])) from rfl)
   clear hks h2 h5
   obtain ⟨e0,ht⟩:=HN.out.tree
   have HTT:=Lib.hid ht;clear ht
   have HOP:=Lib.hid (show (s++(⟨#[40]⟩:ByteArray)).data.toList=s.data.toList++[40] by simp)
   have hos:(s++(⟨#[40]⟩:ByteArray)).size=s.size+1:=by rw [←size_list,HOP.out,List.length_append,hsl];rfl
   go_wp2_with fail
   go_region_with ((go_at_call 219;refine (series_any HBB.out HIH.out (s++⟨#[40]⟩) ⟨#[41]⟩ v _ (f+1) t e0 qs ks T wc.drew HN.out.own HTT.out HN.out.text (by omega) HBA.out.drew HWA.out (by rw [hos,show (⟨#[41]⟩:ByteArray).size=1 from rfl];omega)).mono ?_;rintro e w4 ⟨rfl,h4,hb4,hk4⟩))
   all_goals
    have W4:=Lib.hid h4;have HB4:=Lib.hid hb4;have HK4:=Lib.hid ((HKA.out.trans (show KT wc wc.drew from KT.refl wc)).trans hk4);clear h4 hb4 hk4
    go_wp2
    go_end0
    exact ⟨rfl,by have:=W4.out;rw [HE.out];simpa using this,HB4.out,HK4.out⟩
  by_cases h7:k=7
  ·subst h7
   have HE:=Lib.hid (show bareT (7,s,m) ks=s.data.toList++parT 7 (ptAt ks 0) from rfl)
   clear hks h2 h5 h6
   have hm1:m.toNat=1:=by
    have:=HN.out.ok
    simp only [okC,cellB,manyB,Bool.and_eq_true] at this
    have:=this.2
    simp at this;omega
   obtain ⟨e0,ht⟩:=HN.out.tree
   have hq1:qs.length=1:=(own_len HN.out.own).trans hm1
   obtain ⟨g0,g0',x0,y0,p0,-,-,b0,b0',b0''⟩:=parts_at ht HN.out.text 0 (by show 0<m.toNat;omega) (by omega)
   have hx0:ptAt ks 0=x0:=by rw [ptAt,List.getD_eq_getElem?_getD,y0];rfl
   obtain ⟨ao,cap',rfl,p1,p2,p3⟩:=own_ptr HN.out.own
   obtain ⟨blk,rfl,hbl,cc⟩:=p3.resolve_left (by rintro rfl;simp at hq1)
   have c0:w1.cell? ⟨blk,0,none⟩=_:=cc 0 (by omega)
   generalize qs[0]=q0 at p0 c0
   have HC0:=Lib.hid c0;have HP0:=Lib.hid p0
   have pl0:=parT_len 7 x0
   rw [hx0] at HE
   rw [hq1] at p1 g2
   unfold maxLen at p2
   have HG2:=Lib.hid (show w1.cell? ⟨N,2,none⟩=some (.slice (some ⟨blk,0,none⟩) 1 cap') by rw [HN.out.parts,hq1])
   have hnl:=HN.out.low
   clear cc p0 c0 y0 ht p3 hx0 g2
   go_wp2_with fail
   go_region_with ((go_at_call 132;refine (wString_any _ b _ T s _ (show WrAt _ b _ T wc.drew from HWA.out) (by omega) HBA.out.drew.size).mono ?_;rintro e w4 ⟨rfl,h4,hb4,hk4⟩))
   all_goals
    have W4:=Lib.hid h4;have HB4:=Lib.hid (HBA.out.drew.trans hb4);have HK4:=Lib.hid ((HKA.out.trans (show KT wc wc.drew from KT.refl wc)).trans hk4);clear h4 hb4 hk4
    have d2:w4.cell? ⟨N,2,none⟩=_:=(HB4.out.cell (p:=⟨N,2,none⟩) hnl).trans HG2.out
    have d4:w4.cell? ⟨blk,0,none⟩=some (.pointer (some ⟨q0,0,none⟩)):=(HB4.out.cell (p:=⟨blk,0,none⟩) hbl).trans HC0.out
    go_wp2_with fail
    refine (HIH.out.part HP0.out 6 _ w4 (by omega) (by omega) (by omega) HB4.out W4.out (by simp only [List.length_append];omega)).mono ?_
    rintro e w5 ⟨rfl,h5,hb5,hk5⟩
    have W5:=Lib.hid h5;have HB5:=Lib.hid hb5;have HK5:=Lib.hid (HK4.out.trans hk5);clear h5 hb5 hk5
    go_wp2
    go_end0
    exact ⟨rfl,by have:=W5.out;rw [HE.out];simpa using this,HB5.out,HK5.out⟩
  by_cases h8:k=8
  ·subst h8
   clear hks h2 h5 h6 h7
   obtain ⟨e0,ht⟩:=HN.out.tree
   have HTT:=Lib.hid ht;clear ht
   have hm2:m=2:=by
    have:=HN.out.ok
    simp only [okC,cellB,manyB,Bool.and_eq_true] at this
    simpa using this.2
   subst hm2
   go_wp2_with fail
   go_region_with ((go_at_call 220;refine (binary_any HBB.out HIH.out s v (f+1) t e0 qs ks T wc.drew HN.out.ok HN.out.own HTT.out HN.out.text (by omega) HBA.out.drew HWA.out (by omega)).mono ?_;rintro e w4 ⟨rfl,h4,hb4,hk4⟩))
   all_goals
    have W4:=Lib.hid h4;have HB4:=Lib.hid hb4;have HK4:=Lib.hid ((HKA.out.trans (show KT wc wc.drew from KT.refl wc)).trans hk4);clear h4 hb4 hk4
    go_wp2
    go_end0
    exact ⟨rfl,W4.out,HB4.out,HK4.out⟩
  by_cases h9:k=9
  ·subst h9
   clear hks h2 h5 h6 h7 h8
   obtain ⟨e0,ht⟩:=HN.out.tree
   have HTT:=Lib.hid ht;clear ht
   have hm3:m=3:=by
    have:=HN.out.ok
    simp only [okC,cellB,manyB,Bool.and_eq_true] at this
    simpa using this.2
   subst hm3
   go_wp2_with fail
   refine (choice_any HBB.out HIH.out v (f+1) t e0 qs ks T wc HN.out.own HTT.out HN.out.text (by omega) HBA.out HWA.out (by omega)).mono ?_
   rintro e w4 ⟨rfl,h4,hb4,hk4⟩
   have W4:=Lib.hid h4;have HB4:=Lib.hid hb4;have HK4:=Lib.hid (HKA.out.trans hk4);clear h4 hb4 hk4
   go_wp2
   go_end0
   exact ⟨rfl,W4.out,HB4.out,HK4.out⟩
  have HE:=Lib.hid (show bareT (k,s,m) ks=s.data.toList by simp [bareT,h2,h5,h6,h7,h8,h9])
  have q2:(k==2)=false:=beq_eq_false_iff_ne.mpr h2
  have q5:(k==5)=false:=beq_eq_false_iff_ne.mpr h5
  have q6:(k==6)=false:=beq_eq_false_iff_ne.mpr h6
  have q7:(k==7)=false:=beq_eq_false_iff_ne.mpr h7
  have q8:(k==8)=false:=beq_eq_false_iff_ne.mpr h8
  have q9:(k==9)=false:=beq_eq_false_iff_ne.mpr h9
  clear hks h2 h5 h6 h7 h8 h9
  go_wp2_with fail
  go_region_with ((go_at_call 132;refine (wString_any _ b _ T s _ (show WrAt _ b _ T wc.drew from HWA.out) (by omega) HBA.out.drew.size).mono ?_;rintro e w4 ⟨rfl,h4,hb4,hk4⟩))
  all_goals
   have W4:=Lib.hid h4;have HB4:=Lib.hid (HBA.out.drew.trans hb4);have HK4:=Lib.hid ((HKA.out.trans (show KT wc wc.drew from KT.refl wc)).trans hk4);clear h4 hb4 hk4
   go_wp2
   go_end0
   exact ⟨rfl,by have:=W4.out;rw [HE.out];exact this,HB4.out,HK4.out⟩
theorem expr_all {w1:World} {l:List Cl} {lv:Value} {S:Nat→Prop} {b:Nat} (hB:Base w1 l lv S): ∀j,ExprOK w1 l lv S b j:=by
 intro j
 induction j with
 |zero=>
  intro N f t d x least T w hT hX hj
  have:=hT.exs.le
  simp at this;omega
 |succ j ih=>exact expr_step hB (bare_step hB ih)
theorem wordB_ne {k m:Int} {s:ByteArray} (h:okC (k,s,m)=true) (h5:k≠5) (h9:k≠9) (h2:k≠2):s.data.toList≠[]:=by
 intro hs
 obtain rfl:s=⟨#[]⟩:=ba_eq (by rw [hs])
 simp only [okC,cellB,Bool.and_eq_true] at h
 have h:=h.1
 unfold wordB at h
 repeat' split at h
 all_goals first
  |exact h5 ‹_›
  |exact h9 ‹_›
  |exact h2 ‹_›
  |(revert h;decide)
theorem bareT_ne {c:Cl} (h:okC c=true) (ks:List Pt):bareT c ks≠[]:=by
 obtain ⟨k,s,m⟩:=c
 have hw:=wordB_ne h
 unfold bareT
 repeat' split
 all_goals first
  |(simp [quoteL];done)
  |(simp;done)
  |(simp_all;done)
theorem textE_ne {l:List Cl} (hok:okE l=true):textE l≠[]:=by
 obtain ⟨x,h⟩:=okE_tx hok
 rw [textE_of hok h]
 obtain ⟨c,ks,hc,-,rfl⟩:=h.inv
 obtain ⟨hl,he⟩:=List.getElem?_eq_some_iff.mp hc
 exact bareT_ne (by rw [←he];exact okC_all ((okE_iff l).mp hok).2.1 _ hl) ks
theorem exprText_impl (v:Value) (l:List Cl) (w:World) (hr:RowC w v l) (hz:SizedC l) (htab:Tab w):
  Calls Tryz.prog 133 #[v] w fun e w'=>e= .returned (.string ⟨(textE l).toArray⟩)∧Below w.heap.size w w':=by
 have HC:=Lib.hid (exprTree_any v l w hr hz htab)
 have HR:=Lib.hid hr
 obtain ⟨ao,cap,rfl,h1,h2,h3⟩:=hr
 unfold maxLen at h2
 clear h3 hz
 go_enter Tryz.func133,Tryz.ntmps133
 go_wp2_with fail
 refine HC.out.mono ?_
 rintro e w1 ⟨hb1,⟨N,d,rfl,hok,hd,ht⟩|⟨rfl,hno⟩⟩
 ·have HB:=Lib.hid hb1;have HT:=Lib.hid ht
  obtain ⟨x,hx⟩:=okE_tx hok
  have hoi:=(okE_iff l).mp hok
  have HE:=Lib.hid (textE_of hok hx);have HNE:=Lib.hid (textE_ne hok)
  have HBS:=Lib.hid (show Base w1 l _ (fun b=>w.heap.size≤b∧b<w1.heap.size) from ⟨HR.out.mono hb1,hoi.2.1,hoi.1,fun b h=>h.2⟩)
  have HX:=Lib.hid hx
  have hlx:=(hx.short hoi.2.1).1
  have hl60:=hoi.1
  have PB:=Lib.hid (parT_bare (x:=x) (r:=0+1) (by have:=(hx.rk hoi.2.1 x (by simp)).1;omega))
  clear hb1 hok ht hx hoi
  have HN:=Lib.hid (WrAt.new w1 (.slice ao l.length cap))
  have HBN:=Lib.hid ((Below.refl w1.heap.size w1).alloc (Nat.le_refl _) (.cells #[.slice ao l.length cap, .pointer none, .slice none 0 0] 174))
  go_wp2_with fail
  refine (expr_all (b:=w1.heap.size) HBS.out l.length N 0 l.length d x 0 [] _ HT.out HX.out (by omega) (by omega) (by omega) HBN.out HN.out (by simp;omega)).mono ?_
  rintro e w2 ⟨rfl,h4,hb4,hk4⟩
  rw [PB.out,List.nil_append,←HE.out] at h4
  have W4:=Lib.hid h4;have HB4:=Lib.hid hb4;clear h4 hb4 hk4
  go_wp2_with fail
  refine (wText_any _ w1.heap.size _ _ _ W4.out HNE.out).mono ?_
  rintro e w3 ⟨rfl,hb5⟩
  have HB5:=Lib.hid (HB.out.trans ((HB4.out.trans hb5).mono HB.out.size));clear hb5
  go_wp2
  go_ret
  exact ⟨rfl,HB5.out⟩
 ·have HE:=Lib.hid (textE_no hno)
  have HB:=Lib.hid hb1
  clear hb1 hno
  go_wp2
  go_ret
  exact ⟨by rw [HE.out];rfl,HB.out⟩
end Go.Proofs.YtegdjjjpoahamaaGreatDoor
