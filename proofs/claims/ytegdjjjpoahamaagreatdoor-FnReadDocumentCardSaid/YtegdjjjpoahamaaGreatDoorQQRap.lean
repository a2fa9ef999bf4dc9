/-
  Part of the proof of FnReadDocument.
-/
import Derived.Test.YtegdjjjpoahamaaGreatDoorQQRan
import Derived.Deep.QuietTactic
import Derived.RegionTactic
set_option linter.unusedVariables false
set_option maxHeartbeats 2000000
set_option maxRecDepth 100000
namespace Go.Proofs.YtegdjjjpoahamaaGreatDoor
open Go.RowKit
theorem afs:liesAt Tryz.prog Tryz.prog.depth 64 (2/Tryz.prog.cellsOf 64) 0 62 1=true:=by kernel_rfl
def LwV (B b:Nat) (p v:Value) (l:List UInt8) (w:World):Prop:=
 B≤b∧w.heap[b]? =some (.cells #[p,v] 64 (0,0))∧w.ownsRow B 5 1 v (Lib.byteCells l).length (Lib.byteCells l)∧v.ownBlock≠some b
def LwAt (B b:Nat) (l:List UInt8) (w:World):Prop:= ∃p v,(p= .pointer none∨p= .pointer (some ⟨b,0,none⟩))∧LwV B b p v l w
section
variable {B b:Nat} {p v:Value} {l:List UInt8} {w:World}
theorem LwV.lt (h:LwV B b p v l w):b<w.heap.size:=by
 rcases Nat.lt_or_ge b w.heap.size with Ab|DQ
 ·exact Ab
 ·have:=h.2.1;rw [Array.getElem?_eq_none DQ] at this;cases this
theorem LwV.cells (h:LwV B b p v l w):w.cell? ⟨b,0,none⟩=some p∧w.cell? ⟨b,1,none⟩=some v:=by
 refine ⟨?_, ?_⟩<;>(rw [Lib.cell_of_heap h.2.1];rfl)
theorem LwV.frozen (h:LwV B b p v l w) (j:Nat):w.frozen? ⟨b,j,none⟩=false:=Lib.frozen_of_heap h.2.1 j
theorem LwV.shape (h:LwV B b p v l w):w.shape? b=some (64,2):=by simp [World.shape?,h.2.1]
theorem LwV.used (h:LwV B b p v l w) (q:Value):LwV B b q v l (w.setCell ⟨b,0,none⟩ q):=by
 obtain ⟨hB,hb,Ad,At⟩:=h;refine ⟨hB,by simp [World.setCell,Array.getElem?_modify,hb], ?_,At⟩;exact Ad.kept (row:=some b) ⟨rfl,rfl,rfl,by simp [World.setCell],fun k _ hk=>Below.heap_setCell _ _ _ _ (fun e=>hk (by simp [e]))⟩ (Or.inr At)
end
theorem LwV.put {B b:Nat} {p v v':Value} {l':List UInt8} {w:World} (hB:B≤b) (hb:w.heap[b]? =some (.cells #[p,v] 64 (0,0))) (Ad:w.ownsRow B 5 1 v' (Lib.byteCells l').length (Lib.byteCells l')):LwV B b p v' l' (w.setCell ⟨b,1,none⟩ v'):=by
 have At:=Lib.ownBlock_ne (T:=64) (e:=5) Ad hb (by decide);refine ⟨hB,by simp [World.setCell,Array.getElem?_modify,hb], ?_,At⟩;exact Ad.kept (row:=some b) ⟨rfl,rfl,rfl,by simp [World.setCell],fun k _ hk=>Below.heap_setCell _ _ _ _ (fun e=>hk (by simp [e]))⟩ (Or.inr At)
def KL (w w':World):Prop:= ∀(i:Nat) (cs:Array Value) (T:TypeId) (fr:Nat×Nat),w.heap[i]? =some (.cells cs T fr)→T≠5→T≠64→w'.heap[i]? =some (.cells cs T fr)
theorem KL.refl (w:World):KL w w:=fun i cs T fr h _ _=>h
theorem KL.trans {a b c:World} (h:KL a b) (k:KL b c):KL a c:=fun i cs T fr hh h1 h2=>k i cs T fr (h i cs T fr hh h1 h2) h1 h2
theorem KL.below {w w':World} (h:Below w.heap.size w w'):KL w w':=fun i cs T fr hh _ _=>(h.block i (lQ hh)).trans hh
theorem KL.alloc (w:World) (o:Obj):KL w (w.alloc o):= .below ((Below.refl _ _).alloc (agD _) _)
theorem KL.set {w:World} {b:Nat} {cs0:Array Value} (hb:w.heap[b]? =some (.cells cs0 64 (0,0))) (j:Nat) (u:Value):KL w (w.setCell ⟨b,j,none⟩ u):=fun i cs T fr hh h1 h2=>by
 have At:i≠b:=by
  rintro rfl;rw [hb] at hh;simp only [Option.some.injEq,Obj.cells.injEq] at hh;exact h2 hh.2.1.symm
 exact (Below.heap_setCell _ _ _ _ At).trans hh
theorem KL.grown {w w':World} {base n:Nat} {v:Value} {xs:List Value} (ho:w.ownsRow base 5 1 v n xs) (hg:w.grownBy w' v.ownBlock):KL w w':=fun i cs T fr hh h1 h2=>
 (hg.block i (lQ hh) (fun e=>(Lib.ownBlock_ne ho hh h1) e.symm)).trans hh
theorem LwAt.new (w:World):LwAt w.heap.size w.heap.size [] (w.alloc (.cells #[.pointer none, .slice none 0 0] 64)):=
 ⟨_,_, .inl rfl,agD _,heap_alloc_new w _,World.ownsRow_nil _ _ _ _,by simp [Value.ownBlock]⟩
theorem tD (b:Nat) (w:World) (h0:w.cell? ⟨b,0,none⟩=some (.pointer (some ⟨b,0,none⟩))):
  Calls Tryz.prog 135 #[.pointer (some ⟨b,0,none⟩)] w fun e w'=>e= .returned (.tuple #[])∧w=w':=by
 obtain ⟨j,hj,_⟩:=Option.map_eq_some_iff.1 qn;have hn:=Lib.run_neq_ptr_same (P:=Tryz.prog) w ⟨b,0,none⟩ Tryz.underlying60 hj;clear hj
 go_enter Tryz.func135,Tryz.ntmps135
 go_wp2;go_end0;exact ⟨rfl,rfl⟩
theorem re (b:Nat) (w:World) (h0:w.cell? ⟨b,0,none⟩=some (.pointer none)) (Ef:w.shape? b=some (64,2)) (hfz:w.frozen? ⟨b,0,none⟩=false):
  Calls Tryz.prog 135 #[.pointer (some ⟨b,0,none⟩)] w fun e w'=>e= .returned (.tuple #[])∧w.setCell ⟨b,0,none⟩ (.pointer (some ⟨b,0,none⟩))=w':=by
 obtain ⟨j,hj,Ml⟩:=Option.map_eq_some_iff.1 qn;have ET:=Lib.run_to_unsafe (P:=Tryz.prog) w ⟨b,0,none⟩ Tryz.underlying60 Tryz.underlying176 hj (by rw [Ml];decide) Ef (show (0:Nat)<2 by decide);have IY:=Lib.run_from_unsafe (P:=Tryz.prog) w ⟨b,0,none⟩ Tryz.underlying176 Tryz.underlying60 hj Ef afs
 have Mk:(callFunc 170 #[.pointer (some ⟨b,0,none⟩)]).run Tryz.prog w= .ok (.value (.pointer (some ⟨b,0,none⟩))) w:=by
  rw [run_callFunc_extern Tryz.func170 (by kernel_rfl) (by kernel_rfl) (by kernel_rfl) (e:=Extern.AbiNoEscape.same) (by kernel_rfl),Lib.run_noEscape]
  rfl
 clear hj
 go_enter Tryz.func135,Tryz.ntmps135
 go_wp2;go_end0;exact ⟨rfl,rfl⟩
theorem ox (B b:Nat) (l:List UInt8) (w:World) (h:LwAt B b l w):
  Calls Tryz.prog 135 #[.pointer (some ⟨b,0,none⟩)] w fun e w'=>e= .returned (.tuple #[])∧(∃v,LwV B b (.pointer (some ⟨b,0,none⟩)) v l w')∧Below B w w'∧KL w w':=by
 obtain ⟨p,v,rfl|rfl,h⟩:=h
 ·refine (re b w h.cells.1 h.shape (h.frozen 0)).mono ?_
  rintro e w' ⟨rfl,rfl⟩;exact ⟨rfl,⟨v,h.used _⟩,(Below.refl B w).setCell (p:=⟨b,0,none⟩) h.1 _,KL.set h.2.1 0 _⟩
 ·refine (tD b w h.cells.1).mono ?_
  rintro e w' ⟨rfl,rfl⟩;exact ⟨rfl,⟨v,h⟩,Below.refl B _,KL.refl _⟩
theorem mu (B b:Nat) (l:List UInt8) (c:UInt8) (n:Int) (hn:(c.toNat:Int)=n) (w:World) (h:LwAt B b l w) (Ai:l.length≤1000000000) (D0:B≤w.heap.size):
  Calls Tryz.prog 88 #[.pointer (some ⟨b,0,none⟩), .int .u8 n] w fun e w'=>e= .returned .nilIface∧LwAt B b (l++[c]) w'∧Below B w w'∧KL w w':=by
 obtain ⟨i0,hi,Az,Ax,AC⟩:=info_parts oK;have HL:=agC (Lib.byteCells_length l);have HX:=agC hn;clear hn
 go_enter Tryz.func88,Tryz.ntmps88
 go_wp2_with fail;refine (ox B b l _ h).mono ?_;rintro e w1 ⟨rfl,⟨v,h1⟩,Aa,CB⟩;have C7:=agC CB;clear CB;have Au:=Aa.size;have c1:=h1.cells.2;have Ab:=h1.lt;have H1:=agC h1;have Af:=agC Aa;have Ad:=h1.2.2.1;clear h1 Aa h
 go_wp2_with (at_builtin;refine wpList_append_own _ rfl _ _ 22 rfl B 5 i0 (.int .u8 0) 1 1 Tryz.underlying22 hi Az Ax AC rfl (by decide) _ _ _ rfl (Ad.alloc _) ⟨w1.heap.size,0,none⟩ 1 1 [.int .u8 n] rfl rfl ?c1 ?c2 ?c3 ?c4 ?c5 ?_)
 case c1=>
  intro j u hj
  match j,hj with
  |0,hj=>simp at hj;subst hj;simp [Addr.add]
 case c2=>intro u hu;simp at hu;subst hu;rfl
 case c3=>have:=HL.out;unfold maxLen;omega
 case c4=>have:=HL.out;omega
 case c5=>simp;omega
 intro v' w2 Ah Ac _
 have Ae:w2.heap[b]? =some (.cells #[.pointer (some ⟨b,0,none⟩),v] 64 (0,0)):=by
  rw [Ac.block b (by simp;omega) (fun e=>H1.out.2.2.2 e.symm),Lib.alloc_old w1 _ b Ab];exact H1.out.2.1
 have d1:w2.cell? ⟨b,1,none⟩=some v:=by rw [Lib.cell_of_heap Ae];rfl
 have f1:w2.frozen? ⟨b,1,none⟩=false:=Lib.frozen_of_heap Ae 1;have Ak:=agC Ae;have HW:=agC Ah;have HG:=agC Ac;clear Ae Ac
 obtain ⟨g,cap,rfl⟩: ∃g cap,v'= .slice (some ⟨g,0,none⟩) ((Lib.byteCells l).length+1) cap:=by
  rcases Ah.2 with ⟨_,h0⟩|⟨g,cap,cur,hv,_⟩
  ·omega
  ·exact ⟨g,cap,hv⟩
 clear Ah hi Az Ax AC c1;go_wp2;go_ret;refine ⟨rfl,⟨_,_, .inr rfl,LwV.put H1.out.1 Ak.out ?_⟩, ?_⟩
 ·rw [show Lib.byteCells (l++[c])=Lib.byteCells l++[.int .u8 n] by rw [kY,HX.out]]
  simpa using HW.out
 ·exact ⟨((Af.out.alloc (by omega) _).grown HG.out (by simp;omega) (fun k hk=>(Ad.lt k hk).1)).setCell (p:=⟨b,1,none⟩) H1.out.1 _,((C7.out.trans (KL.alloc _ _)).trans (KL.grown (Ad.alloc _) HG.out)).trans (KL.set Ak.out 1 _)⟩
theorem dw (B b:Nat) (l:List UInt8) (s:ByteArray) (w:World) (h:LwAt B b l w) (Ai:l.length+s.size≤1000000000) (D0:B≤w.heap.size):
  Calls Tryz.prog 132 #[.pointer (some ⟨b,0,none⟩), .string s] w fun e w'=>e= .returned (.tuple #[.int .i64 s.size, .nilIface])∧LwAt B b (l++s.data.toList) w'∧Below B w w'∧KL w w':=by
 obtain ⟨i0,hi,Az,Ax,AC⟩:=info_parts oK;have HL:=agC (Lib.byteCells_length l)
 go_enter Tryz.func132,Tryz.ntmps132
 go_wp2_with fail;refine (ox B b l _ h).mono ?_;rintro e w1 ⟨rfl,⟨v,h1⟩,Aa,CB⟩;have C7:=agC CB;clear CB;have Au:=Aa.size;have c1:=h1.cells.2;have Ab:=h1.lt;have H1:=agC h1;have Af:=agC Aa;have Ad:=h1.2.2.1;clear h1 Aa h
 go_wp2_with (at_builtin;refine Lib.wpList_append_own_string _ rfl _ _ 22 9 rfl B 5 i0 Tryz.underlying22 Tryz.underlying9 hi Az Ax AC _ _ _ rfl Ad s rfl ?c3 ?c4 ?c5 ?_)
 case c3=>have:=HL.out;unfold maxLen;omega
 case c4=>have:=HL.out;omega
 case c5=>omega
 intro v' w2 Ah Ac _
 have Ae:w2.heap[b]? =some (.cells #[.pointer (some ⟨b,0,none⟩),v] 64 (0,0)):=by
  rw [Ac.block b Ab (fun e=>H1.out.2.2.2 e.symm)];exact H1.out.2.1
 have d1:w2.cell? ⟨b,1,none⟩=some v:=by rw [Lib.cell_of_heap Ae];rfl
 have f1:w2.frozen? ⟨b,1,none⟩=false:=Lib.frozen_of_heap Ae 1;have Ak:=agC Ae;have HW:=agC Ah;have HG:=agC Ac;clear Ae Ac
 obtain ⟨ao,n',cap,rfl⟩: ∃ao n' cap,v'= .slice ao n' cap:=by
  rcases Ah.2 with ⟨hv,_⟩|⟨g,cap,cur,hv,_⟩
  ·exact ⟨_,_,_,hv⟩
  ·exact ⟨_,_,_,hv⟩
 clear Ah hi Az Ax AC c1;go_wp2;go_ret2;refine ⟨rfl,⟨_,_, .inr rfl,LwV.put H1.out.1 Ak.out ?_⟩, ?_⟩
 ·have e:(Lib.byteCells s.data.toList).length=s.size:=by rw [Lib.byteCells_length,Array.length_toList];rfl
  rw [Lib.byteCells_append,agE,e,←Lib.strCells_eq];exact HW.out
 ·exact ⟨(Af.out.grown HG.out (by omega) (fun k hk=>(Ad.lt k hk).1)).setCell (p:=⟨b,1,none⟩) H1.out.1 _,(C7.out.trans (KL.grown Ad HG.out)).trans (KL.set Ak.out 1 _)⟩
theorem zO (B b:Nat) (l:List UInt8) (w:World) (h:LwAt B b l w) (h0:l≠[]):
  Calls Tryz.prog 91 #[.pointer (some ⟨b,0,none⟩)] w fun e w'=>e= .returned (.string ⟨l.toArray⟩)∧Below B w w':=by
 obtain ⟨p,v,-,hB,AJ,Ad,At⟩:=h
 have Iq:l.length≠0:=by simpa using h0
 rw [Lib.byteCells_length] at Ad
 obtain ⟨g,cap,cur,rfl,Ij,hg,Pe,GC,hcs,Mm⟩: ∃g cap cur,v= .slice (some ⟨g,0,none⟩) l.length cap∧B≤g∧w.heap[g]? =some (.cells cur 5 (0,0))∧l.length≤cap∧cap≤maxLen∧cur.size=cap*1∧cur.toList.take (l.length*1)=Lib.byteCells l:=by
  rcases Ad.2 with ⟨_,hz⟩|⟨g,cap,cur,hv,r⟩
  ·exact absurd hz Iq
  ·exact ⟨g,cap,cur,hv,r⟩
 have c1:w.drew.cell? ⟨b,1,none⟩=some (.slice (some ⟨g,0,none⟩) l.length cap):=by
  have:w.drew.heap[b]? =some (.cells #[p, .slice (some ⟨g,0,none⟩) l.length cap] 64 (0,0)):=AJ;rw [Lib.cell_of_heap this];rfl
 have Nk:(Builtin.unsafeSliceData_ #[22] 143 #[.slice (some ⟨g,0,none⟩) l.length cap]).run Tryz.prog w.drew= .ok (.pointer (some ⟨g,0,none⟩)) w.drew:=
  Lib.run_unsafeSliceData_row _ _ _ _ _ _ (by omega)
 have Nl:(Builtin.unsafeString_ #[143,3] 9 #[.pointer (some ⟨g,0,none⟩), .int .i64 l.length]).run Tryz.prog w.drew= .ok (.string ⟨l.toArray⟩) (w.drew.freeze ⟨g,0,none⟩ l.length):=by
  refine Lib.run_unsafeString_row w.drew 143 3 9 5 Tryz.underlying143 (by kernel_rfl) g cur.size (by have Gu:w.drew.heap[g]? =some (.cells cur 5 (0,0)):=hg;simp [World.shape?,Gu]) l h0 (by omega) (by unfold maxLen at GC;omega) ?_;intro j x hx;have:=Ad.cells (g:=g) rfl j (.int .u8 x.toNat) (by simp [Lib.byteCells,hx]);exact this
 go_enter Tryz.func91,Tryz.ntmps91
 go_wp2
 go_region
 all_goals (go_wp2;go_ret;exact ⟨rfl,Lib.below_freeze (Below.drew (Below.refl B w)) (p:=⟨g,0,none⟩) Ij _⟩)
theorem wB (B b:Nat) (p:Value) (w:World) (AJ:w.heap[b]? =some (.cells #[p, .slice none 0 0] 64 (0,0))):
  Calls Tryz.prog 91 #[.pointer (some ⟨b,0,none⟩)] w fun e w'=>e= .returned (.string ⟨#[]⟩)∧Below B w w':=by
 have Nl:=fun (W:World) (q:Option Addr)=>Lib.run_unsafeString_none (P:=Tryz.prog) W 143 3 9 q
 have c1:w.drew.cell? ⟨b,1,none⟩=some (.slice none 0 0):=by
  have:w.drew.heap[b]? =some (.cells #[p, .slice none 0 0] 64 (0,0)):=AJ;rw [Lib.cell_of_heap this];rfl
 have Nk:(Builtin.unsafeSliceData_ #[22] 143 #[.slice none 0 0]).run Tryz.prog w.drew= .ok (.pointer none) w.drew:=rfl
 go_enter Tryz.func91,Tryz.ntmps91
 go_wp2
 go_region
 all_goals (go_wp2;go_ret;exact ⟨rfl,Below.drew (Below.refl B w)⟩)
theorem rf (B b g:Nat) (p:Value) (cur:Array Value) (w:World) (D0:B≤w.heap.size) (AJ:w.heap[b]? =some (.cells #[p, .slice (some ⟨g,0,none⟩) 0 0] 64 (0,0))) (hg:w.heap[g]? =some (.cells cur 5 (0,0))):
  Calls Tryz.prog 91 #[.pointer (some ⟨b,0,none⟩)] w fun e w'=>e= .returned (.string ⟨#[]⟩)∧Below B w w':=by
 have Nl:=fun (W:World) (q:Option Addr)=>Lib.run_unsafeString_none (P:=Tryz.prog) W 143 3 9 q
 have Ab:=lQ AJ
 have c1:w.drew.cell? ⟨b,1,none⟩=some (.slice (some ⟨g,0,none⟩) 0 0):=by
  have:w.drew.heap[b]? =some (.cells #[p, .slice (some ⟨g,0,none⟩) 0 0] 64 (0,0)):=AJ;rw [Lib.cell_of_heap this];rfl
 have Nk:(Builtin.unsafeSliceData_ #[22] 143 #[.slice (some ⟨g,0,none⟩) 0 0]).run Tryz.prog w.drew= .ok (.pointer (some ⟨w.drew.heap.size,0,none⟩)) (w.drew.alloc (.view ⟨g,0,none⟩ 5)):=
  Lib.run_unsafeSliceData_zero w.drew _ _ 5 Tryz.underlying143 ⟨g,0,none⟩ 0 (5,cur.size) (by have Gu:w.drew.heap[g]? =some (.cells cur 5 (0,0)):=hg;simp [World.shape?,Gu])
 have c2:(w.drew.alloc (.view ⟨g,0,none⟩ 5)).cell? ⟨b,1,none⟩=some (.slice (some ⟨g,0,none⟩) 0 0):=by
  have:(w.drew.alloc (.view ⟨g,0,none⟩ 5)).heap[b]? =_:=(Lib.alloc_old w.drew _ b Ab).trans AJ;rw [Lib.cell_of_heap this];rfl
 have c3:(w.alloc (.view ⟨g,0,none⟩ 5)).drew.cell? ⟨b,1,none⟩=some (.slice (some ⟨g,0,none⟩) 0 0):=c2
 go_enter Tryz.func91,Tryz.ntmps91
 go_wp2
 go_region
 all_goals (go_wp2;go_ret;exact ⟨rfl,(Below.drew (Below.refl B w)).alloc D0 _⟩)
theorem wC (B b g cap:Nat) (p:Value) (w:World) (IW:cap≠0) (AJ:w.heap[b]? =some (.cells #[p, .slice (some ⟨g,0,none⟩) 0 cap] 64 (0,0))):
  Calls Tryz.prog 91 #[.pointer (some ⟨b,0,none⟩)] w fun e w'=>e= .returned (.string ⟨#[]⟩)∧Below B w w':=by
 have Nl:=fun (W:World) (q:Option Addr)=>Lib.run_unsafeString_none (P:=Tryz.prog) W 143 3 9 q
 have c1:w.drew.cell? ⟨b,1,none⟩=some (.slice (some ⟨g,0,none⟩) 0 cap):=by
  have:w.drew.heap[b]? =some (.cells #[p, .slice (some ⟨g,0,none⟩) 0 cap] 64 (0,0)):=AJ;rw [Lib.cell_of_heap this];rfl
 have Nk:(Builtin.unsafeSliceData_ #[22] 143 #[.slice (some ⟨g,0,none⟩) 0 cap]).run Tryz.prog w.drew= .ok (.pointer (some ⟨g,0,none⟩)) w.drew:=
  Lib.run_unsafeSliceData_row _ _ _ _ _ _ IW
 clear IW
 go_enter Tryz.func91,Tryz.ntmps91
 go_wp2
 go_region
 all_goals (go_wp2;go_ret;exact ⟨rfl,Below.drew (Below.refl B w)⟩)
theorem zP (B b:Nat) (l:List UInt8) (w:World) (h:LwAt B b l w) (D0:B≤w.heap.size):
  Calls Tryz.prog 91 #[.pointer (some ⟨b,0,none⟩)] w fun e w'=>e= .returned (.string ⟨l.toArray⟩)∧Below B w w':=by
 cases l with
 |cons x r=>exact zO B b (x::r) w h (by simp)
 |nil=>
  obtain ⟨p,v,-,hB,AJ,Ad,At⟩:=h
  rcases Ad.2 with ⟨rfl,_⟩|⟨g,cap,cur,rfl,Ij,hg,_,_,_,_⟩
  ·exact wB B b p w AJ
  ·by_cases IW:cap=0
   ·subst IW
    exact rf B b g p cur w D0 AJ hg
   ·exact wC B b g cap p w IW AJ
end Go.Proofs.YtegdjjjpoahamaaGreatDoor
