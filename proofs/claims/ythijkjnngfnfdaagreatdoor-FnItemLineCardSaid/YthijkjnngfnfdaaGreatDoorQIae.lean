/-
  Part of the proof of FnItemLine.
-/
import Derived.Test.YthijkjnngfnfdaaGreatDoorQIac
import Derived.Below
import Derived.Deep.Onto
import Derived.Deep.Draws
import Derived.Deep.AppendLies
import Derived.Deep.RegionHeld3
import Derived.RegionTactic
import Derived.Deep.RegionLaw
import Derived.Deep.DrawnRows
import Derived.StillTailTactics
set_option linter.unusedVariables false
set_option maxHeartbeats 4000000
set_option maxRecDepth 100000
namespace Go.Proofs.YthijkjnngfnfdaaGreatDoor
open Go.RowKit
def RowW (w:World) (v:Value) (tk:List Tk):Prop:=
 ∃ao cap,v= .slice ao tk.length cap∧tk.length≤cap∧cap≤maxLen∧(tk=[]∨ ∃b,ao=some ⟨b,0,none⟩∧b<w.heap.size∧ ∀(k:Nat) (h:k<tk.length),w.cell? ⟨b,k,none⟩=some (.string tk[k].2))
def RowK2 (w:World) (v:Value) (tk:List Tk):Prop:=
 ∃ao cap,v= .slice ao tk.length cap∧tk.length≤cap∧cap≤maxLen∧(tk=[]∨ ∃b,ao=some ⟨b,0,none⟩∧b<w.heap.size∧ ∀(k:Nat) (h:k<tk.length),w.cell? ⟨b,k,none⟩=some (.int .i64 tk[k].1))
def RowTk (w:World) (W K:Value) (tk:List Tk):Prop:=RowW w W tk∧RowK2 w K tk
theorem RowTk.mono {w w':World} {W K:Value} {tk:List Tk} (h:RowTk w W K tk) (hb:Below w.heap.size w w'):RowTk w' W K tk:=by
 obtain ⟨⟨ao,cap,hv,h1,h2,h3⟩,bo,cp,kv,k1,k2,k3⟩:=h
 refine ⟨⟨ao,cap,hv,h1,h2, ?_⟩,bo,cp,kv,k1,k2, ?_⟩
 ·rcases h3 with h3|⟨b,ha,hlt,hj⟩
  ·exact .inl h3
  ·exact .inr ⟨b,ha,Nat.lt_of_lt_of_le hlt hb.size,fun k hk=>by rw [hb.cell (by exact hlt)];exact hj k hk⟩
 ·rcases k3 with h3|⟨b,ha,hlt,hj⟩
  ·exact .inl h3
  ·exact .inr ⟨b,ha,Nat.lt_of_lt_of_le hlt hb.size,fun k hk=>by rw [hb.cell (by exact hlt)];exact hj k hk⟩
def IsSl (v:Value):Prop:= ∃a n c,v= .slice a n c
def ReadS (tk:List Tk) (j:Job) (p d:Nat) (W K:Value) (w:World) (e:Ending) (w':World):Prop:=
 ∃(v W' K':Value) (l:List Cl) (q:Nat) (d':Int) (ok:Bool),(IsSl W'∧IsSl K')∧e= .returned (.tuple #[v, .agg #[W',K', .int .i64 (q:Int), .int .i64 d'], .bool ok])∧w'.ownsRow w.heap.size 120 3 v l.length (flatC l)∧l.length+p≤q∧q≤tk.length∧Below w.heap.size w w'∧
  ((ok=true∧W'=W∧K'=K∧d'=(d:Int)∧Rs tk j p d l q 0)∨(ok=false∧NoRd tk j p d))
def BlkS (w:World) (g:Nat) (cs:Array Value):Prop:=w.heap[g]? =some (.cells cs 135 (0,0))
section
variable {w w':World} {g:Nat} {cs:Array Value}
theorem BlkS.lt (h:BlkS w g cs):g<w.heap.size:=by
 rcases Nat.lt_or_ge g w.heap.size with hlt|hge
 ·exact hlt
 ·unfold BlkS at h;rw [Array.getElem?_eq_none hge] at h;cases h
theorem BlkS.cell (h:BlkS w g cs) (i:Nat):w.cell? ⟨g,i,none⟩=cs[i]? :=cell_of_row w g i cs _ (0,0) h
theorem BlkS.frozen (h:BlkS w g cs) (i:Nat):w.frozen? ⟨g,i,none⟩=false:=by
 unfold BlkS at h
 simp [World.frozen?,h]
theorem BlkS.new (w:World) (cs:Array Value):BlkS (w.alloc (.cells cs 135)) w.heap.size cs:=heap_alloc_new w _
theorem BlkS.alloc (h:BlkS w g cs) (o:Obj):BlkS (w.alloc o) g cs:=(Below.heap_alloc w o g h.lt).trans h
theorem BlkS.grown {row:Option Nat} (h:BlkS w g cs) (hb:w.grownBy w' row) (hg:some g≠row):BlkS w' g cs:=(hb.block g h.lt hg).trans h
theorem BlkS.below (h:BlkS w g cs) (hb:Below w.heap.size w w'):BlkS w' g cs:=(hb.block g h.lt).trans h
theorem BlkS.set_ (h:BlkS w g cs) (i:Nat) (u:Value):BlkS (w.setCell ⟨g,i,none⟩ u) g (cs.setIfInBounds i u):=by
 unfold BlkS at h⊢
 simp [World.setCell,Array.getElem?_modify,h]
theorem BlkS.far (h:BlkS w g cs) {f:Nat} (i:Nat) (u:Value) (hf:f≠g):BlkS (w.setCell ⟨f,i,none⟩ u) g cs:=
 (Below.heap_setCell _ _ _ _ (fun e=>hf e.symm)).trans h
theorem BlkS.all {a b c d:Value} (h:BlkS w g #[a,b,c,d]):
  (w.cell? ⟨g,0,none⟩=some a∧w.cell? ⟨g,1,none⟩=some b∧w.cell? ⟨g,2,none⟩=some c∧w.cell? ⟨g,3,none⟩=some d)∧w.frozen? ⟨g,0,none⟩=false∧w.frozen? ⟨g,1,none⟩=false∧w.frozen? ⟨g,2,none⟩=false∧w.frozen? ⟨g,3,none⟩=false:=
 ⟨⟨h.cell 0,h.cell 1,h.cell 2,h.cell 3⟩,h.frozen 0,h.frozen 1,h.frozen 2,h.frozen 3⟩
end
theorem own_keepR {w w1:World} {base:Nat} {e:TypeId} {size n:Nat} {v:Value} {xs:List Value} (h:w.ownsRow base e size v n xs) (hb:Below w.heap.size w w1):w1.ownsRow base e size v n xs:=
 h.kept (row:=none) ⟨hb.os,hb.tape,hb.output,hb.size,fun i hi _=>hb.block i hi⟩ (by cases hv:v.ownBlock with|none=>exact .inl rfl|some x=>exact .inr (by simp))
theorem below_set4 {B:Nat} {a w:World} (h:Below B a w) {g:Nat} (hg:B≤g) (x0 x1 x2 x3:Value):Below B a ((((w.setCell ⟨g,0,none⟩ x0).setCell ⟨g,1,none⟩ x1).setCell ⟨g,2,none⟩ x2).setCell ⟨g,3,none⟩ x3):=
 (((h.setCell (p:=⟨g,0,none⟩) hg x0).setCell (p:=⟨g,1,none⟩) hg x1).setCell (p:=⟨g,2,none⟩) hg x2).setCell (p:=⟨g,3,none⟩) hg x3
theorem own_set4 {w:World} {base:Nat} {e:TypeId} {size n:Nat} {v:Value} {xs:List Value} (h:w.ownsRow base e size v n xs) {g:Nat} (hg:g<base) (x0 x1 x2 x3:Value):((((w.setCell ⟨g,0,none⟩ x0).setCell ⟨g,1,none⟩ x1).setCell ⟨g,2,none⟩ x2).setCell ⟨g,3,none⟩ x3).ownsRow base e size v n xs:=by
 refine h.kept (row:=some g) ⟨rfl,rfl,rfl,by simp [World.setCell],fun b _ hn=> ?_⟩ (.inr (by intro he;have:=(h.lt _ he).1;omega))
 have hb:b≠g:=fun e=>hn (by rw [e])
 rw [Below.heap_setCell _ _ _ _ hb,Below.heap_setCell _ _ _ _ hb,Below.heap_setCell _ _ _ _ hb,Below.heap_setCell _ _ _ _ hb]
def Begun (w:World) (W K:Value) (p d:Nat) (w1:World):Prop:=
 BlkS w1 w.heap.size #[W,K, .int .i64 (p:Int), .int .i64 (d:Int)]∧BlkS w1 (w.heap.size+1) #[.slice none 0 0, .slice none 0 0, .int .i64 0, .int .i64 0]∧Below w.heap.size w w1
theorem Begun.start (w:World) (W K:Value) (p d:Nat):Begun w W K p d ((w.alloc (.cells #[W,K, .int .i64 (p:Int), .int .i64 (d:Int)] 135)).alloc (.cells #[.slice none 0 0, .slice none 0 0, .int .i64 0, .int .i64 0] 135)):=by
 refine ⟨(BlkS.new w _).alloc _, ?_,((Below.refl w.heap.size w).alloc (Nat.le_refl _) _).alloc (by simp) _⟩
 have:=BlkS.new (w.alloc (.cells #[W,K, .int .i64 (p:Int), .int .i64 (d:Int)] 135)) #[.slice none 0 0, .slice none 0 0, .int .i64 0, .int .i64 0]
 have hss:(w.alloc (.cells #[W,K, .int .i64 (p:Int), .int .i64 (d:Int)] 135)).heap.size=w.heap.size+1:=by simp
 rw [hss] at this
 exact this
theorem Begun.below {w w1 w2:World} {W K:Value} {p d:Nat} (h:Begun w W K p d w1) (hb:Below w1.heap.size w1 w2):Begun w W K p d w2:=⟨h.1.below hb,h.2.1.below hb,h.2.2.trans (hb.mono h.2.2.size)⟩
theorem BlkS.put4 {w:World} {g:Nat} {a b c d:Value} (h:BlkS w g #[a,b,c,d]) (x0 x1 x2 x3:Value):BlkS ((((w.setCell ⟨g,0,none⟩ x0).setCell ⟨g,1,none⟩ x1).setCell ⟨g,2,none⟩ x2).setCell ⟨g,3,none⟩ x3) g #[x0,x1,x2,x3]:=by
 have:=(((h.set_ 0 x0).set_ 1 x1).set_ 2 x2).set_ 3 x3
 simpa using this
theorem BlkS.drew {w:World} {g:Nat} {cs:Array Value} (h:BlkS w g cs):BlkS w.drew g cs:=h
theorem Begun.step {w w1:World} {W K:Value} {p d:Nat} (h:Begun w W K p d w1) (y2 y3 x0 x1 x2 x3:Value) (o:Obj) (w2 w3 w4:World) (e2:w2=(w1.setCell ⟨w.heap.size,2,none⟩ y2).setCell ⟨w.heap.size,3,none⟩ y3)
  (e3:w3=(((w2.setCell ⟨w.heap.size+1,0,none⟩ x0).setCell ⟨w.heap.size+1,1,none⟩ x1).setCell ⟨w.heap.size+1,2,none⟩ x2).setCell ⟨w.heap.size+1,3,none⟩ x3) (e4:w4=(w3.alloc o).drew):
  BlkS w4 (w.heap.size+1) #[x0,x1,x2,x3]∧Below w.heap.size w w4:=by
 obtain ⟨h1,h2,h3⟩:=h
 have hb2:Below w.heap.size w w2:=e2▸(h3.setCell (p:=⟨w.heap.size,2,none⟩) (Nat.le_refl _) y2).setCell (p:=⟨w.heap.size,3,none⟩) (Nat.le_refl _) y3
 have hk2:BlkS w2 (w.heap.size+1) #[.slice none 0 0, .slice none 0 0, .int .i64 0, .int .i64 0]:=e2▸(h2.far (f:=w.heap.size) 2 y2 (by omega)).far (f:=w.heap.size) 3 y3 (by omega)
 have hb3:Below w.heap.size w w3:=e3▸below_set4 hb2 (g:=w.heap.size+1) (by omega) x0 x1 x2 x3
 have hk3:BlkS w3 (w.heap.size+1) #[x0,x1,x2,x3]:=e3▸hk2.put4 x0 x1 x2 x3
 subst e4
 exact ⟨(hk3.alloc o).drew,(hb3.alloc hb3.size o).drew⟩
theorem own_none {w3:World} {B g:Nat} (hg:w3.heap.size=g) (hB:B≤g):((w3.alloc (.cells #[] 120)).drew).ownsRow B 120 3 (.slice (some ⟨g,0,none⟩) 0 0) 0 (flatC []):=by
 subst hg
 exact (World.ownsRow_lit (e:=120) (size:=3) (base:=B) w3 #[] 0 hB (by unfold maxLen;omega) rfl).drew
theorem two_laid (w:World) (xs bs:Array Value):
  BlkS ((w.alloc (.cells xs 135)).alloc (.cells bs 135)) w.heap.size xs∧BlkS ((w.alloc (.cells xs 135)).alloc (.cells bs 135)) (w.heap.size+1) bs∧
   Below w.heap.size w ((w.alloc (.cells xs 135)).alloc (.cells bs 135))∧((w.alloc (.cells xs 135)).alloc (.cells bs 135)).heap.size=w.heap.size+1+1:=by
 have hss:(w.alloc (.cells xs 135)).heap.size=w.heap.size+1:=by simp
 have:=BlkS.new (w.alloc (.cells xs 135)) bs
 rw [hss] at this
 exact ⟨(BlkS.new w xs).alloc _,this,((Below.refl w.heap.size w).alloc (Nat.le_refl _) _).alloc (by simp) _,by simp⟩
structure ChI (w w4:World) (G:Nat) (a0 a1 a2 a3 i0 i1 i2 i3:Value) (v:Value) (l:List Cl):Prop where
 st:BlkS w4 w.heap.size #[a0,a1,a2,a3]
 ans:BlkS w4 (w.heap.size+1) #[.slice none 0 0, .slice none 0 0, .int .i64 0, .int .i64 0]
 inn:BlkS w4 G #[i0,i1,i2,i3]
 below:Below w.heap.size w w4
 own:w4.ownsRow (w.heap.size+2) 120 3 v l.length (flatC l)
 apart:v.ownBlock≠some G
 gt:w.heap.size+1<G
theorem ChI.first {w w2 w3:World} {a0 a1 a2 a3:Value} {v:Value} {l:List Cl} (e2:w2=(w.alloc (.cells #[a0,a1,a2,a3] 135)).alloc (.cells #[.slice none 0 0, .slice none 0 0, .int .i64 0, .int .i64 0] 135)) (hb:Below w2.heap.size w2 w3)
  (ho:w3.ownsRow w2.heap.size 120 3 v l.length (flatC l)) (i0 i1 i2 i3:Value):ChI w (w3.alloc (.cells #[i0,i1,i2,i3] 135)) w3.heap.size a0 a1 a2 a3 i0 i1 i2 i3 v l:=by
 obtain ⟨hA,hB,hC,hD⟩:=two_laid w #[a0,a1,a2,a3] #[.slice none 0 0, .slice none 0 0, .int .i64 0, .int .i64 0]
 rw [←e2] at hA hB hC hD
 have hs:=hb.size
 refine ⟨(hA.below hb).alloc _,(hB.below hb).alloc _,BlkS.new w3 _,(hC.trans (hb.mono (by omega))).alloc (by omega) _, ?_, ?_,by omega⟩
 ·rw [hD] at ho;exact ho.alloc _
 ·intro he
  have:=(ho.lt _ he).2
  omega
theorem ChI.later {w w4 w5:World} {G:Nat} {a0 a1 a2 a3 i0 i1 i2 i3 v:Value} {l:List Cl} (h:ChI w w4 G a0 a1 a2 a3 i0 i1 i2 i3 v l) (hb:Below w4.heap.size w4 w5):ChI w w5 G a0 a1 a2 a3 i0 i1 i2 i3 v l:=
 ⟨h.st.below hb,h.ans.below hb,h.inn.below hb,h.below.trans (hb.mono h.below.size),own_keepR h.own hb,h.apart,h.gt⟩
theorem ChI.over {w w4 w5:World} {G:Nat} {a0 a1 a2 a3 i0 i1 i2 i3 v:Value} {l:List Cl} (h:ChI w w4 G a0 a1 a2 a3 i0 i1 i2 i3 v l) (y x0 x1 x2 x3:Value)
  (e5:w5=((((w4.setCell ⟨G,3,none⟩ y).setCell ⟨w.heap.size+1,0,none⟩ x0).setCell ⟨w.heap.size+1,1,none⟩ x1).setCell ⟨w.heap.size+1,2,none⟩ x2).setCell ⟨w.heap.size+1,3,none⟩ x3):
  BlkS w5 (w.heap.size+1) #[x0,x1,x2,x3]∧Below w.heap.size w w5∧w5.ownsRow w.heap.size 120 3 v l.length (flatC l):=by
 subst e5
 have hg:=h.gt
 refine ⟨(BlkS.far h.ans (f:=G) 3 y (by omega)).put4 x0 x1 x2 x3,below_set4 (h.below.setCell (p:=⟨G,3,none⟩) (by show w.heap.size≤G;omega) y) (by omega) x0 x1 x2 x3, ?_⟩
 exact (own_set4 (ownsRow_setCell_other h.own (a:=⟨G,3,none⟩) h.apart y) (by omega) x0 x1 x2 x3).mono (by omega)
theorem ChI.set0 {w w4:World} {G:Nat} {a0 a1 a2 a3 i0 i1 i2 i3 v:Value} {l:List Cl} (h:ChI w w4 G a0 a1 a2 a3 i0 i1 i2 i3 v l) (x:Value):ChI w (w4.setCell ⟨G,0,none⟩ x) G a0 a1 a2 a3 x i1 i2 i3 v l:=by
 have hg:=h.gt
 exact ⟨BlkS.far h.st (f:=G) 0 x (by omega),BlkS.far h.ans (f:=G) 0 x (by omega),by simpa using h.inn.set_ 0 x,h.below.setCell (p:=⟨G,0,none⟩) (by show w.heap.size≤G;omega) x,ownsRow_setCell_other h.own (a:=⟨G,0,none⟩) h.apart x,h.apart,h.gt⟩
theorem ChI.set1 {w w4:World} {G:Nat} {a0 a1 a2 a3 i0 i1 i2 i3 v:Value} {l:List Cl} (h:ChI w w4 G a0 a1 a2 a3 i0 i1 i2 i3 v l) (x:Value):ChI w (w4.setCell ⟨G,1,none⟩ x) G a0 a1 a2 a3 i0 x i2 i3 v l:=by
 have hg:=h.gt
 exact ⟨BlkS.far h.st (f:=G) 1 x (by omega),BlkS.far h.ans (f:=G) 1 x (by omega),by simpa using h.inn.set_ 1 x,h.below.setCell (p:=⟨G,1,none⟩) (by show w.heap.size≤G;omega) x,ownsRow_setCell_other h.own (a:=⟨G,1,none⟩) h.apart x,h.apart,h.gt⟩
theorem ChI.fail {w w4:World} {G:Nat} {a0 a1 a2 a3 i0 i1 i2 i3 v:Value} {l:List Cl} (h:ChI w w4 G a0 a1 a2 a3 i0 i1 i2 i3 v l) (x0 x1 x2 x3:Value) {g:Nat} (hg:w4.heap.size=g):
  BlkS ((((((w4.setCell ⟨w.heap.size+1,0,none⟩ x0).setCell ⟨w.heap.size+1,1,none⟩ x1).setCell ⟨w.heap.size+1,2,none⟩ x2).setCell ⟨w.heap.size+1,3,none⟩ x3).alloc (.cells #[] 120)).drew) (w.heap.size+1) #[x0,x1,x2,x3]∧
  Below w.heap.size w ((((((w4.setCell ⟨w.heap.size+1,0,none⟩ x0).setCell ⟨w.heap.size+1,1,none⟩ x1).setCell ⟨w.heap.size+1,2,none⟩ x2).setCell ⟨w.heap.size+1,3,none⟩ x3).alloc (.cells #[] 120)).drew)∧
  World.ownsRow ((((((w4.setCell ⟨w.heap.size+1,0,none⟩ x0).setCell ⟨w.heap.size+1,1,none⟩ x1).setCell ⟨w.heap.size+1,2,none⟩ x2).setCell ⟨w.heap.size+1,3,none⟩ x3).alloc (.cells #[] 120)).drew) w.heap.size 120 3 (.slice (some ⟨g,0,none⟩) 0 0) 0 (flatC []):=by
 have hgt:=h.gt;have hl:=h.inn.lt
 have hb:=below_set4 h.below (g:=w.heap.size+1) (by omega) x0 x1 x2 x3
 exact ⟨((h.ans.put4 x0 x1 x2 x3).alloc _).drew,(hb.alloc hb.size _).drew,own_none (by simpa [World.setCell] using hg) (by omega)⟩
structure AftC (w w4:World) (G:Nat) (i0 i1 i2 i3:Value):Prop where
 ans:BlkS w4 (w.heap.size+1) #[.slice none 0 0, .slice none 0 0, .int .i64 0, .int .i64 0]
 inn:BlkS w4 G #[i0,i1,i2,i3]
 below:Below w.heap.size w w4
 gt:w.heap.size+1<G
theorem AftC.app {w w4 w5:World} {G B n:Nat} {i0 i1 i2 i3 v:Value} {e:TypeId} {s:Nat} {xs:List Value} (h:AftC w w4 G i0 i1 i2 i3) (hg:w4.grownBy w5 v.ownBlock) (ho:w4.ownsRow B e s v n xs) (hB:G<B):AftC w w5 G i0 i1 i2 i3:=by
 have hgt:=h.gt
 refine ⟨h.ans.grown hg (fun he=> ?_),h.inn.grown hg (fun he=> ?_),h.below.grown hg h.below.size (fun q hq=> ?_),h.gt⟩
 ·have:=(ho.lt _ he.symm).1;omega
 ·have:=(ho.lt _ he.symm).1;omega
 ·have:=(ho.lt _ hq).1;omega
structure PtW (w wr:World) (i0 i1 i2 i3 va:Value) (l:List Cl):Prop where
 st:BlkS wr w.heap.size #[i0,i1,i2,i3]
 ans:BlkS wr (w.heap.size+1) #[.slice none 0 0, .slice none 0 0, .int .i64 0, .int .i64 0]
 below:Below w.heap.size w wr
 own:wr.ownsRow (w.heap.size+2) 120 3 va l.length (flatC l)
theorem PtW.later {w wr w2:World} {i0 i1 i2 i3 va:Value} {l:List Cl} (h:PtW w wr i0 i1 i2 i3 va l) (hb:Below wr.heap.size wr w2):PtW w w2 i0 i1 i2 i3 va l:=
 ⟨h.st.below hb,h.ans.below hb,h.below.trans (hb.mono h.below.size),own_keepR h.own hb⟩
theorem PtW.start {w:World} {i0 i1 i2 i3:Value}:PtW w (((w.alloc (.cells #[i0,i1,i2,i3] 135)).alloc (.cells #[.slice none 0 0, .slice none 0 0, .int .i64 0, .int .i64 0] 135)).alloc (.cells #[] 120)) i0 i1 i2 i3 (.slice (some ⟨w.heap.size+1+1,0,none⟩) 0 0) []:=by
 obtain ⟨hA,hB,hC,hD⟩:=two_laid w #[i0,i1,i2,i3] #[.slice none 0 0, .slice none 0 0, .int .i64 0, .int .i64 0]
 refine ⟨hA.alloc _,hB.alloc _,hC.alloc hC.size _, ?_⟩
 have:=World.ownsRow_lit (e:=120) (size:=3) (base:=w.heap.size+2) ((w.alloc (.cells #[i0,i1,i2,i3] 135)).alloc (.cells #[.slice none 0 0, .slice none 0 0, .int .i64 0, .int .i64 0] 135)) #[] 0 (by omega) (by unfold maxLen;omega) rfl
 rw [hD] at this
 exact this
end Go.Proofs.YthijkjnngfnfdaaGreatDoor
