/-
  Part of the proof of FnReadItem.
-/
import Derived.Test.YthijkjnngfnfdaaGreatDoorQRam
import Derived.Below
import Derived.Deep.Onto
import Derived.Deep.Draws
import Derived.Deep.AppendLies
import Derived.Deep.RegionHeld3
import Derived.RegionTactic
import Derived.Deep.RegionLaw
import Derived.Deep.DrawnRows
import Derived.StillTailTactics
set_option linter.unusedVariables false
set_option maxHeartbeats 4000000
set_option maxRecDepth 100000
namespace Go.Proofs.YthijkjnngfnfdaaGreatDoor
open Go.RowKit
def RowW (w:World) (v:Value) (tk:List Tk):Prop:=
 ∃ao cap,v= .slice ao tk.length cap∧tk.length≤cap∧cap≤maxLen∧(tk=[]∨ ∃b,ao=some ⟨b,0,none⟩∧b<w.heap.size∧ ∀(k:Nat) (h:k<tk.length),w.cell? ⟨b,k,none⟩=some (.string tk[k].2))
def ahP (w:World) (v:Value) (tk:List Tk):Prop:=
 ∃ao cap,v= .slice ao tk.length cap∧tk.length≤cap∧cap≤maxLen∧(tk=[]∨ ∃b,ao=some ⟨b,0,none⟩∧b<w.heap.size∧ ∀(k:Nat) (h:k<tk.length),w.cell? ⟨b,k,none⟩=some (.int .i64 tk[k].1))
def RowTk (w:World) (W K:Value) (tk:List Tk):Prop:=RowW w W tk∧ahP w K tk
theorem RowTk.mono {w w':World} {W K:Value} {tk:List Tk} (h:RowTk w W K tk) (hb:Below w.heap.size w w'):RowTk w' W K tk:=by
 obtain ⟨⟨ao,cap,hv,h1,h2,h3⟩,bo,cp,kv,k1,k2,k3⟩:=h;refine ⟨⟨ao,cap,hv,h1,h2, ?_⟩,bo,cp,kv,k1,k2, ?_⟩
 ·rcases h3 with h3|⟨b,ha,hlt,hj⟩
  ·exact .inl h3
  ·exact .inr ⟨b,ha,Nat.lt_of_lt_of_le hlt hb.size,fun k hk=>by rw [hb.cell (by exact hlt)];exact hj k hk⟩
 ·rcases k3 with h3|⟨b,ha,hlt,hj⟩
  ·exact .inl h3
  ·exact .inr ⟨b,ha,Nat.lt_of_lt_of_le hlt hb.size,fun k hk=>by rw [hb.cell (by exact hlt)];exact hj k hk⟩
theorem agQ {tk:List Tk} {p:Nat} (h:p<tk.length) (w:List UInt8):isT tk p w=(tk[p].1==4&&tk[p].2.data.toList==w):=by
 unfold isT;rw [List.getElem?_eq_getElem h]
theorem afk {tk:List Tk} {p:Nat} (h: ¬p<tk.length) (w:List UInt8):isT tk p w=false:=by
 unfold isT;rw [List.getElem?_eq_none (by omega)]
theorem agR {tk:List Tk} {p:Nat} (h:p<tk.length):rkT tk p=if tk[p].1=4 then aj tk[p].2.data.toList else 0:=by
 unfold rkT;rw [List.getElem?_eq_getElem h]
theorem afl {tk:List Tk} {p:Nat} (h: ¬p<tk.length):rkT tk p=0:=by
 unfold rkT;rw [List.getElem?_eq_none (by omega)]
theorem dl (W K:Value) (tk:List Tk) (p d:Nat) (t:ByteArray) (w:World) (hr:RowTk w W K tk) (hp:p≤100000):
  Calls Tryz.prog 146 #[.agg #[W,K, .int .i64 (p:Int), .int .i64 (d:Int)], .string t] w fun e w'=>e= .returned (.bool (isT tk p t.data.toList))∧Below w.heap.size w w':=by
 obtain ⟨⟨ao,cap,rfl,h1,h2,h3⟩,bo,cp,rfl,k1,k2,k3⟩:=hr;unfold maxLen at h2 k2;have H3:=aim h3;have K3:=aim k3;clear h3 k3
 by_cases hlt:p<tk.length
 ·obtain ⟨b,rfl,hbl,cc⟩:=H3.out.resolve_left (by rintro rfl;simp at hlt)
  obtain ⟨b2,rfl,hbl2,cc2⟩:=K3.out.resolve_left (by rintro rfl;simp at hlt);have c1:=cc p hlt;have c2:=cc2 p hlt;rw [agQ hlt];generalize tk[p].1=k at c2;generalize tk[p].2=s at c1
  have hs:(s.toList==t.toList)=(s.data.toList==t.data.toList):=by rw [ByteArray.toList_eq,ByteArray.toList_eq]
  clear cc cc2
  by_cases hk:k=4
  ·subst hk
   rw [show ((4:Int)==4)=true from rfl,Bool.true_and,←hs];clear hs
   go_enter Tryz.func146,Tryz.ntmps146
   go_wp2;go_ret;exact ⟨rfl,(Below.refl _ _).alloc (ain _) _⟩
  ·have hk4:(k==4)=false:=beq_eq_false_iff_ne.mpr hk
   rw [hk4,Bool.false_and];clear hs
   go_enter Tryz.func146,Tryz.ntmps146
   go_wp2;go_ret;exact ⟨rfl,(Below.refl _ _).alloc (ain _) _⟩
 ·rw [afk hlt]
  have hge:tk.length≤p:=by omega
  go_enter Tryz.func146,Tryz.ntmps146
  go_wp2;go_ret;exact ⟨rfl,(Below.refl _ _).alloc (ain _) _⟩
theorem wT (W K:Value) (tk:List Tk) (p d:Nat) (w:World) (hr:RowTk w W K tk) (hp:p≤100000):
  Calls Tryz.prog 175 #[.agg #[W,K, .int .i64 (p:Int), .int .i64 (d:Int)]] w fun e w'=>e= .returned (.int .i64 (rkT tk p))∧Below w.heap.size w w':=by
 obtain ⟨⟨ao,cap,rfl,h1,h2,h3⟩,bo,cp,rfl,k1,k2,k3⟩:=hr;unfold maxLen at h2 k2;have H3:=aim h3;have K3:=aim k3;clear h3 k3
 by_cases hlt:p<tk.length
 ·obtain ⟨b,rfl,hbl,cc⟩:=H3.out.resolve_left (by rintro rfl;simp at hlt)
  obtain ⟨b2,rfl,hbl2,cc2⟩:=K3.out.resolve_left (by rintro rfl;simp at hlt);have c1:=cc p hlt;have c2:=cc2 p hlt;rw [agR hlt];generalize tk[p].1=k at c2;generalize tk[p].2=s at c1;clear cc cc2
  by_cases hk:k=4
  ·subst hk
   rw [if_pos rfl]
   go_enter Tryz.func175,Tryz.ntmps175
   go_wp2_with fail;refine (fV s _).mono ?_;rintro e w' ⟨rfl,rfl⟩;go_wp2;go_ret;exact ⟨rfl,(Below.refl _ _).alloc (ain _) _⟩
  ·have hk4:(k !=4)=true:=bne_iff_ne.mpr hk
   rw [if_neg hk];clear hk
   go_enter Tryz.func175,Tryz.ntmps175
   go_wp2;go_ret;exact ⟨rfl,(Below.refl _ _).alloc (ain _) _⟩
 ·rw [afl hlt]
  have hge:tk.length≤p:=by omega
  go_enter Tryz.func175,Tryz.ntmps175
  go_wp2;go_ret;exact ⟨rfl,(Below.refl _ _).alloc (ain _) _⟩
def aad (v:Value):Prop:= ∃a n c,v= .slice a n c
theorem RowTk.sl {w:World} {W K:Value} {tk:List Tk} (h:RowTk w W K tk):aad W∧aad K:=by
 obtain ⟨⟨ao,cap,hv,-⟩,bo,cp,kv,-⟩:=h;exact ⟨⟨_,_,_,hv⟩,⟨_,_,_,kv⟩⟩
def ec (tk:List Tk) (j:Job) (p d:Nat) (W K:Value) (w:World) (e:Ending) (w':World):Prop:=
 ∃(v W' K':Value) (l:List Cl) (q:Nat) (d':Int) (ok:Bool),(aad W'∧aad K')∧e= .returned (.tuple #[v, .agg #[W',K', .int .i64 (q:Int), .int .i64 d'], .bool ok])∧w'.ownsRow w.heap.size 120 3 v l.length (ap l)∧l.length+p≤q∧q≤tk.length∧Below w.heap.size w w'∧
  ((ok=true∧W'=W∧K'=K∧d'=(d:Int)∧Rs tk j p d l q 0)∨(ok=false∧NoRd tk j p d))
def acD (tk:List Tk) (c:List UInt8) (p d:Nat) (W K:Value) (w:World) (e:Ending) (w':World):Prop:=
 ∃(v W' K':Value) (l:List Cl) (q m:Nat) (d':Int) (ok:Bool),(aad W'∧aad K')∧e= .returned (.tuple #[v, .int .i64 (m:Int), .agg #[W',K', .int .i64 (q:Int), .int .i64 d'], .bool ok])∧w'.ownsRow w.heap.size 120 3 v l.length (ap l)∧l.length+p≤q∧q≤tk.length∧Below w.heap.size w w'∧
  ((ok=true∧W'=W∧K'=K∧d'=(d:Int)∧Rs tk (.parts c 0 []) p d l q m)∨(ok=false∧NoRd tk (.parts c 0 []) p d))
abbrev StV (W K:Value) (p d:Nat):Value:= .agg #[W,K, .int .i64 (p:Int), .int .i64 (d:Int)]
structure AllR (tk:List Tk) (N:Nat):Prop where
 choice: ∀(p d:Nat) (W K:Value) (w:World),p≤tk.length→10*(tk.length-p)+8≤N→d≤41→RowTk w W K tk→Calls Tryz.prog 109 #[StV W K p d] w (ec tk .choice p d W K w)
 level: ∀(r p d:Nat) (W K:Value) (w:World),2≤r→r≤7→p≤tk.length→10*(tk.length-p)+(9-r)≤N→d≤41→RowTk w W K tk→Calls Tryz.prog 145 #[StV W K p d, .int .i64 (r:Int)] w (ec tk (.level r) p d W K w)
 unary: ∀(p d:Nat) (W K:Value) (w:World),p≤tk.length→10*(tk.length-p)+1≤N→d≤41→RowTk w W K tk→Calls Tryz.prog 174 #[StV W K p d] w (ec tk .unary p d W K w)
 atom: ∀(p d:Nat) (W K:Value) (w:World),p≤tk.length→10*(tk.length-p)+0≤N→d≤41→RowTk w W K tk→Calls Tryz.prog 199 #[StV W K p d] w (ec tk .atom p d W K w)
 parts: ∀(p d:Nat) (c:ByteArray) (W K:Value) (w:World),p≤tk.length→10*(tk.length-p)+9≤N→d≤41→RowTk w W K tk→Calls Tryz.prog 212 #[StV W K p d, .string c] w (acD tk c.data.toList p d W K w)
def BlkS (w:World) (g:Nat) (cs:Array Value):Prop:=w.heap[g]? =some (.cells cs 135 (0,0))
section
variable {w w':World} {g:Nat} {cs:Array Value}
theorem BlkS.lt (h:BlkS w g cs):g<w.heap.size:=by
 rcases Nat.lt_or_ge g w.heap.size with hlt|hge
 ·exact hlt
 ·unfold BlkS at h;rw [Array.getElem?_eq_none hge] at h;cases h
theorem BlkS.cell (h:BlkS w g cs) (i:Nat):w.cell? ⟨g,i,none⟩=cs[i]? :=cell_of_row w g i cs _ (0,0) h
theorem BlkS.frozen (h:BlkS w g cs) (i:Nat):w.frozen? ⟨g,i,none⟩=false:=by
 unfold BlkS at h
 simp [World.frozen?,h]
theorem BlkS.new (w:World) (cs:Array Value):BlkS (w.alloc (.cells cs 135)) w.heap.size cs:=heap_alloc_new w _
theorem BlkS.alloc (h:BlkS w g cs) (o:Obj):BlkS (w.alloc o) g cs:=(Below.heap_alloc w o g h.lt).trans h
theorem BlkS.grown {row:Option Nat} (h:BlkS w g cs) (hb:w.grownBy w' row) (hg:some g≠row):BlkS w' g cs:=(hb.block g h.lt hg).trans h
theorem BlkS.below (h:BlkS w g cs) (hb:Below w.heap.size w w'):BlkS w' g cs:=(hb.block g h.lt).trans h
theorem BlkS.set_ (h:BlkS w g cs) (i:Nat) (u:Value):BlkS (w.setCell ⟨g,i,none⟩ u) g (cs.setIfInBounds i u):=by
 unfold BlkS at h⊢
 simp [World.setCell,Array.getElem?_modify,h]
theorem BlkS.far (h:BlkS w g cs) {f:Nat} (i:Nat) (u:Value) (hf:f≠g):BlkS (w.setCell ⟨f,i,none⟩ u) g cs:=
 (Below.heap_setCell _ _ _ _ (fun e=>hf e.symm)).trans h
theorem BlkS.all {a b c d:Value} (h:BlkS w g #[a,b,c,d]):
  (w.cell? ⟨g,0,none⟩=some a∧w.cell? ⟨g,1,none⟩=some b∧w.cell? ⟨g,2,none⟩=some c∧w.cell? ⟨g,3,none⟩=some d)∧w.frozen? ⟨g,0,none⟩=false∧w.frozen? ⟨g,1,none⟩=false∧w.frozen? ⟨g,2,none⟩=false∧w.frozen? ⟨g,3,none⟩=false:=
 ⟨⟨h.cell 0,h.cell 1,h.cell 2,h.cell 3⟩,h.frozen 0,h.frozen 1,h.frozen 2,h.frozen 3⟩
end
theorem cY {w w1:World} {base:Nat} {e:TypeId} {size n:Nat} {v:Value} {xs:List Value} (h:w.ownsRow base e size v n xs) (hb:Below w.heap.size w w1):w1.ownsRow base e size v n xs:=
 h.kept (row:=none) ⟨hb.os,hb.tape,hb.output,hb.size,fun i hi _=>hb.block i hi⟩ (by cases hv:v.ownBlock with|none=>exact .inl rfl|some x=>exact .inr (by simp))
theorem bI {B:Nat} {a w:World} (h:Below B a w) {g:Nat} (hg:B≤g) (x0 x1 x2 x3:Value):Below B a ((((w.setCell ⟨g,0,none⟩ x0).setCell ⟨g,1,none⟩ x1).setCell ⟨g,2,none⟩ x2).setCell ⟨g,3,none⟩ x3):=
 (((h.setCell (p:=⟨g,0,none⟩) hg x0).setCell (p:=⟨g,1,none⟩) hg x1).setCell (p:=⟨g,2,none⟩) hg x2).setCell (p:=⟨g,3,none⟩) hg x3
theorem dm {w:World} {base:Nat} {e:TypeId} {size n:Nat} {v:Value} {xs:List Value} (h:w.ownsRow base e size v n xs) {g:Nat} (hg:g<base) (x0 x1 x2 x3:Value):((((w.setCell ⟨g,0,none⟩ x0).setCell ⟨g,1,none⟩ x1).setCell ⟨g,2,none⟩ x2).setCell ⟨g,3,none⟩ x3).ownsRow base e size v n xs:=by
 refine h.kept (row:=some g) ⟨rfl,rfl,rfl,by simp [World.setCell],fun b _ hn=> ?_⟩ (.inr (by intro he;have:=(h.lt _ he).1;omega))
 have hb:b≠g:=fun e=>hn (by rw [e])
 rw [Below.heap_setCell _ _ _ _ hb,Below.heap_setCell _ _ _ _ hb,Below.heap_setCell _ _ _ _ hb,Below.heap_setCell _ _ _ _ hb]
theorem acE:(Tryz.prog.info? 120).map (fun i=>(i.zero,i.size,i.bytes))=some (some (.agg #[.int .i64 0, .string ByteArray.empty, .int .i64 0]),3,32):=by kernel_rfl
theorem nC (tk:List Tk) (N:Nat) (ih:AllR tk N) (h20:tk.length≤20000) (p d:Nat) (W K:Value) (w:World) (hp:p≤tk.length) (hN:10*(tk.length-p)+0≤N) (hd:d≤41) (hr:RowTk w W K tk) (hu:bR tk p=false):
  Calls Tryz.prog 174 #[StV W K p d] w (ec tk .unary p d W K w):=by
 have hi1:isT tk p [33]=false:=by rw [bR,Bool.or_eq_false_iff] at hu;exact hu.1
 have hi2:isT tk p [45]=false:=by rw [bR,Bool.or_eq_false_iff] at hu;exact hu.2
 have HI1:=aim hi1;have HI2:=aim hi2;have HU:=aim hu;have HR:=aim hr;have IH:=aim ih;clear hi1 hi2 hu hr ih;obtain ⟨⟨xa,xn,xc,rfl⟩,⟨ya,yn,yc,rfl⟩⟩:=HR.out.sl;have BP0:=aim ((BlkS.new w #[(.slice xa xn xc),(.slice ya yn yc), .int .i64 (p:Int), .int .i64 (d:Int)]).alloc (.cells #[.slice none 0 0, .slice none 0 0, .int .i64 0, .int .i64 0] 135));have BR0:=aim (BlkS.new (w.alloc (.cells #[(.slice xa xn xc),(.slice ya yn yc), .int .i64 (p:Int), .int .i64 (d:Int)] 135)) #[.slice none 0 0, .slice none 0 0, .int .i64 0, .int .i64 0]);have HB0:=aim (((Below.refl w.heap.size w).alloc (ain _) (.cells #[(.slice xa xn xc),(.slice ya yn yc), .int .i64 (p:Int), .int .i64 (d:Int)] 135)).alloc (by simp) (.cells #[.slice none 0 0, .slice none 0 0, .int .i64 0, .int .i64 0] 135))
 have hss:(w.alloc (.cells #[(.slice xa xn xc),(.slice ya yn yc), .int .i64 (p:Int), .int .i64 (d:Int)] 135)).heap.size=w.heap.size+1:=by simp
 rw [hss] at BR0;clear hss
 go_enter Tryz.func174,Tryz.ntmps174
 go_wp2_with fail;refine (dl (.slice xa xn xc) (.slice ya yn yc) tk p d ⟨#[33]⟩ _ (HR.out.mono HB0.out) (by omega)).mono ?_;rintro e w1 ⟨rfl,hb1⟩;rw [HI1.out];have BP1:=aim (BP0.out.below hb1);have BR1:=aim (BR0.out.below hb1);have HB1:=aim (HB0.out.trans (hb1.mono HB0.out.size));obtain ⟨⟨c0,c1,c2,c3⟩,-⟩:=BP1.out.all;clear hb1 BP0 BR0 HB0;go_wp2_with fail;refine (dl (.slice xa xn xc) (.slice ya yn yc) tk p d ⟨#[45]⟩ _ (HR.out.mono HB1.out) (by omega)).mono ?_;rintro e w2 ⟨rfl,hb2⟩;rw [HI2.out];have BP2:=aim (BP1.out.below hb2);have BR2:=aim (BR1.out.below hb2);have HB2:=aim (HB1.out.trans (hb2.mono HB1.out.size));obtain ⟨⟨d0,d1,d2,d3⟩,-⟩:=BP2.out.all;clear hb2 BP1 BR1 HB1 c0 c1 c2 c3;go_wp2_with fail;refine (IH.out.atom p d (.slice xa xn xc) (.slice ya yn yc) _ hp hN hd (HR.out.mono HB2.out)).mono ?_;rintro e w3 ⟨v,W',K',l,q,d',ok,⟨⟨aw,nw,cw,rfl⟩,⟨ak,nk,ck,rfl⟩⟩,rfl,ho,hlq,hq,hb3,hres⟩;have BR3:=aim (BR2.out.below hb3);have HB3:=aim (HB2.out.trans (hb3.mono HB2.out.size));have hlt:=BR2.out.lt;obtain ⟨⟨r0,r1,r2,r3⟩,z0,z1,z2,z3⟩:=BR3.out.all;have HE:=aim (bI HB3.out (g:=w.heap.size+1) (by omega) (.slice aw nw cw) (.slice ak nk ck) (.int .i64 (q:Int)) (.int .i64 d'));have HO:=aim ((dm ho (g:=w.heap.size+1) hlt (.slice aw nw cw) (.slice ak nk ck) (.int .i64 (q:Int)) (.int .i64 d')).mono HB2.out.size);have HRS:=aim (show (ok=true∧(Value.slice aw nw cw)=(.slice xa xn xc)∧(Value.slice ak nk ck)=(.slice ya yn yc)∧d'=(d:Int)∧Rs tk .unary p d l q 0)∨(ok=false∧NoRd tk .unary p d) from hres.elim (fun ⟨a,b,c,e,f⟩=> .inl ⟨a,b,c,e, .plain HU.out f⟩) (fun ⟨a,b⟩=> .inr ⟨a,uU HU.out b⟩));clear ho hb3 hres BP2 BR2 HB2 d0 d1 d2 d3;go_wp2;exact bodyPost_ret (v:= .tuple #[v, .agg #[(.slice aw nw cw),(.slice ak nk ck), .int .i64 (q:Int), .int .i64 d'], .bool ok]) (by simp [results,Tryz.results174,go_sem,r0,r1,r2,r3]) rfl ⟨v,_,_,l,q,d',ok,⟨⟨_,_,_,rfl⟩,⟨_,_,_,rfl⟩⟩,rfl,HO.out,hlq,hq,HE.out,HRS.out⟩
def Begun (w:World) (W K:Value) (p d:Nat) (w1:World):Prop:=
 BlkS w1 w.heap.size #[W,K, .int .i64 (p:Int), .int .i64 (d:Int)]∧BlkS w1 (w.heap.size+1) #[.slice none 0 0, .slice none 0 0, .int .i64 0, .int .i64 0]∧Below w.heap.size w w1
theorem Begun.start (w:World) (W K:Value) (p d:Nat):Begun w W K p d ((w.alloc (.cells #[W,K, .int .i64 (p:Int), .int .i64 (d:Int)] 135)).alloc (.cells #[.slice none 0 0, .slice none 0 0, .int .i64 0, .int .i64 0] 135)):=by
 refine ⟨(BlkS.new w _).alloc _, ?_,((Below.refl w.heap.size w).alloc (ain _) _).alloc (by simp) _⟩;have:=BlkS.new (w.alloc (.cells #[W,K, .int .i64 (p:Int), .int .i64 (d:Int)] 135)) #[.slice none 0 0, .slice none 0 0, .int .i64 0, .int .i64 0]
 have hss:(w.alloc (.cells #[W,K, .int .i64 (p:Int), .int .i64 (d:Int)] 135)).heap.size=w.heap.size+1:=by simp
 rw [hss] at this;exact this
theorem Begun.below {w w1 w2:World} {W K:Value} {p d:Nat} (h:Begun w W K p d w1) (hb:Below w1.heap.size w1 w2):Begun w W K p d w2:=⟨h.1.below hb,h.2.1.below hb,h.2.2.trans (hb.mono h.2.2.size)⟩
theorem BlkS.put4 {w:World} {g:Nat} {a b c d:Value} (h:BlkS w g #[a,b,c,d]) (x0 x1 x2 x3:Value):BlkS ((((w.setCell ⟨g,0,none⟩ x0).setCell ⟨g,1,none⟩ x1).setCell ⟨g,2,none⟩ x2).setCell ⟨g,3,none⟩ x3) g #[x0,x1,x2,x3]:=by
 have:=(((h.set_ 0 x0).set_ 1 x1).set_ 2 x2).set_ 3 x3
 simpa using this
theorem BlkS.drew {w:World} {g:Nat} {cs:Array Value} (h:BlkS w g cs):BlkS w.drew g cs:=h
theorem Begun.step {w w1:World} {W K:Value} {p d:Nat} (h:Begun w W K p d w1) (y2 y3 x0 x1 x2 x3:Value) (o:Obj) (w2 w3 w4:World) (e2:w2=(w1.setCell ⟨w.heap.size,2,none⟩ y2).setCell ⟨w.heap.size,3,none⟩ y3)
  (e3:w3=(((w2.setCell ⟨w.heap.size+1,0,none⟩ x0).setCell ⟨w.heap.size+1,1,none⟩ x1).setCell ⟨w.heap.size+1,2,none⟩ x2).setCell ⟨w.heap.size+1,3,none⟩ x3) (e4:w4=(w3.alloc o).drew):
  BlkS w4 (w.heap.size+1) #[x0,x1,x2,x3]∧Below w.heap.size w w4:=by
 obtain ⟨h1,h2,h3⟩:=h;have hb2:Below w.heap.size w w2:=e2▸(h3.setCell (p:=⟨w.heap.size,2,none⟩) (ain _) y2).setCell (p:=⟨w.heap.size,3,none⟩) (ain _) y3;have hk2:BlkS w2 (w.heap.size+1) #[.slice none 0 0, .slice none 0 0, .int .i64 0, .int .i64 0]:=e2▸(h2.far (f:=w.heap.size) 2 y2 (by omega)).far (f:=w.heap.size) 3 y3 (by omega);have hb3:Below w.heap.size w w3:=e3▸bI hb2 (g:=w.heap.size+1) (by omega) x0 x1 x2 x3;have hk3:BlkS w3 (w.heap.size+1) #[x0,x1,x2,x3]:=e3▸hk2.put4 x0 x1 x2 x3;subst e4;exact ⟨(hk3.alloc o).drew,(hb3.alloc hb3.size o).drew⟩
theorem ij {w3:World} {B g:Nat} (hg:w3.heap.size=g) (hB:B≤g):((w3.alloc (.cells #[] 120)).drew).ownsRow B 120 3 (.slice (some ⟨g,0,none⟩) 0 0) 0 (ap []):=by
 subst hg;exact (World.ownsRow_lit (e:=120) (size:=3) (base:=B) w3 #[] 0 hB (by unfold maxLen;omega) rfl).drew
theorem oM (tk:List Tk) (h20:tk.length≤20000) (p d:Nat) (W K:Value) (w:World) (hp:p≤tk.length) (hd:d≤41) (hd41: ¬d+1≤41) (hr:RowTk w W K tk) (hu:isT tk p [33]=true):
  Calls Tryz.prog 174 #[StV W K p d] w (ec tk .unary p d W K w):=by
 obtain rfl:d=41:=by omega
 have hplt:=bV hu;have HI1:=aim hu;have HR:=aim hr;have HNO:=aim (pL (tk:=tk) (p:=p) (d:=41) (by rw [bR,hu];rfl) hd41);obtain ⟨⟨xa,xn,xc,rfl⟩,⟨ya,yn,yc,rfl⟩⟩:=hr.sl;obtain ⟨⟨ao,cap,hv,q1,q2,q3⟩,-⟩:=hr;simp only [Value.slice.injEq] at hv;obtain ⟨rfl,rfl,rfl⟩:=hv;obtain ⟨b,rfl,hbl,cc⟩:=q3.resolve_left (by rintro rfl;simp at hplt);unfold maxLen at q2;have CC:=aim (cc p hplt);generalize tk[p].2=s at CC;clear hu cc hd41 q3;have B0:=aim (Begun.start w (.slice (some ⟨b,0,none⟩) tk.length xc) (.slice ya yn yc) p 41)
 go_enter Tryz.func174,Tryz.ntmps174
 go_wp2_with fail;refine (dl _ _ tk p 41 ⟨#[33]⟩ _ (HR.out.mono B0.out.2.2) (by omega)).mono ?_;rintro e w1 ⟨rfl,hb1⟩;rw [HI1.out];have B1:=aim (B0.out.below hb1);obtain ⟨⟨c0,c1,c2,c3⟩,f0,f1,f2,f3⟩:=B1.out.1.all;have hw0:w1.cell? ⟨b,p,none⟩=some (.string s):=(B1.out.2.2.cell (p:=⟨b,p,none⟩) hbl).trans CC.out;clear hb1 B0;go_wp2_with fail;obtain ⟨⟨r0,r1,r2,r3⟩,z0,z1,z2,z3⟩:=B1.out.2.1.all
 have n1: ¬w.heap.size=w.heap.size+1:=by omega
 have hM2:w.heap.size+1<w1.heap.size:=B1.out.2.1.lt
 have hM1:w.heap.size<w1.heap.size:=by omega
 have n2: ¬w.heap.size+1=w1.heap.size:=by omega
 have n3: ¬w.heap.size=w1.heap.size:=by omega
 go_region
 all_goals
  go_wp2;obtain ⟨hE,hB⟩:=Begun.step B1.out (.int .i64 ((p:Int)+1)) (.int .i64 42) (.slice (some ⟨b,0,none⟩) tk.length xc) (.slice ya yn yc) (.int .i64 ((p:Int)+1)) (.int .i64 42) (.cells #[] 120) _ _ _ rfl rfl rfl;obtain ⟨⟨e0,e1,e2,e3⟩,-⟩:=hE.all;refine bodyPost_ret (v:= .tuple #[.slice (some ⟨w1.heap.size,0,none⟩) 0 0, .agg #[.slice (some ⟨b,0,none⟩) tk.length xc, .slice ya yn yc, .int .i64 ((p:Int)+1), .int .i64 42], .bool false]) (by simp [results,Tryz.results174,go_sem,e0,e1,e2,e3]) rfl ⟨_,_,_,[],p+1,42,false,⟨⟨_,_,_,rfl⟩,⟨_,_,_,rfl⟩⟩,rfl,ij (by simp [World.setCell]) (by omega),by simp only [List.length_nil];omega,by omega,hB, .inr ⟨rfl,HNO.out⟩⟩
theorem nD (tk:List Tk) (h20:tk.length≤20000) (p d:Nat) (W K:Value) (w:World) (hp:p≤tk.length) (hd:d≤41) (hd41: ¬d+1≤41) (hr:RowTk w W K tk) (hu0:isT tk p [33]=false) (hu:isT tk p [45]=true):
  Calls Tryz.prog 174 #[StV W K p d] w (ec tk .unary p d W K w):=by
 obtain rfl:d=41:=by omega
 have hplt:=bV hu;have HI0:=aim hu0;have HI1:=aim hu;have HR:=aim hr;have HNO:=aim (pL (tk:=tk) (p:=p) (d:=41) (by rw [bR,hu0,hu];rfl) hd41);obtain ⟨⟨xa,xn,xc,rfl⟩,⟨ya,yn,yc,rfl⟩⟩:=hr.sl;obtain ⟨⟨ao,cap,hv,q1,q2,q3⟩,-⟩:=hr;simp only [Value.slice.injEq] at hv;obtain ⟨rfl,rfl,rfl⟩:=hv;obtain ⟨b,rfl,hbl,cc⟩:=q3.resolve_left (by rintro rfl;simp at hplt);unfold maxLen at q2;have CC:=aim (cc p hplt);generalize tk[p].2=s at CC;clear hu hu0 cc hd41 q3;have B0:=aim (Begun.start w (.slice (some ⟨b,0,none⟩) tk.length xc) (.slice ya yn yc) p 41)
 go_enter Tryz.func174,Tryz.ntmps174
 go_wp2_with fail;refine (dl _ _ tk p 41 ⟨#[33]⟩ _ (HR.out.mono B0.out.2.2) (by omega)).mono ?_;rintro e w0 ⟨rfl,hb0⟩;rw [HI0.out];have B00:=aim (B0.out.below hb0);obtain ⟨⟨k0,k1,k2,k3⟩,-⟩:=B00.out.1.all;clear hb0 B0;go_wp2_with fail;refine (dl _ _ tk p 41 ⟨#[45]⟩ _ (HR.out.mono B00.out.2.2) (by omega)).mono ?_;rintro e w1 ⟨rfl,hb1⟩;rw [HI1.out];have B1:=aim (B00.out.below hb1);obtain ⟨⟨c0,c1,c2,c3⟩,f0,f1,f2,f3⟩:=B1.out.1.all;have hw0:w1.cell? ⟨b,p,none⟩=some (.string s):=(B1.out.2.2.cell (p:=⟨b,p,none⟩) hbl).trans CC.out;clear hb1 B00 k0 k1 k2 k3;go_wp2_with fail;obtain ⟨⟨r0,r1,r2,r3⟩,z0,z1,z2,z3⟩:=B1.out.2.1.all
 have n1: ¬w.heap.size=w.heap.size+1:=by omega
 have hM2:w.heap.size+1<w1.heap.size:=B1.out.2.1.lt
 have hM1:w.heap.size<w1.heap.size:=by omega
 have n2: ¬w.heap.size+1=w1.heap.size:=by omega
 have n3: ¬w.heap.size=w1.heap.size:=by omega
 go_region
 all_goals
  go_wp2;obtain ⟨hE,hB⟩:=Begun.step B1.out (.int .i64 ((p:Int)+1)) (.int .i64 42) (.slice (some ⟨b,0,none⟩) tk.length xc) (.slice ya yn yc) (.int .i64 ((p:Int)+1)) (.int .i64 42) (.cells #[] 120) _ _ _ rfl rfl rfl;obtain ⟨⟨e0,e1,e2,e3⟩,-⟩:=hE.all;refine bodyPost_ret (v:= .tuple #[.slice (some ⟨w1.heap.size,0,none⟩) 0 0, .agg #[.slice (some ⟨b,0,none⟩) tk.length xc, .slice ya yn yc, .int .i64 ((p:Int)+1), .int .i64 42], .bool false]) (by simp [results,Tryz.results174,go_sem,e0,e1,e2,e3]) rfl ⟨_,_,_,[],p+1,42,false,⟨⟨_,_,_,rfl⟩,⟨_,_,_,rfl⟩⟩,rfl,ij (by simp [World.setCell]) (by omega),by simp only [List.length_nil];omega,by omega,hB, .inr ⟨rfl,HNO.out⟩⟩
theorem dC {P:Program} {w:World} {ops:Array Oper} {o:Oper} {a:Act} {K:Act→World→Prop} {Q:Exit→Act→World→Prop} {E:Prop} (hgd:o.guard=none) (s x:Operand) (t:TypeId)
  (ho:o.op= .call {callee:= .builtin .append,args:= #[s,x],argTypes:= #[t,t]})
  (base:Nat) (e:TypeId) (i:TypeInfo) (z:Value) (size bytes:Nat) (ht:P.underlying t=some (.slice e)) (hi:P.info? e=some i) (hz:i.zero=some z)
  (hsize:i.size=size) (hby:i.bytes=bytes) (hzs:z.cells.size=size) (hsz:0<size)
  (v:Value) (n:Nat) (xs:List Value) (hs:a.eval s=v) (hown:w.ownsRow base e size v n xs)
  (base2:Nat) (u:Value) (m:Nat) (ys:List Value) (hx:a.eval x=u) (hsrc:w.ownsRow base2 e size u m ys) (h1: ∀u∈ys,u.oneCell'=true)
  (h63:n+m≤maxLen) (hbytes:(n+m)*bytes≤140737488355328) (hbase:base≤w.heap.size)
  (h: ∀v' w',w'.ownsRow base e size v' (n+m) (xs++ys)→w.grownBy w' v.ownBlock→K (a.put o.dst v') w'):
  if Region.wanted o (yielded ops a.tmps)=true then Oper.wp P o a w K Q else E:=by
 have hw:Region.wanted o (yielded ops a.tmps)=true:=by simp [Region.wanted,hgd]
 rw [if_pos hw]
 rcases hsrc.2 with ⟨rfl,rfl⟩|⟨g,cap,cur,rfl,-⟩
 ·have hy:ys=[]:=List.eq_nil_of_length_eq_zero (by have:=hsrc.1;omega)
  subst hy;have hrun:=run_append_owned_none (P:=P) (w:=w) base t o.type e i size ht hi v n xs hown;unfold Oper.wp
  simp [execOp,ho,resolve,invoke,builtin,hs,hx,hrun,Result.andThen]
  exact h v w (by simpa using hown) (World.grownBy.refl _ _)
 ·refine wp_append_own w s x t ho base e i z size bytes ht hi hz hsize hby hzs hsz v n xs hs hown ⟨g,0,none⟩ m cap ys hx hsrc.1 ?_ h1 h63 hbytes hbase (fun v' w' a1 a2 _=>h v' w' a1 a2)
  intro j y hj
  have hlt:j<ys.length:=by
   by_cases hk:j<ys.length
   ·exact hk
   ·rw [List.getElem?_eq_none (by omega)] at hj;cases hj
  rw [agr,hsrc.cellAt j (by have:=hsrc.1;omega)];exact hj
theorem tW {tk:List Tk} {p:Nat} {c:List UInt8} (h:isT tk p c=true) (hp:p<tk.length):tk[p]? =some (4,tk[p].2):=by
 unfold isT at h;rw [List.getElem?_eq_getElem hp] at h⊢;simp only [Bool.and_eq_true,beq_iff_eq] at h;rw [←h.1]
theorem Begun.gone {w w1 w2:World} {W K:Value} {p d:Nat} (h:Begun w W K p d w1) (y2 y3:Value) (e2:w2=(w1.setCell ⟨w.heap.size,2,none⟩ y2).setCell ⟨w.heap.size,3,none⟩ y3):
  BlkS w2 w.heap.size #[W,K,y2,y3]∧BlkS w2 (w.heap.size+1) #[.slice none 0 0, .slice none 0 0, .int .i64 0, .int .i64 0]∧Below w.heap.size w w2:=by
 obtain ⟨h1,h2,h3⟩:=h;exact ⟨e2▸(by simpa using (h1.set_ 2 y2).set_ 3 y3),e2▸(BlkS.far h2 (f:=w.heap.size) 2 y2 (by omega)).far (f:=w.heap.size) 3 y3 (by omega),e2▸(h3.setCell (p:=⟨w.heap.size,2,none⟩) (ain _) y2).setCell (p:=⟨w.heap.size,3,none⟩) (ain _) y3⟩
theorem BlkS.inner {w3 w4:World} {B:Nat} {w:World} {g k:Nat} {cs:Array Value} (hk:BlkS w3 k cs) (hb:Below B w w3) (hg:w3.heap.size=g) (hB:B≤g) {v:Value} {base n:Nat} {xs:List Value} (ho:w3.ownsRow base 120 3 v n xs) (x0 x1 x2 x3:Value)
  (e4:w4=w3.alloc (.cells #[x0,x1,x2,x3] 135)):
  BlkS w4 k cs∧BlkS w4 g #[x0,x1,x2,x3]∧Below B w w4∧w4.ownsRow base 120 3 v n xs∧w4.heap.size=g+1:=by
 subst hg e4;exact ⟨hk.alloc _,BlkS.new w3 _,hb.alloc hB _,ho.alloc _,by simp⟩
theorem BlkS.appended {w4 w5:World} {k g:Nat} {cs:Array Value} (hk:BlkS w4 k cs) (hg:w4.heap.size=g) {o:Obj} (h5:((w4.alloc o).drew).grownBy w5 (Value.slice (some ⟨g,0,none⟩) 1 1).ownBlock):BlkS w5 k cs:=
 ((hk.alloc o).drew).grown h5 (by have:=hk.lt;simp [Value.ownBlock];omega)
theorem fR {w w4 w5:World} {B g:Nat} (hb:Below B w w4) (hB:B≤w4.heap.size) (hg:w4.heap.size=g) {o:Obj} (h5:((w4.alloc o).drew).grownBy w5 (Value.slice (some ⟨g,0,none⟩) 1 1).ownBlock):Below B w w5:=
 ((hb.alloc hB o).drew).grown h5 (by simp;omega) (by simp [Value.ownBlock];omega)
theorem mI {w:World} {B:Nat} {v:Value} {k:Int} {s:ByteArray} {n:Int} {l:List Cl} (h:w.ownsRow B 120 3 v (1+l.length) ([.int .i64 k, .string s, .int .i64 n]++ap l)):w.ownsRow B 120 3 v ((k,s,n)::l).length (ap ((k,s,n)::l)):=by
 rw [List.length_cons,Nat.add_comm];exact h
theorem jz {w4:World} {B g:Nat} (hB:B≤w4.heap.size) (hg:w4.heap.size=g) {x0 x1 x2:Value}:((w4.alloc (.cells #[x0,x1,x2] 120)).drew).ownsRow B 120 3 (.slice (some ⟨g,0,none⟩) 1 1) 1 [x0,x1,x2]:=by
 subst hg;exact (World.ownsRow_lit (e:=120) (size:=3) (base:=B) w4 #[x0,x1,x2] 1 hB (by unfold maxLen;omega) rfl).drew
theorem oN (tk:List Tk) (N:Nat) (ih:AllR tk N) (h20:tk.length≤20000) (p d:Nat) (W K:Value) (w:World) (hp:p≤tk.length) (hN:10*(tk.length-p)+0≤N) (hd:d+1≤41) (hr:RowTk w W K tk) (hu:isT tk p [33]=true):
  Calls Tryz.prog 174 #[StV W K p d] w (ec tk .unary p d W K w):=by
 have hplt:=bV hu;have hinf:=acE;have HI1:=aim hu;have HR:=aim hr;have IH:=aim ih;have HU:=aim (show bR tk p=true by rw [bR,hu];rfl);obtain ⟨⟨xa,xn,xc,rfl⟩,⟨ya,yn,yc,rfl⟩⟩:=hr.sl;obtain ⟨⟨ao,cap,hv,q1,q2,q3⟩,-⟩:=hr;simp only [Value.slice.injEq] at hv;obtain ⟨rfl,rfl,rfl⟩:=hv;obtain ⟨b,rfl,hbl,cc⟩:=q3.resolve_left (by rintro rfl;simp at hplt);unfold maxLen at q2;have CC:=aim (cc p hplt);have hsk:=tW hu hplt;generalize tk[p].2=s at CC hsk;have HSK:=aim hsk;clear hsk;clear hu cc q3 ih;have B0:=aim (Begun.start w (.slice (some ⟨b,0,none⟩) tk.length xc) (.slice ya yn yc) p d)
 go_enter Tryz.func174,Tryz.ntmps174
 go_wp2_with fail;refine (dl _ _ tk p d ⟨#[33]⟩ _ (HR.out.mono B0.out.2.2) (by omega)).mono ?_;rintro e w1 ⟨rfl,hb1⟩;rw [HI1.out];have B1:=aim (B0.out.below hb1);obtain ⟨⟨c0,c1,c2,c3⟩,f0,f1,f2,f3⟩:=B1.out.1.all;have hw0:w1.cell? ⟨b,p,none⟩=some (.string s):=(B1.out.2.2.cell (p:=⟨b,p,none⟩) hbl).trans CC.out;clear hb1 B0
 have hdi: ¬(41:Int)<(d:Int)+1:=by omega
 go_wp2_with fail;obtain ⟨hgs,hg0,hg1⟩:=Begun.gone B1.out (.int .i64 ((p:Int)+1)) (.int .i64 ((d:Int)+1)) rfl;have BP2:=aim hgs;have BR2:=aim hg0;have HB2:=aim hg1;clear hgs hg0 hg1;refine ((show Calls Tryz.prog 174 #[.agg #[.slice (some ⟨b,0,none⟩) tk.length xc, .slice ya yn yc, .int .i64 ((p:Int)+1), .int .i64 ((d:Int)+1)]] _ _ from IH.out.unary (p+1) (d+1) _ _ _ (by omega) (by omega) hd (HR.out.mono HB2.out))).mono ?_;rintro e w3 ⟨v,W',K',l,q,d',ok,⟨⟨aw,nw,cw,rfl⟩,⟨ak,nk,ck,rfl⟩⟩,rfl,ho,hlq,hq,hb3,hres⟩;have m3:=(BP2.out.below hb3).cell 3
 replace m3:w3.cell? ⟨w.heap.size,3,none⟩=some (.int .i64 ((d:Int)+1)):=m3
 have BR3:=aim (BR2.out.below hb3);have HB3:=aim (HB2.out.trans (hb3.mono HB2.out.size));have HO:=aim ho;have HRES:=aim hres;clear ho hres hb3 BR2 BP2;have hlt3:=BR3.out.lt
 have hlt4:w.heap.size<w3.heap.size:=by omega
 go_wp2_with fail;obtain ⟨k1,k2,k3,k4,k5⟩:=BlkS.inner BR3.out HB3.out rfl (by have:=HB3.out.size;omega) HO.out (.slice aw nw cw) (.slice ak nk ck) (.int .i64 (q:Int)) (.int .i64 (d:Int)) rfl;have BR4:=aim k1;have BI4:=aim k2;have HB4:=aim k3;have HO4:=aim k4;obtain ⟨⟨g0,g1,g2,g3⟩,-⟩:=k2.all;obtain ⟨⟨r0,r1,r2,r3⟩,z0,z1,z2,z3⟩:=k1.all;clear k1 k2 k3 k4 HO BR3 HB3
 rcases hi:Tryz.prog.info? 120 with _|i0
 ·simp [hi] at hinf
 simp only [hi,Option.map_some,Option.some.injEq,Prod.mk.injEq] at hinf;obtain ⟨hz0,hz1,hz2⟩:=hinf
 have hlen:l.length≤20000:=by omega
 go_region_law
  ((refine dC (by rfl) _ _ _ (by rfl) (w.heap.size+2) 120 i0 (.agg #[.int .i64 0, .string ByteArray.empty, .int .i64 0]) 3 32 Tryz.underlying23 hi hz0 hz1 hz2 rfl (by decide) _ 1 [.int .i64 7, .string s, .int .i64 1] (by rfl) (jz (by omega) k5) _ v l.length (ap l) (by rfl) ((HO4.out.alloc _).drew) (aE _) (by unfold maxLen;omega) (by omega) (by simp;omega) ?_;intro v5 w5 hown5 hgrow5;obtain ⟨⟨a0,a1,a2,a3⟩,-⟩:=(BI4.out.appended k5 hgrow5).all;obtain ⟨⟨b0,b1,b2,b3⟩,y0,y1,y2,y3⟩:=(BR4.out.appended k5 hgrow5).all))
 all_goals
  have HO5:=aim hown5;have HG5:=aim hgrow5;clear hown5 hgrow5;have HB5:=aim (fR HB4.out (by omega) k5 HG5.out);have HE:=aim (bI HB5.out (g:=w.heap.size+1) (by omega) (.slice aw nw cw) (.slice ak nk ck) (.int .i64 (q:Int)) (.int .i64 (d:Int)));have HOO:=aim ((dm HO5.out (g:=w.heap.size+1) (by omega) (.slice aw nw cw) (.slice ak nk ck) (.int .i64 (q:Int)) (.int .i64 (d:Int))).mono (base':=w.heap.size) (by omega));obtain ⟨⟨e0,e1,e2,e3⟩,-⟩:=((BR4.out.appended k5 HG5.out).put4 (.slice aw nw cw) (.slice ak nk ck) (.int .i64 (q:Int)) (.int .i64 (d:Int))).all;go_wp2
  exact bodyPost_ret (v:= .tuple #[v5, .agg #[.slice aw nw cw, .slice ak nk ck, .int .i64 (q:Int), .int .i64 (d:Int)], .bool ok]) (by simp [results,Tryz.results174,go_sem,e0,e1,e2,e3]) rfl
   ⟨v5,_,_,(7,s,1)::l,q,(d:Int),ok,⟨⟨_,_,_,rfl⟩,⟨_,_,_,rfl⟩⟩,rfl,(mI HOO.out),by simp only [List.length_cons];omega,hq,HE.out,
    HRES.out.elim (fun ⟨a,b,c,_,f⟩=> .inl ⟨a,b,c,rfl, .sign HU.out HSK.out hd f⟩) (fun ⟨a,b⟩=> .inr ⟨a,uS HU.out b⟩)⟩
theorem nE (tk:List Tk) (N:Nat) (ih:AllR tk N) (h20:tk.length≤20000) (p d:Nat) (W K:Value) (w:World) (hp:p≤tk.length) (hN:10*(tk.length-p)+0≤N) (hd:d+1≤41) (hr:RowTk w W K tk) (hu0:isT tk p [33]=false) (hu:isT tk p [45]=true):
  Calls Tryz.prog 174 #[StV W K p d] w (ec tk .unary p d W K w):=by
 have hplt:=bV hu;have hinf:=acE;have HI0:=aim hu0;have HI1:=aim hu;have HR:=aim hr;have IH:=aim ih;have HU:=aim (show bR tk p=true by rw [bR,hu0,hu];rfl);obtain ⟨⟨xa,xn,xc,rfl⟩,⟨ya,yn,yc,rfl⟩⟩:=hr.sl;obtain ⟨⟨ao,cap,hv,q1,q2,q3⟩,-⟩:=hr;simp only [Value.slice.injEq] at hv;obtain ⟨rfl,rfl,rfl⟩:=hv;obtain ⟨b,rfl,hbl,cc⟩:=q3.resolve_left (by rintro rfl;simp at hplt);unfold maxLen at q2;have CC:=aim (cc p hplt);have hsk:=tW hu hplt;generalize tk[p].2=s at CC hsk;have HSK:=aim hsk;clear hsk;clear hu hu0 cc q3 ih;have B0:=aim (Begun.start w (.slice (some ⟨b,0,none⟩) tk.length xc) (.slice ya yn yc) p d)
 go_enter Tryz.func174,Tryz.ntmps174
 go_wp2_with fail;refine (dl _ _ tk p d ⟨#[33]⟩ _ (HR.out.mono B0.out.2.2) (by omega)).mono ?_;rintro e w0 ⟨rfl,hb0⟩;rw [HI0.out];have B00:=aim (B0.out.below hb0);obtain ⟨⟨k0,k1,k2,k3⟩,-⟩:=B00.out.1.all;clear hb0 B0;go_wp2_with fail;refine (dl _ _ tk p d ⟨#[45]⟩ _ (HR.out.mono B00.out.2.2) (by omega)).mono ?_;rintro e w1 ⟨rfl,hb1⟩;rw [HI1.out];have B1:=aim (B00.out.below hb1);obtain ⟨⟨c0,c1,c2,c3⟩,f0,f1,f2,f3⟩:=B1.out.1.all;have hw0:w1.cell? ⟨b,p,none⟩=some (.string s):=(B1.out.2.2.cell (p:=⟨b,p,none⟩) hbl).trans CC.out;clear hb1 B00 k0 k1 k2 k3
 have hdi: ¬(41:Int)<(d:Int)+1:=by omega
 go_wp2_with fail;obtain ⟨hgs,hg0,hg1⟩:=Begun.gone B1.out (.int .i64 ((p:Int)+1)) (.int .i64 ((d:Int)+1)) rfl;have BP2:=aim hgs;have BR2:=aim hg0;have HB2:=aim hg1;clear hgs hg0 hg1;refine ((show Calls Tryz.prog 174 #[.agg #[.slice (some ⟨b,0,none⟩) tk.length xc, .slice ya yn yc, .int .i64 ((p:Int)+1), .int .i64 ((d:Int)+1)]] _ _ from IH.out.unary (p+1) (d+1) _ _ _ (by omega) (by omega) hd (HR.out.mono HB2.out))).mono ?_;rintro e w3 ⟨v,W',K',l,q,d',ok,⟨⟨aw,nw,cw,rfl⟩,⟨ak,nk,ck,rfl⟩⟩,rfl,ho,hlq,hq,hb3,hres⟩;have m3:=(BP2.out.below hb3).cell 3
 replace m3:w3.cell? ⟨w.heap.size,3,none⟩=some (.int .i64 ((d:Int)+1)):=m3
 have BR3:=aim (BR2.out.below hb3);have HB3:=aim (HB2.out.trans (hb3.mono HB2.out.size));have HO:=aim ho;have HRES:=aim hres;clear ho hres hb3 BR2 BP2;have hlt3:=BR3.out.lt
 have hlt4:w.heap.size<w3.heap.size:=by omega
 go_wp2_with fail;obtain ⟨k1,k2,k3,k4,k5⟩:=BlkS.inner BR3.out HB3.out rfl (by have:=HB3.out.size;omega) HO.out (.slice aw nw cw) (.slice ak nk ck) (.int .i64 (q:Int)) (.int .i64 (d:Int)) rfl;have BR4:=aim k1;have BI4:=aim k2;have HB4:=aim k3;have HO4:=aim k4;obtain ⟨⟨g0,g1,g2,g3⟩,-⟩:=k2.all;obtain ⟨⟨r0,r1,r2,r3⟩,z0,z1,z2,z3⟩:=k1.all;clear k1 k2 k3 k4 HO BR3 HB3
 rcases hi:Tryz.prog.info? 120 with _|i0
 ·simp [hi] at hinf
 simp only [hi,Option.map_some,Option.some.injEq,Prod.mk.injEq] at hinf;obtain ⟨hz0,hz1,hz2⟩:=hinf
 have hlen:l.length≤20000:=by omega
 go_region_law
  ((refine dC (by rfl) _ _ _ (by rfl) (w.heap.size+2) 120 i0 (.agg #[.int .i64 0, .string ByteArray.empty, .int .i64 0]) 3 32 Tryz.underlying23 hi hz0 hz1 hz2 rfl (by decide) _ 1 [.int .i64 7, .string s, .int .i64 1] (by rfl) (jz (by omega) k5) _ v l.length (ap l) (by rfl) ((HO4.out.alloc _).drew) (aE _) (by unfold maxLen;omega) (by omega) (by simp;omega) ?_;intro v5 w5 hown5 hgrow5;obtain ⟨⟨a0,a1,a2,a3⟩,-⟩:=(BI4.out.appended k5 hgrow5).all;obtain ⟨⟨b0,b1,b2,b3⟩,y0,y1,y2,y3⟩:=(BR4.out.appended k5 hgrow5).all))
 all_goals
  have HO5:=aim hown5;have HG5:=aim hgrow5;clear hown5 hgrow5;have HB5:=aim (fR HB4.out (by omega) k5 HG5.out);have HE:=aim (bI HB5.out (g:=w.heap.size+1) (by omega) (.slice aw nw cw) (.slice ak nk ck) (.int .i64 (q:Int)) (.int .i64 (d:Int)));have HOO:=aim ((dm HO5.out (g:=w.heap.size+1) (by omega) (.slice aw nw cw) (.slice ak nk ck) (.int .i64 (q:Int)) (.int .i64 (d:Int))).mono (base':=w.heap.size) (by omega));obtain ⟨⟨e0,e1,e2,e3⟩,-⟩:=((BR4.out.appended k5 HG5.out).put4 (.slice aw nw cw) (.slice ak nk ck) (.int .i64 (q:Int)) (.int .i64 (d:Int))).all;go_wp2
  exact bodyPost_ret (v:= .tuple #[v5, .agg #[.slice aw nw cw, .slice ak nk ck, .int .i64 (q:Int), .int .i64 (d:Int)], .bool ok]) (by simp [results,Tryz.results174,go_sem,e0,e1,e2,e3]) rfl
   ⟨v5,_,_,(7,s,1)::l,q,(d:Int),ok,⟨⟨_,_,_,rfl⟩,⟨_,_,_,rfl⟩⟩,rfl,(mI HOO.out),by simp only [List.length_cons];omega,hq,HE.out,
    HRES.out.elim (fun ⟨a,b,c,_,f⟩=> .inl ⟨a,b,c,rfl, .sign HU.out HSK.out hd f⟩) (fun ⟨a,b⟩=> .inr ⟨a,uS HU.out b⟩)⟩
theorem wU (tk:List Tk) (N:Nat) (ih:AllR tk N) (h20:tk.length≤20000) (p d:Nat) (W K:Value) (w:World) (hp:p≤tk.length) (hN:10*(tk.length-p)+0≤N) (hd:d≤41) (hr:RowTk w W K tk):
  Calls Tryz.prog 174 #[StV W K p d] w (ec tk .unary p d W K w):=by
 cases h1:isT tk p [33] with
 |true=>
  by_cases hd1:d+1≤41
  ·exact oN tk N ih h20 p d W K w hp hN hd1 hr h1
  ·exact oM tk h20 p d W K w hp hd hd1 hr h1
 |false=>
  cases h2:isT tk p [45] with
  |true=>
   by_cases hd1:d+1≤41
   ·exact nE tk N ih h20 p d W K w hp hN hd1 hr h1 h2
   ·exact nD tk h20 p d W K w hp hd hd1 hr h1 h2
  |false=>exact nC tk N ih h20 p d W K w hp hN hd hr (by rw [bR,h1,h2];rfl)
theorem tX (tk:List Tk) (N:Nat) (ih:AllR tk N) (h20:tk.length≤20000) (p d:Nat) (W K:Value) (w:World) (hp:p≤tk.length) (hN:10*(tk.length-p)+1≤N) (hd:d≤41) (hr:RowTk w W K tk):
  Calls Tryz.prog 145 #[StV W K p d, .int .i64 7] w (ec tk (.level 7) p d W K w):=by
 obtain ⟨⟨xa,xn,xc,rfl⟩,⟨ya,yn,yc,rfl⟩⟩:=hr.sl;have HR:=aim hr;have IH:=aim ih;clear hr ih;have B0:=aim (Begun.start w (.slice xa xn xc) (.slice ya yn yc) p d)
 go_enter Tryz.func145,Tryz.ntmps145
 go_wp2_with fail;refine (IH.out.unary p d (.slice xa xn xc) (.slice ya yn yc) _ hp hN hd (HR.out.mono B0.out.2.2)).mono ?_;rintro e w3 ⟨v,W',K',l,q,d',ok,⟨⟨aw,nw,cw,rfl⟩,⟨ak,nk,ck,rfl⟩⟩,rfl,ho,hlq,hq,hb3,hres⟩;have BR3:=aim (B0.out.2.1.below hb3);have HB3:=aim (B0.out.2.2.trans (hb3.mono B0.out.2.2.size));have hlt:=B0.out.2.1.lt;obtain ⟨⟨r0,r1,r2,r3⟩,z0,z1,z2,z3⟩:=BR3.out.all;have HE:=aim (bI HB3.out (g:=w.heap.size+1) (by omega) (.slice aw nw cw) (.slice ak nk ck) (.int .i64 (q:Int)) (.int .i64 d'));have HO:=aim ((dm ho (g:=w.heap.size+1) hlt (.slice aw nw cw) (.slice ak nk ck) (.int .i64 (q:Int)) (.int .i64 d')).mono B0.out.2.2.size);have HRS:=aim (show (ok=true∧(Value.slice aw nw cw)=(.slice xa xn xc)∧(Value.slice ak nk ck)=(.slice ya yn yc)∧d'=(d:Int)∧Rs tk (.level 7) p d l q 0)∨(ok=false∧NoRd tk (.level 7) p d) from hres.elim (fun ⟨a,b,c,e,f⟩=> .inl ⟨a,b,c,e, .seven f⟩) (fun ⟨a,b⟩=> .inr ⟨a,uR b⟩));clear ho hb3 hres B0;go_wp2;exact bodyPost_ret (v:= .tuple #[v, .agg #[(.slice aw nw cw),(.slice ak nk ck), .int .i64 (q:Int), .int .i64 d'], .bool ok]) (by simp [results,Tryz.results145,go_sem,r0,r1,r2,r3]) rfl ⟨v,_,_,l,q,d',ok,⟨⟨_,_,_,rfl⟩,⟨_,_,_,rfl⟩⟩,rfl,HO.out,hlq,hq,HE.out,HRS.out⟩
theorem cT (w:World) (xs bs:Array Value):
  BlkS ((w.alloc (.cells xs 135)).alloc (.cells bs 135)) w.heap.size xs∧BlkS ((w.alloc (.cells xs 135)).alloc (.cells bs 135)) (w.heap.size+1) bs∧
   Below w.heap.size w ((w.alloc (.cells xs 135)).alloc (.cells bs 135))∧((w.alloc (.cells xs 135)).alloc (.cells bs 135)).heap.size=w.heap.size+1+1:=by
 have hss:(w.alloc (.cells xs 135)).heap.size=w.heap.size+1:=by simp
 have:=BlkS.new (w.alloc (.cells xs 135)) bs;rw [hss] at this;exact ⟨(BlkS.new w xs).alloc _,this,((Below.refl w.heap.size w).alloc (ain _) _).alloc (by simp) _,by simp⟩
theorem nF (tk:List Tk) (h20:tk.length≤20000) (p d:Nat) (W K:Value) (w:World) (hp:p≤tk.length) (hd:d≤41) (hd41: ¬d+1≤41) (hr:RowTk w W K tk):
  Calls Tryz.prog 109 #[StV W K p d] w (ec tk .choice p d W K w):=by
 obtain rfl:d=41:=by omega
 obtain ⟨⟨xa,xn,xc,rfl⟩,⟨ya,yn,yc,rfl⟩⟩:=hr.sl;have HNO:=aim (uQ (tk:=tk) (p:=p) (d:=41) hd41);clear hr hd41
 go_enter Tryz.func109,Tryz.ntmps109
 go_wp2_with fail
 have n1: ¬w.heap.size=w.heap.size+1:=by omega
 go_region
 all_goals
  go_wp2;obtain ⟨hA,hB,hC,hD⟩:=cT w #[.slice xa xn xc, .slice ya yn yc, .int .i64 (p:Int), .int .i64 42] #[.slice xa xn xc, .slice ya yn yc, .int .i64 (p:Int), .int .i64 42];obtain ⟨⟨e0,e1,e2,e3⟩,-⟩:=((hB.alloc (.cells #[] 120)).drew).all
  exact bodyPost_ret (v:= .tuple #[.slice (some ⟨w.heap.size+1+1,0,none⟩) 0 0, .agg #[.slice xa xn xc, .slice ya yn yc, .int .i64 (p:Int), .int .i64 42], .bool false]) (by simp [results,Tryz.results109,go_sem]) rfl
   ⟨_,_,_,[],p,42,false,⟨⟨_,_,_,rfl⟩,⟨_,_,_,rfl⟩⟩,rfl,ij hD (by omega),by simp only [List.length_nil];omega,hp,(hC.alloc hC.size _).drew, .inr ⟨rfl,HNO.out⟩⟩
structure ChI (w w4:World) (G:Nat) (a0 a1 a2 a3 i0 i1 i2 i3:Value) (v:Value) (l:List Cl):Prop where
 st:BlkS w4 w.heap.size #[a0,a1,a2,a3]
 ans:BlkS w4 (w.heap.size+1) #[.slice none 0 0, .slice none 0 0, .int .i64 0, .int .i64 0]
 inn:BlkS w4 G #[i0,i1,i2,i3]
 below:Below w.heap.size w w4
 own:w4.ownsRow (w.heap.size+2) 120 3 v l.length (ap l)
 apart:v.ownBlock≠some G
 gt:w.heap.size+1<G
theorem ChI.first {w w2 w3:World} {a0 a1 a2 a3:Value} {v:Value} {l:List Cl} (e2:w2=(w.alloc (.cells #[a0,a1,a2,a3] 135)).alloc (.cells #[.slice none 0 0, .slice none 0 0, .int .i64 0, .int .i64 0] 135)) (hb:Below w2.heap.size w2 w3)
  (ho:w3.ownsRow w2.heap.size 120 3 v l.length (ap l)) (i0 i1 i2 i3:Value):ChI w (w3.alloc (.cells #[i0,i1,i2,i3] 135)) w3.heap.size a0 a1 a2 a3 i0 i1 i2 i3 v l:=by
 obtain ⟨hA,hB,hC,hD⟩:=cT w #[a0,a1,a2,a3] #[.slice none 0 0, .slice none 0 0, .int .i64 0, .int .i64 0];rw [←e2] at hA hB hC hD;have hs:=hb.size;refine ⟨(hA.below hb).alloc _,(hB.below hb).alloc _,BlkS.new w3 _,(hC.trans (hb.mono (by omega))).alloc (by omega) _, ?_, ?_,by omega⟩
 ·rw [hD] at ho;exact ho.alloc _
 ·intro he
  have:=(ho.lt _ he).2
  omega
theorem ChI.later {w w4 w5:World} {G:Nat} {a0 a1 a2 a3 i0 i1 i2 i3 v:Value} {l:List Cl} (h:ChI w w4 G a0 a1 a2 a3 i0 i1 i2 i3 v l) (hb:Below w4.heap.size w4 w5):ChI w w5 G a0 a1 a2 a3 i0 i1 i2 i3 v l:=
 ⟨h.st.below hb,h.ans.below hb,h.inn.below hb,h.below.trans (hb.mono h.below.size),cY h.own hb,h.apart,h.gt⟩
theorem ChI.over {w w4 w5:World} {G:Nat} {a0 a1 a2 a3 i0 i1 i2 i3 v:Value} {l:List Cl} (h:ChI w w4 G a0 a1 a2 a3 i0 i1 i2 i3 v l) (y x0 x1 x2 x3:Value)
  (e5:w5=((((w4.setCell ⟨G,3,none⟩ y).setCell ⟨w.heap.size+1,0,none⟩ x0).setCell ⟨w.heap.size+1,1,none⟩ x1).setCell ⟨w.heap.size+1,2,none⟩ x2).setCell ⟨w.heap.size+1,3,none⟩ x3):
  BlkS w5 (w.heap.size+1) #[x0,x1,x2,x3]∧Below w.heap.size w w5∧w5.ownsRow w.heap.size 120 3 v l.length (ap l):=by
 subst e5;have hg:=h.gt;refine ⟨(BlkS.far h.ans (f:=G) 3 y (by omega)).put4 x0 x1 x2 x3,bI (h.below.setCell (p:=⟨G,3,none⟩) (by show w.heap.size≤G;omega) y) (by omega) x0 x1 x2 x3, ?_⟩;exact (dm (ownsRow_setCell_other h.own (a:=⟨G,3,none⟩) h.apart y) (by omega) x0 x1 x2 x3).mono (by omega)
theorem oO (tk:List Tk) (N:Nat) (ih:AllR tk N) (h20:tk.length≤20000) (p d:Nat) (W K:Value) (w:World) (hp:p≤tk.length) (hN:10*(tk.length-p)+7≤N) (hd:d+1≤41) (hr:RowTk w W K tk)
  (hno: ∀a q m,Rs tk (.level 2) p (d+1) a q m→isT tk q [63]=false):
  Calls Tryz.prog 109 #[StV W K p d] w (ec tk .choice p d W K w):=by
 obtain ⟨⟨xa,xn,xc,rfl⟩,⟨ya,yn,yc,rfl⟩⟩:=hr.sl;have HR:=aim hr;have IH:=aim ih;have HNO:=aim hno;clear hr ih hno;obtain ⟨-,hA,hC,hD⟩:=cT w #[.slice xa xn xc, .slice ya yn yc, .int .i64 (p:Int), .int .i64 ((d:Int)+1)] #[.slice none 0 0, .slice none 0 0, .int .i64 0, .int .i64 0];have HA:=aim hA;have HC:=aim hC;have HD:=aim hD;clear hA hC hD
 have hdi: ¬(41:Int)<(d:Int)+1:=by omega
 go_enter Tryz.func109,Tryz.ntmps109
 go_wp2_with fail;refine ((show Calls Tryz.prog 145 #[.agg #[.slice xa xn xc, .slice ya yn yc, .int .i64 (p:Int), .int .i64 ((d:Int)+1)], .int .i64 2] _ _ from IH.out.level 2 p (d+1) _ _ _ (by omega) (by omega) hp (by omega) hd (HR.out.mono HC.out))).mono ?_;rintro e w3 ⟨v,W',K',l,q,d',ok,⟨⟨aw,nw,cw,rfl⟩,⟨ak,nk,ck,rfl⟩⟩,rfl,ho,hlq,hq,hb3,hres⟩;have HI:=aim (ChI.first rfl hb3 ho (.slice aw nw cw) (.slice ak nk ck) (.int .i64 (q:Int)) (.int .i64 d'));have HO3:=aim (ho.mono (base':=w.heap.size+2) (by rw [HD.out];omega));have HB3:=aim (HC.out.trans (hb3.mono HC.out.size));have HB:=aim (HA.out.below hb3);clear ho hb3;have hgt:=HI.out.gt
 rcases hres with ⟨rfl,hW,hK,hd',hrd⟩|⟨rfl,hn⟩
 ·simp only [Value.slice.injEq] at hW hK
  obtain ⟨rfl,rfl,rfl⟩:=hW;obtain ⟨rfl,rfl,rfl⟩:=hK
  replace hd':d'=(d:Int)+1:=hd'
  subst hd';have HRD:=aim hrd;have HQ:=aim (HNO.out _ _ _ hrd);clear hrd;go_wp2_with fail;refine ((show Calls Tryz.prog 146 #[.agg #[.slice _ _ _, .slice _ _ _, .int .i64 (q:Int), .int .i64 ((d:Int)+1)], .string _] _ _ from dl _ _ tk q (d+1) ⟨#[63]⟩ _ (HR.out.mono HI.out.below) (by omega))).mono ?_;rintro e w5 ⟨rfl,hb5⟩;rw [HQ.out];have HJ:=aim (HI.out.later hb5);clear hb5;obtain ⟨⟨s0,s1,s2,s3⟩,-⟩:=HJ.out.st.all;obtain ⟨⟨r0,r1,r2,r3⟩,z0,z1,z2,z3⟩:=HJ.out.ans.all;obtain ⟨⟨g0,g1,g2,g3⟩,y0,y1,y2,y3⟩:=HJ.out.inn.all;have l1:=HJ.out.inn.lt
  have n1: ¬w3.heap.size=w.heap.size+1:=by omega
  have n2: ¬w.heap.size+1=w3.heap.size:=by omega
  have n3: ¬w.heap.size=w3.heap.size:=by omega
  go_wp2_with fail
  go_region
  all_goals
   obtain ⟨hE,hB,hO⟩:=HJ.out.over (.int .i64 (d:Int)) (.slice _ _ _) (.slice _ _ _) (.int .i64 (q:Int)) (.int .i64 (d:Int)) rfl;obtain ⟨⟨e0,e1,e2,e3⟩,-⟩:=hE.all;go_wp2
   exact bodyPost_ret (v:= .tuple #[v, .agg #[.slice _ _ _, .slice _ _ _, .int .i64 (q:Int), .int .i64 (d:Int)], .bool true]) (by simp [results,Tryz.results109,go_sem,e0,e1,e2,e3]) rfl
    ⟨v,_,_,l,q,(d:Int),true,⟨⟨_,_,_,rfl⟩,⟨_,_,_,rfl⟩⟩,rfl,hO.drew,hlq,hq,hB.drew, .inl ⟨rfl,rfl,rfl,rfl, .one hd HRD.out HQ.out⟩⟩
 ·have HN:=aim (mZ hn)
  clear hn;obtain ⟨⟨s0,s1,s2,s3⟩,-⟩:=HI.out.st.all
  have n1: ¬w3.heap.size=w.heap.size+1:=by omega
  have n2: ¬w.heap.size+1=w3.heap.size:=by omega
  have n3: ¬w.heap.size=w3.heap.size:=by omega
  have l1:w.heap.size+1<w3.heap.size:=by omega
  have l2:w.heap.size<w3.heap.size:=by omega
  have c3:w3.cell? ⟨w.heap.size,3,none⟩=some (.int .i64 ((d:Int)+1)):=by
   rw [←s3];exact (((Below.refl w3.heap.size w3).alloc (ain _) _).cell (p:=⟨w.heap.size,3,none⟩) l2).symm
  obtain ⟨⟨r0,r1,r2,r3⟩,z0,z1,z2,z3⟩:=HB.out.all;go_wp2_with fail
  go_region
  all_goals
   have hE:=((HB.out.put4 (.slice aw nw cw) (.slice ak nk ck) (.int .i64 (q:Int)) (.int .i64 (d:Int))).alloc (.cells #[.slice aw nw cw, .slice ak nk ck, .int .i64 (q:Int), .int .i64 (d:Int)] 135)).drew;obtain ⟨⟨e0,e1,e2,e3⟩,-⟩:=hE.all;have hB0:=bI HB3.out (g:=w.heap.size+1) (by omega) (.slice aw nw cw) (.slice ak nk ck) (.int .i64 (q:Int)) (.int .i64 (d:Int));have hB:=hB0.alloc hB0.size (.cells #[.slice aw nw cw, .slice ak nk ck, .int .i64 (q:Int), .int .i64 (d:Int)] 135);have hO:=((dm HO3.out (g:=w.heap.size+1) (by omega) (.slice aw nw cw) (.slice ak nk ck) (.int .i64 (q:Int)) (.int .i64 (d:Int))).mono (base':=w.heap.size) (by omega)).alloc (.cells #[.slice aw nw cw, .slice ak nk ck, .int .i64 (q:Int), .int .i64 (d:Int)] 135);go_wp2
   exact bodyPost_ret (v:= .tuple #[v, .agg #[.slice aw nw cw, .slice ak nk ck, .int .i64 (q:Int), .int .i64 (d:Int)], .bool false]) (by simp [results,Tryz.results109,go_sem,e0,e1,e2,e3]) rfl
    ⟨v,_,_,l,q,(d:Int),false,⟨⟨_,_,_,rfl⟩,⟨_,_,_,rfl⟩⟩,rfl,hO.drew,hlq,hq,hB.drew, .inr ⟨rfl,HN.out⟩⟩
theorem il {w:World} {G n:Nat} {e:TypeId} {size:Nat} {v:Value} {xs:List Value} (h:w.ownsRow (G+1) e size v n xs) (i:Nat) (x:Value):(w.setCell ⟨G,i,none⟩ x).ownsRow (G+1) e size v n xs:=
 ownsRow_setCell_other h (a:=⟨G,i,none⟩) (by intro he;have:=(h.lt _ he).1;simp only at this;omega) x
theorem ChI.seti {w w4:World} {G:Nat} {a0 a1 a2 a3 i0 i1 i2 i3 v:Value} {l:List Cl} (h:ChI w w4 G a0 a1 a2 a3 i0 i1 i2 i3 v l) (x:Value):ChI w (w4.setCell ⟨G,2,none⟩ x) G a0 a1 a2 a3 i0 i1 x i3 v l:=by
 have hg:=h.gt;exact ⟨BlkS.far h.st (f:=G) 2 x (by omega),BlkS.far h.ans (f:=G) 2 x (by omega),by simpa using h.inn.set_ 2 x,h.below.setCell (p:=⟨G,2,none⟩) (by show w.heap.size≤G;omega) x,ownsRow_setCell_other h.own (a:=⟨G,2,none⟩) h.apart x,h.apart,h.gt⟩
theorem ChI.seti3 {w w4:World} {G:Nat} {a0 a1 a2 a3 i0 i1 i2 i3 v:Value} {l:List Cl} (h:ChI w w4 G a0 a1 a2 a3 i0 i1 i2 i3 v l) (x:Value):ChI w (w4.setCell ⟨G,3,none⟩ x) G a0 a1 a2 a3 i0 i1 i2 x v l:=by
 have hg:=h.gt;exact ⟨BlkS.far h.st (f:=G) 3 x (by omega),BlkS.far h.ans (f:=G) 3 x (by omega),by simpa using h.inn.set_ 3 x,h.below.setCell (p:=⟨G,3,none⟩) (by show w.heap.size≤G;omega) x,ownsRow_setCell_other h.own (a:=⟨G,3,none⟩) h.apart x,h.apart,h.gt⟩
theorem ChI.set0 {w w4:World} {G:Nat} {a0 a1 a2 a3 i0 i1 i2 i3 v:Value} {l:List Cl} (h:ChI w w4 G a0 a1 a2 a3 i0 i1 i2 i3 v l) (x:Value):ChI w (w4.setCell ⟨G,0,none⟩ x) G a0 a1 a2 a3 x i1 i2 i3 v l:=by
 have hg:=h.gt;exact ⟨BlkS.far h.st (f:=G) 0 x (by omega),BlkS.far h.ans (f:=G) 0 x (by omega),by simpa using h.inn.set_ 0 x,h.below.setCell (p:=⟨G,0,none⟩) (by show w.heap.size≤G;omega) x,ownsRow_setCell_other h.own (a:=⟨G,0,none⟩) h.apart x,h.apart,h.gt⟩
theorem ChI.set1 {w w4:World} {G:Nat} {a0 a1 a2 a3 i0 i1 i2 i3 v:Value} {l:List Cl} (h:ChI w w4 G a0 a1 a2 a3 i0 i1 i2 i3 v l) (x:Value):ChI w (w4.setCell ⟨G,1,none⟩ x) G a0 a1 a2 a3 i0 x i2 i3 v l:=by
 have hg:=h.gt;exact ⟨BlkS.far h.st (f:=G) 1 x (by omega),BlkS.far h.ans (f:=G) 1 x (by omega),by simpa using h.inn.set_ 1 x,h.below.setCell (p:=⟨G,1,none⟩) (by show w.heap.size≤G;omega) x,ownsRow_setCell_other h.own (a:=⟨G,1,none⟩) h.apart x,h.apart,h.gt⟩
theorem ChI.over4 {w w4:World} {G:Nat} {a0 a1 a2 a3 i0 i1 i2 i3 v:Value} {l:List Cl} (h:ChI w w4 G a0 a1 a2 a3 i0 i1 i2 i3 v l) (x0 x1 x2 x3:Value):ChI w ((((w4.setCell ⟨G,0,none⟩ x0).setCell ⟨G,1,none⟩ x1).setCell ⟨G,2,none⟩ x2).setCell ⟨G,3,none⟩ x3) G a0 a1 a2 a3 x0 x1 x2 x3 v l:=
 (((h.set0 x0).set1 x1).seti x2).seti3 x3
theorem ChI.fail {w w4:World} {G:Nat} {a0 a1 a2 a3 i0 i1 i2 i3 v:Value} {l:List Cl} (h:ChI w w4 G a0 a1 a2 a3 i0 i1 i2 i3 v l) (x0 x1 x2 x3:Value) {g:Nat} (hg:w4.heap.size=g):
  BlkS ((((((w4.setCell ⟨w.heap.size+1,0,none⟩ x0).setCell ⟨w.heap.size+1,1,none⟩ x1).setCell ⟨w.heap.size+1,2,none⟩ x2).setCell ⟨w.heap.size+1,3,none⟩ x3).alloc (.cells #[] 120)).drew) (w.heap.size+1) #[x0,x1,x2,x3]∧
  Below w.heap.size w ((((((w4.setCell ⟨w.heap.size+1,0,none⟩ x0).setCell ⟨w.heap.size+1,1,none⟩ x1).setCell ⟨w.heap.size+1,2,none⟩ x2).setCell ⟨w.heap.size+1,3,none⟩ x3).alloc (.cells #[] 120)).drew)∧
  World.ownsRow ((((((w4.setCell ⟨w.heap.size+1,0,none⟩ x0).setCell ⟨w.heap.size+1,1,none⟩ x1).setCell ⟨w.heap.size+1,2,none⟩ x2).setCell ⟨w.heap.size+1,3,none⟩ x3).alloc (.cells #[] 120)).drew) w.heap.size 120 3 (.slice (some ⟨g,0,none⟩) 0 0) 0 (ap []):=by
 have hgt:=h.gt;have hl:=h.inn.lt;have hb:=bI h.below (g:=w.heap.size+1) (by omega) x0 x1 x2 x3;exact ⟨((h.ans.put4 x0 x1 x2 x3).alloc _).drew,(hb.alloc hb.size _).drew,ij (by simpa [World.setCell] using hg) (by omega)⟩
theorem sE {w4:World} {g:Nat} (hg:w4.heap.size=g) {x0 x1 x2:Value}:(w4.alloc (.cells #[x0,x1,x2] 120)).ownsRow g 120 3 (.slice (some ⟨g,0,none⟩) 1 1) 1 [x0,x1,x2]:=by
 subst hg;exact World.ownsRow_lit (e:=120) (size:=3) (base:=w4.heap.size) w4 #[x0,x1,x2] 1 (ain _) (by unfold maxLen;omega) rfl
theorem nG {w4 w5:World} {g:Nat} (hg:w4.heap.size=g) {o:Obj} (h5:(w4.alloc o).grownBy w5 (Value.slice (some ⟨g,0,none⟩) 1 1).ownBlock):Below w4.heap.size w4 w5:=by
 subst hg;exact ((Below.refl w4.heap.size w4).alloc (ain _) o).grown h5 (by simp) (by simp [Value.ownBlock])
theorem aae {w w':World} {B B1 n m:Nat} {e e2:TypeId} {s s2:Nat} {v u:Value} {xs ys:List Value} (h:w.ownsRow B1 e s v n xs) (hv: ∀x,v.ownBlock=some x→x<B) (hu:w.ownsRow B e2 s2 u m ys) (hg:w.grownBy w' u.ownBlock):w'.ownsRow B1 e s v n xs:=by
 refine h.kept hg ?_
 cases hb:v.ownBlock with
 |none=>exact .inl rfl
 |some x=>
  refine .inr (fun he=> ?_);have h1:=hv x hb;have h2:=(hu.lt x he.symm).1
  omega
theorem aaf {w:World} {B:Nat} {v:Value} {k:Int} {s:ByteArray} {n:Int} {l l2 l3:List Cl} (h:w.ownsRow B 120 3 v (1+l.length+l2.length+l3.length) ((([.int .i64 k, .string s, .int .i64 n]++ap l)++ap l2)++ap l3)):
  w.ownsRow B 120 3 v ((k,s,n)::(l++(l2++l3))).length (ap ((k,s,n)::(l++(l2++l3)))):=by
 have e:ap ((k,s,n)::(l++(l2++l3)))=(([.int .i64 k, .string s, .int .i64 n]++ap l)++ap l2)++ap l3:=by
  rw [List.append_assoc,List.append_assoc,←aB,←aB];rfl
 have e2:((k,s,n)::(l++(l2++l3))).length=1+l.length+l2.length+l3.length:=by simp only [List.length_cons,aio];omega
 rw [e,e2];exact h
theorem agS {w w':World} {r:Option Nat} (h:w.drew.grownBy w' r):w.grownBy w' r:=⟨h.os,h.tape,h.output,h.size,h.block⟩
structure AftC (w w4:World) (G:Nat) (i0 i1 i2 i3:Value):Prop where
 ans:BlkS w4 (w.heap.size+1) #[.slice none 0 0, .slice none 0 0, .int .i64 0, .int .i64 0]
 inn:BlkS w4 G #[i0,i1,i2,i3]
 below:Below w.heap.size w w4
 gt:w.heap.size+1<G
theorem AftC.app {w w4 w5:World} {G B n:Nat} {i0 i1 i2 i3 v:Value} {e:TypeId} {s:Nat} {xs:List Value} (h:AftC w w4 G i0 i1 i2 i3) (hg:w4.grownBy w5 v.ownBlock) (ho:w4.ownsRow B e s v n xs) (hB:G<B):AftC w w5 G i0 i1 i2 i3:=by
 have hgt:=h.gt;refine ⟨h.ans.grown hg (fun he=> ?_),h.inn.grown hg (fun he=> ?_),h.below.grown hg h.below.size (fun q hq=> ?_),h.gt⟩
 ·have:=(ho.lt _ he.symm).1;omega
 ·have:=(ho.lt _ he.symm).1;omega
 ·have:=(ho.lt _ hq).1;omega
theorem mJ (tk : List Tk) (N : Nat) (ih : AllR tk N) (h20 : tk.length ≤ 20000) (p d : Nat) (W K : Value) (w : World) (hp : p ≤ tk.length) (hN : 10 * (tk.length - p) + 7 ≤ N) (hd : d + 1 ≤ 41) (hr : RowTk w W K tk)
    (hno : ∀ a q m, Rs tk (.level 2) p (d + 1) a q m → isT tk q [63] = true) :
    Calls Tryz.prog 109 #[StV W K p d] w (ec tk .choice p d W K w) := by
  obtain ⟨i0, hi, hz0, hz1, hz2⟩ := info_parts gj;obtain ⟨⟨xa, xn, xc, rfl⟩, ⟨ya, yn, yc, rfl⟩⟩ := hr.sl;have HR := aim hr; have IH := aim ih; have HNO := aim hno;clear hr ih hno;obtain ⟨-, hA, hC, hD⟩ := cT w #[.slice xa xn xc, .slice ya yn yc, .int .i64 (p : Int), .int .i64 ((d : Int) + 1)] #[.slice none 0 0, .slice none 0 0, .int .i64 0, .int .i64 0];have HA := aim hA; have HC := aim hC; have HD := aim hD;clear hA hC hD
  have hdi : ¬ (41 : Int) < (d : Int) + 1 := by omega
  go_enter Tryz.func109, Tryz.ntmps109
  go_wp2_with fail;refine ((show Calls Tryz.prog 145 #[.agg #[.slice xa xn xc, .slice ya yn yc, .int .i64 (p : Int), .int .i64 ((d : Int) + 1)], .int .i64 2] _ _ from IH.out.level 2 p (d + 1) _ _ _ (by omega) (by omega) hp (by omega) hd (HR.out.mono HC.out))).mono ?_;rintro e w3 ⟨v, W', K', l, q, d', ok, ⟨⟨aw, nw, cw, rfl⟩, ⟨ak, nk, ck, rfl⟩⟩, rfl, ho, hlq, hq, hb3, hres⟩;have HI := aim (ChI.first rfl hb3 ho (.slice aw nw cw) (.slice ak nk ck) (.int .i64 (q : Int)) (.int .i64 d'));have HO3 := aim (ho.mono (base' := w.heap.size + 2) (by rw [HD.out]; omega));have HB3 := aim (HC.out.trans (hb3.mono HC.out.size));have HB := aim (HA.out.below hb3);clear ho hb3;have hgt := HI.out.gt
  rcases hres with ⟨rfl, hW, hK, hd', hrd⟩ | ⟨rfl, hn⟩
  · simp only [Value.slice.injEq] at hW hK
    obtain ⟨rfl, rfl, rfl⟩ := hW;obtain ⟨rfl, rfl, rfl⟩ := hK
    replace hd' : d' = (d : Int) + 1 := hd'
    subst hd';have HRD := aim hrd; have HQ := aim (HNO.out _ _ _ hrd);clear hrd;go_wp2_with fail;refine ((show Calls Tryz.prog 146 #[.agg #[.slice _ _ _, .slice _ _ _, .int .i64 (q : Int), .int .i64 ((d : Int) + 1)], .string _] _ _ from dl _ _ tk q (d + 1) ⟨#[63]⟩ _ (HR.out.mono HI.out.below) (by omega))).mono ?_;rintro e w5 ⟨rfl, hb5⟩;rw [HQ.out];have HJ := aim (HI.out.later hb5);clear hb5;obtain ⟨⟨g0, g1, g2, g3⟩, y0, y1, y2, y3⟩ := HJ.out.inn.all;have l1 := HJ.out.inn.lt;have HK := aim (HJ.out.seti (.int .i64 ((q : Int) + 1)));clear HI HD HA HC;go_wp2_with fail;refine ((show Calls Tryz.prog 109 #[.agg #[.slice aw nw cw, .slice ak nk ck, .int .i64 ((q : Int) + 1), .int .i64 ((d : Int) + 1)]] _ _ from IH.out.choice (q + 1) (d + 1) _ _ _ (bV HQ.out) (by have := bV HQ.out; omega) hd (HR.out.mono HK.out.below))).mono ?_;rintro e w6 ⟨v2, W2, K2, l2, q2, d2, ok2, ⟨⟨aw2, nw2, cw2, rfl⟩, ⟨ak2, nk2, ck2, rfl⟩⟩, rfl, ho2, hlq2, hq2, hb6, hres2⟩;have HL0 := aim (HK.out.later hb6);have HO2 := aim (dm (ho2.mono (base' := w3.heap.size + 1) HK.out.inn.lt) (g := w3.heap.size) (by omega) (.slice aw2 nw2 cw2) (.slice ak2 nk2 ck2) (.int .i64 (q2 : Int)) (.int .i64 d2));have HL := aim (HL0.out.over4 (.slice aw2 nw2 cw2) (.slice ak2 nk2 ck2) (.int .i64 (q2 : Int)) (.int .i64 d2));obtain ⟨⟨h0, h1, h2, h3⟩, j0, j1, j2, j3⟩ := HL0.out.inn.all;clear ho2 hb6 HJ HK g0 g1 g2 g3 y0 y1 y2 y3 l1
    have n1 : ¬ w3.heap.size = w.heap.size + 1 := by omega
    have n2 : ¬ w.heap.size + 1 = w3.heap.size := by omega
    have n3 : ¬ w.heap.size = w3.heap.size := by omega
    have lt6 := HL0.out.inn.lt
    have lt7 : w.heap.size + 1 < w6.heap.size := by omega
    have n7 : ¬ w.heap.size + 1 = w6.heap.size := by omega
    rcases hres2 with ⟨rfl, hW, hK, hd', hrd2⟩ | ⟨rfl, hn2⟩
    rotate_left
    · have HN := aim (qV HRD.out HQ.out hn2)
      clear hn2;obtain ⟨⟨r0, r1, r2, r3⟩, z0, z1, z2, z3⟩ := HL0.out.ans.all;go_wp2_with fail
      go_region
      all_goals
        obtain ⟨hE, hB, hO⟩ := HL.out.fail (.slice aw2 nw2 cw2) (.slice ak2 nk2 ck2) (.int .i64 (q2 : Int)) (.int .i64 d2) (g := w6.heap.size) (by simp [World.setCell]);obtain ⟨⟨e0, e1, e2, e3⟩, -⟩ := hE.all;go_wp2
        exact bodyPost_ret (v := .tuple #[.slice (some ⟨w6.heap.size, 0, none⟩) 0 0, .agg #[.slice aw2 nw2 cw2, .slice ak2 nk2 ck2, .int .i64 (q2 : Int), .int .i64 d2], .bool false]) (by simp [results, Tryz.results109, go_sem, e0, e1, e2, e3]) rfl
          ⟨_, _, _, [], q2, d2, false, ⟨⟨_, _, _, rfl⟩, ⟨_, _, _, rfl⟩⟩, rfl, hO, by simp only [List.length_nil]; omega, hq2, hB, .inr ⟨rfl, HN.out⟩⟩
    · simp only [Value.slice.injEq] at hW hK
      obtain ⟨rfl, rfl, rfl⟩ := hW;obtain ⟨rfl, rfl, rfl⟩ := hK
      replace hd' : d2 = (d : Int) + 1 := hd'
      subst hd';have HRD2 := aim hrd2;clear hrd2 HL0;go_wp2_with fail;clear h0 h1 h2 h3 j0 j1 j2 j3;refine ((show Calls Tryz.prog 146 #[.agg #[.slice _ _ _, .slice _ _ _, .int .i64 (q2 : Int), .int .i64 ((d : Int) + 1)], .string _] _ _ from dl _ _ tk q2 (d + 1) ⟨#[58]⟩ _ (HR.out.mono HL.out.below) (by omega))).mono ?_;rintro e w7 ⟨rfl, hb7⟩;have HM := aim (HL.out.later hb7); have HO7 := aim (cY HO2.out hb7);clear hb7 HL HO2
      cases hc : isT tk q2 [58] with
      | false =>
        have HCO := aim hc;have HN := aim (s7 HRD.out HQ.out HRD2.out hc);clear hc;have lt8 := HM.out.inn.lt
        have lt9 : w.heap.size + 1 < w7.heap.size := by omega
        have n9 : ¬ w.heap.size + 1 = w7.heap.size := by omega
        obtain ⟨⟨h0, h1, h2, h3⟩, j0, j1, j2, j3⟩ := HM.out.inn.all;obtain ⟨⟨r0, r1, r2, r3⟩, z0, z1, z2, z3⟩ := HM.out.ans.all;go_wp2_with fail
        go_region
        all_goals
          obtain ⟨hE, hB, hO⟩ := HM.out.fail (.slice aw2 nw2 cw2) (.slice ak2 nk2 ck2) (.int .i64 (q2 : Int)) (.int .i64 ((d : Int) + 1)) (g := w7.heap.size) rfl;obtain ⟨⟨e0, e1, e2, e3⟩, -⟩ := hE.all;go_wp2
          exact bodyPost_ret (v := .tuple #[.slice (some ⟨w7.heap.size, 0, none⟩) 0 0, .agg #[.slice aw2 nw2 cw2, .slice ak2 nk2 ck2, .int .i64 (q2 : Int), .int .i64 ((d : Int) + 1)], .bool false]) (by simp [results, Tryz.results109, go_sem, e0, e1, e2, e3]) rfl
            ⟨_, _, _, [], q2, (d : Int) + 1, false, ⟨⟨_, _, _, rfl⟩, ⟨_, _, _, rfl⟩⟩, rfl, hO, by simp only [List.length_nil]; omega, hq2, hB, .inr ⟨rfl, HN.out⟩⟩
      | true =>
        have HCO := aim hc;have hq2l := bV hc;clear hc;obtain ⟨⟨h0, h1, h2, h3⟩, j0, j1, j2, j3⟩ := HM.out.inn.all;have lt8 := HM.out.inn.lt;have HS := aim (HM.out.seti (.int .i64 ((q2 : Int) + 1))); have HO8 := aim (il HO7.out 2 (.int .i64 ((q2 : Int) + 1)));clear HM HO7;go_wp2_with fail;clear h0 h1 h2 h3 j0 j1 j2 j3;refine ((show Calls Tryz.prog 109 #[.agg #[.slice _ _ _, .slice _ _ _, .int .i64 ((q2 : Int) + 1), .int .i64 ((d : Int) + 1)]] _ _ from IH.out.choice (q2 + 1) (d + 1) _ _ _ hq2l (by omega) hd (HR.out.mono HS.out.below))).mono ?_;rintro e w9 ⟨v3, W3, K3, l3, q3, d3, ok3, ⟨⟨aw3, nw3, cw3, rfl⟩, ⟨ak3, nk3, ck3, rfl⟩⟩, rfl, ho3, hlq3, hq3, hb9, hres3⟩;have HT0 := aim (HS.out.later hb9);have HO9 := aim (dm (cY HO8.out hb9) (g := w3.heap.size) (by omega) (.slice aw3 nw3 cw3) (.slice ak3 nk3 ck3) (.int .i64 (q3 : Int)) (.int .i64 d3));have HP9 := aim (dm (ho3.mono (base' := w3.heap.size + 1) HS.out.inn.lt) (g := w3.heap.size) (by omega) (.slice aw3 nw3 cw3) (.slice ak3 nk3 ck3) (.int .i64 (q3 : Int)) (.int .i64 d3));have HT := aim (HT0.out.over4 (.slice aw3 nw3 cw3) (.slice ak3 nk3 ck3) (.int .i64 (q3 : Int)) (.int .i64 d3));clear ho3 hb9 HS HO8 lt8;obtain ⟨⟨h0, h1, h2, h3⟩, j0, j1, j2, j3⟩ := HT0.out.inn.all;have lt8 := HT0.out.inn.lt
        have lt9 : w.heap.size + 1 < w9.heap.size := by omega
        have n9 : ¬ w.heap.size + 1 = w9.heap.size := by omega
        rcases hres3 with ⟨rfl, hW, hK, hd', hrd3⟩ | ⟨rfl, hn3⟩
        rotate_left
        · have HN := aim (s8 HRD.out HQ.out HRD2.out hn3)
          clear hn3;obtain ⟨⟨r0, r1, r2, r3⟩, z0, z1, z2, z3⟩ := HT0.out.ans.all;go_wp2_with fail
          go_region
          all_goals
            obtain ⟨hE, hB, hO⟩ := HT.out.fail (.slice aw3 nw3 cw3) (.slice ak3 nk3 ck3) (.int .i64 (q3 : Int)) (.int .i64 d3) (g := w9.heap.size) (by simp [World.setCell]);obtain ⟨⟨e0, e1, e2, e3⟩, -⟩ := hE.all;go_wp2
            exact bodyPost_ret (v := .tuple #[.slice (some ⟨w9.heap.size, 0, none⟩) 0 0, .agg #[.slice aw3 nw3 cw3, .slice ak3 nk3 ck3, .int .i64 (q3 : Int), .int .i64 d3], .bool false]) (by simp [results, Tryz.results109, go_sem, e0, e1, e2, e3]) rfl
              ⟨_, _, _, [], q3, d3, false, ⟨⟨_, _, _, rfl⟩, ⟨_, _, _, rfl⟩⟩, rfl, hO, by simp only [List.length_nil]; omega, hq3, hB, .inr ⟨rfl, HN.out⟩⟩
        · simp only [Value.slice.injEq] at hW hK
          obtain ⟨rfl, rfl, rfl⟩ := hW;obtain ⟨rfl, rfl, rfl⟩ := hK
          replace hd' : d3 = (d : Int) + 1 := hd'
          subst hd';have HRD3 := aim hrd3;clear hrd3
          have hlt : w.heap.size < w9.heap.size := by omega
          obtain ⟨⟨s0, s1, s2, s3⟩, -⟩ := HT0.out.st.all;have HU := aim (HT.out.seti3 (.int .i64 (d : Int)));have HO10 := aim (il HO9.out 3 (.int .i64 (d : Int))); have HP10 := aim (il HP9.out 3 (.int .i64 (d : Int)));clear HT0 HT HO9 HP9
          have hsz : ((((((w9.setCell ⟨w3.heap.size, 0, none⟩ (.slice aw3 nw3 cw3)).setCell ⟨w3.heap.size, 1, none⟩ (.slice ak3 nk3 ck3)).setCell ⟨w3.heap.size, 2, none⟩ (.int .i64 (q3 : Int))).setCell ⟨w3.heap.size, 3, none⟩ (.int .i64 ((d : Int) + 1))).setCell ⟨w3.heap.size, 3, none⟩ (.int .i64 (d : Int)))).heap.size = w9.heap.size := by simp [World.setCell]
          go_wp2_with (at_builtin; refine aK rfl _ _ 23 rfl w9.heap.size 120 i0 (.agg #[.int .i64 0, .string ByteArray.empty, .int .i64 0]) 3 32 Tryz.underlying23 hi hz0 hz1 hz2 rfl (by decide) _ 1 [.int .i64 9, .string ⟨#[]⟩, .int .i64 3] rfl (sE hsz) _ _ l.length (ap l) rfl (HU.out.own.alloc _) (aE _) (by unfold maxLen; omega) (by omega) (by simp [World.setCell]) ?_; intro v10 w10 hown10 hgrow10; have hb10 := nG hsz hgrow10; have hb10s : w9.heap.size ≤ w10.heap.size := Nat.le_trans (Nat.le_of_eq hsz.symm) hb10.size; have HX10 := aim hown10; have HV := aim (HU.out.later hb10); have HO11 := aim (cY HO10.out hb10); have HP11 := aim (cY HP10.out hb10); clear hown10 hgrow10 hb10)
          have hv2 : ∀ x, v2.ownBlock = some x → x < w9.heap.size := fun x hx => by have := (HO10.out.lt x hx).2; rw [hsz] at this; exact this
          have hv3 : ∀ x, v3.ownBlock = some x → x < w9.heap.size := fun x hx => by have := (HP10.out.lt x hx).2; rw [hsz] at this; exact this
          have hln : l.length + l2.length + l3.length ≤ 20000 := by omega
          obtain ⟨⟨g0, g1, g2, g3⟩, -⟩ := HV.out.inn.all;clear hlt s0 s1 s2 s3 h0 h1 h2 h3 j0 j1 j2 j3;have HAF := aim (show AftC w w10 w3.heap.size (.slice aw3 nw3 cw3) (.slice ak3 nk3 ck3) (.int .i64 (q3 : Int)) (.int .i64 (d : Int)) from ⟨HV.out.ans, HV.out.inn, HV.out.below, HV.out.gt⟩)
          have lt10 : w9.heap.size ≤ w10.heap.size := by have := HV.out.inn.lt; have := hb10s; omega
          go_region_law
            ((first
              | (refine dC (by rfl) _ _ _ (by rfl) w9.heap.size 120 i0 (.agg #[.int .i64 0, .string ByteArray.empty, .int .i64 0]) 3 32 Tryz.underlying23 hi hz0 hz1 hz2 rfl (by decide) _ (1 + l.length) ([.int .i64 9, .string ⟨#[]⟩, .int .i64 3] ++ ap l) (by rfl) HX10.out.drew _ v2 l2.length (ap l2) (by rfl) HO11.out.drew (aE _) (by unfold maxLen; omega) (by omega) lt10 ?_; intro v11 w11 hown11 hgrow11; have hgr11 := agS hgrow11; have HAF11 := aim (HAF.out.app hgr11 HX10.out lt8); have HP12 := aim (aae HP11.out hv3 HX10.out hgr11); obtain ⟨⟨b0, b1, b2, b3⟩, -⟩ := HAF11.out.inn.all)
              | (refine dC (by rfl) _ _ _ (by rfl) w9.heap.size 120 i0 (.agg #[.int .i64 0, .string ByteArray.empty, .int .i64 0]) 3 32 Tryz.underlying23 hi hz0 hz1 hz2 rfl (by decide) _ (1 + l.length + l2.length) (([.int .i64 9, .string ⟨#[]⟩, .int .i64 3] ++ ap l) ++ ap l2) (by rfl) hown11 _ v3 l3.length (ap l3) (by rfl) HP12.out (aE _) (by unfold maxLen; omega) (by omega) (Nat.le_trans lt10 hgr11.size) ?_; intro v12 w12 hown12 hgrow12; have HAF12 := aim (HAF11.out.app hgrow12 hown11 lt8); obtain ⟨⟨c0, c1, c2, c3⟩, -⟩ := HAF12.out.inn.all; obtain ⟨⟨r0, r1, r2, r3⟩, z0, z1, z2, z3⟩ := HAF12.out.ans.all)))
          all_goals
            have HOW := aim (aaf hown12);clear hown12 hgrow12;have hE := HAF12.out.ans.put4 (.slice aw3 nw3 cw3) (.slice ak3 nk3 ck3) (.int .i64 (q3 : Int)) (.int .i64 (d : Int));obtain ⟨⟨e0, e1, e2, e3⟩, -⟩ := hE.all;have HBB := aim (bI HAF12.out.below (g := w.heap.size + 1) (by omega) (.slice aw3 nw3 cw3) (.slice ak3 nk3 ck3) (.int .i64 (q3 : Int)) (.int .i64 (d : Int)));have HOO := aim ((dm HOW.out (g := w.heap.size + 1) lt9 (.slice aw3 nw3 cw3) (.slice ak3 nk3 ck3) (.int .i64 (q3 : Int)) (.int .i64 (d : Int))).mono (base' := w.heap.size) (by omega));go_wp2
            exact bodyPost_ret (v := .tuple #[v12, .agg #[.slice aw3 nw3 cw3, .slice ak3 nk3 ck3, .int .i64 (q3 : Int), .int .i64 (d : Int)], .bool true]) (by simp [results, Tryz.results109, go_sem, e0, e1, e2, e3]) rfl
              ⟨v12, _, _, (9, ⟨#[]⟩, 3) :: (l ++ (l2 ++ l3)), q3, (d : Int), true, ⟨⟨_, _, _, rfl⟩, ⟨_, _, _, rfl⟩⟩, rfl, HOO.out, by simp only [List.length_cons, aio]; omega, hq3, HBB.out, .inl ⟨rfl, rfl, rfl, rfl, .eC hd HRD.out HQ.out HRD2.out HCO.out HRD3.out⟩⟩
  · have HN := aim (mZ hn)
    clear hn;obtain ⟨⟨s0, s1, s2, s3⟩, -⟩ := HI.out.st.all
    have n1 : ¬ w3.heap.size = w.heap.size + 1 := by omega
    have n2 : ¬ w.heap.size + 1 = w3.heap.size := by omega
    have n3 : ¬ w.heap.size = w3.heap.size := by omega
    have l1 : w.heap.size + 1 < w3.heap.size := by omega
    have l2 : w.heap.size < w3.heap.size := by omega
    have c3 : w3.cell? ⟨w.heap.size, 3, none⟩ = some (.int .i64 ((d : Int) + 1)) := by
      rw [← s3]; exact (((Below.refl w3.heap.size w3).alloc (ain _) _).cell (p := ⟨w.heap.size, 3, none⟩) l2).symm
    obtain ⟨⟨r0, r1, r2, r3⟩, z0, z1, z2, z3⟩ := HB.out.all;go_wp2_with fail
    go_region
    all_goals
      have hE := ((HB.out.put4 (.slice aw nw cw) (.slice ak nk ck) (.int .i64 (q : Int)) (.int .i64 (d : Int))).alloc (.cells #[.slice aw nw cw, .slice ak nk ck, .int .i64 (q : Int), .int .i64 (d : Int)] 135)).drew;obtain ⟨⟨e0, e1, e2, e3⟩, -⟩ := hE.all;have hB0 := bI HB3.out (g := w.heap.size + 1) (by omega) (.slice aw nw cw) (.slice ak nk ck) (.int .i64 (q : Int)) (.int .i64 (d : Int));have hB := hB0.alloc hB0.size (.cells #[.slice aw nw cw, .slice ak nk ck, .int .i64 (q : Int), .int .i64 (d : Int)] 135);have hO := ((dm HO3.out (g := w.heap.size + 1) (by omega) (.slice aw nw cw) (.slice ak nk ck) (.int .i64 (q : Int)) (.int .i64 (d : Int))).mono (base' := w.heap.size) (by omega)).alloc (.cells #[.slice aw nw cw, .slice ak nk ck, .int .i64 (q : Int), .int .i64 (d : Int)] 135);go_wp2
      exact bodyPost_ret (v := .tuple #[v, .agg #[.slice aw nw cw, .slice ak nk ck, .int .i64 (q : Int), .int .i64 (d : Int)], .bool false]) (by simp [results, Tryz.results109, go_sem, e0, e1, e2, e3]) rfl
        ⟨v, _, _, l, q, (d : Int), false, ⟨⟨_, _, _, rfl⟩, ⟨_, _, _, rfl⟩⟩, rfl, hO.drew, hlq, hq, hB.drew, .inr ⟨rfl, HN.out⟩⟩
def LvI (tk:List Tk) (r p d:Nat) (W K:Value) (w:World) (G:Nat) (va vok vm:Value) (wr:World):Prop:=
 ∃(l:List Cl) (n q:Nat) (d':Int) (aw:Option Addr) (nw cw:Nat) (ak:Option Addr) (nk ck:Nat) (ok:Bool),vok= .bool ok∧vm= .int .i64 (n:Int)∧n+p≤q∧l.length+p≤q∧q≤tk.length∧
  ChI w wr G W K (.int .i64 (p:Int)) (.int .i64 (d:Int)) (.slice aw nw cw) (.slice ak nk ck) (.int .i64 (q:Int)) (.int .i64 d') va l∧
  ((ok=true∧ .slice aw nw cw=W∧ .slice ak nk ck=K∧d'=(d:Int)∧Through tk r p d n l q)∨(ok=false∧NoRd tk (.level r) p d))
theorem wV (r n:Nat) (h4:r≠4∨n=0):(((r:Int) !=4)=true∧((r:Int)==4)=false∧((n:Int)==(n:Int))=true)∨(((r:Int) !=4)=false∧((r:Int)==4)=true∧((n:Int)==0)=true):=by
 by_cases hr4:r=4
 ·have hn:n=0:=by omega
  subst hr4;subst hn
  right;exact ⟨rfl,rfl,rfl⟩
 ·left;exact ⟨by simp;omega,by simp;omega,by simp⟩
theorem y6 {w:World} {B:Nat} {v:Value} {k:Int} {s:ByteArray} {n:Int} {l l2:List Cl} (h:w.ownsRow B 120 3 v (1+l.length+l2.length) (([.int .i64 k, .string s, .int .i64 n]++ap l)++ap l2)):
  w.ownsRow B 120 3 v ((k,s,n)::(l++l2)).length (ap ((k,s,n)::(l++l2))):=by
 have e:ap ((k,s,n)::(l++l2))=([.int .i64 k, .string s, .int .i64 n]++ap l)++ap l2:=by
  rw [List.append_assoc,←aB];rfl
 have e2:((k,s,n)::(l++l2)).length=1+l.length+l2.length:=by simp only [List.length_cons,aio];omega
 rw [e,e2];exact h
theorem pc {w:World} {B n:Nat} {e:TypeId} {sz:Nat} {v:Value} {xs:List Value} (h:w.ownsRow B e sz v n xs): ∃a c,v= .slice a n c:=by
 rcases h.2 with ⟨rfl,rfl⟩|⟨g,cap,cur,rfl,-⟩
 ·exact ⟨_,_,rfl⟩
 ·exact ⟨_,_,rfl⟩
theorem ChI.apps {w w4 w5:World} {G B m:Nat} {a0 a1 a2 a3 i0 i1 i2 i3 v u v':Value} {l l':List Cl} {e:TypeId} {sz:Nat} {ys:List Value} (h:ChI w w4 G a0 a1 a2 a3 i0 i1 i2 i3 v l) (hg:w4.grownBy w5 u.ownBlock) (hu:w4.ownsRow B e sz u m ys) (hB:G<B)
  (ho:w5.ownsRow B 120 3 v' l'.length (ap l')) (hB2:w.heap.size+2≤B):ChI w w5 G a0 a1 a2 a3 i0 i1 i2 i3 v' l':=by
 have hgt:=h.gt;refine ⟨h.st.grown hg (fun he=> ?_),h.ans.grown hg (fun he=> ?_),h.inn.grown hg (fun he=> ?_),h.below.grown hg h.below.size (fun q hq=> ?_),ho.mono hB2,fun he=> ?_,h.gt⟩
 ·have:=(hu.lt _ he.symm).1;omega
 ·have:=(hu.lt _ he.symm).1;omega
 ·have:=(hu.lt _ he.symm).1;omega
 ·have:=(hu.lt _ hq).1;omega
 ·have:=(ho.lt _ he).1;omega
theorem afm {tk:List Tk} {q r:Nat} (h:rkT tk q=(r:Int)) (hr:1≤r): ∃s,tk[q]? =some (4,s):=by
 unfold rkT at h
 split at h
 ·rename_i k s hs
  by_cases hk:k=4
  ·subst hk;exact ⟨s,hs⟩
  ·rw [if_neg hk] at h;omega
 ·omega
theorem afn {tk:List Tk} {q:Nat} {k:Int} {s:ByteArray} (h:tk[q]? =some (k,s)) (hq:q<tk.length):tk[q].2=s:=by
 rw [List.getElem?_eq_getElem hq] at h;injection h with h;rw [h]
theorem ChI.last {w w4:World} {G:Nat} {a0 a1 a2 a3 i0 i1 i2 i3 v:Value} {l:List Cl} (h:ChI w w4 G a0 a1 a2 a3 i0 i1 i2 i3 v l) (x0 x1 x2 x3:Value):
  BlkS ((((w4.setCell ⟨w.heap.size+1,0,none⟩ x0).setCell ⟨w.heap.size+1,1,none⟩ x1).setCell ⟨w.heap.size+1,2,none⟩ x2).setCell ⟨w.heap.size+1,3,none⟩ x3) (w.heap.size+1) #[x0,x1,x2,x3]∧
  Below w.heap.size w ((((w4.setCell ⟨w.heap.size+1,0,none⟩ x0).setCell ⟨w.heap.size+1,1,none⟩ x1).setCell ⟨w.heap.size+1,2,none⟩ x2).setCell ⟨w.heap.size+1,3,none⟩ x3)∧
  ((((w4.setCell ⟨w.heap.size+1,0,none⟩ x0).setCell ⟨w.heap.size+1,1,none⟩ x1).setCell ⟨w.heap.size+1,2,none⟩ x2).setCell ⟨w.heap.size+1,3,none⟩ x3).ownsRow w.heap.size 120 3 v l.length (ap l):=
 ⟨h.ans.put4 x0 x1 x2 x3,bI h.below (by omega) x0 x1 x2 x3,(dm h.own (g:=w.heap.size+1) (by omega) x0 x1 x2 x3).mono (by omega)⟩
theorem wW (tk:List Tk) (N:Nat) (ih:AllR tk N) (h20:tk.length≤20000) (r p d:Nat) (W K:Value) (w:World) (hr2:2≤r) (hr7:r<7) (hp:p≤tk.length) (hN:10*(tk.length-p)+(8-r)≤N) (hd:d≤41) (hr:RowTk w W K tk):
  Calls Tryz.prog 145 #[StV W K p d, .int .i64 (r:Int)] w (ec tk (.level r) p d W K w):=by
 obtain ⟨i0,hi,hz0,hz1,hz2⟩:=info_parts gj;obtain ⟨⟨xa,xn,xc,rfl⟩,⟨ya,yn,yc,rfl⟩⟩:=hr.sl;have HR:=aim hr;have IH:=aim ih;obtain ⟨⟨ao,cap,hv,q1,q2,q3⟩,-⟩:=hr;simp only [Value.slice.injEq] at hv;obtain ⟨rfl,rfl,rfl⟩:=hv;unfold maxLen at q2;have H3:=aim q3;clear ih q3
 have hne7:((r:Int)==7)=false:=by simp;omega
 have hri:(r:Int)<7:=by omega
 have hr2i:2≤(r:Int):=by omega
 go_enter Tryz.func145,Tryz.ntmps145
 go_wp2_with fail;have B0:=aim (Begun.start w (.slice xa tk.length xc) (.slice ya yn yc) p d);refine ((show Calls Tryz.prog 145 #[.agg #[.slice xa tk.length xc, .slice ya yn yc, .int .i64 (p:Int), .int .i64 (d:Int)], .int .i64 ((r:Int)+1)] _ _ from IH.out.level (r+1) p d _ _ _ (by omega) (by omega) hp (by omega) hd (HR.out.mono B0.out.2.2))).mono ?_;rintro e w3 ⟨v,W',K',l,q,d',ok,⟨⟨aw,nw,cw,rfl⟩,⟨ak,nk,ck,rfl⟩⟩,rfl,ho,hlq,hq,hb3,hres⟩;have HI:=aim (ChI.first rfl hb3 ho (.slice aw nw cw) (.slice ak nk ck) (.int .i64 (q:Int)) (.int .i64 d'));have HRES:=aim hres;have hgt:=HI.out.gt;clear ho hb3 B0 hres;go_wp2_with fail
 go_loopw [7,9,10] (fun va vok vm wr=>LvI tk r p d (.slice xa tk.length xc) (.slice ya yn yc) w w3.heap.size va vok vm wr) (fun _ _ m _=>20001-(intOf m).toNat)
 case atStart=>
  refine ⟨l,0,q,d',aw,nw,cw,ak,nk,ck,ok,rfl,rfl,by omega,hlq,hq,HI.out, ?_⟩;exact HRES.out.elim (fun ⟨a,b,c,e,f⟩=> .inl ⟨a,b,c,e,Through.start hr7 f⟩) (fun ⟨a,b⟩=> .inr ⟨a,adP hr7 b⟩)
 case round=>
  clear HI HRES hlq hq;obtain ⟨l,n,q,d',aw,nw,cw,ak,nk,ck,ok,rfl,rfl,hnq,hlq,hq,hch,hres⟩:=hrel;have HC:=aim hch;clear hch
  have n1: ¬w3.heap.size=w.heap.size+1:=by omega
  have n2: ¬w.heap.size+1=w3.heap.size:=by omega
  obtain ⟨⟨g0,g1,g2,g3⟩,y0,y1,y2,y3⟩:=HC.out.inn.all
  cases ok with
  |false=>
   have HN:=aim (hres.elim (fun ⟨a,_⟩=>by cases a) (fun ⟨_,b⟩=>b));clear hres;obtain ⟨⟨r0,r1,r2,r3⟩,z0,z1,z2,z3⟩:=HC.out.ans.all;go_wp2_with fail
   go_region
   all_goals
    obtain ⟨hE,hB,hO⟩:=HC.out.last (.slice aw nw cw) (.slice ak nk ck) (.int .i64 (q:Int)) (.int .i64 d');obtain ⟨⟨e0,e1,e2,e3⟩,-⟩:=hE.all;go_wp2
    exact bodyPost_ret (v:= .tuple #[u7, .agg #[.slice aw nw cw, .slice ak nk ck, .int .i64 (q:Int), .int .i64 d'], .bool false]) (by simp [results,Tryz.results145,go_sem,e0,e1,e2,e3]) rfl
     ⟨u7,_,_,l,q,d',false,⟨⟨_,_,_,rfl⟩,⟨_,_,_,rfl⟩⟩,rfl,hO.drew,hlq,hq,hB.drew, .inr ⟨rfl,HN.out⟩⟩
  |true=>
   obtain ⟨-,hW,hK,hd',hth⟩:=hres.resolve_right (fun h=>by cases h.1);simp only [Value.slice.injEq] at hW hK;obtain ⟨rfl,rfl,rfl⟩:=hW;obtain ⟨rfl,rfl,rfl⟩:=hK;subst hd';have HTH:=aim hth;clear hres hth;go_wp2_with fail;refine ((show Calls Tryz.prog 175 #[.agg #[.slice _ _ _, .slice _ _ _, .int .i64 (q:Int), .int .i64 (d:Int)]] _ _ from wT _ _ tk q d _ (HR.out.mono HC.out.below) (by omega))).mono ?_;rintro e w4 ⟨rfl,hb4⟩;have HD:=aim (HC.out.later hb4);clear hb4 HC g0 g1 g2 g3 y0 y1 y2 y3;obtain ⟨⟨g0,g1,g2,g3⟩,y0,y1,y2,y3⟩:=HD.out.inn.all
   by_cases hk:rkT tk q=(r:Int)
   ·rw [hk]
    by_cases h4:r≠4∨n=0
    ·have HK:=aim hk
     obtain ⟨s,hs⟩:=afm hk (by omega);have hqt:=dP hs;obtain ⟨b,rfl,hbl,cc⟩:=H3.out.resolve_left (by rintro rfl;simp at hqt);have c0:=cc q hqt;have HS:=aim hs;rw [afn hs hqt] at c0;have hw0:w4.cell? ⟨b,q,none⟩=some (.string s):=(HD.out.below.cell (p:=⟨b,q,none⟩) hbl).trans c0
     have hqn:(q:Int)<(tk.length:Int):=by omega
     have H4:=aim h4;have lt4:=HD.out.inn.lt;have HE:=aim (HD.out.seti (.int .i64 ((q:Int)+1)));have h44:=wV r n h4;clear hk hs cc c0 h4
     rcases h44 with ⟨h4a,h4b,h4c⟩|⟨h4a,h4b,h4c⟩
     ·go_wp2_with fail
      refine ((show Calls Tryz.prog 145 #[.agg #[.slice _ _ _, .slice _ _ _, .int .i64 ((q:Int)+1), .int .i64 (d:Int)], .int .i64 ((r:Int)+1)] _ _ from IH.out.level (r+1) (q+1) d _ _ _ (by omega) (by omega) hqt (by omega) hd (HR.out.mono HE.out.below))).mono ?_;rintro e w6 ⟨v2,W2,K2,l2,q2,d2,ok2,⟨⟨aw2,nw2,cw2,rfl⟩,⟨ak2,nk2,ck2,rfl⟩⟩,rfl,ho2,hlq2,hq2,hb6,hres2⟩;have HF:=aim (HE.out.later hb6);have HO2:=aim (ho2.mono (base':=w3.heap.size+1) HE.out.inn.lt);have HRES2:=aim hres2;have hl6:w3.heap.size<w6.heap.size:=HF.out.inn.lt
      have hs7:(w6.alloc (.cells #[.slice aw2 nw2 cw2, .slice ak2 nk2 ck2, .int .i64 (q2:Int), .int .i64 d2] 135)).heap.size=w6.heap.size+1:=by simp
      have hb7:Below w6.heap.size w6 (w6.alloc (.cells #[.slice aw2 nw2 cw2, .slice ak2 nk2 ck2, .int .i64 (q2:Int), .int .i64 d2] 135)):=(Below.refl _ _).alloc (ain _) _;have HG:=aim (HF.out.later hb7);have HN7:=aim (BlkS.new w6 #[.slice aw2 nw2 cw2, .slice ak2 nk2 ck2, .int .i64 (q2:Int), .int .i64 d2]);have HO3:=aim (cY HO2.out hb7)
      have hln:l.length+l2.length≤20000:=by omega
      clear ho2 hb6 hres2 HE HF HO2 g0 g1 g2 g3 y0 y1 y2 y3 hb7
      go_wp2_with (at_builtin;refine aK rfl _ _ 23 rfl (w6.heap.size+1) 120 i0 (.agg #[.int .i64 0, .string ByteArray.empty, .int .i64 0]) 3 32 Tryz.underlying23 hi hz0 hz1 hz2 rfl (by decide) _ 1 [.int .i64 8, .string s, .int .i64 2] rfl (sE hs7) _ _ l.length (ap l) rfl (HG.out.own.alloc _) (aE _) (by unfold maxLen;omega) (by omega) (by simp) ?_)
      intro v10 w10 hown10 hgrow10;have hb10:=nG hs7 hgrow10;have hs10:w6.heap.size+1≤w10.heap.size:=Nat.le_trans (Nat.le_of_eq hs7.symm) hb10.size;have HX10:=aim hown10;have HV:=aim (HG.out.later hb10);have HN10:=aim (HN7.out.below hb10);have HO11:=aim (cY HO3.out hb10);clear hown10 hgrow10 hb10 HG HN7 HO3
      go_wp2_with (at_builtin;refine aK rfl _ _ 23 rfl (w6.heap.size+1) 120 i0 (.agg #[.int .i64 0, .string ByteArray.empty, .int .i64 0]) 3 32 Tryz.underlying23 hi hz0 hz1 hz2 rfl (by decide) _ (1+l.length) _ rfl HX10.out _ _ l2.length (ap l2) rfl HO11.out (aE _) (by unfold maxLen;omega) (by omega) hs10 ?_)
      intro v11 w11 hown11 hgrow11;have HW:=aim (ChI.apps HV.out hgrow11 HX10.out (by omega) (y6 hown11) (by omega));have HN11:=aim (HN10.out.grown hgrow11 (fun he=>by have:=(HX10.out.lt _ he.symm).1;omega));have HOW:=aim hown11;clear hown11 hgrow11 HX10 HV HN10 HO11
      obtain ⟨m,hm⟩: ∃m,m=1+l.length+l2.length:=⟨_,rfl⟩
      obtain ⟨a11,c11,rfl⟩: ∃a c,v11= .slice a m c:=by rw [hm];exact pc HOW.out
      clear HOW;obtain ⟨⟨g0,g1,g2,g3⟩,y0,y1,y2,y3⟩:=HW.out.inn.all;obtain ⟨⟨x0,x1,x2,x3⟩,-⟩:=HN11.out.all
      have hne: ¬w6.heap.size=w3.heap.size:=by omega
      have hne2: ¬w3.heap.size=w6.heap.size:=by omega
      cases ok2 with
      |false=>
       have HNN:=aim (HRES2.out.elim (fun ⟨a,_⟩=>by cases a) (fun ⟨_,b⟩=>b));have HZ:=aim (HW.out.over4 (.slice aw2 nw2 cw2) (.slice ak2 nk2 ck2) (.int .i64 (q2:Int)) (.int .i64 d2));clear HRES2;go_wp2;go_roundw
       case rel=>exact ⟨(8,s,2)::(l++l2),n+1,q2,d2,aw2,nw2,cw2,ak2,nk2,ck2,false,rfl,by go_num,by omega,by simp only [List.length_cons,aio];omega,hq2,HZ.out, .inr ⟨rfl,HTH.out.fail HK.out H4.out HNN.out⟩⟩
       case measure=>simp [intOf];omega
      |true=>
       obtain ⟨-,hW,hK,hd2,hrd2⟩:=HRES2.out.resolve_right (fun h=>by cases h.1);have HT2:=aim (HTH.out.next HK.out H4.out HS.out hrd2);have HZ:=aim (HW.out.over4 (.slice aw2 nw2 cw2) (.slice ak2 nk2 ck2) (.int .i64 (q2:Int)) (.int .i64 d2));have HWK:=aim (And.intro hW (And.intro hK hd2));clear HRES2 hW hK hd2 hrd2
       by_cases h60:m≤60
       ·have h60i:1+(l.length:Int)+(l2.length:Int)≤60:=by omega
        go_wp2;go_roundw
        case rel=>exact ⟨(8,s,2)::(l++l2),n+1,q2,d2,aw2,nw2,cw2,ak2,nk2,ck2,true,by first|rfl|rw [decide_eq_true h60i],by go_num,by omega,by simp only [List.length_cons,aio];omega,hq2,HZ.out, .inl ⟨rfl,HWK.out.1,HWK.out.2.1,HWK.out.2.2,HT2.out⟩⟩
        case measure=>simp [intOf];omega
       ·have h60i: ¬1+(l.length:Int)+(l2.length:Int)≤60:=by omega
        go_wp2;go_roundw
        case rel=>exact ⟨(8,s,2)::(l++l2),n+1,q2,d2,aw2,nw2,cw2,ak2,nk2,ck2,false,by first|rfl|rw [decide_eq_false h60i],by go_num,by omega,by simp only [List.length_cons,aio];omega,hq2,HZ.out, .inr ⟨rfl,HT2.out.long (by simp only [List.length_cons,aio];omega)⟩⟩
        case measure=>simp [intOf];omega
     ·go_wp2_with fail
      refine ((show Calls Tryz.prog 145 #[.agg #[.slice _ _ _, .slice _ _ _, .int .i64 ((q:Int)+1), .int .i64 (d:Int)], .int .i64 ((r:Int)+1)] _ _ from IH.out.level (r+1) (q+1) d _ _ _ (by omega) (by omega) hqt (by omega) hd (HR.out.mono HE.out.below))).mono ?_;rintro e w6 ⟨v2,W2,K2,l2,q2,d2,ok2,⟨⟨aw2,nw2,cw2,rfl⟩,⟨ak2,nk2,ck2,rfl⟩⟩,rfl,ho2,hlq2,hq2,hb6,hres2⟩;have HF:=aim (HE.out.later hb6);have HO2:=aim (ho2.mono (base':=w3.heap.size+1) HE.out.inn.lt);have HRES2:=aim hres2;have hl6:w3.heap.size<w6.heap.size:=HF.out.inn.lt
      have hs7:(w6.alloc (.cells #[.slice aw2 nw2 cw2, .slice ak2 nk2 ck2, .int .i64 (q2:Int), .int .i64 d2] 135)).heap.size=w6.heap.size+1:=by simp
      have hb7:Below w6.heap.size w6 (w6.alloc (.cells #[.slice aw2 nw2 cw2, .slice ak2 nk2 ck2, .int .i64 (q2:Int), .int .i64 d2] 135)):=(Below.refl _ _).alloc (ain _) _;have HG:=aim (HF.out.later hb7);have HN7:=aim (BlkS.new w6 #[.slice aw2 nw2 cw2, .slice ak2 nk2 ck2, .int .i64 (q2:Int), .int .i64 d2]);have HO3:=aim (cY HO2.out hb7)
      have hln:l.length+l2.length≤20000:=by omega
      clear ho2 hb6 hres2 HE HF HO2 g0 g1 g2 g3 y0 y1 y2 y3 hb7
      go_wp2_with (at_builtin;refine aK rfl _ _ 23 rfl (w6.heap.size+1) 120 i0 (.agg #[.int .i64 0, .string ByteArray.empty, .int .i64 0]) 3 32 Tryz.underlying23 hi hz0 hz1 hz2 rfl (by decide) _ 1 [.int .i64 8, .string s, .int .i64 2] rfl (sE hs7) _ _ l.length (ap l) rfl (HG.out.own.alloc _) (aE _) (by unfold maxLen;omega) (by omega) (by simp) ?_)
      intro v10 w10 hown10 hgrow10;have hb10:=nG hs7 hgrow10;have hs10:w6.heap.size+1≤w10.heap.size:=Nat.le_trans (Nat.le_of_eq hs7.symm) hb10.size;have HX10:=aim hown10;have HV:=aim (HG.out.later hb10);have HN10:=aim (HN7.out.below hb10);have HO11:=aim (cY HO3.out hb10);clear hown10 hgrow10 hb10 HG HN7 HO3
      go_wp2_with (at_builtin;refine aK rfl _ _ 23 rfl (w6.heap.size+1) 120 i0 (.agg #[.int .i64 0, .string ByteArray.empty, .int .i64 0]) 3 32 Tryz.underlying23 hi hz0 hz1 hz2 rfl (by decide) _ (1+l.length) _ rfl HX10.out _ _ l2.length (ap l2) rfl HO11.out (aE _) (by unfold maxLen;omega) (by omega) hs10 ?_)
      intro v11 w11 hown11 hgrow11;have HW:=aim (ChI.apps HV.out hgrow11 HX10.out (by omega) (y6 hown11) (by omega));have HN11:=aim (HN10.out.grown hgrow11 (fun he=>by have:=(HX10.out.lt _ he.symm).1;omega));have HOW:=aim hown11;clear hown11 hgrow11 HX10 HV HN10 HO11
      obtain ⟨m,hm⟩: ∃m,m=1+l.length+l2.length:=⟨_,rfl⟩
      obtain ⟨a11,c11,rfl⟩: ∃a c,v11= .slice a m c:=by rw [hm];exact pc HOW.out
      clear HOW;obtain ⟨⟨g0,g1,g2,g3⟩,y0,y1,y2,y3⟩:=HW.out.inn.all;obtain ⟨⟨x0,x1,x2,x3⟩,-⟩:=HN11.out.all
      have hne: ¬w6.heap.size=w3.heap.size:=by omega
      have hne2: ¬w3.heap.size=w6.heap.size:=by omega
      cases ok2 with
      |false=>
       have HNN:=aim (HRES2.out.elim (fun ⟨a,_⟩=>by cases a) (fun ⟨_,b⟩=>b));have HZ:=aim (HW.out.over4 (.slice aw2 nw2 cw2) (.slice ak2 nk2 ck2) (.int .i64 (q2:Int)) (.int .i64 d2));clear HRES2;go_wp2;go_roundw
       case rel=>exact ⟨(8,s,2)::(l++l2),n+1,q2,d2,aw2,nw2,cw2,ak2,nk2,ck2,false,rfl,by go_num,by omega,by simp only [List.length_cons,aio];omega,hq2,HZ.out, .inr ⟨rfl,HTH.out.fail HK.out H4.out HNN.out⟩⟩
       case measure=>simp [intOf];omega
      |true=>
       obtain ⟨-,hW,hK,hd2,hrd2⟩:=HRES2.out.resolve_right (fun h=>by cases h.1);have HT2:=aim (HTH.out.next HK.out H4.out HS.out hrd2);have HZ:=aim (HW.out.over4 (.slice aw2 nw2 cw2) (.slice ak2 nk2 ck2) (.int .i64 (q2:Int)) (.int .i64 d2));have HWK:=aim (And.intro hW (And.intro hK hd2));clear HRES2 hW hK hd2 hrd2
       by_cases h60:m≤60
       ·have h60i:1+(l.length:Int)+(l2.length:Int)≤60:=by omega
        go_wp2;go_roundw
        case rel=>exact ⟨(8,s,2)::(l++l2),n+1,q2,d2,aw2,nw2,cw2,ak2,nk2,ck2,true,by first|rfl|rw [decide_eq_true h60i],by go_num,by omega,by simp only [List.length_cons,aio];omega,hq2,HZ.out, .inl ⟨rfl,HWK.out.1,HWK.out.2.1,HWK.out.2.2,HT2.out⟩⟩
        case measure=>simp [intOf];omega
       ·have h60i: ¬1+(l.length:Int)+(l2.length:Int)≤60:=by omega
        go_wp2;go_roundw
        case rel=>exact ⟨(8,s,2)::(l++l2),n+1,q2,d2,aw2,nw2,cw2,ak2,nk2,ck2,false,by first|rfl|rw [decide_eq_false h60i],by go_num,by omega,by simp only [List.length_cons,aio];omega,hq2,HZ.out, .inr ⟨rfl,HT2.out.long (by simp only [List.length_cons,aio];omega)⟩⟩
        case measure=>simp [intOf];omega
    ·have hr4:r=4:=by omega
     have hn0:n≠0:=by omega
     subst hr4
     have hnb:((n:Int)==0)=false:=by simp;omega
     obtain ⟨⟨r0,r1,r2,r3⟩,z0,z1,z2,z3⟩:=HD.out.ans.all;go_wp2_with fail
     go_region
     all_goals
      obtain ⟨hE,hB,hO⟩:=HD.out.last (.slice aw tk.length cw) (.slice ak nk ck) (.int .i64 (q:Int)) (.int .i64 (d:Int));obtain ⟨⟨e0,e1,e2,e3⟩,-⟩:=hE.all;go_wp2
      exact bodyPost_ret (v:= .tuple #[u7, .agg #[.slice aw tk.length cw, .slice ak nk ck, .int .i64 (q:Int), .int .i64 (d:Int)], .bool true]) (by simp [results,Tryz.results145,go_sem,e0,e1,e2,e3]) rfl
       ⟨u7,_,_,l,q,(d:Int),true,⟨⟨_,_,_,rfl⟩,⟨_,_,_,rfl⟩⟩,rfl,hO.drew,hlq,hq,hB.drew, .inl ⟨rfl,rfl,rfl,rfl,HTH.out.done (.inr ⟨rfl,hn0⟩)⟩⟩
   ·have hkb:(rkT tk q==(r:Int))=false:=beq_eq_false_iff_ne.mpr hk
    obtain ⟨⟨r0,r1,r2,r3⟩,z0,z1,z2,z3⟩:=HD.out.ans.all;go_wp2_with fail
    go_region
    all_goals
     obtain ⟨hE,hB,hO⟩:=HD.out.last (.slice aw tk.length cw) (.slice ak nk ck) (.int .i64 (q:Int)) (.int .i64 (d:Int));obtain ⟨⟨e0,e1,e2,e3⟩,-⟩:=hE.all;go_wp2
     exact bodyPost_ret (v:= .tuple #[u7, .agg #[.slice aw tk.length cw, .slice ak nk ck, .int .i64 (q:Int), .int .i64 (d:Int)], .bool true]) (by simp [results,Tryz.results145,go_sem,e0,e1,e2,e3]) rfl
      ⟨u7,_,_,l,q,(d:Int),true,⟨⟨_,_,_,rfl⟩,⟨_,_,_,rfl⟩⟩,rfl,hO.drew,hlq,hq,hB.drew, .inl ⟨rfl,rfl,rfl,rfl,HTH.out.done (.inl hk)⟩⟩
structure PtW (w wr:World) (i0 i1 i2 i3 va:Value) (l:List Cl):Prop where
 st:BlkS wr w.heap.size #[i0,i1,i2,i3]
 ans:BlkS wr (w.heap.size+1) #[.slice none 0 0, .slice none 0 0, .int .i64 0, .int .i64 0]
 below:Below w.heap.size w wr
 own:wr.ownsRow (w.heap.size+2) 120 3 va l.length (ap l)
theorem PtW.later {w wr w2:World} {i0 i1 i2 i3 va:Value} {l:List Cl} (h:PtW w wr i0 i1 i2 i3 va l) (hb:Below wr.heap.size wr w2):PtW w w2 i0 i1 i2 i3 va l:=
 ⟨h.st.below hb,h.ans.below hb,h.below.trans (hb.mono h.below.size),cY h.own hb⟩
theorem PtW.seti {w wr:World} {i0 i1 i2 i3 va:Value} {l:List Cl} (h:PtW w wr i0 i1 i2 i3 va l) (x:Value):PtW w (wr.setCell ⟨w.heap.size,2,none⟩ x) i0 i1 x i3 va l:=
 ⟨by simpa using h.st.set_ 2 x,BlkS.far h.ans (f:=w.heap.size) 2 x (by omega),h.below.setCell (p:=⟨w.heap.size,2,none⟩) (ain _) x,
  ownsRow_setCell_other h.own (a:=⟨w.heap.size,2,none⟩) (by intro he;have:=(h.own.lt _ he).1;simp only at this;omega) x⟩
theorem PtW.over4 {w wr:World} {i0 i1 i2 i3 va:Value} {l:List Cl} (h:PtW w wr i0 i1 i2 i3 va l) (x0 x1 x2 x3:Value):PtW w ((((wr.setCell ⟨w.heap.size,0,none⟩ x0).setCell ⟨w.heap.size,1,none⟩ x1).setCell ⟨w.heap.size,2,none⟩ x2).setCell ⟨w.heap.size,3,none⟩ x3) x0 x1 x2 x3 va l:=
 ⟨h.st.put4 x0 x1 x2 x3,(((BlkS.far h.ans (f:=w.heap.size) 0 x0 (by omega)).far (f:=w.heap.size) 1 x1 (by omega)).far (f:=w.heap.size) 2 x2 (by omega)).far (f:=w.heap.size) 3 x3 (by omega),bI h.below (ain _) x0 x1 x2 x3,dm h.own (by omega) x0 x1 x2 x3⟩
theorem PtW.last {w w4:World} {i0 i1 i2 i3 v:Value} {l:List Cl} (h:PtW w w4 i0 i1 i2 i3 v l) (x0 x1 x2 x3:Value):
  BlkS ((((w4.setCell ⟨w.heap.size+1,0,none⟩ x0).setCell ⟨w.heap.size+1,1,none⟩ x1).setCell ⟨w.heap.size+1,2,none⟩ x2).setCell ⟨w.heap.size+1,3,none⟩ x3) (w.heap.size+1) #[x0,x1,x2,x3]∧
  Below w.heap.size w ((((w4.setCell ⟨w.heap.size+1,0,none⟩ x0).setCell ⟨w.heap.size+1,1,none⟩ x1).setCell ⟨w.heap.size+1,2,none⟩ x2).setCell ⟨w.heap.size+1,3,none⟩ x3)∧
  ((((w4.setCell ⟨w.heap.size+1,0,none⟩ x0).setCell ⟨w.heap.size+1,1,none⟩ x1).setCell ⟨w.heap.size+1,2,none⟩ x2).setCell ⟨w.heap.size+1,3,none⟩ x3).ownsRow w.heap.size 120 3 v l.length (ap l):=
 ⟨h.ans.put4 x0 x1 x2 x3,bI h.below (by omega) x0 x1 x2 x3,(dm h.own (g:=w.heap.size+1) (by omega) x0 x1 x2 x3).mono (by omega)⟩
theorem PtW.apps {w w4 w5:World} {i0 i1 i2 i3 va v':Value} {l l2:List Cl} (h:PtW w w4 i0 i1 i2 i3 va l) (hg:w4.grownBy w5 va.ownBlock) (ho:w5.ownsRow (w.heap.size+2) 120 3 v' (l.length+l2.length) (ap l++ap l2)):PtW w w5 i0 i1 i2 i3 v' (l++l2):=by
 refine ⟨h.st.grown hg (fun he=> ?_),h.ans.grown hg (fun he=> ?_),h.below.grown hg h.below.size (fun q hq=> ?_), ?_⟩
 ·have:=(h.own.lt _ he.symm).1;omega
 ·have:=(h.own.lt _ he.symm).1;omega
 ·have:=(h.own.lt _ hq).1;omega
 ·rw [aio,aB];exact ho
theorem PtW.start {w:World} {i0 i1 i2 i3:Value}:PtW w (((w.alloc (.cells #[i0,i1,i2,i3] 135)).alloc (.cells #[.slice none 0 0, .slice none 0 0, .int .i64 0, .int .i64 0] 135)).alloc (.cells #[] 120)) i0 i1 i2 i3 (.slice (some ⟨w.heap.size+1+1,0,none⟩) 0 0) []:=by
 obtain ⟨hA,hB,hC,hD⟩:=cT w #[i0,i1,i2,i3] #[.slice none 0 0, .slice none 0 0, .int .i64 0, .int .i64 0];refine ⟨hA.alloc _,hB.alloc _,hC.alloc hC.size _, ?_⟩;have:=World.ownsRow_lit (e:=120) (size:=3) (base:=w.heap.size+2) ((w.alloc (.cells #[i0,i1,i2,i3] 135)).alloc (.cells #[.slice none 0 0, .slice none 0 0, .int .i64 0, .int .i64 0] 135)) #[] 0 (by omega) (by unfold maxLen;omega) rfl;rw [hD] at this;exact this
def PtI (tk:List Tk) (c:List UInt8) (p d:Nat) (W K:Value) (w:World) (va vm:Value) (wr:World):Prop:=
 ∃(l:List Cl) (n q:Nat),vm= .int .i64 (n:Int)∧p≤q∧n≤8∧l.length+p≤q∧q≤tk.length∧PtW w wr W K (.int .i64 (q:Int)) (.int .i64 (d:Int)) va l∧Among tk c p d n l q
theorem wY (tk:List Tk) (N:Nat) (ih:AllR tk N) (h20:tk.length≤20000) (p d:Nat) (c:ByteArray) (W K:Value) (w:World) (hp:p≤tk.length) (hN:10*(tk.length-p)+8≤N) (hd:d≤41) (hr:RowTk w W K tk):
  Calls Tryz.prog 212 #[StV W K p d, .string c] w (acD tk c.data.toList p d W K w):=by
 obtain ⟨i0,hi,hz0,hz1,hz2⟩:=info_parts gj;obtain ⟨⟨xa,xn,xc,rfl⟩,⟨ya,yn,yc,rfl⟩⟩:=hr.sl;have HR:=aim hr;have IH:=aim ih;clear hr ih
 go_enter Tryz.func212,Tryz.ntmps212
 go_wp2_with fail
 go_loopw [8,9] (fun va vm wr=>PtI tk c.data.toList p d (.slice xa xn xc) (.slice ya yn yc) w va vm wr) (fun _ m _=>20001-(intOf m).toNat)
 case atStart=>exact ⟨[],0,p,rfl,by omega,by omega,by simp,hp,PtW.start,Among.start _ _ _ _⟩
 case round=>
  obtain ⟨l,n,q,rfl,hnq,hn8,hlq,hq,hw,ham⟩:=hrel;have HC:=aim hw;clear hw;obtain ⟨⟨g0,g1,g2,g3⟩,-⟩:=HC.out.st.all;go_wp2_with fail;refine ((show Calls Tryz.prog 146 #[.agg #[.slice _ _ _, .slice _ _ _, .int .i64 (q:Int), .int .i64 (d:Int)], .string c] _ _ from dl _ _ tk q d c _ (HR.out.mono HC.out.below) (by omega))).mono ?_;rintro e w4 ⟨rfl,hb4⟩;have HP:=aim (HC.out.later hb4);clear HC hb4 g0 g1 g2 g3;obtain ⟨⟨g0,g1,g2,g3⟩,y0,y1,y2,y3⟩:=HP.out.st.all
  have hne5: ¬w.heap.size=w.heap.size+1:=by omega
  cases hc:isT tk q c.data.toList with
  |true=>
   have hql:=bV hc;have HD:=aim (ham.done hc);clear hc ham;obtain ⟨⟨r0,r1,r2,r3⟩,z0,z1,z2,z3⟩:=HP.out.ans.all;go_wp2_with fail
   go_region
   all_goals
    obtain ⟨hE,hB,hO⟩:=(HP.out.seti (.int .i64 ((q:Int)+1))).last (.slice xa xn xc) (.slice ya yn yc) (.int .i64 ((q:Int)+1)) (.int .i64 (d:Int));obtain ⟨⟨e0,e1,e2,e3⟩,-⟩:=hE.all;go_wp2
    exact bodyPost_ret (v:= .tuple #[u8, .int .i64 (n:Int), .agg #[.slice xa xn xc, .slice ya yn yc, .int .i64 ((q:Int)+1), .int .i64 (d:Int)], .bool true]) (by simp [results,Tryz.results212,go_sem,e0,e1,e2,e3]) rfl
     ⟨u8,_,_,l,q+1,n,(d:Int),true,⟨⟨_,_,_,rfl⟩,⟨_,_,_,rfl⟩⟩,rfl,hO.drew,by omega,by omega,hB.drew, .inl ⟨rfl,rfl,rfl,rfl,HD.out⟩⟩
  |false=>
   have hne6:w.heap.size+1<w4.heap.size:=HP.out.ans.lt
   by_cases h0:n=0
   ·have hni: ¬(0:Int)<(n:Int):=by omega
    go_wp2_with fail;refine ((show Calls Tryz.prog 109 #[.agg #[.slice _ _ _, .slice _ _ _, .int .i64 (q:Int), .int .i64 (d:Int)]] _ _ from IH.out.choice q d _ _ _ (by omega) (by omega) hd (HR.out.mono HP.out.below))).mono ?_;rintro e w6 ⟨v2,W2,K2,l2,q2,d2,ok2,⟨⟨aw2,nw2,cw2,rfl⟩,⟨ak2,nk2,ck2,rfl⟩⟩,rfl,ho2,hlq2,hq2,hb6,hres2⟩;have hb7:Below w6.heap.size w6 (w6.alloc (.cells #[.slice aw2 nw2 cw2, .slice ak2 nk2 ck2, .int .i64 (q2:Int), .int .i64 d2] 135)):=(Below.refl _ _).alloc (ain _) _;have HL6:=aim (HP.out.later hb6);have HG:=aim (HL6.out.later hb7);have HN7:=aim (BlkS.new w6 #[.slice aw2 nw2 cw2, .slice ak2 nk2 ck2, .int .i64 (q2:Int), .int .i64 d2]);have HO3:=aim (cY (ho2.mono (base':=w.heap.size+2) (by have:=HP.out.ans.lt;omega)) hb7);have HRES2:=aim hres2;have hl6:w.heap.size+1<w6.heap.size:=HL6.out.ans.lt
    have hl6b:w.heap.size<w6.heap.size:=by omega
    have hne: ¬w6.heap.size=w.heap.size:=by omega
    have hne2: ¬w.heap.size=w6.heap.size:=by omega
    have hne3: ¬w6.heap.size=w.heap.size+1:=by omega
    have hne4: ¬w.heap.size+1=w6.heap.size:=by omega
    have hlln:l.length+l2.length≤20000:=by omega
    have hq20:q2≥q:=by omega
    obtain ⟨⟨f0,f1,f2,f3⟩,k0,k1,k2,k3⟩:=HL6.out.st.all;obtain ⟨⟨r0,r1,r2,r3⟩,z0,z1,z2,z3⟩:=HL6.out.ans.all;clear ho2 hb6 hres2 HP g0 g1 g2 g3 y0 y1 y2 y3 hb7
    cases ok2 with
    |false=>
     have HN:=aim (ham.fail hc (fun _=>rfl) (fun h=>absurd h0 h) (HRES2.out.elim (fun ⟨a,_⟩=>by cases a) (fun ⟨_,b⟩=>b)));clear HRES2;go_wp2_with fail
     go_region
     all_goals
      obtain ⟨hE,hB,hO⟩:=HL6.out.last (.slice aw2 nw2 cw2) (.slice ak2 nk2 ck2) (.int .i64 (q2:Int)) (.int .i64 d2);obtain ⟨⟨e0,e1,e2,e3⟩,-⟩:=((hE.alloc (.cells #[.slice aw2 nw2 cw2, .slice ak2 nk2 ck2, .int .i64 (q2:Int), .int .i64 d2] 135)).drew).all;go_wp2
      exact bodyPost_ret (v:= .tuple #[u8, .int .i64 0, .agg #[.slice aw2 nw2 cw2, .slice ak2 nk2 ck2, .int .i64 (q2:Int), .int .i64 d2], .bool false]) (by simp [results,Tryz.results212,go_sem,e0,e1,e2,e3]) rfl
       ⟨u8,_,_,l,q2,0,d2,false,⟨⟨_,_,_,rfl⟩,⟨_,_,_,rfl⟩⟩,rfl,(hO.alloc _).drew,by omega,hq2,(hB.alloc hB.size _).drew, .inr ⟨rfl,HN.out⟩⟩
    |true=>
     obtain ⟨-,hW,hK,hd2,hrd2⟩:=HRES2.out.resolve_right (fun h=>by cases h.1);have HRD2:=aim hrd2;have HWK:=aim (And.intro hW (And.intro hK hd2));clear HRES2 hrd2 hW hK hd2
     by_cases h8:n=8
     ·exfalso;omega
     ·have h8i:((n:Int)==8)=false:=by simp;omega
      obtain ⟨hW,hK,hd2⟩:=HWK.out;simp only [Value.slice.injEq] at hW hK;obtain ⟨rfl,rfl,rfl⟩:=hW;obtain ⟨rfl,rfl,rfl⟩:=hK
      replace hd2:d2=(d:Int):=hd2
      subst hd2
      go_wp2_with (at_builtin;refine aK rfl _ _ 23 rfl (w.heap.size+2) 120 i0 (.agg #[.int .i64 0, .string ByteArray.empty, .int .i64 0]) 3 32 Tryz.underlying23 hi hz0 hz1 hz2 rfl (by decide) _ l.length _ rfl HG.out.own _ _ l2.length (ap l2) rfl HO3.out (aE _) (by unfold maxLen;omega) (by omega) (by simp;omega) ?_)
      intro v10 w10 hown10 hgrow10;have HW:=aim (PtW.apps HG.out hgrow10 hown10);have HN11:=aim (HN7.out.grown hgrow10 (fun he=>by have:=(HL6.out.own.lt _ he.symm).2;omega));clear hown10 hgrow10 HG HN7 HO3 HL6 f0 f1 f2 f3 k0 k1 k2 k3 r0 r1 r2 r3 z0 z1 z2 z3;obtain ⟨⟨g0,g1,g2,g3⟩,y0,y1,y2,y3⟩:=HW.out.st.all;obtain ⟨⟨x0,x1,x2,x3⟩,-⟩:=HN11.out.all;have HZ:=aim (HW.out.over4 (.slice aw2 nw2 cw2) (.slice ak2 nk2 ck2) (.int .i64 (q2:Int)) (.int .i64 (d:Int)));go_wp2;go_roundw
      case rel=>exact ⟨l++l2,n+1,q2,by subst h0;rfl,by omega,by omega,by simp only [aio];omega,hq2,HZ.out,ham.next hc (fun _=>rfl) (fun h=>absurd h0 h) HRD2.out⟩
      case measure=>simp [intOf];omega
   ·have hni:(0:Int)<(n:Int):=by omega
    go_wp2_with fail;refine ((show Calls Tryz.prog 146 #[.agg #[.slice _ _ _, .slice _ _ _, .int .i64 (q:Int), .int .i64 (d:Int)], .string _] _ _ from dl _ _ tk q d ⟨#[44]⟩ _ (HR.out.mono HP.out.below) (by omega))).mono ?_;rintro e w5 ⟨rfl,hb5⟩;have HS:=aim (HP.out.later hb5);clear HP hb5 g0 g1 g2 g3 y0 y1 y2 y3;obtain ⟨⟨g0,g1,g2,g3⟩,y0,y1,y2,y3⟩:=HS.out.st.all
    cases hcm:isT tk q [44] with
    |false=>
     have HN:=aim (ham.comma hc h0 hcm);clear hcm;obtain ⟨⟨r0,r1,r2,r3⟩,z0,z1,z2,z3⟩:=HS.out.ans.all;go_wp2_with fail
     go_region
     all_goals
      obtain ⟨hE,hB,hO⟩:=HS.out.last (.slice xa xn xc) (.slice ya yn yc) (.int .i64 (q:Int)) (.int .i64 (d:Int));obtain ⟨⟨e0,e1,e2,e3⟩,-⟩:=hE.all;go_wp2
      exact bodyPost_ret (v:= .tuple #[u8, .int .i64 0, .agg #[.slice xa xn xc, .slice ya yn yc, .int .i64 (q:Int), .int .i64 (d:Int)], .bool false]) (by simp [results,Tryz.results212,go_sem,e0,e1,e2,e3]) rfl
       ⟨u8,_,_,l,q,0,(d:Int),false,⟨⟨_,_,_,rfl⟩,⟨_,_,_,rfl⟩⟩,rfl,hO.drew,by omega,by omega,hB.drew, .inr ⟨rfl,HN.out⟩⟩
    |true=>
     have hqc:=bV hcm;have HP:=aim (HS.out.seti (.int .i64 ((q:Int)+1)));clear HS;go_wp2_with fail;refine ((show Calls Tryz.prog 109 #[.agg #[.slice _ _ _, .slice _ _ _, .int .i64 ((q:Int)+1), .int .i64 (d:Int)]] _ _ from IH.out.choice (q+1) d _ _ _ (by omega) (by omega) hd (HR.out.mono HP.out.below))).mono ?_;rintro e w6 ⟨v2,W2,K2,l2,q2,d2,ok2,⟨⟨aw2,nw2,cw2,rfl⟩,⟨ak2,nk2,ck2,rfl⟩⟩,rfl,ho2,hlq2,hq2,hb6,hres2⟩;have hb7:Below w6.heap.size w6 (w6.alloc (.cells #[.slice aw2 nw2 cw2, .slice ak2 nk2 ck2, .int .i64 (q2:Int), .int .i64 d2] 135)):=(Below.refl _ _).alloc (ain _) _;have HL6:=aim (HP.out.later hb6);have HG:=aim (HL6.out.later hb7);have HN7:=aim (BlkS.new w6 #[.slice aw2 nw2 cw2, .slice ak2 nk2 ck2, .int .i64 (q2:Int), .int .i64 d2]);have HO3:=aim (cY (ho2.mono (base':=w.heap.size+2) (by have:=HP.out.ans.lt;omega)) hb7);have HRES2:=aim hres2;have hl6:w.heap.size+1<w6.heap.size:=HL6.out.ans.lt
     have hl6b:w.heap.size<w6.heap.size:=by omega
     have hne: ¬w6.heap.size=w.heap.size:=by omega
     have hne2: ¬w.heap.size=w6.heap.size:=by omega
     have hne3: ¬w6.heap.size=w.heap.size+1:=by omega
     have hne4: ¬w.heap.size+1=w6.heap.size:=by omega
     have hlln:l.length+l2.length≤20000:=by omega
     have hq20:q2≥q:=by omega
     obtain ⟨⟨f0,f1,f2,f3⟩,k0,k1,k2,k3⟩:=HL6.out.st.all;obtain ⟨⟨r0,r1,r2,r3⟩,z0,z1,z2,z3⟩:=HL6.out.ans.all;clear ho2 hb6 hres2 HP g0 g1 g2 g3 y0 y1 y2 y3 hb7
     cases ok2 with
     |false=>
      have HN:=aim (ham.fail hc (fun h=>absurd h h0) (fun _=>⟨hcm,rfl⟩) (HRES2.out.elim (fun ⟨a,_⟩=>by cases a) (fun ⟨_,b⟩=>b)));clear HRES2;go_wp2_with fail
      go_region
      all_goals
       obtain ⟨hE,hB,hO⟩:=HL6.out.last (.slice aw2 nw2 cw2) (.slice ak2 nk2 ck2) (.int .i64 (q2:Int)) (.int .i64 d2);obtain ⟨⟨e0,e1,e2,e3⟩,-⟩:=((hE.alloc (.cells #[.slice aw2 nw2 cw2, .slice ak2 nk2 ck2, .int .i64 (q2:Int), .int .i64 d2] 135)).drew).all;go_wp2
       exact bodyPost_ret (v:= .tuple #[u8, .int .i64 0, .agg #[.slice aw2 nw2 cw2, .slice ak2 nk2 ck2, .int .i64 (q2:Int), .int .i64 d2], .bool false]) (by simp [results,Tryz.results212,go_sem,e0,e1,e2,e3]) rfl
        ⟨u8,_,_,l,q2,0,d2,false,⟨⟨_,_,_,rfl⟩,⟨_,_,_,rfl⟩⟩,rfl,(hO.alloc _).drew,by omega,hq2,(hB.alloc hB.size _).drew, .inr ⟨rfl,HN.out⟩⟩
     |true=>
      obtain ⟨-,hW,hK,hd2,hrd2⟩:=HRES2.out.resolve_right (fun h=>by cases h.1);have HRD2:=aim hrd2;have HWK:=aim (And.intro hW (And.intro hK hd2));clear HRES2 hrd2 hW hK hd2
      by_cases h8:n=8
      ·have h8i:((n:Int)==8)=true:=by simp;omega
       have HN:=aim (ham.many hc (by omega));go_wp2_with fail
       go_region
       all_goals
        obtain ⟨hE,hB,hO⟩:=HL6.out.last (.slice aw2 nw2 cw2) (.slice ak2 nk2 ck2) (.int .i64 (q2:Int)) (.int .i64 d2);obtain ⟨⟨e0,e1,e2,e3⟩,-⟩:=((hE.alloc (.cells #[.slice aw2 nw2 cw2, .slice ak2 nk2 ck2, .int .i64 (q2:Int), .int .i64 d2] 135)).drew).all;go_wp2
        exact bodyPost_ret (v:= .tuple #[u8, .int .i64 0, .agg #[.slice aw2 nw2 cw2, .slice ak2 nk2 ck2, .int .i64 (q2:Int), .int .i64 d2], .bool false]) (by simp [results,Tryz.results212,go_sem,e0,e1,e2,e3]) rfl
         ⟨u8,_,_,l,q2,0,d2,false,⟨⟨_,_,_,rfl⟩,⟨_,_,_,rfl⟩⟩,rfl,(hO.alloc _).drew,by omega,hq2,(hB.alloc hB.size _).drew, .inr ⟨rfl,HN.out⟩⟩
      ·have h8i:((n:Int)==8)=false:=by simp;omega
       obtain ⟨hW,hK,hd2⟩:=HWK.out;simp only [Value.slice.injEq] at hW hK;obtain ⟨rfl,rfl,rfl⟩:=hW;obtain ⟨rfl,rfl,rfl⟩:=hK
       replace hd2:d2=(d:Int):=hd2
       subst hd2
       go_wp2_with (at_builtin;refine aK rfl _ _ 23 rfl (w.heap.size+2) 120 i0 (.agg #[.int .i64 0, .string ByteArray.empty, .int .i64 0]) 3 32 Tryz.underlying23 hi hz0 hz1 hz2 rfl (by decide) _ l.length _ rfl HG.out.own _ _ l2.length (ap l2) rfl HO3.out (aE _) (by unfold maxLen;omega) (by omega) (by simp;omega) ?_)
       intro v10 w10 hown10 hgrow10;have HW:=aim (PtW.apps HG.out hgrow10 hown10);have HN11:=aim (HN7.out.grown hgrow10 (fun he=>by have:=(HL6.out.own.lt _ he.symm).2;omega));clear hown10 hgrow10 HG HN7 HO3 HL6 f0 f1 f2 f3 k0 k1 k2 k3 r0 r1 r2 r3 z0 z1 z2 z3;obtain ⟨⟨g0,g1,g2,g3⟩,y0,y1,y2,y3⟩:=HW.out.st.all;obtain ⟨⟨x0,x1,x2,x3⟩,-⟩:=HN11.out.all;have HZ:=aim (HW.out.over4 (.slice aw2 nw2 cw2) (.slice ak2 nk2 ck2) (.int .i64 (q2:Int)) (.int .i64 (d:Int)));go_wp2;go_roundw
       case rel=>exact ⟨l++l2,n+1,q2,by go_num,by omega,by omega,by simp only [aio];omega,hq2,HZ.out,ham.next hc (fun h=>absurd h h0) (fun _=>⟨hcm,rfl⟩) HRD2.out⟩
       case measure=>simp [intOf];omega
end Go.Proofs.YthijkjnngfnfdaaGreatDoor
