/-
  Part of the proof of FnReadDocument.
-/
import Derived.Test.YtegdjjjpoahamaaGreatDoorQQRax
import Derived.Below
import Derived.Deep.Onto
import Derived.Deep.Draws
import Derived.Deep.AppendLies
import Derived.Deep.RegionHeld3
import Derived.RegionTactic
import Derived.Deep.RegionLaw
import Derived.Deep.DrawnRows
import Derived.StillTailTactics
set_option linter.unusedVariables false
set_option maxHeartbeats 4000000
set_option maxRecDepth 100000
namespace Go.Proofs.YtegdjjjpoahamaaGreatDoor
open Go.RowKit
def RowW (w:World) (v:Value) (tk:List Tk):Prop:=
 ∃ao cap,v= .slice ao tk.length cap∧tk.length≤cap∧cap≤maxLen∧(tk=[]∨ ∃b,ao=some ⟨b,0,none⟩∧b<w.heap.size∧ ∀(k:Nat) (h:k<tk.length),w.cell? ⟨b,k,none⟩=some (.string tk[k].2))
def agn (w:World) (v:Value) (tk:List Tk):Prop:=
 ∃ao cap,v= .slice ao tk.length cap∧tk.length≤cap∧cap≤maxLen∧(tk=[]∨ ∃b,ao=some ⟨b,0,none⟩∧b<w.heap.size∧ ∀(k:Nat) (h:k<tk.length),w.cell? ⟨b,k,none⟩=some (.int .i64 tk[k].1))
def RowTk (w:World) (W K:Value) (tk:List Tk):Prop:=RowW w W tk∧agn w K tk
theorem RowTk.mono {w w':World} {W K:Value} {tk:List Tk} (h:RowTk w W K tk) (hb:Below w.heap.size w w'):RowTk w' W K tk:=by
 obtain ⟨⟨ao,cap,hv,h1,h2,h3⟩,bo,cp,kv,k1,k2,k3⟩:=h;refine ⟨⟨ao,cap,hv,h1,h2, ?_⟩,bo,cp,kv,k1,k2, ?_⟩
 ·rcases h3 with h3|⟨b,ha,Ab,hj⟩
  ·exact .inl h3
  ·exact .inr ⟨b,ha,Nat.lt_of_lt_of_le Ab hb.size,fun k hk=>by rw [hb.cell (by exact Ab)];exact hj k hk⟩
 ·rcases k3 with h3|⟨b,ha,Ab,hj⟩
  ·exact .inl h3
  ·exact .inr ⟨b,ha,Nat.lt_of_lt_of_le Ab hb.size,fun k hk=>by rw [hb.cell (by exact Ab)];exact hj k hk⟩
theorem afx {tk:List Tk} {p:Nat} (h:p<tk.length) (w:List UInt8):isT tk p w=(tk[p].1==4&&tk[p].2.data.toList==w):=by
 unfold isT;rw [List.getElem?_eq_getElem h]
theorem aee {tk:List Tk} {p:Nat} (h: ¬p<tk.length) (w:List UInt8):isT tk p w=false:=by
 unfold isT;rw [List.getElem?_eq_none (by omega)]
theorem afy {tk:List Tk} {p:Nat} (h:p<tk.length):rkT tk p=if tk[p].1=4 then ap tk[p].2.data.toList else 0:=by
 unfold rkT;rw [List.getElem?_eq_getElem h]
theorem aef {tk:List Tk} {p:Nat} (h: ¬p<tk.length):rkT tk p=0:=by
 unfold rkT;rw [List.getElem?_eq_none (by omega)]
theorem cK (W K:Value) (tk:List Tk) (p d:Nat) (t:ByteArray) (w:World) (hr:RowTk w W K tk) (hp:p≤100000):
  Calls Tryz.prog 178 #[.agg #[W,K, .int .i64 (p:Int), .int .i64 (d:Int)], .string t] w fun e w'=>e= .returned (.bool (isT tk p t.data.toList))∧Below w.heap.size w w':=by
 obtain ⟨⟨ao,cap,rfl,h1,h2,h3⟩,bo,cp,rfl,k1,k2,k3⟩:=hr;unfold maxLen at h2 k2;have H3:=agC h3;have K3:=agC k3;clear h3 k3
 by_cases Ab:p<tk.length
 ·obtain ⟨b,rfl,Av,cc⟩:=H3.out.resolve_left (by rintro rfl;simp at Ab)
  obtain ⟨b2,rfl,D5,Ce⟩:=K3.out.resolve_left (by rintro rfl;simp at Ab);have c1:=cc p Ab;have c2:=Ce p Ab;rw [afx Ab];generalize tk[p].1=k at c2;generalize tk[p].2=s at c1
  have hs:(s.toList==t.toList)=(s.data.toList==t.data.toList):=by rw [ByteArray.toList_eq,ByteArray.toList_eq]
  clear cc Ce
  by_cases hk:k=4
  ·subst hk
   rw [show ((4:Int)==4)=true from rfl,Bool.true_and,←hs];clear hs
   go_enter Tryz.func178,Tryz.ntmps178
   go_wp2;go_ret;exact ⟨rfl,(Below.refl _ _).alloc (agD _) _⟩
  ·have Ay:(k==4)=false:=beq_eq_false_iff_ne.mpr hk
   rw [Ay,Bool.false_and];clear hs
   go_enter Tryz.func178,Tryz.ntmps178
   go_wp2;go_ret;exact ⟨rfl,(Below.refl _ _).alloc (agD _) _⟩
 ·rw [aee Ab]
  have DQ:tk.length≤p:=by omega
  go_enter Tryz.func178,Tryz.ntmps178
  go_wp2;go_ret;exact ⟨rfl,(Below.refl _ _).alloc (agD _) _⟩
theorem wE (W K:Value) (tk:List Tk) (p d:Nat) (w:World) (hr:RowTk w W K tk) (hp:p≤100000):
  Calls Tryz.prog 199 #[.agg #[W,K, .int .i64 (p:Int), .int .i64 (d:Int)]] w fun e w'=>e= .returned (.int .i64 (rkT tk p))∧Below w.heap.size w w':=by
 obtain ⟨⟨ao,cap,rfl,h1,h2,h3⟩,bo,cp,rfl,k1,k2,k3⟩:=hr;unfold maxLen at h2 k2;have H3:=agC h3;have K3:=agC k3;clear h3 k3
 by_cases Ab:p<tk.length
 ·obtain ⟨b,rfl,Av,cc⟩:=H3.out.resolve_left (by rintro rfl;simp at Ab)
  obtain ⟨b2,rfl,D5,Ce⟩:=K3.out.resolve_left (by rintro rfl;simp at Ab);have c1:=cc p Ab;have c2:=Ce p Ab;rw [afy Ab];generalize tk[p].1=k at c2;generalize tk[p].2=s at c1;clear cc Ce
  by_cases hk:k=4
  ·subst hk
   rw [if_pos rfl]
   go_enter Tryz.func199,Tryz.ntmps199
   go_wp2_with fail;refine (fp s _).mono ?_;rintro e w' ⟨rfl,rfl⟩;go_wp2;go_ret;exact ⟨rfl,(Below.refl _ _).alloc (agD _) _⟩
  ·have Ay:(k !=4)=true:=bne_iff_ne.mpr hk
   rw [if_neg hk];clear hk
   go_enter Tryz.func199,Tryz.ntmps199
   go_wp2;go_ret;exact ⟨rfl,(Below.refl _ _).alloc (agD _) _⟩
 ·rw [aef Ab]
  have DQ:tk.length≤p:=by omega
  go_enter Tryz.func199,Tryz.ntmps199
  go_wp2;go_ret;exact ⟨rfl,(Below.refl _ _).alloc (agD _) _⟩
def zV (v:Value):Prop:= ∃a n c,v= .slice a n c
theorem RowTk.sl {w:World} {W K:Value} {tk:List Tk} (h:RowTk w W K tk):zV W∧zV K:=by
 obtain ⟨⟨ao,cap,hv,-⟩,bo,cp,kv,-⟩:=h;exact ⟨⟨_,_,_,hv⟩,⟨_,_,_,kv⟩⟩
def dJ (tk:List Tk) (j:Job) (p d:Nat) (W K:Value) (w:World) (e:Ending) (w':World):Prop:=
 ∃(v W' K':Value) (l:List Cl) (q:Nat) (d':Int) (ok:Bool),(zV W'∧zV K')∧e= .returned (.tuple #[v, .agg #[W',K', .int .i64 (q:Int), .int .i64 d'], .bool ok])∧w'.ownsRow w.heap.size 110 3 v l.length (ai l)∧l.length+p≤q∧q≤tk.length∧Below w.heap.size w w'∧
  ((ok=true∧W'=W∧K'=K∧d'=(d:Int)∧Rs tk j p d l q 0)∨(ok=false∧NoRd tk j p d))
def acm (tk:List Tk) (c:List UInt8) (p d:Nat) (W K:Value) (w:World) (e:Ending) (w':World):Prop:=
 ∃(v W' K':Value) (l:List Cl) (q m:Nat) (d':Int) (ok:Bool),(zV W'∧zV K')∧e= .returned (.tuple #[v, .int .i64 (m:Int), .agg #[W',K', .int .i64 (q:Int), .int .i64 d'], .bool ok])∧w'.ownsRow w.heap.size 110 3 v l.length (ai l)∧l.length+p≤q∧q≤tk.length∧Below w.heap.size w w'∧
  ((ok=true∧W'=W∧K'=K∧d'=(d:Int)∧Rs tk (.parts c 0 []) p d l q m)∨(ok=false∧NoRd tk (.parts c 0 []) p d))
abbrev StV (W K:Value) (p d:Nat):Value:= .agg #[W,K, .int .i64 (p:Int), .int .i64 (d:Int)]
structure AllR (tk:List Tk) (N:Nat):Prop where
 choice: ∀(p d:Nat) (W K:Value) (w:World),p≤tk.length→10*(tk.length-p)+8≤N→d≤41→RowTk w W K tk→Calls Tryz.prog 150 #[StV W K p d] w (dJ tk .choice p d W K w)
 level: ∀(r p d:Nat) (W K:Value) (w:World),2≤r→r≤7→p≤tk.length→10*(tk.length-p)+(9-r)≤N→d≤41→RowTk w W K tk→Calls Tryz.prog 177 #[StV W K p d, .int .i64 (r:Int)] w (dJ tk (.level r) p d W K w)
 unary: ∀(p d:Nat) (W K:Value) (w:World),p≤tk.length→10*(tk.length-p)+1≤N→d≤41→RowTk w W K tk→Calls Tryz.prog 198 #[StV W K p d] w (dJ tk .unary p d W K w)
 atom: ∀(p d:Nat) (W K:Value) (w:World),p≤tk.length→10*(tk.length-p)+0≤N→d≤41→RowTk w W K tk→Calls Tryz.prog 222 #[StV W K p d] w (dJ tk .atom p d W K w)
 parts: ∀(p d:Nat) (c:ByteArray) (W K:Value) (w:World),p≤tk.length→10*(tk.length-p)+9≤N→d≤41→RowTk w W K tk→Calls Tryz.prog 234 #[StV W K p d, .string c] w (acm tk c.data.toList p d W K w)
def BlkS (w:World) (g:Nat) (cs:Array Value):Prop:=w.heap[g]? =some (.cells cs 156 (0,0))
section
variable {w w':World} {g:Nat} {cs:Array Value}
theorem BlkS.lt (h:BlkS w g cs):g<w.heap.size:=by
 rcases Nat.lt_or_ge g w.heap.size with Ab|DQ
 ·exact Ab
 ·unfold BlkS at h;rw [Array.getElem?_eq_none DQ] at h;cases h
theorem BlkS.cell (h:BlkS w g cs) (i:Nat):w.cell? ⟨g,i,none⟩=cs[i]? :=cell_of_row w g i cs _ (0,0) h
theorem BlkS.frozen (h:BlkS w g cs) (i:Nat):w.frozen? ⟨g,i,none⟩=false:=by
 unfold BlkS at h
 simp [World.frozen?,h]
theorem BlkS.new (w:World) (cs:Array Value):BlkS (w.alloc (.cells cs 156)) w.heap.size cs:=heap_alloc_new w _
theorem BlkS.alloc (h:BlkS w g cs) (o:Obj):BlkS (w.alloc o) g cs:=(Below.heap_alloc w o g h.lt).trans h
theorem BlkS.grown {row:Option Nat} (h:BlkS w g cs) (hb:w.grownBy w' row) (hg:some g≠row):BlkS w' g cs:=(hb.block g h.lt hg).trans h
theorem BlkS.below (h:BlkS w g cs) (hb:Below w.heap.size w w'):BlkS w' g cs:=(hb.block g h.lt).trans h
theorem BlkS.set_ (h:BlkS w g cs) (i:Nat) (u:Value):BlkS (w.setCell ⟨g,i,none⟩ u) g (cs.setIfInBounds i u):=by
 unfold BlkS at h⊢
 simp [World.setCell,Array.getElem?_modify,h]
theorem BlkS.far (h:BlkS w g cs) {f:Nat} (i:Nat) (u:Value) (hf:f≠g):BlkS (w.setCell ⟨f,i,none⟩ u) g cs:=
 (Below.heap_setCell _ _ _ _ (fun e=>hf e.symm)).trans h
theorem BlkS.all {a b c d:Value} (h:BlkS w g #[a,b,c,d]):
  (w.cell? ⟨g,0,none⟩=some a∧w.cell? ⟨g,1,none⟩=some b∧w.cell? ⟨g,2,none⟩=some c∧w.cell? ⟨g,3,none⟩=some d)∧w.frozen? ⟨g,0,none⟩=false∧w.frozen? ⟨g,1,none⟩=false∧w.frozen? ⟨g,2,none⟩=false∧w.frozen? ⟨g,3,none⟩=false:=
 ⟨⟨h.cell 0,h.cell 1,h.cell 2,h.cell 3⟩,h.frozen 0,h.frozen 1,h.frozen 2,h.frozen 3⟩
end
theorem cD {w w1:World} {base:Nat} {e:TypeId} {size n:Nat} {v:Value} {xs:List Value} (h:w.ownsRow base e size v n xs) (hb:Below w.heap.size w w1):w1.ownsRow base e size v n xs:=
 h.kept (row:=none) ⟨hb.os,hb.tape,hb.output,hb.size,fun i hi _=>hb.block i hi⟩ (by cases hv:v.ownBlock with|none=>exact .inl rfl|some x=>exact .inr (by simp))
theorem br {B:Nat} {a w:World} (h:Below B a w) {g:Nat} (hg:B≤g) (x0 x1 x2 x3:Value):Below B a ((((w.setCell ⟨g,0,none⟩ x0).setCell ⟨g,1,none⟩ x1).setCell ⟨g,2,none⟩ x2).setCell ⟨g,3,none⟩ x3):=
 (((h.setCell (p:=⟨g,0,none⟩) hg x0).setCell (p:=⟨g,1,none⟩) hg x1).setCell (p:=⟨g,2,none⟩) hg x2).setCell (p:=⟨g,3,none⟩) hg x3
theorem cL {w:World} {base:Nat} {e:TypeId} {size n:Nat} {v:Value} {xs:List Value} (h:w.ownsRow base e size v n xs) {g:Nat} (hg:g<base) (x0 x1 x2 x3:Value):((((w.setCell ⟨g,0,none⟩ x0).setCell ⟨g,1,none⟩ x1).setCell ⟨g,2,none⟩ x2).setCell ⟨g,3,none⟩ x3).ownsRow base e size v n xs:=by
 refine h.kept (row:=some g) ⟨rfl,rfl,rfl,by simp [World.setCell],fun b _ hn=> ?_⟩ (.inr (by intro he;have:=(h.lt _ he).1;omega))
 have hb:b≠g:=fun e=>hn (by rw [e])
 rw [Below.heap_setCell _ _ _ _ hb,Below.heap_setCell _ _ _ _ hb,Below.heap_setCell _ _ _ _ hb,Below.heap_setCell _ _ _ _ hb]
theorem acn:(Tryz.prog.info? 110).map (fun i=>(i.zero,i.size,i.bytes))=some (some (.agg #[.int .i64 0, .string ByteArray.empty, .int .i64 0]),3,32):=by kernel_rfl
theorem mv (tk:List Tk) (N:Nat) (ih:AllR tk N) (AP:tk.length≤20000) (p d:Nat) (W K:Value) (w:World) (hp:p≤tk.length) (hN:10*(tk.length-p)+0≤N) (hd:d≤41) (hr:RowTk w W K tk) (hu:bA tk p=false):
  Calls Tryz.prog 198 #[StV W K p d] w (dJ tk .unary p d W K w):=by
 have DX:isT tk p [33]=false:=by rw [bA,Bool.or_eq_false_iff] at hu;exact hu.1
 have Gt:isT tk p [45]=false:=by rw [bA,Bool.or_eq_false_iff] at hu;exact hu.2
 have Fq:=agC DX;have Ko:=agC Gt;have HU:=agC hu;have HR:=agC hr;have IH:=agC ih;clear DX Gt hu hr ih;obtain ⟨⟨xa,xn,xc,rfl⟩,⟨ya,yn,yc,rfl⟩⟩:=HR.out.sl;have BP0:=agC ((BlkS.new w #[(.slice xa xn xc),(.slice ya yn yc), .int .i64 (p:Int), .int .i64 (d:Int)]).alloc (.cells #[.slice none 0 0, .slice none 0 0, .int .i64 0, .int .i64 0] 156));have BR0:=agC (BlkS.new (w.alloc (.cells #[(.slice xa xn xc),(.slice ya yn yc), .int .i64 (p:Int), .int .i64 (d:Int)] 156)) #[.slice none 0 0, .slice none 0 0, .int .i64 0, .int .i64 0]);have AK:=agC (((Below.refl w.heap.size w).alloc (agD _) (.cells #[(.slice xa xn xc),(.slice ya yn yc), .int .i64 (p:Int), .int .i64 (d:Int)] 156)).alloc (by simp) (.cells #[.slice none 0 0, .slice none 0 0, .int .i64 0, .int .i64 0] 156))
 have Et:(w.alloc (.cells #[(.slice xa xn xc),(.slice ya yn yc), .int .i64 (p:Int), .int .i64 (d:Int)] 156)).heap.size=w.heap.size+1:=by simp
 rw [Et] at BR0;clear Et
 go_enter Tryz.func198,Tryz.ntmps198
 go_wp2_with fail;refine (cK (.slice xa xn xc) (.slice ya yn yc) tk p d ⟨#[33]⟩ _ (HR.out.mono AK.out) (by omega)).mono ?_;rintro e w1 ⟨rfl,Aa⟩;rw [Fq.out];have BP1:=agC (BP0.out.below Aa);have BR1:=agC (BR0.out.below Aa);have Af:=agC (AK.out.trans (Aa.mono AK.out.size));obtain ⟨⟨c0,c1,c2,c3⟩,-⟩:=BP1.out.all;clear Aa BP0 BR0 AK;go_wp2_with fail;refine (cK (.slice xa xn xc) (.slice ya yn yc) tk p d ⟨#[45]⟩ _ (HR.out.mono Af.out) (by omega)).mono ?_;rintro e w2 ⟨rfl,Ae⟩;rw [Ko.out];have BP2:=agC (BP1.out.below Ae);have BR2:=agC (BR1.out.below Ae);have Ak:=agC (Af.out.trans (Ae.mono Af.out.size));obtain ⟨⟨d0,d1,d2,d3⟩,-⟩:=BP2.out.all;clear Ae BP1 BR1 Af c0 c1 c2 c3;go_wp2_with fail;refine (IH.out.atom p d (.slice xa xn xc) (.slice ya yn yc) _ hp hN hd (HR.out.mono Ak.out)).mono ?_;rintro e w3 ⟨v,W',K',l,q,d',ok,⟨⟨aw,nw,cw,rfl⟩,⟨ak,nk,ck,rfl⟩⟩,rfl,ho,DG,hq,Ag,Am⟩;have BR3:=agC (BR2.out.below Ag);have Ap:=agC (Ak.out.trans (Ag.mono Ak.out.size));have Ab:=BR2.out.lt;obtain ⟨⟨r0,r1,r2,r3⟩,z0,z1,z2,z3⟩:=BR3.out.all;have HE:=agC (br Ap.out (g:=w.heap.size+1) (by omega) (.slice aw nw cw) (.slice ak nk ck) (.int .i64 (q:Int)) (.int .i64 d'));have HO:=agC ((cL ho (g:=w.heap.size+1) Ab (.slice aw nw cw) (.slice ak nk ck) (.int .i64 (q:Int)) (.int .i64 d')).mono Ak.out.size);have IR:=agC (show (ok=true∧(Value.slice aw nw cw)=(.slice xa xn xc)∧(Value.slice ak nk ck)=(.slice ya yn yc)∧d'=(d:Int)∧Rs tk .unary p d l q 0)∨(ok=false∧NoRd tk .unary p d) from Am.elim (fun ⟨a,b,c,e,f⟩=> .inl ⟨a,b,c,e, .plain HU.out f⟩) (fun ⟨a,b⟩=> .inr ⟨a,sb HU.out b⟩));clear ho Ag Am BP2 BR2 Ak d0 d1 d2 d3;go_wp2;exact bodyPost_ret (v:= .tuple #[v, .agg #[(.slice aw nw cw),(.slice ak nk ck), .int .i64 (q:Int), .int .i64 d'], .bool ok]) (by simp [results,Tryz.results198,go_sem,r0,r1,r2,r3]) rfl ⟨v,_,_,l,q,d',ok,⟨⟨_,_,_,rfl⟩,⟨_,_,_,rfl⟩⟩,rfl,HO.out,DG,hq,HE.out,IR.out⟩
def Begun (w:World) (W K:Value) (p d:Nat) (w1:World):Prop:=
 BlkS w1 w.heap.size #[W,K, .int .i64 (p:Int), .int .i64 (d:Int)]∧BlkS w1 (w.heap.size+1) #[.slice none 0 0, .slice none 0 0, .int .i64 0, .int .i64 0]∧Below w.heap.size w w1
theorem Begun.start (w:World) (W K:Value) (p d:Nat):Begun w W K p d ((w.alloc (.cells #[W,K, .int .i64 (p:Int), .int .i64 (d:Int)] 156)).alloc (.cells #[.slice none 0 0, .slice none 0 0, .int .i64 0, .int .i64 0] 156)):=by
 refine ⟨(BlkS.new w _).alloc _, ?_,((Below.refl w.heap.size w).alloc (agD _) _).alloc (by simp) _⟩;have:=BlkS.new (w.alloc (.cells #[W,K, .int .i64 (p:Int), .int .i64 (d:Int)] 156)) #[.slice none 0 0, .slice none 0 0, .int .i64 0, .int .i64 0]
 have Et:(w.alloc (.cells #[W,K, .int .i64 (p:Int), .int .i64 (d:Int)] 156)).heap.size=w.heap.size+1:=by simp
 rw [Et] at this;exact this
theorem Begun.below {w w1 w2:World} {W K:Value} {p d:Nat} (h:Begun w W K p d w1) (hb:Below w1.heap.size w1 w2):Begun w W K p d w2:=⟨h.1.below hb,h.2.1.below hb,h.2.2.trans (hb.mono h.2.2.size)⟩
theorem BlkS.put4 {w:World} {g:Nat} {a b c d:Value} (h:BlkS w g #[a,b,c,d]) (x0 x1 x2 x3:Value):BlkS ((((w.setCell ⟨g,0,none⟩ x0).setCell ⟨g,1,none⟩ x1).setCell ⟨g,2,none⟩ x2).setCell ⟨g,3,none⟩ x3) g #[x0,x1,x2,x3]:=by
 have:=(((h.set_ 0 x0).set_ 1 x1).set_ 2 x2).set_ 3 x3
 simpa using this
theorem BlkS.drew {w:World} {g:Nat} {cs:Array Value} (h:BlkS w g cs):BlkS w.drew g cs:=h
theorem Begun.step {w w1:World} {W K:Value} {p d:Nat} (h:Begun w W K p d w1) (y2 y3 x0 x1 x2 x3:Value) (o:Obj) (w2 w3 w4:World) (e2:w2=(w1.setCell ⟨w.heap.size,2,none⟩ y2).setCell ⟨w.heap.size,3,none⟩ y3)
  (e3:w3=(((w2.setCell ⟨w.heap.size+1,0,none⟩ x0).setCell ⟨w.heap.size+1,1,none⟩ x1).setCell ⟨w.heap.size+1,2,none⟩ x2).setCell ⟨w.heap.size+1,3,none⟩ x3) (e4:w4=(w3.alloc o).drew):
  BlkS w4 (w.heap.size+1) #[x0,x1,x2,x3]∧Below w.heap.size w w4:=by
 obtain ⟨h1,h2,h3⟩:=h;have Ae:Below w.heap.size w w2:=e2▸(h3.setCell (p:=⟨w.heap.size,2,none⟩) (agD _) y2).setCell (p:=⟨w.heap.size,3,none⟩) (agD _) y3;have B8:BlkS w2 (w.heap.size+1) #[.slice none 0 0, .slice none 0 0, .int .i64 0, .int .i64 0]:=e2▸(h2.far (f:=w.heap.size) 2 y2 (by omega)).far (f:=w.heap.size) 3 y3 (by omega);have Ag:Below w.heap.size w w3:=e3▸br Ae (g:=w.heap.size+1) (by omega) x0 x1 x2 x3;have Bf:BlkS w3 (w.heap.size+1) #[x0,x1,x2,x3]:=e3▸B8.put4 x0 x1 x2 x3;subst e4;exact ⟨(Bf.alloc o).drew,(Ag.alloc Ag.size o).drew⟩
theorem gw {w3:World} {B g:Nat} (hg:w3.heap.size=g) (hB:B≤g):((w3.alloc (.cells #[] 110)).drew).ownsRow B 110 3 (.slice (some ⟨g,0,none⟩) 0 0) 0 (ai []):=by
 subst hg;exact (World.ownsRow_lit (e:=110) (size:=3) (base:=B) w3 #[] 0 hB (by unfold maxLen;omega) rfl).drew
theorem m5 (tk:List Tk) (AP:tk.length≤20000) (p d:Nat) (W K:Value) (w:World) (hp:p≤tk.length) (hd:d≤41) (ED: ¬d+1≤41) (hr:RowTk w W K tk) (hu:isT tk p [33]=true):
  Calls Tryz.prog 198 #[StV W K p d] w (dJ tk .unary p d W K w):=by
 obtain rfl:d=41:=by omega
 have CZ:=bG hu;have Fq:=agC hu;have HR:=agC hr;have CO:=agC (nA (tk:=tk) (p:=p) (d:=41) (by rw [bA,hu];rfl) ED);obtain ⟨⟨xa,xn,xc,rfl⟩,⟨ya,yn,yc,rfl⟩⟩:=hr.sl;obtain ⟨⟨ao,cap,hv,q1,q2,q3⟩,-⟩:=hr;simp only [Value.slice.injEq] at hv;obtain ⟨rfl,rfl,rfl⟩:=hv;obtain ⟨b,rfl,Av,cc⟩:=q3.resolve_left (by rintro rfl;simp at CZ);unfold maxLen at q2;have CC:=agC (cc p CZ);generalize tk[p].2=s at CC;clear hu cc ED q3;have B0:=agC (Begun.start w (.slice (some ⟨b,0,none⟩) tk.length xc) (.slice ya yn yc) p 41)
 go_enter Tryz.func198,Tryz.ntmps198
 go_wp2_with fail;refine (cK _ _ tk p 41 ⟨#[33]⟩ _ (HR.out.mono B0.out.2.2) (by omega)).mono ?_;rintro e w1 ⟨rfl,Aa⟩;rw [Fq.out];have B1:=agC (B0.out.below Aa);obtain ⟨⟨c0,c1,c2,c3⟩,f0,f1,f2,f3⟩:=B1.out.1.all;have Nm:w1.cell? ⟨b,p,none⟩=some (.string s):=(B1.out.2.2.cell (p:=⟨b,p,none⟩) Av).trans CC.out;clear Aa B0;go_wp2_with fail;obtain ⟨⟨r0,r1,r2,r3⟩,z0,z1,z2,z3⟩:=B1.out.2.1.all
 have n1: ¬w.heap.size=w.heap.size+1:=by omega
 have TN:w.heap.size+1<w1.heap.size:=B1.out.2.1.lt
 have TO:w.heap.size<w1.heap.size:=by omega
 have n2: ¬w.heap.size+1=w1.heap.size:=by omega
 have n3: ¬w.heap.size=w1.heap.size:=by omega
 go_region
 all_goals
  go_wp2;obtain ⟨hE,hB⟩:=Begun.step B1.out (.int .i64 ((p:Int)+1)) (.int .i64 42) (.slice (some ⟨b,0,none⟩) tk.length xc) (.slice ya yn yc) (.int .i64 ((p:Int)+1)) (.int .i64 42) (.cells #[] 110) _ _ _ rfl rfl rfl;obtain ⟨⟨e0,e1,e2,e3⟩,-⟩:=hE.all;refine bodyPost_ret (v:= .tuple #[.slice (some ⟨w1.heap.size,0,none⟩) 0 0, .agg #[.slice (some ⟨b,0,none⟩) tk.length xc, .slice ya yn yc, .int .i64 ((p:Int)+1), .int .i64 42], .bool false]) (by simp [results,Tryz.results198,go_sem,e0,e1,e2,e3]) rfl ⟨_,_,_,[],p+1,42,false,⟨⟨_,_,_,rfl⟩,⟨_,_,_,rfl⟩⟩,rfl,gw (by simp [World.setCell]) (by omega),by simp only [List.length_nil];omega,by omega,hB, .inr ⟨rfl,CO.out⟩⟩
theorem mw (tk:List Tk) (AP:tk.length≤20000) (p d:Nat) (W K:Value) (w:World) (hp:p≤tk.length) (hd:d≤41) (ED: ¬d+1≤41) (hr:RowTk w W K tk) (J1:isT tk p [33]=false) (hu:isT tk p [45]=true):
  Calls Tryz.prog 198 #[StV W K p d] w (dJ tk .unary p d W K w):=by
 obtain rfl:d=41:=by omega
 have CZ:=bG hu;have Pg:=agC J1;have Fq:=agC hu;have HR:=agC hr;have CO:=agC (nA (tk:=tk) (p:=p) (d:=41) (by rw [bA,J1,hu];rfl) ED);obtain ⟨⟨xa,xn,xc,rfl⟩,⟨ya,yn,yc,rfl⟩⟩:=hr.sl;obtain ⟨⟨ao,cap,hv,q1,q2,q3⟩,-⟩:=hr;simp only [Value.slice.injEq] at hv;obtain ⟨rfl,rfl,rfl⟩:=hv;obtain ⟨b,rfl,Av,cc⟩:=q3.resolve_left (by rintro rfl;simp at CZ);unfold maxLen at q2;have CC:=agC (cc p CZ);generalize tk[p].2=s at CC;clear hu J1 cc ED q3;have B0:=agC (Begun.start w (.slice (some ⟨b,0,none⟩) tk.length xc) (.slice ya yn yc) p 41)
 go_enter Tryz.func198,Tryz.ntmps198
 go_wp2_with fail;refine (cK _ _ tk p 41 ⟨#[33]⟩ _ (HR.out.mono B0.out.2.2) (by omega)).mono ?_;rintro e w0 ⟨rfl,Cu⟩;rw [Pg.out];have B00:=agC (B0.out.below Cu);obtain ⟨⟨k0,k1,k2,k3⟩,-⟩:=B00.out.1.all;clear Cu B0;go_wp2_with fail;refine (cK _ _ tk p 41 ⟨#[45]⟩ _ (HR.out.mono B00.out.2.2) (by omega)).mono ?_;rintro e w1 ⟨rfl,Aa⟩;rw [Fq.out];have B1:=agC (B00.out.below Aa);obtain ⟨⟨c0,c1,c2,c3⟩,f0,f1,f2,f3⟩:=B1.out.1.all;have Nm:w1.cell? ⟨b,p,none⟩=some (.string s):=(B1.out.2.2.cell (p:=⟨b,p,none⟩) Av).trans CC.out;clear Aa B00 k0 k1 k2 k3;go_wp2_with fail;obtain ⟨⟨r0,r1,r2,r3⟩,z0,z1,z2,z3⟩:=B1.out.2.1.all
 have n1: ¬w.heap.size=w.heap.size+1:=by omega
 have TN:w.heap.size+1<w1.heap.size:=B1.out.2.1.lt
 have TO:w.heap.size<w1.heap.size:=by omega
 have n2: ¬w.heap.size+1=w1.heap.size:=by omega
 have n3: ¬w.heap.size=w1.heap.size:=by omega
 go_region
 all_goals
  go_wp2;obtain ⟨hE,hB⟩:=Begun.step B1.out (.int .i64 ((p:Int)+1)) (.int .i64 42) (.slice (some ⟨b,0,none⟩) tk.length xc) (.slice ya yn yc) (.int .i64 ((p:Int)+1)) (.int .i64 42) (.cells #[] 110) _ _ _ rfl rfl rfl;obtain ⟨⟨e0,e1,e2,e3⟩,-⟩:=hE.all;refine bodyPost_ret (v:= .tuple #[.slice (some ⟨w1.heap.size,0,none⟩) 0 0, .agg #[.slice (some ⟨b,0,none⟩) tk.length xc, .slice ya yn yc, .int .i64 ((p:Int)+1), .int .i64 42], .bool false]) (by simp [results,Tryz.results198,go_sem,e0,e1,e2,e3]) rfl ⟨_,_,_,[],p+1,42,false,⟨⟨_,_,_,rfl⟩,⟨_,_,_,rfl⟩⟩,rfl,gw (by simp [World.setCell]) (by omega),by simp only [List.length_nil];omega,by omega,hB, .inr ⟨rfl,CO.out⟩⟩
theorem cS {P:Program} {w:World} {ops:Array Oper} {o:Oper} {a:Act} {K:Act→World→Prop} {Q:Exit→Act→World→Prop} {E:Prop} (Cq:o.guard=none) (s x:Operand) (t:TypeId)
  (ho:o.op= .call {callee:= .builtin .append,args:= #[s,x],argTypes:= #[t,t]})
  (base:Nat) (e:TypeId) (i:TypeInfo) (z:Value) (size bytes:Nat) (ht:P.underlying t=some (.slice e)) (hi:P.info? e=some i) (hz:i.zero=some z)
  (Dl:i.size=size) (H0:i.bytes=bytes) (Hk:z.cells.size=size) (Au:0<size)
  (v:Value) (n:Nat) (xs:List Value) (hs:a.eval s=v) (Ad:w.ownsRow base e size v n xs)
  (base2:Nat) (u:Value) (m:Nat) (ys:List Value) (hx:a.eval x=u) (BM:w.ownsRow base2 e size u m ys) (h1: ∀u∈ys,u.oneCell'=true)
  (EV:n+m≤maxLen) (Cy:(n+m)*bytes≤140737488355328) (Bx:base≤w.heap.size)
  (h: ∀v' w',w'.ownsRow base e size v' (n+m) (xs++ys)→w.grownBy w' v.ownBlock→K (a.put o.dst v') w'):
  if Region.wanted o (yielded ops a.tmps)=true then Oper.wp P o a w K Q else E:=by
 have hw:Region.wanted o (yielded ops a.tmps)=true:=by simp [Region.wanted,Cq]
 rw [if_pos hw]
 rcases BM.2 with ⟨rfl,rfl⟩|⟨g,cap,cur,rfl,-⟩
 ·have hy:ys=[]:=List.eq_nil_of_length_eq_zero (by have:=BM.1;omega)
  subst hy;have Gs:=run_append_owned_none (P:=P) (w:=w) base t o.type e i size ht hi v n xs Ad;unfold Oper.wp
  simp [execOp,ho,resolve,invoke,builtin,hs,hx,Gs,Result.andThen]
  exact h v w (by simpa using Ad) (World.grownBy.refl _ _)
 ·refine wp_append_own w s x t ho base e i z size bytes ht hi hz Dl H0 Hk Au v n xs hs Ad ⟨g,0,none⟩ m cap ys hx BM.1 ?_ h1 EV Cy Bx (fun v' w' a1 a2 _=>h v' w' a1 a2)
  intro j y hj
  have Ab:j<ys.length:=by
   by_cases hk:j<ys.length
   ·exact hk
   ·rw [List.getElem?_eq_none (by omega)] at hj;cases hj
  rw [adR,BM.cellAt j (by have:=BM.1;omega)];exact hj
theorem tJ {tk:List Tk} {p:Nat} {c:List UInt8} (h:isT tk p c=true) (hp:p<tk.length):tk[p]? =some (4,tk[p].2):=by
 unfold isT at h;rw [List.getElem?_eq_getElem hp] at h⊢;simp only [Bool.and_eq_true,beq_iff_eq] at h;rw [←h.1]
theorem Begun.gone {w w1 w2:World} {W K:Value} {p d:Nat} (h:Begun w W K p d w1) (y2 y3:Value) (e2:w2=(w1.setCell ⟨w.heap.size,2,none⟩ y2).setCell ⟨w.heap.size,3,none⟩ y3):
  BlkS w2 w.heap.size #[W,K,y2,y3]∧BlkS w2 (w.heap.size+1) #[.slice none 0 0, .slice none 0 0, .int .i64 0, .int .i64 0]∧Below w.heap.size w w2:=by
 obtain ⟨h1,h2,h3⟩:=h;exact ⟨e2▸(by simpa using (h1.set_ 2 y2).set_ 3 y3),e2▸(BlkS.far h2 (f:=w.heap.size) 2 y2 (by omega)).far (f:=w.heap.size) 3 y3 (by omega),e2▸(h3.setCell (p:=⟨w.heap.size,2,none⟩) (agD _) y2).setCell (p:=⟨w.heap.size,3,none⟩) (agD _) y3⟩
theorem BlkS.inner {w3 w4:World} {B:Nat} {w:World} {g k:Nat} {cs:Array Value} (hk:BlkS w3 k cs) (hb:Below B w w3) (hg:w3.heap.size=g) (hB:B≤g) {v:Value} {base n:Nat} {xs:List Value} (ho:w3.ownsRow base 110 3 v n xs) (x0 x1 x2 x3:Value)
  (e4:w4=w3.alloc (.cells #[x0,x1,x2,x3] 156)):
  BlkS w4 k cs∧BlkS w4 g #[x0,x1,x2,x3]∧Below B w w4∧w4.ownsRow base 110 3 v n xs∧w4.heap.size=g+1:=by
 subst hg e4;exact ⟨hk.alloc _,BlkS.new w3 _,hb.alloc hB _,ho.alloc _,by simp⟩
theorem BlkS.appended {w4 w5:World} {k g:Nat} {cs:Array Value} (hk:BlkS w4 k cs) (hg:w4.heap.size=g) {o:Obj} (h5:((w4.alloc o).drew).grownBy w5 (Value.slice (some ⟨g,0,none⟩) 1 1).ownBlock):BlkS w5 k cs:=
 ((hk.alloc o).drew).grown h5 (by have:=hk.lt;simp [Value.ownBlock];omega)
theorem fj {w w4 w5:World} {B g:Nat} (hb:Below B w w4) (hB:B≤w4.heap.size) (hg:w4.heap.size=g) {o:Obj} (h5:((w4.alloc o).drew).grownBy w5 (Value.slice (some ⟨g,0,none⟩) 1 1).ownBlock):Below B w w5:=
 ((hb.alloc hB o).drew).grown h5 (by simp;omega) (by simp [Value.ownBlock];omega)
theorem lN {w:World} {B:Nat} {v:Value} {k:Int} {s:ByteArray} {n:Int} {l:List Cl} (h:w.ownsRow B 110 3 v (1+l.length) ([.int .i64 k, .string s, .int .i64 n]++ai l)):w.ownsRow B 110 3 v ((k,s,n)::l).length (ai ((k,s,n)::l)):=by
 rw [List.length_cons,Nat.add_comm];exact h
theorem iU {w4:World} {B g:Nat} (hB:B≤w4.heap.size) (hg:w4.heap.size=g) {x0 x1 x2:Value}:((w4.alloc (.cells #[x0,x1,x2] 110)).drew).ownsRow B 110 3 (.slice (some ⟨g,0,none⟩) 1 1) 1 [x0,x1,x2]:=by
 subst hg;exact (World.ownsRow_lit (e:=110) (size:=3) (base:=B) w4 #[x0,x1,x2] 1 hB (by unfold maxLen;omega) rfl).drew
theorem m6 (tk:List Tk) (N:Nat) (ih:AllR tk N) (AP:tk.length≤20000) (p d:Nat) (W K:Value) (w:World) (hp:p≤tk.length) (hN:10*(tk.length-p)+0≤N) (hd:d+1≤41) (hr:RowTk w W K tk) (hu:isT tk p [33]=true):
  Calls Tryz.prog 198 #[StV W K p d] w (dJ tk .unary p d W K w):=by
 have CZ:=bG hu;have E4:=acn;have Fq:=agC hu;have HR:=agC hr;have IH:=agC ih;have HU:=agC (show bA tk p=true by rw [bA,hu];rfl);obtain ⟨⟨xa,xn,xc,rfl⟩,⟨ya,yn,yc,rfl⟩⟩:=hr.sl;obtain ⟨⟨ao,cap,hv,q1,q2,q3⟩,-⟩:=hr;simp only [Value.slice.injEq] at hv;obtain ⟨rfl,rfl,rfl⟩:=hv;obtain ⟨b,rfl,Av,cc⟩:=q3.resolve_left (by rintro rfl;simp at CZ);unfold maxLen at q2;have CC:=agC (cc p CZ);have JY:=tJ hu CZ;generalize tk[p].2=s at CC JY;have Dv:=agC JY;clear JY;clear hu cc q3 ih;have B0:=agC (Begun.start w (.slice (some ⟨b,0,none⟩) tk.length xc) (.slice ya yn yc) p d)
 go_enter Tryz.func198,Tryz.ntmps198
 go_wp2_with fail;refine (cK _ _ tk p d ⟨#[33]⟩ _ (HR.out.mono B0.out.2.2) (by omega)).mono ?_;rintro e w1 ⟨rfl,Aa⟩;rw [Fq.out];have B1:=agC (B0.out.below Aa);obtain ⟨⟨c0,c1,c2,c3⟩,f0,f1,f2,f3⟩:=B1.out.1.all;have Nm:w1.cell? ⟨b,p,none⟩=some (.string s):=(B1.out.2.2.cell (p:=⟨b,p,none⟩) Av).trans CC.out;clear Aa B0
 have Ph: ¬(41:Int)<(d:Int)+1:=by omega
 go_wp2_with fail;obtain ⟨CF,hg0,hg1⟩:=Begun.gone B1.out (.int .i64 ((p:Int)+1)) (.int .i64 ((d:Int)+1)) rfl;have BP2:=agC CF;have BR2:=agC hg0;have Ak:=agC hg1;clear CF hg0 hg1;refine ((show Calls Tryz.prog 198 #[.agg #[.slice (some ⟨b,0,none⟩) tk.length xc, .slice ya yn yc, .int .i64 ((p:Int)+1), .int .i64 ((d:Int)+1)]] _ _ from IH.out.unary (p+1) (d+1) _ _ _ (by omega) (by omega) hd (HR.out.mono Ak.out))).mono ?_;rintro e w3 ⟨v,W',K',l,q,d',ok,⟨⟨aw,nw,cw,rfl⟩,⟨ak,nk,ck,rfl⟩⟩,rfl,ho,DG,hq,Ag,Am⟩;have m3:=(BP2.out.below Ag).cell 3
 replace m3:w3.cell? ⟨w.heap.size,3,none⟩=some (.int .i64 ((d:Int)+1)):=m3
 have BR3:=agC (BR2.out.below Ag);have Ap:=agC (Ak.out.trans (Ag.mono Ak.out.size));have HO:=agC ho;have B6:=agC Am;clear ho Am Ag BR2 BP2;have Pi:=BR3.out.lt
 have Dd:w.heap.size<w3.heap.size:=by omega
 go_wp2_with fail;obtain ⟨k1,k2,k3,k4,k5⟩:=BlkS.inner BR3.out Ap.out rfl (by have:=Ap.out.size;omega) HO.out (.slice aw nw cw) (.slice ak nk ck) (.int .i64 (q:Int)) (.int .i64 (d:Int)) rfl;have BR4:=agC k1;have BI4:=agC k2;have Aw:=agC k3;have Cd:=agC k4;obtain ⟨⟨g0,g1,g2,g3⟩,-⟩:=k2.all;obtain ⟨⟨r0,r1,r2,r3⟩,z0,z1,z2,z3⟩:=k1.all;clear k1 k2 k3 k4 HO BR3 Ap
 rcases hi:Tryz.prog.info? 110 with _|i0
 ·simp [hi] at E4
 simp only [hi,Option.map_some,Option.some.injEq,Prod.mk.injEq] at E4;obtain ⟨Az,Ax,AC⟩:=E4
 have Ai:l.length≤20000:=by omega
 go_region_law
  ((refine cS (by rfl) _ _ _ (by rfl) (w.heap.size+2) 110 i0 (.agg #[.int .i64 0, .string ByteArray.empty, .int .i64 0]) 3 32 Tryz.underlying30 hi Az Ax AC rfl (by decide) _ 1 [.int .i64 7, .string s, .int .i64 1] (by rfl) (iU (by omega) k5) _ v l.length (ai l) (by rfl) ((Cd.out.alloc _).drew) (bU _) (by unfold maxLen;omega) (by omega) (by simp;omega) ?_;intro v5 w5 Bw AD;obtain ⟨⟨a0,a1,a2,a3⟩,-⟩:=(BI4.out.appended k5 AD).all;obtain ⟨⟨b0,b1,b2,b3⟩,y0,y1,y2,y3⟩:=(BR4.out.appended k5 AD).all))
 all_goals
  have BQ:=agC Bw;have Bk:=agC AD;clear Bw AD;have AQ:=agC (fj Aw.out (by omega) k5 Bk.out);have HE:=agC (br AQ.out (g:=w.heap.size+1) (by omega) (.slice aw nw cw) (.slice ak nk ck) (.int .i64 (q:Int)) (.int .i64 (d:Int)));have Ib:=agC ((cL BQ.out (g:=w.heap.size+1) (by omega) (.slice aw nw cw) (.slice ak nk ck) (.int .i64 (q:Int)) (.int .i64 (d:Int))).mono (base':=w.heap.size) (by omega));obtain ⟨⟨e0,e1,e2,e3⟩,-⟩:=((BR4.out.appended k5 Bk.out).put4 (.slice aw nw cw) (.slice ak nk ck) (.int .i64 (q:Int)) (.int .i64 (d:Int))).all;go_wp2
  exact bodyPost_ret (v:= .tuple #[v5, .agg #[.slice aw nw cw, .slice ak nk ck, .int .i64 (q:Int), .int .i64 (d:Int)], .bool ok]) (by simp [results,Tryz.results198,go_sem,e0,e1,e2,e3]) rfl
   ⟨v5,_,_,(7,s,1)::l,q,(d:Int),ok,⟨⟨_,_,_,rfl⟩,⟨_,_,_,rfl⟩⟩,rfl,(lN Ib.out),by simp only [List.length_cons];omega,hq,HE.out,
    B6.out.elim (fun ⟨a,b,c,_,f⟩=> .inl ⟨a,b,c,rfl, .sign HU.out Dv.out hd f⟩) (fun ⟨a,b⟩=> .inr ⟨a,sa HU.out b⟩)⟩
theorem mx (tk:List Tk) (N:Nat) (ih:AllR tk N) (AP:tk.length≤20000) (p d:Nat) (W K:Value) (w:World) (hp:p≤tk.length) (hN:10*(tk.length-p)+0≤N) (hd:d+1≤41) (hr:RowTk w W K tk) (J1:isT tk p [33]=false) (hu:isT tk p [45]=true):
  Calls Tryz.prog 198 #[StV W K p d] w (dJ tk .unary p d W K w):=by
 have CZ:=bG hu;have E4:=acn;have Pg:=agC J1;have Fq:=agC hu;have HR:=agC hr;have IH:=agC ih;have HU:=agC (show bA tk p=true by rw [bA,J1,hu];rfl);obtain ⟨⟨xa,xn,xc,rfl⟩,⟨ya,yn,yc,rfl⟩⟩:=hr.sl;obtain ⟨⟨ao,cap,hv,q1,q2,q3⟩,-⟩:=hr;simp only [Value.slice.injEq] at hv;obtain ⟨rfl,rfl,rfl⟩:=hv;obtain ⟨b,rfl,Av,cc⟩:=q3.resolve_left (by rintro rfl;simp at CZ);unfold maxLen at q2;have CC:=agC (cc p CZ);have JY:=tJ hu CZ;generalize tk[p].2=s at CC JY;have Dv:=agC JY;clear JY;clear hu J1 cc q3 ih;have B0:=agC (Begun.start w (.slice (some ⟨b,0,none⟩) tk.length xc) (.slice ya yn yc) p d)
 go_enter Tryz.func198,Tryz.ntmps198
 go_wp2_with fail;refine (cK _ _ tk p d ⟨#[33]⟩ _ (HR.out.mono B0.out.2.2) (by omega)).mono ?_;rintro e w0 ⟨rfl,Cu⟩;rw [Pg.out];have B00:=agC (B0.out.below Cu);obtain ⟨⟨k0,k1,k2,k3⟩,-⟩:=B00.out.1.all;clear Cu B0;go_wp2_with fail;refine (cK _ _ tk p d ⟨#[45]⟩ _ (HR.out.mono B00.out.2.2) (by omega)).mono ?_;rintro e w1 ⟨rfl,Aa⟩;rw [Fq.out];have B1:=agC (B00.out.below Aa);obtain ⟨⟨c0,c1,c2,c3⟩,f0,f1,f2,f3⟩:=B1.out.1.all;have Nm:w1.cell? ⟨b,p,none⟩=some (.string s):=(B1.out.2.2.cell (p:=⟨b,p,none⟩) Av).trans CC.out;clear Aa B00 k0 k1 k2 k3
 have Ph: ¬(41:Int)<(d:Int)+1:=by omega
 go_wp2_with fail;obtain ⟨CF,hg0,hg1⟩:=Begun.gone B1.out (.int .i64 ((p:Int)+1)) (.int .i64 ((d:Int)+1)) rfl;have BP2:=agC CF;have BR2:=agC hg0;have Ak:=agC hg1;clear CF hg0 hg1;refine ((show Calls Tryz.prog 198 #[.agg #[.slice (some ⟨b,0,none⟩) tk.length xc, .slice ya yn yc, .int .i64 ((p:Int)+1), .int .i64 ((d:Int)+1)]] _ _ from IH.out.unary (p+1) (d+1) _ _ _ (by omega) (by omega) hd (HR.out.mono Ak.out))).mono ?_;rintro e w3 ⟨v,W',K',l,q,d',ok,⟨⟨aw,nw,cw,rfl⟩,⟨ak,nk,ck,rfl⟩⟩,rfl,ho,DG,hq,Ag,Am⟩;have m3:=(BP2.out.below Ag).cell 3
 replace m3:w3.cell? ⟨w.heap.size,3,none⟩=some (.int .i64 ((d:Int)+1)):=m3
 have BR3:=agC (BR2.out.below Ag);have Ap:=agC (Ak.out.trans (Ag.mono Ak.out.size));have HO:=agC ho;have B6:=agC Am;clear ho Am Ag BR2 BP2;have Pi:=BR3.out.lt
 have Dd:w.heap.size<w3.heap.size:=by omega
 go_wp2_with fail;obtain ⟨k1,k2,k3,k4,k5⟩:=BlkS.inner BR3.out Ap.out rfl (by have:=Ap.out.size;omega) HO.out (.slice aw nw cw) (.slice ak nk ck) (.int .i64 (q:Int)) (.int .i64 (d:Int)) rfl;have BR4:=agC k1;have BI4:=agC k2;have Aw:=agC k3;have Cd:=agC k4;obtain ⟨⟨g0,g1,g2,g3⟩,-⟩:=k2.all;obtain ⟨⟨r0,r1,r2,r3⟩,z0,z1,z2,z3⟩:=k1.all;clear k1 k2 k3 k4 HO BR3 Ap
 rcases hi:Tryz.prog.info? 110 with _|i0
 ·simp [hi] at E4
 simp only [hi,Option.map_some,Option.some.injEq,Prod.mk.injEq] at E4;obtain ⟨Az,Ax,AC⟩:=E4
 have Ai:l.length≤20000:=by omega
 go_region_law
  ((refine cS (by rfl) _ _ _ (by rfl) (w.heap.size+2) 110 i0 (.agg #[.int .i64 0, .string ByteArray.empty, .int .i64 0]) 3 32 Tryz.underlying30 hi Az Ax AC rfl (by decide) _ 1 [.int .i64 7, .string s, .int .i64 1] (by rfl) (iU (by omega) k5) _ v l.length (ai l) (by rfl) ((Cd.out.alloc _).drew) (bU _) (by unfold maxLen;omega) (by omega) (by simp;omega) ?_;intro v5 w5 Bw AD;obtain ⟨⟨a0,a1,a2,a3⟩,-⟩:=(BI4.out.appended k5 AD).all;obtain ⟨⟨b0,b1,b2,b3⟩,y0,y1,y2,y3⟩:=(BR4.out.appended k5 AD).all))
 all_goals
  have BQ:=agC Bw;have Bk:=agC AD;clear Bw AD;have AQ:=agC (fj Aw.out (by omega) k5 Bk.out);have HE:=agC (br AQ.out (g:=w.heap.size+1) (by omega) (.slice aw nw cw) (.slice ak nk ck) (.int .i64 (q:Int)) (.int .i64 (d:Int)));have Ib:=agC ((cL BQ.out (g:=w.heap.size+1) (by omega) (.slice aw nw cw) (.slice ak nk ck) (.int .i64 (q:Int)) (.int .i64 (d:Int))).mono (base':=w.heap.size) (by omega));obtain ⟨⟨e0,e1,e2,e3⟩,-⟩:=((BR4.out.appended k5 Bk.out).put4 (.slice aw nw cw) (.slice ak nk ck) (.int .i64 (q:Int)) (.int .i64 (d:Int))).all;go_wp2
  exact bodyPost_ret (v:= .tuple #[v5, .agg #[.slice aw nw cw, .slice ak nk ck, .int .i64 (q:Int), .int .i64 (d:Int)], .bool ok]) (by simp [results,Tryz.results198,go_sem,e0,e1,e2,e3]) rfl
   ⟨v5,_,_,(7,s,1)::l,q,(d:Int),ok,⟨⟨_,_,_,rfl⟩,⟨_,_,_,rfl⟩⟩,rfl,(lN Ib.out),by simp only [List.length_cons];omega,hq,HE.out,
    B6.out.elim (fun ⟨a,b,c,_,f⟩=> .inl ⟨a,b,c,rfl, .sign HU.out Dv.out hd f⟩) (fun ⟨a,b⟩=> .inr ⟨a,sa HU.out b⟩)⟩
theorem wF (tk:List Tk) (N:Nat) (ih:AllR tk N) (AP:tk.length≤20000) (p d:Nat) (W K:Value) (w:World) (hp:p≤tk.length) (hN:10*(tk.length-p)+0≤N) (hd:d≤41) (hr:RowTk w W K tk):
  Calls Tryz.prog 198 #[StV W K p d] w (dJ tk .unary p d W K w):=by
 cases h1:isT tk p [33] with
 |true=>
  by_cases hd1:d+1≤41
  ·exact m6 tk N ih AP p d W K w hp hN hd1 hr h1
  ·exact m5 tk AP p d W K w hp hd hd1 hr h1
 |false=>
  cases h2:isT tk p [45] with
  |true=>
   by_cases hd1:d+1≤41
   ·exact mx tk N ih AP p d W K w hp hN hd1 hr h1 h2
   ·exact mw tk AP p d W K w hp hd hd1 hr h1 h2
  |false=>exact mv tk N ih AP p d W K w hp hN hd hr (by rw [bA,h1,h2];rfl)
theorem tK (tk:List Tk) (N:Nat) (ih:AllR tk N) (AP:tk.length≤20000) (p d:Nat) (W K:Value) (w:World) (hp:p≤tk.length) (hN:10*(tk.length-p)+1≤N) (hd:d≤41) (hr:RowTk w W K tk):
  Calls Tryz.prog 177 #[StV W K p d, .int .i64 7] w (dJ tk (.level 7) p d W K w):=by
 obtain ⟨⟨xa,xn,xc,rfl⟩,⟨ya,yn,yc,rfl⟩⟩:=hr.sl;have HR:=agC hr;have IH:=agC ih;clear hr ih;have B0:=agC (Begun.start w (.slice xa xn xc) (.slice ya yn yc) p d)
 go_enter Tryz.func177,Tryz.ntmps177
 go_wp2_with fail;refine (IH.out.unary p d (.slice xa xn xc) (.slice ya yn yc) _ hp hN hd (HR.out.mono B0.out.2.2)).mono ?_;rintro e w3 ⟨v,W',K',l,q,d',ok,⟨⟨aw,nw,cw,rfl⟩,⟨ak,nk,ck,rfl⟩⟩,rfl,ho,DG,hq,Ag,Am⟩;have BR3:=agC (B0.out.2.1.below Ag);have Ap:=agC (B0.out.2.2.trans (Ag.mono B0.out.2.2.size));have Ab:=B0.out.2.1.lt;obtain ⟨⟨r0,r1,r2,r3⟩,z0,z1,z2,z3⟩:=BR3.out.all;have HE:=agC (br Ap.out (g:=w.heap.size+1) (by omega) (.slice aw nw cw) (.slice ak nk ck) (.int .i64 (q:Int)) (.int .i64 d'));have HO:=agC ((cL ho (g:=w.heap.size+1) Ab (.slice aw nw cw) (.slice ak nk ck) (.int .i64 (q:Int)) (.int .i64 d')).mono B0.out.2.2.size);have IR:=agC (show (ok=true∧(Value.slice aw nw cw)=(.slice xa xn xc)∧(Value.slice ak nk ck)=(.slice ya yn yc)∧d'=(d:Int)∧Rs tk (.level 7) p d l q 0)∨(ok=false∧NoRd tk (.level 7) p d) from Am.elim (fun ⟨a,b,c,e,f⟩=> .inl ⟨a,b,c,e, .seven f⟩) (fun ⟨a,b⟩=> .inr ⟨a,r9 b⟩));clear ho Ag Am B0;go_wp2;exact bodyPost_ret (v:= .tuple #[v, .agg #[(.slice aw nw cw),(.slice ak nk ck), .int .i64 (q:Int), .int .i64 d'], .bool ok]) (by simp [results,Tryz.results177,go_sem,r0,r1,r2,r3]) rfl ⟨v,_,_,l,q,d',ok,⟨⟨_,_,_,rfl⟩,⟨_,_,_,rfl⟩⟩,rfl,HO.out,DG,hq,HE.out,IR.out⟩
theorem cB (w:World) (xs bs:Array Value):
  BlkS ((w.alloc (.cells xs 156)).alloc (.cells bs 156)) w.heap.size xs∧BlkS ((w.alloc (.cells xs 156)).alloc (.cells bs 156)) (w.heap.size+1) bs∧
   Below w.heap.size w ((w.alloc (.cells xs 156)).alloc (.cells bs 156))∧((w.alloc (.cells xs 156)).alloc (.cells bs 156)).heap.size=w.heap.size+1+1:=by
 have Et:(w.alloc (.cells xs 156)).heap.size=w.heap.size+1:=by simp
 have:=BlkS.new (w.alloc (.cells xs 156)) bs;rw [Et] at this;exact ⟨(BlkS.new w xs).alloc _,this,((Below.refl w.heap.size w).alloc (agD _) _).alloc (by simp) _,by simp⟩
theorem my (tk:List Tk) (AP:tk.length≤20000) (p d:Nat) (W K:Value) (w:World) (hp:p≤tk.length) (hd:d≤41) (ED: ¬d+1≤41) (hr:RowTk w W K tk):
  Calls Tryz.prog 150 #[StV W K p d] w (dJ tk .choice p d W K w):=by
 obtain rfl:d=41:=by omega
 obtain ⟨⟨xa,xn,xc,rfl⟩,⟨ya,yn,yc,rfl⟩⟩:=hr.sl;have CO:=agC (r8 (tk:=tk) (p:=p) (d:=41) ED);clear hr ED
 go_enter Tryz.func150,Tryz.ntmps150
 go_wp2_with fail
 have n1: ¬w.heap.size=w.heap.size+1:=by omega
 go_region
 all_goals
  go_wp2;obtain ⟨hA,hB,hC,hD⟩:=cB w #[.slice xa xn xc, .slice ya yn yc, .int .i64 (p:Int), .int .i64 42] #[.slice xa xn xc, .slice ya yn yc, .int .i64 (p:Int), .int .i64 42];obtain ⟨⟨e0,e1,e2,e3⟩,-⟩:=((hB.alloc (.cells #[] 110)).drew).all
  exact bodyPost_ret (v:= .tuple #[.slice (some ⟨w.heap.size+1+1,0,none⟩) 0 0, .agg #[.slice xa xn xc, .slice ya yn yc, .int .i64 (p:Int), .int .i64 42], .bool false]) (by simp [results,Tryz.results150,go_sem]) rfl
   ⟨_,_,_,[],p,42,false,⟨⟨_,_,_,rfl⟩,⟨_,_,_,rfl⟩⟩,rfl,gw hD (by omega),by simp only [List.length_nil];omega,hp,(hC.alloc hC.size _).drew, .inr ⟨rfl,CO.out⟩⟩
structure ChI (w w4:World) (G:Nat) (a0 a1 a2 a3 i0 i1 i2 i3:Value) (v:Value) (l:List Cl):Prop where
 st:BlkS w4 w.heap.size #[a0,a1,a2,a3]
 ans:BlkS w4 (w.heap.size+1) #[.slice none 0 0, .slice none 0 0, .int .i64 0, .int .i64 0]
 inn:BlkS w4 G #[i0,i1,i2,i3]
 below:Below w.heap.size w w4
 own:w4.ownsRow (w.heap.size+2) 110 3 v l.length (ai l)
 apart:v.ownBlock≠some G
 gt:w.heap.size+1<G
theorem ChI.first {w w2 w3:World} {a0 a1 a2 a3:Value} {v:Value} {l:List Cl} (e2:w2=(w.alloc (.cells #[a0,a1,a2,a3] 156)).alloc (.cells #[.slice none 0 0, .slice none 0 0, .int .i64 0, .int .i64 0] 156)) (hb:Below w2.heap.size w2 w3)
  (ho:w3.ownsRow w2.heap.size 110 3 v l.length (ai l)) (i0 i1 i2 i3:Value):ChI w (w3.alloc (.cells #[i0,i1,i2,i3] 156)) w3.heap.size a0 a1 a2 a3 i0 i1 i2 i3 v l:=by
 obtain ⟨hA,hB,hC,hD⟩:=cB w #[a0,a1,a2,a3] #[.slice none 0 0, .slice none 0 0, .int .i64 0, .int .i64 0];rw [←e2] at hA hB hC hD;have hs:=hb.size;refine ⟨(hA.below hb).alloc _,(hB.below hb).alloc _,BlkS.new w3 _,(hC.trans (hb.mono (by omega))).alloc (by omega) _, ?_, ?_,by omega⟩
 ·rw [hD] at ho;exact ho.alloc _
 ·intro he
  have:=(ho.lt _ he).2
  omega
theorem ChI.later {w w4 w5:World} {G:Nat} {a0 a1 a2 a3 i0 i1 i2 i3 v:Value} {l:List Cl} (h:ChI w w4 G a0 a1 a2 a3 i0 i1 i2 i3 v l) (hb:Below w4.heap.size w4 w5):ChI w w5 G a0 a1 a2 a3 i0 i1 i2 i3 v l:=
 ⟨h.st.below hb,h.ans.below hb,h.inn.below hb,h.below.trans (hb.mono h.below.size),cD h.own hb,h.apart,h.gt⟩
theorem ChI.over {w w4 w5:World} {G:Nat} {a0 a1 a2 a3 i0 i1 i2 i3 v:Value} {l:List Cl} (h:ChI w w4 G a0 a1 a2 a3 i0 i1 i2 i3 v l) (y x0 x1 x2 x3:Value)
  (e5:w5=((((w4.setCell ⟨G,3,none⟩ y).setCell ⟨w.heap.size+1,0,none⟩ x0).setCell ⟨w.heap.size+1,1,none⟩ x1).setCell ⟨w.heap.size+1,2,none⟩ x2).setCell ⟨w.heap.size+1,3,none⟩ x3):
  BlkS w5 (w.heap.size+1) #[x0,x1,x2,x3]∧Below w.heap.size w w5∧w5.ownsRow w.heap.size 110 3 v l.length (ai l):=by
 subst e5;have hg:=h.gt;refine ⟨(BlkS.far h.ans (f:=G) 3 y (by omega)).put4 x0 x1 x2 x3,br (h.below.setCell (p:=⟨G,3,none⟩) (by show w.heap.size≤G;omega) y) (by omega) x0 x1 x2 x3, ?_⟩;exact (cL (ownsRow_setCell_other h.own (a:=⟨G,3,none⟩) h.apart y) (by omega) x0 x1 x2 x3).mono (by omega)
theorem m7 (tk:List Tk) (N:Nat) (ih:AllR tk N) (AP:tk.length≤20000) (p d:Nat) (W K:Value) (w:World) (hp:p≤tk.length) (hN:10*(tk.length-p)+7≤N) (hd:d+1≤41) (hr:RowTk w W K tk)
  (Ar: ∀a q m,Rs tk (.level 2) p (d+1) a q m→isT tk q [63]=false):
  Calls Tryz.prog 150 #[StV W K p d] w (dJ tk .choice p d W K w):=by
 obtain ⟨⟨xa,xn,xc,rfl⟩,⟨ya,yn,yc,rfl⟩⟩:=hr.sl;have HR:=agC hr;have IH:=agC ih;have CO:=agC Ar;clear hr ih Ar;obtain ⟨-,hA,hC,hD⟩:=cB w #[.slice xa xn xc, .slice ya yn yc, .int .i64 (p:Int), .int .i64 ((d:Int)+1)] #[.slice none 0 0, .slice none 0 0, .int .i64 0, .int .i64 0];have HA:=agC hA;have HC:=agC hC;have HD:=agC hD;clear hA hC hD
 have Ph: ¬(41:Int)<(d:Int)+1:=by omega
 go_enter Tryz.func150,Tryz.ntmps150
 go_wp2_with fail;refine ((show Calls Tryz.prog 177 #[.agg #[.slice xa xn xc, .slice ya yn yc, .int .i64 (p:Int), .int .i64 ((d:Int)+1)], .int .i64 2] _ _ from IH.out.level 2 p (d+1) _ _ _ (by omega) (by omega) hp (by omega) hd (HR.out.mono HC.out))).mono ?_;rintro e w3 ⟨v,W',K',l,q,d',ok,⟨⟨aw,nw,cw,rfl⟩,⟨ak,nk,ck,rfl⟩⟩,rfl,ho,DG,hq,Ag,Am⟩;have HI:=agC (ChI.first rfl Ag ho (.slice aw nw cw) (.slice ak nk ck) (.int .i64 (q:Int)) (.int .i64 d'));have BY:=agC (ho.mono (base':=w.heap.size+2) (by rw [HD.out];omega));have Ap:=agC (HC.out.trans (Ag.mono HC.out.size));have HB:=agC (HA.out.below Ag);clear ho Ag;have KE:=HI.out.gt
 rcases Am with ⟨rfl,hW,hK,Dw,De⟩|⟨rfl,hn⟩
 ·simp only [Value.slice.injEq] at hW hK
  obtain ⟨rfl,rfl,rfl⟩:=hW;obtain ⟨rfl,rfl,rfl⟩:=hK
  replace Dw:d'=(d:Int)+1:=Dw
  subst Dw;have AT:=agC De;have HQ:=agC (CO.out _ _ _ De);clear De;go_wp2_with fail;refine ((show Calls Tryz.prog 178 #[.agg #[.slice _ _ _, .slice _ _ _, .int .i64 (q:Int), .int .i64 ((d:Int)+1)], .string _] _ _ from cK _ _ tk q (d+1) ⟨#[63]⟩ _ (HR.out.mono HI.out.below) (by omega))).mono ?_;rintro e w5 ⟨rfl,AI⟩;rw [HQ.out];have HJ:=agC (HI.out.later AI);clear AI;obtain ⟨⟨s0,s1,s2,s3⟩,-⟩:=HJ.out.st.all;obtain ⟨⟨r0,r1,r2,r3⟩,z0,z1,z2,z3⟩:=HJ.out.ans.all;obtain ⟨⟨g0,g1,g2,g3⟩,y0,y1,y2,y3⟩:=HJ.out.inn.all;have l1:=HJ.out.inn.lt
  have n1: ¬w3.heap.size=w.heap.size+1:=by omega
  have n2: ¬w.heap.size+1=w3.heap.size:=by omega
  have n3: ¬w.heap.size=w3.heap.size:=by omega
  go_wp2_with fail
  go_region
  all_goals
   obtain ⟨hE,hB,hO⟩:=HJ.out.over (.int .i64 (d:Int)) (.slice _ _ _) (.slice _ _ _) (.int .i64 (q:Int)) (.int .i64 (d:Int)) rfl;obtain ⟨⟨e0,e1,e2,e3⟩,-⟩:=hE.all;go_wp2
   exact bodyPost_ret (v:= .tuple #[v, .agg #[.slice _ _ _, .slice _ _ _, .int .i64 (q:Int), .int .i64 (d:Int)], .bool true]) (by simp [results,Tryz.results150,go_sem,e0,e1,e2,e3]) rfl
    ⟨v,_,_,l,q,(d:Int),true,⟨⟨_,_,_,rfl⟩,⟨_,_,_,rfl⟩⟩,rfl,hO.drew,DG,hq,hB.drew, .inl ⟨rfl,rfl,rfl,rfl, .one hd AT.out HQ.out⟩⟩
 ·have HN:=agC (lc hn)
  clear hn;obtain ⟨⟨s0,s1,s2,s3⟩,-⟩:=HI.out.st.all
  have n1: ¬w3.heap.size=w.heap.size+1:=by omega
  have n2: ¬w.heap.size+1=w3.heap.size:=by omega
  have n3: ¬w.heap.size=w3.heap.size:=by omega
  have l1:w.heap.size+1<w3.heap.size:=by omega
  have l2:w.heap.size<w3.heap.size:=by omega
  have c3:w3.cell? ⟨w.heap.size,3,none⟩=some (.int .i64 ((d:Int)+1)):=by
   rw [←s3];exact (((Below.refl w3.heap.size w3).alloc (agD _) _).cell (p:=⟨w.heap.size,3,none⟩) l2).symm
  obtain ⟨⟨r0,r1,r2,r3⟩,z0,z1,z2,z3⟩:=HB.out.all;go_wp2_with fail
  go_region
  all_goals
   have hE:=((HB.out.put4 (.slice aw nw cw) (.slice ak nk ck) (.int .i64 (q:Int)) (.int .i64 (d:Int))).alloc (.cells #[.slice aw nw cw, .slice ak nk ck, .int .i64 (q:Int), .int .i64 (d:Int)] 156)).drew;obtain ⟨⟨e0,e1,e2,e3⟩,-⟩:=hE.all;have Mn:=br Ap.out (g:=w.heap.size+1) (by omega) (.slice aw nw cw) (.slice ak nk ck) (.int .i64 (q:Int)) (.int .i64 (d:Int));have hB:=Mn.alloc Mn.size (.cells #[.slice aw nw cw, .slice ak nk ck, .int .i64 (q:Int), .int .i64 (d:Int)] 156);have hO:=((cL BY.out (g:=w.heap.size+1) (by omega) (.slice aw nw cw) (.slice ak nk ck) (.int .i64 (q:Int)) (.int .i64 (d:Int))).mono (base':=w.heap.size) (by omega)).alloc (.cells #[.slice aw nw cw, .slice ak nk ck, .int .i64 (q:Int), .int .i64 (d:Int)] 156);go_wp2
   exact bodyPost_ret (v:= .tuple #[v, .agg #[.slice aw nw cw, .slice ak nk ck, .int .i64 (q:Int), .int .i64 (d:Int)], .bool false]) (by simp [results,Tryz.results150,go_sem,e0,e1,e2,e3]) rfl
    ⟨v,_,_,l,q,(d:Int),false,⟨⟨_,_,_,rfl⟩,⟨_,_,_,rfl⟩⟩,rfl,hO.drew,DG,hq,hB.drew, .inr ⟨rfl,HN.out⟩⟩
theorem gy {w:World} {G n:Nat} {e:TypeId} {size:Nat} {v:Value} {xs:List Value} (h:w.ownsRow (G+1) e size v n xs) (i:Nat) (x:Value):(w.setCell ⟨G,i,none⟩ x).ownsRow (G+1) e size v n xs:=
 ownsRow_setCell_other h (a:=⟨G,i,none⟩) (by intro he;have:=(h.lt _ he).1;simp only at this;omega) x
theorem ChI.seti {w w4:World} {G:Nat} {a0 a1 a2 a3 i0 i1 i2 i3 v:Value} {l:List Cl} (h:ChI w w4 G a0 a1 a2 a3 i0 i1 i2 i3 v l) (x:Value):ChI w (w4.setCell ⟨G,2,none⟩ x) G a0 a1 a2 a3 i0 i1 x i3 v l:=by
 have hg:=h.gt;exact ⟨BlkS.far h.st (f:=G) 2 x (by omega),BlkS.far h.ans (f:=G) 2 x (by omega),by simpa using h.inn.set_ 2 x,h.below.setCell (p:=⟨G,2,none⟩) (by show w.heap.size≤G;omega) x,ownsRow_setCell_other h.own (a:=⟨G,2,none⟩) h.apart x,h.apart,h.gt⟩
theorem ChI.seti3 {w w4:World} {G:Nat} {a0 a1 a2 a3 i0 i1 i2 i3 v:Value} {l:List Cl} (h:ChI w w4 G a0 a1 a2 a3 i0 i1 i2 i3 v l) (x:Value):ChI w (w4.setCell ⟨G,3,none⟩ x) G a0 a1 a2 a3 i0 i1 i2 x v l:=by
 have hg:=h.gt;exact ⟨BlkS.far h.st (f:=G) 3 x (by omega),BlkS.far h.ans (f:=G) 3 x (by omega),by simpa using h.inn.set_ 3 x,h.below.setCell (p:=⟨G,3,none⟩) (by show w.heap.size≤G;omega) x,ownsRow_setCell_other h.own (a:=⟨G,3,none⟩) h.apart x,h.apart,h.gt⟩
theorem ChI.set0 {w w4:World} {G:Nat} {a0 a1 a2 a3 i0 i1 i2 i3 v:Value} {l:List Cl} (h:ChI w w4 G a0 a1 a2 a3 i0 i1 i2 i3 v l) (x:Value):ChI w (w4.setCell ⟨G,0,none⟩ x) G a0 a1 a2 a3 x i1 i2 i3 v l:=by
 have hg:=h.gt;exact ⟨BlkS.far h.st (f:=G) 0 x (by omega),BlkS.far h.ans (f:=G) 0 x (by omega),by simpa using h.inn.set_ 0 x,h.below.setCell (p:=⟨G,0,none⟩) (by show w.heap.size≤G;omega) x,ownsRow_setCell_other h.own (a:=⟨G,0,none⟩) h.apart x,h.apart,h.gt⟩
theorem ChI.set1 {w w4:World} {G:Nat} {a0 a1 a2 a3 i0 i1 i2 i3 v:Value} {l:List Cl} (h:ChI w w4 G a0 a1 a2 a3 i0 i1 i2 i3 v l) (x:Value):ChI w (w4.setCell ⟨G,1,none⟩ x) G a0 a1 a2 a3 i0 x i2 i3 v l:=by
 have hg:=h.gt;exact ⟨BlkS.far h.st (f:=G) 1 x (by omega),BlkS.far h.ans (f:=G) 1 x (by omega),by simpa using h.inn.set_ 1 x,h.below.setCell (p:=⟨G,1,none⟩) (by show w.heap.size≤G;omega) x,ownsRow_setCell_other h.own (a:=⟨G,1,none⟩) h.apart x,h.apart,h.gt⟩
theorem ChI.over4 {w w4:World} {G:Nat} {a0 a1 a2 a3 i0 i1 i2 i3 v:Value} {l:List Cl} (h:ChI w w4 G a0 a1 a2 a3 i0 i1 i2 i3 v l) (x0 x1 x2 x3:Value):ChI w ((((w4.setCell ⟨G,0,none⟩ x0).setCell ⟨G,1,none⟩ x1).setCell ⟨G,2,none⟩ x2).setCell ⟨G,3,none⟩ x3) G a0 a1 a2 a3 x0 x1 x2 x3 v l:=
 (((h.set0 x0).set1 x1).seti x2).seti3 x3
theorem ChI.fail {w w4:World} {G:Nat} {a0 a1 a2 a3 i0 i1 i2 i3 v:Value} {l:List Cl} (h:ChI w w4 G a0 a1 a2 a3 i0 i1 i2 i3 v l) (x0 x1 x2 x3:Value) {g:Nat} (hg:w4.heap.size=g):
  BlkS ((((((w4.setCell ⟨w.heap.size+1,0,none⟩ x0).setCell ⟨w.heap.size+1,1,none⟩ x1).setCell ⟨w.heap.size+1,2,none⟩ x2).setCell ⟨w.heap.size+1,3,none⟩ x3).alloc (.cells #[] 110)).drew) (w.heap.size+1) #[x0,x1,x2,x3]∧
  Below w.heap.size w ((((((w4.setCell ⟨w.heap.size+1,0,none⟩ x0).setCell ⟨w.heap.size+1,1,none⟩ x1).setCell ⟨w.heap.size+1,2,none⟩ x2).setCell ⟨w.heap.size+1,3,none⟩ x3).alloc (.cells #[] 110)).drew)∧
  World.ownsRow ((((((w4.setCell ⟨w.heap.size+1,0,none⟩ x0).setCell ⟨w.heap.size+1,1,none⟩ x1).setCell ⟨w.heap.size+1,2,none⟩ x2).setCell ⟨w.heap.size+1,3,none⟩ x3).alloc (.cells #[] 110)).drew) w.heap.size 110 3 (.slice (some ⟨g,0,none⟩) 0 0) 0 (ai []):=by
 have KE:=h.gt;have hl:=h.inn.lt;have hb:=br h.below (g:=w.heap.size+1) (by omega) x0 x1 x2 x3;exact ⟨((h.ans.put4 x0 x1 x2 x3).alloc _).drew,(hb.alloc hb.size _).drew,gw (by simpa [World.setCell] using hg) (by omega)⟩
theorem rg {w4:World} {g:Nat} (hg:w4.heap.size=g) {x0 x1 x2:Value}:(w4.alloc (.cells #[x0,x1,x2] 110)).ownsRow g 110 3 (.slice (some ⟨g,0,none⟩) 1 1) 1 [x0,x1,x2]:=by
 subst hg;exact World.ownsRow_lit (e:=110) (size:=3) (base:=w4.heap.size) w4 #[x0,x1,x2] 1 (agD _) (by unfold maxLen;omega) rfl
theorem mA {w4 w5:World} {g:Nat} (hg:w4.heap.size=g) {o:Obj} (h5:(w4.alloc o).grownBy w5 (Value.slice (some ⟨g,0,none⟩) 1 1).ownBlock):Below w4.heap.size w4 w5:=by
 subst hg;exact ((Below.refl w4.heap.size w4).alloc (agD _) o).grown h5 (by simp) (by simp [Value.ownBlock])
theorem zW {w w':World} {B B1 n m:Nat} {e e2:TypeId} {s s2:Nat} {v u:Value} {xs ys:List Value} (h:w.ownsRow B1 e s v n xs) (hv: ∀x,v.ownBlock=some x→x<B) (hu:w.ownsRow B e2 s2 u m ys) (hg:w.grownBy w' u.ownBlock):w'.ownsRow B1 e s v n xs:=by
 refine h.kept hg ?_
 cases hb:v.ownBlock with
 |none=>exact .inl rfl
 |some x=>
  refine .inr (fun he=> ?_);have h1:=hv x hb;have h2:=(hu.lt x he.symm).1
  omega
theorem zX {w:World} {B:Nat} {v:Value} {k:Int} {s:ByteArray} {n:Int} {l l2 l3:List Cl} (h:w.ownsRow B 110 3 v (1+l.length+l2.length+l3.length) ((([.int .i64 k, .string s, .int .i64 n]++ai l)++ai l2)++ai l3)):
  w.ownsRow B 110 3 v ((k,s,n)::(l++(l2++l3))).length (ai ((k,s,n)::(l++(l2++l3)))):=by
 have e:ai ((k,s,n)::(l++(l2++l3)))=(([.int .i64 k, .string s, .int .i64 n]++ai l)++ai l2)++ai l3:=by
  rw [List.append_assoc,List.append_assoc,←dt,←dt];rfl
 have e2:((k,s,n)::(l++(l2++l3))).length=1+l.length+l2.length+l3.length:=by simp only [List.length_cons,agE];omega
 rw [e,e2];exact h
theorem afz {w w':World} {r:Option Nat} (h:w.drew.grownBy w' r):w.grownBy w' r:=⟨h.os,h.tape,h.output,h.size,h.block⟩
structure AftC (w w4:World) (G:Nat) (i0 i1 i2 i3:Value):Prop where
 ans:BlkS w4 (w.heap.size+1) #[.slice none 0 0, .slice none 0 0, .int .i64 0, .int .i64 0]
 inn:BlkS w4 G #[i0,i1,i2,i3]
 below:Below w.heap.size w w4
 gt:w.heap.size+1<G
theorem AftC.app {w w4 w5:World} {G B n:Nat} {i0 i1 i2 i3 v:Value} {e:TypeId} {s:Nat} {xs:List Value} (h:AftC w w4 G i0 i1 i2 i3) (hg:w4.grownBy w5 v.ownBlock) (ho:w4.ownsRow B e s v n xs) (hB:G<B):AftC w w5 G i0 i1 i2 i3:=by
 have KE:=h.gt;refine ⟨h.ans.grown hg (fun he=> ?_),h.inn.grown hg (fun he=> ?_),h.below.grown hg h.below.size (fun q hq=> ?_),h.gt⟩
 ·have:=(ho.lt _ he.symm).1;omega
 ·have:=(ho.lt _ he.symm).1;omega
 ·have:=(ho.lt _ hq).1;omega
theorem lO (tk:List Tk) (N:Nat) (ih:AllR tk N) (AP:tk.length≤20000) (p d:Nat) (W K:Value) (w:World) (hp:p≤tk.length) (hN:10*(tk.length-p)+7≤N) (hd:d+1≤41) (hr:RowTk w W K tk)
 (Ar: ∀a q m,Rs tk (.level 2) p (d+1) a q m→isT tk q [63]=true):
 Calls Tryz.prog 150 #[StV W K p d] w (dJ tk .choice p d W K w):=by
 obtain ⟨i0,hi,Az,Ax,AC⟩:=info_parts f5;obtain ⟨⟨xa,xn,xc,rfl⟩,⟨ya,yn,yc,rfl⟩⟩:=hr.sl;have HR:=agC hr;have IH:=agC ih;have CO:=agC Ar;clear hr ih Ar;obtain ⟨-,hA,hC,hD⟩:=cB w #[.slice xa xn xc, .slice ya yn yc, .int .i64 (p:Int), .int .i64 ((d:Int)+1)] #[.slice none 0 0, .slice none 0 0, .int .i64 0, .int .i64 0];have HA:=agC hA;have HC:=agC hC;have HD:=agC hD;clear hA hC hD
 have Ph: ¬(41:Int)<(d:Int)+1:=by omega
 go_enter Tryz.func150,Tryz.ntmps150
 go_wp2_with fail;refine ((show Calls Tryz.prog 177 #[.agg #[.slice xa xn xc, .slice ya yn yc, .int .i64 (p:Int), .int .i64 ((d:Int)+1)], .int .i64 2] _ _ from IH.out.level 2 p (d+1) _ _ _ (by omega) (by omega) hp (by omega) hd (HR.out.mono HC.out))).mono ?_;rintro e w3 ⟨v,W',K',l,q,d',ok,⟨⟨aw,nw,cw,rfl⟩,⟨ak,nk,ck,rfl⟩⟩,rfl,ho,DG,hq,Ag,Am⟩;have HI:=agC (ChI.first rfl Ag ho (.slice aw nw cw) (.slice ak nk ck) (.int .i64 (q:Int)) (.int .i64 d'));have BY:=agC (ho.mono (base':=w.heap.size+2) (by rw [HD.out];omega));have Ap:=agC (HC.out.trans (Ag.mono HC.out.size));have HB:=agC (HA.out.below Ag);clear ho Ag;have KE:=HI.out.gt
 rcases Am with ⟨rfl,hW,hK,Dw,De⟩|⟨rfl,hn⟩
 ·simp only [Value.slice.injEq] at hW hK
  obtain ⟨rfl,rfl,rfl⟩:=hW;obtain ⟨rfl,rfl,rfl⟩:=hK
  replace Dw:d'=(d:Int)+1:=Dw
  subst Dw;have AT:=agC De;have HQ:=agC (CO.out _ _ _ De);clear De;go_wp2_with fail;refine ((show Calls Tryz.prog 178 #[.agg #[.slice _ _ _, .slice _ _ _, .int .i64 (q:Int), .int .i64 ((d:Int)+1)], .string _] _ _ from cK _ _ tk q (d+1) ⟨#[63]⟩ _ (HR.out.mono HI.out.below) (by omega))).mono ?_;rintro e w5 ⟨rfl,AI⟩;rw [HQ.out];have HJ:=agC (HI.out.later AI);clear AI;obtain ⟨⟨g0,g1,g2,g3⟩,y0,y1,y2,y3⟩:=HJ.out.inn.all;have l1:=HJ.out.inn.lt;have HK:=agC (HJ.out.seti (.int .i64 ((q:Int)+1)));clear HI HD HA HC;go_wp2_with fail;refine ((show Calls Tryz.prog 150 #[.agg #[.slice aw nw cw, .slice ak nk ck, .int .i64 ((q:Int)+1), .int .i64 ((d:Int)+1)]] _ _ from IH.out.choice (q+1) (d+1) _ _ _ (bG HQ.out) (by have:=bG HQ.out;omega) hd (HR.out.mono HK.out.below))).mono ?_;rintro e w6 ⟨v2,W2,K2,l2,q2,d2,Hf,⟨⟨Bp,BE,Bq,rfl⟩,⟨Br,Bs,Bt,rfl⟩⟩,rfl,Bu,Gh,CL,Bv,BH⟩;have Mo:=agC (HK.out.later Bv);have Cc:=agC (cL (Bu.mono (base':=w3.heap.size+1) HK.out.inn.lt) (g:=w3.heap.size) (by omega) (.slice Bp BE Bq) (.slice Br Bs Bt) (.int .i64 (q2:Int)) (.int .i64 d2));have HL:=agC (Mo.out.over4 (.slice Bp BE Bq) (.slice Br Bs Bt) (.int .i64 (q2:Int)) (.int .i64 d2));obtain ⟨⟨h0,h1,h2,h3⟩,j0,j1,j2,j3⟩:=Mo.out.inn.all;clear Bu Bv HJ HK g0 g1 g2 g3 y0 y1 y2 y3 l1
  have n1: ¬w3.heap.size=w.heap.size+1:=by omega
  have n2: ¬w.heap.size+1=w3.heap.size:=by omega
  have n3: ¬w.heap.size=w3.heap.size:=by omega
  have VJ:=Mo.out.inn.lt
  have VK:w.heap.size+1<w6.heap.size:=by omega
  have n7: ¬w.heap.size+1=w6.heap.size:=by omega
  rcases BH with ⟨rfl,hW,hK,Dw,BW⟩|⟨rfl,DE⟩
  rotate_left
  ·have HN:=agC (o5 AT.out HQ.out DE)
   clear DE;obtain ⟨⟨r0,r1,r2,r3⟩,z0,z1,z2,z3⟩:=Mo.out.ans.all;go_wp2_with fail
   go_region
   all_goals
    obtain ⟨hE,hB,hO⟩:=HL.out.fail (.slice Bp BE Bq) (.slice Br Bs Bt) (.int .i64 (q2:Int)) (.int .i64 d2) (g:=w6.heap.size) (by simp [World.setCell]);obtain ⟨⟨e0,e1,e2,e3⟩,-⟩:=hE.all;go_wp2
    exact bodyPost_ret (v:= .tuple #[.slice (some ⟨w6.heap.size,0,none⟩) 0 0, .agg #[.slice Bp BE Bq, .slice Br Bs Bt, .int .i64 (q2:Int), .int .i64 d2], .bool false]) (by simp [results,Tryz.results150,go_sem,e0,e1,e2,e3]) rfl
     ⟨_,_,_,[],q2,d2,false,⟨⟨_,_,_,rfl⟩,⟨_,_,_,rfl⟩⟩,rfl,hO,by simp only [List.length_nil];omega,CL,hB, .inr ⟨rfl,HN.out⟩⟩
  ·simp only [Value.slice.injEq] at hW hK
   obtain ⟨rfl,rfl,rfl⟩:=hW;obtain ⟨rfl,rfl,rfl⟩:=hK
   replace Dw:d2=(d:Int)+1:=Dw
   subst Dw;have E8:=agC BW;clear BW Mo;go_wp2_with fail;clear h0 h1 h2 h3 j0 j1 j2 j3;refine ((show Calls Tryz.prog 178 #[.agg #[.slice _ _ _, .slice _ _ _, .int .i64 (q2:Int), .int .i64 ((d:Int)+1)], .string _] _ _ from cK _ _ tk q2 (d+1) ⟨#[58]⟩ _ (HR.out.mono HL.out.below) (by omega))).mono ?_;rintro e w7 ⟨rfl,BK⟩;have HM:=agC (HL.out.later BK);have EQ:=agC (cD Cc.out BK);clear BK HL Cc
   cases hc:isT tk q2 [58] with
   |false=>
    have Rj:=agC hc;have HN:=agC (qE AT.out HQ.out E8.out hc);clear hc;have Mp:=HM.out.inn.lt
    have Rk:w.heap.size+1<w7.heap.size:=by omega
    have n9: ¬w.heap.size+1=w7.heap.size:=by omega
    obtain ⟨⟨h0,h1,h2,h3⟩,j0,j1,j2,j3⟩:=HM.out.inn.all;obtain ⟨⟨r0,r1,r2,r3⟩,z0,z1,z2,z3⟩:=HM.out.ans.all;go_wp2_with fail
    go_region
    all_goals
     obtain ⟨hE,hB,hO⟩:=HM.out.fail (.slice Bp BE Bq) (.slice Br Bs Bt) (.int .i64 (q2:Int)) (.int .i64 ((d:Int)+1)) (g:=w7.heap.size) rfl;obtain ⟨⟨e0,e1,e2,e3⟩,-⟩:=hE.all;go_wp2
     exact bodyPost_ret (v:= .tuple #[.slice (some ⟨w7.heap.size,0,none⟩) 0 0, .agg #[.slice Bp BE Bq, .slice Br Bs Bt, .int .i64 (q2:Int), .int .i64 ((d:Int)+1)], .bool false]) (by simp [results,Tryz.results150,go_sem,e0,e1,e2,e3]) rfl
      ⟨_,_,_,[],q2,(d:Int)+1,false,⟨⟨_,_,_,rfl⟩,⟨_,_,_,rfl⟩⟩,rfl,hO,by simp only [List.length_nil];omega,CL,hB, .inr ⟨rfl,HN.out⟩⟩
   |true=>
    have Rj:=agC hc;have Pj:=bG hc;clear hc;obtain ⟨⟨h0,h1,h2,h3⟩,j0,j1,j2,j3⟩:=HM.out.inn.all;have Mp:=HM.out.inn.lt;have HS:=agC (HM.out.seti (.int .i64 ((q2:Int)+1)));have Rl:=agC (gy EQ.out 2 (.int .i64 ((q2:Int)+1)));clear HM EQ;go_wp2_with fail;clear h0 h1 h2 h3 j0 j1 j2 j3;refine ((show Calls Tryz.prog 150 #[.agg #[.slice _ _ _, .slice _ _ _, .int .i64 ((q2:Int)+1), .int .i64 ((d:Int)+1)]] _ _ from IH.out.choice (q2+1) (d+1) _ _ _ Pj (by omega) hd (HR.out.mono HS.out.below))).mono ?_;rintro e w9 ⟨v3,W3,K3,l3,q3,d3,VM,⟨⟨GV,GW,GX,rfl⟩,⟨GY,GZ,G0,rfl⟩⟩,rfl,CQ,TY,Kq,Dh,Mv⟩;have KF:=agC (HS.out.later Dh);have Rm:=agC (cL (cD Rl.out Dh) (g:=w3.heap.size) (by omega) (.slice GV GW GX) (.slice GY GZ G0) (.int .i64 (q3:Int)) (.int .i64 d3));have Rn:=agC (cL (CQ.mono (base':=w3.heap.size+1) HS.out.inn.lt) (g:=w3.heap.size) (by omega) (.slice GV GW GX) (.slice GY GZ G0) (.int .i64 (q3:Int)) (.int .i64 d3));have HT:=agC (KF.out.over4 (.slice GV GW GX) (.slice GY GZ G0) (.int .i64 (q3:Int)) (.int .i64 d3));clear CQ Dh HS Rl Mp;obtain ⟨⟨h0,h1,h2,h3⟩,j0,j1,j2,j3⟩:=KF.out.inn.all;have Mp:=KF.out.inn.lt
    have Rk:w.heap.size+1<w9.heap.size:=by omega
    have n9: ¬w.heap.size+1=w9.heap.size:=by omega
    rcases Mv with ⟨rfl,hW,hK,Dw,hrd3⟩|⟨rfl,Ki⟩
    rotate_left
    ·have HN:=agC (qF AT.out HQ.out E8.out Ki)
     clear Ki;obtain ⟨⟨r0,r1,r2,r3⟩,z0,z1,z2,z3⟩:=KF.out.ans.all;go_wp2_with fail
     go_region
     all_goals
      obtain ⟨hE,hB,hO⟩:=HT.out.fail (.slice GV GW GX) (.slice GY GZ G0) (.int .i64 (q3:Int)) (.int .i64 d3) (g:=w9.heap.size) (by simp [World.setCell]);obtain ⟨⟨e0,e1,e2,e3⟩,-⟩:=hE.all;go_wp2
      exact bodyPost_ret (v:= .tuple #[.slice (some ⟨w9.heap.size,0,none⟩) 0 0, .agg #[.slice GV GW GX, .slice GY GZ G0, .int .i64 (q3:Int), .int .i64 d3], .bool false]) (by simp [results,Tryz.results150,go_sem,e0,e1,e2,e3]) rfl
       ⟨_,_,_,[],q3,d3,false,⟨⟨_,_,_,rfl⟩,⟨_,_,_,rfl⟩⟩,rfl,hO,by simp only [List.length_nil];omega,Kq,hB, .inr ⟨rfl,HN.out⟩⟩
    ·simp only [Value.slice.injEq] at hW hK
     obtain ⟨rfl,rfl,rfl⟩:=hW;obtain ⟨rfl,rfl,rfl⟩:=hK
     replace Dw:d3=(d:Int)+1:=Dw
     subst Dw;have Pk:=agC hrd3;clear hrd3
     have Ab:w.heap.size<w9.heap.size:=by omega
     obtain ⟨⟨s0,s1,s2,s3⟩,-⟩:=KF.out.st.all;have HU:=agC (HT.out.seti3 (.int .i64 (d:Int)));have Mq:=agC (gy Rm.out 3 (.int .i64 (d:Int)));have Mr:=agC (gy Rn.out 3 (.int .i64 (d:Int)));clear KF HT Rm Rn
     have Au:((((((w9.setCell ⟨w3.heap.size,0,none⟩ (.slice GV GW GX)).setCell ⟨w3.heap.size,1,none⟩ (.slice GY GZ G0)).setCell ⟨w3.heap.size,2,none⟩ (.int .i64 (q3:Int))).setCell ⟨w3.heap.size,3,none⟩ (.int .i64 ((d:Int)+1))).setCell ⟨w3.heap.size,3,none⟩ (.int .i64 (d:Int)))).heap.size=w9.heap.size:=by simp [World.setCell]
     go_wp2_with (at_builtin;refine du rfl _ _ 30 rfl w9.heap.size 110 i0 (.agg #[.int .i64 0, .string ByteArray.empty, .int .i64 0]) 3 32 Tryz.underlying30 hi Az Ax AC rfl (by decide) _ 1 [.int .i64 9, .string ⟨#[]⟩, .int .i64 3] rfl (rg Au) _ _ l.length (ai l) rfl (HU.out.own.alloc _) (bU _) (by unfold maxLen;omega) (by omega) (by simp [World.setCell]) ?_;intro Np Is AZ AH;have Cf:=mA Au AH;have Ms:w9.heap.size≤Is.heap.size:=Nat.le_trans (Nat.le_of_eq Au.symm) Cf.size;have C3:=agC AZ;have HV:=agC (HU.out.later Cf);have E9:=agC (cD Mq.out Cf);have Pl:=agC (cD Mr.out Cf);clear AZ AH Cf)
     have hv2: ∀x,v2.ownBlock=some x→x<w9.heap.size:=fun x hx=>by have:=(Mq.out.lt x hx).2;rw [Au] at this;exact this
     have TP: ∀x,v3.ownBlock=some x→x<w9.heap.size:=fun x hx=>by have:=(Mr.out.lt x hx).2;rw [Au] at this;exact this
     have DB:l.length+l2.length+l3.length≤20000:=by omega
     obtain ⟨⟨g0,g1,g2,g3⟩,-⟩:=HV.out.inn.all;clear Ab s0 s1 s2 s3 h0 h1 h2 h3 j0 j1 j2 j3;have TQ:=agC (show AftC w Is w3.heap.size (.slice GV GW GX) (.slice GY GZ G0) (.int .i64 (q3:Int)) (.int .i64 (d:Int)) from ⟨HV.out.ans,HV.out.inn,HV.out.below,HV.out.gt⟩)
     have Mt:w9.heap.size≤Is.heap.size:=by have:=HV.out.inn.lt;have:=Ms;omega
     go_region_law
      ((first
        |(refine cS (by rfl) _ _ _ (by rfl) w9.heap.size 110 i0 (.agg #[.int .i64 0, .string ByteArray.empty, .int .i64 0]) 3 32 Tryz.underlying30 hi Az Ax AC rfl (by decide) _ (1+l.length) ([.int .i64 9, .string ⟨#[]⟩, .int .i64 3]++ai l) (by rfl) C3.out.drew _ v2 l2.length (ai l2) (by rfl) E9.out.drew (bU _) (by unfold maxLen;omega) (by omega) Mt ?_;intro Nq Nd BC Bl;have GR:=afz Bl;have I0:=agC (TQ.out.app GR C3.out Mp);have Pm:=agC (zW Pl.out TP C3.out GR);obtain ⟨⟨b0,b1,b2,b3⟩,-⟩:=I0.out.inn.all)
        |(refine cS (by rfl) _ _ _ (by rfl) w9.heap.size 110 i0 (.agg #[.int .i64 0, .string ByteArray.empty, .int .i64 0]) 3 32 Tryz.underlying30 hi Az Ax AC rfl (by decide) _ (1+l.length+l2.length) (([.int .i64 9, .string ⟨#[]⟩, .int .i64 3]++ai l)++ai l2) (by rfl) BC _ v3 l3.length (ai l3) (by rfl) Pm.out (bU _) (by unfold maxLen;omega) (by omega) (Nat.le_trans Mt GR.size) ?_;intro Rp VN G4 Fy;have Fx:=agC (I0.out.app Fy BC Mp);obtain ⟨⟨c0,c1,c2,c3⟩,-⟩:=Fx.out.inn.all;obtain ⟨⟨r0,r1,r2,r3⟩,z0,z1,z2,z3⟩:=Fx.out.ans.all)))
     all_goals
      have D1:=agC (zX G4);clear G4 Fy;have hE:=Fx.out.ans.put4 (.slice GV GW GX) (.slice GY GZ G0) (.int .i64 (q3:Int)) (.int .i64 (d:Int));obtain ⟨⟨e0,e1,e2,e3⟩,-⟩:=hE.all;have I1:=agC (br Fx.out.below (g:=w.heap.size+1) (by omega) (.slice GV GW GX) (.slice GY GZ G0) (.int .i64 (q3:Int)) (.int .i64 (d:Int)));have Ib:=agC ((cL D1.out (g:=w.heap.size+1) Rk (.slice GV GW GX) (.slice GY GZ G0) (.int .i64 (q3:Int)) (.int .i64 (d:Int))).mono (base':=w.heap.size) (by omega));go_wp2
      exact bodyPost_ret (v:= .tuple #[Rp, .agg #[.slice GV GW GX, .slice GY GZ G0, .int .i64 (q3:Int), .int .i64 (d:Int)], .bool true]) (by simp [results,Tryz.results150,go_sem,e0,e1,e2,e3]) rfl
       ⟨Rp,_,_,(9,⟨#[]⟩,3)::(l++(l2++l3)),q3,(d:Int),true,⟨⟨_,_,_,rfl⟩,⟨_,_,_,rfl⟩⟩,rfl,Ib.out,by simp only [List.length_cons,agE];omega,Kq,I1.out, .inl ⟨rfl,rfl,rfl,rfl, .three hd AT.out HQ.out E8.out Rj.out Pk.out⟩⟩
 ·have HN:=agC (lc hn)
  clear hn;obtain ⟨⟨s0,s1,s2,s3⟩,-⟩:=HI.out.st.all
  have n1: ¬w3.heap.size=w.heap.size+1:=by omega
  have n2: ¬w.heap.size+1=w3.heap.size:=by omega
  have n3: ¬w.heap.size=w3.heap.size:=by omega
  have l1:w.heap.size+1<w3.heap.size:=by omega
  have l2:w.heap.size<w3.heap.size:=by omega
  have c3:w3.cell? ⟨w.heap.size,3,none⟩=some (.int .i64 ((d:Int)+1)):=by
   rw [←s3];exact (((Below.refl w3.heap.size w3).alloc (agD _) _).cell (p:=⟨w.heap.size,3,none⟩) l2).symm
  obtain ⟨⟨r0,r1,r2,r3⟩,z0,z1,z2,z3⟩:=HB.out.all;go_wp2_with fail
  go_region
  all_goals
   have hE:=((HB.out.put4 (.slice aw nw cw) (.slice ak nk ck) (.int .i64 (q:Int)) (.int .i64 (d:Int))).alloc (.cells #[.slice aw nw cw, .slice ak nk ck, .int .i64 (q:Int), .int .i64 (d:Int)] 156)).drew;obtain ⟨⟨e0,e1,e2,e3⟩,-⟩:=hE.all;have Mn:=br Ap.out (g:=w.heap.size+1) (by omega) (.slice aw nw cw) (.slice ak nk ck) (.int .i64 (q:Int)) (.int .i64 (d:Int));have hB:=Mn.alloc Mn.size (.cells #[.slice aw nw cw, .slice ak nk ck, .int .i64 (q:Int), .int .i64 (d:Int)] 156);have hO:=((cL BY.out (g:=w.heap.size+1) (by omega) (.slice aw nw cw) (.slice ak nk ck) (.int .i64 (q:Int)) (.int .i64 (d:Int))).mono (base':=w.heap.size) (by omega)).alloc (.cells #[.slice aw nw cw, .slice ak nk ck, .int .i64 (q:Int), .int .i64 (d:Int)] 156);go_wp2
   exact bodyPost_ret (v:= .tuple #[v, .agg #[.slice aw nw cw, .slice ak nk ck, .int .i64 (q:Int), .int .i64 (d:Int)], .bool false]) (by simp [results,Tryz.results150,go_sem,e0,e1,e2,e3]) rfl
    ⟨v,_,_,l,q,(d:Int),false,⟨⟨_,_,_,rfl⟩,⟨_,_,_,rfl⟩⟩,rfl,hO.drew,DG,hq,hB.drew, .inr ⟨rfl,HN.out⟩⟩
def LvI (tk:List Tk) (r p d:Nat) (W K:Value) (w:World) (G:Nat) (va vok vm:Value) (wr:World):Prop:=
 ∃(l:List Cl) (n q:Nat) (d':Int) (aw:Option Addr) (nw cw:Nat) (ak:Option Addr) (nk ck:Nat) (ok:Bool),vok= .bool ok∧vm= .int .i64 (n:Int)∧n+p≤q∧l.length+p≤q∧q≤tk.length∧
  ChI w wr G W K (.int .i64 (p:Int)) (.int .i64 (d:Int)) (.slice aw nw cw) (.slice ak nk ck) (.int .i64 (q:Int)) (.int .i64 d') va l∧
  ((ok=true∧ .slice aw nw cw=W∧ .slice ak nk ck=K∧d'=(d:Int)∧Through tk r p d n l q)∨(ok=false∧NoRd tk (.level r) p d))
theorem wG (r n:Nat) (h4:r≠4∨n=0):(((r:Int) !=4)=true∧((r:Int)==4)=false∧((n:Int)==(n:Int))=true)∨(((r:Int) !=4)=false∧((r:Int)==4)=true∧((n:Int)==0)=true):=by
 by_cases Bg:r=4
 ·have hn:n=0:=by omega
  subst Bg;subst hn
  right;exact ⟨rfl,rfl,rfl⟩
 ·left;exact ⟨by simp;omega,by simp;omega,by simp⟩
theorem xV {w:World} {B:Nat} {v:Value} {k:Int} {s:ByteArray} {n:Int} {l l2:List Cl} (h:w.ownsRow B 110 3 v (1+l.length+l2.length) (([.int .i64 k, .string s, .int .i64 n]++ai l)++ai l2)):
  w.ownsRow B 110 3 v ((k,s,n)::(l++l2)).length (ai ((k,s,n)::(l++l2))):=by
 have e:ai ((k,s,n)::(l++l2))=([.int .i64 k, .string s, .int .i64 n]++ai l)++ai l2:=by
  rw [List.append_assoc,←dt];rfl
 have e2:((k,s,n)::(l++l2)).length=1+l.length+l2.length:=by simp only [List.length_cons,agE];omega
 rw [e,e2];exact h
theorem oy {w:World} {B n:Nat} {e:TypeId} {sz:Nat} {v:Value} {xs:List Value} (h:w.ownsRow B e sz v n xs): ∃a c,v= .slice a n c:=by
 rcases h.2 with ⟨rfl,rfl⟩|⟨g,cap,cur,rfl,-⟩
 ·exact ⟨_,_,rfl⟩
 ·exact ⟨_,_,rfl⟩
theorem ChI.apps {w w4 w5:World} {G B m:Nat} {a0 a1 a2 a3 i0 i1 i2 i3 v u v':Value} {l l':List Cl} {e:TypeId} {sz:Nat} {ys:List Value} (h:ChI w w4 G a0 a1 a2 a3 i0 i1 i2 i3 v l) (hg:w4.grownBy w5 u.ownBlock) (hu:w4.ownsRow B e sz u m ys) (hB:G<B)
  (ho:w5.ownsRow B 110 3 v' l'.length (ai l')) (Cv:w.heap.size+2≤B):ChI w w5 G a0 a1 a2 a3 i0 i1 i2 i3 v' l':=by
 have KE:=h.gt;refine ⟨h.st.grown hg (fun he=> ?_),h.ans.grown hg (fun he=> ?_),h.inn.grown hg (fun he=> ?_),h.below.grown hg h.below.size (fun q hq=> ?_),ho.mono Cv,fun he=> ?_,h.gt⟩
 ·have:=(hu.lt _ he.symm).1;omega
 ·have:=(hu.lt _ he.symm).1;omega
 ·have:=(hu.lt _ he.symm).1;omega
 ·have:=(hu.lt _ hq).1;omega
 ·have:=(ho.lt _ he).1;omega
theorem aeg {tk:List Tk} {q r:Nat} (h:rkT tk q=(r:Int)) (hr:1≤r): ∃s,tk[q]? =some (4,s):=by
 unfold rkT at h
 split at h
 ·rename_i k s hs
  by_cases hk:k=4
  ·subst hk;exact ⟨s,hs⟩
  ·rw [if_neg hk] at h;omega
 ·omega
theorem aeh {tk:List Tk} {q:Nat} {k:Int} {s:ByteArray} (h:tk[q]? =some (k,s)) (hq:q<tk.length):tk[q].2=s:=by
 rw [List.getElem?_eq_getElem hq] at h;injection h with h;rw [h]
theorem ChI.last {w w4:World} {G:Nat} {a0 a1 a2 a3 i0 i1 i2 i3 v:Value} {l:List Cl} (h:ChI w w4 G a0 a1 a2 a3 i0 i1 i2 i3 v l) (x0 x1 x2 x3:Value):
  BlkS ((((w4.setCell ⟨w.heap.size+1,0,none⟩ x0).setCell ⟨w.heap.size+1,1,none⟩ x1).setCell ⟨w.heap.size+1,2,none⟩ x2).setCell ⟨w.heap.size+1,3,none⟩ x3) (w.heap.size+1) #[x0,x1,x2,x3]∧
  Below w.heap.size w ((((w4.setCell ⟨w.heap.size+1,0,none⟩ x0).setCell ⟨w.heap.size+1,1,none⟩ x1).setCell ⟨w.heap.size+1,2,none⟩ x2).setCell ⟨w.heap.size+1,3,none⟩ x3)∧
  ((((w4.setCell ⟨w.heap.size+1,0,none⟩ x0).setCell ⟨w.heap.size+1,1,none⟩ x1).setCell ⟨w.heap.size+1,2,none⟩ x2).setCell ⟨w.heap.size+1,3,none⟩ x3).ownsRow w.heap.size 110 3 v l.length (ai l):=
 ⟨h.ans.put4 x0 x1 x2 x3,br h.below (by omega) x0 x1 x2 x3,(cL h.own (g:=w.heap.size+1) (by omega) x0 x1 x2 x3).mono (by omega)⟩
theorem wH (tk:List Tk) (N:Nat) (ih:AllR tk N) (AP:tk.length≤20000) (r p d:Nat) (W K:Value) (w:World) (AM:2≤r) (EI:r<7) (hp:p≤tk.length) (hN:10*(tk.length-p)+(8-r)≤N) (hd:d≤41) (hr:RowTk w W K tk):
  Calls Tryz.prog 177 #[StV W K p d, .int .i64 (r:Int)] w (dJ tk (.level r) p d W K w):=by
 obtain ⟨i0,hi,Az,Ax,AC⟩:=info_parts f5;obtain ⟨⟨xa,xn,xc,rfl⟩,⟨ya,yn,yc,rfl⟩⟩:=hr.sl;have HR:=agC hr;have IH:=agC ih;obtain ⟨⟨ao,cap,hv,q1,q2,q3⟩,-⟩:=hr;simp only [Value.slice.injEq] at hv;obtain ⟨rfl,rfl,rfl⟩:=hv;unfold maxLen at q2;have H3:=agC q3;clear ih q3
 have TR:((r:Int)==7)=false:=by simp;omega
 have Eg:(r:Int)<7:=by omega
 have TS:2≤(r:Int):=by omega
 go_enter Tryz.func177,Tryz.ntmps177
 go_wp2_with fail;have B0:=agC (Begun.start w (.slice xa tk.length xc) (.slice ya yn yc) p d);refine ((show Calls Tryz.prog 177 #[.agg #[.slice xa tk.length xc, .slice ya yn yc, .int .i64 (p:Int), .int .i64 (d:Int)], .int .i64 ((r:Int)+1)] _ _ from IH.out.level (r+1) p d _ _ _ (by omega) (by omega) hp (by omega) hd (HR.out.mono B0.out.2.2))).mono ?_;rintro e w3 ⟨v,W',K',l,q,d',ok,⟨⟨aw,nw,cw,rfl⟩,⟨ak,nk,ck,rfl⟩⟩,rfl,ho,DG,hq,Ag,Am⟩;have HI:=agC (ChI.first rfl Ag ho (.slice aw nw cw) (.slice ak nk ck) (.int .i64 (q:Int)) (.int .i64 d'));have B6:=agC Am;have KE:=HI.out.gt;clear ho Ag B0 Am;go_wp2_with fail
 go_loopw [7,9,10] (fun va vok vm wr=>LvI tk r p d (.slice xa tk.length xc) (.slice ya yn yc) w w3.heap.size va vok vm wr) (fun _ _ m _=>20001-(intOf m).toNat)
 case atStart=>
  refine ⟨l,0,q,d',aw,nw,cw,ak,nk,ck,ok,rfl,rfl,by omega,DG,hq,HI.out, ?_⟩;exact B6.out.elim (fun ⟨a,b,c,e,f⟩=> .inl ⟨a,b,c,e,Through.start EI f⟩) (fun ⟨a,b⟩=> .inr ⟨a,aaT EI b⟩)
 case round=>
  clear HI B6 DG hq;obtain ⟨l,n,q,d',aw,nw,cw,ak,nk,ck,ok,rfl,rfl,Rq,DG,hq,Nr,Am⟩:=hrel;have HC:=agC Nr;clear Nr
  have n1: ¬w3.heap.size=w.heap.size+1:=by omega
  have n2: ¬w.heap.size+1=w3.heap.size:=by omega
  obtain ⟨⟨g0,g1,g2,g3⟩,y0,y1,y2,y3⟩:=HC.out.inn.all
  cases ok with
  |false=>
   have HN:=agC (Am.elim (fun ⟨a,_⟩=>by cases a) (fun ⟨_,b⟩=>b));clear Am;obtain ⟨⟨r0,r1,r2,r3⟩,z0,z1,z2,z3⟩:=HC.out.ans.all;go_wp2_with fail
   go_region
   all_goals
    obtain ⟨hE,hB,hO⟩:=HC.out.last (.slice aw nw cw) (.slice ak nk ck) (.int .i64 (q:Int)) (.int .i64 d');obtain ⟨⟨e0,e1,e2,e3⟩,-⟩:=hE.all;go_wp2
    exact bodyPost_ret (v:= .tuple #[u7, .agg #[.slice aw nw cw, .slice ak nk ck, .int .i64 (q:Int), .int .i64 d'], .bool false]) (by simp [results,Tryz.results177,go_sem,e0,e1,e2,e3]) rfl
     ⟨u7,_,_,l,q,d',false,⟨⟨_,_,_,rfl⟩,⟨_,_,_,rfl⟩⟩,rfl,hO.drew,DG,hq,hB.drew, .inr ⟨rfl,HN.out⟩⟩
  |true=>
   obtain ⟨-,hW,hK,Dw,Rr⟩:=Am.resolve_right (fun h=>by cases h.1);simp only [Value.slice.injEq] at hW hK;obtain ⟨rfl,rfl,rfl⟩:=hW;obtain ⟨rfl,rfl,rfl⟩:=hK;subst Dw;have Gc:=agC Rr;clear Am Rr;go_wp2_with fail;refine ((show Calls Tryz.prog 199 #[.agg #[.slice _ _ _, .slice _ _ _, .int .i64 (q:Int), .int .i64 (d:Int)]] _ _ from wE _ _ tk q d _ (HR.out.mono HC.out.below) (by omega))).mono ?_;rintro e w4 ⟨rfl,As⟩;have HD:=agC (HC.out.later As);clear As HC g0 g1 g2 g3 y0 y1 y2 y3;obtain ⟨⟨g0,g1,g2,g3⟩,y0,y1,y2,y3⟩:=HD.out.inn.all
   by_cases hk:rkT tk q=(r:Int)
   ·rw [hk]
    by_cases h4:r≠4∨n=0
    ·have HK:=agC hk
     obtain ⟨s,hs⟩:=aeg hk (by omega);have Mu:=df hs;obtain ⟨b,rfl,Av,cc⟩:=H3.out.resolve_left (by rintro rfl;simp at Mu);have c0:=cc q Mu;have HS:=agC hs;rw [aeh hs Mu] at c0;have Nm:w4.cell? ⟨b,q,none⟩=some (.string s):=(HD.out.below.cell (p:=⟨b,q,none⟩) Av).trans c0
     have NU:(q:Int)<(tk.length:Int):=by omega
     have H4:=agC h4;have VL:=HD.out.inn.lt;have HE:=agC (HD.out.seti (.int .i64 ((q:Int)+1)));have Nn:=wG r n h4;clear hk hs cc c0 h4
     rcases Nn with ⟨h4a,h4b,h4c⟩|⟨h4a,h4b,h4c⟩
     ·go_wp2_with fail
      refine ((show Calls Tryz.prog 177 #[.agg #[.slice _ _ _, .slice _ _ _, .int .i64 ((q:Int)+1), .int .i64 (d:Int)], .int .i64 ((r:Int)+1)] _ _ from IH.out.level (r+1) (q+1) d _ _ _ (by omega) (by omega) Mu (by omega) hd (HR.out.mono HE.out.below))).mono ?_;rintro e w6 ⟨v2,W2,K2,l2,q2,d2,Hf,⟨⟨Bp,BE,Bq,rfl⟩,⟨Br,Bs,Bt,rfl⟩⟩,rfl,Bu,Gh,CL,Bv,BH⟩;have HF:=agC (HE.out.later Bv);have Cc:=agC (Bu.mono (base':=w3.heap.size+1) HE.out.inn.lt);have AY:=agC BH;have FZ:w3.heap.size<w6.heap.size:=HF.out.inn.lt
      have JZ:(w6.alloc (.cells #[.slice Bp BE Bq, .slice Br Bs Bt, .int .i64 (q2:Int), .int .i64 d2] 156)).heap.size=w6.heap.size+1:=by simp
      have BK:Below w6.heap.size w6 (w6.alloc (.cells #[.slice Bp BE Bq, .slice Br Bs Bt, .int .i64 (q2:Int), .int .i64 d2] 156)):=(Below.refl _ _).alloc (agD _) _;have HG:=agC (HF.out.later BK);have GS:=agC (BlkS.new w6 #[.slice Bp BE Bq, .slice Br Bs Bt, .int .i64 (q2:Int), .int .i64 d2]);have BY:=agC (cD Cc.out BK)
      have DB:l.length+l2.length≤20000:=by omega
      clear Bu Bv BH HE HF Cc g0 g1 g2 g3 y0 y1 y2 y3 BK
      go_wp2_with (at_builtin;refine du rfl _ _ 30 rfl (w6.heap.size+1) 110 i0 (.agg #[.int .i64 0, .string ByteArray.empty, .int .i64 0]) 3 32 Tryz.underlying30 hi Az Ax AC rfl (by decide) _ 1 [.int .i64 8, .string s, .int .i64 2] rfl (rg JZ) _ _ l.length (ai l) rfl (HG.out.own.alloc _) (bU _) (by unfold maxLen;omega) (by omega) (by simp) ?_)
      intro Np Is AZ AH;have Cf:=mA JZ AH;have J0:w6.heap.size+1≤Is.heap.size:=Nat.le_trans (Nat.le_of_eq JZ.symm) Cf.size;have C3:=agC AZ;have HV:=agC (HG.out.later Cf);have GT:=agC (GS.out.below Cf);have E9:=agC (cD BY.out Cf);clear AZ AH Cf HG GS BY
      go_wp2_with (at_builtin;refine du rfl _ _ 30 rfl (w6.heap.size+1) 110 i0 (.agg #[.int .i64 0, .string ByteArray.empty, .int .i64 0]) 3 32 Tryz.underlying30 hi Az Ax AC rfl (by decide) _ (1+l.length) _ rfl C3.out _ _ l2.length (ai l2) rfl E9.out (bU _) (by unfold maxLen;omega) (by omega) J0 ?_)
      intro Nq Nd BC Bl;have HW:=agC (ChI.apps HV.out Bl C3.out (by omega) (xV BC) (by omega));have Fa:=agC (GT.out.grown Bl (fun he=>by have:=(C3.out.lt _ he.symm).1;omega));have D1:=agC BC;clear BC Bl C3 HV GT E9
      obtain ⟨m,hm⟩: ∃m,m=1+l.length+l2.length:=⟨_,rfl⟩
      obtain ⟨Ns,TZ,rfl⟩: ∃a c,Nq= .slice a m c:=by rw [hm];exact oy D1.out
      clear D1;obtain ⟨⟨g0,g1,g2,g3⟩,y0,y1,y2,y3⟩:=HW.out.inn.all;obtain ⟨⟨x0,x1,x2,x3⟩,-⟩:=Fa.out.all
      have At: ¬w6.heap.size=w3.heap.size:=by omega
      have FM: ¬w3.heap.size=w6.heap.size:=by omega
      cases Hf with
      |false=>
       have EY:=agC (AY.out.elim (fun ⟨a,_⟩=>by cases a) (fun ⟨_,b⟩=>b));have HZ:=agC (HW.out.over4 (.slice Bp BE Bq) (.slice Br Bs Bt) (.int .i64 (q2:Int)) (.int .i64 d2));clear AY;go_wp2;go_roundw
       case rel=>exact ⟨(8,s,2)::(l++l2),n+1,q2,d2,Bp,BE,Bq,Br,Bs,Bt,false,rfl,by go_num,by omega,by simp only [List.length_cons,agE];omega,CL,HZ.out, .inr ⟨rfl,Gc.out.fail HK.out H4.out EY.out⟩⟩
       case measure=>simp [intOf];omega
      |true=>
       obtain ⟨-,hW,hK,hd2,BW⟩:=AY.out.resolve_right (fun h=>by cases h.1);have Ca:=agC (Gc.out.next HK.out H4.out HS.out BW);have HZ:=agC (HW.out.over4 (.slice Bp BE Bq) (.slice Br Bs Bt) (.int .i64 (q2:Int)) (.int .i64 d2));have GU:=agC (And.intro hW (And.intro hK hd2));clear AY hW hK hd2 BW
       by_cases Ci:m≤60
       ·have Fb:1+(l.length:Int)+(l2.length:Int)≤60:=by omega
        go_wp2;go_roundw
        case rel=>exact ⟨(8,s,2)::(l++l2),n+1,q2,d2,Bp,BE,Bq,Br,Bs,Bt,true,by first|rfl|rw [decide_eq_true Fb],by go_num,by omega,by simp only [List.length_cons,agE];omega,CL,HZ.out, .inl ⟨rfl,GU.out.1,GU.out.2.1,GU.out.2.2,Ca.out⟩⟩
        case measure=>simp [intOf];omega
       ·have Fb: ¬1+(l.length:Int)+(l2.length:Int)≤60:=by omega
        go_wp2;go_roundw
        case rel=>exact ⟨(8,s,2)::(l++l2),n+1,q2,d2,Bp,BE,Bq,Br,Bs,Bt,false,by first|rfl|rw [decide_eq_false Fb],by go_num,by omega,by simp only [List.length_cons,agE];omega,CL,HZ.out, .inr ⟨rfl,Ca.out.long (by simp only [List.length_cons,agE];omega)⟩⟩
        case measure=>simp [intOf];omega
     ·go_wp2_with fail
      refine ((show Calls Tryz.prog 177 #[.agg #[.slice _ _ _, .slice _ _ _, .int .i64 ((q:Int)+1), .int .i64 (d:Int)], .int .i64 ((r:Int)+1)] _ _ from IH.out.level (r+1) (q+1) d _ _ _ (by omega) (by omega) Mu (by omega) hd (HR.out.mono HE.out.below))).mono ?_;rintro e w6 ⟨v2,W2,K2,l2,q2,d2,Hf,⟨⟨Bp,BE,Bq,rfl⟩,⟨Br,Bs,Bt,rfl⟩⟩,rfl,Bu,Gh,CL,Bv,BH⟩;have HF:=agC (HE.out.later Bv);have Cc:=agC (Bu.mono (base':=w3.heap.size+1) HE.out.inn.lt);have AY:=agC BH;have FZ:w3.heap.size<w6.heap.size:=HF.out.inn.lt
      have JZ:(w6.alloc (.cells #[.slice Bp BE Bq, .slice Br Bs Bt, .int .i64 (q2:Int), .int .i64 d2] 156)).heap.size=w6.heap.size+1:=by simp
      have BK:Below w6.heap.size w6 (w6.alloc (.cells #[.slice Bp BE Bq, .slice Br Bs Bt, .int .i64 (q2:Int), .int .i64 d2] 156)):=(Below.refl _ _).alloc (agD _) _;have HG:=agC (HF.out.later BK);have GS:=agC (BlkS.new w6 #[.slice Bp BE Bq, .slice Br Bs Bt, .int .i64 (q2:Int), .int .i64 d2]);have BY:=agC (cD Cc.out BK)
      have DB:l.length+l2.length≤20000:=by omega
      clear Bu Bv BH HE HF Cc g0 g1 g2 g3 y0 y1 y2 y3 BK
      go_wp2_with (at_builtin;refine du rfl _ _ 30 rfl (w6.heap.size+1) 110 i0 (.agg #[.int .i64 0, .string ByteArray.empty, .int .i64 0]) 3 32 Tryz.underlying30 hi Az Ax AC rfl (by decide) _ 1 [.int .i64 8, .string s, .int .i64 2] rfl (rg JZ) _ _ l.length (ai l) rfl (HG.out.own.alloc _) (bU _) (by unfold maxLen;omega) (by omega) (by simp) ?_)
      intro Np Is AZ AH;have Cf:=mA JZ AH;have J0:w6.heap.size+1≤Is.heap.size:=Nat.le_trans (Nat.le_of_eq JZ.symm) Cf.size;have C3:=agC AZ;have HV:=agC (HG.out.later Cf);have GT:=agC (GS.out.below Cf);have E9:=agC (cD BY.out Cf);clear AZ AH Cf HG GS BY
      go_wp2_with (at_builtin;refine du rfl _ _ 30 rfl (w6.heap.size+1) 110 i0 (.agg #[.int .i64 0, .string ByteArray.empty, .int .i64 0]) 3 32 Tryz.underlying30 hi Az Ax AC rfl (by decide) _ (1+l.length) _ rfl C3.out _ _ l2.length (ai l2) rfl E9.out (bU _) (by unfold maxLen;omega) (by omega) J0 ?_)
      intro Nq Nd BC Bl;have HW:=agC (ChI.apps HV.out Bl C3.out (by omega) (xV BC) (by omega));have Fa:=agC (GT.out.grown Bl (fun he=>by have:=(C3.out.lt _ he.symm).1;omega));have D1:=agC BC;clear BC Bl C3 HV GT E9
      obtain ⟨m,hm⟩: ∃m,m=1+l.length+l2.length:=⟨_,rfl⟩
      obtain ⟨Ns,TZ,rfl⟩: ∃a c,Nq= .slice a m c:=by rw [hm];exact oy D1.out
      clear D1;obtain ⟨⟨g0,g1,g2,g3⟩,y0,y1,y2,y3⟩:=HW.out.inn.all;obtain ⟨⟨x0,x1,x2,x3⟩,-⟩:=Fa.out.all
      have At: ¬w6.heap.size=w3.heap.size:=by omega
      have FM: ¬w3.heap.size=w6.heap.size:=by omega
      cases Hf with
      |false=>
       have EY:=agC (AY.out.elim (fun ⟨a,_⟩=>by cases a) (fun ⟨_,b⟩=>b));have HZ:=agC (HW.out.over4 (.slice Bp BE Bq) (.slice Br Bs Bt) (.int .i64 (q2:Int)) (.int .i64 d2));clear AY;go_wp2;go_roundw
       case rel=>exact ⟨(8,s,2)::(l++l2),n+1,q2,d2,Bp,BE,Bq,Br,Bs,Bt,false,rfl,by go_num,by omega,by simp only [List.length_cons,agE];omega,CL,HZ.out, .inr ⟨rfl,Gc.out.fail HK.out H4.out EY.out⟩⟩
       case measure=>simp [intOf];omega
      |true=>
       obtain ⟨-,hW,hK,hd2,BW⟩:=AY.out.resolve_right (fun h=>by cases h.1);have Ca:=agC (Gc.out.next HK.out H4.out HS.out BW);have HZ:=agC (HW.out.over4 (.slice Bp BE Bq) (.slice Br Bs Bt) (.int .i64 (q2:Int)) (.int .i64 d2));have GU:=agC (And.intro hW (And.intro hK hd2));clear AY hW hK hd2 BW
       by_cases Ci:m≤60
       ·have Fb:1+(l.length:Int)+(l2.length:Int)≤60:=by omega
        go_wp2;go_roundw
        case rel=>exact ⟨(8,s,2)::(l++l2),n+1,q2,d2,Bp,BE,Bq,Br,Bs,Bt,true,by first|rfl|rw [decide_eq_true Fb],by go_num,by omega,by simp only [List.length_cons,agE];omega,CL,HZ.out, .inl ⟨rfl,GU.out.1,GU.out.2.1,GU.out.2.2,Ca.out⟩⟩
        case measure=>simp [intOf];omega
       ·have Fb: ¬1+(l.length:Int)+(l2.length:Int)≤60:=by omega
        go_wp2;go_roundw
        case rel=>exact ⟨(8,s,2)::(l++l2),n+1,q2,d2,Bp,BE,Bq,Br,Bs,Bt,false,by first|rfl|rw [decide_eq_false Fb],by go_num,by omega,by simp only [List.length_cons,agE];omega,CL,HZ.out, .inr ⟨rfl,Ca.out.long (by simp only [List.length_cons,agE];omega)⟩⟩
        case measure=>simp [intOf];omega
    ·have Bg:r=4:=by omega
     have Ch:n≠0:=by omega
     subst Bg
     have Kl:((n:Int)==0)=false:=by simp;omega
     obtain ⟨⟨r0,r1,r2,r3⟩,z0,z1,z2,z3⟩:=HD.out.ans.all;go_wp2_with fail
     go_region
     all_goals
      obtain ⟨hE,hB,hO⟩:=HD.out.last (.slice aw tk.length cw) (.slice ak nk ck) (.int .i64 (q:Int)) (.int .i64 (d:Int));obtain ⟨⟨e0,e1,e2,e3⟩,-⟩:=hE.all;go_wp2
      exact bodyPost_ret (v:= .tuple #[u7, .agg #[.slice aw tk.length cw, .slice ak nk ck, .int .i64 (q:Int), .int .i64 (d:Int)], .bool true]) (by simp [results,Tryz.results177,go_sem,e0,e1,e2,e3]) rfl
       ⟨u7,_,_,l,q,(d:Int),true,⟨⟨_,_,_,rfl⟩,⟨_,_,_,rfl⟩⟩,rfl,hO.drew,DG,hq,hB.drew, .inl ⟨rfl,rfl,rfl,rfl,Gc.out.done (.inr ⟨rfl,Ch⟩)⟩⟩
   ·have MX:(rkT tk q==(r:Int))=false:=beq_eq_false_iff_ne.mpr hk
    obtain ⟨⟨r0,r1,r2,r3⟩,z0,z1,z2,z3⟩:=HD.out.ans.all;go_wp2_with fail
    go_region
    all_goals
     obtain ⟨hE,hB,hO⟩:=HD.out.last (.slice aw tk.length cw) (.slice ak nk ck) (.int .i64 (q:Int)) (.int .i64 (d:Int));obtain ⟨⟨e0,e1,e2,e3⟩,-⟩:=hE.all;go_wp2
     exact bodyPost_ret (v:= .tuple #[u7, .agg #[.slice aw tk.length cw, .slice ak nk ck, .int .i64 (q:Int), .int .i64 (d:Int)], .bool true]) (by simp [results,Tryz.results177,go_sem,e0,e1,e2,e3]) rfl
      ⟨u7,_,_,l,q,(d:Int),true,⟨⟨_,_,_,rfl⟩,⟨_,_,_,rfl⟩⟩,rfl,hO.drew,DG,hq,hB.drew, .inl ⟨rfl,rfl,rfl,rfl,Gc.out.done (.inl hk)⟩⟩
structure PtW (w wr:World) (i0 i1 i2 i3 va:Value) (l:List Cl):Prop where
 st:BlkS wr w.heap.size #[i0,i1,i2,i3]
 ans:BlkS wr (w.heap.size+1) #[.slice none 0 0, .slice none 0 0, .int .i64 0, .int .i64 0]
 below:Below w.heap.size w wr
 own:wr.ownsRow (w.heap.size+2) 110 3 va l.length (ai l)
theorem PtW.later {w wr w2:World} {i0 i1 i2 i3 va:Value} {l:List Cl} (h:PtW w wr i0 i1 i2 i3 va l) (hb:Below wr.heap.size wr w2):PtW w w2 i0 i1 i2 i3 va l:=
 ⟨h.st.below hb,h.ans.below hb,h.below.trans (hb.mono h.below.size),cD h.own hb⟩
theorem PtW.seti {w wr:World} {i0 i1 i2 i3 va:Value} {l:List Cl} (h:PtW w wr i0 i1 i2 i3 va l) (x:Value):PtW w (wr.setCell ⟨w.heap.size,2,none⟩ x) i0 i1 x i3 va l:=
 ⟨by simpa using h.st.set_ 2 x,BlkS.far h.ans (f:=w.heap.size) 2 x (by omega),h.below.setCell (p:=⟨w.heap.size,2,none⟩) (agD _) x,
  ownsRow_setCell_other h.own (a:=⟨w.heap.size,2,none⟩) (by intro he;have:=(h.own.lt _ he).1;simp only at this;omega) x⟩
theorem PtW.over4 {w wr:World} {i0 i1 i2 i3 va:Value} {l:List Cl} (h:PtW w wr i0 i1 i2 i3 va l) (x0 x1 x2 x3:Value):PtW w ((((wr.setCell ⟨w.heap.size,0,none⟩ x0).setCell ⟨w.heap.size,1,none⟩ x1).setCell ⟨w.heap.size,2,none⟩ x2).setCell ⟨w.heap.size,3,none⟩ x3) x0 x1 x2 x3 va l:=
 ⟨h.st.put4 x0 x1 x2 x3,(((BlkS.far h.ans (f:=w.heap.size) 0 x0 (by omega)).far (f:=w.heap.size) 1 x1 (by omega)).far (f:=w.heap.size) 2 x2 (by omega)).far (f:=w.heap.size) 3 x3 (by omega),br h.below (agD _) x0 x1 x2 x3,cL h.own (by omega) x0 x1 x2 x3⟩
theorem PtW.last {w w4:World} {i0 i1 i2 i3 v:Value} {l:List Cl} (h:PtW w w4 i0 i1 i2 i3 v l) (x0 x1 x2 x3:Value):
  BlkS ((((w4.setCell ⟨w.heap.size+1,0,none⟩ x0).setCell ⟨w.heap.size+1,1,none⟩ x1).setCell ⟨w.heap.size+1,2,none⟩ x2).setCell ⟨w.heap.size+1,3,none⟩ x3) (w.heap.size+1) #[x0,x1,x2,x3]∧
  Below w.heap.size w ((((w4.setCell ⟨w.heap.size+1,0,none⟩ x0).setCell ⟨w.heap.size+1,1,none⟩ x1).setCell ⟨w.heap.size+1,2,none⟩ x2).setCell ⟨w.heap.size+1,3,none⟩ x3)∧
  ((((w4.setCell ⟨w.heap.size+1,0,none⟩ x0).setCell ⟨w.heap.size+1,1,none⟩ x1).setCell ⟨w.heap.size+1,2,none⟩ x2).setCell ⟨w.heap.size+1,3,none⟩ x3).ownsRow w.heap.size 110 3 v l.length (ai l):=
 ⟨h.ans.put4 x0 x1 x2 x3,br h.below (by omega) x0 x1 x2 x3,(cL h.own (g:=w.heap.size+1) (by omega) x0 x1 x2 x3).mono (by omega)⟩
theorem PtW.apps {w w4 w5:World} {i0 i1 i2 i3 va v':Value} {l l2:List Cl} (h:PtW w w4 i0 i1 i2 i3 va l) (hg:w4.grownBy w5 va.ownBlock) (ho:w5.ownsRow (w.heap.size+2) 110 3 v' (l.length+l2.length) (ai l++ai l2)):PtW w w5 i0 i1 i2 i3 v' (l++l2):=by
 refine ⟨h.st.grown hg (fun he=> ?_),h.ans.grown hg (fun he=> ?_),h.below.grown hg h.below.size (fun q hq=> ?_), ?_⟩
 ·have:=(h.own.lt _ he.symm).1;omega
 ·have:=(h.own.lt _ he.symm).1;omega
 ·have:=(h.own.lt _ hq).1;omega
 ·rw [agE,dt];exact ho
theorem PtW.start {w:World} {i0 i1 i2 i3:Value}:PtW w (((w.alloc (.cells #[i0,i1,i2,i3] 156)).alloc (.cells #[.slice none 0 0, .slice none 0 0, .int .i64 0, .int .i64 0] 156)).alloc (.cells #[] 110)) i0 i1 i2 i3 (.slice (some ⟨w.heap.size+1+1,0,none⟩) 0 0) []:=by
 obtain ⟨hA,hB,hC,hD⟩:=cB w #[i0,i1,i2,i3] #[.slice none 0 0, .slice none 0 0, .int .i64 0, .int .i64 0];refine ⟨hA.alloc _,hB.alloc _,hC.alloc hC.size _, ?_⟩;have:=World.ownsRow_lit (e:=110) (size:=3) (base:=w.heap.size+2) ((w.alloc (.cells #[i0,i1,i2,i3] 156)).alloc (.cells #[.slice none 0 0, .slice none 0 0, .int .i64 0, .int .i64 0] 156)) #[] 0 (by omega) (by unfold maxLen;omega) rfl;rw [hD] at this;exact this
def PtI (tk:List Tk) (c:List UInt8) (p d:Nat) (W K:Value) (w:World) (va vm:Value) (wr:World):Prop:=
 ∃(l:List Cl) (n q:Nat),vm= .int .i64 (n:Int)∧p≤q∧n≤8∧l.length+p≤q∧q≤tk.length∧PtW w wr W K (.int .i64 (q:Int)) (.int .i64 (d:Int)) va l∧Among tk c p d n l q
theorem wI (tk:List Tk) (N:Nat) (ih:AllR tk N) (AP:tk.length≤20000) (p d:Nat) (c:ByteArray) (W K:Value) (w:World) (hp:p≤tk.length) (hN:10*(tk.length-p)+8≤N) (hd:d≤41) (hr:RowTk w W K tk):
  Calls Tryz.prog 234 #[StV W K p d, .string c] w (acm tk c.data.toList p d W K w):=by
 obtain ⟨i0,hi,Az,Ax,AC⟩:=info_parts f5;obtain ⟨⟨xa,xn,xc,rfl⟩,⟨ya,yn,yc,rfl⟩⟩:=hr.sl;have HR:=agC hr;have IH:=agC ih;clear hr ih
 go_enter Tryz.func234,Tryz.ntmps234
 go_wp2_with fail
 go_loopw [8,9] (fun va vm wr=>PtI tk c.data.toList p d (.slice xa xn xc) (.slice ya yn yc) w va vm wr) (fun _ m _=>20001-(intOf m).toNat)
 case atStart=>exact ⟨[],0,p,rfl,by omega,by omega,by simp,hp,PtW.start,Among.start _ _ _ _⟩
 case round=>
  obtain ⟨l,n,q,rfl,Rq,VO,DG,hq,hw,EP⟩:=hrel;have HC:=agC hw;clear hw;obtain ⟨⟨g0,g1,g2,g3⟩,-⟩:=HC.out.st.all;go_wp2_with fail;refine ((show Calls Tryz.prog 178 #[.agg #[.slice _ _ _, .slice _ _ _, .int .i64 (q:Int), .int .i64 (d:Int)], .string c] _ _ from cK _ _ tk q d c _ (HR.out.mono HC.out.below) (by omega))).mono ?_;rintro e w4 ⟨rfl,As⟩;have HP:=agC (HC.out.later As);clear HC As g0 g1 g2 g3;obtain ⟨⟨g0,g1,g2,g3⟩,y0,y1,y2,y3⟩:=HP.out.st.all
  have TU: ¬w.heap.size=w.heap.size+1:=by omega
  cases hc:isT tk q c.data.toList with
  |true=>
   have Fk:=bG hc;have HD:=agC (EP.done hc);clear hc EP;obtain ⟨⟨r0,r1,r2,r3⟩,z0,z1,z2,z3⟩:=HP.out.ans.all;go_wp2_with fail
   go_region
   all_goals
    obtain ⟨hE,hB,hO⟩:=(HP.out.seti (.int .i64 ((q:Int)+1))).last (.slice xa xn xc) (.slice ya yn yc) (.int .i64 ((q:Int)+1)) (.int .i64 (d:Int));obtain ⟨⟨e0,e1,e2,e3⟩,-⟩:=hE.all;go_wp2
    exact bodyPost_ret (v:= .tuple #[u8, .int .i64 (n:Int), .agg #[.slice xa xn xc, .slice ya yn yc, .int .i64 ((q:Int)+1), .int .i64 (d:Int)], .bool true]) (by simp [results,Tryz.results234,go_sem,e0,e1,e2,e3]) rfl
     ⟨u8,_,_,l,q+1,n,(d:Int),true,⟨⟨_,_,_,rfl⟩,⟨_,_,_,rfl⟩⟩,rfl,hO.drew,by omega,by omega,hB.drew, .inl ⟨rfl,rfl,rfl,rfl,HD.out⟩⟩
  |false=>
   have TV:w.heap.size+1<w4.heap.size:=HP.out.ans.lt
   by_cases h0:n=0
   ·have TW: ¬(0:Int)<(n:Int):=by omega
    go_wp2_with fail;refine ((show Calls Tryz.prog 150 #[.agg #[.slice _ _ _, .slice _ _ _, .int .i64 (q:Int), .int .i64 (d:Int)]] _ _ from IH.out.choice q d _ _ _ (by omega) (by omega) hd (HR.out.mono HP.out.below))).mono ?_;rintro e w6 ⟨v2,W2,K2,l2,q2,d2,Hf,⟨⟨Bp,BE,Bq,rfl⟩,⟨Br,Bs,Bt,rfl⟩⟩,rfl,Bu,Gh,CL,Bv,BH⟩;have BK:Below w6.heap.size w6 (w6.alloc (.cells #[.slice Bp BE Bq, .slice Br Bs Bt, .int .i64 (q2:Int), .int .i64 d2] 156)):=(Below.refl _ _).alloc (agD _) _;have ER:=agC (HP.out.later Bv);have HG:=agC (ER.out.later BK);have GS:=agC (BlkS.new w6 #[.slice Bp BE Bq, .slice Br Bs Bt, .int .i64 (q2:Int), .int .i64 d2]);have BY:=agC (cD (Bu.mono (base':=w.heap.size+2) (by have:=HP.out.ans.lt;omega)) BK);have AY:=agC BH;have FZ:w.heap.size+1<w6.heap.size:=ER.out.ans.lt
    have Pn:w.heap.size<w6.heap.size:=by omega
    have At: ¬w6.heap.size=w.heap.size:=by omega
    have FM: ¬w.heap.size=w6.heap.size:=by omega
    have Po: ¬w6.heap.size=w.heap.size+1:=by omega
    have Pp: ¬w.heap.size+1=w6.heap.size:=by omega
    have Pq:l.length+l2.length≤20000:=by omega
    have Pr:q2≥q:=by omega
    obtain ⟨⟨f0,f1,f2,f3⟩,k0,k1,k2,k3⟩:=ER.out.st.all;obtain ⟨⟨r0,r1,r2,r3⟩,z0,z1,z2,z3⟩:=ER.out.ans.all;clear Bu Bv BH HP g0 g1 g2 g3 y0 y1 y2 y3 BK
    cases Hf with
    |false=>
     have HN:=agC (EP.fail hc (fun _=>rfl) (fun h=>absurd h0 h) (AY.out.elim (fun ⟨a,_⟩=>by cases a) (fun ⟨_,b⟩=>b)));clear AY;go_wp2_with fail
     go_region
     all_goals
      obtain ⟨hE,hB,hO⟩:=ER.out.last (.slice Bp BE Bq) (.slice Br Bs Bt) (.int .i64 (q2:Int)) (.int .i64 d2);obtain ⟨⟨e0,e1,e2,e3⟩,-⟩:=((hE.alloc (.cells #[.slice Bp BE Bq, .slice Br Bs Bt, .int .i64 (q2:Int), .int .i64 d2] 156)).drew).all;go_wp2
      exact bodyPost_ret (v:= .tuple #[u8, .int .i64 0, .agg #[.slice Bp BE Bq, .slice Br Bs Bt, .int .i64 (q2:Int), .int .i64 d2], .bool false]) (by simp [results,Tryz.results234,go_sem,e0,e1,e2,e3]) rfl
       ⟨u8,_,_,l,q2,0,d2,false,⟨⟨_,_,_,rfl⟩,⟨_,_,_,rfl⟩⟩,rfl,(hO.alloc _).drew,by omega,CL,(hB.alloc hB.size _).drew, .inr ⟨rfl,HN.out⟩⟩
    |true=>
     obtain ⟨-,hW,hK,hd2,BW⟩:=AY.out.resolve_right (fun h=>by cases h.1);have E8:=agC BW;have GU:=agC (And.intro hW (And.intro hK hd2));clear AY BW hW hK hd2
     by_cases h8:n=8
     ·exfalso;omega
     ·have Ro:((n:Int)==8)=false:=by simp;omega
      obtain ⟨hW,hK,hd2⟩:=GU.out;simp only [Value.slice.injEq] at hW hK;obtain ⟨rfl,rfl,rfl⟩:=hW;obtain ⟨rfl,rfl,rfl⟩:=hK
      replace hd2:d2=(d:Int):=hd2
      subst hd2
      go_wp2_with (at_builtin;refine du rfl _ _ 30 rfl (w.heap.size+2) 110 i0 (.agg #[.int .i64 0, .string ByteArray.empty, .int .i64 0]) 3 32 Tryz.underlying30 hi Az Ax AC rfl (by decide) _ l.length _ rfl HG.out.own _ _ l2.length (ai l2) rfl BY.out (bU _) (by unfold maxLen;omega) (by omega) (by simp;omega) ?_)
      intro Np Is AZ AH;have HW:=agC (PtW.apps HG.out AH AZ);have Fa:=agC (GS.out.grown AH (fun he=>by have:=(ER.out.own.lt _ he.symm).2;omega));clear AZ AH HG GS BY ER f0 f1 f2 f3 k0 k1 k2 k3 r0 r1 r2 r3 z0 z1 z2 z3;obtain ⟨⟨g0,g1,g2,g3⟩,y0,y1,y2,y3⟩:=HW.out.st.all;obtain ⟨⟨x0,x1,x2,x3⟩,-⟩:=Fa.out.all;have HZ:=agC (HW.out.over4 (.slice Bp BE Bq) (.slice Br Bs Bt) (.int .i64 (q2:Int)) (.int .i64 (d:Int)));go_wp2;go_roundw
      case rel=>exact ⟨l++l2,n+1,q2,by subst h0;rfl,by omega,by omega,by simp only [agE];omega,CL,HZ.out,EP.next hc (fun _=>rfl) (fun h=>absurd h0 h) E8.out⟩
      case measure=>simp [intOf];omega
   ·have TW:(0:Int)<(n:Int):=by omega
    go_wp2_with fail;refine ((show Calls Tryz.prog 178 #[.agg #[.slice _ _ _, .slice _ _ _, .int .i64 (q:Int), .int .i64 (d:Int)], .string _] _ _ from cK _ _ tk q d ⟨#[44]⟩ _ (HR.out.mono HP.out.below) (by omega))).mono ?_;rintro e w5 ⟨rfl,AI⟩;have HS:=agC (HP.out.later AI);clear HP AI g0 g1 g2 g3 y0 y1 y2 y3;obtain ⟨⟨g0,g1,g2,g3⟩,y0,y1,y2,y3⟩:=HS.out.st.all
    cases GC:isT tk q [44] with
    |false=>
     have HN:=agC (EP.comma hc h0 GC);clear GC;obtain ⟨⟨r0,r1,r2,r3⟩,z0,z1,z2,z3⟩:=HS.out.ans.all;go_wp2_with fail
     go_region
     all_goals
      obtain ⟨hE,hB,hO⟩:=HS.out.last (.slice xa xn xc) (.slice ya yn yc) (.int .i64 (q:Int)) (.int .i64 (d:Int));obtain ⟨⟨e0,e1,e2,e3⟩,-⟩:=hE.all;go_wp2
      exact bodyPost_ret (v:= .tuple #[u8, .int .i64 0, .agg #[.slice xa xn xc, .slice ya yn yc, .int .i64 (q:Int), .int .i64 (d:Int)], .bool false]) (by simp [results,Tryz.results234,go_sem,e0,e1,e2,e3]) rfl
       ⟨u8,_,_,l,q,0,(d:Int),false,⟨⟨_,_,_,rfl⟩,⟨_,_,_,rfl⟩⟩,rfl,hO.drew,by omega,by omega,hB.drew, .inr ⟨rfl,HN.out⟩⟩
    |true=>
     have I2:=bG GC;have HP:=agC (HS.out.seti (.int .i64 ((q:Int)+1)));clear HS;go_wp2_with fail;refine ((show Calls Tryz.prog 150 #[.agg #[.slice _ _ _, .slice _ _ _, .int .i64 ((q:Int)+1), .int .i64 (d:Int)]] _ _ from IH.out.choice (q+1) d _ _ _ (by omega) (by omega) hd (HR.out.mono HP.out.below))).mono ?_;rintro e w6 ⟨v2,W2,K2,l2,q2,d2,Hf,⟨⟨Bp,BE,Bq,rfl⟩,⟨Br,Bs,Bt,rfl⟩⟩,rfl,Bu,Gh,CL,Bv,BH⟩;have BK:Below w6.heap.size w6 (w6.alloc (.cells #[.slice Bp BE Bq, .slice Br Bs Bt, .int .i64 (q2:Int), .int .i64 d2] 156)):=(Below.refl _ _).alloc (agD _) _;have ER:=agC (HP.out.later Bv);have HG:=agC (ER.out.later BK);have GS:=agC (BlkS.new w6 #[.slice Bp BE Bq, .slice Br Bs Bt, .int .i64 (q2:Int), .int .i64 d2]);have BY:=agC (cD (Bu.mono (base':=w.heap.size+2) (by have:=HP.out.ans.lt;omega)) BK);have AY:=agC BH;have FZ:w.heap.size+1<w6.heap.size:=ER.out.ans.lt
     have Pn:w.heap.size<w6.heap.size:=by omega
     have At: ¬w6.heap.size=w.heap.size:=by omega
     have FM: ¬w.heap.size=w6.heap.size:=by omega
     have Po: ¬w6.heap.size=w.heap.size+1:=by omega
     have Pp: ¬w.heap.size+1=w6.heap.size:=by omega
     have Pq:l.length+l2.length≤20000:=by omega
     have Pr:q2≥q:=by omega
     obtain ⟨⟨f0,f1,f2,f3⟩,k0,k1,k2,k3⟩:=ER.out.st.all;obtain ⟨⟨r0,r1,r2,r3⟩,z0,z1,z2,z3⟩:=ER.out.ans.all;clear Bu Bv BH HP g0 g1 g2 g3 y0 y1 y2 y3 BK
     cases Hf with
     |false=>
      have HN:=agC (EP.fail hc (fun h=>absurd h h0) (fun _=>⟨GC,rfl⟩) (AY.out.elim (fun ⟨a,_⟩=>by cases a) (fun ⟨_,b⟩=>b)));clear AY;go_wp2_with fail
      go_region
      all_goals
       obtain ⟨hE,hB,hO⟩:=ER.out.last (.slice Bp BE Bq) (.slice Br Bs Bt) (.int .i64 (q2:Int)) (.int .i64 d2);obtain ⟨⟨e0,e1,e2,e3⟩,-⟩:=((hE.alloc (.cells #[.slice Bp BE Bq, .slice Br Bs Bt, .int .i64 (q2:Int), .int .i64 d2] 156)).drew).all;go_wp2
       exact bodyPost_ret (v:= .tuple #[u8, .int .i64 0, .agg #[.slice Bp BE Bq, .slice Br Bs Bt, .int .i64 (q2:Int), .int .i64 d2], .bool false]) (by simp [results,Tryz.results234,go_sem,e0,e1,e2,e3]) rfl
        ⟨u8,_,_,l,q2,0,d2,false,⟨⟨_,_,_,rfl⟩,⟨_,_,_,rfl⟩⟩,rfl,(hO.alloc _).drew,by omega,CL,(hB.alloc hB.size _).drew, .inr ⟨rfl,HN.out⟩⟩
     |true=>
      obtain ⟨-,hW,hK,hd2,BW⟩:=AY.out.resolve_right (fun h=>by cases h.1);have E8:=agC BW;have GU:=agC (And.intro hW (And.intro hK hd2));clear AY BW hW hK hd2
      by_cases h8:n=8
      ·have Ro:((n:Int)==8)=true:=by simp;omega
       have HN:=agC (EP.many hc (by omega));go_wp2_with fail
       go_region
       all_goals
        obtain ⟨hE,hB,hO⟩:=ER.out.last (.slice Bp BE Bq) (.slice Br Bs Bt) (.int .i64 (q2:Int)) (.int .i64 d2);obtain ⟨⟨e0,e1,e2,e3⟩,-⟩:=((hE.alloc (.cells #[.slice Bp BE Bq, .slice Br Bs Bt, .int .i64 (q2:Int), .int .i64 d2] 156)).drew).all;go_wp2
        exact bodyPost_ret (v:= .tuple #[u8, .int .i64 0, .agg #[.slice Bp BE Bq, .slice Br Bs Bt, .int .i64 (q2:Int), .int .i64 d2], .bool false]) (by simp [results,Tryz.results234,go_sem,e0,e1,e2,e3]) rfl
         ⟨u8,_,_,l,q2,0,d2,false,⟨⟨_,_,_,rfl⟩,⟨_,_,_,rfl⟩⟩,rfl,(hO.alloc _).drew,by omega,CL,(hB.alloc hB.size _).drew, .inr ⟨rfl,HN.out⟩⟩
      ·have Ro:((n:Int)==8)=false:=by simp;omega
       obtain ⟨hW,hK,hd2⟩:=GU.out;simp only [Value.slice.injEq] at hW hK;obtain ⟨rfl,rfl,rfl⟩:=hW;obtain ⟨rfl,rfl,rfl⟩:=hK
       replace hd2:d2=(d:Int):=hd2
       subst hd2
       go_wp2_with (at_builtin;refine du rfl _ _ 30 rfl (w.heap.size+2) 110 i0 (.agg #[.int .i64 0, .string ByteArray.empty, .int .i64 0]) 3 32 Tryz.underlying30 hi Az Ax AC rfl (by decide) _ l.length _ rfl HG.out.own _ _ l2.length (ai l2) rfl BY.out (bU _) (by unfold maxLen;omega) (by omega) (by simp;omega) ?_)
       intro Np Is AZ AH;have HW:=agC (PtW.apps HG.out AH AZ);have Fa:=agC (GS.out.grown AH (fun he=>by have:=(ER.out.own.lt _ he.symm).2;omega));clear AZ AH HG GS BY ER f0 f1 f2 f3 k0 k1 k2 k3 r0 r1 r2 r3 z0 z1 z2 z3;obtain ⟨⟨g0,g1,g2,g3⟩,y0,y1,y2,y3⟩:=HW.out.st.all;obtain ⟨⟨x0,x1,x2,x3⟩,-⟩:=Fa.out.all;have HZ:=agC (HW.out.over4 (.slice Bp BE Bq) (.slice Br Bs Bt) (.int .i64 (q2:Int)) (.int .i64 (d:Int)));go_wp2;go_roundw
       case rel=>exact ⟨l++l2,n+1,q2,by go_num,by omega,by omega,by simp only [agE];omega,CL,HZ.out,EP.next hc (fun h=>absurd h h0) (fun _=>⟨GC,rfl⟩) E8.out⟩
       case measure=>simp [intOf];omega
end Go.Proofs.YtegdjjjpoahamaaGreatDoor
