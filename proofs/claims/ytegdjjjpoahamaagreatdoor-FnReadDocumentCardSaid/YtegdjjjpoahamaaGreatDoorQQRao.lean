/-
  Part of the proof of FnReadDocument.
-/
import Derived.Test.YtegdjjjpoahamaaGreatDoorQQRad
import Derived.Test.YtegdjjjpoahamaaGreatDoorQQRak
import Derived.Deep.RegionHeld3
import Derived.RegionTactic
import Derived.Deep.DrawnRows
import Derived.Laws.OwnMore
import Derived.Laws.Rows
import Derived.Deep.Slices
import Derived.Deep.Strs
import Derived.Deep.Fields
import Derived.ChangeSame
set_option linter.unusedVariables false
set_option maxHeartbeats 8000000
set_option maxRecDepth 100000
namespace Go.Proofs.YtegdjjjpoahamaaGreatDoor
open Go.RowKit
def kp:Nat→Nat
 |0=>8
 |d+1=>8+3*kp d
def cb:Nat→Nat
 |0=>1
 |d+1=>if d=0 then 1 else 1+3*cb d
def zG (B R p K C:Nat) (w:World) (e:Ending) (w':World):Prop:=
 ∃(v:Value) (l:List Cl),e= .returned v∧w'.ownsRow w.heap.size 110 3 v l.length (ai l)∧(∀c∈l,c.2.1.size≤B)∧1≤l.length∧l.length≤C∧Rdm w' R (p+K)∧w.grownBy w' (some R)
abbrev wh:=zG 60
theorem dZ {w a b:World} {R:Nat} {row:Option Nat} (h:w.grownBy a (some R)) (hg:a.grownBy b row) (hr: ∀q,row=some q→w.heap.size≤q):w.grownBy b (some R):=
 ⟨hg.os.trans h.os,hg.tape.trans h.tape,hg.output.trans h.output,Nat.le_trans h.size hg.size,fun k hk hn=>by
  rw [hg.block k (by have:=h.size;omega) (fun e=>by have:=hr k e.symm;omega)]
  exact h.block k hk hn⟩
theorem ad3 (m:Nat) (h:m<6): ∃t:ByteArray,t.size≤60∧(#[Value.string ⟨#[48]⟩, .string ⟨#[49]⟩, .string ⟨#[50]⟩, .string ⟨#[49,50]⟩, .string ⟨#[48,46,53]⟩, .string ⟨#[51,46,50,53]⟩]:Array Value)[m]? =some (.string t):=by
 match m,h with
 |0,_=>exact ⟨_,by decide,rfl⟩
 |1,_=>exact ⟨_,by decide,rfl⟩
 |2,_=>exact ⟨_,by decide,rfl⟩
 |3,_=>exact ⟨_,by decide,rfl⟩
 |4,_=>exact ⟨_,by decide,rfl⟩
 |5,_=>exact ⟨_,by decide,rfl⟩
theorem ad4 (m:Nat) (h:m<6): ∃t:ByteArray,t.size≤60∧(#[Value.string ⟨#[]⟩, .string ⟨#[97]⟩, .string ⟨#[65,98]⟩, .string ⟨#[120,10,121]⟩, .string ⟨#[34]⟩, .string ⟨#[35]⟩]:Array Value)[m]? =some (.string t):=by
 match m,h with
 |0,_=>exact ⟨_,by decide,rfl⟩
 |1,_=>exact ⟨_,by decide,rfl⟩
 |2,_=>exact ⟨_,by decide,rfl⟩
 |3,_=>exact ⟨_,by decide,rfl⟩
 |4,_=>exact ⟨_,by decide,rfl⟩
 |5,_=>exact ⟨_,by decide,rfl⟩
theorem ad5 (m:Nat) (h:m<2): ∃t:ByteArray,t.size≤60∧(#[Value.string ⟨#[116,114,117,101]⟩, .string ⟨#[102,97,108,115,101]⟩]:Array Value)[m]? =some (.string t):=by
 match m,h with
 |0,_=>exact ⟨_,by decide,rfl⟩
 |1,_=>exact ⟨_,by decide,rfl⟩
theorem ad6 (m:Nat) (h:m<9): ∃t:ByteArray,t.size≤60∧(#[Value.string ⟨#[108,101,110,103,116,104]⟩, .string ⟨#[117,112,112,101,114]⟩, .string ⟨#[109,105,110]⟩, .string ⟨#[109,97,120]⟩, .string ⟨#[102,105,114,115,116]⟩, .string ⟨#[114,101,118,101,114,115,101]⟩, .string ⟨#[99,111,110,116,97,105,110,115]⟩, .string ⟨#[106,111,105,110]⟩, .string ⟨#[102]⟩]:Array Value)[m]? =some (.string t):=by
 match m,h with
 |0,_=>exact ⟨_,by decide,rfl⟩
 |1,_=>exact ⟨_,by decide,rfl⟩
 |2,_=>exact ⟨_,by decide,rfl⟩
 |3,_=>exact ⟨_,by decide,rfl⟩
 |4,_=>exact ⟨_,by decide,rfl⟩
 |5,_=>exact ⟨_,by decide,rfl⟩
 |6,_=>exact ⟨_,by decide,rfl⟩
 |7,_=>exact ⟨_,by decide,rfl⟩
 |8,_=>exact ⟨_,by decide,rfl⟩
theorem ad7 (m:Nat) (h:m<2): ∃t:ByteArray,t.size≤60∧(#[Value.string ⟨#[33]⟩, .string ⟨#[45]⟩]:Array Value)[m]? =some (.string t):=by
 match m,h with
 |0,_=>exact ⟨_,by decide,rfl⟩
 |1,_=>exact ⟨_,by decide,rfl⟩
theorem ad8 (m:Nat) (h:m<15): ∃t:ByteArray,t.size≤60∧(#[Value.string ⟨#[124,124]⟩, .string ⟨#[38,38]⟩, .string ⟨#[61,61]⟩, .string ⟨#[33,61]⟩, .string ⟨#[60]⟩, .string ⟨#[60,61]⟩, .string ⟨#[62]⟩, .string ⟨#[62,61]⟩, .string ⟨#[43]⟩, .string ⟨#[45]⟩, .string ⟨#[42]⟩, .string ⟨#[47]⟩, .string ⟨#[37]⟩, .string ⟨#[38,38]⟩, .string ⟨#[43]⟩]:Array Value)[m]? =some (.string t):=by
 match m,h with
 |0,_=>exact ⟨_,by decide,rfl⟩
 |1,_=>exact ⟨_,by decide,rfl⟩
 |2,_=>exact ⟨_,by decide,rfl⟩
 |3,_=>exact ⟨_,by decide,rfl⟩
 |4,_=>exact ⟨_,by decide,rfl⟩
 |5,_=>exact ⟨_,by decide,rfl⟩
 |6,_=>exact ⟨_,by decide,rfl⟩
 |7,_=>exact ⟨_,by decide,rfl⟩
 |8,_=>exact ⟨_,by decide,rfl⟩
 |9,_=>exact ⟨_,by decide,rfl⟩
 |10,_=>exact ⟨_,by decide,rfl⟩
 |11,_=>exact ⟨_,by decide,rfl⟩
 |12,_=>exact ⟨_,by decide,rfl⟩
 |13,_=>exact ⟨_,by decide,rfl⟩
 |14,_=>exact ⟨_,by decide,rfl⟩
theorem ad9 (m:Nat) (h:m<13): ∃t:Nat,(1≤t∧t≤9)∧(#[Value.int .i64 1, .int .i64 2, .int .i64 3, .int .i64 4, .int .i64 4, .int .i64 5, .int .i64 6, .int .i64 7, .int .i64 7, .int .i64 8, .int .i64 8, .int .i64 8, .int .i64 9]:Array Value)[m]? =some (.int .i64 (t:Int)):=by
 match m,h with
 |0,_=>exact ⟨1,by decide,rfl⟩
 |1,_=>exact ⟨2,by decide,rfl⟩
 |2,_=>exact ⟨3,by decide,rfl⟩
 |3,_=>exact ⟨4,by decide,rfl⟩
 |4,_=>exact ⟨4,by decide,rfl⟩
 |5,_=>exact ⟨5,by decide,rfl⟩
 |6,_=>exact ⟨6,by decide,rfl⟩
 |7,_=>exact ⟨7,by decide,rfl⟩
 |8,_=>exact ⟨7,by decide,rfl⟩
 |9,_=>exact ⟨8,by decide,rfl⟩
 |10,_=>exact ⟨8,by decide,rfl⟩
 |11,_=>exact ⟨8,by decide,rfl⟩
 |12,_=>exact ⟨9,by decide,rfl⟩
structure BfT (R:Nat) (w wr:World) (P:Nat):Prop where
 rd:Rdm wr R P
 gr:w.grownBy wr (some R)
 lt:R<w.heap.size
structure AfT (B R:Nat) (w wr:World) (v:Value) (l:List Cl) (P c:Nat):Prop extends BfT R w wr P where
 own:wr.ownsRow w.heap.size 110 3 v l.length (ai l)
 few: ∀c∈l,c.2.1.size≤B
 pos:1≤l.length
 len:l.length≤c
section
variable {B R P P' c c' K C:Nat} {w wr w':World} {v:Value} {l:List Cl} {e:Ending}
theorem BfT.more (h:BfT R w wr P) (hp:P≤P'):BfT R w wr P':=⟨h.rd.mono hp,h.gr,h.lt⟩
theorem BfT.al (h:BfT R w wr P) (o:Obj):BfT R w (wr.alloc o) P:=⟨h.rd.kept (agF wr o none) (by simp),bq h.gr o,h.lt⟩
theorem BfT.to (h:BfT R w wr P) (hr:Rdm w' R P') (hg:wr.grownBy w' (some R)):BfT R w w' P':=⟨hr,af h.gr hg,h.lt⟩
theorem BfT.dr (h:BfT R w wr P):BfT R w wr.drew P:=⟨h.rd.kept (row:=none) ⟨rfl,rfl,rfl,agD _,fun _ _ _=>rfl⟩ (by simp),⟨h.gr.os,h.gr.tape,h.gr.output,h.gr.size,h.gr.block⟩,h.lt⟩
theorem BfT.one (h:BfT R w wr P) (k m:Int) (s:ByteArray) (hs:s.size≤B):AfT B R w (wr.alloc (.cells #[.int .i64 k, .string s, .int .i64 m] 110)) (.slice (some ⟨wr.heap.size,0,none⟩) 1 1) [(k,s,m)] P 1:=
 ⟨h.al _,World.ownsRow_lit wr _ 1 h.gr.size (by unfold maxLen;omega) rfl,fun c hc=>(by rw [List.mem_singleton] at hc;subst hc;exact hs),agD _,agD _⟩
theorem BfT.call (h:BfT R w wr P) (hd:zG B R P K C wr e w'): ∃(u:Value) (k:List Cl),e= .returned u∧AfT B R w w' u k (P+K) C:=by
 obtain ⟨u,k,rfl,ho,hf,hl,hc,hr,hg⟩:=hd;exact ⟨u,k,rfl,h.to hr hg,bX ho (fun g Gu=>Nat.le_trans h.gr.size (ho.lt g Gu).1),hf,hl,hc⟩
theorem AfT.more (h:AfT B R w wr v l P c) (hp:P≤P') (hc:c≤c'):AfT B R w wr v l P' c':=⟨h.toBfT.more hp,h.own,h.few,h.pos,Nat.le_trans h.len hc⟩
theorem AfT.al (h:AfT B R w wr v l P c) (o:Obj):AfT B R w (wr.alloc o) v l P c:=⟨h.toBfT.al o,h.own.alloc o,h.few,h.pos,h.len⟩
theorem AfT.call (h:AfT B R w wr v l P c) (hd:zG B R P K C wr e w'): ∃(u:Value) (k:List Cl),e= .returned u∧AfT B R w w' v l (P+K) c∧AfT B R w w' u k (P+K) C:=by
 obtain ⟨u,k,he,hk⟩:=h.toBfT.call hd;obtain ⟨_,_,-,-,-,-,-,-,hg⟩:=hd;exact ⟨u,k,he,⟨hk.toBfT,h.own.kept hg (.inr (by intro he;have:=(h.own.lt _ he).1;have:=h.lt;omega)),h.few,h.pos,h.len⟩,hk⟩
theorem AfT.done {p:Nat} (h:AfT B R w wr v l P c) (hP:P≤p+K) (hc:c≤C):zG B R p K C w (.returned v) wr:=⟨v,l,rfl,h.own,h.few,h.pos,Nat.le_trans h.len hc,h.rd.mono hP,h.gr⟩
theorem tq {b m:Nat} {x:Value} (hd:zG B R P K C wr e w') (hc:wr.cell? ⟨b,m,none⟩=some x) (hb: ¬b=R):w'.cell? ⟨b,m,none⟩=some x:=by
 obtain ⟨_,_,-,-,-,-,-,-,hg⟩:=hd;exact hg.cell hc (fun e=>hb (Option.some.inj e))
theorem litC {w w':World} {R:Nat} {C:Array Value} {t:TypeId} {m:Nat} {v:Value} (hR:R<w.heap.size) (hg:(w.alloc (.cells C t)).drew.grownBy w' (some R)) (hv:C[m]? =some v):w'.cell? ⟨w.heap.size,m,none⟩=some v:=
 cX hR ⟨hg.os,hg.tape,hg.output,hg.size,hg.block⟩ hv
theorem agl {w:World} {C:Array Value} {t:TypeId} {m:Nat} {v:Value} (hv:C[m]? =some v):(w.alloc (.cells C t)).cell? ⟨w.heap.size,m,none⟩=some v:=by
 simp only [World.cell?,heap_alloc_new]
 simpa using hv
end
theorem lK {ops:Array Oper} {rest:List Oper} {o:Oper} {Q:Exit→Act→World→Prop} {A:Act} {B R P P' c c':Nat} {w wr:World} {va vb:Value} {l k:List Cl} (Cq:o.guard=none) (hA:AfT B R w wr va l P c) (hB:AfT B R w wr vb k P' c') (s x:Operand)
  (ho:o.op= .call {callee:= .builtin .append,args:= #[s,x],argTypes:= #[30,30]}) (hs:A.eval s=va) (hx:A.eval x=vb) (hc:c+c'≤1000)
  (h: ∀g n l' w',AfT B R w w' (.slice g l'.length n) l' P (c+c')→wpList Tryz.prog ops Q rest (A.put o.dst (.slice g l'.length n)) w'):wpList Tryz.prog ops Q (o::rest) A wr:=by
 obtain ⟨i0,hi,Az,Ax,AC⟩:=info_parts f5;have h1:=hA.len;have h2:=hB.len;refine du Cq s x 30 ho w.heap.size 110 i0 (.agg #[.int .i64 0, .string ByteArray.empty, .int .i64 0]) 3 32 Tryz.underlying30 hi Az Ax AC rfl (by decide) va l.length (ai l) hs hA.own w.heap.size vb k.length (ai k) hx hB.own (bU _) (by unfold maxLen;omega) (by omega) hA.gr.size ?_;intro v' w' Ad Ac;rw [←agE,←dt] at Ad;obtain ⟨a,n,rfl⟩:=aN Ad;have ha:=hA.lt;exact h a n (l++k) w' ⟨⟨hA.rd.kept Ac (fun q hq=>by have:=(hA.own.lt q hq).1;omega),dZ hA.gr Ac (fun q hq=>(hA.own.lt q hq).1),ha⟩,Ad,fun c hc=>(List.mem_append.mp hc).elim (hA.few c) (hB.few c),by rw [agE];have:=hA.pos;omega,by rw [agE];omega⟩
theorem kP (D:Int) (K C:Nat) (VG:0≤D) (Sw:D≤5) (hC:C≤121)
  (ih:1<D→ ∀(R p:Nat) (w:World),p+K<1073741824→Rdm w R p→Calls Tryz.prog 190 #[.pointer (some ⟨R,0,none⟩), .int .i64 (D-1)] w (wh R p K C w))
  (R p:Nat) (w:World) (hp:p+(8+3*K)<1073741824) (h:Rdm w R p):
  Calls Tryz.prog 190 #[.pointer (some ⟨R,0,none⟩), .int .i64 D] w (wh R p (8+3*K) (1+3*C) w):=by
 have IH:=agC ih;clear ih;have B0:=agC (show BfT R w w p from ⟨h,World.grownBy.refl _ _,h.lt⟩);clear h;have EG:IntKind.i64.wrap (D-1)=D-1:=IntWalk.i64_in _ (by omega)
 go_enter Tryz.func190,Tryz.ntmps190
 go_wp2_with fail;refine (aj R p _ _ (by omega) (B0.out.al _).rd).mono ?_;rintro e w1 ⟨j,rfl,Ed,CE,-,hr,hg,-⟩;have Hj:=CE (by omega);obtain ⟨j1,rfl⟩:=agG Ed;obtain ⟨q,hq,Aq⟩:=ad9 j1 (by omega);have hcell:=cX B0.out.rd.lt hg Aq;have B1:=agC ((B0.out.al _).to hr hg);clear CE hg hr Aq
 by_cases hd:D≤1
 case' pos=>
  go_wp2_with fail;refine (aj R (p+1) _ _ (by omega) B1.out.rd).mono ?_;rintro e w2 ⟨i,rfl,Fp,DX,-,hr,hg,-⟩;have Gt:=DX (by omega);obtain ⟨i1,rfl⟩:=agG Fp;have B2:=agC (B1.out.to hr hg);clear DX hg hr hcell
  have TD:i1=0∨i1=1∨i1=2∨i1=3:=by omega
  clear Fp Gt
  rcases TD with rfl|rfl|rfl|rfl
 case' neg=>
  have hd1:1<D:=by omega
  by_cases hq5:5≤q
  case' neg=>
   obtain ⟨w2,Fl,B2⟩: ∃w2,w2=w1∧Hid (BfT R w w2 (p+1+1)):=⟨w1,rfl,agC (B1.out.more (by omega))⟩
   subst Fl
   have TE:q=1∨q=2∨q=3∨q=4:=by omega
   clear hq hq5
   rcases TE with rfl|rfl|rfl|rfl
  case pos=>
   have On:q=5∨q=6∨q=7∨q=8∨q=9:=by omega
   clear hq hq5
   obtain ⟨Q,HQ⟩: ∃Q:Nat,Hid (Q=q):=⟨q,agC rfl⟩
   rcases On with rfl|rfl|rfl|rfl|rfl
   all_goals
    go_wp2_with fail;refine (aj R (p+1) _ _ (by omega) B1.out.rd).mono ?_;rintro e w2 ⟨i,rfl,Fp,DX,-,hr,hg,-⟩;have Gt:=DX (by omega);obtain ⟨i1,rfl⟩:=agG Fp;have B2:=agC (B1.out.to hr hg);clear DX hg hr hcell;go_wp2_with fail;refine (aj R (p+1+1) _ _ (by omega) B2.out.rd).mono ?_;rintro e w3 ⟨y,rfl,Fo,EU,-,hr,hg,-⟩;have Lb:=EU (by omega);obtain ⟨y1,rfl⟩:=agG Fo;have B3:=agC (B2.out.to hr hg);clear EU hg hr;go_wp2_with fail
    first
     |have hQ:Q=5:=HQ.out
      obtain ⟨M,HM⟩: ∃M:Nat,Hid ((i1:Int)=(M:Int)∧M≤3):=⟨i1,agC (by constructor<;>omega)⟩
      have H1:=(B3.out.al (.cells #[.int .i64 0, .int .i64 0, .int .i64 0, .int .i64 0, .int .i64 0, .int .i64 (i1:Int), .int .i64 (1+(y1:Int)), .int .i64 1, .int .i64 2, .int .i64 3] 3)).one 5 (i1:Int) ByteArray.empty (show (0:Nat)≤60 by omega);rw [show∀o,(w3.alloc o).heap.size=w3.heap.size+1 from fun o=>by simp] at H1
      replace H1:=agC H1
     |have hQ:Q=6:=HQ.out
      refine (aj R (p+1+1+1) _ _ (by omega) ((B3.out.al _).al _).rd).mono ?_;rintro e w9 ⟨x,rfl,DH,Cw,-,hr,hg,-⟩;have EJ:=Cw (by omega);obtain ⟨x1,rfl⟩:=agG DH;obtain ⟨t,ht,Aq⟩:=ad6 x1 (by omega);have CY:=gj B3.out.rd.lt hg Aq;have B9:=agC (((B3.out.al _).al _).to hr hg);clear Cw hg hr Aq;go_wp2_with fail
      obtain ⟨M,HM⟩: ∃M:Nat,Hid ((1+(y1:Int))=(M:Int)∧M≤3):=⟨1+y1,agC (by constructor<;>omega)⟩
      have H1:=agC (B9.out.one 6 (1+(y1:Int)) t ht)
     |have hQ:Q=7:=HQ.out
      refine (aj R (p+1+1+1) _ _ (by omega) ((B3.out.al _).al _).rd).mono ?_;rintro e w9 ⟨x,rfl,DH,Cw,-,hr,hg,-⟩;have EJ:=Cw (by omega);obtain ⟨x1,rfl⟩:=agG DH;obtain ⟨t,ht,Aq⟩:=ad7 x1 (by omega);have CY:=gj B3.out.rd.lt hg Aq;have B9:=agC (((B3.out.al _).al _).to hr hg);clear Cw hg hr Aq;go_wp2_with fail
      obtain ⟨M,HM⟩: ∃M:Nat,Hid ((1:Int)=(M:Int)∧M≤3):=⟨1,agC (by constructor<;>omega)⟩
      have H1:=agC (B9.out.one 7 (1:Int) t ht)
     |have hQ:Q=8:=HQ.out
      refine (aj R (p+1+1+1) _ _ (by omega) ((B3.out.al _).al _).rd).mono ?_;rintro e w9 ⟨x,rfl,DH,Cw,-,hr,hg,-⟩;have EJ:=Cw (by omega);obtain ⟨x1,rfl⟩:=agG DH;obtain ⟨t,ht,Aq⟩:=ad8 x1 (by omega);have CY:=gj B3.out.rd.lt hg Aq;have B9:=agC (((B3.out.al _).al _).to hr hg);clear Cw hg hr Aq;go_wp2_with fail
      obtain ⟨M,HM⟩: ∃M:Nat,Hid ((2:Int)=(M:Int)∧M≤3):=⟨2,agC (by constructor<;>omega)⟩
      have H1:=agC (B9.out.one 8 (2:Int) t ht)
     |have hQ:Q=9:=HQ.out
      obtain ⟨M,HM⟩: ∃M:Nat,Hid ((3:Int)=(M:Int)∧M≤3):=⟨3,agC (by constructor<;>omega)⟩
      have H1:=(B3.out.al (.cells #[.int .i64 0, .int .i64 0, .int .i64 0, .int .i64 0, .int .i64 0, .int .i64 (i1:Int), .int .i64 (1+(y1:Int)), .int .i64 1, .int .i64 2, .int .i64 3] 3)).one 9 (3:Int) ByteArray.empty (show (0:Nat)≤60 by omega);rw [show∀o,(w3.alloc o).heap.size=w3.heap.size+1 from fun o=>by simp] at H1
      replace H1:=agC H1
    go_loopw [8,9] (fun out i wr=> ∃(k:Nat) (l':List Cl),k≤M∧i= .int .i64 (k:Int)∧AfT 60 R w wr out l' (p+4+k*K) (1+k*C)) (fun _ i _=>M-(intOf i).toNat)
    case atStart=>exact ⟨0,_,agH _,rfl,H1.out.more (by omega) (by omega)⟩
    case round=>
     obtain ⟨k,l',hk,rfl,hA⟩:=hrel;have HA:=agC hA;clear hA;have VD:=HM.out.2;have Ng:k*K≤3*K:=Nat.mul_le_mul_right _ (by omega);have VE:k*C≤3*C:=Nat.mul_le_mul_right _ (by omega)
     by_cases Ab:k<M
     ·have Bm:=show (k:Int)<(M:Int) by omega
      rw [←HM.out.1] at Bm;have HK:=agC (show (k+1)*K=k*K+K from Nat.succ_mul k K);have HC:=agC (show (k+1)*C=k*C+C from Nat.succ_mul k C);have TF:(k+1)*K≤3*K:=Nat.mul_le_mul_right _ (by omega);have TG:(k+1)*C≤3*C:=Nat.mul_le_mul_right _ (by omega)
      have hb:k*K+K≤3*K∧k*C+C≤3*C:=by have:=HK.out;have:=HC.out;omega
      clear TF TG;go_wp2_with fail;refine (IH.out hd1 R (p+4+k*K) _ (by omega) HA.out.rd).mono ?_;intro e w5 hd;obtain ⟨v5,l5,rfl,ha,AI⟩:=HA.out.call hd;have HX:=agC ha;have HY:=agC AI;clear ha AI hd
      go_wp2_with (at_builtin;refine lK rfl HX.out HY.out _ _ rfl rfl rfl (by omega) ?_;intro g6 n6 l6 w6 a6;have H6:=agC a6;clear a6)
      go_roundw
      case rel=>exact ⟨k+1,l6,by omega,by go_num,H6.out.more (by have:=HK.out;omega) (by have:=HC.out;omega)⟩
      case measure=>simp [intOf];omega
     ·have Bm:=show¬(k:Int)<(M:Int) by omega
      rw [←HM.out.1] at Bm;go_wp2;go_ret;exact HA.out.done (by omega) (by omega)
 all_goals
  go_wp2_with fail
  first
   |refine (acj R (p+1+1) 0 _ (by omega) (by omega) (by omega) B2.out.rd).mono ?_
    rintro e w9 ⟨t,rfl,ht,hr,hg⟩;have B9:=agC (B2.out.to hr hg);clear hg hr
    have Ir:t.size≤60:=by omega
   |refine (aj R (p+1+1) _ _ (by omega) (B2.out.al _).rd).mono ?_
    rintro e w9 ⟨i,rfl,Fp,DX,-,hr,hg,-⟩;have Gt:=DX (by omega);obtain ⟨m1,rfl⟩:=agG Fp
    first
     |have hm:m1<6:=by omega
      obtain ⟨t,Ir,Aq⟩:=ad3 m1 hm;have CY:=cX B2.out.rd.lt hg Aq
     |have hm:m1<6:=by omega
      obtain ⟨t,Ir,Aq⟩:=ad4 m1 hm;have CY:=cX B2.out.rd.lt hg Aq
     |have hm:m1<2:=by omega
      obtain ⟨t,Ir,Aq⟩:=ad5 m1 hm;have CY:=cX B2.out.rd.lt hg Aq
    have B9:=agC ((B2.out.al _).to hr hg);clear DX hg hr Aq
  go_wp2;go_ret;exact (B9.out.one _ _ t Ir).done (by omega) (by omega)
theorem zH (deep:Nat): ∀(R p:Nat) (w:World),deep≤5→p+kp deep<1073741824→Rdm w R p→
  Calls Tryz.prog 190 #[.pointer (some ⟨R,0,none⟩), .int .i64 (deep:Int)] w (wh R p (kp deep) (cb deep) w):=by
 induction deep with
 |zero=>intro R p w _ hp h;exact kP 0 0 0 (by omega) (by omega) (by omega) (fun h=>absurd h (by omega)) R p w hp h
 |succ d ih=>
  intro R p w VF hp h
  have e:((d+1:Nat):Int)-1=(d:Int):=by omega
  by_cases hd:d=0
  ·subst hd
   exact kP 1 8 0 (by omega) (by omega) (by omega) (fun h=>absurd h (by omega)) R p w hp h
  ·have hc:cb (d+1)=1+3*cb d:=by rw [cb,if_neg hd]
   have h3:cb d≤121:=by
    have:d=1∨d=2∨d=3∨d=4:=by omega
    rcases this with rfl|rfl|rfl|rfl<;>decide
   rw [hc];exact kP ((d+1:Nat):Int) (kp d) (cb d) (by omega) (by omega) h3 (fun _ R p w a b=>by rw [e];exact ih R p w (by omega) a b) R p w hp h
end Go.Proofs.YtegdjjjpoahamaaGreatDoor
