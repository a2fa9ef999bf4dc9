/-
  Part of the proof of FnReadDocument.
-/
import Derived.Test.YtegdjjjpoahamaaGreatDoorQQRar
import Derived.Test.YtegdjjjpoahamaaGreatDoorQQRas
import Derived.Test.YtegdjjjpoahamaaGreatDoorQQRag
set_option linter.unusedVariables false
set_option maxHeartbeats 16000000
set_option maxRecDepth 100000
namespace Go.Proofs.YtegdjjjpoahamaaGreatDoor
open Go.RowKit
theorem ab4 (m:Nat) (h:m<5): ∃t:ByteArray,t.size≤13∧(#[Value.string ⟨#[97]⟩, .string ⟨#[98]⟩, .string ⟨#[99]⟩, .string ⟨#[120,49]⟩, .string ⟨#[108,111,110,103,95,110,97,109,101]⟩]:Array Value)[m]? =some (.string t):=by
 match m,h with
 |0,_=>exact ⟨_,by decide,rfl⟩
 |1,_=>exact ⟨_,by decide,rfl⟩
 |2,_=>exact ⟨_,by decide,rfl⟩
 |3,_=>exact ⟨_,by decide,rfl⟩
 |4,_=>exact ⟨_,by decide,rfl⟩
theorem afn (m:Nat) (h:m<3): ∃t:ByteArray,t.size≤13∧(#[Value.string ⟨#[113,46,97]⟩, .string ⟨#[]⟩, .string ⟨#[116,114,117,101]⟩]:Array Value)[m]? =some (.string t):=by
 match m,h with
 |0,_=>exact ⟨_,by decide,rfl⟩
 |1,_=>exact ⟨_,by decide,rfl⟩
 |2,_=>exact ⟨_,by decide,rfl⟩
theorem ab5 (m:Nat) (h:m<6): ∃k:Nat,(k=1∨k=2∨k=3)∧(#[Value.int .i64 1, .int .i64 2, .int .i64 3, .int .i64 3, .int .i64 3, .int .i64 3]:Array Value)[m]? =some (.int .i64 (k:Int)):=by
 match m,h with
 |0,_=>exact ⟨1,by decide,rfl⟩
 |1,_=>exact ⟨2,by decide,rfl⟩
 |2,_=>exact ⟨3,by decide,rfl⟩
 |3,_=>exact ⟨3,by decide,rfl⟩
 |4,_=>exact ⟨3,by decide,rfl⟩
 |5,_=>exact ⟨3,by decide,rfl⟩
theorem adX (m:Nat) (h:m<2): ∃k:Int,(#[Value.int .i64 0, .int .i64 6]:Array Value)[m]? =some (.int .i64 k):=by
 match m,h with
 |0,_=>exact ⟨0,rfl⟩
 |1,_=>exact ⟨6,rfl⟩
def gH (i:It):Prop:=i.2.1.size≤13∧(∀c∈i.2.2.1,c.2.1.size≤60)∧i.2.2.1.length≤60∧i.2.2.2.size≤61
structure StI (w0 w:World) (R P b:Nat) (i:It) (u:Value):Prop where
 it:It4 w b (.int .i64 i.1) (.string i.2.1) u (.string i.2.2.2)
 res:It4 w w0.heap.size (.int .i64 0) (.string ⟨#[]⟩) (.slice none 0 0) (.string ⟨#[]⟩)
 row: ∃B,b<B∧RowK B w u i.2.2.1
 few:gH i
 rd:Rdm w R P
 gr:w0.grownBy w (some R)
 lo:w0.heap.size<b
 Rb:R<w0.heap.size
theorem It4.grownR {W w1:World} {B R:Nat} {x0 x1 x2 x3:Value} (h:It4 W B x0 x1 x2 x3) (hg:W.grownBy w1 (some R)) (hn:R≠B):It4 w1 B x0 x1 x2 x3:=by
 obtain ⟨⟨h1,h2,h3,h4⟩,⟨f1,f2,f3,f4⟩,h5⟩:=h;have hb:w1.heap[B]? =W.heap[B]? :=hg.block B h5 (fun e=>hn (Option.some.inj e).symm)
 have hc: ∀i,w1.cell? ⟨B,i,none⟩=W.cell? ⟨B,i,none⟩:=fun i=>by simp [World.cell?,hb]
 have hf: ∀i,w1.frozen? ⟨B,i,none⟩=W.frozen? ⟨B,i,none⟩:=fun i=>by simp [World.frozen?,hb]
 have hs:=hg.size;exact ⟨⟨(hc _).trans h1,(hc _).trans h2,(hc _).trans h3,(hc _).trans h4⟩,⟨(hf _).trans f1,(hf _).trans f2,(hf _).trans f3,(hf _).trans f4⟩,by omega⟩
theorem StI.call {w0 w w':World} {R P Q b:Nat} {i:It} {u:Value} (h:StI w0 w R P b i u) (hg:w.grownBy w' (some R)) (hr:Rdm w' R Q):StI w0 w' R Q b i u:=by
 obtain ⟨B,hB,hk⟩:=h.row;have Hr:=h.lo;have M7:=h.Rb;exact ⟨h.it.grownR hg (by omega),h.res.grownR hg (by omega),⟨B,hB,hk.keep (fun x hx Ab=>hg.block x Ab (fun e=>by injection e with e;omega)) hg.size⟩,h.few,hr,af h.gr hg,Hr,M7⟩
theorem StI.alloc {w0 w:World} {R P b:Nat} {i:It} {u:Value} (h:StI w0 w R P b i u) (o:Obj):StI w0 (w.alloc o) R P b i u:=
 h.call (agF w o (some R)) (h.rd.kept (agF w o none) (by simp))
theorem StI.more {w0 w:World} {R P Q b:Nat} {i:It} {u:Value} (h:StI w0 w R P b i u) (hq:P≤Q):StI w0 w R Q b i u:=⟨h.it,h.res,h.row,h.few,h.rd.mono hq,h.gr,h.lo,h.Rb⟩
theorem It4.setO {W:World} {B b j:Nat} {x0 x1 x2 x3:Value} (h:It4 W B x0 x1 x2 x3) (hb:B≠b) (x:Value):It4 (W.setCell ⟨b,j,none⟩ x) B x0 x1 x2 x3:=by
 obtain ⟨⟨h1,h2,h3,h4⟩,⟨f1,f2,f3,f4⟩,h5⟩:=h;have hq:(W.setCell ⟨b,j,none⟩ x).heap[B]? =W.heap[B]? :=Below.heap_setCell _ _ _ _ hb
 have hc: ∀i,(W.setCell ⟨b,j,none⟩ x).cell? ⟨B,i,none⟩=W.cell? ⟨B,i,none⟩:=fun i=>by simp [World.cell?,hq]
 have hf: ∀i,(W.setCell ⟨b,j,none⟩ x).frozen? ⟨B,i,none⟩=W.frozen? ⟨B,i,none⟩:=fun i=>by simp [World.frozen?,hq]
 exact ⟨⟨(hc _).trans h1,(hc _).trans h2,(hc _).trans h3,(hc _).trans h4⟩,⟨(hf _).trans f1,(hf _).trans f2,(hf _).trans f3,(hf _).trans f4⟩,by simpa [World.setCell] using h5⟩
theorem StI.base {w0 w:World} {R P b:Nat} {i:It} {u:Value} (h:StI w0 w R P b i u) (j:Nat) (x:Value):It4 (w.setCell ⟨b,j,none⟩ x) w0.heap.size (.int .i64 0) (.string ⟨#[]⟩) (.slice none 0 0) (.string ⟨#[]⟩)∧(∀(l:List Cl) (v:Value) (B:Nat),b<B→RowK B w v l→RowK B (w.setCell ⟨b,j,none⟩ x) v l)∧Rdm (w.setCell ⟨b,j,none⟩ x) R P∧w0.grownBy (w.setCell ⟨b,j,none⟩ x) (some R):=by
 have Hr:=h.lo;have M7:=h.Rb
 have hs:(w.setCell ⟨b,j,none⟩ x).heap.size=w.heap.size:=by simp [World.setCell]
 have hg:w.grownBy (w.setCell ⟨b,j,none⟩ x) (some b):=⟨rfl,rfl,rfl,by rw [hs];exact agD _,fun k hk hn=>Below.heap_setCell _ _ _ _ (fun e=>hn (by rw [e]))⟩;exact ⟨h.res.setO (by omega) x,fun l v B hB hk=>hk.keep (fun y hy _=>Below.heap_setCell _ _ _ _ (show y≠b by omega)) (by rw [hs];exact agD _),h.rd.kept hg (fun k hk=>by injection hk with hk;omega),dZ h.gr hg (fun k hk=>by injection hk with hk;omega)⟩
theorem StI.setK {w0 w:World} {R P b:Nat} {i:It} {u:Value} (h:StI w0 w R P b i u) (x:Int):StI w0 (w.setCell ⟨b,0,none⟩ (.int .i64 x)) R P b (x,i.2) u:=by
 obtain ⟨b1,b2,b3,b4⟩:=h.base 0 (.int .i64 x);obtain ⟨B,hB,hk⟩:=h.row;obtain ⟨⟨h1,h2,h3,h4⟩,⟨f1,f2,f3,f4⟩,h5⟩:=h.it
 refine ⟨⟨⟨?_, ?_, ?_, ?_⟩,⟨?_, ?_, ?_, ?_⟩,by simpa [World.setCell] using h5⟩,b1,⟨B,hB,b2 _ _ B hB hk⟩,h.few,b3,b4,h.lo,h.Rb⟩<;>simp [go_sem,h1,h2,h3,h4,f1,f2,f3,f4]
theorem StI.setN {w0 w:World} {R P b:Nat} {i:It} {u:Value} (h:StI w0 w R P b i u) (x:ByteArray) (hx:x.size≤13):StI w0 (w.setCell ⟨b,1,none⟩ (.string x)) R P b (i.1,x,i.2.2) u:=by
 obtain ⟨b1,b2,b3,b4⟩:=h.base 1 (.string x);obtain ⟨B,hB,hk⟩:=h.row;obtain ⟨⟨h1,h2,h3,h4⟩,⟨f1,f2,f3,f4⟩,h5⟩:=h.it
 refine ⟨⟨⟨?_, ?_, ?_, ?_⟩,⟨?_, ?_, ?_, ?_⟩,by simpa [World.setCell] using h5⟩,b1,⟨B,hB,b2 _ _ B hB hk⟩,⟨hx,h.few.2⟩,b3,b4,h.lo,h.Rb⟩<;>simp [go_sem,h1,h2,h3,h4,f1,f2,f3,f4]
theorem StI.setT {w0 w:World} {R P b:Nat} {i:It} {u:Value} (h:StI w0 w R P b i u) (x:ByteArray) (hx:x.size≤61):StI w0 (w.setCell ⟨b,3,none⟩ (.string x)) R P b (i.1,i.2.1,i.2.2.1,x) u:=by
 obtain ⟨b1,b2,b3,b4⟩:=h.base 3 (.string x);obtain ⟨B,hB,hk⟩:=h.row;obtain ⟨⟨h1,h2,h3,h4⟩,⟨f1,f2,f3,f4⟩,h5⟩:=h.it
 refine ⟨⟨⟨?_, ?_, ?_, ?_⟩,⟨?_, ?_, ?_, ?_⟩,by simpa [World.setCell] using h5⟩,b1,⟨B,hB,b2 _ _ B hB hk⟩,⟨h.few.1,h.few.2.1,h.few.2.2.1,hx⟩,b3,b4,h.lo,h.Rb⟩<;>simp [go_sem,h1,h2,h3,h4,f1,f2,f3,f4]
theorem StI.setE {w0 w:World} {R P b B:Nat} {i:It} {u v:Value} {l:List Cl} (h:StI w0 w R P b i u) (hB:b<B) (hk:RowK B w v l) (hs: ∀c∈l,c.2.1.size≤60) (hl:l.length≤60):StI w0 (w.setCell ⟨b,2,none⟩ v) R P b (i.1,i.2.1,l,i.2.2.2) v:=by
 obtain ⟨b1,b2,b3,b4⟩:=h.base 2 v;obtain ⟨⟨h1,h2,h3,h4⟩,⟨f1,f2,f3,f4⟩,h5⟩:=h.it
 refine ⟨⟨⟨?_, ?_, ?_, ?_⟩,⟨?_, ?_, ?_, ?_⟩,by simpa [World.setCell] using h5⟩,b1,⟨B,hB,b2 _ _ B hB hk⟩,⟨h.few.1,hs,hl,h.few.2.2.2⟩,b3,b4,h.lo,h.Rb⟩<;>simp [go_sem,h1,h2,h3,h4,f1,f2,f3,f4]
def aeJ (R p:Nat) (w:World) (e:Ending) (w':World):Prop:=
 ∃(i:It) (a:Option Addr) (c:Nat),e= .returned (.agg #[.int .i64 i.1, .string i.2.1, .slice a i.2.2.1.length c, .string i.2.2.2])∧RowK w.heap.size w' (.slice a i.2.2.1.length c) i.2.2.1∧gH i∧Rdm w' R (p+3000)∧w.grownBy w' (some R)
theorem StI.fin {w0 w:World} {R p P b c:Nat} {i:It} {a:Option Addr} (h:StI w0 w R P b i (.slice a i.2.2.1.length c)) (hP:P≤p+3000):
  aeJ R p w0 (.returned (.agg #[.int .i64 i.1, .string i.2.1, .slice a i.2.2.1.length c, .string i.2.2.2])) ((((w.setCell ⟨w0.heap.size,0,none⟩ (.int .i64 i.1)).setCell ⟨w0.heap.size,1,none⟩ (.string i.2.1)).setCell ⟨w0.heap.size,2,none⟩ (.slice a i.2.2.1.length c)).setCell ⟨w0.heap.size,3,none⟩ (.string i.2.2.2)):=by
 have Hr:=h.lo;have M7:=h.Rb;obtain ⟨B,hB,hk⟩:=h.row
 have hs: ∀(x:World) (j:Nat) (y:Value),(x.setCell ⟨w0.heap.size,j,none⟩ y).heap.size=x.heap.size:=fun x j y=>by simp [World.setCell]
 have Ej: ∀(x:World) (j:Nat) (y:Value),x.grownBy (x.setCell ⟨w0.heap.size,j,none⟩ y) (some w0.heap.size):=fun x j y=>⟨rfl,rfl,rfl,by rw [hs];exact agD _,fun k hk hn=>Below.heap_setCell _ _ _ _ (fun e=>hn (by rw [e]))⟩
 have hg:=af (af (af (Ej w 0 (.int .i64 i.1)) (Ej _ 1 (.string i.2.1))) (Ej _ 2 (.slice a i.2.2.1.length c))) (Ej _ 3 (.string i.2.2.2));exact ⟨i,a,c,rfl,(hk.keep (fun x hx Ab=>hg.block x Ab (fun e=>by injection e with e;omega)) hg.size).lower (by omega),h.few,(h.rd.kept hg (fun k hk=>by injection hk with hk;omega)).mono hP,dZ h.gr hg (fun k hk=>by injection hk with hk;omega)⟩
theorem oj (R p:Nat) (n:Int) (w:World) (hp:p+4000<100000000) (Ch:0≤n) (BO:n≤1000) (h:Rdm w R p):
  Calls Tryz.prog 127 #[.pointer (some ⟨R,0,none⟩), .int .i64 n] w (aeJ R p w):=by
 have BG:=agC h.lt;have Tp:=agC ((h.kept (agF w (.cells #[.int .i64 0, .string ⟨#[]⟩, .slice none 0 0, .string ⟨#[]⟩] 32) none) (by simp)).kept (agF (w.alloc (.cells #[.int .i64 0, .string ⟨#[]⟩, .slice none 0 0, .string ⟨#[]⟩] 32)) (.cells #[Value.int .i64 1, .int .i64 2, .int .i64 3, .int .i64 3, .int .i64 3, .int .i64 3] 3) none) (by simp));have Tq:=agC (bq (agF w (.cells #[.int .i64 0, .string ⟨#[]⟩, .slice none 0 0, .string ⟨#[]⟩] 32) (some R)) (.cells #[Value.int .i64 1, .int .i64 2, .int .i64 3, .int .i64 3, .int .i64 3, .int .i64 3] 3));have Tr:=agC ((It4.new w (.int .i64 0) (.string ⟨#[]⟩) (.slice none 0 0) (.string ⟨#[]⟩) 32).al (.cells #[Value.int .i64 1, .int .i64 2, .int .i64 3, .int .i64 3, .int .i64 3, .int .i64 3] 3));clear h
 go_enter Tryz.func127,Tryz.ntmps127
 go_wp2_with fail;refine (aj R p 6 _ (by omega) Tp.out).mono ?_;rintro e w1 ⟨j,rfl,Ed,CE,-,Ck,hg1,-⟩;have Hj:=CE (by omega);obtain ⟨j1,rfl⟩:=agG Ed;obtain ⟨kk,EF,Aq⟩:=ab5 j1 (by omega);have hcell:=gj BG.out hg1 Aq
 have Ot:w.heap.size+2≤w1.heap.size:=by have:=hg1.size;simpa using this
 have EH:=agC (Tr.out.grownR hg1 (by have:=BG.out;omega));have Cr:=agC (af Tq.out hg1);have DI:=agC Ck;clear CE hg1 Ck Aq
 rcases EF with rfl|rfl|rfl
 case' inl=>
  have S10:=agC (show StI w (w1.alloc (.cells #[.int .i64 1, .string ⟨#[]⟩, .slice none 0 0, .string ⟨#[]⟩] 32)) R (p+1) w1.heap.size (1,⟨#[]⟩,[],⟨#[]⟩) (.slice none 0 0) from
   ⟨It4.new w1 _ _ _ _ _,EH.out.al _,⟨w1.heap.size+1,by omega,fun w' _ _=>⟨none,0,rfl,agD _,by unfold maxLen;omega, .inl rfl⟩⟩,⟨by show (0:Nat)≤13;omega,fun c hc=>(by cases hc),by simp,by show (0:Nat)≤61;omega⟩,DI.out.kept (agF w1 _ none) (by simp),bq Cr.out _,by omega,BG.out⟩)
  obtain ⟨⟨a0,a1,a2,a3⟩,⟨b0,b1,b2,b3⟩,-⟩:=S10.out.it;obtain ⟨⟨c0,c1,c2,c3⟩,⟨d0,d1,d2,d3⟩,-⟩:=S10.out.res;have SX:=agC (S10.out.more (show p+1≤p+1900 by omega))
 case' inr.inl=>
  have S10:=agC (show StI w (w1.alloc (.cells #[.int .i64 2, .string ⟨#[]⟩, .slice none 0 0, .string ⟨#[]⟩] 32)) R (p+1) w1.heap.size (2,⟨#[]⟩,[],⟨#[]⟩) (.slice none 0 0) from
   ⟨It4.new w1 _ _ _ _ _,EH.out.al _,⟨w1.heap.size+1,by omega,fun w' _ _=>⟨none,0,rfl,agD _,by unfold maxLen;omega, .inl rfl⟩⟩,⟨by show (0:Nat)≤13;omega,fun c hc=>(by cases hc),by simp,by show (0:Nat)≤61;omega⟩,DI.out.kept (agF w1 _ none) (by simp),bq Cr.out _,by omega,BG.out⟩)
  obtain ⟨⟨a0,a1,a2,a3⟩,⟨b0,b1,b2,b3⟩,-⟩:=S10.out.it;obtain ⟨⟨c0,c1,c2,c3⟩,⟨d0,d1,d2,d3⟩,-⟩:=S10.out.res;go_wp2_with fail;refine (oM R (p+1) 0 _ (by omega) (by omega) (by omega) S10.out.rd).mono ?_;rintro e Nd ⟨nt,rfl,JL,GI,FK⟩;have S11:=agC (S10.out.call FK GI);have SX:=agC ((S11.out.setT nt JL).more (show p+1+2≤p+1900 by omega));clear GI FK;clear a0 a1 a2 a3 b0 b1 b2 b3 c0 c1 c2 c3 d0 d1 d2 d3;obtain ⟨⟨a0,a1,a2,a3⟩,⟨b0,b1,b2,b3⟩,-⟩:=S11.out.it;obtain ⟨⟨c0,c1,c2,c3⟩,⟨d0,d1,d2,d3⟩,-⟩:=S11.out.res
  go_upto_region 12 with (fail)
  clear a0 a1 a2 a3 b0 b1 b2 b3 c0 c1 c2 c3 d0 d1 d2 d3;obtain ⟨⟨a0,a1,a2,a3⟩,⟨b0,b1,b2,b3⟩,-⟩:=SX.out.it;obtain ⟨⟨c0,c1,c2,c3⟩,⟨d0,d1,d2,d3⟩,-⟩:=SX.out.res
 case' inr.inr=>
  have S10:=agC (show StI w (w1.alloc (.cells #[.int .i64 3, .string ⟨#[]⟩, .slice none 0 0, .string ⟨#[]⟩] 32)) R (p+1) w1.heap.size (3,⟨#[]⟩,[],⟨#[]⟩) (.slice none 0 0) from
   ⟨It4.new w1 _ _ _ _ _,EH.out.al _,⟨w1.heap.size+1,by omega,fun w' _ _=>⟨none,0,rfl,agD _,by unfold maxLen;omega, .inl rfl⟩⟩,⟨by show (0:Nat)≤13;omega,fun c hc=>(by cases hc),by simp,by show (0:Nat)≤61;omega⟩,DI.out.kept (agF w1 _ none) (by simp),bq Cr.out _,by omega,BG.out⟩)
  obtain ⟨⟨a0,a1,a2,a3⟩,⟨b0,b1,b2,b3⟩,-⟩:=S10.out.it;obtain ⟨⟨c0,c1,c2,c3⟩,⟨d0,d1,d2,d3⟩,-⟩:=S10.out.res;go_wp2_with fail;refine (aj R (p+1) 5 _ (by omega) (S10.out.alloc (.cells #[Value.string ⟨#[97]⟩, .string ⟨#[98]⟩, .string ⟨#[99]⟩, .string ⟨#[120,49]⟩, .string ⟨#[108,111,110,103,95,110,97,109,101]⟩] 9)).rd).mono ?_;rintro e Nd ⟨m,rfl,GJ,Co,-,GI,FK,-⟩;have DZ:=Co (by omega);obtain ⟨m1,rfl⟩:=agG GJ;obtain ⟨nm,EK,Aq⟩:=ab4 m1 (by omega);have OV:=gj (o:= .cells #[.int .i64 3, .string ⟨#[]⟩, .slice none 0 0, .string ⟨#[]⟩] 32) DI.out.lt FK Aq;have S11:=agC ((S10.out.alloc (.cells #[Value.string ⟨#[97]⟩, .string ⟨#[98]⟩, .string ⟨#[99]⟩, .string ⟨#[120,49]⟩, .string ⟨#[108,111,110,103,95,110,97,109,101]⟩] 9)).call FK GI);have S12:=agC (S11.out.setN nm EK);clear Co GI FK Aq;clear a0 a1 a2 a3 b0 b1 b2 b3 c0 c1 c2 c3 d0 d1 d2 d3;obtain ⟨⟨a0,a1,a2,a3⟩,⟨b0,b1,b2,b3⟩,-⟩:=S11.out.it;obtain ⟨⟨c0,c1,c2,c3⟩,⟨d0,d1,d2,d3⟩,-⟩:=S11.out.res;go_wp2_with fail;refine (sQ R (p+1+1) 0 _ (by omega) (by omega) (by omega) S12.out.rd).mono ?_;rintro e Vv ⟨vx,lx,rfl,OW,Nf,OX,-,LT,LU⟩;have S13:=agC (S12.out.call LU LT);have S14:=agC (S13.out.setE (S12.out.it.2.2) OW Nf OX)
  obtain ⟨ax,cx,rfl⟩: ∃a c,vx= .slice a lx.length c:=by obtain ⟨a,c,h,-⟩:=OW.row;exact ⟨a,c,h⟩
  clear LT LU OW Nf OX;clear a0 a1 a2 a3 b0 b1 b2 b3 c0 c1 c2 c3 d0 d1 d2 d3;obtain ⟨⟨a0,a1,a2,a3⟩,⟨b0,b1,b2,b3⟩,-⟩:=S13.out.it;obtain ⟨⟨c0,c1,c2,c3⟩,⟨d0,d1,d2,d3⟩,-⟩:=S13.out.res;go_wp2_with fail;refine (aj R (p+1+1+1000) 2 _ (by omega) S14.out.rd).mono ?_;rintro e Vw ⟨y,rfl,Fo,EU,-,LV,LW,-⟩;have Lb:=EU (by omega);have S15:=agC (S14.out.call LW LV);clear EU LV LW;clear a0 a1 a2 a3 b0 b1 b2 b3 c0 c1 c2 c3 d0 d1 d2 d3;obtain ⟨⟨a0,a1,a2,a3⟩,⟨b0,b1,b2,b3⟩,-⟩:=S15.out.it;obtain ⟨⟨c0,c1,c2,c3⟩,⟨d0,d1,d2,d3⟩,-⟩:=S15.out.res
  by_cases hy:y=0
  case' pos=>
   subst hy;go_wp2_with fail;refine (aj R (p+1+1+1000+1) 3 _ (by omega) S15.out.rd).mono ?_;rintro e Vx ⟨x,rfl,DH,Cw,-,LX,LY,-⟩;have EJ:=Cw (by omega);have S16:=agC (S15.out.call LY LX);clear Cw LX LY;clear a0 a1 a2 a3 b0 b1 b2 b3 c0 c1 c2 c3 d0 d1 d2 d3;obtain ⟨⟨a0,a1,a2,a3⟩,⟨b0,b1,b2,b3⟩,-⟩:=S16.out.it;obtain ⟨⟨c0,c1,c2,c3⟩,⟨d0,d1,d2,d3⟩,-⟩:=S16.out.res;go_wp2_with fail;refine (aj R (p+1+1+1000+2) 3 _ (by omega) S16.out.rd).mono ?_;rintro e Tt ⟨q,rfl,KB,Cn,-,LZ,L0,-⟩;have CL:=Cn (by omega);have S17:=agC (S16.out.call L0 LZ);clear Cn LZ L0;clear a0 a1 a2 a3 b0 b1 b2 b3 c0 c1 c2 c3 d0 d1 d2 d3;obtain ⟨⟨a0,a1,a2,a3⟩,⟨b0,b1,b2,b3⟩,-⟩:=S17.out.it;obtain ⟨⟨c0,c1,c2,c3⟩,⟨d0,d1,d2,d3⟩,-⟩:=S17.out.res;obtain ⟨x1,rfl⟩:=agG DH;have Lc:=agC (yQ (1+x1) (by omega) q (by omega) R (p+1+1+1000+3) Tt (by omega) S17.out.rd);rw [show ((1+x1:Nat):Int)=1+(x1:Int) by omega] at Lc;go_wp2_with fail;refine Lc.out.mono ?_;rintro e Vy ⟨vy,ly,rfl,OY,Q3,Tu,Tv,L3,L4⟩;have S18:=agC (S17.out.call L4 L3);have SY:=agC (S18.out.setE (S17.out.it.2.2) (RowK.of_own OY (agD _)) (fun c hc=>Nat.le_trans (Q3 c hc) (by omega)) (by omega));obtain ⟨ay,cy,rfl⟩:=aN OY;clear L3 L4 OY Q3 Tv Tu;clear a0 a1 a2 a3 b0 b1 b2 b3 c0 c1 c2 c3 d0 d1 d2 d3;obtain ⟨⟨a0,a1,a2,a3⟩,⟨b0,b1,b2,b3⟩,-⟩:=S18.out.it;obtain ⟨⟨c0,c1,c2,c3⟩,⟨d0,d1,d2,d3⟩,-⟩:=S18.out.res
   go_upto_region 10 with (fail)
   clear a0 a1 a2 a3 b0 b1 b2 b3 c0 c1 c2 c3 d0 d1 d2 d3;obtain ⟨⟨a0,a1,a2,a3⟩,⟨b0,b1,b2,b3⟩,-⟩:=SY.out.it;obtain ⟨⟨c0,c1,c2,c3⟩,⟨d0,d1,d2,d3⟩,-⟩:=SY.out.res
  case' neg=>
   have QE:(y==0)=false:=beq_eq_false_iff_ne.mpr hy;have SY:=agC (S15.out.more (show p+1+1+1000+1≤p+1+1+1000+3+800 by omega))
  all_goals
   (try go_wp2_with fail)
   refine (aj R _ 3 _ (by omega) SY.out.rd).mono ?_;rintro e Vz ⟨z,rfl,Az,Ax,-,L6,L7,-⟩;have AC:=Ax (by omega);have S20:=agC (SY.out.call L7 L6);clear Ax L6 L7;clear a0 a1 a2 a3 b0 b1 b2 b3 c0 c1 c2 c3 d0 d1 d2 d3;obtain ⟨⟨a0,a1,a2,a3⟩,⟨b0,b1,b2,b3⟩,-⟩:=S20.out.it;obtain ⟨⟨c0,c1,c2,c3⟩,⟨d0,d1,d2,d3⟩,-⟩:=S20.out.res
   by_cases hz:z=0
   case' pos=>
    subst hz;go_wp2_with fail;refine (oM R _ 0 _ (by omega) (by omega) (by omega) S20.out.rd).mono ?_;rintro e VA ⟨nt,rfl,JL,L8,Ma⟩;have S21:=agC (S20.out.call Ma L8);have SX:=agC ((S21.out.setT nt JL).more (show _≤p+1900 by omega));clear L8 Ma;clear a0 a1 a2 a3 b0 b1 b2 b3 c0 c1 c2 c3 d0 d1 d2 d3;obtain ⟨⟨a0,a1,a2,a3⟩,⟨b0,b1,b2,b3⟩,-⟩:=S21.out.it;obtain ⟨⟨c0,c1,c2,c3⟩,⟨d0,d1,d2,d3⟩,-⟩:=S21.out.res
    go_upto_region 12 with (fail)
    clear a0 a1 a2 a3 b0 b1 b2 b3 c0 c1 c2 c3 d0 d1 d2 d3;obtain ⟨⟨a0,a1,a2,a3⟩,⟨b0,b1,b2,b3⟩,-⟩:=SX.out.it;obtain ⟨⟨c0,c1,c2,c3⟩,⟨d0,d1,d2,d3⟩,-⟩:=SX.out.res
   case' neg=>
    have Hi:(z==0)=false:=beq_eq_false_iff_ne.mpr hz;have SX:=agC (S20.out.more (show _≤p+1900 by omega))
 all_goals
  (try go_wp2_with fail)
  refine (fH R (p+1900) n _ (by omega) (by omega) (by omega) SX.out.rd).mono ?_;rintro e wo ⟨bo,rfl,-,FV,B5,-⟩;have SO:=agC (SX.out.call B5 FV);clear FV B5;clear a0 a1 a2 a3 b0 b1 b2 b3 c0 c1 c2 c3 d0 d1 d2 d3;obtain ⟨⟨a0,a1,a2,a3⟩,⟨b0,b1,b2,b3⟩,-⟩:=SO.out.it;obtain ⟨⟨c0,c1,c2,c3⟩,⟨d0,d1,d2,d3⟩,-⟩:=SO.out.res
  cases bo with
  |false=>
   have TX:=agC SO.out;have HF:=agC (TX.out.fin (p:=p) (by omega));go_wp2;exact bodyPost_ret (by simp [results,Tryz.results127,go_sem,c0,c1,c2,c3]) rfl HF.out
  |true=>
   go_wp2_with fail;refine (aj R (p+1900+1) 5 _ (by omega) SO.out.rd).mono ?_;rintro e wp ⟨m,rfl,GJ,Co,-,Q4,Q5,-⟩;have DZ:=Co (by omega);have SP:=agC (SO.out.call Q5 Q4);clear Co Q4 Q5;clear a0 a1 a2 a3 b0 b1 b2 b3 c0 c1 c2 c3 d0 d1 d2 d3;obtain ⟨⟨a0,a1,a2,a3⟩,⟨b0,b1,b2,b3⟩,-⟩:=SP.out.it;obtain ⟨⟨c0,c1,c2,c3⟩,⟨d0,d1,d2,d3⟩,-⟩:=SP.out.res
   have Ts:m=0∨m=1∨m=2∨m=3∨m=4:=by omega
   clear GJ DZ
   rcases Ts with rfl|rfl|rfl|rfl|rfl
   ·go_wp2_with fail
    refine (aj R _ 2 _ (by omega) (SP.out.alloc (.cells #[Value.int .i64 0, .int .i64 6] 3)).rd).mono ?_;rintro e wq ⟨q,rfl,KB,Cn,-,Fv,FL,-⟩;have CL:=Cn (by omega);obtain ⟨q1,rfl⟩:=agG KB;obtain ⟨t,Aq⟩:=adX q1 (by omega);have hcell:=cX SP.out.rd.lt FL Aq;have SQ:=agC ((SP.out.alloc (.cells #[Value.int .i64 0, .int .i64 6] 3)).call FL Fv);clear Cn Fv FL Aq;clear a0 a1 a2 a3 b0 b1 b2 b3 c0 c1 c2 c3 d0 d1 d2 d3;obtain ⟨⟨a0,a1,a2,a3⟩,⟨b0,b1,b2,b3⟩,-⟩:=SQ.out.it;obtain ⟨⟨c0,c1,c2,c3⟩,⟨d0,d1,d2,d3⟩,-⟩:=SQ.out.res;have TX:=agC (SQ.out.setK t);have HF:=agC (TX.out.fin (p:=p) (by omega));go_wp2;exact bodyPost_ret (by simp [results,Tryz.results127,go_sem,c0,c1,c2,c3]) rfl HF.out
   ·go_wp2_with fail
    refine (aj R _ 3 _ (by omega) (SP.out.alloc (.cells #[Value.string ⟨#[113,46,97]⟩, .string ⟨#[]⟩, .string ⟨#[116,114,117,101]⟩] 9)).rd).mono ?_;rintro e wq ⟨q,rfl,KB,Cn,-,Fv,FL,-⟩;have CL:=Cn (by omega);obtain ⟨q1,rfl⟩:=agG KB;obtain ⟨t,ht,Aq⟩:=afn q1 (by omega);have hcell:=cX SP.out.rd.lt FL Aq;have SQ:=agC ((SP.out.alloc (.cells #[Value.string ⟨#[113,46,97]⟩, .string ⟨#[]⟩, .string ⟨#[116,114,117,101]⟩] 9)).call FL Fv);clear Cn Fv FL Aq;clear a0 a1 a2 a3 b0 b1 b2 b3 c0 c1 c2 c3 d0 d1 d2 d3;obtain ⟨⟨a0,a1,a2,a3⟩,⟨b0,b1,b2,b3⟩,-⟩:=SQ.out.it;obtain ⟨⟨c0,c1,c2,c3⟩,⟨d0,d1,d2,d3⟩,-⟩:=SQ.out.res;have TX:=agC (SQ.out.setN t ht);have HF:=agC (TX.out.fin (p:=p) (by omega));go_wp2;exact bodyPost_ret (by simp [results,Tryz.results127,go_sem,c0,c1,c2,c3]) rfl HF.out
   ·go_wp2_with fail
    refine (oM R _ 1 _ (by omega) (by omega) (by omega) SP.out.rd).mono ?_;rintro e wq ⟨t,rfl,ht,Fv,FL⟩;have SQ:=agC (SP.out.call FL Fv);clear Fv FL;clear a0 a1 a2 a3 b0 b1 b2 b3 c0 c1 c2 c3 d0 d1 d2 d3;obtain ⟨⟨a0,a1,a2,a3⟩,⟨b0,b1,b2,b3⟩,-⟩:=SQ.out.it;obtain ⟨⟨c0,c1,c2,c3⟩,⟨d0,d1,d2,d3⟩,-⟩:=SQ.out.res;have TX:=agC (SQ.out.setT t ht);have HF:=agC (TX.out.fin (p:=p) (by omega));go_wp2;exact bodyPost_ret (by simp [results,Tryz.results127,go_sem,c0,c1,c2,c3]) rfl HF.out
   ·go_wp2_with fail
    refine (sQ R _ 1 _ (by omega) (by omega) (by omega) SP.out.rd).mono ?_;rintro e wq ⟨vz,lz,rfl,Kf,Mb,Q6,-,Fv,FL⟩;have SQ:=agC (SP.out.call FL Fv);have TX:=agC (SQ.out.setE (SP.out.it.2.2) Kf Mb Q6)
    obtain ⟨az,cz,rfl⟩: ∃a c,vz= .slice a lz.length c:=by obtain ⟨a,c,h,-⟩:=Kf.row;exact ⟨a,c,h⟩
    clear Fv FL Kf Mb Q6;clear a0 a1 a2 a3 b0 b1 b2 b3 c0 c1 c2 c3 d0 d1 d2 d3;obtain ⟨⟨a0,a1,a2,a3⟩,⟨b0,b1,b2,b3⟩,-⟩:=SQ.out.it;obtain ⟨⟨c0,c1,c2,c3⟩,⟨d0,d1,d2,d3⟩,-⟩:=SQ.out.res;have HF:=agC (TX.out.fin (p:=p) (by omega));go_wp2;exact bodyPost_ret (by simp [results,Tryz.results127,go_sem,c0,c1,c2,c3]) rfl HF.out
   ·have TX:=agC (SP.out.setK 5)
    have HF:=agC (TX.out.fin (p:=p) (by omega));go_wp2;exact bodyPost_ret (by simp [results,Tryz.results127,go_sem,c0,c1,c2,c3]) rfl HF.out
end Go.Proofs.YtegdjjjpoahamaaGreatDoor
