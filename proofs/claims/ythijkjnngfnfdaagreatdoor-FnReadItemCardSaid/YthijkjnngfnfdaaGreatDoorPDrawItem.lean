/-
  Drawn items: spec.l20Item.
-/
import Derived.Test.YthijkjnngfnfdaaGreatDoorZz
import Derived.Test.YthijkjnngfnfdaaGreatDoorPDrawExprG
import Derived.Test.YthijkjnngfnfdaaGreatDoorPDrawTypA
import Derived.Test.YthijkjnngfnfdaaGreatDoorPDrawNote
import Derived.Test.YthijkjnngfnfdaaGreatDoorPDrawName
import Derived.Test.YthijkjnngfnfdaaGreatDoorPPushI
set_option linter.unusedVariables false
set_option maxHeartbeats 20000000
set_option maxRecDepth 100000
namespace Go.Proofs.YthijkjnngfnfdaaGreatDoor
open Go.RowKit
theorem acR (m:Nat) (h:m<5): ∃t:ByteArray,t.size≤13∧(#[Value.string ⟨#[97]⟩, .string ⟨#[98]⟩, .string ⟨#[99]⟩, .string ⟨#[120,49]⟩, .string ⟨#[108,111,110,103,95,110,97,109,101]⟩]:Array Value)[m]? =some (.string t):=by
 match m,h with
 |0,_=>exact ⟨_,by decide,rfl⟩
 |1,_=>exact ⟨_,by decide,rfl⟩
 |2,_=>exact ⟨_,by decide,rfl⟩
 |3,_=>exact ⟨_,by decide,rfl⟩
 |4,_=>exact ⟨_,by decide,rfl⟩
theorem nL (m:Nat) (h:m<3): ∃t:ByteArray,t.size≤13∧(#[Value.string ⟨#[113,46,97]⟩, .string ⟨#[]⟩, .string ⟨#[116,114,117,101]⟩]:Array Value)[m]? =some (.string t):=by
 match m,h with
 |0,_=>exact ⟨_,by decide,rfl⟩
 |1,_=>exact ⟨_,by decide,rfl⟩
 |2,_=>exact ⟨_,by decide,rfl⟩
theorem acS (m:Nat) (h:m<6): ∃k:Nat,(k=1∨k=2∨k=3)∧(#[Value.int .i64 1, .int .i64 2, .int .i64 3, .int .i64 3, .int .i64 3, .int .i64 3]:Array Value)[m]? =some (.int .i64 (k:Int)):=by
 match m,h with
 |0,_=>exact ⟨1,by decide,rfl⟩
 |1,_=>exact ⟨2,by decide,rfl⟩
 |2,_=>exact ⟨3,by decide,rfl⟩
 |3,_=>exact ⟨3,by decide,rfl⟩
 |4,_=>exact ⟨3,by decide,rfl⟩
 |5,_=>exact ⟨3,by decide,rfl⟩
theorem lh (m:Nat) (h:m<2): ∃k:Int,(#[Value.int .i64 0, .int .i64 6]:Array Value)[m]? =some (.int .i64 k):=by
 match m,h with
 |0,_=>exact ⟨0,rfl⟩
 |1,_=>exact ⟨6,rfl⟩
def dT (i:It):Prop:=i.2.1.size≤13∧(∀c∈i.2.2.1,c.2.1.size≤60)∧i.2.2.1.length≤60∧i.2.2.2.size≤61
structure StI (w0 w:World) (R P b:Nat) (i:It) (u:Value):Prop where
 it:It4 w b (.int .i64 i.1) (.string i.2.1) u (.string i.2.2.2)
 res:It4 w w0.heap.size (.int .i64 0) (.string ⟨#[]⟩) (.slice none 0 0) (.string ⟨#[]⟩)
 row: ∃B,b<B∧RowK B w u i.2.2.1
 few:dT i
 rd:Rdm w R P
 gr:w0.grownBy w (some R)
 lo:w0.heap.size<b
 Rb:R<w0.heap.size
theorem It4.grownR {W w1:World} {B R:Nat} {x0 x1 x2 x3:Value} (h:It4 W B x0 x1 x2 x3) (hg:W.grownBy w1 (some R)) (hn:R≠B):It4 w1 B x0 x1 x2 x3:=by
 obtain ⟨⟨h1,h2,h3,h4⟩,⟨f1,f2,f3,f4⟩,h5⟩:=h;have hb:w1.heap[B]? =W.heap[B]? :=hg.block B h5 (fun e=>hn (Option.some.inj e).symm)
 have hc: ∀i,w1.cell? ⟨B,i,none⟩=W.cell? ⟨B,i,none⟩:=fun i=>by simp [World.cell?,hb]
 have hf: ∀i,w1.frozen? ⟨B,i,none⟩=W.frozen? ⟨B,i,none⟩:=fun i=>by simp [World.frozen?,hb]
 have hs:=hg.size;exact ⟨⟨(hc _).trans h1,(hc _).trans h2,(hc _).trans h3,(hc _).trans h4⟩,⟨(hf _).trans f1,(hf _).trans f2,(hf _).trans f3,(hf _).trans f4⟩,by omega⟩
theorem StI.call {w0 w w':World} {R P Q b:Nat} {i:It} {u:Value} (h:StI w0 w R P b i u) (hg:w.grownBy w' (some R)) (hr:Rdm w' R Q):StI w0 w' R Q b i u:=by
 obtain ⟨B,hB,hk⟩:=h.row;have hlo:=h.lo;have hRb:=h.Rb;exact ⟨h.it.grownR hg (by omega),h.res.grownR hg (by omega),⟨B,hB,hk.keep (fun x hx hlt=>hg.block x hlt (fun e=>by injection e with e;omega)) hg.size⟩,h.few,hr,ab h.gr hg,hlo,hRb⟩
theorem StI.alloc {w0 w:World} {R P b:Nat} {i:It} {u:Value} (h:StI w0 w R P b i u) (o:Obj):StI w0 (w.alloc o) R P b i u:=
 h.call (aip w o (some R)) (h.rd.kept (aip w o none) (by simp))
theorem It4.setO {W:World} {B b j:Nat} {x0 x1 x2 x3:Value} (h:It4 W B x0 x1 x2 x3) (hb:B≠b) (x:Value):It4 (W.setCell ⟨b,j,none⟩ x) B x0 x1 x2 x3:=by
 obtain ⟨⟨h1,h2,h3,h4⟩,⟨f1,f2,f3,f4⟩,h5⟩:=h;have hq:(W.setCell ⟨b,j,none⟩ x).heap[B]? =W.heap[B]? :=Below.heap_setCell _ _ _ _ hb
 have hc: ∀i,(W.setCell ⟨b,j,none⟩ x).cell? ⟨B,i,none⟩=W.cell? ⟨B,i,none⟩:=fun i=>by simp [World.cell?,hq]
 have hf: ∀i,(W.setCell ⟨b,j,none⟩ x).frozen? ⟨B,i,none⟩=W.frozen? ⟨B,i,none⟩:=fun i=>by simp [World.frozen?,hq]
 exact ⟨⟨(hc _).trans h1,(hc _).trans h2,(hc _).trans h3,(hc _).trans h4⟩,⟨(hf _).trans f1,(hf _).trans f2,(hf _).trans f3,(hf _).trans f4⟩,by simpa [World.setCell] using h5⟩
theorem StI.base {w0 w:World} {R P b:Nat} {i:It} {u:Value} (h:StI w0 w R P b i u) (j:Nat) (x:Value):It4 (w.setCell ⟨b,j,none⟩ x) w0.heap.size (.int .i64 0) (.string ⟨#[]⟩) (.slice none 0 0) (.string ⟨#[]⟩)∧(∀(l:List Cl) (v:Value) (B:Nat),b<B→RowK B w v l→RowK B (w.setCell ⟨b,j,none⟩ x) v l)∧Rdm (w.setCell ⟨b,j,none⟩ x) R P∧w0.grownBy (w.setCell ⟨b,j,none⟩ x) (some R):=by
 have hlo:=h.lo;have hRb:=h.Rb
 have hs:(w.setCell ⟨b,j,none⟩ x).heap.size=w.heap.size:=by simp [World.setCell]
 have hg:w.grownBy (w.setCell ⟨b,j,none⟩ x) (some b):=⟨rfl,rfl,rfl,by rw [hs];exact ain _,fun k hk hn=>Below.heap_setCell _ _ _ _ (fun e=>hn (by rw [e]))⟩;exact ⟨h.res.setO (by omega) x,fun l v B hB hk=>hk.keep (fun y hy _=>Below.heap_setCell _ _ _ _ (show y≠b by omega)) (by rw [hs];exact ain _),h.rd.kept hg (fun k hk=>by injection hk with hk;omega),az h.gr hg (fun k hk=>by injection hk with hk;omega)⟩
theorem StI.setK {w0 w:World} {R P b:Nat} {i:It} {u:Value} (h:StI w0 w R P b i u) (x:Int):StI w0 (w.setCell ⟨b,0,none⟩ (.int .i64 x)) R P b (x,i.2) u:=by
 obtain ⟨b1,b2,b3,b4⟩:=h.base 0 (.int .i64 x);obtain ⟨B,hB,hk⟩:=h.row;obtain ⟨⟨h1,h2,h3,h4⟩,⟨f1,f2,f3,f4⟩,h5⟩:=h.it
 refine ⟨⟨⟨?_, ?_, ?_, ?_⟩,⟨?_, ?_, ?_, ?_⟩,by simpa [World.setCell] using h5⟩,b1,⟨B,hB,b2 _ _ B hB hk⟩,h.few,b3,b4,h.lo,h.Rb⟩<;>simp [go_sem,h1,h2,h3,h4,f1,f2,f3,f4]
theorem StI.setN {w0 w:World} {R P b:Nat} {i:It} {u:Value} (h:StI w0 w R P b i u) (x:ByteArray) (hx:x.size≤13):StI w0 (w.setCell ⟨b,1,none⟩ (.string x)) R P b (i.1,x,i.2.2) u:=by
 obtain ⟨b1,b2,b3,b4⟩:=h.base 1 (.string x);obtain ⟨B,hB,hk⟩:=h.row;obtain ⟨⟨h1,h2,h3,h4⟩,⟨f1,f2,f3,f4⟩,h5⟩:=h.it
 refine ⟨⟨⟨?_, ?_, ?_, ?_⟩,⟨?_, ?_, ?_, ?_⟩,by simpa [World.setCell] using h5⟩,b1,⟨B,hB,b2 _ _ B hB hk⟩,⟨hx,h.few.2⟩,b3,b4,h.lo,h.Rb⟩<;>simp [go_sem,h1,h2,h3,h4,f1,f2,f3,f4]
theorem StI.setT {w0 w:World} {R P b:Nat} {i:It} {u:Value} (h:StI w0 w R P b i u) (x:ByteArray) (hx:x.size≤61):StI w0 (w.setCell ⟨b,3,none⟩ (.string x)) R P b (i.1,i.2.1,i.2.2.1,x) u:=by
 obtain ⟨b1,b2,b3,b4⟩:=h.base 3 (.string x);obtain ⟨B,hB,hk⟩:=h.row;obtain ⟨⟨h1,h2,h3,h4⟩,⟨f1,f2,f3,f4⟩,h5⟩:=h.it
 refine ⟨⟨⟨?_, ?_, ?_, ?_⟩,⟨?_, ?_, ?_, ?_⟩,by simpa [World.setCell] using h5⟩,b1,⟨B,hB,b2 _ _ B hB hk⟩,⟨h.few.1,h.few.2.1,h.few.2.2.1,hx⟩,b3,b4,h.lo,h.Rb⟩<;>simp [go_sem,h1,h2,h3,h4,f1,f2,f3,f4]
theorem StI.setE {w0 w:World} {R P b B:Nat} {i:It} {u v:Value} {l:List Cl} (h:StI w0 w R P b i u) (hB:b<B) (hk:RowK B w v l) (hs: ∀c∈l,c.2.1.size≤60) (hl:l.length≤60):StI w0 (w.setCell ⟨b,2,none⟩ v) R P b (i.1,i.2.1,l,i.2.2.2) v:=by
 obtain ⟨b1,b2,b3,b4⟩:=h.base 2 v;obtain ⟨⟨h1,h2,h3,h4⟩,⟨f1,f2,f3,f4⟩,h5⟩:=h.it
 refine ⟨⟨⟨?_, ?_, ?_, ?_⟩,⟨?_, ?_, ?_, ?_⟩,by simpa [World.setCell] using h5⟩,b1,⟨B,hB,b2 _ _ B hB hk⟩,⟨h.few.1,hs,hl,h.few.2.2.2⟩,b3,b4,h.lo,h.Rb⟩<;>simp [go_sem,h1,h2,h3,h4,f1,f2,f3,f4]
def agy (R p:Nat) (w:World) (e:Ending) (w':World):Prop:=
 ∃(i:It) (a:Option Addr) (c:Nat),e= .returned (.agg #[.int .i64 i.1, .string i.2.1, .slice a i.2.2.1.length c, .string i.2.2.2])∧RowK w.heap.size w' (.slice a i.2.2.1.length c) i.2.2.1∧dT i∧Rdm w' R (p+3000)∧w.grownBy w' (some R)
theorem StI.fin {w0 w:World} {R p P b c:Nat} {i:It} {a:Option Addr} (h:StI w0 w R P b i (.slice a i.2.2.1.length c)) (hP:P≤p+3000):
  agy R p w0 (.returned (.agg #[.int .i64 i.1, .string i.2.1, .slice a i.2.2.1.length c, .string i.2.2.2])) ((((w.setCell ⟨w0.heap.size,0,none⟩ (.int .i64 i.1)).setCell ⟨w0.heap.size,1,none⟩ (.string i.2.1)).setCell ⟨w0.heap.size,2,none⟩ (.slice a i.2.2.1.length c)).setCell ⟨w0.heap.size,3,none⟩ (.string i.2.2.2)):=by
 have hlo:=h.lo;have hRb:=h.Rb;obtain ⟨B,hB,hk⟩:=h.row
 have hs: ∀(x:World) (j:Nat) (y:Value),(x.setCell ⟨w0.heap.size,j,none⟩ y).heap.size=x.heap.size:=fun x j y=>by simp [World.setCell]
 have hone: ∀(x:World) (j:Nat) (y:Value),x.grownBy (x.setCell ⟨w0.heap.size,j,none⟩ y) (some w0.heap.size):=fun x j y=>⟨rfl,rfl,rfl,by rw [hs];exact ain _,fun k hk hn=>Below.heap_setCell _ _ _ _ (fun e=>hn (by rw [e]))⟩
 have hg:=ab (ab (ab (hone w 0 (.int .i64 i.1)) (hone _ 1 (.string i.2.1))) (hone _ 2 (.slice a i.2.2.1.length c))) (hone _ 3 (.string i.2.2.2));exact ⟨i,a,c,rfl,(hk.keep (fun x hx hlt=>hg.block x hlt (fun e=>by injection e with e;omega)) hg.size).lower (by omega),h.few,(h.rd.kept hg (fun k hk=>by injection hk with hk;omega)).mono hP,az h.gr hg (fun k hk=>by injection hk with hk;omega)⟩
theorem ko (R p:Nat) (n:Int) (w:World) (hp:p+4000<100000000) (hn0:0≤n) (hn1:n≤1000) (h:Rdm w R p):
  Calls Tryz.prog 40 #[.pointer (some ⟨R,0,none⟩), .int .i64 n] w (agy R p w):=by
 have HLT:=aim h.lt;have HR0:=aim ((h.kept (aip w (.cells #[.int .i64 0, .string ⟨#[]⟩, .slice none 0 0, .string ⟨#[]⟩] 25) none) (by simp)).kept (aip (w.alloc (.cells #[.int .i64 0, .string ⟨#[]⟩, .slice none 0 0, .string ⟨#[]⟩] 25)) (.cells #[Value.int .i64 1, .int .i64 2, .int .i64 3, .int .i64 3, .int .i64 3, .int .i64 3] 3) none) (by simp));have HG0:=aim (ae (aip w (.cells #[.int .i64 0, .string ⟨#[]⟩, .slice none 0 0, .string ⟨#[]⟩] 25) (some R)) (.cells #[Value.int .i64 1, .int .i64 2, .int .i64 3, .int .i64 3, .int .i64 3, .int .i64 3] 3));have HZ0:=aim ((It4.new w (.int .i64 0) (.string ⟨#[]⟩) (.slice none 0 0) (.string ⟨#[]⟩) 25).al (.cells #[Value.int .i64 1, .int .i64 2, .int .i64 3, .int .i64 3, .int .i64 3, .int .i64 3] 3));clear h
 go_enter Tryz.func40,Tryz.ntmps40
 go_wp2_with fail;refine (ah R p 6 _ (by omega) HR0.out).mono ?_;rintro e w1 ⟨j,rfl,hj0,hj1,-,hr1,hg1,-⟩;have hj2:=hj1 (by omega);obtain ⟨j1,rfl⟩:=aiq hj0;obtain ⟨kk,hkk,hlit⟩:=acS j1 (by omega);have hcell:=ib HLT.out hg1 hlit
 have hsz1:w.heap.size+2≤w1.heap.size:=by have:=hg1.size;simpa using this
 have HZ1:=aim (HZ0.out.grownR hg1 (by have:=HLT.out;omega));have HG1:=aim (ab HG0.out hg1);have HR1:=aim hr1;clear hj1 hg1 hr1 hlit
 rcases hkk with rfl|rfl|rfl
 ·skip
  have S10:=aim (show StI w (w1.alloc (.cells #[.int .i64 1, .string ⟨#[]⟩, .slice none 0 0, .string ⟨#[]⟩] 25)) R (p+1) w1.heap.size (1,⟨#[]⟩,[],⟨#[]⟩) (.slice none 0 0) from
   ⟨It4.new w1 _ _ _ _ _,HZ1.out.al _,⟨w1.heap.size+1,by omega,fun w' _ _=>⟨none,0,rfl,ain _,by unfold maxLen;omega, .inl rfl⟩⟩,⟨by show (0:Nat)≤13;omega,fun c hc=>(by cases hc),by simp,by show (0:Nat)≤61;omega⟩,HR1.out.kept (aip w1 _ none) (by simp),ae HG1.out _,by omega,HLT.out⟩)
  obtain ⟨⟨i010,i110,i210,i310⟩,⟨if010,if110,if210,if310⟩,-⟩:=S10.out.it;obtain ⟨⟨r010,r110,r210,r310⟩,⟨rf010,rf110,rf210,rf310⟩,-⟩:=S10.out.res;go_wp2_with fail;refine (d9 R (p+1) n _ (by omega) (by omega) (by omega) S10.out.rd).mono ?_;rintro e w11 ⟨bo,rfl,-,hr11,hg11,-⟩;have S11:=aim (S10.out.call hg11 hr11);clear hr11 hg11;clear i010 i110 i210 i310 if010 if110 if210 if310 r010 r110 r210 r310 rf010 rf110 rf210 rf310;obtain ⟨⟨i011,i111,i211,i311⟩,⟨if011,if111,if211,if311⟩,-⟩:=S11.out.it;obtain ⟨⟨r011,r111,r211,r311⟩,⟨rf011,rf111,rf211,rf311⟩,-⟩:=S11.out.res
  cases bo with
  |false=>
   have HF11:=aim (S11.out.fin (p:=p) (by omega));go_wp2;exact bodyPost_ret (v:= .agg #[.int .i64 1, .string ⟨#[]⟩, .slice none 0 0, .string ⟨#[]⟩]) (by simp [results,Tryz.results40,go_sem,r011,r111,r211,r311]) rfl HF11.out
  |true=>
   go_wp2_with fail;refine (ah R (p+1+1) 5 _ (by omega) S11.out.rd).mono ?_;rintro e w12 ⟨m,rfl,hm0,hm1,-,hr12,hg12,-⟩;have hm2:=hm1 (by omega);have S12:=aim (S11.out.call hg12 hr12);clear hm1 hr12 hg12;clear i011 i111 i211 i311 if011 if111 if211 if311 r011 r111 r211 r311 rf011 rf111 rf211 rf311;obtain ⟨⟨i012,i112,i212,i312⟩,⟨if012,if112,if212,if312⟩,-⟩:=S12.out.it;obtain ⟨⟨r012,r112,r212,r312⟩,⟨rf012,rf112,rf212,rf312⟩,-⟩:=S12.out.res
   have hm5:m=0∨m=1∨m=2∨m=3∨m=4:=by omega
   clear hm0 hm2
   rcases hm5 with rfl|rfl|rfl|rfl|rfl
   ·go_wp2_with fail
    refine (ah R (p+1+2) 2 _ (by omega) (S12.out.alloc (.cells #[Value.int .i64 0, .int .i64 6] 3)).rd).mono ?_;rintro e w13 ⟨q,rfl,hq0,hq1,-,hr13,hg13,-⟩;have hq2:=hq1 (by omega);obtain ⟨q1,rfl⟩:=aiq hq0;obtain ⟨t,hlit⟩:=lh q1 (by omega);have hcell:=aU S12.out.rd.lt hg13 hlit;have S13:=aim ((S12.out.alloc (.cells #[Value.int .i64 0, .int .i64 6] 3)).call hg13 hr13);clear hq1 hr13 hg13 hlit;clear i012 i112 i212 i312 if012 if112 if212 if312 r012 r112 r212 r312 rf012 rf112 rf212 rf312;obtain ⟨⟨i013,i113,i213,i313⟩,⟨if013,if113,if213,if313⟩,-⟩:=S13.out.it;obtain ⟨⟨r013,r113,r213,r313⟩,⟨rf013,rf113,rf213,rf313⟩,-⟩:=S13.out.res;have T13:=aim (S13.out.setK t);have HF:=aim (T13.out.fin (p:=p) (by omega));go_wp2;exact bodyPost_ret (v:= .agg #[.int .i64 t, .string ⟨#[]⟩, .slice none 0 0, .string ⟨#[]⟩]) (by simp [results,Tryz.results40,go_sem,r013,r113,r213,r313]) rfl HF.out
   ·go_wp2_with fail
    refine (ah R (p+1+2) 3 _ (by omega) (S12.out.alloc (.cells #[Value.string ⟨#[113,46,97]⟩, .string ⟨#[]⟩, .string ⟨#[116,114,117,101]⟩] 9)).rd).mono ?_;rintro e w13 ⟨q,rfl,hq0,hq1,-,hr13,hg13,-⟩;have hq2:=hq1 (by omega);obtain ⟨q1,rfl⟩:=aiq hq0;obtain ⟨t,ht,hlit⟩:=nL q1 (by omega);have hcell:=aU S12.out.rd.lt hg13 hlit;have S13:=aim ((S12.out.alloc (.cells #[Value.string ⟨#[113,46,97]⟩, .string ⟨#[]⟩, .string ⟨#[116,114,117,101]⟩] 9)).call hg13 hr13);clear hq1 hr13 hg13 hlit;clear i012 i112 i212 i312 if012 if112 if212 if312 r012 r112 r212 r312 rf012 rf112 rf212 rf312;obtain ⟨⟨i013,i113,i213,i313⟩,⟨if013,if113,if213,if313⟩,-⟩:=S13.out.it;obtain ⟨⟨r013,r113,r213,r313⟩,⟨rf013,rf113,rf213,rf313⟩,-⟩:=S13.out.res;have T13:=aim (S13.out.setN t ht);have HF:=aim (T13.out.fin (p:=p) (by omega));go_wp2;exact bodyPost_ret (v:= .agg #[.int .i64 1, .string t, .slice none 0 0, .string ⟨#[]⟩]) (by simp [results,Tryz.results40,go_sem,r013,r113,r213,r313]) rfl HF.out
   ·go_wp2_with fail
    refine (gc R (p+1+2) 1 _ (by omega) (by omega) (by omega) S12.out.rd).mono ?_;rintro e w13 ⟨t,rfl,ht,hr13,hg13⟩;have S13:=aim (S12.out.call hg13 hr13);clear hr13 hg13;clear i012 i112 i212 i312 if012 if112 if212 if312 r012 r112 r212 r312 rf012 rf112 rf212 rf312;obtain ⟨⟨i013,i113,i213,i313⟩,⟨if013,if113,if213,if313⟩,-⟩:=S13.out.it;obtain ⟨⟨r013,r113,r213,r313⟩,⟨rf013,rf113,rf213,rf313⟩,-⟩:=S13.out.res;have T13:=aim (S13.out.setT t ht);have HF:=aim (T13.out.fin (p:=p) (by omega));go_wp2;exact bodyPost_ret (v:= .agg #[.int .i64 1, .string ⟨#[]⟩, .slice none 0 0, .string t]) (by simp [results,Tryz.results40,go_sem,r013,r113,r213,r313]) rfl HF.out
   ·go_wp2_with fail
    refine (iv R (p+1+2) 1 _ (by omega) (by omega) (by omega) S12.out.rd).mono ?_;rintro e w13 ⟨vx,lx,rfl,hkx,hsx,hlx,-,hr13,hg13⟩;have S13:=aim (S12.out.call hg13 hr13);have T13:=aim (S13.out.setE (S12.out.it.2.2) hkx hsx hlx)
    obtain ⟨ax,cx,rfl⟩: ∃a c,vx= .slice a lx.length c:=by obtain ⟨a,c,h,-⟩:=hkx.row;exact ⟨a,c,h⟩
    clear hr13 hg13 hkx hsx hlx;clear i012 i112 i212 i312 if012 if112 if212 if312 r012 r112 r212 r312 rf012 rf112 rf212 rf312;obtain ⟨⟨i013,i113,i213,i313⟩,⟨if013,if113,if213,if313⟩,-⟩:=S13.out.it;obtain ⟨⟨r013,r113,r213,r313⟩,⟨rf013,rf113,rf213,rf313⟩,-⟩:=S13.out.res;have HF:=aim (T13.out.fin (p:=p) (by omega));go_wp2;exact bodyPost_ret (v:= .agg #[.int .i64 1, .string ⟨#[]⟩, .slice ax lx.length cx, .string ⟨#[]⟩]) (by simp [results,Tryz.results40,go_sem,r013,r113,r213,r313]) rfl HF.out
   ·have T13:=aim (S12.out.setK 5)
    have HF:=aim (T13.out.fin (p:=p) (by omega));go_wp2;exact bodyPost_ret (v:= .agg #[.int .i64 5, .string ⟨#[]⟩, .slice none 0 0, .string ⟨#[]⟩]) (by simp [results,Tryz.results40,go_sem,r012,r112,r212,r312]) rfl HF.out
 ·skip
  have S10:=aim (show StI w (w1.alloc (.cells #[.int .i64 2, .string ⟨#[]⟩, .slice none 0 0, .string ⟨#[]⟩] 25)) R (p+1) w1.heap.size (2,⟨#[]⟩,[],⟨#[]⟩) (.slice none 0 0) from
   ⟨It4.new w1 _ _ _ _ _,HZ1.out.al _,⟨w1.heap.size+1,by omega,fun w' _ _=>⟨none,0,rfl,ain _,by unfold maxLen;omega, .inl rfl⟩⟩,⟨by show (0:Nat)≤13;omega,fun c hc=>(by cases hc),by simp,by show (0:Nat)≤61;omega⟩,HR1.out.kept (aip w1 _ none) (by simp),ae HG1.out _,by omega,HLT.out⟩)
  obtain ⟨⟨i010,i110,i210,i310⟩,⟨if010,if110,if210,if310⟩,-⟩:=S10.out.it;obtain ⟨⟨r010,r110,r210,r310⟩,⟨rf010,rf110,rf210,rf310⟩,-⟩:=S10.out.res;go_wp2_with fail;refine (gc R (p+1) 0 _ (by omega) (by omega) (by omega) S10.out.rd).mono ?_;rintro e w11 ⟨nt,rfl,hnt,hr11,hg11⟩;have S11:=aim (S10.out.call hg11 hr11);have S12:=aim (S11.out.setT nt hnt);clear hr11 hg11;clear i010 i110 i210 i310 if010 if110 if210 if310 r010 r110 r210 r310 rf010 rf110 rf210 rf310;obtain ⟨⟨i011,i111,i211,i311⟩,⟨if011,if111,if211,if311⟩,-⟩:=S11.out.it;obtain ⟨⟨r011,r111,r211,r311⟩,⟨rf011,rf111,rf211,rf311⟩,-⟩:=S11.out.res
  go_upto_region 12 with (fail)
  clear i011 i111 i211 i311 if011 if111 if211 if311 r011 r111 r211 r311 rf011 rf111 rf211 rf311;obtain ⟨⟨i012,i112,i212,i312⟩,⟨if012,if112,if212,if312⟩,-⟩:=S12.out.it;obtain ⟨⟨r012,r112,r212,r312⟩,⟨rf012,rf112,rf212,rf312⟩,-⟩:=S12.out.res;go_wp2_with fail;refine (d9 R (p+1+2) n _ (by omega) (by omega) (by omega) S12.out.rd).mono ?_;rintro e w13 ⟨bo,rfl,-,hr13,hg13,-⟩;have S13:=aim (S12.out.call hg13 hr13);clear hr13 hg13;clear i012 i112 i212 i312 if012 if112 if212 if312 r012 r112 r212 r312 rf012 rf112 rf212 rf312;obtain ⟨⟨i013,i113,i213,i313⟩,⟨if013,if113,if213,if313⟩,-⟩:=S13.out.it;obtain ⟨⟨r013,r113,r213,r313⟩,⟨rf013,rf113,rf213,rf313⟩,-⟩:=S13.out.res
  cases bo with
  |false=>
   have HF13:=aim (S13.out.fin (p:=p) (by omega));go_wp2;exact bodyPost_ret (v:= .agg #[.int .i64 2, .string ⟨#[]⟩, .slice none 0 0, .string nt]) (by simp [results,Tryz.results40,go_sem,r013,r113,r213,r313]) rfl HF13.out
  |true=>
   go_wp2_with fail;refine (ah R (p+1+2+1) 5 _ (by omega) S13.out.rd).mono ?_;rintro e w14 ⟨m,rfl,hm0,hm1,-,hr14,hg14,-⟩;have hm2:=hm1 (by omega);have S14:=aim (S13.out.call hg14 hr14);clear hm1 hr14 hg14;clear i013 i113 i213 i313 if013 if113 if213 if313 r013 r113 r213 r313 rf013 rf113 rf213 rf313;obtain ⟨⟨i014,i114,i214,i314⟩,⟨if014,if114,if214,if314⟩,-⟩:=S14.out.it;obtain ⟨⟨r014,r114,r214,r314⟩,⟨rf014,rf114,rf214,rf314⟩,-⟩:=S14.out.res
   have hm5:m=0∨m=1∨m=2∨m=3∨m=4:=by omega
   clear hm0 hm2
   rcases hm5 with rfl|rfl|rfl|rfl|rfl
   ·go_wp2_with fail
    refine (ah R (p+1+2+2) 2 _ (by omega) (S14.out.alloc (.cells #[Value.int .i64 0, .int .i64 6] 3)).rd).mono ?_;rintro e w15 ⟨q,rfl,hq0,hq1,-,hr15,hg15,-⟩;have hq2:=hq1 (by omega);obtain ⟨q1,rfl⟩:=aiq hq0;obtain ⟨t,hlit⟩:=lh q1 (by omega);have hcell:=aU S14.out.rd.lt hg15 hlit;have S15:=aim ((S14.out.alloc (.cells #[Value.int .i64 0, .int .i64 6] 3)).call hg15 hr15);clear hq1 hr15 hg15 hlit;clear i014 i114 i214 i314 if014 if114 if214 if314 r014 r114 r214 r314 rf014 rf114 rf214 rf314;obtain ⟨⟨i015,i115,i215,i315⟩,⟨if015,if115,if215,if315⟩,-⟩:=S15.out.it;obtain ⟨⟨r015,r115,r215,r315⟩,⟨rf015,rf115,rf215,rf315⟩,-⟩:=S15.out.res;have T15:=aim (S15.out.setK t);have HF:=aim (T15.out.fin (p:=p) (by omega));go_wp2;exact bodyPost_ret (v:= .agg #[.int .i64 t, .string ⟨#[]⟩, .slice none 0 0, .string nt]) (by simp [results,Tryz.results40,go_sem,r015,r115,r215,r315]) rfl HF.out
   ·go_wp2_with fail
    refine (ah R (p+1+2+2) 3 _ (by omega) (S14.out.alloc (.cells #[Value.string ⟨#[113,46,97]⟩, .string ⟨#[]⟩, .string ⟨#[116,114,117,101]⟩] 9)).rd).mono ?_;rintro e w15 ⟨q,rfl,hq0,hq1,-,hr15,hg15,-⟩;have hq2:=hq1 (by omega);obtain ⟨q1,rfl⟩:=aiq hq0;obtain ⟨t,ht,hlit⟩:=nL q1 (by omega);have hcell:=aU S14.out.rd.lt hg15 hlit;have S15:=aim ((S14.out.alloc (.cells #[Value.string ⟨#[113,46,97]⟩, .string ⟨#[]⟩, .string ⟨#[116,114,117,101]⟩] 9)).call hg15 hr15);clear hq1 hr15 hg15 hlit;clear i014 i114 i214 i314 if014 if114 if214 if314 r014 r114 r214 r314 rf014 rf114 rf214 rf314;obtain ⟨⟨i015,i115,i215,i315⟩,⟨if015,if115,if215,if315⟩,-⟩:=S15.out.it;obtain ⟨⟨r015,r115,r215,r315⟩,⟨rf015,rf115,rf215,rf315⟩,-⟩:=S15.out.res;have T15:=aim (S15.out.setN t ht);have HF:=aim (T15.out.fin (p:=p) (by omega));go_wp2;exact bodyPost_ret (v:= .agg #[.int .i64 2, .string t, .slice none 0 0, .string nt]) (by simp [results,Tryz.results40,go_sem,r015,r115,r215,r315]) rfl HF.out
   ·go_wp2_with fail
    refine (gc R (p+1+2+2) 1 _ (by omega) (by omega) (by omega) S14.out.rd).mono ?_;rintro e w15 ⟨t,rfl,ht,hr15,hg15⟩;have S15:=aim (S14.out.call hg15 hr15);clear hr15 hg15;clear i014 i114 i214 i314 if014 if114 if214 if314 r014 r114 r214 r314 rf014 rf114 rf214 rf314;obtain ⟨⟨i015,i115,i215,i315⟩,⟨if015,if115,if215,if315⟩,-⟩:=S15.out.it;obtain ⟨⟨r015,r115,r215,r315⟩,⟨rf015,rf115,rf215,rf315⟩,-⟩:=S15.out.res;have T15:=aim (S15.out.setT t ht);have HF:=aim (T15.out.fin (p:=p) (by omega));go_wp2;exact bodyPost_ret (v:= .agg #[.int .i64 2, .string ⟨#[]⟩, .slice none 0 0, .string t]) (by simp [results,Tryz.results40,go_sem,r015,r115,r215,r315]) rfl HF.out
   ·go_wp2_with fail
    refine (iv R (p+1+2+2) 1 _ (by omega) (by omega) (by omega) S14.out.rd).mono ?_;rintro e w15 ⟨vx,lx,rfl,hkx,hsx,hlx,-,hr15,hg15⟩;have S15:=aim (S14.out.call hg15 hr15);have T15:=aim (S15.out.setE (S14.out.it.2.2) hkx hsx hlx)
    obtain ⟨ax,cx,rfl⟩: ∃a c,vx= .slice a lx.length c:=by obtain ⟨a,c,h,-⟩:=hkx.row;exact ⟨a,c,h⟩
    clear hr15 hg15 hkx hsx hlx;clear i014 i114 i214 i314 if014 if114 if214 if314 r014 r114 r214 r314 rf014 rf114 rf214 rf314;obtain ⟨⟨i015,i115,i215,i315⟩,⟨if015,if115,if215,if315⟩,-⟩:=S15.out.it;obtain ⟨⟨r015,r115,r215,r315⟩,⟨rf015,rf115,rf215,rf315⟩,-⟩:=S15.out.res;have HF:=aim (T15.out.fin (p:=p) (by omega));go_wp2;exact bodyPost_ret (v:= .agg #[.int .i64 2, .string ⟨#[]⟩, .slice ax lx.length cx, .string nt]) (by simp [results,Tryz.results40,go_sem,r015,r115,r215,r315]) rfl HF.out
   ·have T15:=aim (S14.out.setK 5)
    have HF:=aim (T15.out.fin (p:=p) (by omega));go_wp2;exact bodyPost_ret (v:= .agg #[.int .i64 5, .string ⟨#[]⟩, .slice none 0 0, .string nt]) (by simp [results,Tryz.results40,go_sem,r014,r114,r214,r314]) rfl HF.out
 ·skip
  have S10:=aim (show StI w (w1.alloc (.cells #[.int .i64 3, .string ⟨#[]⟩, .slice none 0 0, .string ⟨#[]⟩] 25)) R (p+1) w1.heap.size (3,⟨#[]⟩,[],⟨#[]⟩) (.slice none 0 0) from
   ⟨It4.new w1 _ _ _ _ _,HZ1.out.al _,⟨w1.heap.size+1,by omega,fun w' _ _=>⟨none,0,rfl,ain _,by unfold maxLen;omega, .inl rfl⟩⟩,⟨by show (0:Nat)≤13;omega,fun c hc=>(by cases hc),by simp,by show (0:Nat)≤61;omega⟩,HR1.out.kept (aip w1 _ none) (by simp),ae HG1.out _,by omega,HLT.out⟩)
  obtain ⟨⟨i010,i110,i210,i310⟩,⟨if010,if110,if210,if310⟩,-⟩:=S10.out.it;obtain ⟨⟨r010,r110,r210,r310⟩,⟨rf010,rf110,rf210,rf310⟩,-⟩:=S10.out.res;go_wp2_with fail;refine (ah R (p+1) 5 _ (by omega) (S10.out.alloc (.cells #[Value.string ⟨#[97]⟩, .string ⟨#[98]⟩, .string ⟨#[99]⟩, .string ⟨#[120,49]⟩, .string ⟨#[108,111,110,103,95,110,97,109,101]⟩] 9)).rd).mono ?_;rintro e w11 ⟨m,rfl,hm0,hm1,-,hr11,hg11,-⟩;have hm2:=hm1 (by omega);obtain ⟨m1,rfl⟩:=aiq hm0;obtain ⟨nm,hnm,hlit⟩:=acR m1 (by omega);have hcell1:=ib (o:= .cells #[.int .i64 3, .string ⟨#[]⟩, .slice none 0 0, .string ⟨#[]⟩] 25) HR1.out.lt hg11 hlit;have S11:=aim ((S10.out.alloc (.cells #[Value.string ⟨#[97]⟩, .string ⟨#[98]⟩, .string ⟨#[99]⟩, .string ⟨#[120,49]⟩, .string ⟨#[108,111,110,103,95,110,97,109,101]⟩] 9)).call hg11 hr11);have S12:=aim (S11.out.setN nm hnm);clear hm1 hr11 hg11 hlit;clear i010 i110 i210 i310 if010 if110 if210 if310 r010 r110 r210 r310 rf010 rf110 rf210 rf310;obtain ⟨⟨i011,i111,i211,i311⟩,⟨if011,if111,if211,if311⟩,-⟩:=S11.out.it;obtain ⟨⟨r011,r111,r211,r311⟩,⟨rf011,rf111,rf211,rf311⟩,-⟩:=S11.out.res;go_wp2_with fail;refine (iv R (p+1+1) 0 _ (by omega) (by omega) (by omega) S12.out.rd).mono ?_;rintro e w13 ⟨vx,lx,rfl,hkx,hsx,hlx,-,hr13,hg13⟩;have S13:=aim (S12.out.call hg13 hr13);have S14:=aim (S13.out.setE (S12.out.it.2.2) hkx hsx hlx)
  obtain ⟨ax,cx,rfl⟩: ∃a c,vx= .slice a lx.length c:=by obtain ⟨a,c,h,-⟩:=hkx.row;exact ⟨a,c,h⟩
  clear hr13 hg13 hkx hsx hlx;clear i011 i111 i211 i311 if011 if111 if211 if311 r011 r111 r211 r311 rf011 rf111 rf211 rf311;obtain ⟨⟨i013,i113,i213,i313⟩,⟨if013,if113,if213,if313⟩,-⟩:=S13.out.it;obtain ⟨⟨r013,r113,r213,r313⟩,⟨rf013,rf113,rf213,rf313⟩,-⟩:=S13.out.res;go_wp2_with fail;refine (ah R (p+1+1+1000) 2 _ (by omega) S14.out.rd).mono ?_;rintro e w15 ⟨y,rfl,hy0,hy1,-,hr15,hg15,-⟩;have hy2:=hy1 (by omega);have S15:=aim (S14.out.call hg15 hr15);clear hy1 hr15 hg15;clear i013 i113 i213 i313 if013 if113 if213 if313 r013 r113 r213 r313 rf013 rf113 rf213 rf313;obtain ⟨⟨i015,i115,i215,i315⟩,⟨if015,if115,if215,if315⟩,-⟩:=S15.out.it;obtain ⟨⟨r015,r115,r215,r315⟩,⟨rf015,rf115,rf215,rf315⟩,-⟩:=S15.out.res
  by_cases hy:y=0
  ·subst hy
   go_wp2_with fail;refine (ah R (p+1+1+1000+1) 3 _ (by omega) S15.out.rd).mono ?_;rintro e w16 ⟨x,rfl,hx0,hx1,-,hr16,hg16,-⟩;have hx2:=hx1 (by omega);have S16:=aim (S15.out.call hg16 hr16);clear hx1 hr16 hg16;clear i015 i115 i215 i315 if015 if115 if215 if315 r015 r115 r215 r315 rf015 rf115 rf215 rf315;obtain ⟨⟨i016,i116,i216,i316⟩,⟨if016,if116,if216,if316⟩,-⟩:=S16.out.it;obtain ⟨⟨r016,r116,r216,r316⟩,⟨rf016,rf116,rf216,rf316⟩,-⟩:=S16.out.res;go_wp2_with fail;refine (ah R (p+1+1+1000+2) 3 _ (by omega) S16.out.rd).mono ?_;rintro e w17 ⟨q,rfl,hq0,hq1,-,hr17,hg17,-⟩;have hq2:=hq1 (by omega);have S17:=aim (S16.out.call hg17 hr17);clear hq1 hr17 hg17;clear i016 i116 i216 i316 if016 if116 if216 if316 r016 r116 r216 r316 rf016 rf116 rf216 rf316;obtain ⟨⟨i017,i117,i217,i317⟩,⟨if017,if117,if217,if317⟩,-⟩:=S17.out.it;obtain ⟨⟨r017,r117,r217,r317⟩,⟨rf017,rf117,rf217,rf317⟩,-⟩:=S17.out.res;obtain ⟨x1,rfl⟩:=aiq hx0;have HTY:=aim (aax (1+x1) (by omega) q (by omega) R (p+1+1+1000+3) w17 (by omega) S17.out.rd);rw [show ((1+x1:Nat):Int)=1+(x1:Int) by omega] at HTY;go_wp2_with fail;refine HTY.out.mono ?_;rintro e w18 ⟨vy,ly,rfl,hoy,hsy,h1y,hcy,hr18,hg18⟩;have S18:=aim (S17.out.call hg18 hr18);have S19:=aim (S18.out.setE (S17.out.it.2.2) (RowK.of_own hoy (ain _)) (fun c hc=>Nat.le_trans (hsy c hc) (by omega)) (by omega));obtain ⟨ay,cy,rfl⟩:=ai hoy;clear hr18 hg18 hoy hsy hcy h1y;clear i017 i117 i217 i317 if017 if117 if217 if317 r017 r117 r217 r317 rf017 rf117 rf217 rf317;obtain ⟨⟨i018,i118,i218,i318⟩,⟨if018,if118,if218,if318⟩,-⟩:=S18.out.it;obtain ⟨⟨r018,r118,r218,r318⟩,⟨rf018,rf118,rf218,rf318⟩,-⟩:=S18.out.res
   go_upto_region 10 with (fail)
   clear i018 i118 i218 i318 if018 if118 if218 if318 r018 r118 r218 r318 rf018 rf118 rf218 rf318;obtain ⟨⟨i019,i119,i219,i319⟩,⟨if019,if119,if219,if319⟩,-⟩:=S19.out.it;obtain ⟨⟨r019,r119,r219,r319⟩,⟨rf019,rf119,rf219,rf319⟩,-⟩:=S19.out.res;go_wp2_with fail;refine (ah R (p+1+1+1000+3+800) 3 _ (by omega) S19.out.rd).mono ?_;rintro e w20 ⟨z,rfl,hz0,hz1,-,hr20,hg20,-⟩;have hz2:=hz1 (by omega);have S20:=aim (S19.out.call hg20 hr20);clear hz1 hr20 hg20;clear i019 i119 i219 i319 if019 if119 if219 if319 r019 r119 r219 r319 rf019 rf119 rf219 rf319;obtain ⟨⟨i020,i120,i220,i320⟩,⟨if020,if120,if220,if320⟩,-⟩:=S20.out.it;obtain ⟨⟨r020,r120,r220,r320⟩,⟨rf020,rf120,rf220,rf320⟩,-⟩:=S20.out.res
   by_cases hz:z=0
   ·subst hz
    go_wp2_with fail;refine (gc R (p+1+1+1000+3+800+1) 0 _ (by omega) (by omega) (by omega) S20.out.rd).mono ?_;rintro e w21 ⟨nt,rfl,hnt,hr21,hg21⟩;have S21:=aim (S20.out.call hg21 hr21);have S22:=aim (S21.out.setT nt hnt);clear hr21 hg21;clear i020 i120 i220 i320 if020 if120 if220 if320 r020 r120 r220 r320 rf020 rf120 rf220 rf320;obtain ⟨⟨i021,i121,i221,i321⟩,⟨if021,if121,if221,if321⟩,-⟩:=S21.out.it;obtain ⟨⟨r021,r121,r221,r321⟩,⟨rf021,rf121,rf221,rf321⟩,-⟩:=S21.out.res
    go_upto_region 12 with (fail)
    clear i021 i121 i221 i321 if021 if121 if221 if321 r021 r121 r221 r321 rf021 rf121 rf221 rf321;obtain ⟨⟨i022,i122,i222,i322⟩,⟨if022,if122,if222,if322⟩,-⟩:=S22.out.it;obtain ⟨⟨r022,r122,r222,r322⟩,⟨rf022,rf122,rf222,rf322⟩,-⟩:=S22.out.res;go_wp2_with fail;refine (d9 R (p+1+1+1000+3+800+1+2) n _ (by omega) (by omega) (by omega) S22.out.rd).mono ?_;rintro e w23 ⟨bo,rfl,-,hr23,hg23,-⟩;have S23:=aim (S22.out.call hg23 hr23);clear hr23 hg23;clear i022 i122 i222 i322 if022 if122 if222 if322 r022 r122 r222 r322 rf022 rf122 rf222 rf322;obtain ⟨⟨i023,i123,i223,i323⟩,⟨if023,if123,if223,if323⟩,-⟩:=S23.out.it;obtain ⟨⟨r023,r123,r223,r323⟩,⟨rf023,rf123,rf223,rf323⟩,-⟩:=S23.out.res
    cases bo with
    |false=>
     have HF23:=aim (S23.out.fin (p:=p) (by omega));go_wp2;exact bodyPost_ret (v:= .agg #[.int .i64 3, .string nm, .slice ay ly.length cy, .string nt]) (by simp [results,Tryz.results40,go_sem,r023,r123,r223,r323]) rfl HF23.out
    |true=>
     go_wp2_with fail;refine (ah R (p+1+1+1000+3+800+1+2+1) 5 _ (by omega) S23.out.rd).mono ?_;rintro e w24 ⟨m,rfl,hm0,hm1,-,hr24,hg24,-⟩;have hm2:=hm1 (by omega);have S24:=aim (S23.out.call hg24 hr24);clear hm1 hr24 hg24;clear i023 i123 i223 i323 if023 if123 if223 if323 r023 r123 r223 r323 rf023 rf123 rf223 rf323;obtain ⟨⟨i024,i124,i224,i324⟩,⟨if024,if124,if224,if324⟩,-⟩:=S24.out.it;obtain ⟨⟨r024,r124,r224,r324⟩,⟨rf024,rf124,rf224,rf324⟩,-⟩:=S24.out.res
     have hm5:m=0∨m=1∨m=2∨m=3∨m=4:=by omega
     clear hm0 hm2
     rcases hm5 with rfl|rfl|rfl|rfl|rfl
     ·go_wp2_with fail
      refine (ah R (p+1+1+1000+3+800+1+2+2) 2 _ (by omega) (S24.out.alloc (.cells #[Value.int .i64 0, .int .i64 6] 3)).rd).mono ?_;rintro e w25 ⟨q,rfl,hq0,hq1,-,hr25,hg25,-⟩;have hq2:=hq1 (by omega);obtain ⟨q1,rfl⟩:=aiq hq0;obtain ⟨t,hlit⟩:=lh q1 (by omega);have hcell:=aU S24.out.rd.lt hg25 hlit;have S25:=aim ((S24.out.alloc (.cells #[Value.int .i64 0, .int .i64 6] 3)).call hg25 hr25);clear hq1 hr25 hg25 hlit;clear i024 i124 i224 i324 if024 if124 if224 if324 r024 r124 r224 r324 rf024 rf124 rf224 rf324;obtain ⟨⟨i025,i125,i225,i325⟩,⟨if025,if125,if225,if325⟩,-⟩:=S25.out.it;obtain ⟨⟨r025,r125,r225,r325⟩,⟨rf025,rf125,rf225,rf325⟩,-⟩:=S25.out.res;have T25:=aim (S25.out.setK t);have HF:=aim (T25.out.fin (p:=p) (by omega));go_wp2;exact bodyPost_ret (v:= .agg #[.int .i64 t, .string nm, .slice ay ly.length cy, .string nt]) (by simp [results,Tryz.results40,go_sem,r025,r125,r225,r325]) rfl HF.out
     ·go_wp2_with fail
      refine (ah R (p+1+1+1000+3+800+1+2+2) 3 _ (by omega) (S24.out.alloc (.cells #[Value.string ⟨#[113,46,97]⟩, .string ⟨#[]⟩, .string ⟨#[116,114,117,101]⟩] 9)).rd).mono ?_;rintro e w25 ⟨q,rfl,hq0,hq1,-,hr25,hg25,-⟩;have hq2:=hq1 (by omega);obtain ⟨q1,rfl⟩:=aiq hq0;obtain ⟨t,ht,hlit⟩:=nL q1 (by omega);have hcell:=aU S24.out.rd.lt hg25 hlit;have S25:=aim ((S24.out.alloc (.cells #[Value.string ⟨#[113,46,97]⟩, .string ⟨#[]⟩, .string ⟨#[116,114,117,101]⟩] 9)).call hg25 hr25);clear hq1 hr25 hg25 hlit;clear i024 i124 i224 i324 if024 if124 if224 if324 r024 r124 r224 r324 rf024 rf124 rf224 rf324;obtain ⟨⟨i025,i125,i225,i325⟩,⟨if025,if125,if225,if325⟩,-⟩:=S25.out.it;obtain ⟨⟨r025,r125,r225,r325⟩,⟨rf025,rf125,rf225,rf325⟩,-⟩:=S25.out.res;have T25:=aim (S25.out.setN t ht);have HF:=aim (T25.out.fin (p:=p) (by omega));go_wp2;exact bodyPost_ret (v:= .agg #[.int .i64 3, .string t, .slice ay ly.length cy, .string nt]) (by simp [results,Tryz.results40,go_sem,r025,r125,r225,r325]) rfl HF.out
     ·go_wp2_with fail
      refine (gc R (p+1+1+1000+3+800+1+2+2) 1 _ (by omega) (by omega) (by omega) S24.out.rd).mono ?_;rintro e w25 ⟨t,rfl,ht,hr25,hg25⟩;have S25:=aim (S24.out.call hg25 hr25);clear hr25 hg25;clear i024 i124 i224 i324 if024 if124 if224 if324 r024 r124 r224 r324 rf024 rf124 rf224 rf324;obtain ⟨⟨i025,i125,i225,i325⟩,⟨if025,if125,if225,if325⟩,-⟩:=S25.out.it;obtain ⟨⟨r025,r125,r225,r325⟩,⟨rf025,rf125,rf225,rf325⟩,-⟩:=S25.out.res;have T25:=aim (S25.out.setT t ht);have HF:=aim (T25.out.fin (p:=p) (by omega));go_wp2;exact bodyPost_ret (v:= .agg #[.int .i64 3, .string nm, .slice ay ly.length cy, .string t]) (by simp [results,Tryz.results40,go_sem,r025,r125,r225,r325]) rfl HF.out
     ·go_wp2_with fail
      refine (iv R (p+1+1+1000+3+800+1+2+2) 1 _ (by omega) (by omega) (by omega) S24.out.rd).mono ?_;rintro e w25 ⟨vx,lx,rfl,hkx,hsx,hlx,-,hr25,hg25⟩;have S25:=aim (S24.out.call hg25 hr25);have T25:=aim (S25.out.setE (S24.out.it.2.2) hkx hsx hlx)
      obtain ⟨ax,cx,rfl⟩: ∃a c,vx= .slice a lx.length c:=by obtain ⟨a,c,h,-⟩:=hkx.row;exact ⟨a,c,h⟩
      clear hr25 hg25 hkx hsx hlx;clear i024 i124 i224 i324 if024 if124 if224 if324 r024 r124 r224 r324 rf024 rf124 rf224 rf324;obtain ⟨⟨i025,i125,i225,i325⟩,⟨if025,if125,if225,if325⟩,-⟩:=S25.out.it;obtain ⟨⟨r025,r125,r225,r325⟩,⟨rf025,rf125,rf225,rf325⟩,-⟩:=S25.out.res;have HF:=aim (T25.out.fin (p:=p) (by omega));go_wp2;exact bodyPost_ret (v:= .agg #[.int .i64 3, .string nm, .slice ax lx.length cx, .string nt]) (by simp [results,Tryz.results40,go_sem,r025,r125,r225,r325]) rfl HF.out
     ·have T25:=aim (S24.out.setK 5)
      have HF:=aim (T25.out.fin (p:=p) (by omega));go_wp2;exact bodyPost_ret (v:= .agg #[.int .i64 5, .string nm, .slice ay ly.length cy, .string nt]) (by simp [results,Tryz.results40,go_sem,r024,r124,r224,r324]) rfl HF.out
   ·have hzb:(z==0)=false:=beq_eq_false_iff_ne.mpr hz
    go_upto_region 12 with (fail)
    go_wp2_with fail;refine (d9 R (p+1+1+1000+3+800+1) n _ (by omega) (by omega) (by omega) S20.out.rd).mono ?_;rintro e w21 ⟨bo,rfl,-,hr21,hg21,-⟩;have S21:=aim (S20.out.call hg21 hr21);clear hr21 hg21;clear i020 i120 i220 i320 if020 if120 if220 if320 r020 r120 r220 r320 rf020 rf120 rf220 rf320;obtain ⟨⟨i021,i121,i221,i321⟩,⟨if021,if121,if221,if321⟩,-⟩:=S21.out.it;obtain ⟨⟨r021,r121,r221,r321⟩,⟨rf021,rf121,rf221,rf321⟩,-⟩:=S21.out.res
    cases bo with
    |false=>
     have HF21:=aim (S21.out.fin (p:=p) (by omega));go_wp2;exact bodyPost_ret (v:= .agg #[.int .i64 3, .string nm, .slice ay ly.length cy, .string ⟨#[]⟩]) (by simp [results,Tryz.results40,go_sem,r021,r121,r221,r321]) rfl HF21.out
    |true=>
     go_wp2_with fail;refine (ah R (p+1+1+1000+3+800+1+1) 5 _ (by omega) S21.out.rd).mono ?_;rintro e w22 ⟨m,rfl,hm0,hm1,-,hr22,hg22,-⟩;have hm2:=hm1 (by omega);have S22:=aim (S21.out.call hg22 hr22);clear hm1 hr22 hg22;clear i021 i121 i221 i321 if021 if121 if221 if321 r021 r121 r221 r321 rf021 rf121 rf221 rf321;obtain ⟨⟨i022,i122,i222,i322⟩,⟨if022,if122,if222,if322⟩,-⟩:=S22.out.it;obtain ⟨⟨r022,r122,r222,r322⟩,⟨rf022,rf122,rf222,rf322⟩,-⟩:=S22.out.res
     have hm5:m=0∨m=1∨m=2∨m=3∨m=4:=by omega
     clear hm0 hm2
     rcases hm5 with rfl|rfl|rfl|rfl|rfl
     ·go_wp2_with fail
      refine (ah R (p+1+1+1000+3+800+1+2) 2 _ (by omega) (S22.out.alloc (.cells #[Value.int .i64 0, .int .i64 6] 3)).rd).mono ?_;rintro e w23 ⟨q,rfl,hq0,hq1,-,hr23,hg23,-⟩;have hq2:=hq1 (by omega);obtain ⟨q1,rfl⟩:=aiq hq0;obtain ⟨t,hlit⟩:=lh q1 (by omega);have hcell:=aU S22.out.rd.lt hg23 hlit;have S23:=aim ((S22.out.alloc (.cells #[Value.int .i64 0, .int .i64 6] 3)).call hg23 hr23);clear hq1 hr23 hg23 hlit;clear i022 i122 i222 i322 if022 if122 if222 if322 r022 r122 r222 r322 rf022 rf122 rf222 rf322;obtain ⟨⟨i023,i123,i223,i323⟩,⟨if023,if123,if223,if323⟩,-⟩:=S23.out.it;obtain ⟨⟨r023,r123,r223,r323⟩,⟨rf023,rf123,rf223,rf323⟩,-⟩:=S23.out.res;have T23:=aim (S23.out.setK t);have HF:=aim (T23.out.fin (p:=p) (by omega));go_wp2;exact bodyPost_ret (v:= .agg #[.int .i64 t, .string nm, .slice ay ly.length cy, .string ⟨#[]⟩]) (by simp [results,Tryz.results40,go_sem,r023,r123,r223,r323]) rfl HF.out
     ·go_wp2_with fail
      refine (ah R (p+1+1+1000+3+800+1+2) 3 _ (by omega) (S22.out.alloc (.cells #[Value.string ⟨#[113,46,97]⟩, .string ⟨#[]⟩, .string ⟨#[116,114,117,101]⟩] 9)).rd).mono ?_;rintro e w23 ⟨q,rfl,hq0,hq1,-,hr23,hg23,-⟩;have hq2:=hq1 (by omega);obtain ⟨q1,rfl⟩:=aiq hq0;obtain ⟨t,ht,hlit⟩:=nL q1 (by omega);have hcell:=aU S22.out.rd.lt hg23 hlit;have S23:=aim ((S22.out.alloc (.cells #[Value.string ⟨#[113,46,97]⟩, .string ⟨#[]⟩, .string ⟨#[116,114,117,101]⟩] 9)).call hg23 hr23);clear hq1 hr23 hg23 hlit;clear i022 i122 i222 i322 if022 if122 if222 if322 r022 r122 r222 r322 rf022 rf122 rf222 rf322;obtain ⟨⟨i023,i123,i223,i323⟩,⟨if023,if123,if223,if323⟩,-⟩:=S23.out.it;obtain ⟨⟨r023,r123,r223,r323⟩,⟨rf023,rf123,rf223,rf323⟩,-⟩:=S23.out.res;have T23:=aim (S23.out.setN t ht);have HF:=aim (T23.out.fin (p:=p) (by omega));go_wp2;exact bodyPost_ret (v:= .agg #[.int .i64 3, .string t, .slice ay ly.length cy, .string ⟨#[]⟩]) (by simp [results,Tryz.results40,go_sem,r023,r123,r223,r323]) rfl HF.out
     ·go_wp2_with fail
      refine (gc R (p+1+1+1000+3+800+1+2) 1 _ (by omega) (by omega) (by omega) S22.out.rd).mono ?_;rintro e w23 ⟨t,rfl,ht,hr23,hg23⟩;have S23:=aim (S22.out.call hg23 hr23);clear hr23 hg23;clear i022 i122 i222 i322 if022 if122 if222 if322 r022 r122 r222 r322 rf022 rf122 rf222 rf322;obtain ⟨⟨i023,i123,i223,i323⟩,⟨if023,if123,if223,if323⟩,-⟩:=S23.out.it;obtain ⟨⟨r023,r123,r223,r323⟩,⟨rf023,rf123,rf223,rf323⟩,-⟩:=S23.out.res;have T23:=aim (S23.out.setT t ht);have HF:=aim (T23.out.fin (p:=p) (by omega));go_wp2;exact bodyPost_ret (v:= .agg #[.int .i64 3, .string nm, .slice ay ly.length cy, .string t]) (by simp [results,Tryz.results40,go_sem,r023,r123,r223,r323]) rfl HF.out
     ·go_wp2_with fail
      refine (iv R (p+1+1+1000+3+800+1+2) 1 _ (by omega) (by omega) (by omega) S22.out.rd).mono ?_;rintro e w23 ⟨vx,lx,rfl,hkx,hsx,hlx,-,hr23,hg23⟩;have S23:=aim (S22.out.call hg23 hr23);have T23:=aim (S23.out.setE (S22.out.it.2.2) hkx hsx hlx)
      obtain ⟨ax,cx,rfl⟩: ∃a c,vx= .slice a lx.length c:=by obtain ⟨a,c,h,-⟩:=hkx.row;exact ⟨a,c,h⟩
      clear hr23 hg23 hkx hsx hlx;clear i022 i122 i222 i322 if022 if122 if222 if322 r022 r122 r222 r322 rf022 rf122 rf222 rf322;obtain ⟨⟨i023,i123,i223,i323⟩,⟨if023,if123,if223,if323⟩,-⟩:=S23.out.it;obtain ⟨⟨r023,r123,r223,r323⟩,⟨rf023,rf123,rf223,rf323⟩,-⟩:=S23.out.res;have HF:=aim (T23.out.fin (p:=p) (by omega));go_wp2;exact bodyPost_ret (v:= .agg #[.int .i64 3, .string nm, .slice ax lx.length cx, .string ⟨#[]⟩]) (by simp [results,Tryz.results40,go_sem,r023,r123,r223,r323]) rfl HF.out
     ·have T23:=aim (S22.out.setK 5)
      have HF:=aim (T23.out.fin (p:=p) (by omega));go_wp2;exact bodyPost_ret (v:= .agg #[.int .i64 5, .string nm, .slice ay ly.length cy, .string ⟨#[]⟩]) (by simp [results,Tryz.results40,go_sem,r022,r122,r222,r322]) rfl HF.out
  ·have hyb:(y==0)=false:=beq_eq_false_iff_ne.mpr hy
   go_wp2_with fail;refine (ah R (p+1+1+1000+1) 3 _ (by omega) S15.out.rd).mono ?_;rintro e w16 ⟨z,rfl,hz0,hz1,-,hr16,hg16,-⟩;have hz2:=hz1 (by omega);have S16:=aim (S15.out.call hg16 hr16);clear hz1 hr16 hg16;clear i015 i115 i215 i315 if015 if115 if215 if315 r015 r115 r215 r315 rf015 rf115 rf215 rf315;obtain ⟨⟨i016,i116,i216,i316⟩,⟨if016,if116,if216,if316⟩,-⟩:=S16.out.it;obtain ⟨⟨r016,r116,r216,r316⟩,⟨rf016,rf116,rf216,rf316⟩,-⟩:=S16.out.res
   by_cases hz:z=0
   ·subst hz
    go_wp2_with fail;refine (gc R (p+1+1+1000+1+1) 0 _ (by omega) (by omega) (by omega) S16.out.rd).mono ?_;rintro e w17 ⟨nt,rfl,hnt,hr17,hg17⟩;have S17:=aim (S16.out.call hg17 hr17);have S18:=aim (S17.out.setT nt hnt);clear hr17 hg17;clear i016 i116 i216 i316 if016 if116 if216 if316 r016 r116 r216 r316 rf016 rf116 rf216 rf316;obtain ⟨⟨i017,i117,i217,i317⟩,⟨if017,if117,if217,if317⟩,-⟩:=S17.out.it;obtain ⟨⟨r017,r117,r217,r317⟩,⟨rf017,rf117,rf217,rf317⟩,-⟩:=S17.out.res
    go_upto_region 12 with (fail)
    clear i017 i117 i217 i317 if017 if117 if217 if317 r017 r117 r217 r317 rf017 rf117 rf217 rf317;obtain ⟨⟨i018,i118,i218,i318⟩,⟨if018,if118,if218,if318⟩,-⟩:=S18.out.it;obtain ⟨⟨r018,r118,r218,r318⟩,⟨rf018,rf118,rf218,rf318⟩,-⟩:=S18.out.res;go_wp2_with fail;refine (d9 R (p+1+1+1000+1+1+2) n _ (by omega) (by omega) (by omega) S18.out.rd).mono ?_;rintro e w19 ⟨bo,rfl,-,hr19,hg19,-⟩;have S19:=aim (S18.out.call hg19 hr19);clear hr19 hg19;clear i018 i118 i218 i318 if018 if118 if218 if318 r018 r118 r218 r318 rf018 rf118 rf218 rf318;obtain ⟨⟨i019,i119,i219,i319⟩,⟨if019,if119,if219,if319⟩,-⟩:=S19.out.it;obtain ⟨⟨r019,r119,r219,r319⟩,⟨rf019,rf119,rf219,rf319⟩,-⟩:=S19.out.res
    cases bo with
    |false=>
     have HF19:=aim (S19.out.fin (p:=p) (by omega));go_wp2;exact bodyPost_ret (v:= .agg #[.int .i64 3, .string nm, .slice ax lx.length cx, .string nt]) (by simp [results,Tryz.results40,go_sem,r019,r119,r219,r319]) rfl HF19.out
    |true=>
     go_wp2_with fail;refine (ah R (p+1+1+1000+1+1+2+1) 5 _ (by omega) S19.out.rd).mono ?_;rintro e w20 ⟨m,rfl,hm0,hm1,-,hr20,hg20,-⟩;have hm2:=hm1 (by omega);have S20:=aim (S19.out.call hg20 hr20);clear hm1 hr20 hg20;clear i019 i119 i219 i319 if019 if119 if219 if319 r019 r119 r219 r319 rf019 rf119 rf219 rf319;obtain ⟨⟨i020,i120,i220,i320⟩,⟨if020,if120,if220,if320⟩,-⟩:=S20.out.it;obtain ⟨⟨r020,r120,r220,r320⟩,⟨rf020,rf120,rf220,rf320⟩,-⟩:=S20.out.res
     have hm5:m=0∨m=1∨m=2∨m=3∨m=4:=by omega
     clear hm0 hm2
     rcases hm5 with rfl|rfl|rfl|rfl|rfl
     ·go_wp2_with fail
      refine (ah R (p+1+1+1000+1+1+2+2) 2 _ (by omega) (S20.out.alloc (.cells #[Value.int .i64 0, .int .i64 6] 3)).rd).mono ?_;rintro e w21 ⟨q,rfl,hq0,hq1,-,hr21,hg21,-⟩;have hq2:=hq1 (by omega);obtain ⟨q1,rfl⟩:=aiq hq0;obtain ⟨t,hlit⟩:=lh q1 (by omega);have hcell:=aU S20.out.rd.lt hg21 hlit;have S21:=aim ((S20.out.alloc (.cells #[Value.int .i64 0, .int .i64 6] 3)).call hg21 hr21);clear hq1 hr21 hg21 hlit;clear i020 i120 i220 i320 if020 if120 if220 if320 r020 r120 r220 r320 rf020 rf120 rf220 rf320;obtain ⟨⟨i021,i121,i221,i321⟩,⟨if021,if121,if221,if321⟩,-⟩:=S21.out.it;obtain ⟨⟨r021,r121,r221,r321⟩,⟨rf021,rf121,rf221,rf321⟩,-⟩:=S21.out.res;have T21:=aim (S21.out.setK t);have HF:=aim (T21.out.fin (p:=p) (by omega));go_wp2;exact bodyPost_ret (v:= .agg #[.int .i64 t, .string nm, .slice ax lx.length cx, .string nt]) (by simp [results,Tryz.results40,go_sem,r021,r121,r221,r321]) rfl HF.out
     ·go_wp2_with fail
      refine (ah R (p+1+1+1000+1+1+2+2) 3 _ (by omega) (S20.out.alloc (.cells #[Value.string ⟨#[113,46,97]⟩, .string ⟨#[]⟩, .string ⟨#[116,114,117,101]⟩] 9)).rd).mono ?_;rintro e w21 ⟨q,rfl,hq0,hq1,-,hr21,hg21,-⟩;have hq2:=hq1 (by omega);obtain ⟨q1,rfl⟩:=aiq hq0;obtain ⟨t,ht,hlit⟩:=nL q1 (by omega);have hcell:=aU S20.out.rd.lt hg21 hlit;have S21:=aim ((S20.out.alloc (.cells #[Value.string ⟨#[113,46,97]⟩, .string ⟨#[]⟩, .string ⟨#[116,114,117,101]⟩] 9)).call hg21 hr21);clear hq1 hr21 hg21 hlit;clear i020 i120 i220 i320 if020 if120 if220 if320 r020 r120 r220 r320 rf020 rf120 rf220 rf320;obtain ⟨⟨i021,i121,i221,i321⟩,⟨if021,if121,if221,if321⟩,-⟩:=S21.out.it;obtain ⟨⟨r021,r121,r221,r321⟩,⟨rf021,rf121,rf221,rf321⟩,-⟩:=S21.out.res;have T21:=aim (S21.out.setN t ht);have HF:=aim (T21.out.fin (p:=p) (by omega));go_wp2;exact bodyPost_ret (v:= .agg #[.int .i64 3, .string t, .slice ax lx.length cx, .string nt]) (by simp [results,Tryz.results40,go_sem,r021,r121,r221,r321]) rfl HF.out
     ·go_wp2_with fail
      refine (gc R (p+1+1+1000+1+1+2+2) 1 _ (by omega) (by omega) (by omega) S20.out.rd).mono ?_;rintro e w21 ⟨t,rfl,ht,hr21,hg21⟩;have S21:=aim (S20.out.call hg21 hr21);clear hr21 hg21;clear i020 i120 i220 i320 if020 if120 if220 if320 r020 r120 r220 r320 rf020 rf120 rf220 rf320;obtain ⟨⟨i021,i121,i221,i321⟩,⟨if021,if121,if221,if321⟩,-⟩:=S21.out.it;obtain ⟨⟨r021,r121,r221,r321⟩,⟨rf021,rf121,rf221,rf321⟩,-⟩:=S21.out.res;have T21:=aim (S21.out.setT t ht);have HF:=aim (T21.out.fin (p:=p) (by omega));go_wp2;exact bodyPost_ret (v:= .agg #[.int .i64 3, .string nm, .slice ax lx.length cx, .string t]) (by simp [results,Tryz.results40,go_sem,r021,r121,r221,r321]) rfl HF.out
     ·go_wp2_with fail
      refine (iv R (p+1+1+1000+1+1+2+2) 1 _ (by omega) (by omega) (by omega) S20.out.rd).mono ?_;rintro e w21 ⟨vx,lx,rfl,hkx,hsx,hlx,-,hr21,hg21⟩;have S21:=aim (S20.out.call hg21 hr21);have T21:=aim (S21.out.setE (S20.out.it.2.2) hkx hsx hlx)
      obtain ⟨ax,cx,rfl⟩: ∃a c,vx= .slice a lx.length c:=by obtain ⟨a,c,h,-⟩:=hkx.row;exact ⟨a,c,h⟩
      clear hr21 hg21 hkx hsx hlx;clear i020 i120 i220 i320 if020 if120 if220 if320 r020 r120 r220 r320 rf020 rf120 rf220 rf320;obtain ⟨⟨i021,i121,i221,i321⟩,⟨if021,if121,if221,if321⟩,-⟩:=S21.out.it;obtain ⟨⟨r021,r121,r221,r321⟩,⟨rf021,rf121,rf221,rf321⟩,-⟩:=S21.out.res;have HF:=aim (T21.out.fin (p:=p) (by omega));go_wp2;exact bodyPost_ret (v:= .agg #[.int .i64 3, .string nm, .slice ax lx.length cx, .string nt]) (by simp [results,Tryz.results40,go_sem,r021,r121,r221,r321]) rfl HF.out
     ·have T21:=aim (S20.out.setK 5)
      have HF:=aim (T21.out.fin (p:=p) (by omega));go_wp2;exact bodyPost_ret (v:= .agg #[.int .i64 5, .string nm, .slice ax lx.length cx, .string nt]) (by simp [results,Tryz.results40,go_sem,r020,r120,r220,r320]) rfl HF.out
   ·have hzb:(z==0)=false:=beq_eq_false_iff_ne.mpr hz
    go_upto_region 12 with (fail)
    go_wp2_with fail;refine (d9 R (p+1+1+1000+1+1) n _ (by omega) (by omega) (by omega) S16.out.rd).mono ?_;rintro e w17 ⟨bo,rfl,-,hr17,hg17,-⟩;have S17:=aim (S16.out.call hg17 hr17);clear hr17 hg17;clear i016 i116 i216 i316 if016 if116 if216 if316 r016 r116 r216 r316 rf016 rf116 rf216 rf316;obtain ⟨⟨i017,i117,i217,i317⟩,⟨if017,if117,if217,if317⟩,-⟩:=S17.out.it;obtain ⟨⟨r017,r117,r217,r317⟩,⟨rf017,rf117,rf217,rf317⟩,-⟩:=S17.out.res
    cases bo with
    |false=>
     have HF17:=aim (S17.out.fin (p:=p) (by omega));go_wp2;exact bodyPost_ret (v:= .agg #[.int .i64 3, .string nm, .slice ax lx.length cx, .string ⟨#[]⟩]) (by simp [results,Tryz.results40,go_sem,r017,r117,r217,r317]) rfl HF17.out
    |true=>
     go_wp2_with fail;refine (ah R (p+1+1+1000+1+1+1) 5 _ (by omega) S17.out.rd).mono ?_;rintro e w18 ⟨m,rfl,hm0,hm1,-,hr18,hg18,-⟩;have hm2:=hm1 (by omega);have S18:=aim (S17.out.call hg18 hr18);clear hm1 hr18 hg18;clear i017 i117 i217 i317 if017 if117 if217 if317 r017 r117 r217 r317 rf017 rf117 rf217 rf317;obtain ⟨⟨i018,i118,i218,i318⟩,⟨if018,if118,if218,if318⟩,-⟩:=S18.out.it;obtain ⟨⟨r018,r118,r218,r318⟩,⟨rf018,rf118,rf218,rf318⟩,-⟩:=S18.out.res
     have hm5:m=0∨m=1∨m=2∨m=3∨m=4:=by omega
     clear hm0 hm2
     rcases hm5 with rfl|rfl|rfl|rfl|rfl
     ·go_wp2_with fail
      refine (ah R (p+1+1+1000+1+1+2) 2 _ (by omega) (S18.out.alloc (.cells #[Value.int .i64 0, .int .i64 6] 3)).rd).mono ?_;rintro e w19 ⟨q,rfl,hq0,hq1,-,hr19,hg19,-⟩;have hq2:=hq1 (by omega);obtain ⟨q1,rfl⟩:=aiq hq0;obtain ⟨t,hlit⟩:=lh q1 (by omega);have hcell:=aU S18.out.rd.lt hg19 hlit;have S19:=aim ((S18.out.alloc (.cells #[Value.int .i64 0, .int .i64 6] 3)).call hg19 hr19);clear hq1 hr19 hg19 hlit;clear i018 i118 i218 i318 if018 if118 if218 if318 r018 r118 r218 r318 rf018 rf118 rf218 rf318;obtain ⟨⟨i019,i119,i219,i319⟩,⟨if019,if119,if219,if319⟩,-⟩:=S19.out.it;obtain ⟨⟨r019,r119,r219,r319⟩,⟨rf019,rf119,rf219,rf319⟩,-⟩:=S19.out.res;have T19:=aim (S19.out.setK t);have HF:=aim (T19.out.fin (p:=p) (by omega));go_wp2;exact bodyPost_ret (v:= .agg #[.int .i64 t, .string nm, .slice ax lx.length cx, .string ⟨#[]⟩]) (by simp [results,Tryz.results40,go_sem,r019,r119,r219,r319]) rfl HF.out
     ·go_wp2_with fail
      refine (ah R (p+1+1+1000+1+1+2) 3 _ (by omega) (S18.out.alloc (.cells #[Value.string ⟨#[113,46,97]⟩, .string ⟨#[]⟩, .string ⟨#[116,114,117,101]⟩] 9)).rd).mono ?_;rintro e w19 ⟨q,rfl,hq0,hq1,-,hr19,hg19,-⟩;have hq2:=hq1 (by omega);obtain ⟨q1,rfl⟩:=aiq hq0;obtain ⟨t,ht,hlit⟩:=nL q1 (by omega);have hcell:=aU S18.out.rd.lt hg19 hlit;have S19:=aim ((S18.out.alloc (.cells #[Value.string ⟨#[113,46,97]⟩, .string ⟨#[]⟩, .string ⟨#[116,114,117,101]⟩] 9)).call hg19 hr19);clear hq1 hr19 hg19 hlit;clear i018 i118 i218 i318 if018 if118 if218 if318 r018 r118 r218 r318 rf018 rf118 rf218 rf318;obtain ⟨⟨i019,i119,i219,i319⟩,⟨if019,if119,if219,if319⟩,-⟩:=S19.out.it;obtain ⟨⟨r019,r119,r219,r319⟩,⟨rf019,rf119,rf219,rf319⟩,-⟩:=S19.out.res;have T19:=aim (S19.out.setN t ht);have HF:=aim (T19.out.fin (p:=p) (by omega));go_wp2;exact bodyPost_ret (v:= .agg #[.int .i64 3, .string t, .slice ax lx.length cx, .string ⟨#[]⟩]) (by simp [results,Tryz.results40,go_sem,r019,r119,r219,r319]) rfl HF.out
     ·go_wp2_with fail
      refine (gc R (p+1+1+1000+1+1+2) 1 _ (by omega) (by omega) (by omega) S18.out.rd).mono ?_;rintro e w19 ⟨t,rfl,ht,hr19,hg19⟩;have S19:=aim (S18.out.call hg19 hr19);clear hr19 hg19;clear i018 i118 i218 i318 if018 if118 if218 if318 r018 r118 r218 r318 rf018 rf118 rf218 rf318;obtain ⟨⟨i019,i119,i219,i319⟩,⟨if019,if119,if219,if319⟩,-⟩:=S19.out.it;obtain ⟨⟨r019,r119,r219,r319⟩,⟨rf019,rf119,rf219,rf319⟩,-⟩:=S19.out.res;have T19:=aim (S19.out.setT t ht);have HF:=aim (T19.out.fin (p:=p) (by omega));go_wp2;exact bodyPost_ret (v:= .agg #[.int .i64 3, .string nm, .slice ax lx.length cx, .string t]) (by simp [results,Tryz.results40,go_sem,r019,r119,r219,r319]) rfl HF.out
     ·go_wp2_with fail
      refine (iv R (p+1+1+1000+1+1+2) 1 _ (by omega) (by omega) (by omega) S18.out.rd).mono ?_;rintro e w19 ⟨vx,lx,rfl,hkx,hsx,hlx,-,hr19,hg19⟩;have S19:=aim (S18.out.call hg19 hr19);have T19:=aim (S19.out.setE (S18.out.it.2.2) hkx hsx hlx)
      obtain ⟨ax,cx,rfl⟩: ∃a c,vx= .slice a lx.length c:=by obtain ⟨a,c,h,-⟩:=hkx.row;exact ⟨a,c,h⟩
      clear hr19 hg19 hkx hsx hlx;clear i018 i118 i218 i318 if018 if118 if218 if318 r018 r118 r218 r318 rf018 rf118 rf218 rf318;obtain ⟨⟨i019,i119,i219,i319⟩,⟨if019,if119,if219,if319⟩,-⟩:=S19.out.it;obtain ⟨⟨r019,r119,r219,r319⟩,⟨rf019,rf119,rf219,rf319⟩,-⟩:=S19.out.res;have HF:=aim (T19.out.fin (p:=p) (by omega));go_wp2;exact bodyPost_ret (v:= .agg #[.int .i64 3, .string nm, .slice ax lx.length cx, .string ⟨#[]⟩]) (by simp [results,Tryz.results40,go_sem,r019,r119,r219,r319]) rfl HF.out
     ·have T19:=aim (S18.out.setK 5)
      have HF:=aim (T19.out.fin (p:=p) (by omega));go_wp2;exact bodyPost_ret (v:= .agg #[.int .i64 5, .string nm, .slice ax lx.length cx, .string ⟨#[]⟩]) (by simp [results,Tryz.results40,go_sem,r018,r118,r218,r318]) rfl HF.out
end Go.Proofs.YthijkjnngfnfdaaGreatDoor
