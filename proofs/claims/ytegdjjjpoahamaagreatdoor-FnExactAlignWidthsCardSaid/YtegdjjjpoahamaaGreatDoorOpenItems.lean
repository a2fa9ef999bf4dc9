/-
  How an argument that is a slice of items, or an item, is opened.
-/
import Derived.Test.YtegdjjjpoahamaaGreatDoorOpenCells
import Derived.Test.YtegdjjjpoahamaaGreatDoorRowIt
import Derived.Lib.SmallJoins
set_option linter.unusedVariables false
set_option maxRecDepth 100000
namespace Go.Proofs.YtegdjjjpoahamaaGreatDoor
open Go.RowKit Go.ChangeShapes Go.WideShapes Go.Deep
def SizedI (i:It):Prop:=i.2.1.size≤maxLen∧SizedC i.2.2.1∧i.2.2.2.size≤maxLen
def ArgIs (w:World) (a:Option Addr) (len cap:Nat) (l:List It):Prop:=l.length=len∧RowIt w (.slice a len cap) l∧ ∀i∈l,SizedI i
theorem ArgIs.of_nil (w:World):ArgIs w none 0 0 []:=⟨rfl,⟨none,0,rfl,Nat.le_refl _,by unfold maxLen;omega, .inl rfl⟩,fun _ h=>by cases h⟩
theorem ArgIs.of {w:World} {x:Addr} {len cap:Nat} (f:Nat→It) (hl:len≤cap) (hm:cap≤maxLen)
  (hc: ∀i,i<len→ ∃u,w.cell? (x.add (i*4))=some (.int .i64 (f i).1)∧w.cell? (x.add (i*4+1))=some (.string (f i).2.1)∧w.cell? (x.add (i*4+2))=some u∧w.cell? (x.add (i*4+3))=some (.string (f i).2.2.2)∧RowC w u (f i).2.2.1∧SizedI (f i)):
  ArgIs w (some x) len cap ((List.range len).map f):=by
 have hlen:((List.range len).map f).length=len:=by simp
 refine ⟨hlen,⟨some x,cap,by rw [hlen],by rw [hlen];exact hl,hm, ?_⟩, ?_⟩
 ·by_cases h0:len=0
  ·left;subst h0;rfl
  ·right
   obtain ⟨b,off,spot⟩:=x
   obtain ⟨u0,g0,-⟩:=hc 0 (by omega)
   have hc0:=cell_low g0
   have hsp:spot=none:=by
    have:=hc0.1
    unfold Addr.add at this;split at this<;>simp_all
   subst hsp
   refine ⟨b,off,rfl,by have:=hc0.2;rw [addr_add] at this;exact this,fun k hk=> ?_⟩
   rw [hlen] at hk
   obtain ⟨u,c0,c1,c2,c3,c4,-⟩:=hc k hk
   rw [addr_add] at c0 c1 c2 c3
   simp only [List.getElem_map,List.getElem_range]
   exact ⟨u,c0,by rw [Nat.add_assoc];exact c1,by rw [Nat.add_assoc];exact c2,by rw [Nat.add_assoc];exact c3,c4⟩
 ·intro c hcm
  simp only [List.mem_map,List.mem_range] at hcm
  obtain ⟨i,hi,rfl⟩:=hcm
  obtain ⟨u,-,-,-,-,-,h⟩:=hc i hi
  exact h
theorem open_fields {H:Type} {enc:TypeId×Value→H} {w:World} {base:Nat} {spare:Nat→Bool} {held:Bool} {n:Nat} {z0 z1 z2 z3:Value} {y0 y1 y2 y3:DataW H×List MemPlace}
  (g0:DataW.trod enc Tryz.prog w base spare held n 3 [z0]=some y0) (g1:DataW.trod enc Tryz.prog w base spare held n 9 [z1]=some y1) (g2:DataW.trod enc Tryz.prog w base spare held n 75 [z2]=some y2) (g3:DataW.trod enc Tryz.prog w base spare held n 9 [z3]=some y3):
  ∃i:It,z0= .int .i64 i.1∧z1= .string i.2.1∧z3= .string i.2.2.2∧RowC w z2 i.2.2.1∧SizedI i:=by
 obtain ⟨k,e0,-,-⟩:=DataW.trod_int Tryz.underlying3 g0
 obtain ⟨s,e1,-,hz1⟩:=DataW.trod_string Tryz.underlying9 g1
 obtain ⟨t,e3,-,hz3⟩:=DataW.trod_string Tryz.underlying9 g3
 obtain rfl:z0= .int .i64 k:=by simpa using e0
 obtain rfl:z1= .string s:=by simpa using e1
 obtain rfl:z3= .string t:=by simpa using e3
 rcases open_cells g2 with hn|⟨a',len',cap',f,hs,hl',hm',hc'⟩
 ·obtain rfl:z2= .slice none 0 0:=by simpa using hn
  exact ⟨(k,s,[],t),rfl,rfl,rfl,(ArgRow.of_nil w).2.1,hz1,(ArgRow.of_nil w).2.2,hz3⟩
 ·obtain rfl:z2= .slice (some a') len' cap':=by simpa using hs
  have hA:=ArgRow.of f hl' hm' hc'
  exact ⟨(k,s,(List.range len').map f,t),rfl,rfl,rfl,hA.2.1,hz1,hA.2.2,hz3⟩
theorem open_items {H:Type} {enc:TypeId×Value→H} {w:World} {base:Nat} {spare:Nat→Bool} {held:Bool} {fuel:Nat} {cs:List Value} {x:DataW H×List MemPlace}
  (h:DataW.trod enc Tryz.prog w base spare held fuel 42 cs=some x):
  cs=[.slice none 0 0]∨ ∃(a:Addr) (len cap:Nat) (f:Nat→It),cs=[.slice (some a) len cap]∧len≤cap∧cap≤maxLen∧
   ∀i,i<len→ ∃u,w.cell? (a.add (i*4))=some (.int .i64 (f i).1)∧w.cell? (a.add (i*4+1))=some (.string (f i).2.1)∧w.cell? (a.add (i*4+2))=some u∧w.cell? (a.add (i*4+3))=some (.string (f i).2.2.2)∧RowC w u (f i).2.2.1∧SizedI (f i):=by
 have hC:Tryz.prog.cellsOf 77=4:=by kernel_rfl
 rcases open_slice Tryz.underlying42 h with ⟨h0,-⟩|⟨a,len,cap,m,n,D,Pl,hcs,hb,hl,hm,hmm,hx,hi⟩
 ·exact .inl h0
 ·refine .inr ⟨a,len,cap, ?_⟩
  have key: ∀i,∃c:It,i<len→ ∃u,w.cell? (a.add (i*4))=some (.int .i64 c.1)∧w.cell? (a.add (i*4+1))=some (.string c.2.1)∧w.cell? (a.add (i*4+2))=some u∧w.cell? (a.add (i*4+3))=some (.string c.2.2.2)∧RowC w u c.2.2.1∧SizedI c:=by
   intro i
   by_cases hil:i<len
   ·have him:i<m:=by rw [hmm];split<;>omega
    obtain ⟨cs',hc,ht'⟩:=hi i him
    rw [hC] at hc
    obtain ⟨y0,y1,y2,y3,n',-,hlen,g0,g1,g2,g3⟩:=Go.Joins.trod_struct4 Tryz.underlying77 ht'
    rw [hC] at hlen
    obtain ⟨_,-,hat⟩:=World.cells?_some hc
    match cs',hlen with
    |[z0,z1,z2,z3],_=>
     rw [show ([z0,z1,z2,z3].drop 0).take (Tryz.prog.cellsOf 3)=[z0] by rw [show Tryz.prog.cellsOf 3=1 by kernel_rfl];rfl] at g0
     rw [show ([z0,z1,z2,z3].drop 1).take (Tryz.prog.cellsOf 9)=[z1] by rw [show Tryz.prog.cellsOf 9=1 by kernel_rfl];rfl] at g1
     rw [show ([z0,z1,z2,z3].drop 2).take (Tryz.prog.cellsOf 75)=[z2] by rw [show Tryz.prog.cellsOf 75=1 by kernel_rfl];rfl] at g2
     rw [show ([z0,z1,z2,z3].drop 3).take (Tryz.prog.cellsOf 9)=[z3] by rw [show Tryz.prog.cellsOf 9=1 by kernel_rfl];rfl] at g3
     obtain ⟨c,r0,r1,r3,hr,hz⟩:=open_fields g0 g1 g2 g3
     have h0:=hat 0 (by omega);have h1:=hat 1 (by omega);have h2:=hat 2 (by omega);have h3:=hat 3 (by omega)
     simp only [List.getElem?_cons_zero,List.getElem?_cons_succ,r0,r1,r3] at h0 h1 h2 h3
     rw [Go.Deep.add_add] at h0 h1 h2 h3
     exact ⟨c,fun _=>⟨_,h0,h1,h2,h3,hr,hz⟩⟩
   ·exact ⟨(0,ByteArray.empty,[],ByteArray.empty),fun h=>absurd h hil⟩
  refine ⟨fun i=>(key i).choose,hcs,hl,hm,fun i hil=>(key i).choose_spec hil⟩
end Go.Proofs.YtegdjjjpoahamaaGreatDoor
