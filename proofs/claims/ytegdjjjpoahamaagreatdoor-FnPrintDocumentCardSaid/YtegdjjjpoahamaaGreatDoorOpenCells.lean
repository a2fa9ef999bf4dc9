/-
  How an argument that is a slice of cells is opened.
-/
import Derived.Test.YtegdjjjpoahamaaGreatDoorBaseE
import Derived.Deep.Slices
import Derived.Deep.Strs
import Derived.Deep.Fields
import Derived.ChangeSame
set_option linter.unusedVariables false
set_option maxRecDepth 100000
namespace Go.Proofs.YtegdjjjpoahamaaGreatDoor
open Go.RowKit Go.ChangeShapes Go.WideShapes Go.Deep
theorem open_cells {H:Type} {enc:TypeId×Value→H} {w:World} {base:Nat} {spare:Nat→Bool} {held:Bool} {fuel:Nat} {cs:List Value} {x:DataW H×List MemPlace}
  (h:DataW.trod enc Tryz.prog w base spare held fuel 75 cs=some x):
  cs=[.slice none 0 0]∨ ∃(a:Addr) (len cap:Nat) (f:Nat→Cl),cs=[.slice (some a) len cap]∧len≤cap∧cap≤maxLen∧
   ∀i,i<len→w.cell? (a.add (i*3))=some (.int .i64 (f i).1)∧w.cell? (a.add (i*3+1))=some (.string (f i).2.1)∧w.cell? (a.add (i*3+2))=some (.int .i64 (f i).2.2)∧(f i).2.1.size≤maxLen:=by
 have hC:Tryz.prog.cellsOf 148=3:=by kernel_rfl
 rcases open_slice Tryz.underlying75 h with ⟨h0,-⟩|⟨a,len,cap,m,n,D,Pl,hcs,hb,hl,hm,hmm,hx,hi⟩
 ·exact .inl h0
 ·refine .inr ⟨a,len,cap, ?_⟩
  have key: ∀i,∃c:Cl,i<len→w.cell? (a.add (i*3))=some (.int .i64 c.1)∧w.cell? (a.add (i*3+1))=some (.string c.2.1)∧w.cell? (a.add (i*3+2))=some (.int .i64 c.2.2)∧c.2.1.size≤maxLen:=by
   intro i
   by_cases hil:i<len
   ·have him:i<m:=by rw [hmm];split<;>omega
    obtain ⟨cs',hc,ht'⟩:=hi i him
    rw [hC] at hc
    obtain ⟨y0,y1,y2,n',-,hlen,g0,g1,g2⟩:=trod_struct3 Tryz.underlying148 ht'
    rw [hC] at hlen
    obtain ⟨_,-,hat⟩:=World.cells?_some hc
    match cs',hlen with
    |[z0,z1,z2],_=>
     obtain ⟨k,e0,-,-⟩:=DataW.trod_int Tryz.underlying3 g0
     obtain ⟨s,e1,-,hz⟩:=DataW.trod_string Tryz.underlying9 g1
     obtain ⟨q,e2,-,-⟩:=DataW.trod_int Tryz.underlying3 g2
     have r0:z0= .int .i64 k:=by
      have:([z0,z1,z2].drop 0).take (Tryz.prog.cellsOf 3)=[z0]:=by rw [show Tryz.prog.cellsOf 3=1 by kernel_rfl];rfl
      rw [this] at e0;simpa using e0
     have r1:z1= .string s:=by
      have:([z0,z1,z2].drop 1).take (Tryz.prog.cellsOf 9)=[z1]:=by rw [show Tryz.prog.cellsOf 9=1 by kernel_rfl];rfl
      rw [this] at e1;simpa using e1
     have r2:z2= .int .i64 q:=by
      have:([z0,z1,z2].drop 2).take (Tryz.prog.cellsOf 3)=[z2]:=by rw [show Tryz.prog.cellsOf 3=1 by kernel_rfl];rfl
      rw [this] at e2;simpa using e2
     refine ⟨(k,s,q),fun _=> ?_⟩
     have h0:=hat 0 (by omega);have h1:=hat 1 (by omega);have h2:=hat 2 (by omega)
     simp only [List.getElem?_cons_zero,List.getElem?_cons_succ,r0,r1,r2] at h0 h1 h2
     rw [Go.Deep.add_add] at h0 h1 h2
     exact ⟨h0,h1,h2,hz⟩
   ·exact ⟨(0,ByteArray.empty,0),fun h=>absurd h hil⟩
  refine ⟨fun i=>(key i).choose,hcs,hl,hm,fun i hil=>(key i).choose_spec hil⟩
end Go.Proofs.YtegdjjjpoahamaaGreatDoor
