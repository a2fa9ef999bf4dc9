/-
  A slice of items that is read (RowIt); one item in a block.
-/
import Derived.Test.YtegdjjjpoahamaaGreatDoorDocPlain
import Derived.Test.YtegdjjjpoahamaaGreatDoorBaseE
set_option linter.unusedVariables false
namespace Go.Proofs.YtegdjjjpoahamaaGreatDoor
open Go.RowKit
theorem le_t {l:List Cl} (h:l.isEmpty=true):((l.length:Int)==0)=true∧l.length=0:=by
 cases l with
 |nil=>exact ⟨rfl,rfl⟩
 |cons a l=>cases h
theorem le_f {l:List Cl} (h:l.isEmpty=false):((l.length:Int)==0)=false∧l.length≠0:=by
 cases l with
 |nil=>cases h
 |cons a l=>exact ⟨beq_eq_false_iff_ne.mpr (by simp;omega),by simp⟩
theorem boxI {w w1:World} {k:Int} {n t:ByteArray} {u:Value} {ty:TypeId} (hb:Below (w.alloc (.cells #[.int .i64 k, .string n,u, .string t] ty)).heap.size (w.alloc (.cells #[.int .i64 k, .string n,u, .string t] ty)) w1):
  w1.cell? ⟨w.heap.size,0,none⟩=some (.int .i64 k)∧w1.cell? ⟨w.heap.size,1,none⟩=some (.string n)∧w1.cell? ⟨w.heap.size,2,none⟩=some u∧w1.cell? ⟨w.heap.size,3,none⟩=some (.string t):=by
 refine ⟨?_, ?_, ?_, ?_⟩<;>(rw [hb.cell (by simp)];simp [go_sem])
def ItAt (w:World) (b o k:Nat) (i:It) (u:Value):Prop:=
 w.cell? ⟨b,o+k*4,none⟩=some (.int .i64 i.1)∧w.cell? ⟨b,o+k*4+1,none⟩=some (.string i.2.1)∧w.cell? ⟨b,o+k*4+2,none⟩=some u∧w.cell? ⟨b,o+k*4+3,none⟩=some (.string i.2.2.2)∧RowC w u i.2.2.1
theorem ItAt.mono {w w':World} {b o k:Nat} {i:It} {u:Value} (h:ItAt w b o k i u) (hlt:b<w.heap.size) (hb:Below w.heap.size w w'):ItAt w' b o k i u:=
 ⟨(hb.cell (p:=⟨b,_,none⟩) hlt).trans h.1,(hb.cell (p:=⟨b,_,none⟩) hlt).trans h.2.1,(hb.cell (p:=⟨b,_,none⟩) hlt).trans h.2.2.1,(hb.cell (p:=⟨b,_,none⟩) hlt).trans h.2.2.2.1,h.2.2.2.2.mono hb⟩
def RowIt (w:World) (v:Value) (l:List It):Prop:=
 ∃ao cap,v= .slice ao l.length cap∧l.length≤cap∧cap≤maxLen∧(l=[]∨ ∃b o,ao=some ⟨b,o,none⟩∧b<w.heap.size∧ ∀(k:Nat) (h:k<l.length),∃u,ItAt w b o k l[k] u)
theorem RowIt.mono {w w':World} {v:Value} {l:List It} (h:RowIt w v l) (hb:Below w.heap.size w w'):RowIt w' v l:=by
 obtain ⟨ao,cap,hv,h1,h2,h3⟩:=h
 refine ⟨ao,cap,hv,h1,h2, ?_⟩
 rcases h3 with h3|⟨b,o,ha,hlt,hj⟩
 ·exact .inl h3
 ·refine .inr ⟨b,o,ha,Nat.lt_of_lt_of_le hlt hb.size,fun k hk=> ?_⟩
  obtain ⟨u,hu⟩:=hj k hk
  exact ⟨u,hu.mono hlt hb⟩
theorem RowIt.drewN {w:World} {v:Value} {l:List It} (h:RowIt w v l) (n:Nat):RowIt (w.drewN n) v l:=h.mono ⟨rfl,rfl,rfl,Nat.le_refl _,fun _ _=>rfl⟩
theorem RowIt.al {w:World} {v:Value} {l:List It} (h:RowIt w v l) (o:Obj):RowIt (w.alloc o) v l:=h.mono ((Below.refl _ _).alloc (Nat.le_refl _) _)
def ShortI (l:List It):Prop:= ∀i∈l,i.2.1.size≤1048576∧ShortC i.2.2.1∧i.2.2.1.length≤1048576∧i.2.2.2.size≤1048576
end Go.Proofs.YtegdjjjpoahamaaGreatDoor
