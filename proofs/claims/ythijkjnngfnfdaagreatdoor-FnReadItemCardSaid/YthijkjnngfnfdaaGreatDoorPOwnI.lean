/-
  Items of one's own: a row of vH, names, slices and notes, each expression in a block of its own.
-/
import Derived.Test.YthijkjnngfnfdaaGreatDoorZz
import Derived.Test.YthijkjnngfnfdaaGreatDoorPRowIt
import Derived.Test.YthijkjnngfnfdaaGreatDoorPBaseE
set_option linter.unusedVariables false
namespace Go.Proofs.YthijkjnngfnfdaaGreatDoor
open Go.RowKit
def itF:List It→List Value→List Value
 |i::l,u::us=> .int .i64 i.1:: .string i.2.1::u:: .string i.2.2.2::itF l us
 |_,_=>[]
theorem mi: ∀(l:List It) (us:List Value),l.length=us.length→(itF l us).length=l.length*4:=by
 intro l
 induction l with
 |nil=>intro us h;rfl
 |cons b l ih=>
  intro us h
  cases us with
  |nil=>simp at h
  |cons u us=>simp only [itF,List.length_cons];rw [ih us (by simpa using h)];omega
theorem xp: ∀(l:List It) (us:List Value),l.length=us.length→ ∀(k:Nat) (h:k<l.length) (h':k<us.length),(itF l us)[k*4]? =some (.int .i64 l[k].1)∧(itF l us)[k*4+1]? =some (.string l[k].2.1)∧(itF l us)[k*4+2]? =some us[k]∧(itF l us)[k*4+3]? =some (.string l[k].2.2.2):=by
 intro l
 induction l with
 |nil=>intro us _ k h;simp at h
 |cons b l ih=>
  intro us hl k h h'
  cases us with
  |nil=>simp at h'
  |cons u us=>
   cases k with
   |zero=>exact ⟨rfl,rfl,rfl,rfl⟩
   |succ k=>
    simp only [itF,show (k+1)*4=k*4+1+1+1+1 by omega,List.getElem?_cons_succ,List.getElem_cons_succ];exact ih us (by simpa using hl) k (by simpa using h) (by simpa using h')
theorem mj: ∀(l:List It) (us:List Value) (l':List It) (us':List Value),l.length=us.length→itF (l++l') (us++us')=itF l us++itF l' us':=by
 intro l
 induction l with
 |nil=>intro us l' us' h;cases us with
  |nil=>rfl
  |cons u us=>simp at h
 |cons b l ih=>
  intro us l' us' h
  cases us with
  |nil=>simp at h
  |cons u us=>simp only [List.cons_append,itF];rw [ih us l' us' (by simpa using h)]
structure OwnI (w:World) (base:Nat) (v:Value) (us:List Value) (l:List It):Prop where
 row:w.ownsRow base 25 4 v l.length (itF l us)
 len:us.length=l.length
 each: ∀(k:Nat) (h:k<us.length) (h':k<l.length),w.ownsRow base 120 3 us[k] l[k].2.2.1.length (ap l[k].2.2.1)
 far: ∀(k:Nat) (h:k<us.length) (b:Nat),us[k].ownBlock=some b→v.ownBlock≠some b
 apart: ∀(i j:Nat) (hi:i<us.length) (hj:j<us.length) (b:Nat),us[i].ownBlock=some b→us[j].ownBlock=some b→i=j
theorem OwnI.below {w w':World} {base:Nat} {v:Value} {us:List Value} {l:List It} (h:OwnI w base v us l) (hb:Below w.heap.size w w'):OwnI w' base v us l:=
 ⟨bJ h.row hb,h.len,fun k h1 h2=>bJ (h.each k h1 h2) hb,h.far,h.apart⟩
theorem OwnI.reads {w:World} {base:Nat} {v:Value} {us:List Value} {l:List It} (h:OwnI w base v us l):RowIt w v l:=by
 obtain ⟨ao,cap,rfl⟩:=ai h.row;have hl:=h.len
 rcases h.row.2 with ⟨h1,h2⟩|⟨g,cp,cur,h1,hg,hh,hc1,hc2,_⟩
 ·injection h1 with e1 e2 e3
  subst e1;subst e3;exact ⟨none,0,rfl,by omega,by unfold maxLen;omega, .inl (List.length_eq_zero_iff.mp h2)⟩
 ·injection h1 with e1 e2 e3
  subst e1;subst e3;refine ⟨_,cap,rfl,hc1,hc2, .inr ⟨g,0,rfl,(h.row.lt g rfl).2,fun k hk=> ?_⟩⟩;obtain ⟨f0,f1,f2,f3⟩:=xp l us hl.symm k hk (by omega);refine ⟨us[k]'(by omega), ?_, ?_, ?_, ?_,(RowC.of_own (h.each k (by omega) hk)).1⟩
  ·rw [Nat.zero_add,h.row.cellAt _ (by omega)];exact f0
  ·rw [Nat.zero_add,h.row.cellAt _ (by omega)];exact f1
  ·rw [Nat.zero_add,h.row.cellAt _ (by omega)];exact f2
  ·rw [Nat.zero_add,h.row.cellAt _ (by omega)];exact f3
theorem OwnI.lower {w:World} {base base':Nat} {v:Value} {us:List Value} {l:List It} (h:OwnI w base v us l) (hb:base'≤base):OwnI w base' v us l:=
 ⟨ba h.row (fun g hg=>Nat.le_trans hb (h.row.lt g hg).1),h.len,fun k h1 h2=>ba (h.each k h1 h2) (fun g hg=>Nat.le_trans hb ((h.each k h1 h2).lt g hg).1),h.far,h.apart⟩
def ahV (l:List It) (w:World) (e:Ending) (w':World):Prop:=
 ∃v us,e= .returned v∧OwnI w' w.heap.size v us l∧Below w.heap.size w w'
end Go.Proofs.YthijkjnngfnfdaaGreatDoor
