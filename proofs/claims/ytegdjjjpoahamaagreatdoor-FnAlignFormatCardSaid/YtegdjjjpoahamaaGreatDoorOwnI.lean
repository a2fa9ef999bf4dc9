/-
  Items of one's own: a row of kinds, names, slices and notes, each expression in a block of its own.
-/
import Derived.Test.YtegdjjjpoahamaaGreatDoorRowIt
import Derived.Test.YtegdjjjpoahamaaGreatDoorBaseE
set_option linter.unusedVariables false
namespace Go.Proofs.YtegdjjjpoahamaaGreatDoor
open Go.RowKit
def itF:List It→List Value→List Value
 |i::l,u::us=> .int .i64 i.1:: .string i.2.1::u:: .string i.2.2.2::itF l us
 |_,_=>[]
theorem itF_length: ∀(l:List It) (us:List Value),l.length=us.length→(itF l us).length=l.length*4:=by
 intro l
 induction l with
 |nil=>intro us h;rfl
 |cons b l ih=>
  intro us h
  cases us with
  |nil=>simp at h
  |cons u us=>simp only [itF,List.length_cons];rw [ih us (by simpa using h)];omega
theorem itF_at: ∀(l:List It) (us:List Value),l.length=us.length→ ∀(k:Nat) (h:k<l.length) (h':k<us.length),(itF l us)[k*4]? =some (.int .i64 l[k].1)∧(itF l us)[k*4+1]? =some (.string l[k].2.1)∧(itF l us)[k*4+2]? =some us[k]∧(itF l us)[k*4+3]? =some (.string l[k].2.2.2):=by
 intro l
 induction l with
 |nil=>intro us _ k h;simp at h
 |cons b l ih=>
  intro us hl k h h'
  cases us with
  |nil=>simp at h'
  |cons u us=>
   cases k with
   |zero=>exact ⟨rfl,rfl,rfl,rfl⟩
   |succ k=>
    simp only [itF,show (k+1)*4=k*4+1+1+1+1 by omega,List.getElem?_cons_succ,List.getElem_cons_succ]
    exact ih us (by simpa using hl) k (by simpa using h) (by simpa using h')
theorem itF_append: ∀(l:List It) (us:List Value) (l':List It) (us':List Value),l.length=us.length→itF (l++l') (us++us')=itF l us++itF l' us':=by
 intro l
 induction l with
 |nil=>intro us l' us' h;cases us with
  |nil=>rfl
  |cons u us=>simp at h
 |cons b l ih=>
  intro us l' us' h
  cases us with
  |nil=>simp at h
  |cons u us=>simp only [List.cons_append,itF];rw [ih us l' us' (by simpa using h)]
structure OwnI (w:World) (base:Nat) (v:Value) (us:List Value) (l:List It):Prop where
 row:w.ownsRow base 32 4 v l.length (itF l us)
 len:us.length=l.length
 each: ∀(k:Nat) (h:k<us.length) (h':k<l.length),w.ownsRow base 110 3 us[k] l[k].2.2.1.length (flatC l[k].2.2.1)
 far: ∀(k:Nat) (h:k<us.length) (b:Nat),us[k].ownBlock=some b→v.ownBlock≠some b
 apart: ∀(i j:Nat) (hi:i<us.length) (hj:j<us.length) (b:Nat),us[i].ownBlock=some b→us[j].ownBlock=some b→i=j
theorem OwnI.below {w w':World} {base:Nat} {v:Value} {us:List Value} {l:List It} (h:OwnI w base v us l) (hb:Below w.heap.size w w'):OwnI w' base v us l:=
 ⟨own_belowS h.row hb,h.len,fun k h1 h2=>own_belowS (h.each k h1 h2) hb,h.far,h.apart⟩
theorem OwnI.keep {w w':World} {base:Nat} {v:Value} {us:List Value} {l:List It} (h:OwnI w base v us l) (hw: ∀b,base≤b→b<w.heap.size→w'.heap[b]? =w.heap[b]?):OwnI w' base v us l:=
 ⟨own_keep h.row (fun g hg=>hw g (h.row.lt g hg).1 (h.row.lt g hg).2),h.len,fun k h1 h2=>own_keep (h.each k h1 h2) (fun g hg=>hw g ((h.each k h1 h2).lt g hg).1 ((h.each k h1 h2).lt g hg).2),h.far,h.apart⟩
theorem OwnI.reads {w:World} {base:Nat} {v:Value} {us:List Value} {l:List It} (h:OwnI w base v us l):RowIt w v l:=by
 obtain ⟨ao,cap,rfl⟩:=own_shape h.row
 have hl:=h.len
 rcases h.row.2 with ⟨h1,h2⟩|⟨g,cp,cur,h1,hg,hh,hc1,hc2,_⟩
 ·injection h1 with e1 e2 e3
  subst e1;subst e3
  exact ⟨none,0,rfl,by omega,by unfold maxLen;omega, .inl (List.length_eq_zero_iff.mp h2)⟩
 ·injection h1 with e1 e2 e3
  subst e1;subst e3
  refine ⟨_,cap,rfl,hc1,hc2, .inr ⟨g,0,rfl,(h.row.lt g rfl).2,fun k hk=> ?_⟩⟩
  obtain ⟨f0,f1,f2,f3⟩:=itF_at l us hl.symm k hk (by omega)
  refine ⟨us[k]'(by omega), ?_, ?_, ?_, ?_,(RowC.of_own (h.each k (by omega) hk)).1⟩
  ·rw [Nat.zero_add,h.row.cellAt _ (by omega)];exact f0
  ·rw [Nat.zero_add,h.row.cellAt _ (by omega)];exact f1
  ·rw [Nat.zero_add,h.row.cellAt _ (by omega)];exact f2
  ·rw [Nat.zero_add,h.row.cellAt _ (by omega)];exact f3
theorem OwnI.lower {w:World} {base base':Nat} {v:Value} {us:List Value} {l:List It} (h:OwnI w base v us l) (hb:base'≤base):OwnI w base' v us l:=
 ⟨own_base h.row (fun g hg=>Nat.le_trans hb (h.row.lt g hg).1),h.len,fun k h1 h2=>own_base (h.each k h1 h2) (fun g hg=>Nat.le_trans hb ((h.each k h1 h2).lt g hg).1),h.far,h.apart⟩
theorem itF_set (l:List It): ∀(us:List Value) (k:Nat) (h:k<l.length) (hl:l.length=us.length) (x:It),
  ((itF l us).set (k*4) (.int .i64 x.1)=itF (l.set k (x.1,l[k].2)) us)∧((itF l us).set (k*4+1) (.string x.2.1)=itF (l.set k (l[k].1,x.2.1,l[k].2.2)) us)∧((itF l us).set (k*4+3) (.string x.2.2.2)=itF (l.set k (l[k].1,l[k].2.1,l[k].2.2.1,x.2.2.2)) us):=by
 induction l with
 |nil=>intro us k h;simp at h
 |cons b l ih=>
  intro us k h hl x
  cases us with
  |nil=>simp at hl
  |cons u us=>
   cases k with
   |zero=>exact ⟨rfl,rfl,rfl⟩
   |succ k=>
    obtain ⟨i1,i2,i3⟩:=ih us k (by simpa using h) (by simpa using hl) x
    simp only [itF,show (k+1)*4=k*4+1+1+1+1 by omega,show k*4+1+1+1+1+1=(k*4+1)+1+1+1+1 by omega,show k*4+1+1+1+1+3=(k*4+3)+1+1+1+1 by omega,List.set_cons_succ,List.getElem_cons_succ]
    exact ⟨by rw [i1],by rw [i2],by rw [i3]⟩
theorem OwnI.cellset {w:World} {base g c n:Nat} {us:List Value} {l l':List It} (hn:n=l.length) (h:OwnI w base (.slice (some ⟨g,0,none⟩) n c) us l) (j:Nat) (x:Value) (hF:(itF l us).set j x=itF l' us) (hlen:l'.length=l.length) (hex: ∀(k:Nat) (h1:k<l'.length) (h2:k<l.length),l'[k].2.2.1=l[k].2.2.1):
  OwnI (w.setCell ⟨g,j,none⟩ x) base (.slice (some ⟨g,0,none⟩) n c) us l':=by
 subst hn
 have hl:=h.len
 have hset: ∀b,b≠g→(w.setCell ⟨g,j,none⟩ x).heap[b]? =w.heap[b]? :=fun b hbn=>Below.heap_setCell _ _ _ _ hbn
 refine ⟨?_,by rw [hlen];exact hl, ?_,h.far,h.apart⟩
 ·rw [hlen,←hF]
  exact (h.row.stored j x).1
 ·intro k hk hk'
  rw [hex k hk' (by omega)]
  exact own_keep (h.each k hk (by omega)) (fun b hb=>hset b (fun e=>h.far k hk b hb (by rw [e];rfl)))
theorem OwnI.setKind {w:World} {base g c n:Nat} {us:List Value} {l:List It} (hn:n=l.length) (h:OwnI w base (.slice (some ⟨g,0,none⟩) n c) us l) (k:Nat) (hk:k<l.length) (x:Int):
  OwnI (w.setCell ⟨g,k*4,none⟩ (.int .i64 x)) base (.slice (some ⟨g,0,none⟩) n c) us (l.set k (x,l[k].2)):=by
 refine h.cellset hn _ _ (itF_set l us k hk h.len.symm (x,l[k].2)).1 (by rw [List.length_set]) (fun j h1 h2=> ?_)
 rw [List.getElem_set];split
 ·rename_i e;subst e;rfl
 ·rfl
theorem OwnI.setName {w:World} {base g c n:Nat} {us:List Value} {l:List It} (hn:n=l.length) (h:OwnI w base (.slice (some ⟨g,0,none⟩) n c) us l) (k:Nat) (hk:k<l.length) (s:ByteArray):
  OwnI (w.setCell ⟨g,k*4+1,none⟩ (.string s)) base (.slice (some ⟨g,0,none⟩) n c) us (l.set k (l[k].1,s,l[k].2.2)):=by
 refine h.cellset hn _ _ (itF_set l us k hk h.len.symm (l[k].1,s,l[k].2.2)).2.1 (by rw [List.length_set]) (fun j h1 h2=> ?_)
 rw [List.getElem_set];split
 ·rename_i e;subst e;rfl
 ·rfl
theorem OwnI.setNote {w:World} {base g c n:Nat} {us:List Value} {l:List It} (hn:n=l.length) (h:OwnI w base (.slice (some ⟨g,0,none⟩) n c) us l) (k:Nat) (hk:k<l.length) (s:ByteArray):
  OwnI (w.setCell ⟨g,k*4+3,none⟩ (.string s)) base (.slice (some ⟨g,0,none⟩) n c) us (l.set k (l[k].1,l[k].2.1,l[k].2.2.1,s)):=by
 refine h.cellset hn _ _ (itF_set l us k hk h.len.symm (l[k].1,l[k].2.1,l[k].2.2.1,s)).2.2 (by rw [List.length_set]) (fun j h1 h2=> ?_)
 rw [List.getElem_set];split
 ·rename_i e;subst e;rfl
 ·rfl
theorem OwnI.mark {w w':World} {base:Nat} {v:Value} {us:List Value} {l:List It} (h:OwnI w base v us l) (k:Nat) (hk:k<us.length) (hk':k<l.length) (x:List Cl) (hl:x.length=l[k].2.2.1.length)
  (hg:w.grownBy w' us[k].ownBlock) (ho:w'.ownsRow base 110 3 us[k] x.length (flatC x)):OwnI w' base v us (l.set k (l[k].1,l[k].2.1,x,l[k].2.2.2)):=by
 have hb2:itF (l.set k (l[k].1,l[k].2.1,x,l[k].2.2.2)) us=itF l us:=by
  have: ∀(l:List It) (us:List Value) (k:Nat) (h:k<l.length),itF (l.set k (l[k].1,l[k].2.1,x,l[k].2.2.2)) us=itF l us:=by
   intro l
   induction l with
   |nil=>intro us k h;simp at h
   |cons b l ih=>
    intro us k h
    cases us with
    |nil=>cases k<;>rfl
    |cons u us=>
     cases k with
     |zero=>rfl
     |succ k=>simp only [List.set_cons_succ,List.getElem_cons_succ,itF];rw [ih us k (by simpa using h)]
  exact this l us k hk'
 refine ⟨?_,by rw [List.length_set];exact h.len, ?_,h.far,h.apart⟩
 ·rw [List.length_set,hb2]
  exact own_keep h.row (fun g hgv=>hg.block g (h.row.lt g hgv).2 (fun he=>h.far k hk g he.symm hgv))
 ·intro j hj hj'
  rw [List.length_set] at hj'
  by_cases hjk:k=j
  ·subst hjk
   rw [List.getElem_set_self];exact ho
  ·rw [List.getElem_set_ne hjk]
   exact own_keep (h.each j hj hj') (fun g hgj=>hg.block g ((h.each j hj hj').lt g hgj).2 (fun he=>hjk (h.apart k j hk hj g he.symm hgj)))
def NewI (l:List It) (w:World) (e:Ending) (w':World):Prop:=
 ∃v us,e= .returned v∧OwnI w' w.heap.size v us l∧Below w.heap.size w w'
end Go.Proofs.YtegdjjjpoahamaaGreatDoor
