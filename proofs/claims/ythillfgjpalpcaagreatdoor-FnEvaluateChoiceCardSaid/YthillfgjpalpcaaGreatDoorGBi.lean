/-
  Several texts of the proof in one file: OwnB, BindW, BindT.
-/
import Derived.Test.YthillfgjpalpcaaGreatDoorGEv
import Derived.Test.YthillfgjpalpcaaGreatDoorBaseL
import Derived.Test.YthillfgjpalpcaaGreatDoorGFr
set_option linter.unusedVariables false
set_option maxHeartbeats 4000000
set_option maxRecDepth 100000
namespace Go.Proofs.YthillfgjpalpcaaGreatDoor
open Go.RowKit
def bindF:List Bd→List Value→List Value
 |b::env,u::us=> .string b.1::u::bindF env us
 |_,_=>[]
theorem bindF_length: ∀(env:List Bd) (us:List Value),env.length=us.length→(bindF env us).length=env.length*2:=by
 intro env
 induction env with
 |nil=>intro us h;rfl
 |cons b env ih=>
  intro us h
  cases us with
  |nil=>simp at h
  |cons u us=>simp only [bindF,List.length_cons];rw [ih us (by simpa using h)];omega
theorem bindF_at: ∀(env:List Bd) (us:List Value),env.length=us.length→ ∀(k:Nat) (h:k<env.length) (h':k<us.length),(bindF env us)[k*2]? =some (.string env[k].1)∧(bindF env us)[k*2+1]? =some us[k]:=by
 intro env
 induction env with
 |nil=>intro us _ k h;simp at h
 |cons b env ih=>
  intro us hl k h h'
  cases us with
  |nil=>simp at h'
  |cons u us=>
   cases k with
   |zero=>exact ⟨rfl,rfl⟩
   |succ k=>
    simp only [bindF,show (k+1)*2=k*2+1+1 by omega,List.getElem?_cons_succ,List.getElem_cons_succ]
    exact ih us (by simpa using hl) k (by simpa using h) (by simpa using h')
theorem bindF_append: ∀(env:List Bd) (us:List Value) (env':List Bd) (us':List Value),env.length=us.length→bindF (env++env') (us++us')=bindF env us++bindF env' us':=by
 intro env
 induction env with
 |nil=>intro us env' us' h;cases us with
  |nil=>rfl
  |cons u us=>simp at h
 |cons b env ih=>
  intro us env' us' h
  cases us with
  |nil=>simp at h
  |cons u us=>simp only [List.cons_append,bindF];rw [ih us env' us' (by simpa using h)]
structure OwnB (w:World) (base:Nat) (v:Value) (us:List Value) (env:List Bd):Prop where
 row:w.ownsRow base 46 2 v env.length (bindF env us)
 len:us.length=env.length
 each: ∀(k:Nat) (h:k<us.length) (h':k<env.length),w.ownsRow base 44 3 us[k] env[k].2.length (flatC env[k].2)
 far: ∀(k:Nat) (h:k<us.length) (b:Nat),us[k].ownBlock=some b→v.ownBlock≠some b
 apart: ∀(i j:Nat) (hi:i<us.length) (hj:j<us.length) (b:Nat),us[i].ownBlock=some b→us[j].ownBlock=some b→i=j
theorem OwnB.below {w w':World} {base:Nat} {v:Value} {us:List Value} {env:List Bd} (h:OwnB w base v us env) (hb:Below w.heap.size w w'):OwnB w' base v us env:=
 ⟨own_belowS h.row hb,h.len,fun k h1 h2=>own_belowS (h.each k h1 h2) hb,h.far,h.apart⟩
theorem OwnB.keep {w w':World} {base:Nat} {v:Value} {us:List Value} {env:List Bd} (h:OwnB w base v us env) (hw: ∀b,base≤b→b<w.heap.size→w'.heap[b]? =w.heap[b]?):OwnB w' base v us env:=
 ⟨own_keep h.row (fun g hg=>hw g (h.row.lt g hg).1 (h.row.lt g hg).2),h.len,fun k h1 h2=>own_keep (h.each k h1 h2) (fun g hg=>hw g ((h.each k h1 h2).lt g hg).1 ((h.each k h1 h2).lt g hg).2),h.far,h.apart⟩
theorem OwnB.reads {w:World} {base:Nat} {v:Value} {us:List Value} {env:List Bd} (h:OwnB w base v us env):RowB w v env:=by
 obtain ⟨ao,cap,rfl⟩:=own_shape h.row
 have hl:=h.len
 rcases h.row.2 with ⟨h1,h2⟩|⟨g,cp,cur,h1,hg,hh,hc1,hc2,_⟩
 ·injection h1 with e1 e2 e3
  subst e1;subst e3
  exact ⟨none,0,rfl,by omega,by unfold maxLen;omega, .inl (List.length_eq_zero_iff.mp h2)⟩
 ·injection h1 with e1 e2 e3
  subst e1;subst e3
  refine ⟨_,cap,rfl,hc1,hc2, .inr ⟨g,0,rfl,(h.row.lt g rfl).2,fun k hk=> ?_⟩⟩
  obtain ⟨f0,f1⟩:=bindF_at env us hl.symm k hk (by omega)
  refine ⟨us[k]'(by omega), ?_, ?_,(RowC.of_own (h.each k (by omega) hk)).1⟩
  ·rw [Nat.zero_add,h.row.cellAt _ (by omega)];exact f0
  ·rw [Nat.zero_add,h.row.cellAt _ (by omega)];exact f1
theorem OwnB.lower {w:World} {base base':Nat} {v:Value} {us:List Value} {env:List Bd} (h:OwnB w base v us env) (hb:base'≤base):OwnB w base' v us env:=
 ⟨own_base h.row (fun g hg=>Nat.le_trans hb (h.row.lt g hg).1),h.len,fun k h1 h2=>own_base (h.each k h1 h2) (fun g hg=>Nat.le_trans hb ((h.each k h1 h2).lt g hg).1),h.far,h.apart⟩
theorem bindF_name (env:List Bd): ∀(us:List Value) (k:Nat) (h:k<env.length) (hl:env.length=us.length) (s:ByteArray),(bindF env us).set (k*2) (.string s)=bindF (env.set k (s,env[k].2)) us:=by
 induction env with
 |nil=>intro us k h;simp at h
 |cons b env ih=>
  intro us k h hl s
  cases us with
  |nil=>simp at hl
  |cons u us=>
   cases k with
   |zero=>rfl
   |succ k=>
    simp only [bindF,show (k+1)*2=k*2+1+1 by omega,List.set_cons_succ,List.getElem_cons_succ]
    rw [ih us k (by simpa using h) (by simpa using hl) s]
theorem OwnB.name {w:World} {base g c:Nat} {us:List Value} {env:List Bd} (h:OwnB w base (.slice (some ⟨g,0,none⟩) env.length c) us env) (k:Nat) (hk:k<env.length) (s:ByteArray):
  OwnB (w.setCell ⟨g,k*2,none⟩ (.string s)) base (.slice (some ⟨g,0,none⟩) env.length c) us (env.set k (s,env[k].2)):=by
 have hl:=h.len
 have hset: ∀b,b≠g→(w.setCell ⟨g,k*2,none⟩ (.string s)).heap[b]? =w.heap[b]? :=fun b hbn=>Below.heap_setCell _ _ _ _ hbn
 refine ⟨?_,by rw [List.length_set];exact hl, ?_,h.far,h.apart⟩
 ·rw [List.length_set,←bindF_name env us k hk hl.symm s]
  exact (h.row.stored (k*2) (.string s)).1
 ·intro j hj hj'
  rw [List.length_set] at hj'
  have he:(env.set k (s,env[k].2))[j]'(by rw [List.length_set];exact hj')=if k=j then (s,env[k].2) else env[j]:=by rw [List.getElem_set]
  have h2:((env.set k (s,env[k].2))[j]'(by rw [List.length_set];exact hj')).2=env[j].2:=by
   rw [he];split
   ·rename_i e;subst e;rfl
   ·rfl
  rw [h2]
  exact own_keep (h.each j hj hj') (fun b hb=>hset b (fun e=>h.far j hj b hb (by rw [e];rfl)))
def Bn2 (w:World) (B:Nat) (x y:Value):Prop:=w.cell? ⟨B,0,none⟩=some x∧w.cell? ⟨B,1,none⟩=some y∧w.frozen? ⟨B,0,none⟩=false∧w.frozen? ⟨B,1,none⟩=false∧B<w.heap.size
theorem Bn2.keep {W w1:World} {B:Nat} {x y:Value} (h:Bn2 W B x y) (hb:Below W.heap.size W w1):Bn2 w1 B x y:=by
 obtain ⟨h1,h2,h3,h4,h5⟩:=h
 obtain ⟨hc,hf⟩:=bcell hb
 have hs:=hb.size
 exact ⟨(hc _ _ (by omega)).trans h1,(hc _ _ (by omega)).trans h2,(hf _ _ (by omega)).trans h3,(hf _ _ (by omega)).trans h4,by omega⟩
theorem Bn2.new (W:World) (x y:Value) (t:TypeId):Bn2 (W.alloc (.cells #[x,y] t)) W.heap.size x y:=by
 refine ⟨?_, ?_, ?_, ?_, ?_⟩<;>simp [go_sem]
theorem Bn2.al {W:World} {B:Nat} {x y:Value} (h:Bn2 W B x y) (o:Obj):Bn2 (W.alloc o) B x y:=h.keep ((Below.refl _ W).alloc (Nat.le_refl _) _)
def FilledB (w:World) (B n:Nat) (us:List Value) (env:List Bd) (wr:World) (M:List Value) (k:Nat):Prop:=
 us.length=k∧wr.ownsRow B 46 2 (.slice (some ⟨B,0,none⟩) n n) n (bindF (env.take k) us++M.drop (k*2))∧Below w.heap.size w wr∧(∀(j:Nat) (h:j<us.length) (h':j<env.length),wr.ownsRow (B+1) 44 3 us[j] env[j].2.length (flatC env[j].2))∧
  ∀(i j:Nat) (hi:i<us.length) (hj:j<us.length) (b:Nat),us[i].ownBlock=some b→us[j].ownBlock=some b→i=j
theorem FilledB.next {w wr w1:World} {B n k:Nat} {us:List Value} {env:List Bd} {M:List Value} {u:Value} (h:FilledB w B n us env wr M k) (hk:k<n) (hkl:k<env.length) (hM:M.length=n*2) (hB:w.heap.size≤B) (hBl:B<wr.heap.size) (hb1:Below wr.heap.size wr w1)
  (hu:w1.ownsRow wr.heap.size 44 3 u env[k].2.length (flatC env[k].2)):FilledB w B n (us++[u]) env ((w1.setCell ⟨B,k*2,none⟩ (.string env[k].1)).setCell ⟨B,k*2+1,none⟩ u) M (k+1):=by
 obtain ⟨h1,h2,h3,h4,h5⟩:=h
 have hs1:=hb1.size
 have hset: ∀b,b≠B→((w1.setCell ⟨B,k*2,none⟩ (.string env[k].1)).setCell ⟨B,k*2+1,none⟩ u).heap[b]? =w1.heap[b]? :=fun b hbn=>(Below.heap_setCell _ _ _ _ hbn).trans (Below.heap_setCell _ _ _ _ hbn)
 have hus: ∀j (hj:j<us.length) b,us[j].ownBlock=some b→B+1≤b∧b<wr.heap.size:=fun j hj b hb=>(h4 j hj (by omega)).lt b hb
 have hu1: ∀b,u.ownBlock=some b→wr.heap.size≤b∧b<w1.heap.size:=fun b hb=>hu.lt b hb
 have htl:(env.take k).length=us.length:=by rw [List.length_take];omega
 have hfl:(bindF (env.take k) us).length=k*2:=by rw [bindF_length _ _ htl,htl,h1]
 refine ⟨by simp [h1], ?_,((h3.trans (hb1.mono h3.size)).setCell hB _).setCell hB _, ?_, ?_⟩
 ·have e:((bindF (env.take k) us++M.drop (k*2)).set (k*2) (.string env[k].1)).set (k*2+1) u=bindF (env.take (k+1)) (us++[u])++M.drop ((k+1)*2):=by
   rw [List.set_append_right _ _ (by omega),hfl,Nat.sub_self,List.set_append_right _ _ (by omega),hfl,show k*2+1-k*2=1 by omega,List.drop_eq_getElem_cons (by omega),List.set_cons_zero,List.drop_eq_getElem_cons (by omega),List.set_cons_succ,List.set_cons_zero,
    List.take_succ_eq_append_getElem hkl,bindF_append _ _ _ _ htl,show (k+1)*2=k*2+1+1 by omega,List.append_assoc]
   rfl
  rw [←e]
  exact ((((own_belowS h2 hb1).stored (k*2) (.string env[k].1)).1).stored (k*2+1) u).1
 ·intro j hj hj'
  by_cases hlt:j<us.length
  ·rw [List.getElem_append_left hlt]
   exact own_keep (h4 j hlt hj') (fun g hg=>by rw [hset g (by have:=hus j hlt g hg;omega),hb1.block g (hus j hlt g hg).2])
  ·have:j=us.length:=by simp at hj;omega
   subst this
   simp only [List.getElem_append_right (Nat.le_refl _),Nat.sub_self,List.getElem_cons_zero]
   subst h1
   exact own_base (own_keep hu (fun g hg=>hset g (by have:=hu1 g hg;omega))) (fun g hg=>by have:=hu1 g hg;omega)
 ·intro i j hi hj b hbi hbj
  by_cases hli:i<us.length
  ·rw [List.getElem_append_left hli] at hbi
   by_cases hlj:j<us.length
   ·rw [List.getElem_append_left hlj] at hbj;exact h5 i j hli hlj b hbi hbj
   ·have:j=us.length:=by simp at hj;omega
    subst this
    simp only [List.getElem_append_right (Nat.le_refl _),Nat.sub_self,List.getElem_cons_zero] at hbj
    have:=hus i hli b hbi;have:=hu1 b hbj;omega
  ·have:i=us.length:=by simp at hi;omega
   subst this
   simp only [List.getElem_append_right (Nat.le_refl _),Nat.sub_self,List.getElem_cons_zero] at hbi
   by_cases hlj:j<us.length
   ·rw [List.getElem_append_left hlj] at hbj
    have:=hus j hlj b hbj;have:=hu1 b hbi;omega
   ·simp at hj;omega
theorem FilledB.done {w wr:World} {B n:Nat} {us:List Value} {env:List Bd} {M:List Value} (h:FilledB w B n us env wr M n) (hM:M.length=n*2) (hn:env.length=n) (hB:w.heap.size≤B):OwnB wr w.heap.size (.slice (some ⟨B,0,none⟩) n n) us env:=by
 obtain ⟨h1,h2,h3,h4,h5⟩:=h
 rw [List.drop_eq_nil_of_le (by omega),List.append_nil,List.take_of_length_le (by omega)] at h2
 refine ⟨by rw [hn];exact own_base h2 (fun g hg=>by have:=(h2.lt g hg).1;omega),by omega,fun k hk hk'=>own_base (h4 k hk hk') (fun g hg=>by have:=((h4 k hk hk').lt g hg).1;omega), ?_,h5⟩
 intro k hk b hb he
 have:B=b:=by simpa [Value.ownBlock] using he
 have:=((h4 k hk (by omega)).lt b hb).1
 omega
theorem infoBd:(Tryz.prog.info? 46).map (fun i=>(i.zero,i.size,i.bytes))=some (some (.agg #[.string ByteArray.empty, .slice none 0 0]),2,40):=by kernel_rfl
end Go.Proofs.YthillfgjpalpcaaGreatDoor
