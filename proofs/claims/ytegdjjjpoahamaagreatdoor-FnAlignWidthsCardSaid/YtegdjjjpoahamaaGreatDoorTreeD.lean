/-
  Documents as trees of blocks: plainly (PtD), and in memory (TrD).
-/
import Derived.Test.YtegdjjjpoahamaaGreatDoorRowIt
import Derived.Test.YtegdjjjpoahamaaGreatDoorBaseX
set_option linter.unusedVariables false
namespace Go.Proofs.YtegdjjjpoahamaaGreatDoor
open Go.RowKit
inductive PtD:Nat→List It→Prop
 |nil (d:Nat):PtD d []
 |leaf {d:Nat} {i:It} {l:List It}:i.1≠4→i.1≠5→PtD d l→PtD d (i::l)
 |blk {d:Nat} {o c:It} {inn l:List It}:o.1=4→c.1=5→d<4→PtD (d+1) inn→PtD d l→PtD d (o::(inn++c::l))
theorem nestO_cons (d:Int) (i:It) (l:List It):nestO d (i::l)=if 0≤depN d i∧depN d i≤4 then nestO (depN d i) l else none:=rfl
theorem depN_leaf {d:Int} {i:It} (h4:i.1≠4) (h5:i.1≠5):depN d i=d:=by unfold depN depS;rw [if_neg h4,if_neg h5]
theorem depN_open {d:Int} {i:It} (h:i.1=4):depN d i=d+1:=by unfold depN depS;rw [if_pos h,if_neg (by omega)]
theorem depN_close {d:Int} {i:It} (h:i.1=5):depN d i=d-1:=by unfold depN depS;rw [if_neg (by omega),if_pos h]
theorem depS_leaf {d:Int} {i:It} (h5:i.1≠5):depS d i=d:=by unfold depS;rw [if_neg h5]
theorem depS_close {d:Int} {i:It} (h:i.1=5):depS d i=d-1:=by unfold depS;rw [if_pos h]
theorem PtD.nest {d:Nat} {l:List It} (h:PtD d l):d≤4→ ∀rest,nestO (d:Int) (l++rest)=nestO (d:Int) rest:=by
 induction h with
 |nil d=>intro _ rest;rfl
 | @leaf d i l h4 h5 _ ih=>
  intro hd rest
  rw [List.cons_append,nestO_cons,depN_leaf h4 h5,if_pos (by omega)]
  exact ih hd rest
 | @blk d o c inn l h4 h5 hd4 _ _ ih1 ih2=>
  intro hd rest
  rw [List.cons_append,nestO_cons,depN_open h4,if_pos (by omega),List.append_assoc,show (d:Int)+1=((d+1:Nat):Int) by omega,ih1 (by omega),List.cons_append,nestO_cons,depN_close h5,if_pos (by omega),show ((d+1:Nat):Int)-1=(d:Int) by omega]
  exact ih2 hd rest
theorem PtD.self {d:Nat} {l:List It} (h:PtD d l) (hd:d≤4):nestO (d:Int) l=some (d:Int):=by
 have:=h.nest hd []
 rwa [List.append_nil] at this
theorem depL_leaf {d:Int} {i:It} {l:List It} (h4:i.1≠4) (h5:i.1≠5):depL d (i::l)=d::depL d l:=by
 show depS d i::depL (depN d i) l=_
 rw [depN_leaf h4 h5,depS_leaf h5]
theorem depL_blk {d:Nat} {o c:It} {inn l:List It} (h4:o.1=4) (h5:c.1=5) (hd:d<4) (h:PtD (d+1) inn):
  depL (d:Int) (o::(inn++c::l))=(d:Int)::(depL ((d+1:Nat):Int) inn++(d:Int)::depL (d:Int) l):=by
 show depS _ o::depL (depN _ o) _=_
 rw [depN_open h4,depS_leaf (by omega),show (d:Int)+1=((d+1:Nat):Int) by omega,depL_app,nestO_end _ _ _ (h.self (by omega))]
 show _::(_++depS _ c::depL (depN _ c) l)=_
 rw [depN_close h5,depS_close h5,show ((d+1:Nat):Int)-1=(d:Int) by omega]
def BadN (d:Nat) (l:List It):Prop:= ∀e,nestO (d:Int) l=some e→(d:Int)<e
theorem BadN.pre {d:Nat} {a l:List It} (h:PtD d a) (hd:d≤4) (hb:BadN d l):BadN d (a++l):=by
 intro e he
 rw [h.nest hd] at he
 exact hb e he
theorem BadN.deep {o:It} {l:List It} (h:o.1=4):BadN 4 (o::l):=by
 intro e he
 rw [nestO_cons,depN_open h,if_neg (by omega)] at he
 cases he
theorem BadN.inn {d:Nat} {o:It} {l:List It} (h:o.1=4) (hd:d<4) (hb:BadN (d+1) l):BadN d (o::l):=by
 intro e he
 rw [nestO_cons,depN_open h,if_pos (by omega),show (d:Int)+1=((d+1:Nat):Int) by omega] at he
 have:=hb e he
 omega
theorem BadN.left {d:Nat} {o:It} {l:List It} (h:o.1=4) (hd:d<4) (hp:PtD (d+1) l):BadN d (o::l):=by
 intro e he
 rw [nestO_cons,depN_open h,if_pos (by omega),show (d:Int)+1=((d+1:Nat):Int) by omega,hp.self (by omega)] at he
 injection he with he
 omega
def BlkD (w:World) (g:Nat) (cs:Array Value):Prop:=w.heap[g]? =some (.cells cs 129 (0,0))
section
variable {w w':World} {g:Nat} {cs:Array Value}
theorem BlkD.lt (h:BlkD w g cs):g<w.heap.size:=by
 rcases Nat.lt_or_ge g w.heap.size with hlt|hge
 ·exact hlt
 ·unfold BlkD at h;rw [Array.getElem?_eq_none hge] at h;cases h
theorem BlkD.cell (h:BlkD w g cs) (i:Nat):w.cell? ⟨g,i,none⟩=cs[i]? :=cell_of_row w g i cs _ (0,0) h
theorem BlkD.frozen (h:BlkD w g cs) (i:Nat):w.frozen? ⟨g,i,none⟩=false:=by
 unfold BlkD at h
 simp [World.frozen?,h]
theorem BlkD.new (w:World) (cs:Array Value):BlkD (w.alloc (.cells cs 129)) w.heap.size cs:=heap_alloc_new w _
theorem BlkD.keep (h:BlkD w g cs) (hb:Below w.heap.size w w'):BlkD w' g cs:=(hb.block g h.lt).trans h
theorem BlkD.alloc (h:BlkD w g cs) (o:Obj):BlkD (w.alloc o) g cs:=(Below.heap_alloc w o g h.lt).trans h
theorem BlkD.set_ (h:BlkD w g cs) (i:Nat) (u:Value):BlkD (w.setCell ⟨g,i,none⟩ u) g (cs.setIfInBounds i u):=by
 unfold BlkD at h⊢
 simp [World.setCell,Array.getElem?_modify,h]
theorem BlkD.grown {row:Option Nat} (h:BlkD w g cs) (hb:w.grownBy w' row) (hg:some g≠row):BlkD w' g cs:=(hb.block g h.lt hg).trans h
end
inductive TrD (w:World) (S:Nat→Prop):List Nat→Nat→List It→Nat→Prop
 |nil (f d:Nat):TrD w S [] f [] d
 |leaf {N f d:Nat} {ps:List Nat} {i:It} {seg:List It}:i.1≠4→i.1≠5→S N→BlkD w N #[.int .i64 (f:Int), .int .i64 ((f+1:Nat):Int), .slice none 0 0]→TrD w S ps (f+1) seg d→TrD w S (N::ps) f (i::seg) d
 |blk {N f g d:Nat} {ps qs:List Nat} {v:Value} {o c:It} {inn seg:List It}:o.1=4→c.1=5→d<4→S N→g=f+inn.length+2→BlkD w N #[.int .i64 (f:Int), .int .i64 (g:Int),v]→w.ownsRow 0 86 1 v qs.length (ptrs qs)→
   (∀r,v.ownBlock=some r→S r)→TrD w S qs (f+1) inn (d+1)→TrD w S ps g seg d→TrD w S (N::ps) f (o::(inn++c::seg)) d
theorem TrD.pt {w:World} {S:Nat→Prop} {ps:List Nat} {f d:Nat} {seg:List It} (h:TrD w S ps f seg d):PtD d seg:=by
 induction h with
 |nil f d=>exact .nil d
 |leaf h4 h5 _ _ _ ih=>exact .leaf h4 h5 ih
 |blk h4 h5 hd _ _ _ _ _ _ _ i1 i2=>exact .blk h4 h5 hd i1 i2
theorem TrD.keep {w w':World} {S S':Nat→Prop} {ps:List Nat} {f d:Nat} {seg:List It} (h:TrD w S ps f seg d) (hw: ∀b,S b→b<w.heap.size→w'.heap[b]? =w.heap[b]?) (hS: ∀b,S b→b<w.heap.size→S' b):TrD w' S' ps f seg d:=by
 induction h with
 |nil f d=>exact .nil f d
 |leaf h4 h5 hN hb _ ih=>exact .leaf h4 h5 (hS _ hN hb.lt) ((hw _ hN hb.lt).trans hb) ih
 | @blk N f g d ps qs v o c inn seg h4 h5 hd hN hg hb ho hr h1 h2 i1 i2=>
  refine .blk h4 h5 hd (hS _ hN hb.lt) hg ((hw _ hN hb.lt).trans hb) ?_ (fun r h=>hS r (hr r h) (ho.lt r h).2) i1 i2
  refine ⟨ho.1, ?_⟩
  rcases ho.2 with hn|⟨g',cap,cur,rfl,hb',hgg,rest⟩
  ·exact .inl hn
  ·refine .inr ⟨g',cap,cur,rfl,hb', ?_,rest⟩
   rw [hw g' (hr g' rfl) (ho.lt g' rfl).2]
   exact hgg
theorem TrD.app {w:World} {S:Nat→Prop} {ps:List Nat} {f d:Nat} {a:List It} (h:TrD w S ps f a d): ∀{qs:List Nat} {b:List It},TrD w S qs (f+a.length) b d→TrD w S (ps++qs) f (a++b) d:=by
 induction h with
 |nil f d=>intro qs b k;simpa using k
 | @leaf N f d ps i seg h4 h5 hN hb _ ih=>
  intro qs b k
  refine .leaf h4 h5 hN hb (ih ?_)
  rwa [List.length_cons,show f+(seg.length+1)=f+1+seg.length by omega] at k
 | @blk N f g d ps qs' v o c inn seg h4 h5 hd hN hg hb ho hr h1 h2 i1 i2=>
  intro qs b k
  have:=TrD.blk (c:=c) (ps:=ps++qs) (seg:=seg++b) h4 h5 hd hN hg hb ho hr h1 (i2 (by
   rw [List.length_cons,List.length_append,List.length_cons] at k
   rwa [hg,show f+inn.length+2+seg.length=f+(inn.length+(seg.length+1)+1) by omega]))
  simpa using this
theorem TrD.inv {w:World} {S:Nat→Prop} {N f d:Nat} {seg:List It} (h:TrD w S [N] f seg d):
  (∃i,seg=[i]∧i.1≠4∧i.1≠5∧S N∧BlkD w N #[.int .i64 (f:Int), .int .i64 ((f+1:Nat):Int), .slice none 0 0])∨
  (∃o c inn v qs,seg=o::(inn++[c])∧o.1=4∧c.1=5∧d<4∧S N∧BlkD w N #[.int .i64 (f:Int), .int .i64 ((f+inn.length+2:Nat):Int),v]∧w.ownsRow 0 86 1 v qs.length (ptrs qs)∧(∀r,v.ownBlock=some r→S r)∧TrD w S qs (f+1) inn (d+1)):=by
 cases h with
 | @leaf _ _ _ _ i seg h4 h5 hN hb h=>
  cases h
  exact .inl ⟨i,rfl,h4,h5,hN,hb⟩
 | @blk _ _ g _ _ qs v o c inn seg h4 h5 hd hN hg hb ho hr h1 h2=>
  cases h2
  subst hg
  exact .inr ⟨o,c,inn,v,qs,rfl,h4,h5,hd,hN,hb,ho,hr,h1⟩
theorem TrD.root {w:World} {S:Nat→Prop} {N f d:Nat} {seg:List It} (h:TrD w S [N] f seg d):S N∧0<seg.length∧ ∃v qs inn,BlkD w N #[.int .i64 (f:Int), .int .i64 ((f+seg.length:Nat):Int),v]∧w.ownsRow 0 86 1 v qs.length (ptrs qs)∧(∀r,v.ownBlock=some r→S r)∧TrD w S qs (f+1) inn (d+1)∧inn.length<seg.length:=by
 rcases h.inv with ⟨i,rfl,h4,h5,hN,hb⟩|⟨o,c,inn,v,qs,rfl,h4,h5,hd,hN,hb,ho,hr,h1⟩
 ·exact ⟨hN,by simp,_,[],[],hb,World.ownsRow_nil _ _ _ _,fun r h=>by simp [Value.ownBlock] at h, .nil _ _,by simp⟩
 ·refine ⟨hN,by simp,v,qs,inn, ?_,ho,hr,h1,by simp;omega⟩
  rw [show f+(o::(inn++[c])).length=f+inn.length+2 by simp;omega]
  exact hb
theorem TrD.at {w:World} {S:Nat→Prop} {ps:List Nat} {f d:Nat} {seg:List It} (h:TrD w S ps f seg d): ∀k,(hk:k<ps.length)→ ∃a m b,seg=a++(m++b)∧TrD w S (ps.take k) f a d∧TrD w S [ps[k]] (f+a.length) m d∧TrD w S (ps.drop (k+1)) (f+a.length+m.length) b d:=by
 induction h with
 |nil f d=>intro k hk;simp at hk
 | @leaf N f d ps i seg h4 h5 hN hb h ih=>
  intro k hk
  cases k with
  |zero=>exact ⟨[],[i],seg,rfl, .nil _ _, .leaf h4 h5 hN hb (.nil _ _),h⟩
  |succ k=>
   obtain ⟨a,m,b,e,t1,t2,t3⟩:=ih k (by simpa using hk)
   refine ⟨i::a,m,b,by rw [e];rfl, .leaf h4 h5 hN hb t1, ?_, ?_⟩
   ·rw [List.length_cons,show f+(a.length+1)=f+1+a.length by omega];exact t2
   ·rw [List.length_cons,show f+(a.length+1)=f+1+a.length by omega];exact t3
 | @blk N f g d ps qs v o c inn seg h4 h5 hd hN hg hb ho hr h1 h2 i1 i2=>
  intro k hk
  cases k with
  |zero=>
   refine ⟨[],o::(inn++[c]),seg,by simp, .nil _ _, .blk h4 h5 hd hN hg hb ho hr h1 (.nil _ _), ?_⟩
   rw [show f+([]:List It).length+(o::(inn++[c])).length=g by simp;omega]
   exact h2
  |succ k=>
   obtain ⟨a,m,b,e,t1,t2,t3⟩:=i2 k (by simpa using hk)
   have hl:f+(o::(inn++c::a)).length=g+a.length:=by simp;omega
   refine ⟨o::(inn++c::a),m,b,by rw [e];simp, .blk h4 h5 hd hN hg hb ho hr h1 t1, ?_, ?_⟩
   ·rw [hl];exact t2
   ·rw [hl];exact t3
theorem own_ptrD {w:World} {v:Value} {qs:List Nat} {base:Nat} (ho:w.ownsRow base 86 1 v qs.length (ptrs qs)):
  ∃ao cap,v= .slice ao qs.length cap∧qs.length≤cap∧cap≤maxLen∧(qs=[]∨ ∃b,ao=some ⟨b,0,none⟩∧b<w.heap.size∧ ∀k (h:k<qs.length),w.cell? ⟨b,k,none⟩=some (.pointer (some ⟨qs[k],0,none⟩))):=by
 rcases ho.2 with ⟨rfl,h0⟩|⟨g,cap,cur,rfl,hg,hh,h1,h2,_⟩
 ·exact ⟨none,0,by rw [h0],by omega,by unfold maxLen;omega, .inl (List.length_eq_zero_iff.mp h0)⟩
 ·refine ⟨_,cap,rfl,h1,h2, .inr ⟨g,rfl,(ho.lt g rfl).2,fun k hk=> ?_⟩⟩
  rw [ho.cellAt k (by omega)]
  exact ptrs_at qs k hk
end Go.Proofs.YtegdjjjpoahamaaGreatDoor
