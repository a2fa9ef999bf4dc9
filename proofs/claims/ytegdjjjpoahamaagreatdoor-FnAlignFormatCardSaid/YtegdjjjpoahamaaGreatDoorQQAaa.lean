/-
  Part of the proof of FnAlignDocument.
-/
import Derived.Test.YtegdjjjpoahamaaGreatDoorAnyDef
import Derived.Test.YtegdjjjpoahamaaGreatDoorBaseT
import Derived.Deep.Draws
import Derived.Deep.AppendLies
import Derived.Deep.RegionHeld3
import Derived.RegionTactic
import Derived.Deep.RegionLaw
import Derived.Deep.DrawnRows
import Derived.Below
import Derived.Lib.SmallJoins
set_option linter.unusedVariables false
set_option maxHeartbeats 4000000
set_option maxRecDepth 100000
namespace Go.Proofs.YtegdjjjpoahamaaGreatDoor
open Go.RowKit
theorem drawAlignDocument_any (hany:AnyOK) (a:Option Addr) (len cap:Nat) (w:World) (h:CodeRow w a len cap):
  Calls Tryz.prog 20 #[.slice a len cap] w fun e w'=> ∃(v:Value) (l:List It),e= .returned v∧RowIt w' v l∧(∀i∈l,FewI i)∧l.length≤100∧Below w.heap.size w w':=by
 go_enter Tryz.func20,Tryz.ntmps20
 go_wp2_with fail
 refine (open_codes a len cap _ h).mono ?_
 rintro e w1 ⟨rfl,hr1,hb1,hs1⟩
 have HB:=Lib.hid hb1;have HS:=Lib.hid hs1
 clear hb1 hs1
 go_wp2_with fail
 refine (hany w.heap.size 0 9 _ (by omega) (by omega) (by omega) hr1).mono ?_
 rintro e w2 ⟨v,l,rfl,hrow,hf,hl,hr2,hg2⟩
 have HB2:=Lib.hid (HB.out.trans (grown_below hg2 (by have:=HS.out;omega) (Nat.le_refl _)))
 clear hg2 hr2 HB HS hr1
 have HRW:=Lib.hid hrow
 obtain ⟨va,vc,rfl,-⟩:=hrow
 go_wp2
 go_ret
 exact ⟨_,l,rfl,HRW.out,hf,hl,HB2.out⟩
def fwL:List It→Nat
 |[]=>0
 |i::r=>if i.1=3 then max i.2.1.size (fwL r) else 0
def caW (p:Nat) (i:It):Nat:=if i.1=3 then max p i.2.1.size else 0
def caL (p:Nat):List It→Nat
 |[]=>p
 |i::r=>caL (caW p i) r
def wdL (p:Nat):List It→List Nat
 |[]=>[]
 |i::r=>(if i.1=3 then max p (fwL (i::r)) else 0)::wdL (caW p i) r
theorem wdL_length: ∀(l:List It) (p:Nat),(wdL p l).length=l.length:=by
 intro l
 induction l with
 |nil=>intro p;rfl
 |cons i l ih=>intro p;rw [wdL,List.length_cons,List.length_cons,ih]
theorem fw_e {l:List It} {k:Nat} (hk:k<l.length) (h:l[k].1=3):fwL (l.drop k)=max l[k].2.1.size (fwL (l.drop (k+1))):=by
 rw [List.drop_eq_getElem_cons hk,fwL,if_pos h]
theorem fw_n {l:List It} {k:Nat} (hk:k<l.length) (h: ¬l[k].1=3):fwL (l.drop k)=0:=by
 rw [List.drop_eq_getElem_cons hk,fwL,if_neg h]
theorem caL_app: ∀(a b:List It) (p:Nat),caL p (a++b)=caL (caL p a) b:=by
 intro a
 induction a with
 |nil=>intro b p;rfl
 |cons i a ih=>intro b p;exact ih b _
theorem ca_e {l:List It} {k:Nat} (hk:k<l.length) (p:Nat):caL p (l.take (k+1))=caW (caL p (l.take k)) l[k]:=by
 rw [List.take_succ_eq_append_getElem hk,caL_app];rfl
theorem wdL_at: ∀(l:List It) (p k:Nat) (hk:k<l.length),(wdL p l)[k]? =some (if l[k].1=3 then max (caL p (l.take k)) (fwL (l.drop k)) else 0):=by
 intro l
 induction l with
 |nil=>intro p k hk;simp at hk
 |cons i l ih=>
  intro p k hk
  cases k with
  |zero=>rfl
  |succ k=>exact ih (caW p i) k (by simpa using hk)
theorem wd_big {l:List It} {k:Nat} (hk:k<l.length) (h1:l[k].1=3): ∃n,(wdL 0 l)[k]? =some n∧l[k].2.1.size≤n:=by
 refine ⟨_,wdL_at l 0 k hk, ?_⟩
 rw [if_pos h1,fw_e hk h1];omega
theorem fwL_le {B:Nat}: ∀(l:List It),(∀i∈l,i.2.1.size≤B)→fwL l≤B:=by
 intro l
 induction l with
 |nil=>intro _;exact Nat.zero_le _
 |cons i l ih=>
  intro h
  have h1:=h i (by simp);have h2:=ih fun j hj=>h j (by simp [hj])
  rw [fwL];split<;>omega
theorem caL_le {B:Nat}: ∀(l:List It) (p:Nat),p≤B→(∀i∈l,i.2.1.size≤B)→caL p l≤B:=by
 intro l
 induction l with
 |nil=>intro p hp _;exact hp
 |cons i l ih=>
  intro p hp h
  have h1:=h i (by simp)
  refine ih _ ?_ fun j hj=>h j (by simp [hj])
  unfold caW;split<;>omega
theorem wdL_le {B:Nat} {l:List It} (h: ∀i∈l,i.2.1.size≤B) {k n:Nat} (hn:(wdL 0 l)[k]? =some n):n≤B:=by
 have hk:k<l.length:=by
  have:=(List.getElem?_eq_some_iff.mp hn).1
  rwa [wdL_length] at this
 rw [wdL_at l 0 k hk] at hn
 injection hn with hn
 have h1:=caL_le (l.take k) 0 (Nat.zero_le B) fun i hi=>h i (List.mem_of_mem_take hi)
 have h2:=fwL_le (l.drop k) fun i hi=>h i (List.mem_of_mem_drop hi)
 split at hn<;>omega
def runN:List It→Nat
 |[]=>0
 |i::r=>if i.1=3 then runN r+1 else 0
theorem runN_le: ∀(l:List It),runN l≤l.length:=by
 intro l
 induction l with
 |nil=>exact Nat.le_refl _
 |cons i l ih=>rw [runN];split<;>simp<;>omega
theorem run_e: ∀(l:List It) (k:Nat) (hk:k<runN l),(l[k]'(Nat.lt_of_lt_of_le hk (runN_le l))).1=3:=by
 intro l
 induction l with
 |nil=>intro k hk;simp [runN] at hk
 |cons i l ih=>
  intro k hk
  rw [runN] at hk
  split at hk
  ·rename_i h
   cases k with
   |zero=>exact h
   |succ k=>exact ih k (by omega)
  ·omega
theorem run_n: ∀(l:List It) (hk:runN l<l.length),¬l[runN l].1=3:=by
 intro l
 induction l with
 |nil=>intro hk;simp at hk
 |cons i l ih=>
  intro hk
  by_cases h:i.1=3
  ·have e:runN (i::l)=runN l+1:=by rw [runN,if_pos h]
   simp only [e]
   rw [e] at hk
   exact ih (by simpa using hk)
  ·have e:runN (i::l)=0:=by rw [runN,if_neg h]
   simp only [e]
   exact h
theorem run_all (l:List It) (k:Nat) (h:k≤l.length) (h1: ∀j,(hj:j<k)→(l[j]'(by omega)).1=3) (h2:(hk:k<l.length)→ ¬l[k].1=3):runN l=k:=by
 have a:=run_e l;have b:=run_n l;have c:=runN_le l
 rcases Nat.lt_trichotomy (runN l) k with hlt|he|hgt
 ·exact absurd (h1 _ hlt) (b (by omega))
 ·exact he
 ·exact absurd (a k hgt) (h2 (by omega))
theorem fwL_take: ∀(l:List It),fwL (l.take (runN l))=fwL l:=by
 intro l
 induction l with
 |nil=>rfl
 |cons i l ih=>
  by_cases h:i.1=3
  ·rw [runN,if_pos h,List.take_succ_cons,fwL,fwL,if_pos h,if_pos h,ih]
  ·rw [runN,if_neg h,fwL,if_neg h];rfl
theorem wd_run: ∀(l:List It) (p:Nat),(∀j,j<runN l→(wdL p l)[j]? =some (max p (fwL l)))∧(runN l<l.length→(wdL p l)[runN l]? =some 0)∧(wdL p l).drop (runN l+1)=wdL 0 (l.drop (runN l+1)):=by
 intro l
 induction l with
 |nil=>intro p;refine ⟨fun j hj=>by simp [runN] at hj,fun h=>by simp at h,rfl⟩
 |cons i l ih=>
  intro p
  by_cases h:i.1=3
  ·obtain ⟨i1,i2,i3⟩:=ih (max p i.2.1.size)
   rw [runN,if_pos h,wdL,if_pos h,caW,if_pos h]
   refine ⟨fun j hj=> ?_,fun hl=> ?_, ?_⟩
   ·cases j with
    |zero=>rfl
    |succ j=>
     rw [List.getElem?_cons_succ,i1 j (by omega),fwL,if_pos h]
     congr 1;omega
   ·rw [List.getElem?_cons_succ];exact i2 (by simpa using hl)
   ·rw [List.drop_succ_cons,List.drop_succ_cons];exact i3
  ·rw [runN,if_neg h,wdL,if_neg h,caW,if_neg h]
   exact ⟨fun j hj=>by omega,fun _=>rfl,rfl⟩
def FrW (l:List It) (k:Nat):Prop:=(wdL 0 l).drop k=wdL 0 (l.drop k)
theorem FrW.run {l:List It} {k:Nat} (h:FrW l k):(∀j,j<runN (l.drop k)→(wdL 0 l)[k+j]? =some (fwL (l.drop k)))∧(k+runN (l.drop k)<l.length→(wdL 0 l)[k+runN (l.drop k)]? =some 0)∧FrW l (k+runN (l.drop k)+1):=by
 obtain ⟨h1,h2,h3⟩:=wd_run (l.drop k) 0
 rw [Nat.zero_max] at h1
 unfold FrW at h
 rw [←h] at h1 h2 h3
 simp only [List.getElem?_drop,List.drop_drop] at h1 h2 h3
 exact ⟨h1,fun hl=>h2 (by rw [List.length_drop];omega),h3⟩
def SoW (l:List It) (m:Nat) (L:List Nat):Prop:=L.length=l.length∧ ∀i,i<l.length→L[i]? =if i<m then (wdL 0 l)[i]? else some 0
theorem SoW.set {l:List It} {m x:Nat} {L:List Nat} (h:SoW l m L) (hm:m<l.length) (hx:(wdL 0 l)[m]? =some x):SoW l (m+1) (L.set m x):=by
 obtain ⟨h1,h2⟩:=h
 refine ⟨by rw [List.length_set];exact h1,fun i hi=> ?_⟩
 by_cases e:m=i
 ·subst e
  rw [List.getElem?_set_self (by omega),if_pos (by omega),hx]
 ·rw [List.getElem?_set_ne e,h2 i hi]
  by_cases hlt:i<m
  ·rw [if_pos hlt,if_pos (by omega)]
  ·rw [if_neg hlt,if_neg (by omega)]
theorem SoW.more {l:List It} {m:Nat} {L:List Nat} (h:SoW l m L) (h0:m<l.length→(wdL 0 l)[m]? =some 0):SoW l (m+1) L:=by
 refine ⟨h.1,fun i hi=> ?_⟩
 rw [h.2 i hi]
 by_cases e:m=i
 ·subst e;rw [if_neg (by omega),if_pos (by omega),h0 hi]
 ·by_cases hlt:i<m
  ·rw [if_pos hlt,if_pos (by omega)]
  ·rw [if_neg hlt,if_neg (by omega)]
theorem SoW.start (l:List It):SoW l 0 (List.replicate l.length 0):=
 ⟨by simp,fun i hi=>by simp [hi]⟩
theorem SoW.done {l:List It} {m:Nat} {L:List Nat} (h:SoW l m L) (hm:l.length≤m):L=wdL 0 l:=by
 apply List.ext_getElem?
 intro i
 by_cases hi:i<l.length
 ·rw [h.2 i hi,if_pos (by omega)]
 ·rw [List.getElem?_eq_none (by rw [h.1];omega),List.getElem?_eq_none (by rw [wdL_length];omega)]
noncomputable def wdD (l:List It):List Nat:=if docB l=true then wdL 0 l else []
inductive PtD:Nat→List It→Prop
 |nil (d:Nat):PtD d []
 |leaf {d:Nat} {i:It} {l:List It}:i.1≠4→i.1≠5→PtD d l→PtD d (i::l)
 |blk {d:Nat} {o c:It} {inn l:List It}:o.1=4→c.1=5→d<4→PtD (d+1) inn→PtD d l→PtD d (o::(inn++c::l))
theorem nestO_cons (d:Int) (i:It) (l:List It):nestO d (i::l)=if 0≤depN d i∧depN d i≤4 then nestO (depN d i) l else none:=rfl
theorem depN_leaf {d:Int} {i:It} (h4:i.1≠4) (h5:i.1≠5):depN d i=d:=by unfold depN depS;rw [if_neg h4,if_neg h5]
theorem depN_open {d:Int} {i:It} (h:i.1=4):depN d i=d+1:=by unfold depN depS;rw [if_pos h,if_neg (by omega)]
theorem depN_close {d:Int} {i:It} (h:i.1=5):depN d i=d-1:=by unfold depN depS;rw [if_neg (by omega),if_pos h]
theorem depS_leaf {d:Int} {i:It} (h5:i.1≠5):depS d i=d:=by unfold depS;rw [if_neg h5]
theorem depS_close {d:Int} {i:It} (h:i.1=5):depS d i=d-1:=by unfold depS;rw [if_pos h]
theorem PtD.nest {d:Nat} {l:List It} (h:PtD d l):d≤4→ ∀rest,nestO (d:Int) (l++rest)=nestO (d:Int) rest:=by
 induction h with
 |nil d=>intro _ rest;rfl
 | @leaf d i l h4 h5 _ ih=>
  intro hd rest
  rw [List.cons_append,nestO_cons,depN_leaf h4 h5,if_pos (by omega)]
  exact ih hd rest
 | @blk d o c inn l h4 h5 hd4 _ _ ih1 ih2=>
  intro hd rest
  rw [List.cons_append,nestO_cons,depN_open h4,if_pos (by omega),List.append_assoc,show (d:Int)+1=((d+1:Nat):Int) by omega,ih1 (by omega),List.cons_append,nestO_cons,depN_close h5,if_pos (by omega),show ((d+1:Nat):Int)-1=(d:Int) by omega]
  exact ih2 hd rest
theorem PtD.self {d:Nat} {l:List It} (h:PtD d l) (hd:d≤4):nestO (d:Int) l=some (d:Int):=by
 have:=h.nest hd []
 rwa [List.append_nil] at this
theorem depL_leaf {d:Int} {i:It} {l:List It} (h4:i.1≠4) (h5:i.1≠5):depL d (i::l)=d::depL d l:=by
 show depS d i::depL (depN d i) l=_
 rw [depN_leaf h4 h5,depS_leaf h5]
theorem depL_blk {d:Nat} {o c:It} {inn l:List It} (h4:o.1=4) (h5:c.1=5) (hd:d<4) (h:PtD (d+1) inn):
  depL (d:Int) (o::(inn++c::l))=(d:Int)::(depL ((d+1:Nat):Int) inn++(d:Int)::depL (d:Int) l):=by
 show depS _ o::depL (depN _ o) _=_
 rw [depN_open h4,depS_leaf (by omega),show (d:Int)+1=((d+1:Nat):Int) by omega,depL_app,nestO_end _ _ _ (h.self (by omega))]
 show _::(_++depS _ c::depL (depN _ c) l)=_
 rw [depN_close h5,depS_close h5,show ((d+1:Nat):Int)-1=(d:Int) by omega]
def BadN (d:Nat) (l:List It):Prop:= ∀e,nestO (d:Int) l=some e→(d:Int)<e
theorem BadN.pre {d:Nat} {a l:List It} (h:PtD d a) (hd:d≤4) (hb:BadN d l):BadN d (a++l):=by
 intro e he
 rw [h.nest hd] at he
 exact hb e he
theorem BadN.deep {o:It} {l:List It} (h:o.1=4):BadN 4 (o::l):=by
 intro e he
 rw [nestO_cons,depN_open h,if_neg (by omega)] at he
 cases he
theorem BadN.inn {d:Nat} {o:It} {l:List It} (h:o.1=4) (hd:d<4) (hb:BadN (d+1) l):BadN d (o::l):=by
 intro e he
 rw [nestO_cons,depN_open h,if_pos (by omega),show (d:Int)+1=((d+1:Nat):Int) by omega] at he
 have:=hb e he
 omega
theorem BadN.left {d:Nat} {o:It} {l:List It} (h:o.1=4) (hd:d<4) (hp:PtD (d+1) l):BadN d (o::l):=by
 intro e he
 rw [nestO_cons,depN_open h,if_pos (by omega),show (d:Int)+1=((d+1:Nat):Int) by omega,hp.self (by omega)] at he
 injection he with he
 omega
def BlkD (w:World) (g:Nat) (cs:Array Value):Prop:=w.heap[g]? =some (.cells cs 129 (0,0))
section
variable {w w':World} {g:Nat} {cs:Array Value}
theorem BlkD.lt (h:BlkD w g cs):g<w.heap.size:=by
 rcases Nat.lt_or_ge g w.heap.size with hlt|hge
 ·exact hlt
 ·unfold BlkD at h;rw [Array.getElem?_eq_none hge] at h;cases h
theorem BlkD.cell (h:BlkD w g cs) (i:Nat):w.cell? ⟨g,i,none⟩=cs[i]? :=cell_of_row w g i cs _ (0,0) h
theorem BlkD.frozen (h:BlkD w g cs) (i:Nat):w.frozen? ⟨g,i,none⟩=false:=by
 unfold BlkD at h
 simp [World.frozen?,h]
theorem BlkD.new (w:World) (cs:Array Value):BlkD (w.alloc (.cells cs 129)) w.heap.size cs:=heap_alloc_new w _
theorem BlkD.keep (h:BlkD w g cs) (hb:Below w.heap.size w w'):BlkD w' g cs:=(hb.block g h.lt).trans h
theorem BlkD.alloc (h:BlkD w g cs) (o:Obj):BlkD (w.alloc o) g cs:=(Below.heap_alloc w o g h.lt).trans h
theorem BlkD.set_ (h:BlkD w g cs) (i:Nat) (u:Value):BlkD (w.setCell ⟨g,i,none⟩ u) g (cs.setIfInBounds i u):=by
 unfold BlkD at h⊢
 simp [World.setCell,Array.getElem?_modify,h]
theorem BlkD.grown {row:Option Nat} (h:BlkD w g cs) (hb:w.grownBy w' row) (hg:some g≠row):BlkD w' g cs:=(hb.block g h.lt hg).trans h
end
inductive TrD (w:World) (S:Nat→Prop):List Nat→Nat→List It→Nat→Prop
 |nil (f d:Nat):TrD w S [] f [] d
 |leaf {N f d:Nat} {ps:List Nat} {i:It} {seg:List It}:i.1≠4→i.1≠5→S N→BlkD w N #[.int .i64 (f:Int), .int .i64 ((f+1:Nat):Int), .slice none 0 0]→TrD w S ps (f+1) seg d→TrD w S (N::ps) f (i::seg) d
 |blk {N f g d:Nat} {ps qs:List Nat} {v:Value} {o c:It} {inn seg:List It}:o.1=4→c.1=5→d<4→S N→g=f+inn.length+2→BlkD w N #[.int .i64 (f:Int), .int .i64 (g:Int),v]→w.ownsRow 0 86 1 v qs.length (ptrs qs)→
   (∀r,v.ownBlock=some r→S r)→TrD w S qs (f+1) inn (d+1)→TrD w S ps g seg d→TrD w S (N::ps) f (o::(inn++c::seg)) d
theorem TrD.pt {w:World} {S:Nat→Prop} {ps:List Nat} {f d:Nat} {seg:List It} (h:TrD w S ps f seg d):PtD d seg:=by
 induction h with
 |nil f d=>exact .nil d
 |leaf h4 h5 _ _ _ ih=>exact .leaf h4 h5 ih
 |blk h4 h5 hd _ _ _ _ _ _ _ i1 i2=>exact .blk h4 h5 hd i1 i2
theorem TrD.keep {w w':World} {S S':Nat→Prop} {ps:List Nat} {f d:Nat} {seg:List It} (h:TrD w S ps f seg d) (hw: ∀b,S b→b<w.heap.size→w'.heap[b]? =w.heap[b]?) (hS: ∀b,S b→b<w.heap.size→S' b):TrD w' S' ps f seg d:=by
 induction h with
 |nil f d=>exact .nil f d
 |leaf h4 h5 hN hb _ ih=>exact .leaf h4 h5 (hS _ hN hb.lt) ((hw _ hN hb.lt).trans hb) ih
 | @blk N f g d ps qs v o c inn seg h4 h5 hd hN hg hb ho hr h1 h2 i1 i2=>
  refine .blk h4 h5 hd (hS _ hN hb.lt) hg ((hw _ hN hb.lt).trans hb) ?_ (fun r h=>hS r (hr r h) (ho.lt r h).2) i1 i2
  refine ⟨ho.1, ?_⟩
  rcases ho.2 with hn|⟨g',cap,cur,rfl,hb',hgg,rest⟩
  ·exact .inl hn
  ·refine .inr ⟨g',cap,cur,rfl,hb', ?_,rest⟩
   rw [hw g' (hr g' rfl) (ho.lt g' rfl).2]
   exact hgg
theorem TrD.app {w:World} {S:Nat→Prop} {ps:List Nat} {f d:Nat} {a:List It} (h:TrD w S ps f a d): ∀{qs:List Nat} {b:List It},TrD w S qs (f+a.length) b d→TrD w S (ps++qs) f (a++b) d:=by
 induction h with
 |nil f d=>intro qs b k;simpa using k
 | @leaf N f d ps i seg h4 h5 hN hb _ ih=>
  intro qs b k
  refine .leaf h4 h5 hN hb (ih ?_)
  rwa [List.length_cons,show f+(seg.length+1)=f+1+seg.length by omega] at k
 | @blk N f g d ps qs' v o c inn seg h4 h5 hd hN hg hb ho hr h1 h2 i1 i2=>
  intro qs b k
  have:=TrD.blk (c:=c) (ps:=ps++qs) (seg:=seg++b) h4 h5 hd hN hg hb ho hr h1 (i2 (by
   rw [List.length_cons,List.length_append,List.length_cons] at k
   rwa [hg,show f+inn.length+2+seg.length=f+(inn.length+(seg.length+1)+1) by omega]))
  simpa using this
theorem TrD.inv {w:World} {S:Nat→Prop} {N f d:Nat} {seg:List It} (h:TrD w S [N] f seg d):
  (∃i,seg=[i]∧i.1≠4∧i.1≠5∧S N∧BlkD w N #[.int .i64 (f:Int), .int .i64 ((f+1:Nat):Int), .slice none 0 0])∨
  (∃o c inn v qs,seg=o::(inn++[c])∧o.1=4∧c.1=5∧d<4∧S N∧BlkD w N #[.int .i64 (f:Int), .int .i64 ((f+inn.length+2:Nat):Int),v]∧w.ownsRow 0 86 1 v qs.length (ptrs qs)∧(∀r,v.ownBlock=some r→S r)∧TrD w S qs (f+1) inn (d+1)):=by
 cases h with
 | @leaf _ _ _ _ i seg h4 h5 hN hb h=>
  cases h
  exact .inl ⟨i,rfl,h4,h5,hN,hb⟩
 | @blk _ _ g _ _ qs v o c inn seg h4 h5 hd hN hg hb ho hr h1 h2=>
  cases h2
  subst hg
  exact .inr ⟨o,c,inn,v,qs,rfl,h4,h5,hd,hN,hb,ho,hr,h1⟩
theorem TrD.root {w:World} {S:Nat→Prop} {N f d:Nat} {seg:List It} (h:TrD w S [N] f seg d):S N∧0<seg.length∧ ∃v qs inn,BlkD w N #[.int .i64 (f:Int), .int .i64 ((f+seg.length:Nat):Int),v]∧w.ownsRow 0 86 1 v qs.length (ptrs qs)∧(∀r,v.ownBlock=some r→S r)∧TrD w S qs (f+1) inn (d+1)∧inn.length<seg.length:=by
 rcases h.inv with ⟨i,rfl,h4,h5,hN,hb⟩|⟨o,c,inn,v,qs,rfl,h4,h5,hd,hN,hb,ho,hr,h1⟩
 ·exact ⟨hN,by simp,_,[],[],hb,World.ownsRow_nil _ _ _ _,fun r h=>by simp [Value.ownBlock] at h, .nil _ _,by simp⟩
 ·refine ⟨hN,by simp,v,qs,inn, ?_,ho,hr,h1,by simp;omega⟩
  rw [show f+(o::(inn++[c])).length=f+inn.length+2 by simp;omega]
  exact hb
theorem TrD.at {w:World} {S:Nat→Prop} {ps:List Nat} {f d:Nat} {seg:List It} (h:TrD w S ps f seg d): ∀k,(hk:k<ps.length)→ ∃a m b,seg=a++(m++b)∧TrD w S (ps.take k) f a d∧TrD w S [ps[k]] (f+a.length) m d∧TrD w S (ps.drop (k+1)) (f+a.length+m.length) b d:=by
 induction h with
 |nil f d=>intro k hk;simp at hk
 | @leaf N f d ps i seg h4 h5 hN hb h ih=>
  intro k hk
  cases k with
  |zero=>exact ⟨[],[i],seg,rfl, .nil _ _, .leaf h4 h5 hN hb (.nil _ _),h⟩
  |succ k=>
   obtain ⟨a,m,b,e,t1,t2,t3⟩:=ih k (by simpa using hk)
   refine ⟨i::a,m,b,by rw [e];rfl, .leaf h4 h5 hN hb t1, ?_, ?_⟩
   ·rw [List.length_cons,show f+(a.length+1)=f+1+a.length by omega];exact t2
   ·rw [List.length_cons,show f+(a.length+1)=f+1+a.length by omega];exact t3
 | @blk N f g d ps qs v o c inn seg h4 h5 hd hN hg hb ho hr h1 h2 i1 i2=>
  intro k hk
  cases k with
  |zero=>
   refine ⟨[],o::(inn++[c]),seg,by simp, .nil _ _, .blk h4 h5 hd hN hg hb ho hr h1 (.nil _ _), ?_⟩
   rw [show f+([]:List It).length+(o::(inn++[c])).length=g by simp;omega]
   exact h2
  |succ k=>
   obtain ⟨a,m,b,e,t1,t2,t3⟩:=i2 k (by simpa using hk)
   have hl:f+(o::(inn++c::a)).length=g+a.length:=by simp;omega
   refine ⟨o::(inn++c::a),m,b,by rw [e];simp, .blk h4 h5 hd hN hg hb ho hr h1 t1, ?_, ?_⟩
   ·rw [hl];exact t2
   ·rw [hl];exact t3
theorem own_ptrD {w:World} {v:Value} {qs:List Nat} {base:Nat} (ho:w.ownsRow base 86 1 v qs.length (ptrs qs)):
  ∃ao cap,v= .slice ao qs.length cap∧qs.length≤cap∧cap≤maxLen∧(qs=[]∨ ∃b,ao=some ⟨b,0,none⟩∧b<w.heap.size∧ ∀k (h:k<qs.length),w.cell? ⟨b,k,none⟩=some (.pointer (some ⟨qs[k],0,none⟩))):=by
 rcases ho.2 with ⟨rfl,h0⟩|⟨g,cap,cur,rfl,hg,hh,h1,h2,_⟩
 ·exact ⟨none,0,by rw [h0],by omega,by unfold maxLen;omega, .inl (List.length_eq_zero_iff.mp h0)⟩
 ·refine ⟨_,cap,rfl,h1,h2, .inr ⟨g,rfl,(ho.lt g rfl).2,fun k hk=> ?_⟩⟩
  rw [ho.cellAt k (by omega)]
  exact ptrs_at qs k hk
theorem infoPtrD:(Tryz.prog.info? 86).map (fun i=>(i.zero,i.size,i.bytes))=some (some (.pointer none),1,8):=by kernel_rfl
def cellN (w:World) (a:Addr):Nat:=match w.cell? a with
 |some (.int _ n)=>n.toNat
 |_=>0
theorem cellN_of {w:World} {a:Addr} {n:Nat} (h:w.cell? a=some (.int .i64 (n:Int))):cellN w a=n:=by unfold cellN;rw [h];rfl
def GrownP (l:List It) (f d:Nat) (w:World) (e:Ending) (w':World):Prop:=
 Below w.heap.size w w'∧((∃(seg post:List It) (v:Value) (qs:List Nat),e= .returned (.pointer (some ⟨w.heap.size,0,none⟩))∧l.drop f=seg++post∧(∀i,post.head? =some i→i.1=5)∧BlkD w' w.heap.size #[.int .i64 (f:Int), .int .i64 ((f+seg.length:Nat):Int),v]∧w'.ownsRow (w.heap.size+1) 86 1 v qs.length (ptrs qs)∧
  TrD w' (fun b=>w.heap.size<b∧b<w'.heap.size∧v.ownBlock≠some b) qs f seg d)∨(e= .returned (.pointer none)∧BadN d (l.drop f)))
def GrownB (l:List It) (f d:Nat) (w:World) (e:Ending) (w':World):Prop:=
 Below w.heap.size w w'∧((∃(N:Nat) (seg post:List It),e= .returned (.pointer (some ⟨N,0,none⟩))∧l.drop f=seg++post∧TrD w' (fun b=>w.heap.size≤b∧b<w'.heap.size) [N] f seg d)∨(e= .returned (.pointer none)∧BadN d (l.drop f)))
def GInvD (l:List It) (w:World) (f d:Nat) (seg:List It) (wr:World):Prop:=
 ∃(v:Value) (ps:List Nat),BlkD wr w.heap.size #[.int .i64 (f:Int), .int .i64 ((f+seg.length:Nat):Int),v]∧wr.ownsRow (w.heap.size+1) 86 1 v ps.length (ptrs ps)∧TrD wr (fun b=>w.heap.size<b∧b<wr.heap.size∧v.ownBlock≠some b) ps f seg d∧Below w.heap.size w wr∧l.drop f=seg++l.drop (f+seg.length)∧f+seg.length≤l.length
theorem GInvD.start (l:List It) (w:World) (f d:Nat) (hf:f≤l.length):GInvD l w f d [] (w.alloc (.cells #[.int .i64 (f:Int), .int .i64 (f:Int), .slice none 0 0] 129)):=
 ⟨_,[],BlkD.new _ _,World.ownsRow_nil _ _ _ _, .nil _ _,(Below.refl _ _).alloc (Nat.le_refl _) _,by simp,hf⟩
theorem GInvD.done {l:List It} {w wr:World} {f d:Nat} {seg:List It} (h:GInvD l w f d seg wr) (hp: ∀i,(l.drop (f+seg.length)).head? =some i→i.1=5):GrownP l f d w (.returned (.pointer (some ⟨w.heap.size,0,none⟩))) wr:=by
 obtain ⟨v,ps,hb,ho,ht,hB,he,hl⟩:=h
 exact ⟨hB, .inl ⟨seg,_,v,ps,rfl,he,hp,hb,ho,ht⟩⟩
theorem GInvD.fail {l:List It} {w wr w1:World} {f d:Nat} {seg:List It} (h:GInvD l w f d seg wr) (hd:d≤4) (hB:Below wr.heap.size wr w1) (hno:BadN d (l.drop (f+seg.length))):GrownP l f d w (.returned (.pointer none)) w1:=by
 obtain ⟨v,ps,hb,ho,ht,hBw,he,hl⟩:=h
 exact ⟨hBw.trans (hB.mono hBw.size), .inr ⟨rfl,by rw [he];exact hno.pre ht.pt hd⟩⟩
theorem drop_more {l a b p:List It} {f g:Nat} (h:l.drop f=a++l.drop g) (hg:g=f+a.length) (h2:l.drop g=b++p) (hle:g≤l.length):l.drop f=(a++b)++l.drop (f+(a++b).length)∧f+(a++b).length≤l.length:=by
 have hl:l.drop (g+b.length)=p:=by
  have:l.drop (g+b.length)=(l.drop g).drop b.length:=by rw [List.drop_drop]
  rw [this,h2,List.drop_left]
 have h3:=congrArg List.length h2
 rw [List.length_append,List.length_drop] at h3
 refine ⟨?_,by rw [List.length_append];omega⟩
 rw [List.length_append,show f+(a.length+b.length)=g+b.length by omega,hl,h,h2,List.append_assoc]
theorem GInvD.next {l:List It} {w wr w1 w2:World} {f g d N1 gg cap':Nat} {vv:Value} {ps:List Nat} {seg seg1 post1:List It} (hg:g=f+seg.length)
  (hbel:Below w.heap.size w wr) (hb:BlkD wr w.heap.size #[.int .i64 (f:Int), .int .i64 (g:Int),vv]) (ho:wr.ownsRow (w.heap.size+1) 86 1 vv ps.length (ptrs ps))
  (ht:TrD wr (fun b=>w.heap.size<b∧b<wr.heap.size∧vv.ownBlock≠some b) ps f seg d) (hb1:Below wr.heap.size wr w1) (ht1:TrD w1 (fun b=>wr.heap.size≤b∧b<w1.heap.size) [N1] g seg1 d)
  (o:Obj) (hgrow:(w1.alloc o).grownBy w2 vv.ownBlock) (hat:vv.ownBlock=some gg∨gg=w1.heap.size+1)
  (hown':w2.ownsRow (w.heap.size+1) 86 1 (.slice (some ⟨gg,0,none⟩) (ps.length+1) cap') (ps.length+1) (ptrs ps++[.pointer (some ⟨N1,0,none⟩)])) (hk2:BlkD w2 w.heap.size #[.int .i64 (f:Int), .int .i64 (g:Int),vv])
  (he:l.drop f=seg++l.drop g) (he1:l.drop g=seg1++post1) (hle:g≤l.length):
  GInvD l w f d (seg++seg1) ((w2.setCell ⟨w.heap.size,2,none⟩ (.slice (some ⟨gg,0,none⟩) (ps.length+1) cap')).setCell ⟨w.heap.size,1,none⟩ (.int .i64 ((g+seg1.length:Nat):Int))):=by
 have hs1:=hb1.size
 have hs2:w1.heap.size+1≤w2.heap.size:=by have:=hgrow.size;simpa using this
 have hNlt:=hb.lt
 have hgg:w.heap.size+1≤gg∧gg<w2.heap.size:=hown'.lt gg rfl
 have hol: ∀r,vv.ownBlock=some r→r<wr.heap.size:=fun r hr=>(ho.lt r hr).2
 have hsz:((w2.setCell ⟨w.heap.size,2,none⟩ (.slice (some ⟨gg,0,none⟩) (ps.length+1) cap')).setCell ⟨w.heap.size,1,none⟩ (.int .i64 ((g+seg1.length:Nat):Int))).heap.size=w2.heap.size:=by simp [World.setCell]
 have hset: ∀b,b≠w.heap.size→((w2.setCell ⟨w.heap.size,2,none⟩ (.slice (some ⟨gg,0,none⟩) (ps.length+1) cap')).setCell ⟨w.heap.size,1,none⟩ (.int .i64 ((g+seg1.length:Nat):Int))).heap[b]? =w2.heap[b]? :=fun b hbn=>by
  rw [Below.heap_setCell _ _ _ _ hbn,Below.heap_setCell _ _ _ _ hbn]
 have hlen:(ps++[N1]).length=ps.length+1:=by simp
 refine ⟨.slice (some ⟨gg,0,none⟩) (ps.length+1) cap',ps++[N1], ?_, ?_, ?_, ?_,drop_more he hg he1 hle⟩
 ·have:=(hk2.set_ 2 (.slice (some ⟨gg,0,none⟩) (ps.length+1) cap')).set_ 1 (.int .i64 ((g+seg1.length:Nat):Int))
  rw [List.length_append,show f+(seg.length+seg1.length)=g+seg1.length by omega]
  exact this
 ·rw [ptrs_snoc,hlen]
  refine hown'.kept (row:=some w.heap.size) ⟨rfl,rfl,rfl,by rw [hsz];exact Nat.le_refl _,fun b _ hn=>hset b (fun e=>hn (by rw [e]))⟩ (.inr ?_)
  intro he
  have he:gg=w.heap.size:=by simpa [Value.ownBlock] using he
  omega
 ·refine TrD.app (ht.keep ?_ ?_) (show TrD _ _ [N1] (f+seg.length) seg1 d from hg▸ht1.keep ?_ ?_)
  ·rintro b ⟨h1,h2,h3⟩-
   rw [hset b (by omega),hgrow.block b (by simp;omega) (fun e=>h3 e.symm),Below.heap_alloc _ _ _ (by omega),hb1.block b h2]
  ·rintro b ⟨h1,h2,h3⟩-
   refine ⟨h1,by rw [hsz];omega,fun he=> ?_⟩
   have he:gg=b:=by simpa [Value.ownBlock] using he
   subst he
   rcases hat with h|h
   ·exact h3 h
   ·omega
  ·rintro b ⟨h1,h2⟩-
   rw [hset b (by omega),hgrow.block b (by simp;omega) (fun e=>by have:=hol b e.symm;omega),Below.heap_alloc _ _ _ (by omega)]
  ·rintro b ⟨h1,h2⟩-
   refine ⟨by omega,by rw [hsz];omega,fun he=> ?_⟩
   have he:gg=b:=by simpa [Value.ownBlock] using he
   subst he
   rcases hat with h|h
   ·have:=hol _ h;omega
   ·omega
 ·exact ((((hbel.trans (hb1.mono hbel.size)).alloc (by have:=hbel.size;omega) _).grown hgrow (by simp;have:=hbel.size;omega) (fun r hr=>by have:=(ho.lt r hr).1;omega)).setCell (Nat.le_refl _) _).setCell (Nat.le_refl _) _
def PartsAt (v:Value) (l:List It) (f d:Nat):Prop:= ∀w:World,RowIt w v l→Calls Tryz.prog 122 #[v, .int .i64 (f:Int), .int .i64 (d:Int)] w (GrownP l f d w)
theorem growBlock_of (v:Value) (l:List It) (h60:l.length≤30) (f d:Nat) (hf:f<l.length) (hd:d≤4) (h5:l[f].1≠5) (hP:d<4→PartsAt v l (f+1) (d+1)) (w:World) (hr:RowIt w v l):
  Calls Tryz.prog 164 #[v, .int .i64 (f:Int), .int .i64 (d:Int)] w (GrownB l f d w):=by
 have HR:=Lib.hid hr
 obtain ⟨ao,cap,rfl,h1,h2,h3⟩:=hr
 unfold maxLen at h2
 obtain ⟨b,o,rfl,hbl,hc⟩:=h3.resolve_left (by rintro rfl;simp at hf)
 obtain ⟨u,c0,-⟩:=hc f hf
 have HDR:=Lib.hid (show l.drop f=l[f]::l.drop (f+1) from List.drop_eq_getElem_cons hf)
 have H5:=Lib.hid h5
 generalize l[f]=it at c0 HDR H5
 have HP:=Lib.hid hP
 clear hP h5 hc
 by_cases h4:it.1=4
 ·have e4:(it.1 !=4)=false:=by rw [h4];rfl
  by_cases hd4:d<4
  ·have ed:((d:Int)==4)=false:=beq_eq_false_iff_ne.mpr (by omega)
   have HC:=Lib.hid (HP.out hd4 w HR.out)
   rw [show ((f+1:Nat):Int)=(f:Int)+1 by omega,show ((d+1:Nat):Int)=(d:Int)+1 by omega] at HC
   have H4:=Lib.hid h4
   clear h4
   go_enter Tryz.func164,Tryz.ntmps164
   go_wp2_with fail
   refine HC.out.mono ?_
   rintro e w1 ⟨hb1,⟨seg,post,vv,qs,rfl,he,hp,hbk,ho,ht⟩|⟨rfl,hbad⟩⟩
   ·have HB1:=Lib.hid hb1;have HBK:=Lib.hid hbk;have HO:=Lib.hid ho;have HT:=Lib.hid ht;have HE:=Lib.hid he
    have hlen:f+1+seg.length+post.length=l.length:=by
     have:=congrArg List.length he
     rw [List.length_append,List.length_drop] at this
     omega
    have d1:w1.cell? ⟨w.heap.size,1,none⟩=some (.int .i64 ((f+1+seg.length:Nat):Int)):=hbk.cell 1
    have d0:w1.cell? ⟨w.heap.size,0,none⟩=some (.int .i64 ((f+1:Nat):Int)):=hbk.cell 0
    have f0:w1.frozen? ⟨w.heap.size,0,none⟩=false:=hbk.frozen 0
    have f1:w1.frozen? ⟨w.heap.size,1,none⟩=false:=hbk.frozen 1
    cases post with
    |nil=>
     have hz:f+1+seg.length=l.length:=by simpa using hlen
     have HBAD:=Lib.hid (show BadN d (it::l.drop (f+1)) by
      have e2:l.drop (f+1)=seg:=by rw [HE.out,List.append_nil]
      rw [e2];exact BadN.left H4.out hd4 HT.out.pt)
     rw [hz] at d1
     clear hb1 hbk ho ht he hp hlen
     go_wp2
     go_ret
     exact ⟨HB1.out, .inr ⟨rfl,by rw [HDR.out];exact HBAD.out⟩⟩
    |cons c post=>
     have H5C:=Lib.hid (hp c rfl)
     have hz:((f+1+seg.length:Nat):Int)≠(l.length:Int):=by simp at hlen;omega
     have hz1:(((f+1+seg.length:Nat):Int)==(l.length:Int))=false:=beq_eq_false_iff_ne.mpr hz
     have HFIN:=Lib.hid (show∀w2,w2=(w1.setCell ⟨w.heap.size,0,none⟩ (.int .i64 (f:Int))).setCell ⟨w.heap.size,1,none⟩ (.int .i64 ((f+1+seg.length:Nat)+1:Int))→GrownB l f d w (.returned (.pointer (some ⟨w.heap.size,0,none⟩))) w2 by
      rintro w2 rfl
      have hs1:=HB1.out.size
      have hsz:((w1.setCell ⟨w.heap.size,0,none⟩ (.int .i64 (f:Int))).setCell ⟨w.heap.size,1,none⟩ (.int .i64 ((f+1+seg.length:Nat)+1:Int))).heap.size=w1.heap.size:=by simp [World.setCell]
      have hset: ∀b,b≠w.heap.size→((w1.setCell ⟨w.heap.size,0,none⟩ (.int .i64 (f:Int))).setCell ⟨w.heap.size,1,none⟩ (.int .i64 ((f+1+seg.length:Nat)+1:Int))).heap[b]? =w1.heap[b]? :=fun b hbn=>by
       rw [Below.heap_setCell _ _ _ _ hbn,Below.heap_setCell _ _ _ _ hbn]
      refine ⟨(HB1.out.setCell (Nat.le_refl _) _).setCell (Nat.le_refl _) _, .inl ⟨w.heap.size,it::(seg++[c]),post,rfl,by rw [HDR.out,HE.out];simp, ?_⟩⟩
      refine TrD.blk (qs:=qs) (v:=vv) (g:=f+seg.length+2) H4.out H5C.out hd4 ⟨Nat.le_refl _,by rw [hsz];exact HBK.out.lt⟩ rfl ?_ ?_ ?_ (HT.out.keep ?_ ?_) (.nil _ _)
      ·have:=(HBK.out.set_ 0 (.int .i64 (f:Int))).set_ 1 (.int .i64 ((f+1+seg.length:Nat)+1:Int))
       rw [show ((f+seg.length+2:Nat):Int)=((f+1+seg.length:Nat)+1:Int) by omega]
       exact this
      ·exact (own_base (own_keep HO.out (fun g hg=>hset g (by have:=(HO.out.lt g hg).1;omega))) (fun g hg=>Nat.zero_le _))
      ·intro r hr
       have:=HO.out.lt r hr
       exact ⟨by omega,by rw [hsz];omega⟩
      ·rintro b ⟨k1,k2,k3⟩-;exact hset b (by omega)
      ·rintro b ⟨k1,k2,k3⟩-;exact ⟨by omega,by rw [hsz];exact k2⟩)
     have hsm:f+1+seg.length<40:=by simp at hlen;omega
     clear hb1 hbk ho ht he hp hlen
     generalize f+1+seg.length=T at d1 hz hz1 HFIN hsm
     go_wp2
     go_ret
     exact HFIN.out _ rfl
   ·have HB1:=Lib.hid hb1
    have HBAD:=Lib.hid (BadN.inn (o:=it) H4.out hd4 hbad)
    clear hb1 hbad
    go_wp2
    go_ret
    exact ⟨HB1.out, .inr ⟨rfl,by rw [HDR.out];exact HBAD.out⟩⟩
  ·have HBAD:=Lib.hid (show BadN d (it::l.drop (f+1)) by
    obtain rfl:d=4:=by omega
    exact BadN.deep h4)
   have ed:((d:Int)==4)=true:=beq_iff_eq.mpr (by omega)
   clear h4
   go_enter Tryz.func164,Tryz.ntmps164
   go_wp2
   go_ret
   exact ⟨Below.refl _ _, .inr ⟨rfl,by rw [HDR.out];exact HBAD.out⟩⟩
 ·have e4:(it.1 !=4)=true:=bne_iff_ne.mpr h4
  have H4:=Lib.hid h4
  clear h4
  have HFIN:=Lib.hid (show∀w2,w2=w.alloc (.cells #[.int .i64 (f:Int), .int .i64 ((f:Int)+1), .slice none 0 0] 129)→GrownB l f d w (.returned (.pointer (some ⟨w.heap.size,0,none⟩))) w2 by
   rintro w2 rfl
   refine ⟨(Below.refl _ _).alloc (Nat.le_refl _) _, .inl ⟨w.heap.size,[it],_,rfl,HDR.out, .leaf H4.out H5.out ⟨Nat.le_refl _,by simp⟩ ?_ (.nil _ _)⟩⟩
   rw [show ((f+1:Nat):Int)=(f:Int)+1 by omega]
   exact BlkD.new _ _)
  go_enter Tryz.func164,Tryz.ntmps164
  go_wp2
  go_ret
  exact HFIN.out _ rfl
theorem growParts_of (v:Value) (l:List It) (h60:l.length≤30) (f d:Nat) (hf:f≤l.length) (hd:d≤4) (hP: ∀g,f≤g→g<l.length→d<4→PartsAt v l (g+1) (d+1)) (w:World) (hr:RowIt w v l):
  Calls Tryz.prog 122 #[v, .int .i64 (f:Int), .int .i64 (d:Int)] w (GrownP l f d w):=by
 obtain ⟨i0,hi,hz0,hz1,hz2⟩:=info_parts infoPtrD
 have HR:=Lib.hid hr
 obtain ⟨ao,cap,rfl,h1,h2,h3⟩:=hr
 unfold maxLen at h2
 have H3:=Lib.hid h3;have HP:=Lib.hid hP
 clear h3 hP
 have HST:=Lib.hid (GInvD.start l w f d hf)
 go_enter Tryz.func122,Tryz.ntmps122
 go_wp2
 go_loopw [8] (fun _ wr=> ∃seg:List It,GInvD l w f d seg wr) (fun _ wr=>l.length-cellN wr ⟨w.heap.size,1,none⟩)
 case atStart=>exact ⟨[],HST.out⟩
 case round=>
  obtain ⟨seg,hG⟩:=hrel
  have HG:=Lib.hid hG
  obtain ⟨vv,ps,hb,hown,ht,hB,he,hle⟩:=hG
  have HEG:=Lib.hid (Eq.refl (f+seg.length))
  generalize hgd:f+seg.length=g at hb he hle
  have HGD:=Lib.hid hgd
  have e0:wr.cell? ⟨w.heap.size,1,none⟩=some (.int .i64 (g:Int)):=hb.cell 1
  have HB:=Lib.hid hb;have HO:=Lib.hid hown;have HT:=Lib.hid ht;have HBel:=Lib.hid hB;have HE:=Lib.hid he
  have hfg:f≤g:=by omega
  clear hb hown ht hB he hgd
  by_cases hgl:g<l.length
  ·obtain ⟨b,o,rfl,hbl,cc⟩:=H3.out.resolve_left (by rintro rfl;simp at hgl)
   obtain ⟨u,c0,-⟩:=cc g hgl
   have k0:wr.cell? ⟨b,o+g*4,none⟩=some (.int .i64 l[g].1):=(HBel.out.cell (p:=⟨b,_,none⟩) hbl).trans c0
   clear cc c0
   by_cases h5:l[g].1=5
   ·have e5:(l[g].1 !=5)=false:=by rw [h5];rfl
    have HD:=Lib.hid (HG.out.done (by
     rw [HGD.out,List.drop_eq_getElem_cons hgl]
     intro i hi
     have hi:l[g]=i:=Option.some.inj hi
     rw [←hi];exact h5))
    clear h5
    generalize l[g].1=kk at k0 e5
    go_wp2
    go_ret
    exact HD.out
   ·have e5:(l[g].1 !=5)=true:=bne_iff_ne.mpr h5
    have HC:=Lib.hid (growBlock_of _ l h60 g d hgl hd h5 (HP.out g hfg hgl) wr (HR.out.mono HBel.out))
    clear h5
    generalize l[g].1=kk at k0 e5
    go_wp2_with fail
    refine HC.out.mono ?_
    rintro e w1 ⟨hb1,⟨N1,seg1,post1,rfl,he1,ht1⟩|⟨rfl,hno⟩⟩
    ·obtain ⟨hS1,hpos,v1,qs1,inn1,hN1,-⟩:=ht1.root
     have hT:g+seg1.length≤l.length:=by
      have:=congrArg List.length he1
      rw [List.length_append,List.length_drop] at this
      omega
     have cN1:w1.cell? ⟨N1,1,none⟩=some (.int .i64 ((g+seg1.length:Nat):Int)):=hN1.cell 1
     have hN1lt:w.heap.size<N1:=by have:=HB.out.lt;omega
     have hgb1:wr.grownBy w1 none:=⟨hb1.os,hb1.tape,hb1.output,hb1.size,fun i hi _=>hb1.block i hi⟩
     have own1:=HO.out.kept hgb1 (by cases hv:vv.ownBlock<;>simp)
     have K1:=HB.out.keep hb1
     have hM:=K1.lt
     have c1:w1.cell? ⟨w.heap.size,1,none⟩=some (.int .i64 (g:Int)):=K1.cell 1
     have c2:w1.cell? ⟨w.heap.size,2,none⟩=some vv:=K1.cell 2
     have f1:w1.frozen? ⟨w.heap.size,1,none⟩=false:=K1.frozen 1
     have f2:w1.frozen? ⟨w.heap.size,2,none⟩=false:=K1.frozen 2
     have hne:vv.ownBlock≠some w.heap.size:=fun he=>by have:=(own1.lt _ he).1;omega
     have NE:=Lib.hid hne
     have HK1:=Lib.hid K1;have HN1:=Lib.hid hN1
     have HT1:=Lib.hid ht1;have HB1:=Lib.hid hb1;have HE1:=Lib.hid he1;have HS1:=Lib.hid hS1
     clear hgb1 K1 hne hb1 ht1 hN1 hS1 e0 he1
     obtain ⟨av,cv,hv,hcv⟩: ∃a c,vv= .slice a ps.length c∧c≤maxLen:=by
      rcases own1.2 with ⟨rfl,h0⟩|⟨g',cap',cur,rfl,_,_,_,hq,_⟩
      ·exact ⟨none,0,by rw [h0],by unfold maxLen;omega⟩
      ·exact ⟨_,_,rfl,hq⟩
     subst hv
     unfold maxLen at hcv
     have hpl:ps.length≤1000:=by
      have: ∀{ps:List Nat} {f d:Nat} {seg:List It} {w:World} {S:Nat→Prop},TrD w S ps f seg d→ps.length≤seg.length:=by
       intro ps f d seg w S h
       induction h with
       |nil=>simp
       |leaf _ _ _ _ _ ih=>simp;omega
       |blk _ _ _ _ _ _ _ _ _ _ _ ih=>simp;omega
      have:=this HT.out
      have:=HGD.out
      omega
     have hfar: ∀r,(Value.slice av ps.length cv).ownBlock=some r→r<N1:=fun r hr=>by have h1:=HS1.out;have h2:=(HO.out.lt r hr).2;omega
     have hNr:(Value.slice av ps.length cv).ownBlock≠some N1:=fun he=>by have:=hfar _ he;omega
     have hn1: ¬N1=w.heap.size:=by omega
     have hn2: ¬w.heap.size=N1:=by omega
     have NR:=Lib.hid hNr;have FAR:=Lib.hid hfar;clear hfar hNr
     have HTT:=Lib.hid (Eq.refl (g+seg1.length))
     generalize hTd:g+seg1.length=T at cN1 hT
     have HTD:=Lib.hid hTd
     clear hTd
     have HOW:=Lib.hid own1
     go_wp2_with (at_builtin;refine wpList_append_lies _ rfl _ _ 127 rfl (w.heap.size+1) 86 i0 (.pointer none) 1 8 Tryz.underlying127 hi hz0 hz1 hz2 rfl (by decide) (.slice av ps.length cv) ps.length _ rfl (own1.alloc _) ⟨w1.heap.size,0,none⟩ 1 1 [.pointer (some ⟨N1,0,none⟩)] rfl rfl (World.news_of_block (cs:= #[.pointer (some ⟨N1,0,none⟩)]) (t:=86) (fr:=(0,0)) (heap_alloc_new w1 _)) (by simp [Value.oneCell']) (by omega) (by unfold maxLen;omega) (by omega) (by simp;omega) (w1.heap.size+1) (by simp) ?_;intro gg cap' w2 hown' hgrow hat hlt';have hfz:w2.frozen? ⟨w.heap.size,2,none⟩=false:=((hgrow.frozen_far _ (by simp;omega) (fun hq=>NE.out hq.symm)).trans (((World.grownBy_alloc w1 _ none).frozen_far ⟨w.heap.size,2,none⟩ hM (by simp)).trans f2));have K2:=BlkD.grown (HK1.out.alloc _) hgrow (fun hq=>NE.out hq.symm);have M2:=BlkD.grown (HN1.out.alloc _) hgrow (fun hq=>NR.out hq.symm);have hc2:w2.cell? ⟨w.heap.size,2,none⟩=some (.slice av ps.length cv):=K2.cell 2;have hc1:w2.cell? ⟨w.heap.size,1,none⟩=some (.int .i64 (g:Int)):=K2.cell 1;have hf1:w2.frozen? ⟨w.heap.size,1,none⟩=false:=K2.frozen 1;have hcn:w2.cell? ⟨N1,1,none⟩=some (.int .i64 (T:Int)):=by {rw [←HTD.out];exact M2.cell 1};have KK2:=Lib.hid K2;have HO2:=Lib.hid hown';have HG2:=Lib.hid hgrow;have HAT:=Lib.hid hat;clear K2 M2 hown' hgrow hat)
     have HNX:=Lib.hid (show GInvD l w f d (seg++seg1) ((w2.setCell ⟨w.heap.size,2,none⟩ (.slice (some ⟨gg,0,none⟩) (ps.length+1) cap')).setCell ⟨w.heap.size,1,none⟩ (.int .i64 (T:Int))) by
      have:=GInvD.next HGD.out.symm HBel.out HB.out HO.out HT.out HB1.out HT1.out _ HG2.out HAT.out HO2.out KK2.out HE.out HE1.out hle
      rwa [HTD.out] at this)
     have HFT:=Lib.hid (show f+(seg++seg1).length=T by rw [List.length_append];have:=HTD.out;have:=HGD.out;omega)
     go_roundw
     case rel=>exact ⟨_,HNX.out⟩
     case measure=>
      obtain ⟨v9,ps9,hb9,-⟩:=HNX.out
      rw [HFT.out] at hb9
      rw [cellN_of (n:=T) (hb9.cell 1),cellN_of (n:=g) (HB.out.cell 1)]
      have:=HTD.out
      omega
    ·have HF:=Lib.hid (HG.out.fail hd hb1 (by rw [HGD.out];exact hno))
     clear hno hb1
     go_wp2
     go_ret
     exact HF.out
  ·obtain rfl:g=l.length:=by omega
   have HD:=Lib.hid (HG.out.done (by
    rw [HGD.out,List.drop_length]
    intro i hi;cases hi))
   go_wp2
   go_ret
   exact HD.out
theorem growParts_any (v:Value) (l:List It) (h60:l.length≤30) (j:Nat): ∀(f d:Nat),f≤l.length→d≤4→l.length-f≤j→PartsAt v l f d:=by
 induction j with
 |zero=>
  intro f d hf hd hj w hr
  exact growParts_of v l h60 f d hf hd (fun g h1 h2=>by omega) w hr
 |succ j ih=>
  intro f d hf hd hj w hr
  exact growParts_of v l h60 f d hf hd (fun g h1 h2 hd4=>ih (g+1) (d+1) (by omega) (by omega) (by omega)) w hr
theorem last_get (s:ByteArray) (h:0<s.size):s.data.toList.getLast? =some s[s.size-1]:=by
 have hl:s.data.toList.length=s.size:=by rw [Array.length_toList];rfl
 rw [List.getLast?_eq_getElem?,hl,List.getElem?_eq_getElem (by omega)];rfl
theorem head_get (s:ByteArray) (h:0<s.size):s.data.toList.head? =some s[0]:=by
 have hl:s.data.toList.length=s.size:=by rw [Array.length_toList];rfl
 rw [List.head?_eq_getElem?,List.getElem?_eq_getElem (by omega)];rfl
def spacedB (s:ByteArray):Bool:=s.data.toList.head? ==some 32||s.data.toList.getLast? ==some 32
theorem note_plain (s:ByteArray):noteB s=(decide (s.size≤60)&&(plainL s.data.toList&& !spacedB s)):=by
 unfold noteB spacedB textB
 rw [plain_iff]
 by_cases h:s.size≤60
 ·rw [decide_eq_true h,decide_eq_true (show s.size≤20000 by omega)]
  simp only [Bool.true_and,Bool.not_or,bne]
  rw [Bool.and_assoc]
 ·rw [decide_eq_false h];simp
theorem spaced_at (s:ByteArray) (h:0<s.size):spacedB s=((((s[0].toNat:Int))==32)||(((s[s.size-1].toNat:Int))==32)):=by
 unfold spacedB
 rw [head_get s h,last_get s h,show (32:Int)=((32:UInt8).toNat:Int) from rfl,byte_eq,byte_eq]
 rfl
theorem spaced_any (s:ByteArray) (w:World) (hs:s.size≤maxLen):
  Calls Tryz.prog 161 #[.string s] w fun e w'=>e= .returned (.bool (spacedB s))∧w=w':=by
 unfold maxLen at hs
 cases h:emB s with
 |true=>
  obtain ⟨a1,a2,a3,a4⟩:=em_t h
  have hz:s.data.toList=[]:=by rw [←ByteArray.toList_eq];exact a2
  rw [show spacedB s=false by unfold spacedB;rw [hz];rfl]
  clear hz
  go_enter Tryz.func161,Tryz.ntmps161
  go_wp2
  go_ret
  exact ⟨rfl,rfl⟩
 |false=>
  obtain ⟨a1,a2,a3,a4⟩:=em_f h
  have hp:0<s.size:=by
   rcases Nat.eq_zero_or_pos s.size with e|e
   ·exfalso;unfold emB at h;rw [e] at h;cases h
   ·exact e
  rw [spaced_at s hp]
  have e1:((s.size:Int)-1).toNat=s.size-1:=by omega
  cases h1:((s[0].toNat:Int)==32)
  ·cases h2:((s[s.size-1].toNat:Int)==32)
   all_goals
    go_enter Tryz.func161,Tryz.ntmps161
    go_wp2
    go_ret
    exact ⟨rfl,rfl⟩
  ·go_enter Tryz.func161,Tryz.ntmps161
   go_wp2
   go_ret
   exact ⟨rfl,rfl⟩
theorem note_impl (s:ByteArray) (w:World) (hs:s.size≤maxLen):
  Calls Tryz.prog 119 #[.string s] w fun e w'=>e= .returned (.bool (noteB s))∧w=w':=by
 have HMX:=Lib.hid hs
 unfold maxLen at hs
 rw [note_plain]
 by_cases h:s.size≤60
 ·rw [decide_eq_true h,Bool.true_and]
  have z:decide ((s.size:Int)≤60)=true:=decide_eq_true (by omega)
  cases hp:plainL s.data.toList with
  |false=>
   go_enter Tryz.func119,Tryz.ntmps119
   go_wp2_with fail
   refine (plainLine_any s _ HMX.out).mono ?_
   rintro e w' ⟨rfl,rfl⟩
   rw [hp]
   go_wp2
   go_ret
   exact ⟨rfl,rfl⟩
  |true=>
   cases h9:spacedB s
   all_goals
    go_enter Tryz.func119,Tryz.ntmps119
    go_wp2_with fail
    refine (plainLine_any s _ HMX.out).mono ?_
    rintro e w' ⟨rfl,rfl⟩
    rw [hp]
    go_wp2_with fail
    refine (spaced_any s _ HMX.out).mono ?_
    rintro e w' ⟨rfl,rfl⟩
    rw [h9]
    go_wp2
    go_ret
    exact ⟨rfl,rfl⟩
 ·rw [decide_eq_false h,Bool.false_and]
  have z:decide ((s.size:Int)≤60)=false:=decide_eq_false (by omega)
  go_enter Tryz.func119,Tryz.ntmps119
  go_wp2
  go_ret
  exact ⟨rfl,rfl⟩
theorem itemI_k1 (n:ByteArray) (l:List Cl) (t:ByteArray) (u:Value) (w:World) (hr:RowC w u l) (hn:n.size≤maxLen) (hz:SizedC l) (ht:t.size≤maxLen) (htab:Tab w):
  Calls Tryz.prog 75 #[.agg #[.int .i64 1, .string n,u, .string t]] w fun e w'=>e= .returned (.bool (emB n&&(l.isEmpty&&emB t)))∧Below w.heap.size w w':=by
 have HB0:=Lib.hid ((Below.refl w.heap.size w).alloc (Nat.le_refl _) (.cells #[.int .i64 1, .string n,u, .string t] 32))
 obtain ⟨ao,cap,rfl,-⟩:=hr
 cases h1:emB n with
 |false=>
  obtain ⟨a1,a2,a3,a4⟩:=em_f h1
  clear hz
  go_enter Tryz.func75,Tryz.ntmps75
  go_wp2
  go_ret
  exact ⟨rfl,HB0.out⟩
 |true=>
  obtain ⟨a1,a2,a3,a4⟩:=em_t h1
  cases h2:l.isEmpty with
  |false=>
   have b1:=(le_f h2).1
   clear hz
   go_enter Tryz.func75,Tryz.ntmps75
   go_wp2
   go_ret
   exact ⟨rfl,HB0.out⟩
  |true=>
   have b1:=(le_t h2).1
   cases h3:emB t with
   |false=>
    obtain ⟨c1,c2,c3,c4⟩:=em_f h3
    clear hz
    go_enter Tryz.func75,Tryz.ntmps75
    go_wp2
    go_ret
    exact ⟨rfl,HB0.out⟩
   |true=>
    obtain ⟨c1,c2,c3,c4⟩:=em_t h3
    clear hz
    go_enter Tryz.func75,Tryz.ntmps75
    go_wp2
    go_ret
    exact ⟨rfl,HB0.out⟩
theorem itemI_k5 (n:ByteArray) (l:List Cl) (t:ByteArray) (u:Value) (w:World) (hr:RowC w u l) (hn:n.size≤maxLen) (hz:SizedC l) (ht:t.size≤maxLen) (htab:Tab w):
  Calls Tryz.prog 75 #[.agg #[.int .i64 5, .string n,u, .string t]] w fun e w'=>e= .returned (.bool (emB n&&(l.isEmpty&&emB t)))∧Below w.heap.size w w':=by
 have HB0:=Lib.hid ((Below.refl w.heap.size w).alloc (Nat.le_refl _) (.cells #[.int .i64 5, .string n,u, .string t] 32))
 obtain ⟨ao,cap,rfl,-⟩:=hr
 cases h1:emB n with
 |false=>
  obtain ⟨a1,a2,a3,a4⟩:=em_f h1
  clear hz
  go_enter Tryz.func75,Tryz.ntmps75
  go_wp2
  go_ret
  exact ⟨rfl,HB0.out⟩
 |true=>
  obtain ⟨a1,a2,a3,a4⟩:=em_t h1
  cases h2:l.isEmpty with
  |false=>
   have b1:=(le_f h2).1
   clear hz
   go_enter Tryz.func75,Tryz.ntmps75
   go_wp2
   go_ret
   exact ⟨rfl,HB0.out⟩
  |true=>
   have b1:=(le_t h2).1
   cases h3:emB t with
   |false=>
    obtain ⟨c1,c2,c3,c4⟩:=em_f h3
    clear hz
    go_enter Tryz.func75,Tryz.ntmps75
    go_wp2
    go_ret
    exact ⟨rfl,HB0.out⟩
   |true=>
    obtain ⟨c1,c2,c3,c4⟩:=em_t h3
    clear hz
    go_enter Tryz.func75,Tryz.ntmps75
    go_wp2
    go_ret
    exact ⟨rfl,HB0.out⟩
theorem itemI_k2 (n:ByteArray) (l:List Cl) (t:ByteArray) (u:Value) (w:World) (hr:RowC w u l) (hn:n.size≤maxLen) (hz:SizedC l) (ht:t.size≤maxLen) (htab:Tab w):
  Calls Tryz.prog 75 #[.agg #[.int .i64 2, .string n,u, .string t]] w fun e w'=>e= .returned (.bool (emB n&&(l.isEmpty&&noteB t)))∧Below w.heap.size w w':=by
 have HB0:=Lib.hid ((Below.refl w.heap.size w).alloc (Nat.le_refl _) (.cells #[.int .i64 2, .string n,u, .string t] 32))
 obtain ⟨ao,cap,rfl,-⟩:=hr
 cases h1:emB n with
 |false=>
  obtain ⟨a1,a2,a3,a4⟩:=em_f h1
  clear hz
  go_enter Tryz.func75,Tryz.ntmps75
  go_wp2
  go_ret
  exact ⟨rfl,HB0.out⟩
 |true=>
  obtain ⟨a1,a2,a3,a4⟩:=em_t h1
  cases h2:l.isEmpty with
  |false=>
   have b1:=(le_f h2).1
   clear hz
   go_enter Tryz.func75,Tryz.ntmps75
   go_wp2
   go_ret
   exact ⟨rfl,HB0.out⟩
  |true=>
   have b1:=(le_t h2).1
   clear hz
   cases h9:noteB t
   all_goals
    go_enter Tryz.func75,Tryz.ntmps75
    go_wp2_with fail
    refine (note_impl t _ ht).mono ?_
    rintro e w1 ⟨rfl,rfl⟩
    rw [h9]
    go_wp2
    go_ret
    exact ⟨rfl,HB0.out⟩
theorem itemI_k3 (n:ByteArray) (l:List Cl) (t:ByteArray) (u:Value) (w:World) (hr:RowC w u l) (hn:n.size≤maxLen) (hz:SizedC l) (ht:t.size≤maxLen) (htab:Tab w):
  Calls Tryz.prog 75 #[.agg #[.int .i64 3, .string n,u, .string t]] w fun e w'=>e= .returned (.bool (simpB n&&(okE l&&noteB t)))∧Below w.heap.size w w':=by
 have HB0:=Lib.hid ((Below.refl w.heap.size w).alloc (Nat.le_refl _) (.cells #[.int .i64 3, .string n,u, .string t] 32))
 have HRX:=Lib.hid (hr.mono HB0.out)
 have HTX:=Lib.hid (htab.keep HB0.out)
 have HX:=Lib.hid (exprValid_impl u l _ HRX.out hz HTX.out)
 obtain ⟨ao,cap,rfl,-⟩:=hr
 have HBX:=Lib.hid (fun w1 (h:Below (w.alloc (.cells #[.int .i64 3, .string n, .slice ao l.length cap, .string t] 32)).heap.size (w.alloc (.cells #[.int .i64 3, .string n, .slice ao l.length cap, .string t] 32)) w1)=>boxI h)
 clear hz
 cases h1:simpB n with
 |false=>
  go_enter Tryz.func75,Tryz.ntmps75
  go_wp2_with fail
  refine (plainName_any n _ hn).mono ?_
  rintro e w1 ⟨rfl,rfl⟩
  rw [h1]
  go_wp2
  go_ret
  exact ⟨rfl,HB0.out⟩
 |true=>
  cases h2:okE l with
  |false=>
   go_enter Tryz.func75,Tryz.ntmps75
   go_wp2_with fail
   refine (plainName_any n _ hn).mono ?_
   rintro e w1 ⟨rfl,rfl⟩
   rw [h1]
   go_wp2_with fail
   refine HX.out.mono ?_
   rintro e w1 ⟨rfl,hb1⟩
   have HB1:=Lib.hid (HB0.out.trans (hb1.mono HB0.out.size));clear hb1
   rw [h2]
   go_wp2
   go_ret
   exact ⟨rfl,HB1.out⟩
  |true=>
   cases h9:noteB t
   all_goals
    go_enter Tryz.func75,Tryz.ntmps75
    go_wp2_with fail
    refine (plainName_any n _ hn).mono ?_
    rintro e w1 ⟨rfl,rfl⟩
    rw [h1]
    go_wp2_with fail
    refine HX.out.mono ?_
    rintro e w1 ⟨rfl,hb1⟩
    obtain ⟨d0,d1,d2,d3⟩:=HBX.out w1 hb1
    have HB1:=Lib.hid (HB0.out.trans (hb1.mono HB0.out.size));clear hb1
    rw [h2]
    go_wp2_with fail
    refine (note_impl t _ ht).mono ?_
    rintro e w2 ⟨rfl,rfl⟩
    rw [h9]
    go_wp2
    go_ret
    exact ⟨rfl,HB1.out⟩
theorem itemI_k4 (n:ByteArray) (l:List Cl) (t:ByteArray) (u:Value) (w:World) (hr:RowC w u l) (hn:n.size≤maxLen) (hz:SizedC l) (ht:t.size≤maxLen) (htab:Tab w):
  Calls Tryz.prog 75 #[.agg #[.int .i64 4, .string n,u, .string t]] w fun e w'=>e= .returned (.bool (simpB n&&(l.isEmpty&&emB t)))∧Below w.heap.size w w':=by
 have HB0:=Lib.hid ((Below.refl w.heap.size w).alloc (Nat.le_refl _) (.cells #[.int .i64 4, .string n,u, .string t] 32))
 obtain ⟨ao,cap,rfl,-⟩:=hr
 clear hz
 cases h1:simpB n with
 |false=>
  go_enter Tryz.func75,Tryz.ntmps75
  go_wp2_with fail
  refine (plainName_any n _ hn).mono ?_
  rintro e w1 ⟨rfl,rfl⟩
  rw [h1]
  go_wp2
  go_ret
  exact ⟨rfl,HB0.out⟩
 |true=>
  cases h2:l.isEmpty with
  |false=>
   have b1:=(le_f h2).1
   go_enter Tryz.func75,Tryz.ntmps75
   go_wp2_with fail
   refine (plainName_any n _ hn).mono ?_
   rintro e w1 ⟨rfl,rfl⟩
   rw [h1]
   go_wp2
   go_ret
   exact ⟨rfl,HB0.out⟩
  |true=>
   have b1:=(le_t h2).1
   cases h3:emB t with
   |false=>
    obtain ⟨c1,c2,c3,c4⟩:=em_f h3
    go_enter Tryz.func75,Tryz.ntmps75
    go_wp2_with fail
    refine (plainName_any n _ hn).mono ?_
    rintro e w1 ⟨rfl,rfl⟩
    rw [h1]
    go_wp2
    go_ret
    exact ⟨rfl,HB0.out⟩
   |true=>
    obtain ⟨c1,c2,c3,c4⟩:=em_t h3
    go_enter Tryz.func75,Tryz.ntmps75
    go_wp2_with fail
    refine (plainName_any n _ hn).mono ?_
    rintro e w1 ⟨rfl,rfl⟩
    rw [h1]
    go_wp2
    go_ret
    exact ⟨rfl,HB0.out⟩
theorem itemI_ko (k:Int) (h1:k≠1) (h2:k≠2) (h3:k≠3) (h4:k≠4) (h5:k≠5) (n:ByteArray) (l:List Cl) (t:ByteArray) (u:Value) (w:World) (hr:RowC w u l) (hn:n.size≤maxLen) (hz:SizedC l) (ht:t.size≤maxLen) (htab:Tab w):
  Calls Tryz.prog 75 #[.agg #[.int .i64 k, .string n,u, .string t]] w fun e w'=>e= .returned (.bool (false))∧Below w.heap.size w w':=by
 have HB0:=Lib.hid ((Below.refl w.heap.size w).alloc (Nat.le_refl _) (.cells #[.int .i64 k, .string n,u, .string t] 32))
 obtain ⟨ao,cap,rfl,-⟩:=hr
 clear hz
 have a1:(k==1)=false:=beq_eq_false_iff_ne.mpr h1
 have a2:(k==2)=false:=beq_eq_false_iff_ne.mpr h2
 have a3:(k==3)=false:=beq_eq_false_iff_ne.mpr h3
 have a4:(k==4)=false:=beq_eq_false_iff_ne.mpr h4
 have a5:(k==5)=false:=beq_eq_false_iff_ne.mpr h5
 go_enter Tryz.func75,Tryz.ntmps75
 go_wp2
 go_ret
 exact ⟨rfl,HB0.out⟩
theorem itemValid_impl (i:It) (u:Value) (w:World) (hr:RowC w u i.2.2.1) (hn:i.2.1.size≤maxLen) (hz:SizedC i.2.2.1) (ht:i.2.2.2.size≤maxLen) (htab:Tab w):
  Calls Tryz.prog 75 #[.agg #[.int .i64 i.1, .string i.2.1,u, .string i.2.2.2]] w fun e w'=>e= .returned (.bool (itemB i))∧Below w.heap.size w w':=by
 obtain ⟨k,n,l,t⟩:=i
 simp only at hr hn hz ht⊢
 unfold itemB
 simp only
 by_cases h1:k=1
 ·subst h1;rw [if_pos (.inl rfl)];exact itemI_k1 n l t u w hr hn hz ht htab
 by_cases h5:k=5
 ·subst h5;rw [if_pos (.inr rfl)];exact itemI_k5 n l t u w hr hn hz ht htab
 rw [if_neg (by omega)]
 by_cases h2:k=2
 ·subst h2;rw [if_pos rfl];exact itemI_k2 n l t u w hr hn hz ht htab
 rw [if_neg h2]
 by_cases h3:k=3
 ·subst h3;rw [if_pos rfl];exact itemI_k3 n l t u w hr hn hz ht htab
 rw [if_neg h3]
 by_cases h4:k=4
 ·subst h4;rw [if_pos rfl];exact itemI_k4 n l t u w hr hn hz ht htab
 rw [if_neg h4]
 exact itemI_ko k h1 h2 h3 h4 h5 n l t u w hr hn hz ht htab
def FitI (l:List It):Prop:= ∀i∈l,i.2.1.size≤maxLen∧SizedC i.2.2.1∧i.2.2.2.size≤maxLen
def TreeL (l:List It) (w:World) (e:Ending) (w':World):Prop:=
 Below w.heap.size w w'∧((∃(N:Nat) (v:Value) (qs:List Nat),e= .returned (.pointer (some ⟨N,0,none⟩))∧docB l=true∧w.heap.size≤N∧BlkD w' N #[.int .i64 0, .int .i64 (l.length:Int),v]∧w'.ownsRow (N+1) 86 1 v qs.length (ptrs qs)∧TrD w' (fun b=>N<b∧b<w'.heap.size) qs 0 l 0)∨(e= .returned (.pointer none)∧docB l=false))
theorem doc_len {l:List It} (h: ¬l.length≤30):docB l=false:=by rw [Bool.eq_false_iff];intro k;exact h ((docB_iff l).mp k).1
theorem doc_item {l:List It} (h: ¬l.all itemB=true):docB l=false:=by rw [Bool.eq_false_iff];intro k;exact h ((docB_iff l).mp k).2.1
theorem doc_nest {l:List It} (h:nestO 0 l≠some 0):docB l=false:=by rw [Bool.eq_false_iff];intro k;exact h ((docB_iff l).mp k).2.2
theorem allI_take {l:List It} {k:Nat} (h:k<l.length):(l.take (k+1)).all itemB=((l.take k).all itemB&&itemB l[k]):=by
 rw [List.take_succ_eq_append_getElem h,List.all_append];simp
theorem bad_doc {l:List It} (h:BadN 0 (l.drop 0)):docB l=false:=by
 refine doc_nest fun k=> ?_
 have:=h 0 k
 omega
theorem close_doc {l seg:List It} {c:It} {post:List It} (he:l.drop 0=seg++c::post) (hp:PtD 0 seg) (hc:c.1=5):docB l=false:=by
 refine doc_nest fun k=> ?_
 have e:l=seg++c::post:=he
 rw [e] at k
 have h2:=hp.nest (by omega) (c::post)
 rw [show ((0:Nat):Int)=0 from rfl] at h2
 rw [h2,nestO_cons,depN_close hc,if_neg (by omega)] at k
 cases k
theorem whole_doc {l seg:List It} (he:l.drop 0=seg++[]) (hp:PtD 0 seg) (h30:l.length≤30) (hi:l.all itemB=true):docB l=true:=by
 have e:l=seg:=by simpa using he
 rw [docB_iff,e]
 exact ⟨e▸h30,e▸hi,hp.self (by omega)⟩
theorem documentTree_any (v:Value) (l:List It) (w:World) (hr:RowIt w v l) (hz:FitI l) (htab:Tab w):
  Calls Tryz.prog 76 #[v] w (TreeL l w):=by
 have HR:=Lib.hid hr
 obtain ⟨ao,cap,rfl,h1,h2,h3⟩:=hr
 unfold maxLen at h2
 have H3:=Lib.hid h3;have HZ:=Lib.hid hz;have HTAB:=Lib.hid htab
 clear h3 hz htab
 by_cases h30:l.length≤30
 ·go_enter Tryz.func76,Tryz.ntmps76
  go_wp2
  go_loopw [4,11] (fun _ i wr=> ∃k:Nat,k≤l.length∧i= .int .i64 (k:Int)∧(l.take k).all itemB=true∧Below w.heap.size w wr) (fun _ i _=>l.length-(intOf i).toNat)
  case atStart=>exact ⟨0,Nat.zero_le _,rfl,rfl,Below.refl _ _⟩
  case round=>
   obtain ⟨k,hk,rfl,hok,hb⟩:=hrel
   have HOK:=Lib.hid hok;have HB:=Lib.hid hb;clear hok hb
   by_cases hlt:k<l.length
   ·obtain ⟨b,o,rfl,hbl,cc⟩:=H3.out.resolve_left (by rintro rfl;simp at hlt)
    obtain ⟨u,hu⟩:=cc k hlt
    have hu2:=hu.mono hbl HB.out
    obtain ⟨d0,d1,d2,d3,hru⟩:=hu2
    obtain ⟨z1,z2,z3⟩:=HZ.out _ (List.getElem_mem hlt)
    obtain ⟨au,cu,hue,-⟩: ∃au cu,u= .slice au l[k].2.2.1.length cu∧True:=by obtain ⟨au,cu,h,-⟩:=hru;exact ⟨au,cu,h,trivial⟩
    have HBA:=Lib.hid (HB.out.alloc HB.out.size (.cells #[.int .i64 l[k].1, .string l[k].2.1,u, .string l[k].2.2.2] 32))
    have HI:=Lib.hid (itemValid_impl l[k] u (wr.alloc (.cells #[.int .i64 l[k].1, .string l[k].2.1,u, .string l[k].2.2.2] 32)) (hru.al _) z1 z2 z3 (HTAB.out.keep HBA.out))
    have HT:=Lib.hid (allI_take hlt)
    have HMI:=Lib.hid (List.getElem_mem hlt)
    clear cc hu hru z1 z2 z3
    subst hue
    generalize l[k]=it at*
    obtain ⟨kk,nn,cc,tt⟩:=it
    simp only at d0 d1 d2 d3 HI HBA
    cases hcb:itemB (kk,nn,cc,tt) with
    |true=>
     have HN:=Lib.hid (show (l.take (k+1)).all itemB=true by rw [HT.out,HOK.out,hcb];rfl)
     go_wp2_with fail
     refine HI.out.mono ?_
     rintro e w1 ⟨rfl,hb1⟩
     have HB1:=Lib.hid (HBA.out.trans (hb1.mono (by have:=HB.out.size;simp;omega)));clear hb1
     rw [hcb]
     go_wp2
     go_roundw
     case rel=>exact ⟨k+1,by omega,by go_num,HN.out,HB1.out⟩
     case measure=>simp [intOf];omega
    |false=>
     have HN:=Lib.hid (doc_item (l:=l) (fun h=>by
      rw [List.all_eq_true] at h
      have:=h _ HMI.out
      rw [hcb] at this;cases this))
     go_wp2_with fail
     refine HI.out.mono ?_
     rintro e w1 ⟨rfl,hb1⟩
     have HB1:=Lib.hid (HBA.out.trans (hb1.mono (by have:=HB.out.size;simp;omega)));clear hb1
     rw [hcb]
     go_wp2
     go_ret
     exact ⟨HB1.out, .inr ⟨rfl,HN.out⟩⟩
   ·obtain rfl:k=l.length:=by omega
    have HAL:=Lib.hid (show l.all itemB=true by have:=HOK.out;rwa [List.take_of_length_le (Nat.le_refl _)] at this)
    have HG:=Lib.hid (growParts_any _ l h30 l.length 0 0 (Nat.zero_le _) (by omega) (by omega) wr (HR.out.mono HB.out))
    rw [show ((0:Nat):Int)=0 from rfl] at HG
    go_wp2_with fail
    refine HG.out.mono ?_
    rintro e w1 ⟨hb1,⟨seg,post,vv,qs,rfl,he,hp,hbk,ho,ht⟩|⟨rfl,hbad⟩⟩
    ·have HB1:=Lib.hid (HB.out.trans (hb1.mono HB.out.size))
     have d1:w1.cell? ⟨wr.heap.size,1,none⟩=some (.int .i64 ((0+seg.length:Nat):Int)):=hbk.cell 1
     have hlen:seg.length+post.length=l.length:=by
      have:=congrArg List.length he
      rw [List.length_append,List.length_drop] at this
      omega
     rw [Nat.zero_add] at d1 hbk
     cases post with
     |nil=>
      have hz:seg.length=l.length:=by simpa using hlen
      have HD:=Lib.hid (whole_doc he ht.pt h30 HAL.out)
      have hsz:=HB.out.size
      have e2:seg=l:=by have h9:=he;rw [List.append_nil,List.drop_zero] at h9;exact h9.symm
      subst e2
      have HF:=Lib.hid (show TreeL seg w (.returned (.pointer (some ⟨wr.heap.size,0,none⟩))) w1 from
       ⟨HB1.out, .inl ⟨wr.heap.size,vv,qs,rfl,HD.out,hsz,hbk,ho,ht.keep (fun _ _ _=>rfl) (fun b hb _=>⟨hb.1,hb.2.1⟩)⟩⟩)
      clear hb1 hbk ho ht he hp hlen
      go_wp2
      go_ret
      exact HF.out
     |cons c post=>
      have hz:(seg.length:Int)<(l.length:Int):=by simp at hlen;omega
      have HD:=Lib.hid (close_doc he ht.pt (hp c rfl))
      clear hb1 hbk ho ht he hp hlen
      go_wp2
      go_ret
      exact ⟨HB1.out, .inr ⟨rfl,HD.out⟩⟩
    ·have HB1:=Lib.hid (HB.out.trans (hb1.mono HB.out.size))
     have HD:=Lib.hid (bad_doc hbad)
     clear hb1 hbad
     go_wp2
     go_ret
     exact ⟨HB1.out, .inr ⟨rfl,HD.out⟩⟩
 ·have HD:=Lib.hid (doc_len (l:=l) h30)
  go_enter Tryz.func76,Tryz.ntmps76
  go_wp2
  go_ret
  exact ⟨Below.refl _ _, .inr ⟨rfl,HD.out⟩⟩
theorem documentValid_impl (v:Value) (l:List It) (w:World) (hr:RowIt w v l) (hz:FitI l) (htab:Tab w):
  Calls Tryz.prog 43 #[v] w fun e w'=>e= .returned (.bool (docB l))∧Below w.heap.size w w':=by
 have HC:=Lib.hid (documentTree_any v l w hr hz htab)
 obtain ⟨ao,cap,rfl,h1,h2,h3⟩:=hr
 clear h3 hz
 go_enter Tryz.func43,Tryz.ntmps43
 go_wp2_with fail
 refine HC.out.mono ?_
 rintro e w1 ⟨hb1,⟨N,vv,qs,rfl,hok,-⟩|⟨rfl,hno⟩⟩
 ·have HOK:=Lib.hid hok;have HB:=Lib.hid hb1
  clear hok hb1
  go_wp2
  go_ret
  exact ⟨ret_b HOK.out.symm,HB.out⟩
 ·have HOK:=Lib.hid hno;have HB:=Lib.hid hb1
  clear hno hb1
  go_wp2
  go_ret
  exact ⟨ret_b HOK.out.symm,HB.out⟩
def lineN (l:List UInt8):Nat→Nat
 |0=>0
 |k+1=>if l[k]? =some 10 then lineN l k+1 else lineN l k
def fromN (l:List UInt8):Nat→Nat
 |0=>0
 |k+1=>if l[k]? =some 10 then k+1 else fromN l k
def starts (l:List UInt8):Nat→List Nat
 |0=>[0]
 |k+1=>if l[k]? =some 10 then starts l k++[k+1] else starts l k
theorem starts_length (l:List UInt8) (k:Nat):(starts l k).length=lineN l k+1:=by
 induction k with
 |zero=>rfl
 |succ k ih=>simp only [starts,lineN];split<;>simp [ih]
theorem lineN_le (l:List UInt8) (k:Nat):lineN l k≤k:=by
 induction k with
 |zero=>exact Nat.le_refl _
 |succ k ih=>simp only [lineN];split<;>omega
theorem fromN_le (l:List UInt8) (k:Nat):fromN l k≤k:=by
 induction k with
 |zero=>exact Nat.le_refl _
 |succ k ih=>simp only [fromN];split<;>omega
theorem starts_last (l:List UInt8) (k:Nat):(starts l k)[lineN l k]? =some (fromN l k):=by
 induction k with
 |zero=>rfl
 |succ k ih=>
  simp only [starts,lineN,fromN]
  split
  ·rw [List.getElem?_append_right (by rw [starts_length];exact Nat.le_refl _),starts_length];simp
  ·exact ih
theorem drewB (w:World):Below w.heap.size w w.drew:=⟨rfl,rfl,rfl,Nat.le_refl _,fun _ _=>rfl⟩
end Go.Proofs.YtegdjjjpoahamaaGreatDoor
