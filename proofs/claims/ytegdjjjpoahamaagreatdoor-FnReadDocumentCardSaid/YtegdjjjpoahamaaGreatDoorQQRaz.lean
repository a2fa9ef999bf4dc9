/-
  Part of the proof of FnReadDocument.
-/
import Derived.Test.YtegdjjjpoahamaaGreatDoorQQRav
import Derived.Deep.DeepAppendRoom
import Derived.Deep.AppendLies
set_option linter.unusedVariables false
set_option maxHeartbeats 8000000
set_option maxRecDepth 100000
namespace Go.Proofs.YtegdjjjpoahamaaGreatDoor
open Go.RowKit
def KeptC (w:World) (base:Nat) (r:Option Nat) (u:Value) (l:List Cl):Prop:=
 ∀w':World,(∀b,base≤b→b<w.heap.size→r≠some b→w'.heap[b]? =w.heap[b]?)→w.heap.size≤w'.heap.size→RowC w' u l
theorem KeptC.nil {base:Nat} {r:Option Nat} {w:World}:KeptC w base r (.slice none 0 0) []:=fun w' _ _=>⟨none,0,rfl,agD _,by unfold maxLen;omega, .inl rfl⟩
theorem KeptC.keep {base:Nat} {r r1:Option Nat} {w w1:World} {u:Value} {l:List Cl} (h:KeptC w base r u l) (hw: ∀b,base≤b→b<w.heap.size→r≠some b→w1.heap[b]? =w.heap[b]?) (hs:w.heap.size≤w1.heap.size) (hr: ∀b,b<w.heap.size→r1=some b→r=some b):KeptC w1 base r1 u l:=
 fun w' h1 h2=>h w' (fun b hb Ab hn=>(h1 b hb (by omega) (fun e=>hn (hr b Ab e))).trans (hw b hb Ab hn)) (by omega)
theorem KeptC.row {base:Nat} {r:Option Nat} {w:World} {u:Value} {l:List Cl} (h:KeptC w base r u l):RowC w u l:=h w (fun _ _ _ _=>rfl) (agD _)
structure OwnG (w:World) (base:Nat) (v:Value) (us:List Value) (l:List It):Prop where
 row:w.ownsRow base 32 4 v l.length (itF l us)
 len:us.length=l.length
 each: ∀(k:Nat) (h:k<us.length) (h':k<l.length),KeptC w base v.ownBlock us[k] l[k].2.2.1
 is: ∃g c,v= .slice (some ⟨g,0,none⟩) l.length c
theorem OwnG.keep {w w1:World} {base:Nat} {v:Value} {us:List Value} {l:List It} (h:OwnG w base v us l) (hw: ∀b,base≤b→b<w.heap.size→w1.heap[b]? =w.heap[b]?) (hs:w.heap.size≤w1.heap.size):OwnG w1 base v us l:=
 ⟨dI h.row (fun g hg=>hw g (h.row.lt g hg).1 (h.row.lt g hg).2),h.len,fun k h1 h2=>(h.each k h1 h2).keep (fun b hb hl _=>hw b hb hl) hs (fun b _ e=>e),h.is⟩
theorem OwnG.grownR {w w':World} {base R:Nat} {v:Value} {us:List Value} {l:List It} (h:OwnG w base v us l) (hg:w.grownBy w' (some R)) (hR:R<base):OwnG w' base v us l:=
 h.keep (fun b hb Ab=>hg.block b Ab (fun e=>by cases e;omega)) hg.size
theorem OwnG.al {w:World} {base:Nat} {v:Value} {us:List Value} {l:List It} (h:OwnG w base v us l) (o:Obj):OwnG (w.alloc o) base v us l:=
 h.keep (fun b _ Ab=>Below.heap_alloc _ _ _ Ab) (by simp)
theorem OwnG.lower {w:World} {base base':Nat} {v:Value} {us:List Value} {l:List It} (h:OwnG w base v us l) (hb:base'≤base):OwnG w base' v us l:=
 ⟨bX h.row (fun g hg=>Nat.le_trans hb (h.row.lt g hg).1),h.len,fun k h1 h2 w' a b=>h.each k h1 h2 w' (fun x hx hl hn=>a x (by omega) hl hn) b,h.is⟩
theorem OwnG.reads {w:World} {base:Nat} {v:Value} {us:List Value} {l:List It} (h:OwnG w base v us l):RowIt w v l:=by
 obtain ⟨ao,cap,rfl⟩:=aN h.row;have hl:=h.len
 rcases h.row.2 with ⟨h1,h2⟩|⟨g,cp,cur,h1,hg,hh,Es,DS,_⟩
 ·injection h1 with e1 e2 e3
  subst e1;subst e3;exact ⟨none,0,rfl,by omega,by unfold maxLen;omega, .inl (List.length_eq_zero_iff.mp h2)⟩
 ·injection h1 with e1 e2 e3
  subst e1;subst e3;refine ⟨_,cap,rfl,Es,DS, .inr ⟨g,0,rfl,(h.row.lt g rfl).2,fun k hk=> ?_⟩⟩;obtain ⟨f0,f1,f2,f3⟩:=ac2 l us hl.symm k hk (by omega);refine ⟨us[k]'(by omega), ?_, ?_, ?_, ?_,(h.each k (by omega) hk).row⟩
  ·rw [Nat.zero_add,h.row.cellAt _ (by omega)];exact f0
  ·rw [Nat.zero_add,h.row.cellAt _ (by omega)];exact f1
  ·rw [Nat.zero_add,h.row.cellAt _ (by omega)];exact f2
  ·rw [Nat.zero_add,h.row.cellAt _ (by omega)];exact f3
theorem OwnG.join {w1 w2:World} {base gg c:Nat} {a:Value} {us us2:List Value} {l l2:List It} (h:OwnG w1 base a us l) (Df:us2.length=l2.length)
  (h2: ∀(k:Nat) (h1:k<us2.length) (h2:k<l2.length),KeptC w1 base a.ownBlock us2[k] l2[k].2.2.1) (Ac:w1.grownBy w2 a.ownBlock)
  (Be:w2.ownsRow base 32 4 (.slice (some ⟨gg,0,none⟩) (l.length+l2.length) c) (l.length+l2.length) (itF l us++itF l2 us2)) (Bc:a.ownBlock=some gg∨w1.heap.size≤gg):
  OwnG w2 base (.slice (some ⟨gg,0,none⟩) (l.length+l2.length) c) (us++us2) (l++l2):=by
 have hl:=h.len
 have hall: ∀(u:Value) (x:List Cl),KeptC w1 base a.ownBlock u x→KeptC w2 base (some gg) u x:=fun u x hk=>hk.keep (fun b hb Ab hn=>Ac.block b Ab (fun e=>hn e.symm)) Ac.size (fun b Ab e=>by
  injection e with e;subst e
  rcases Bc with Bc|Bc
  ·exact Bc
  ·omega)
 refine ⟨by rw [agE,oT l us l2 us2 (by omega)];exact Be,by simp [hl,Df], ?_,⟨gg,c,by rw [agE]⟩⟩;intro k h1 Oj;rw [agE] at h1 Oj
 show KeptC w2 base (some gg) _ _
 by_cases hk:k<us.length
 ·have e:(us++us2)[k]'(by rw [agE];omega)=us[k]:=List.getElem_append_left hk
  have e2:(l++l2)[k]'(by rw [agE];omega)=l[k]'(by omega):=List.getElem_append_left (by omega);rw [e,e2];exact hall _ _ (h.each k hk (by omega))
 ·have e:(us++us2)[k]'(by rw [agE];omega)=us2[k-us.length]'(by omega):=List.getElem_append_right (by omega)
  have e2:(l++l2)[k]'(by rw [agE];omega)=l2[k-us.length]'(by omega):=by
   rw [List.getElem_append_right (by omega)];congr 1;omega
  rw [e,e2];exact hall _ _ (h2 _ (by omega) (by omega))
theorem aes: ∀(l:List It) (us:List Value),(∀u∈us,u.oneCell'=true)→ ∀x∈itF l us,x.oneCell'=true:=by
 intro l
 induction l with
 |nil=>intro us _ x hx;cases hx
 |cons b l ih=>
  intro us hu x hx
  cases us with
  |nil=>cases hx
  |cons u us=>
   simp only [itF,List.mem_cons] at hx
   rcases hx with rfl|rfl|rfl|rfl|hx
   ·rfl
   ·rfl
   ·exact hu _ (List.mem_cons_self ..)
   ·rfl
   ·exact ih us (fun y hy=>hu y (List.mem_cons_of_mem _ hy)) x hx
theorem OwnG.one {w:World} {base:Nat} {v:Value} {us:List Value} {l:List It} (h:OwnG w base v us l): ∀x∈itF l us,x.oneCell'=true:=
 aes l us (fun u hu=>by
  obtain ⟨k,hk,rfl⟩:=List.getElem_of_mem hu;obtain ⟨a,c,e,-⟩:=(h.each k hk (by rw [←h.len];exact hk)).row
  rw [e];rfl)
theorem agt (w:World):OwnG (w.alloc (.cells #[] 32)) w.heap.size (.slice (some ⟨w.heap.size,0,none⟩) 0 0) [] []:=
 ⟨World.ownsRow_lit (e:=32) (size:=4) (base:=w.heap.size) w #[] 0 (agD _) (by unfold maxLen;omega) rfl,rfl,fun k h=>by simp at h,⟨_,_,rfl⟩⟩
theorem acL {w:World} {base:Nat} {k:Int} {n t:ByteArray} {u:Value} {x:List Cl} (hb:base≤w.heap.size) (hu:KeptC w base (some w.heap.size) u x):
  OwnG (w.alloc (.cells #[.int .i64 k, .string n,u, .string t] 32)) base (.slice (some ⟨w.heap.size,0,none⟩) 1 1) [u] [(k,n,x,t)]:=
 ⟨bX (World.ownsRow_lit (e:=32) (size:=4) (base:=w.heap.size) w #[.int .i64 k, .string n,u, .string t] 1 (agD _) (by unfold maxLen;omega) rfl) (fun g hg=>by
   have:g=w.heap.size:=by simpa [Value.ownBlock] using hg.symm
   omega),rfl,fun j h1 h2=>by
   obtain rfl:j=0:=by simpa using h1
   exact hu.keep (fun b _ hl _=>Below.heap_alloc _ _ _ hl) (by simp) (fun b hl e=>e),⟨_,_,rfl⟩⟩
theorem OwnG.later {w:World} {base base2:Nat} {r:Option Nat} {v:Value} {us:List Value} {l:List It} (h:OwnG w base2 v us l) (hb:base≤base2) (hr: ∀b,r=some b→b<base2):
  ∀(k:Nat) (h1:k<us.length) (h2:k<l.length),KeptC w base r us[k] l[k].2.2.1:=fun k h1 h2 w' a b=>
 h.each k h1 h2 w' (fun x hx hl hn=>a x (by omega) hl (fun e=>by have:=hr x e;omega)) b
theorem acM {w:World} {ops:Array Oper} {rest:List Oper} {o:Oper} {A:Act} {Q:Exit→Act→World→Prop} (Cq:o.guard=none) (s x:Operand)
  (ho:o.op= .call {callee:= .builtin .append,args:= #[s,x],argTypes:= #[23,23]})
  (base base2:Nat) (va vb:Value) (us us2:List Value) (l l2:List It) (hs:A.eval s=va) (hA:OwnG w base va us l) (hx:A.eval x=vb) (hB:OwnG w base2 vb us2 l2)
  (hk: ∀(k:Nat) (h1:k<us2.length) (h2:k<l2.length),KeptC w base va.ownBlock us2[k] l2[k].2.2.1) (Ai:l.length+l2.length≤1000) (Bx:base≤w.heap.size)
  (h: ∀v' w',OwnG w' base v' (us++us2) (l++l2)→w.grownBy w' va.ownBlock→(∀b,v'.ownBlock=some b→va.ownBlock=some b∨b=w.heap.size)→wpList Tryz.prog ops Q rest (A.put o.dst v') w'):wpList Tryz.prog ops Q (o::rest) A w:=by
 obtain ⟨i0,hi,Az,Ax,AC⟩:=info_parts wD;obtain ⟨g,c,rfl⟩:=hA.is;obtain ⟨g2,c2,rfl⟩:=hB.is;have Df:=hB.len
 by_cases hm:l2.length=0
 ·obtain rfl:l2=[]:=List.length_eq_zero_iff.mp hm
  obtain rfl:us2=[]:=List.length_eq_zero_iff.mp (by rw [Df];rfl)
  have JC:l.length≤c:=by
   rcases hA.row.2 with ⟨h1,-⟩|⟨g',cp,cur,h1,hg,hh,Es,DS,_⟩
   ·cases h1
   ·injection h1 with e1 e2 e3
    rw [e3];exact Es
  refine wpList_append_own_spare _ Cq s x 23 ho base 32 i0 4 Tryz.underlying23 hi Ax g l.length c (itF l us) hs hA.row ⟨g2,0,none⟩ 0 c2 [] hx rfl (fun j u hj=>by cases hj) (fun u hu=>by cases hu) JC ?_;intro w' Ad Ac;refine h _ w' ?_ Ac (fun b hb=> .inl hb);have:=hA.join (us2:=[]) (l2:=[]) (gg:=g) (c:=c) rfl (fun k h1=>by simp at h1) Ac (by simpa [itF] using Ad) (.inl rfl)
  simpa using this
 ·refine wpList_append_lies _ Cq s x 23 ho base 32 i0 (.agg #[.int .i64 0, .string ByteArray.empty, .slice none 0 0, .string ByteArray.empty]) 4 64 Tryz.underlying23 hi Az Ax AC rfl (by decide) _ l.length (itF l us) hs hA.row ⟨g2,0,none⟩ l2.length c2 (itF l2 us2) hx (oS l2 us2 Df.symm) ?_ hB.one (by omega) (by unfold maxLen;omega) (by omega) Bx w.heap.size rfl ?_
  ·intro j y hj
   have Ab:j<(itF l2 us2).length:=by
    by_cases hk:j<(itF l2 us2).length
    ·exact hk
    ·rw [List.getElem?_eq_none (by omega)] at hj;cases hj
   have:=oS l2 us2 Df.symm;rw [adR,hB.row.cellAt j (by omega)];exact hj
  ·intro gg c' w' Ad Ac Bc Ab
   exact h _ w' (hA.join Df hk Ac Ad (Bc.imp id (fun e=>by omega))) Ac (fun b hb=>by
    have e:gg=b:=by simpa [Value.ownBlock] using hb
    subst e;exact Bc)
def ItemsD (R p K C:Nat) (w:World) (e:Ending) (w':World):Prop:=
 ∃(v:Value) (us:List Value) (l:List It),e= .returned v∧OwnG w' w.heap.size v us l∧(∀i∈l,gH i)∧l.length≤C∧Rdm w' R (p+K)∧w.grownBy w' (some R)
theorem aet {l l2:List It} (h: ∀i∈l,gH i) (h2: ∀i∈l2,gH i): ∀i∈l++l2,gH i:=by
 intro x hx;rw [List.mem_append] at hx;exact hx.elim (h x) (h2 x)
theorem x6 {i:It} (h:gH i): ∀x∈[i],gH x:=by
 intro x hx;rw [List.mem_singleton] at hx;subst hx;exact h
theorem gA (k:Int) {t:ByteArray} (ht:t.size≤13):gH (k,t,[],⟨#[]⟩):=⟨ht,fun c hc=>(by cases hc),by simp,by show (0:Nat)≤61;omega⟩
theorem afM (m:Nat) (h:m<2): ∃t:ByteArray,t.size≤13∧(#[Value.string ⟨#[113]⟩, .string ⟨#[115]⟩]:Array Value)[m]? =some (.string t):=by
 match m,h with
 |0,_=>exact ⟨_,by decide,rfl⟩
 |1,_=>exact ⟨_,by decide,rfl⟩
structure AfD (w wr:World) (R q n:Nat) (v:Value) (us:List Value) (l:List It):Prop where
 own:OwnG wr w.heap.size v us l
 few: ∀i∈l,gH i
 len:l.length≤n
 rd:Rdm wr R q
 gr:w.grownBy wr (some R)
 lt:R<w.heap.size
section
variable {w wr w':World} {R q q' n n':Nat} {v:Value} {us:List Value} {l:List It}
theorem AfD.call (h:AfD w wr R q n v us l) (hr:Rdm w' R q') (hg:wr.grownBy w' (some R)):AfD w w' R q' n v us l:=
 ⟨h.own.grownR hg h.lt,h.few,h.len,hr,af h.gr hg,h.lt⟩
theorem AfD.more (h:AfD w wr R q n v us l) (hq:q≤q') (hn:n≤n'):AfD w wr R q' n' v us l:=⟨h.own,h.few,Nat.le_trans h.len hn,h.rd.mono hq,h.gr,h.lt⟩
theorem AfD.al (h:AfD w wr R q n v us l) (o:Obj):AfD w (wr.alloc o) R q n v us l:=
 ⟨h.own.al o,h.few,h.len,h.rd.kept (agF wr o none) (by simp),bq h.gr o,h.lt⟩
theorem AfD.blt (h:AfD w wr R q n v us l): ∀b,v.ownBlock=some b→b<wr.heap.size:=fun b hb=>(h.own.row.lt b hb).2
theorem AfD.lit (h:Rdm w R q) (hg:w.grownBy wr (some R)) (hr:Rdm wr R q'):AfD w (wr.alloc (.cells #[] 32)) R q' 0 (.slice (some ⟨wr.heap.size,0,none⟩) 0 0) [] []:=
 ⟨(agt wr).lower hg.size,fun i hi=>(by cases hi),agD _,hr.kept (agF wr _ none) (by simp),bq hg _,h.lt⟩
end
theorem x7 {w wr:World} {ops:Array Oper} {rest:List Oper} {o:Oper} {A:Act} {Q:Exit→Act→World→Prop} {R q n m base2:Nat} {va vb:Value} {us us2:List Value} {l l2:List It} (Cq:o.guard=none) (hA:AfD w wr R q n va us l) (s x:Operand)
  (ho:o.op= .call {callee:= .builtin .append,args:= #[s,x],argTypes:= #[23,23]}) (hs:A.eval s=va) (hx:A.eval x=vb)
  (hB:OwnG wr base2 vb us2 l2) (hk: ∀(k:Nat) (h1:k<us2.length) (h2:k<l2.length),KeptC wr w.heap.size va.ownBlock us2[k] l2[k].2.2.1) (hf: ∀i∈l2,gH i) (hm:n+l2.length≤m) (DZ:m≤1000)
  (h: ∀v' w' us' l',AfD w w' R q m v' us' l'→(∀b,v'.ownBlock=some b→va.ownBlock=some b∨b=wr.heap.size)→l'.length=l.length+l2.length→wr.grownBy w' va.ownBlock→wpList Tryz.prog ops Q rest (A.put o.dst v') w'):wpList Tryz.prog ops Q (o::rest) A wr:=by
 have hn:=hA.len
 refine acM Cq s x ho w.heap.size base2 va vb us us2 l l2 hs hA.own hx hB hk (by omega) hA.gr.size fun v' w' Gw hg Bc=> ?_
 exact h v' w' _ _ ⟨Gw,aet hA.few hf,by rw [agE];omega,hA.rd.kept hg (fun x hx=>by have:=(hA.own.row.lt x hx).1;have:=hA.lt;omega),dZ hA.gr hg (fun x hx=>(hA.own.row.lt x hx).1),hA.lt⟩ Bc (agE) hg
theorem rm {w wr:World} {ops:Array Oper} {rest:List Oper} {o:Oper} {A:Act} {Q:Exit→Act→World→Prop} {R q n B:Nat} {va:Value} {us:List Value} {l:List It} (Cq:o.guard=none) (hA:AfD w wr R q n va us l) (s x:Operand)
  (ho:o.op= .call {callee:= .builtin .append,args:= #[s,x],argTypes:= #[23,23]}) {k:Int} {nm t:ByteArray} {u:Value} {c:List Cl} (hs:A.eval s=va) (hx:A.eval x= .slice (some ⟨wr.heap.size,0,none⟩) 1 1)
  (hu:KeptC wr B (some wr.heap.size) u c) (hf:gH (k,nm,c,t)) (PP:w.heap.size≤B) (hB:B≤wr.heap.size) (Ab: ∀b,va.ownBlock=some b→b<B) (hm:n<1000)
  (h: ∀v' w' us' l',AfD w w' R q (n+1) v' us' l'→(∀b,v'.ownBlock=some b→va.ownBlock=some b∨b=wr.heap.size+1)→l'.length=l.length+1→wr.grownBy w' va.ownBlock→wpList Tryz.prog ops Q rest (A.put o.dst v') w'):
  wpList Tryz.prog ops Q (o::rest) A (wr.alloc (.cells #[.int .i64 k, .string nm,u, .string t] 32)):=by
 have hL:=acL (w:=wr) (k:=k) (n:=nm) (t:=t) hB hu;exact x7 Cq (hA.al _) s x ho hs hx hL (hL.later PP Ab) (x6 hf) (agD _) (by simp;omega) (fun v' w' us' l' a b c g=>h v' w' us' l' a (by simpa using b) (by simpa using c) (af (agF wr _ _) g))
theorem mE {w wr:World} {ops:Array Oper} {rest:List Oper} {o:Oper} {A:Act} {Q:Exit→Act→World→Prop} {R q n:Nat} {va:Value} {us:List Value} {l:List It} (Cq:o.guard=none) (hA:AfD w wr R q n va us l) (s x:Operand)
  (ho:o.op= .call {callee:= .builtin .append,args:= #[s,x],argTypes:= #[23,23]}) {k:Int} {nm:ByteArray} (hs:A.eval s=va) (hx:A.eval x= .slice (some ⟨wr.heap.size,0,none⟩) 1 1)
  (hf:nm.size≤13) (hm:n<1000)
  (h: ∀v' w' us' l',AfD w w' R q (n+1) v' us' l'→(∀b,v'.ownBlock=some b→va.ownBlock=some b∨b=wr.heap.size+1)→l'.length=l.length+1→wr.grownBy w' va.ownBlock→wpList Tryz.prog ops Q rest (A.put o.dst v') w'):
  wpList Tryz.prog ops Q (o::rest) A (wr.alloc (.cells #[.int .i64 k, .string nm, .slice none 0 0, .string ⟨#[]⟩] 32)):=
 rm Cq hA s x ho hs hx KeptC.nil (gA k hf) hA.gr.size (agD _) hA.blt hm h
theorem rp {w wr:World} {ops:Array Oper} {rest:List Oper} {o:Oper} {A:Act} {Q:Exit→Act→World→Prop} {R q n B:Nat} {va:Value} {us:List Value} {l:List It} (Cq:o.guard=none) (hA:AfD w wr R q n va us l) (s x:Operand)
  (ho:o.op= .call {callee:= .builtin .append,args:= #[s,x],argTypes:= #[23,23]}) {k:Int} {nm t:ByteArray} {u:Value} {c:List Cl} (hs:A.eval s= .slice (some ⟨wr.heap.size,0,none⟩) 1 1) (hx:A.eval x=va)
  (hu:KeptC wr B (some wr.heap.size) u c) (hf:gH (k,nm,c,t)) (PP:w.heap.size≤B) (hB:B≤wr.heap.size) (hm:n<1000)
  (h: ∀v' w' us' l',AfD w w' R q (n+1) v' us' l'→(∀b,v'.ownBlock=some b→b=wr.heap.size∨b=wr.heap.size+1)→l'.length=l.length+1→wr.grownBy w' none→wpList Tryz.prog ops Q rest (A.put o.dst v') w'):
  wpList Tryz.prog ops Q (o::rest) A (wr.alloc (.cells #[.int .i64 k, .string nm,u, .string t] 32)):=by
 have hL:=(acL (w:=wr) (k:=k) (n:=nm) (t:=t) hB hu).lower PP;have Nw:=hA.al (.cells #[.int .i64 k, .string nm,u, .string t] 32)
 have hl:([(k,nm,c,t)]:List It).length+l.length≤n+1:=by have:=hA.len;simp;omega
 refine x7 (m:=n+1) Cq ⟨hL,x6 hf,agD _,Nw.rd,Nw.gr,Nw.lt⟩ s x ho hs hx Nw.own (fun j h1 h2=>(hA.own.each j h1 h2).keep (fun b _ hl _=>Below.heap_alloc _ _ _ hl) (by simp) (fun b hl e=>by have e:=Option.some.inj (show some wr.heap.size=some b from e);omega)) hA.few (by have:=hA.len;simp;omega) (by omega) (fun v' w' us' l' a b c g=>h v' w' us' l' a (fun x hx=>by
  rcases b x hx with e|e
  ·exact .inl (Option.some.inj (show some wr.heap.size=some x from e)).symm
  ·exact .inr (by simpa using e)) (by simpa [Nat.add_comm] using c) ⟨g.os,g.tape,g.output,by have:=g.size;simp at this;omega,fun i hi _=>(g.block i (by simp;omega) (fun e=>by have e:=Option.some.inj (show some i=some wr.heap.size from e);omega)).trans (Below.heap_alloc _ _ _ hi)⟩)
theorem ItemsD.of {w w':World} {R p K C q n:Nat} {v:Value} {us:List Value} {l:List It} (h:AfD w w' R q n v us l) (hq:q≤p+K) (hn:n≤C):ItemsD R p K C w (.returned v) w':=
 ⟨v,us,l,rfl,h.own,h.few,Nat.le_trans h.len hn,h.rd.mono hq,h.gr⟩
theorem kX (deep K' C':Nat) (hd:deep≤3) (VV:K'≤1000000) (VW:C'≤60) (ih:1<deep→ ∀(R p:Nat) (w:World),p+K'<50000000→Rdm w R p→Calls Tryz.prog 126 #[.pointer (some ⟨R,0,none⟩), .int .i64 ((deep-1:Nat):Int)] w (ItemsD R p K' C' w))
  (R p:Nat) (w:World) (hp:p+(1+4*(3002+K'))<50000000) (h:Rdm w R p):
  Calls Tryz.prog 126 #[.pointer (some ⟨R,0,none⟩), .int .i64 (deep:Int)] w (ItemsD R p (1+4*(3002+K')) (4*(2+C')) w):=by
 have Di:=agC ih;clear ih;have A0:=agC (AfD.lit h (World.grownBy.refl _ _) h);clear h
 obtain ⟨S,hS⟩: ∃S,S=3002+K':=⟨_,rfl⟩
 obtain ⟨M,hM⟩: ∃M,M=2+C':=⟨_,rfl⟩
 rw [←hS] at hp;rw [←hS,←hM]
 go_enter Tryz.func126,Tryz.ntmps126
 go_wp2_with fail;refine (aj R p 5 _ (by omega) A0.out.rd).mono ?_;rintro e w1 ⟨m,rfl,GJ,Co,-,Ck,hg1,-⟩;have DZ:=Co (by omega);obtain ⟨m1,rfl⟩:=agG GJ;have A1:=agC (A0.out.call Ck hg1);have PJ:=agC (show m1≤4 by omega);clear Co hg1 Ck DZ GJ;go_wp2_with fail
 go_loopw [5,6] (fun a i wr=> ∃(k:Nat) (us:List Value) (l:List It) (q n:Nat),k≤4∧i= .int .i64 (k:Int)∧AfD w wr R q n a us l∧n+k*M≤4*M∧q+k*S≤p+(1+4*S)) (fun _ i _=>(intOf i).toNat)
 case atStart=>exact ⟨m1,[],[],p+1,0,PJ.out,rfl,A1.out,by have:=Nat.mul_le_mul_right M PJ.out;omega,by have:=Nat.mul_le_mul_right S PJ.out;omega⟩
 case round=>
  obtain ⟨k,us,l,q,n,hk,rfl,hA,PN,Ox⟩:=hrel;have HA:=agC hA;obtain ⟨ag,Lg,rfl⟩:=hA.own.is;clear hA
  by_cases Bo:k=0
  ·subst Bo
   go_wp2;go_ret;exact ItemsD.of HA.out (by omega) (by omega)
  ·have Ld:(0:Int)<(k:Int):=by omega
   have KH:IntKind.i64.wrap ((k:Int)-1)=((k-1:Nat):Int):=by rw [IntWalk.i64_in _ (by omega)];omega
   obtain ⟨j,rfl⟩: ∃j,k=j+1:=⟨k-1,by omega⟩
   rw [Nat.succ_mul] at PN Ox
   by_cases DD: ∃w2,deep≤1∧w2=wr
   case' pos=>
    obtain ⟨w2,hd1,Fl⟩:=DD
    have Un: ¬(1:Int)<(deep:Int):=by omega
    have A2:=agC (show AfD w w2 R (q+1) n (.slice (some ⟨ag,0,none⟩) l.length Lg) us l by rw [Fl];exact HA.out.more (by omega) (agD _));subst Fl
   case' neg=>
    have Mx:1<deep:=by
     by_cases Mx:1<deep
     ·exact Mx
     ·exact absurd ⟨wr,by omega,rfl⟩ DD
    have Un:(1:Int)<(deep:Int):=by omega
    have PK:IntKind.i64.wrap ((deep:Int)-1)=((deep-1:Nat):Int):=by rw [IntWalk.i64_in _ (by omega)];omega
    clear DD;go_wp2_with fail;refine (aj R q 4 _ (by omega) HA.out.rd).mono ?_;rintro e w2 ⟨x,rfl,DH,Cw,-,AM,hg2,-⟩;have A2:=agC (HA.out.call AM hg2);clear Cw AM hg2
    by_cases hx:x=0
    case' neg=>have Qv:(x==0)=false:=beq_eq_false_iff_ne.mpr hx
    case pos=>
     subst hx;go_wp2_with fail;refine (aj R (q+1) 2 _ (by omega) (A2.out.rd.kept (agF w2 _ none) (by simp))).mono ?_;rintro e w3 ⟨y,rfl,Fo,EU,-,AR,AF,-⟩;have Lb:=EU (by omega);obtain ⟨y1,rfl⟩:=agG Fo;obtain ⟨t,ht,Aq⟩:=afM y1 (by omega);have PL:=cX A2.out.rd.lt AF Aq;have A3:=agC ((A2.out.al _).call AR AF);clear EU AR AF Aq
     go_wp2_with (at_builtin;refine mE rfl A3.out _ _ rfl rfl rfl ht (by omega) ?_;rintro v4 w4 u4 l4 a4- - -;have A4:=agC a4;obtain ⟨g4,c4,rfl⟩:=a4.own.is;clear a4)
     (try go_wp2_with fail)
     refine (Di.out Mx R (q+1+1) _ (by omega) A4.out.rd).mono ?_;rintro e w5 ⟨v5,U5,L5,rfl,DK,Rz,PO,Bh,AS⟩;obtain ⟨g5,c5,rfl⟩:=DK.is;have O5:=agC DK;have A5:=agC (A4.out.call Bh AS);have F5:=agC Rz;have K5:=agC (DK.later A4.out.gr.size A4.out.blt);clear DK Rz Bh AS
     go_wp2_with ((first
      |(at_builtin;refine mE rfl A6.out _ _ rfl rfl rfl (by decide) (by omega) ?_;rintro v8 w8 u8 l8 a8- - -;have A8:=agC a8;obtain ⟨g8,c8,rfl⟩:=a8.own.is;clear a8)
      |(at_builtin;refine x7 (m:=n+1+C') rfl A5.out _ _ rfl rfl rfl O5.out K5.out F5.out (by omega) (by omega) ?_;rintro v6 w6 u6 l6 a6- - -;have A6:=agC a6;obtain ⟨g6,c6,rfl⟩:=a6.own.is;clear a6)))
     go_wp2;go_roundw
     case rel=>exact ⟨j,_,_,_,_,by omega,by first|rw [KH]|go_num,A8.out,by omega,by omega⟩
     case measure=>simp [intOf]<;>omega
   all_goals
    (try go_wp2_with fail)
    refine (oj R (q+1) 0 _ (by omega) (by omega) (by omega) A2.out.rd).mono ?_;rintro e w7 ⟨i7,au,ac,rfl,I7,Km,EI,FA⟩;obtain ⟨ik,inm,ics,int⟩:=i7;have BL:=agC A2.out.blt;have A7:=agC (A2.out.call EI FA);have F7:=agC Km;have K7:=agC (show KeptC w7 w2.heap.size (some w7.heap.size) (.slice au ics.length ac) ics from fun w' h1 h2=>I7 w' (fun b hb hl=>h1 b hb hl (fun e=>by injection e with e;omega)) h2);have Gq:w2.heap.size≤w7.heap.size:=FA.size;have PM:w.heap.size≤w2.heap.size:=A2.out.gr.size;clear I7 Km EI FA
    go_wp2_with (at_builtin;refine rm rfl A7.out _ _ rfl rfl rfl K7.out F7.out PM Gq BL.out (by omega) ?_;rintro v8 w8 u8 l8 a8- - -;have A8:=agC a8;obtain ⟨g8,c8,rfl⟩:=a8.own.is;clear a8)
    go_wp2;go_roundw
    case rel=>exact ⟨j,_,_,_,_,by omega,by first|rw [KH]|go_num,A8.out,by omega,by omega⟩
    case measure=>simp [intOf]<;>omega
theorem aae (R p:Nat) (w:World) (hp:p+300000<40000000) (h:Rdm w R p):
  Calls Tryz.prog 126 #[.pointer (some ⟨R,0,none⟩), .int .i64 3] w (ItemsD R p 300000 200 w):=by
 have h1:=kX 1 0 0 (by omega) (by omega) (by omega) (fun h=>absurd h (by omega));have h2:=kX 2 (1+4*(3002+0)) (4*(2+0)) (by omega) (by omega) (by omega) (fun _ R p w hp hr=>h1 R p w hp hr);have h3:=kX 3 (1+4*(3002+(1+4*(3002+0)))) (4*(2+4*(2+0))) (by omega) (by omega) (by omega) (fun _ R p w hp hr=>h2 R p w hp hr);refine (h3 R p w (by omega) h).mono ?_;rintro e w' ⟨v,us,l,he,ho,hf,hl,hr,hg⟩;exact ⟨v,us,l,he,ho,hf,by omega,hr.mono (by omega),hg⟩
end Go.Proofs.YtegdjjjpoahamaaGreatDoor
