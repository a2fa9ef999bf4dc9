/-
  Part of the proof of FnPrintDocument.
-/
import Derived.Test.YthijkjnngfnfdaaGreatDoorPDrawItem
import Derived.Deep.DeepAppendRoom
import Derived.Deep.AppendLies
set_option linter.unusedVariables false
set_option maxHeartbeats 8000000
set_option maxRecDepth 100000
namespace Go.Proofs.YthijkjnngfnfdaaGreatDoor
open Go.RowKit
def KeptC (w:World) (base:Nat) (r:Option Nat) (u:Value) (l:List Cl):Prop:=
 ∀w':World,(∀b,base≤b→b<w.heap.size→r≠some b→w'.heap[b]? =w.heap[b]?)→w.heap.size≤w'.heap.size→RowC w' u l
theorem KeptC.nil {base:Nat} {r:Option Nat} {w:World}:KeptC w base r (.slice none 0 0) []:=fun w' _ _=>⟨none,0,rfl,ain _,by unfold maxLen;omega, .inl rfl⟩
theorem KeptC.keep {base:Nat} {r r1:Option Nat} {w w1:World} {u:Value} {l:List Cl} (h:KeptC w base r u l) (hw: ∀b,base≤b→b<w.heap.size→r≠some b→w1.heap[b]? =w.heap[b]?) (hs:w.heap.size≤w1.heap.size) (hr: ∀b,b<w.heap.size→r1=some b→r=some b):KeptC w1 base r1 u l:=
 fun w' h1 h2=>h w' (fun b hb hlt hn=>(h1 b hb (by omega) (fun e=>hn (hr b hlt e))).trans (hw b hb hlt hn)) (by omega)
theorem KeptC.row {base:Nat} {r:Option Nat} {w:World} {u:Value} {l:List Cl} (h:KeptC w base r u l):RowC w u l:=h w (fun _ _ _ _=>rfl) (ain _)
structure OwnG (w:World) (base:Nat) (v:Value) (us:List Value) (l:List It):Prop where
 row:w.ownsRow base 25 4 v l.length (itF l us)
 len:us.length=l.length
 each: ∀(k:Nat) (h:k<us.length) (h':k<l.length),KeptC w base v.ownBlock us[k] l[k].2.2.1
 is: ∃g c,v= .slice (some ⟨g,0,none⟩) l.length c
theorem OwnG.keep {w w1:World} {base:Nat} {v:Value} {us:List Value} {l:List It} (h:OwnG w base v us l) (hw: ∀b,base≤b→b<w.heap.size→w1.heap[b]? =w.heap[b]?) (hs:w.heap.size≤w1.heap.size):OwnG w1 base v us l:=
 ⟨dJ h.row (fun g hg=>hw g (h.row.lt g hg).1 (h.row.lt g hg).2),h.len,fun k h1 h2=>(h.each k h1 h2).keep (fun b hb hl _=>hw b hb hl) hs (fun b _ e=>e),h.is⟩
theorem OwnG.grownR {w w':World} {base R:Nat} {v:Value} {us:List Value} {l:List It} (h:OwnG w base v us l) (hg:w.grownBy w' (some R)) (hR:R<base):OwnG w' base v us l:=
 h.keep (fun b hb hlt=>hg.block b hlt (fun e=>by cases e;omega)) hg.size
theorem OwnG.al {w:World} {base:Nat} {v:Value} {us:List Value} {l:List It} (h:OwnG w base v us l) (o:Obj):OwnG (w.alloc o) base v us l:=
 h.keep (fun b _ hlt=>Below.heap_alloc _ _ _ hlt) (by simp)
theorem OwnG.lower {w:World} {base base':Nat} {v:Value} {us:List Value} {l:List It} (h:OwnG w base v us l) (hb:base'≤base):OwnG w base' v us l:=
 ⟨ba h.row (fun g hg=>Nat.le_trans hb (h.row.lt g hg).1),h.len,fun k h1 h2 w' a b=>h.each k h1 h2 w' (fun x hx hl hn=>a x (by omega) hl hn) b,h.is⟩
theorem OwnG.reads {w:World} {base:Nat} {v:Value} {us:List Value} {l:List It} (h:OwnG w base v us l):RowIt w v l:=by
 obtain ⟨ao,cap,rfl⟩:=ai h.row;have hl:=h.len
 rcases h.row.2 with ⟨h1,h2⟩|⟨g,cp,cur,h1,hg,hh,hc1,hc2,_⟩
 ·injection h1 with e1 e2 e3
  subst e1;subst e3;exact ⟨none,0,rfl,by omega,by unfold maxLen;omega, .inl (List.length_eq_zero_iff.mp h2)⟩
 ·injection h1 with e1 e2 e3
  subst e1;subst e3;refine ⟨_,cap,rfl,hc1,hc2, .inr ⟨g,0,rfl,(h.row.lt g rfl).2,fun k hk=> ?_⟩⟩;obtain ⟨f0,f1,f2,f3⟩:=xp l us hl.symm k hk (by omega);refine ⟨us[k]'(by omega), ?_, ?_, ?_, ?_,(h.each k (by omega) hk).row⟩
  ·rw [Nat.zero_add,h.row.cellAt _ (by omega)];exact f0
  ·rw [Nat.zero_add,h.row.cellAt _ (by omega)];exact f1
  ·rw [Nat.zero_add,h.row.cellAt _ (by omega)];exact f2
  ·rw [Nat.zero_add,h.row.cellAt _ (by omega)];exact f3
theorem OwnG.join {w1 w2:World} {base gg c:Nat} {a:Value} {us us2:List Value} {l l2:List It} (h:OwnG w1 base a us l) (hl2:us2.length=l2.length)
  (h2: ∀(k:Nat) (h1:k<us2.length) (h2:k<l2.length),KeptC w1 base a.ownBlock us2[k] l2[k].2.2.1) (hgrow:w1.grownBy w2 a.ownBlock)
  (hrow:w2.ownsRow base 25 4 (.slice (some ⟨gg,0,none⟩) (l.length+l2.length) c) (l.length+l2.length) (itF l us++itF l2 us2)) (hat:a.ownBlock=some gg∨w1.heap.size≤gg):
  OwnG w2 base (.slice (some ⟨gg,0,none⟩) (l.length+l2.length) c) (us++us2) (l++l2):=by
 have hl:=h.len
 have hall: ∀(u:Value) (x:List Cl),KeptC w1 base a.ownBlock u x→KeptC w2 base (some gg) u x:=fun u x hk=>hk.keep (fun b hb hlt hn=>hgrow.block b hlt (fun e=>hn e.symm)) hgrow.size (fun b hlt e=>by
  injection e with e;subst e
  rcases hat with hat|hat
  ·exact hat
  ·omega)
 refine ⟨by rw [aio,mj l us l2 us2 (by omega)];exact hrow,by simp [hl,hl2], ?_,⟨gg,c,by rw [aio]⟩⟩;intro k h1 h1';rw [aio] at h1 h1'
 show KeptC w2 base (some gg) _ _
 by_cases hk:k<us.length
 ·have e:(us++us2)[k]'(by rw [aio];omega)=us[k]:=List.getElem_append_left hk
  have e2:(l++l2)[k]'(by rw [aio];omega)=l[k]'(by omega):=List.getElem_append_left (by omega);rw [e,e2];exact hall _ _ (h.each k hk (by omega))
 ·have e:(us++us2)[k]'(by rw [aio];omega)=us2[k-us.length]'(by omega):=List.getElem_append_right (by omega)
  have e2:(l++l2)[k]'(by rw [aio];omega)=l2[k-us.length]'(by omega):=by
   rw [List.getElem_append_right (by omega)];congr 1;omega
  rw [e,e2];exact hall _ _ (h2 _ (by omega) (by omega))
theorem afH: ∀(l:List It) (us:List Value),(∀u∈us,u.oneCell'=true)→ ∀x∈itF l us,x.oneCell'=true:=by
 intro l
 induction l with
 |nil=>intro us _ x hx;cases hx
 |cons b l ih=>
  intro us hu x hx
  cases us with
  |nil=>cases hx
  |cons u us=>
   simp only [itF,List.mem_cons] at hx
   rcases hx with rfl|rfl|rfl|rfl|hx
   ·rfl
   ·rfl
   ·exact hu _ (List.mem_cons_self ..)
   ·rfl
   ·exact ih us (fun y hy=>hu y (List.mem_cons_of_mem _ hy)) x hx
theorem OwnG.one {w:World} {base:Nat} {v:Value} {us:List Value} {l:List It} (h:OwnG w base v us l): ∀x∈itF l us,x.oneCell'=true:=
 afH l us (fun u hu=>by
  obtain ⟨k,hk,rfl⟩:=List.getElem_of_mem hu;obtain ⟨a,c,e,-⟩:=(h.each k hk (by rw [←h.len];exact hk)).row
  rw [e];rfl)
theorem adH (w:World):OwnG (w.alloc (.cells #[] 25)) w.heap.size (.slice (some ⟨w.heap.size,0,none⟩) 0 0) [] []:=
 ⟨World.ownsRow_lit (e:=25) (size:=4) (base:=w.heap.size) w #[] 0 (ain _) (by unfold maxLen;omega) rfl,rfl,fun k h=>by simp at h,⟨_,_,rfl⟩⟩
theorem bF {w:World} {base:Nat} {k:Int} {n t:ByteArray} {u:Value} {x:List Cl} (hb:base≤w.heap.size) (hu:KeptC w base (some w.heap.size) u x):
  OwnG (w.alloc (.cells #[.int .i64 k, .string n,u, .string t] 25)) base (.slice (some ⟨w.heap.size,0,none⟩) 1 1) [u] [(k,n,x,t)]:=
 ⟨ba (World.ownsRow_lit (e:=25) (size:=4) (base:=w.heap.size) w #[.int .i64 k, .string n,u, .string t] 1 (ain _) (by unfold maxLen;omega) rfl) (fun g hg=>by
   have:g=w.heap.size:=by simpa [Value.ownBlock] using hg.symm
   omega),rfl,fun j h1 h2=>by
   obtain rfl:j=0:=by simpa using h1
   exact hu.keep (fun b _ hl _=>Below.heap_alloc _ _ _ hl) (by simp) (fun b hl e=>e),⟨_,_,rfl⟩⟩
theorem OwnG.later {w:World} {base base2:Nat} {r:Option Nat} {v:Value} {us:List Value} {l:List It} (h:OwnG w base2 v us l) (hb:base≤base2) (hr: ∀b,r=some b→b<base2):
  ∀(k:Nat) (h1:k<us.length) (h2:k<l.length),KeptC w base r us[k] l[k].2.2.1:=fun k h1 h2 w' a b=>
 h.each k h1 h2 w' (fun x hx hl hn=>a x (by omega) hl (fun e=>by have:=hr x e;omega)) b
theorem cj {w:World} {ops:Array Oper} {rest:List Oper} {o:Oper} {A:Act} {Q:Exit→Act→World→Prop} (hgd:o.guard=none) (s x:Operand)
  (ho:o.op= .call {callee:= .builtin .append,args:= #[s,x],argTypes:= #[36,36]})
  (base base2:Nat) (va vb:Value) (us us2:List Value) (l l2:List It) (hs:A.eval s=va) (hA:OwnG w base va us l) (hx:A.eval x=vb) (hB:OwnG w base2 vb us2 l2)
  (hk: ∀(k:Nat) (h1:k<us2.length) (h2:k<l2.length),KeptC w base va.ownBlock us2[k] l2[k].2.2.1) (hlen:l.length+l2.length≤1000) (hbase:base≤w.heap.size)
  (h: ∀v' w',OwnG w' base v' (us++us2) (l++l2)→w.grownBy w' va.ownBlock→(∀b,v'.ownBlock=some b→va.ownBlock=some b∨b=w.heap.size)→wpList Tryz.prog ops Q rest (A.put o.dst v') w'):wpList Tryz.prog ops Q (o::rest) A w:=by
 obtain ⟨i0,hi,hz0,hz1,hz2⟩:=info_parts oa;obtain ⟨g,c,rfl⟩:=hA.is;obtain ⟨g2,c2,rfl⟩:=hB.is;have hl2:=hB.len
 by_cases hm:l2.length=0
 ·obtain rfl:l2=[]:=List.length_eq_zero_iff.mp hm
  obtain rfl:us2=[]:=List.length_eq_zero_iff.mp (by rw [hl2];rfl)
  have hcap:l.length≤c:=by
   rcases hA.row.2 with ⟨h1,-⟩|⟨g',cp,cur,h1,hg,hh,hc1,hc2,_⟩
   ·cases h1
   ·injection h1 with e1 e2 e3
    rw [e3];exact hc1
  refine wpList_append_own_spare _ hgd s x 36 ho base 25 i0 4 Tryz.underlying36 hi hz1 g l.length c (itF l us) hs hA.row ⟨g2,0,none⟩ 0 c2 [] hx rfl (fun j u hj=>by cases hj) (fun u hu=>by cases hu) hcap ?_;intro w' hown hgrow;refine h _ w' ?_ hgrow (fun b hb=> .inl hb);have:=hA.join (us2:=[]) (l2:=[]) (gg:=g) (c:=c) rfl (fun k h1=>by simp at h1) hgrow (by simpa [itF] using hown) (.inl rfl)
  simpa using this
 ·refine wpList_append_lies _ hgd s x 36 ho base 25 i0 (.agg #[.int .i64 0, .string ByteArray.empty, .slice none 0 0, .string ByteArray.empty]) 4 64 Tryz.underlying36 hi hz0 hz1 hz2 rfl (by decide) _ l.length (itF l us) hs hA.row ⟨g2,0,none⟩ l2.length c2 (itF l2 us2) hx (mi l2 us2 hl2.symm) ?_ hB.one (by omega) (by unfold maxLen;omega) (by omega) hbase w.heap.size rfl ?_
  ·intro j y hj
   have hlt:j<(itF l2 us2).length:=by
    by_cases hk:j<(itF l2 us2).length
    ·exact hk
    ·rw [List.getElem?_eq_none (by omega)] at hj;cases hj
   have:=mi l2 us2 hl2.symm;rw [agr,hB.row.cellAt j (by omega)];exact hj
  ·intro gg c' w' hown hgrow hat hlt
   exact h _ w' (hA.join hl2 hk hgrow hown (hat.imp id (fun e=>by omega))) hgrow (fun b hb=>by
    have e:gg=b:=by simpa [Value.ownBlock] using hb
    subst e;exact hat)
def xN (R p K C:Nat) (w:World) (e:Ending) (w':World):Prop:=
 ∃(v:Value) (us:List Value) (l:List It),e= .returned v∧OwnG w' w.heap.size v us l∧(∀i∈l,dT i)∧l.length≤C∧Rdm w' R (p+K)∧w.grownBy w' (some R)
theorem cR {l l2:List It} (h: ∀i∈l,dT i) (h2: ∀i∈l2,dT i): ∀i∈l++l2,dT i:=by
 intro x hx;rw [List.mem_append] at hx;exact hx.elim (h x) (h2 x)
theorem dt {i:It} (h:dT i): ∀x∈[i],dT x:=by
 intro x hx;rw [List.mem_singleton] at hx;subst hx;exact h
theorem co (k:Int) {t:ByteArray} (ht:t.size≤13):dT (k,t,[],⟨#[]⟩):=⟨ht,fun c hc=>(by cases hc),by simp,by show (0:Nat)≤61;omega⟩
theorem ahg (m:Nat) (h:m<2): ∃t:ByteArray,t.size≤13∧(#[Value.string ⟨#[113]⟩, .string ⟨#[115]⟩]:Array Value)[m]? =some (.string t):=by
 match m,h with
 |0,_=>exact ⟨_,by decide,rfl⟩
 |1,_=>exact ⟨_,by decide,rfl⟩
theorem ms (deep K' C':Nat) (hd:deep≤3) (hK':K'≤1000000) (hC':C'≤60) (ih:1<deep→ ∀(R p:Nat) (w:World),p+K'<50000000→Rdm w R p→Calls Tryz.prog 150 #[.pointer (some ⟨R,0,none⟩), .int .i64 ((deep-1:Nat):Int)] w (xN R p K' C' w))
  (R p:Nat) (w:World) (hp:p+(1+4*(3002+K'))<50000000) (h:Rdm w R p):
  Calls Tryz.prog 150 #[.pointer (some ⟨R,0,none⟩), .int .i64 (deep:Int)] w (xN R p (1+4*(3002+K')) (4*(2+C')) w):=by
 have HLT:=aim h.lt;have HIH:=aim ih;clear ih;have HO0:=aim (adH w);have HR0:=aim (h.kept (aip w (.cells #[] 25) none) (by simp));have HG0:=aim (aip w (.cells #[] 25) (some R));clear h
 obtain ⟨S,hS⟩: ∃S,S=3002+K':=⟨_,rfl⟩
 obtain ⟨M,hM⟩: ∃M,M=2+C':=⟨_,rfl⟩
 rw [←hS] at hp;rw [←hS,←hM]
 go_enter Tryz.func150,Tryz.ntmps150
 go_wp2_with fail;refine (ah R p 5 _ (by omega) HR0.out).mono ?_;rintro e w1 ⟨m,rfl,hm0,hm1,-,hr1,hg1,-⟩;have hm2:=hm1 (by omega);obtain ⟨m1,rfl⟩:=aiq hm0;have HO1:=aim (HO0.out.grownR hg1 HLT.out);have HG1:=aim (ab HG0.out hg1);have HR1:=aim hr1;have HM4:=aim (show m1≤4 by omega);clear hm1 hg1 hr1 hm2 hm0;go_wp2_with fail
 go_loopw [5,6] (fun a i wr=> ∃(k:Nat) (us:List Value) (l:List It) (q:Nat),k≤4∧i= .int .i64 (k:Int)∧OwnG wr w.heap.size a us l∧(∀x∈l,dT x)∧l.length+k*M≤4*M∧q+k*S≤p+(1+4*S)∧Rdm wr R q∧w.grownBy wr (some R)) (fun _ i _=>(intOf i).toNat)
 case atStart=>exact ⟨m1,[],[],p+1,HM4.out,rfl,HO1.out,fun x hx=>by simp at hx,by have:=Nat.mul_le_mul_right M HM4.out;simp;omega,by have:=Nat.mul_le_mul_right S HM4.out;omega,HR1.out,HG1.out⟩
 case round=>
  obtain ⟨k,us,l,q,hk,rfl,hown,hfew,hlm,hqs,hr,hg⟩:=hrel;have HO:=aim hown;have HF:=aim hfew;have HR:=aim hr;have HG:=aim hg;clear hown hfew hr hg;obtain ⟨ag,ac0,rfl⟩:=HO.out.is
  by_cases hk0:k=0
  ·subst hk0
   go_wp2;go_ret;exact ⟨_,us,l,rfl,HO.out,HF.out,by omega,HR.out.mono (by omega),HG.out⟩
  ·have hkI:(0:Int)<(k:Int):=by omega
   have hwk:IntKind.i64.wrap ((k:Int)-1)=((k-1:Nat):Int):=by rw [IntWalk.i64_in _ (by omega)];omega
   have hm1':k*M=(k-1)*M+M:=by
    obtain ⟨j,rfl⟩: ∃j,k=j+1:=⟨k-1,by omega⟩
    rw [Nat.succ_mul];rfl
   have hs1':k*S=(k-1)*S+S:=by
    obtain ⟨j,rfl⟩: ∃j,k=j+1:=⟨k-1,by omega⟩
    rw [Nat.succ_mul];rfl
   rw [hm1'] at hlm;rw [hs1'] at hqs;clear hm1' hs1'
   by_cases hdp:1<deep
   ·have hdI:(1:Int)<(deep:Int):=by omega
    have hwd:IntKind.i64.wrap ((deep:Int)-1)=((deep-1:Nat):Int):=by rw [IntWalk.i64_in _ (by omega)];omega
    go_wp2_with fail;refine (ah R q 4 _ (by omega) HR.out).mono ?_;rintro e w2 ⟨x,rfl,hx0,hx1,-,hr2,hg2,-⟩;have HO2:=aim (HO.out.grownR hg2 HLT.out);have HG2:=aim (ab HG.out hg2);have HR2:=aim hr2;clear hx1 hr2 hg2
    by_cases hx:x=0
    ·subst hx
     go_wp2_with fail;refine (ah R (q+1) 2 _ (by omega) (HR2.out.kept (aip w2 _ none) (by simp))).mono ?_;rintro e w3 ⟨y,rfl,hy0,hy1,-,hr3,hg3,-⟩;have hy2:=hy1 (by omega);obtain ⟨y1,rfl⟩:=aiq hy0;obtain ⟨t,ht,hlit⟩:=ahg y1 (by omega);have hcell3:=aU HR2.out.lt hg3 hlit;have HO3:=aim ((HO2.out.al _).grownR hg3 HLT.out);have HG3:=aim (ab (ae HG2.out _) hg3);have HR3:=aim hr3;clear hy1 hr3 hg3 hlit
     have hlw3: ∀b,(Value.slice (some ⟨ag,0,none⟩) l.length ac0).ownBlock=some b→b<w3.heap.size:=fun b hb=>(HO3.out.row.lt b hb).2
     have HLW3:=aim hlw3;clear hlw3
     go_wp2_with (at_builtin;(refine cj rfl _ _ rfl w.heap.size w3.heap.size (.slice (some ⟨ag,0,none⟩) l.length ac0) (.slice (some ⟨w3.heap.size,0,none⟩) 1 1) us ([.slice none 0 0]:List Value) l ([(4,t,[],⟨#[]⟩)]:List It) rfl (HO3.out.al (.cells #[.int .i64 4, .string t, .slice none 0 0, .string ⟨#[]⟩] 25)) rfl (bF (base:=w3.heap.size) (k:=4) (n:=t) (t:=⟨#[]⟩) (ain _) KeptC.nil) ((bF (base:=w3.heap.size) (k:=4) (n:=t) (t:=⟨#[]⟩) (ain _) KeptC.nil).later HG3.out.size HLW3.out) (by simp;omega) (ae HG3.out (.cells #[.int .i64 4, .string t, .slice none 0 0, .string ⟨#[]⟩] 25)).size ?_);(intro v4 w4 ho4 hgr4 hat4;clear hat4;have HG4:=aim (az (ae HG3.out (.cells #[.int .i64 4, .string t, .slice none 0 0, .string ⟨#[]⟩] 25)) hgr4 (fun x hx=>(((HO3.out.al (.cells #[.int .i64 4, .string t, .slice none 0 0, .string ⟨#[]⟩] 25))).row.lt x hx).1));have HR4:=aim ((HR3.out.kept (aip w3 (.cells #[.int .i64 4, .string t, .slice none 0 0, .string ⟨#[]⟩] 25) none) (by simp)).kept hgr4 (fun x hx=>by have:=(((HO3.out.al (.cells #[.int .i64 4, .string t, .slice none 0 0, .string ⟨#[]⟩] 25))).row.lt x hx).1;have:=HLT.out;omega));obtain ⟨L4,HL4⟩: ∃L:List It,Hid (L=l++([(4,t,[],⟨#[]⟩)]:List It)):=⟨_,aim rfl⟩;obtain ⟨U4,HU4⟩: ∃L:List Value,Hid (L=us++([.slice none 0 0]:List Value)):=⟨_,aim rfl⟩;rw [←HL4.out,←HU4.out] at ho4;have HO4:=aim ho4;have HF4:=aim (show∀i∈L4,dT i by rw [HL4.out];exact cR HF.out (dt (co 4 ht)));have HLN4:=aim (show L4.length=(l).length+(([(4,t,[],⟨#[]⟩)]:List It)).length by rw [HL4.out,aio]);obtain ⟨g4,c4,rfl⟩:=ho4.is;clear ho4 hgr4))
     (try go_wp2_with fail)
     refine (HIH.out hdp R (q+1+1) _ (by omega) HR4.out).mono ?_;rintro e w5 ⟨v5,U5,L5,rfl,ho5,hf5,hl5,hr5,hg5⟩;obtain ⟨g5,c5,rfl⟩:=ho5.is;have HO5:=aim ho5;have HP5:=aim (HO4.out.grownR hg5 HLT.out);have HG5:=aim (ab HG4.out hg5);have HR5:=aim hr5;have HF5:=aim hf5;have HLW4:=aim (show∀b,(Value.slice (some ⟨g4,0,none⟩) L4.length c4).ownBlock=some b→b<w4.heap.size from fun b hb=>(HO4.out.row.lt b hb).2);have HL40:=aim (show L4.length=l.length+1 by rw [HLN4.out];rfl);clear ho5 hf5 hr5 hg5
     go_wp2_with ((first|(at_builtin;(refine cj rfl _ _ rfl w.heap.size w4.heap.size (.slice (some ⟨g4,0,none⟩) L4.length c4) (.slice (some ⟨g5,0,none⟩) L5.length c5) U4 U5 L4 L5 rfl HP5.out rfl HO5.out (HO5.out.later HG4.out.size HLW4.out) (by have:=HL40.out;omega) HG5.out.size ?_);(intro v6 w6 ho6 hgr6 hat6;clear hat6;have HG6:=aim (az HG5.out hgr6 (fun x hx=>((HP5.out).row.lt x hx).1));have HR6:=aim ((HR5.out).kept hgr6 (fun x hx=>by have:=((HP5.out).row.lt x hx).1;have:=HLT.out;omega));obtain ⟨L6,HL6⟩: ∃L:List It,Hid (L=L4++L5):=⟨_,aim rfl⟩;obtain ⟨U6,HU6⟩: ∃L:List Value,Hid (L=U4++U5):=⟨_,aim rfl⟩;rw [←HL6.out,←HU6.out] at ho6;have HO6:=aim ho6;have HF6:=aim (show∀i∈L6,dT i by rw [HL6.out];exact cR HF4.out HF5.out);have HLN6:=aim (show L6.length=(L4).length+(L5).length by rw [HL6.out,aio]);obtain ⟨g6,c6,rfl⟩:=ho6.is;clear ho6 hgr6);have HL60:=aim (show L6.length=l.length+1+L5.length by rw [HLN6.out,HL40.out]);have HLW6:=aim (show∀b,(Value.slice (some ⟨g6,0,none⟩) L6.length c6).ownBlock=some b→b<w6.heap.size from fun b hb=>(HO6.out.row.lt b hb).2))|(at_builtin;(refine cj rfl _ _ rfl w.heap.size w6.heap.size (.slice (some ⟨g6,0,none⟩) L6.length c6) (.slice (some ⟨w6.heap.size,0,none⟩) 1 1) U6 ([.slice none 0 0]:List Value) L6 ([(5,⟨#[]⟩,[],⟨#[]⟩)]:List It) rfl (HO6.out.al (.cells #[.int .i64 5, .string ⟨#[]⟩, .slice none 0 0, .string ⟨#[]⟩] 25)) rfl (bF (base:=w6.heap.size) (k:=5) (n:=⟨#[]⟩) (t:=⟨#[]⟩) (ain _) KeptC.nil) ((bF (base:=w6.heap.size) (k:=5) (n:=⟨#[]⟩) (t:=⟨#[]⟩) (ain _) KeptC.nil).later HG6.out.size HLW6.out) (by have:=HL60.out;simp;omega) (ae HG6.out (.cells #[.int .i64 5, .string ⟨#[]⟩, .slice none 0 0, .string ⟨#[]⟩] 25)).size ?_);(intro v8 w8 ho8 hgr8 hat8;clear hat8;have HG8:=aim (az (ae HG6.out (.cells #[.int .i64 5, .string ⟨#[]⟩, .slice none 0 0, .string ⟨#[]⟩] 25)) hgr8 (fun x hx=>(((HO6.out.al (.cells #[.int .i64 5, .string ⟨#[]⟩, .slice none 0 0, .string ⟨#[]⟩] 25))).row.lt x hx).1));have HR8:=aim ((HR6.out.kept (aip w6 (.cells #[.int .i64 5, .string ⟨#[]⟩, .slice none 0 0, .string ⟨#[]⟩] 25) none) (by simp)).kept hgr8 (fun x hx=>by have:=(((HO6.out.al (.cells #[.int .i64 5, .string ⟨#[]⟩, .slice none 0 0, .string ⟨#[]⟩] 25))).row.lt x hx).1;have:=HLT.out;omega));obtain ⟨L8,HL8⟩: ∃L:List It,Hid (L=L6++([(5,⟨#[]⟩,[],⟨#[]⟩)]:List It)):=⟨_,aim rfl⟩;obtain ⟨U8,HU8⟩: ∃L:List Value,Hid (L=U6++([.slice none 0 0]:List Value)):=⟨_,aim rfl⟩;rw [←HL8.out,←HU8.out] at ho8;have HO8:=aim ho8;have HF8:=aim (show∀i∈L8,dT i by rw [HL8.out];exact cR HF6.out (dt (co 5 (by decide))));have HLN8:=aim (show L8.length=(L6).length+(([(5,⟨#[]⟩,[],⟨#[]⟩)]:List It)).length by rw [HL8.out,aio]);obtain ⟨g8,c8,rfl⟩:=ho8.is;clear ho8 hgr8))))
     have HL80:=aim (show L8.length=l.length+L5.length+2 by rw [HLN8.out,HL60.out];simp only [List.length_singleton];omega);have HQ:=aim (show Rdm w8 R (q+1+1+K') from HR8.out.mono (by omega));go_wp2;go_roundw
     case rel=>exact ⟨k-1,U8,L8,q+1+1+K',by omega,by first|rw [hwk]|go_num,HO8.out,HF8.out,by have:=HL80.out;omega,by omega,HQ.out,HG8.out⟩
     case measure=>simp [intOf];omega
    ·have hxb:(x==0)=false:=beq_eq_false_iff_ne.mpr hx
     go_wp2_with fail;refine (ko R (q+1) 0 _ (by omega) (by omega) (by omega) HR2.out).mono ?_;rintro e w7 ⟨i7,au,ac,rfl,hk7,hf7,hr7,hg7⟩;obtain ⟨ik,inm,ics,int⟩:=i7;have HLW7:=aim (show∀b,(Value.slice (some ⟨ag,0,none⟩) l.length ac0).ownBlock=some b→b<w2.heap.size from fun b hb=>(HO2.out.row.lt b hb).2);have HO7:=aim (HO2.out.grownR hg7 HLT.out);have HG7:=aim (ab HG2.out hg7);have HR7:=aim hr7;have HF7:=aim hf7;have HK7:=aim (show KeptC w7 w2.heap.size (some w7.heap.size) (.slice au ics.length ac) ics from fun w' h1 h2=>hk7 w' (fun b hb hl=>h1 b hb hl (fun e=>by injection e with e;omega)) h2);have hsz7:w2.heap.size≤w7.heap.size:=hg7.size;clear hk7 hf7 hr7 hg7
     go_wp2_with (at_builtin;(refine cj rfl _ _ rfl w.heap.size w2.heap.size (.slice (some ⟨ag,0,none⟩) l.length ac0) (.slice (some ⟨w7.heap.size,0,none⟩) 1 1) us ([.slice au ics.length ac]:List Value) l ([(ik,inm,ics,int)]:List It) rfl (HO7.out.al (.cells #[.int .i64 ik, .string inm, .slice au ics.length ac, .string int] 25)) rfl (bF (k:=ik) (n:=inm) (t:=int) hsz7 HK7.out) ((bF (k:=ik) (n:=inm) (t:=int) hsz7 HK7.out).later HG2.out.size HLW7.out) (by simp;omega) (ae HG7.out (.cells #[.int .i64 ik, .string inm, .slice au ics.length ac, .string int] 25)).size ?_);(intro v8 w8 ho8 hgr8 hat8;clear hat8;have HG8:=aim (az (ae HG7.out (.cells #[.int .i64 ik, .string inm, .slice au ics.length ac, .string int] 25)) hgr8 (fun x hx=>(((HO7.out.al (.cells #[.int .i64 ik, .string inm, .slice au ics.length ac, .string int] 25))).row.lt x hx).1));have HR8:=aim ((HR7.out.kept (aip w7 (.cells #[.int .i64 ik, .string inm, .slice au ics.length ac, .string int] 25) none) (by simp)).kept hgr8 (fun x hx=>by have:=(((HO7.out.al (.cells #[.int .i64 ik, .string inm, .slice au ics.length ac, .string int] 25))).row.lt x hx).1;have:=HLT.out;omega));obtain ⟨L8,HL8⟩: ∃L:List It,Hid (L=l++([(ik,inm,ics,int)]:List It)):=⟨_,aim rfl⟩;obtain ⟨U8,HU8⟩: ∃L:List Value,Hid (L=us++([.slice au ics.length ac]:List Value)):=⟨_,aim rfl⟩;rw [←HL8.out,←HU8.out] at ho8;have HO8:=aim ho8;have HF8:=aim (show∀i∈L8,dT i by rw [HL8.out];exact cR HF.out (dt HF7.out));have HLN8:=aim (show L8.length=(l).length+(([(ik,inm,ics,int)]:List It)).length by rw [HL8.out,aio]);obtain ⟨g8,c8,rfl⟩:=ho8.is;clear ho8 hgr8))
     have HL80:=aim (show L8.length=l.length+1 by rw [HLN8.out];rfl);have HQ:=aim (show Rdm w8 R (q+1+3000) from HR8.out.mono (by omega));go_wp2;go_roundw
     case rel=>exact ⟨k-1,U8,L8,q+1+3000,by omega,by first|rw [hwk]|go_num,HO8.out,HF8.out,by have:=HL80.out;omega,by omega,HQ.out,HG8.out⟩
     case measure=>simp [intOf];omega
   ·have hdI: ¬(1:Int)<(deep:Int):=by omega
    go_wp2_with fail;refine (ko R (q) 0 _ (by omega) (by omega) (by omega) HR.out).mono ?_;rintro e w7 ⟨i7,au,ac,rfl,hk7,hf7,hr7,hg7⟩;obtain ⟨ik,inm,ics,int⟩:=i7;have HLW7:=aim (show∀b,(Value.slice (some ⟨ag,0,none⟩) l.length ac0).ownBlock=some b→b<wr.heap.size from fun b hb=>(HO.out.row.lt b hb).2);have HO7:=aim (HO.out.grownR hg7 HLT.out);have HG7:=aim (ab HG.out hg7);have HR7:=aim hr7;have HF7:=aim hf7;have HK7:=aim (show KeptC w7 wr.heap.size (some w7.heap.size) (.slice au ics.length ac) ics from fun w' h1 h2=>hk7 w' (fun b hb hl=>h1 b hb hl (fun e=>by injection e with e;omega)) h2);have hsz7:wr.heap.size≤w7.heap.size:=hg7.size;clear hk7 hf7 hr7 hg7
    go_wp2_with (at_builtin;(refine cj rfl _ _ rfl w.heap.size wr.heap.size (.slice (some ⟨ag,0,none⟩) l.length ac0) (.slice (some ⟨w7.heap.size,0,none⟩) 1 1) us ([.slice au ics.length ac]:List Value) l ([(ik,inm,ics,int)]:List It) rfl (HO7.out.al (.cells #[.int .i64 ik, .string inm, .slice au ics.length ac, .string int] 25)) rfl (bF (k:=ik) (n:=inm) (t:=int) hsz7 HK7.out) ((bF (k:=ik) (n:=inm) (t:=int) hsz7 HK7.out).later HG.out.size HLW7.out) (by simp;omega) (ae HG7.out (.cells #[.int .i64 ik, .string inm, .slice au ics.length ac, .string int] 25)).size ?_);(intro v8 w8 ho8 hgr8 hat8;clear hat8;have HG8:=aim (az (ae HG7.out (.cells #[.int .i64 ik, .string inm, .slice au ics.length ac, .string int] 25)) hgr8 (fun x hx=>(((HO7.out.al (.cells #[.int .i64 ik, .string inm, .slice au ics.length ac, .string int] 25))).row.lt x hx).1));have HR8:=aim ((HR7.out.kept (aip w7 (.cells #[.int .i64 ik, .string inm, .slice au ics.length ac, .string int] 25) none) (by simp)).kept hgr8 (fun x hx=>by have:=(((HO7.out.al (.cells #[.int .i64 ik, .string inm, .slice au ics.length ac, .string int] 25))).row.lt x hx).1;have:=HLT.out;omega));obtain ⟨L8,HL8⟩: ∃L:List It,Hid (L=l++([(ik,inm,ics,int)]:List It)):=⟨_,aim rfl⟩;obtain ⟨U8,HU8⟩: ∃L:List Value,Hid (L=us++([.slice au ics.length ac]:List Value)):=⟨_,aim rfl⟩;rw [←HL8.out,←HU8.out] at ho8;have HO8:=aim ho8;have HF8:=aim (show∀i∈L8,dT i by rw [HL8.out];exact cR HF.out (dt HF7.out));have HLN8:=aim (show L8.length=(l).length+(([(ik,inm,ics,int)]:List It)).length by rw [HL8.out,aio]);obtain ⟨g8,c8,rfl⟩:=ho8.is;clear ho8 hgr8))
    have HL80:=aim (show L8.length=l.length+1 by rw [HLN8.out];rfl);have HQ:=aim (show Rdm w8 R (q+3000) from HR8.out.mono (by omega));go_wp2;go_roundw
    case rel=>exact ⟨k-1,U8,L8,q+3000,by omega,by first|rw [hwk]|go_num,HO8.out,HF8.out,by have:=HL80.out;omega,by omega,HQ.out,HG8.out⟩
    case measure=>simp [intOf];omega
theorem aa6 (R p:Nat) (w:World) (hp:p+300000<40000000) (h:Rdm w R p):
  Calls Tryz.prog 150 #[.pointer (some ⟨R,0,none⟩), .int .i64 3] w (xN R p 300000 200 w):=by
 have h1:=ms 1 0 0 (by omega) (by omega) (by omega) (fun h=>absurd h (by omega));have h2:=ms 2 (1+4*(3002+0)) (4*(2+0)) (by omega) (by omega) (by omega) (fun _ R p w hp hr=>h1 R p w hp hr);have h3:=ms 3 (1+4*(3002+(1+4*(3002+0)))) (4*(2+4*(2+0))) (by omega) (by omega) (by omega) (fun _ R p w hp hr=>h2 R p w hp hr);refine (h3 R p w (by omega) h).mono ?_;rintro e w' ⟨v,us,l,he,ho,hf,hl,hr,hg⟩;exact ⟨v,us,l,he,ho,hf,by omega,hr.mono (by omega),hg⟩
end Go.Proofs.YthijkjnngfnfdaaGreatDoor
