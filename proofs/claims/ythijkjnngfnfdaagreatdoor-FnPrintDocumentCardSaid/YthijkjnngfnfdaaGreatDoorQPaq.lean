/-
  Part of the proof of FnPrintDocument.
-/
import Derived.Test.YthijkjnngfnfdaaGreatDoorQPal
import Derived.Test.YthijkjnngfnfdaaGreatDoorQPao
set_option linter.unusedVariables false
set_option maxHeartbeats 8000000
set_option maxRecDepth 100000
namespace Go.Proofs.YthijkjnngfnfdaaGreatDoor
open Go.RowKit
theorem ag0:agA:=by
 intro R p n w hp h0 h1 h;refine (tu R p n w (by omega) h0 h1 h).mono ?_;rintro e w' ⟨v,us,l,he,ho,hf,hl,hr,hg⟩;exact ⟨v,l,he,ho.reads,hf,by omega,hr.mono (by omega),hg⟩
def nmS:Nat→ByteArray
 |0=>⟨#[97]⟩
 |1=>⟨#[98]⟩
 |2=>⟨#[99]⟩
 |_=>⟨#[120,49]⟩
theorem uo (q:Nat):(nmS q).size≤3:=by
 match q with
 |0=>decide
 |1=>decide
 |2=>decide
 |_+3=>exact (show (2:Nat)≤3 by omega)
def NmS (w:World) (M:Nat):Prop:= ∀q,q<4→w.cell? ⟨M,q,none⟩=some (.string (nmS q))
theorem NmS.grown {w w':World} {M:Nat} {r:Option Nat} (h:NmS w M) (hg:w.grownBy w' r) (hr:r≠some M):NmS w' M:=fun q hq=>hg.cell (h q hq) (fun e=>hr e.symm)
structure SdS (w wr:World) (R M q:Nat):Prop where
 gr:w.grownBy wr (some R)
 rd:Rdm wr R q
 nm:NmS wr M
 lt:R<w.heap.size
 le:w.heap.size≤M
 ml:M<wr.heap.size
section
variable {w wr w':World} {R M q:Nat}
theorem SdS.al (h:SdS w wr R M q) (o:Obj):SdS w (wr.alloc o) R M q:=
 ⟨ae h.gr o,h.rd.kept (aip wr o none) (by simp),h.nm.grown (aip wr o none) (by simp),h.lt,h.le,by have:=h.ml;simp;omega⟩
theorem SdS.call {q':Nat} (h:SdS w wr R M q) (hr:Rdm w' R q') (hg:wr.grownBy w' (some R)):SdS w w' R M q':=
 ⟨ab h.gr hg,hr,h.nm.grown hg (by intro e;injection e with e;have:=h.lt;have:=h.le;omega),h.lt,h.le,by have:=h.ml;have:=hg.size;omega⟩
theorem SdS.own {r:Option Nat} (h:SdS w wr R M q) (hg:wr.grownBy w' r) (hv: ∀x,r=some x→w.heap.size≤x∧x≠M):SdS w w' R M q:=
 ⟨az h.gr hg (fun x hx=>(hv x hx).1),h.rd.kept hg (fun x hx=>by have:=(hv x hx).1;have:=h.lt;omega),h.nm.grown hg (fun e=>(hv M e).2 rfl),h.lt,h.le,by have:=h.ml;have:=hg.size;omega⟩
theorem SdS.more {q':Nat} (h:SdS w wr R M q) (hq:q≤q'):SdS w wr R M q':=⟨h.gr,h.rd.mono hq,h.nm,h.lt,h.le,h.ml⟩
end
theorem aaw (j:Nat) (hj:j≤2) (k:Int) (hk:0≤k∧k<3) (R p:Nat) (w:World) (hp:p+173<1073741824) (h:Rdm w R p):
  Calls Tryz.prog 81 #[.pointer (some ⟨R,0,none⟩), .int .i64 (1+(j:Int)), .int .i64 k] w (TypD R p 173 13 w):=by
 have hK:kt (j+1)≤173∧ct (j+1)≤13:=by
  have:j=0∨j=1∨j=2:=by omega
  rcases this with rfl|rfl|rfl<;>decide
 have:=zf (j+1) (by omega) (by omega) k (by omega) R p w (by omega) h;rw [show ((j+1:Nat):Int)=1+(j:Int) by omega] at this;refine this.mono ?_;rintro e w' ⟨v,l,he,ho,hs,hl,hc,hr,hg⟩;exact ⟨v,l,he,ho,hs,hl,by omega,hr.mono (by omega),hg⟩
theorem RowK.kept {w:World} {B:Nat} {u:Value} {l:List Cl} (h:RowK B w u l):KeptC w B (some w.heap.size) u l:=
 fun w' h1 h2=>h w' (fun b hb hl=>h1 b hb hl (fun e=>by injection e with e;omega)) h2
theorem ag1 {w:World} {base:Nat} {n1 n2 t2:ByteArray} {u:Value} {x:List Cl} (hb:base≤w.heap.size) (hu:KeptC w base (some w.heap.size) u x):
  OwnG (w.alloc (.cells #[.int .i64 4, .string n1, .slice none 0 0, .string ⟨#[]⟩, .int .i64 3, .string n2,u, .string t2, .int .i64 5, .string ⟨#[]⟩, .slice none 0 0, .string ⟨#[]⟩] 25)) base (.slice (some ⟨w.heap.size,0,none⟩) 3 3)
   [.slice none 0 0,u, .slice none 0 0] [(4,n1,[],⟨#[]⟩),(3,n2,x,t2),(5,⟨#[]⟩,[],⟨#[]⟩)]:=
 ⟨ba (World.ownsRow_lit (e:=25) (size:=4) (base:=w.heap.size) w _ 3 (ain _) (by unfold maxLen;omega) rfl) (fun g hg=>by
   have:g=w.heap.size:=by simpa [Value.ownBlock] using hg.symm
   omega),rfl,fun j h1 h2=>by
   have hj:j=0∨j=1∨j=2:=by simp at h1;omega
   rcases hj with rfl|rfl|rfl
   ·exact KeptC.nil
   ·exact hu.keep (fun b _ hl _=>Below.heap_alloc _ _ _ hl) (by simp) (fun b hl e=>e)
   ·exact KeptC.nil,⟨_,_,rfl⟩⟩
structure AfG (w wr:World) (R M q n:Nat) (v:Value) (us:List Value) (l:List It):Prop where
 own:OwnG wr w.heap.size v us l
 ne:v.ownBlock≠some M
 few: ∀x∈l,dT x
 len:l.length≤n
 st:SdS w wr R M q
theorem AfG.call {w wr w':World} {R M q q' n:Nat} {v:Value} {us:List Value} {l:List It} (h:AfG w wr R M q n v us l) (hr:Rdm w' R q') (hg:wr.grownBy w' (some R)):AfG w w' R M q' n v us l:=
 ⟨h.own.grownR hg h.st.lt,h.ne,h.few,h.len,h.st.call hr hg⟩
theorem AfG.more {w wr:World} {R M q q' n n':Nat} {v:Value} {us:List Value} {l:List It} (h:AfG w wr R M q n v us l) (hq:q≤q') (hn:n≤n'):AfG w wr R M q' n' v us l:=
 ⟨h.own,h.ne,h.few,Nat.le_trans h.len hn,h.st.more hq⟩
theorem AfG.new {w wr w':World} {R M q n:Nat} {va v':Value} {us2:List Value} {l2:List It} (hs:SdS w wr R M q) (hva: ∀x,va.ownBlock=some x→w.heap.size≤x∧x≠M) (ho:OwnG w' w.heap.size v' us2 l2) (hg:wr.grownBy w' va.ownBlock)
  (hat: ∀b,v'.ownBlock=some b→va.ownBlock=some b∨b=wr.heap.size) (hf: ∀x∈l2,dT x) (hn:l2.length≤n):AfG w w' R M q n v' us2 l2:=
 ⟨ho,fun e=>by
  rcases hat M e with h|h
  ·exact (hva M h).2 rfl
  ·have:=hs.ml;omega,hf,hn,hs.own hg hva⟩
theorem AfG.va {w wr:World} {R M q n:Nat} {v:Value} {us:List Value} {l:List It} (h:AfG w wr R M q n v us l): ∀x,v.ownBlock=some x→w.heap.size≤x∧x≠M:=
 fun x hx=>⟨(h.own.row.lt x hx).1,fun e=>h.ne (e▸hx)⟩
theorem ac1:zi:=by
 intro R p w hp h;have HLT:=aim h.lt;obtain ⟨i0,hi,hz0,hz1,hz2⟩:=info_parts gj
 have HA0:=aim (show AfG w ((w.alloc (.cells #[] 25)).alloc (.cells #[.string ⟨#[97]⟩, .string ⟨#[98]⟩, .string ⟨#[99]⟩, .string ⟨#[120,49]⟩] 9)) R (w.heap.size+1) p 0 (.slice (some ⟨w.heap.size,0,none⟩) 0 0) [] [] from
  ⟨(adH w).al _,by simp [Value.ownBlock],fun x hx=>(by cases hx),ain _,
   ⟨ae (aip w (.cells #[] 25) (some R)) _,(h.kept (aip w (.cells #[] 25) none) (by simp)).kept (aip _ _ none) (by simp),fun q hq=>by
    match q,hq with
    |0,_=>show _=some (Value.string ⟨#[97]⟩);simp [go_sem]
    |1,_=>show _=some (Value.string ⟨#[98]⟩);simp [go_sem]
    |2,_=>show _=some (Value.string ⟨#[99]⟩);simp [go_sem]
    |3,_=>show _=some (Value.string ⟨#[120,49]⟩);simp [go_sem],h.lt,by omega,by simp⟩⟩)
 clear h
 go_enter Tryz.func114,Tryz.ntmps114
 go_wp2_with fail
 go_loopw [3,5] (fun a i wr=> ∃(k:Nat) (us:List Value) (l:List It),k≤4∧i= .int .i64 (k:Int)∧AfG w wr R (w.heap.size+1) (p+k*200) (2*k) a us l) (fun _ i _=>4-(intOf i).toNat)
 case atStart=>exact ⟨0,[],[],air _,rfl,HA0.out.more (by omega) (by omega)⟩
 case round=>
  obtain ⟨k,us,l,hk,rfl,hA⟩:=hrel;have HA:=aim hA;obtain ⟨ag,ac0,rfl⟩:=hA.own.is;clear hA HA0
  by_cases hlt:k<4
  ·have hltI:(k:Int)<4:=by omega
   have hk0:(0:Int)≤(k:Int):=by omega
   have HFL:=aim HA.out.len
   obtain ⟨t,ht,hT⟩: ∃t:ByteArray,t.size≤3∧nmS k=t:=⟨_,uo k,rfl⟩
   have HT:=aim hT;clear hT;go_wp2_with fail;refine (ah R _ 3 _ (by omega) HA.out.st.rd).mono ?_;rintro e w1 ⟨x,rfl,hx0,hx1,-,hr1,hg1,-⟩;have hx2:=hx1 (by omega);obtain ⟨x1,rfl⟩:=aiq hx0;have A1:=aim (HA.out.call hr1 hg1);clear hx1 hr1 hg1;go_wp2_with fail;refine (ah R _ 3 _ (by omega) A1.out.st.rd).mono ?_;rintro e w2 ⟨y,rfl,hy0,hy1,-,hr2,hg2,-⟩;have hy2:=hy1 (by omega);have A2:=aim (A1.out.call hr2 hg2);clear hy1 hr2 hg2;have HTY:=aim (aaw x1 (by omega) y (by omega) R _ w2 (by omega) A2.out.st.rd);go_wp2_with fail;refine HTY.out.mono ?_;rintro e w3 ⟨v3,l3,rfl,ho3,hs3,h13,hc3,hr3,hg3⟩;have A3:=aim (A2.out.call hr3 hg3);have E3:=aim (RowK.of_own ho3 (ain _));have hsz3:w2.heap.size≤w3.heap.size:=hg3.size;obtain ⟨a3,c3,rfl⟩:=ai ho3;have F3:=aim (show (∀c∈l3,c.2.1.size≤60)∧l3.length≤15 from ⟨fun c hc=>Nat.le_trans (hs3 c hc) (by omega),by omega⟩);have HBL:=aim (show∀b,(Value.slice (some ⟨ag,0,none⟩) l.length ac0).ownBlock=some b→b<w2.heap.size from A2.out.own.block_lt);clear hr3 hg3 ho3 hs3 h13 hc3 HTY A1
   rcases Nat.eq_zero_or_pos k with hk1|hk1
   case' inl=>
    have hkI: ¬(0:Int)<(k:Int):=by omega
    clear hk1
    obtain ⟨w6,h6⟩: ∃x,x=w3:=⟨_,rfl⟩
    obtain ⟨l6,hl6⟩: ∃x,x=l3:=⟨_,rfl⟩
    subst h6;subst hl6
    obtain ⟨a6,ha6⟩: ∃x,x=a3:=⟨_,rfl⟩
    obtain ⟨c6,hc6⟩: ∃x,x=c3:=⟨_,rfl⟩
    subst ha6;subst hc6;have A6:=aim (A3.out.more (show _≤p+k*200+180 by omega) (ain _));have E6:=aim E3.out;have F6:=aim F3.out;have hs6:w2.heap.size≤w6.heap.size:=hsz3
    have d6:w6.cell? ⟨w.heap.size+1,k,none⟩=some (.string t):=by rw [←HT.out];exact A6.out.st.nm k hlt
   case' inr=>
    have hkI:(0:Int)<(k:Int):=by omega
    go_wp2_with fail;refine (ah R _ 2 _ (by omega) A3.out.st.rd).mono ?_;rintro e w5 ⟨z,rfl,hz0',hz1',-,hr5,hg5,-⟩;have A5:=aim (A3.out.call hr5 hg5);have E5:=aim (E3.out.keep (fun b hb hl=>hg5.block b hl (fun e=>by injection e with e;have:=HLT.out;have:=A2.out.st.gr.size;omega)) hg5.size);have hsz5:w2.heap.size≤w5.heap.size:=Nat.le_trans hsz3 hg5.size;clear hr5 hg5 hz1'
    by_cases hz:z=0
    case' neg=>
     have hzb:(z==0)=false:=beq_eq_false_iff_ne.mpr hz
     obtain ⟨w6,h6⟩: ∃x,x=w5:=⟨_,rfl⟩
     obtain ⟨l6,hl6⟩: ∃x,x=l3:=⟨_,rfl⟩
     subst h6;subst hl6
     obtain ⟨a6,ha6⟩: ∃x,x=a3:=⟨_,rfl⟩
     obtain ⟨c6,hc6⟩: ∃x,x=c3:=⟨_,rfl⟩
     subst ha6;subst hc6;have A6:=aim (A5.out.more (show _≤p+k*200+180 by omega) (ain _));have E6:=aim E5.out;have F6:=aim F3.out;have hs6:w2.heap.size≤w6.heap.size:=hsz5
     have d6:w6.cell? ⟨w.heap.size+1,k,none⟩=some (.string t):=by rw [←HT.out];exact A6.out.st.nm k hlt
    case' pos=>
     subst hz;go_wp2_with fail;refine (ah R _ (k:Int) _ (by omega) A5.out.st.rd).mono ?_;rintro e w7 ⟨y7,rfl,hj0,hj1,-,hr7,hg7,-⟩;have hj2:=hj1 (by omega);obtain ⟨j,rfl⟩:=aiq hj0
     have hj4:(j:Int)<4:=by omega
     have A7:=aim (A5.out.call hr7 hg7);have E7:=aim (E5.out.keep (fun b hb hl=>hg7.block b hl (fun e=>by injection e with e;have:=HLT.out;have:=A2.out.st.gr.size;omega)) hg7.size);have hsz7:w2.heap.size≤w7.heap.size:=Nat.le_trans hsz5 hg7.size
     obtain ⟨tj,htj,hTj⟩: ∃t:ByteArray,t.size≤3∧nmS j=t:=⟨_,uo j,rfl⟩
     have dj:w7.cell? ⟨w.heap.size+1,j,none⟩=some (.string tj):=by rw [←hTj];exact A7.out.st.nm j (by omega)
     clear hr7 hg7 hj1 hTj
     obtain ⟨l6,hl6⟩: ∃x:List Cl,x=[(5,⟨#[]⟩,2),(4,tj,0)]++l3:=⟨_,rfl⟩
     have F6:=aim (show (∀c∈l6,c.2.1.size≤60)∧l6.length≤17 by
      rw [hl6];refine ⟨fun c hc=> ?_,by have:=F3.out.2;simp;omega⟩;simp only [List.cons_append,List.nil_append,List.mem_cons] at hc
      rcases hc with rfl|rfl|hc
      ·exact air _
      ·exact Nat.le_trans htj (by omega)
      ·exact F3.out.1 c hc)
     have HN6:=aim (show 2+l3.length=l6.length by rw [hl6];simp;omega);have HFC:=aim (show [Value.int .i64 5, .string ⟨#[]⟩, .int .i64 2, .int .i64 4, .string tj, .int .i64 0]++ap l3=ap l6 by rw [hl6];rfl);have HL3:=aim F3.out.2;have HLI:=aim (World.ownsRow_lit (base:=w7.heap.size) (size:=3) (e:=120) w7 #[.int .i64 5, .string ⟨#[]⟩, .int .i64 2, .int .i64 4, .string tj, .int .i64 0] 2 (ain _) (by unfold maxLen;omega) rfl);have A8:=aim (show OwnG (w7.alloc (.cells #[.int .i64 5, .string ⟨#[]⟩, .int .i64 2, .int .i64 4, .string tj, .int .i64 0] 120)) w.heap.size (.slice (some ⟨ag,0,none⟩) l.length ac0) us l∧SdS w (w7.alloc (.cells #[.int .i64 5, .string ⟨#[]⟩, .int .i64 2, .int .i64 4, .string tj, .int .i64 0] 120)) R (w.heap.size+1) (p+k*200+180) from ⟨A7.out.own.al _,(A7.out.st.more (by omega)).al _⟩);have HML:=aim A7.out.st.ml;clear hl6
     go_wp2_with (at_builtin;refine oK rfl _ _ 23 rfl w7.heap.size 120 i0 (.agg #[.int .i64 0, .string ByteArray.empty, .int .i64 0]) 32 Tryz.underlying23 hi hz0 hz1 hz2 (by decide) (.slice (some ⟨w7.heap.size,0,none⟩) 2 2) 2 _ rfl HLI.out _ l3 rfl (E7.out.row.al _) (by have:=HL3.out;unfold maxLen;omega) (by have:=HL3.out;omega) (by simp) ?_;intro v6 w6 hown6 hgrow6;rw [show (#[Value.int .i64 5, .string ⟨#[]⟩, .int .i64 2, .int .i64 4, .string tj, .int .i64 0]:Array Value).toList++ap l3=ap l6 from HFC.out,HN6.out] at hown6;have E6:=aim (RowK.of_own hown6 hsz7);obtain ⟨a6,c6,rfl⟩:=ai hown6;have hs6:w2.heap.size≤w6.heap.size:=(by have:=hgrow6.size;simp at this;omega);have A6:=aim (show AfG w w6 R (w.heap.size+1) (p+k*200+180) (2*k) (.slice (some ⟨ag,0,none⟩) l.length ac0) us l from ⟨A7.out.own.keep (fun b hb hlt=>(hgrow6.block b (by simp;omega) (fun e=>by have e:=Option.some.inj (show some b=some w7.heap.size from e);omega)).trans (Below.heap_alloc _ _ _ hlt)) (by have:=hgrow6.size;simp at this;omega),A7.out.ne,A7.out.few,A7.out.len,A8.out.2.own hgrow6 (fun x hx=>by have e:=Option.some.inj (show some w7.heap.size=some x from hx);have:=A7.out.st.gr.size;have:=HML.out;omega)⟩);have d6:w6.cell? ⟨w.heap.size+1,k,none⟩=some (.string t):=(by rw [←HT.out];exact A6.out.st.nm k hlt);clear hown6 hgrow6)
   all_goals
    (try go_wp2_with fail)
    have I6:=aim (It4.new w6 (.int .i64 3) (.string t) (.slice a6 l6.length c6) (.string ⟨#[]⟩) 25);have S7:=aim (A6.out.st.al (.cells #[.int .i64 3, .string t, .slice a6 l6.length c6, .string ⟨#[]⟩] 25));refine (ah R _ 2 _ (by omega) S7.out.rd).mono ?_;rintro e w8 ⟨z8,rfl,hz80,hz81,-,hr8,hg8,-⟩;have O8:=aim ((A6.out.own.al (.cells #[.int .i64 3, .string t, .slice a6 l6.length c6, .string ⟨#[]⟩] 25)).grownR hg8 A6.out.st.lt);have S8:=aim (S7.out.call hr8 hg8);have I8:=aim (I6.out.grownR hg8 (by have:=A6.out.st.gr.size;have:=A6.out.st.lt;omega));have hs8:w2.heap.size≤w8.heap.size:=(by have:=hg8.size;simp at this;omega);have K8:=aim (RowK.kept (E6.out.keep (w1:=w8) (fun b hb hl=>(hg8.block b (by simp;omega) (fun e=>by injection e with e;have:=HLT.out;have:=A2.out.st.gr.size;omega)).trans (Below.heap_alloc _ _ _ hl)) (by have:=hg8.size;simp at this;omega)));have FI:=aim (show dT (3,t,l6,⟨#[]⟩) from ⟨Nat.le_trans ht (by omega),F6.out.1,by have:=F6.out.2;show l6.length≤60;omega,by show (0:Nat)≤61;omega⟩);have hw2:w.heap.size≤w2.heap.size:=A2.out.st.gr.size;obtain ⟨⟨z0,z1,z2,z3⟩,-,-⟩:=I8.out;clear hr8 hg8 hz81;have O8a:=aim (O8.out.al (.cells #[.int .i64 3, .string t, .slice a6 l6.length c6, .string ⟨#[]⟩] 25));have S8a:=aim (S8.out.al (.cells #[.int .i64 3, .string t, .slice a6 l6.length c6, .string ⟨#[]⟩] 25));have G1:=aim (bF (w:=w8) (k:=3) (n:=t) (t:=⟨#[]⟩) hs8 K8.out);have G2:=aim (G1.out.lower hw2);have LT1:=aim (G1.out.later hw2 HBL.out);have LT2:=aim (O8.out.older (.cells #[.int .i64 3, .string t, .slice a6 l6.length c6, .string ⟨#[]⟩] 25));have VA2:=aim (show∀x,(Value.slice (some ⟨w8.heap.size,0,none⟩) 1 1).ownBlock=some x→w.heap.size≤x∧x≠w.heap.size+1 from fun x hx=>by have e:=Option.some.inj (show some w8.heap.size=some x from hx);have:=S8.out.ml;omega);have FF1:=aim (cR A6.out.few (dt FI.out));have FF2:=aim (cR (dt FI.out) A6.out.few);have hlen1:l.length≤2*k:=HFL.out;have HN1:=aim (show (l++([(3,t,l6,⟨#[]⟩)]:List It)).length≤2*k+1 by rw [aio,List.length_singleton];omega);have HN2:=aim (show (([(3,t,l6,⟨#[]⟩)]:List It)++l).length≤2*k+1 by rw [aio,List.length_singleton];omega)
    by_cases hz8:z8=0
    case' pos=>
     subst hz8
     go_wp2_with (at_builtin;refine cj rfl _ _ rfl w.heap.size w2.heap.size (.slice (some ⟨ag,0,none⟩) l.length ac0) (.slice (some ⟨w8.heap.size,0,none⟩) 1 1) us ([.slice a6 l6.length c6]:List Value) l ([(3,t,l6,⟨#[]⟩)]:List It) rfl O8a.out rfl G1.out LT1.out (by simp;omega) (by simp;omega) ?_;intro v9 w9 ho9 hgr9 hat9;have A9:=aim (AfG.new (n:=2*k+1) S8a.out A6.out.va ho9 hgr9 hat9 FF1.out HN1.out);obtain ⟨U9,hU9⟩: ∃x,x=us++([.slice a6 l6.length c6]:List Value):=⟨_,rfl⟩;obtain ⟨L9,hL9⟩: ∃x,x=l++([(3,t,l6,⟨#[]⟩)]:List It):=⟨_,rfl⟩;rw [←hU9,←hL9] at A9;obtain ⟨g9,c9,rfl⟩:=A9.out.own.is;clear ho9 hgr9 hat9 hU9 hL9)
    case' neg=>
     have hz8b:(z8==0)=false:=beq_eq_false_iff_ne.mpr hz8
     go_wp2_with (at_builtin;refine cj rfl _ _ rfl w.heap.size w.heap.size (.slice (some ⟨w8.heap.size,0,none⟩) 1 1) (.slice (some ⟨ag,0,none⟩) l.length ac0) ([.slice a6 l6.length c6]:List Value) us ([(3,t,l6,⟨#[]⟩)]:List It) l rfl G2.out rfl O8a.out LT2.out (by simp;omega) (by simp;omega) ?_;intro v9 w9 ho9 hgr9 hat9;have A9:=aim (AfG.new (n:=2*k+1) S8a.out VA2.out ho9 hgr9 hat9 FF2.out HN2.out);obtain ⟨U9,hU9⟩: ∃x,x=([.slice a6 l6.length c6]:List Value)++us:=⟨_,rfl⟩;obtain ⟨L9,hL9⟩: ∃x,x=([(3,t,l6,⟨#[]⟩)]:List It)++l:=⟨_,rfl⟩;rw [←hU9,←hL9] at A9;obtain ⟨g9,c9,rfl⟩:=A9.out.own.is;clear ho9 hgr9 hat9 hU9 hL9)
    all_goals
     (try go_wp2_with fail)
     refine (ah R _ 4 _ (by omega) A9.out.st.rd).mono ?_;rintro e wa ⟨za,rfl,hza0,hza1,-,hra,hga,-⟩;have AA:=aim (A9.out.call hra hga);have HLA:=aim (show L9.length≤9 by have:=A9.out.len;omega);clear hra hga hza1
     by_cases hza:za=0
     ·subst hza
      have OAa:=aim (AA.out.own.al (.cells #[.int .i64 1, .string ⟨#[]⟩, .slice none 0 0, .string ⟨#[]⟩] 25));have SAa:=aim (AA.out.st.al (.cells #[.int .i64 1, .string ⟨#[]⟩, .slice none 0 0, .string ⟨#[]⟩] 25));have GA:=aim (bF (w:=wa) (base:=wa.heap.size) (k:=1) (n:=⟨#[]⟩) (t:=⟨#[]⟩) (ain _) KeptC.nil);have LTA:=aim (GA.out.later AA.out.st.gr.size AA.out.own.block_lt);have FFA:=aim (cR AA.out.few (dt (co 1 (t:=⟨#[]⟩) (by decide))));have hla:=HLA.out;have hla9:=A9.out.len;have HNA:=aim (show (L9++([(1,⟨#[]⟩,[],⟨#[]⟩)]:List It)).length≤2*(k+1) by rw [aio,List.length_singleton];omega);have hwa:w.heap.size≤wa.heap.size:=AA.out.st.gr.size
      go_wp2_with (at_builtin;refine cj rfl _ _ rfl w.heap.size wa.heap.size (.slice (some ⟨g9,0,none⟩) L9.length c9) (.slice (some ⟨wa.heap.size,0,none⟩) 1 1) U9 ([.slice none 0 0]:List Value) L9 ([(1,⟨#[]⟩,[],⟨#[]⟩)]:List It) rfl OAa.out rfl GA.out LTA.out (by simp;omega) (by simp;omega) ?_;intro vb wb hob hgrb hatb;have AB:=aim (AfG.new (n:=2*(k+1)) SAa.out AA.out.va hob hgrb hatb FFA.out HNA.out);clear hob hgrb hatb)
      go_wp2;go_roundw
      case rel=>exact ⟨k+1,_,_,by omega,by go_num,AB.out.more (by omega) (by omega)⟩
      case measure=>simp [intOf];omega
     ·have hzab:(za==0)=false:=beq_eq_false_iff_ne.mpr hza
      go_wp2;go_roundw
      case rel=>exact ⟨k+1,_,_,by omega,by go_num,AA.out.more (by omega) (by omega)⟩
      case measure=>simp [intOf];omega
  ·have hltI: ¬(k:Int)<4:=by omega
   obtain rfl:k=4:=by omega
   have HFL:=aim HA.out.len;go_wp2_with fail;refine (ah R _ 2 _ (by omega) HA.out.st.rd).mono ?_;rintro e w1 ⟨x,rfl,hx0,hx1,-,hr1,hg1,-⟩;have A1:=aim (HA.out.call hr1 hg1);clear hx1 hr1 hg1
   by_cases hx:x=0
   ·subst hx
    have HLI:=aim (World.ownsRow_lit (base:=w1.heap.size) (size:=3) (e:=120) w1 #[.int .i64 4, .string ⟨#[97]⟩, .int .i64 0] 1 (ain _) (by unfold maxLen;omega) rfl);have HKE:=aim (RowK.kept (RowK.of_own (l:=[(4,⟨#[97]⟩,0)]) HLI.out (ain _)))
    have hsz:(w1.alloc (.cells #[.int .i64 4, .string ⟨#[97]⟩, .int .i64 0] 120)).heap.size=w1.heap.size+1:=by simp
    have g3:=ag1 (w:=w1.alloc (.cells #[.int .i64 4, .string ⟨#[97]⟩, .int .i64 0] 120)) (n1:=⟨#[113]⟩) (n2:=⟨#[97]⟩) (t2:=⟨#[99,111,112,121]⟩) (base:=w1.heap.size) (by simp) HKE.out;rw [hsz] at g3;have G3:=aim g3;have LT3:=aim (G3.out.later A1.out.st.gr.size A1.out.own.block_lt);have HO1:=aim ((A1.out.own.al (.cells #[.int .i64 4, .string ⟨#[97]⟩, .int .i64 0] 120)).al (.cells #[.int .i64 4, .string ⟨#[113]⟩, .slice none 0 0, .string ⟨#[]⟩, .int .i64 3, .string ⟨#[97]⟩, .slice (some ⟨w1.heap.size,0,none⟩) 1 1, .string ⟨#[99,111,112,121]⟩, .int .i64 5, .string ⟨#[]⟩, .slice none 0 0, .string ⟨#[]⟩] 25));have HS1:=aim ((A1.out.st.al (.cells #[.int .i64 4, .string ⟨#[97]⟩, .int .i64 0] 120)).al (.cells #[.int .i64 4, .string ⟨#[113]⟩, .slice none 0 0, .string ⟨#[]⟩, .int .i64 3, .string ⟨#[97]⟩, .slice (some ⟨w1.heap.size,0,none⟩) 1 1, .string ⟨#[99,111,112,121]⟩, .int .i64 5, .string ⟨#[]⟩, .slice none 0 0, .string ⟨#[]⟩] 25))
    have FF3:=aim (cR A1.out.few (show∀i∈([(4,⟨#[113]⟩,[],⟨#[]⟩),(3,⟨#[97]⟩,[(4,⟨#[97]⟩,0)],⟨#[99,111,112,121]⟩),(5,⟨#[]⟩,[],⟨#[]⟩)]:List It),dT i from fun i hi=>by
     simp only [List.mem_cons,List.not_mem_nil,or_false] at hi
     rcases hi with rfl|rfl|rfl
     ·exact co 4 (by decide)
     ·exact ⟨by decide,by decide,by decide,by decide⟩
     ·exact co 5 (by decide)))
    have hla:=HFL.out;have HN3:=aim (show (l++([(4,⟨#[113]⟩,[],⟨#[]⟩),(3,⟨#[97]⟩,[(4,⟨#[97]⟩,0)],⟨#[99,111,112,121]⟩),(5,⟨#[]⟩,[],⟨#[]⟩)]:List It)).length≤11 by rw [aio,show ([(4,⟨#[113]⟩,[],⟨#[]⟩),(3,⟨#[97]⟩,[(4,⟨#[97]⟩,0)],⟨#[99,111,112,121]⟩),(5,⟨#[]⟩,[],⟨#[]⟩)]:List It).length=3 from rfl];omega);have hw1:w.heap.size≤w1.heap.size:=A1.out.st.gr.size;clear g3 hsz
    go_wp2_with (at_builtin;refine cj rfl _ _ rfl w.heap.size w1.heap.size (.slice (some ⟨ag,0,none⟩) l.length ac0) (.slice (some ⟨w1.heap.size+1,0,none⟩) 3 3) us ([.slice none 0 0, .slice (some ⟨w1.heap.size,0,none⟩) 1 1, .slice none 0 0]:List Value) l ([(4,⟨#[113]⟩,[],⟨#[]⟩),(3,⟨#[97]⟩,[(4,⟨#[97]⟩,0)],⟨#[99,111,112,121]⟩),(5,⟨#[]⟩,[],⟨#[]⟩)]:List It) rfl HO1.out rfl G3.out LT3.out (by simp;omega) (by simp;omega) ?_;intro vb wb hob hgrb hatb;have AB:=aim (AfG.new (n:=11) HS1.out A1.out.va hob hgrb hatb FF3.out HN3.out);clear hob hgrb hatb)
    go_wp2;go_ret;exact ⟨_,_,rfl,AB.out.own.reads,AB.out.few,by have:=AB.out.len;omega,AB.out.st.rd.mono (by omega),AB.out.st.gr⟩
   ·have hxb:(x==0)=false:=beq_eq_false_iff_ne.mpr hx
    go_wp2;go_ret;exact ⟨_,_,rfl,A1.out.own.reads,A1.out.few,by have:=HFL.out;omega,A1.out.st.rd.mono (by omega),A1.out.st.gr⟩
theorem xm:mG:=ag4 ac1 ag0
end Go.Proofs.YthijkjnngfnfdaaGreatDoor
