/-
  Drawn documents that can be evaluated, mostly: spec.l20Sound; documents as l20Any wants them.
-/
import Derived.Test.YtegdjjjpoahamaaGreatDoorDrawDoc
import Derived.Test.YtegdjjjpoahamaaGreatDoorDrawAny
set_option linter.unusedVariables false
set_option maxHeartbeats 8000000
set_option maxRecDepth 100000
namespace Go.Proofs.YtegdjjjpoahamaaGreatDoor
open Go.RowKit
theorem doc_ok:DocOK:=by
 intro R p n w hp h0 h1 h
 refine (document_any R p n w (by omega) h0 h1 h).mono ?_
 rintro e w' ⟨v,us,l,he,ho,hf,hl,hr,hg⟩
 exact ⟨v,l,he,ho.reads,hf,by omega,hr.mono (by omega),hg⟩
def nmS:Nat→ByteArray
 |0=>⟨#[97]⟩
 |1=>⟨#[98]⟩
 |2=>⟨#[99]⟩
 |_=>⟨#[120,49]⟩
theorem nmS_size (q:Nat):(nmS q).size≤3:=by
 match q with
 |0=>decide
 |1=>decide
 |2=>decide
 |_+3=>exact (show (2:Nat)≤3 by omega)
def NmS (w:World) (M:Nat):Prop:= ∀q,q<4→w.cell? ⟨M,q,none⟩=some (.string (nmS q))
theorem NmS.grown {w w':World} {M:Nat} {r:Option Nat} (h:NmS w M) (hg:w.grownBy w' r) (hr:r≠some M):NmS w' M:=fun q hq=>hg.cell (h q hq) (fun e=>hr e.symm)
theorem typ_three (j:Nat) (hj:j≤2) (k:Int) (hk:0≤k∧k<3) (R p:Nat) (w:World) (hp:p+173<1073741824) (h:Rdm w R p):
  Calls Tryz.prog 125 #[.pointer (some ⟨R,0,none⟩), .int .i64 (1+(j:Int)), .int .i64 k] w (TypD R p 173 13 w):=by
 have hK:kt (j+1)≤173∧ct (j+1)≤13:=by
  have:j=0∨j=1∨j=2:=by omega
  rcases this with rfl|rfl|rfl<;>decide
 have:=typ_any (j+1) (by omega) (by omega) k (by omega) R p w (by omega) h
 rw [show ((j+1:Nat):Int)=1+(j:Int) by omega] at this
 refine this.mono ?_
 rintro e w' ⟨v,l,he,ho,hs,hl,hc,hr,hg⟩
 exact ⟨v,l,he,ho,hs,hl,by omega,hr.mono (by omega),hg⟩
theorem KeptC.lowerK {w:World} {base base':Nat} {r:Option Nat} {u:Value} {l:List Cl} (h:KeptC w base r u l) (hb:base'≤base):KeptC w base' r u l:=
 fun w' h1 h2=>h w' (fun b hb' hl hn=>h1 b (by omega) hl hn) h2
theorem RowK.kept {w:World} {B:Nat} {u:Value} {l:List Cl} (h:RowK B w u l):KeptC w B (some w.heap.size) u l:=
 fun w' h1 h2=>h w' (fun b hb hl=>h1 b hb hl (fun e=>by injection e with e;omega)) h2
theorem lit_G3 {w:World} {base:Nat} {n1 n2 t2:ByteArray} {u:Value} {x:List Cl} (hb:base≤w.heap.size) (hu:KeptC w base (some w.heap.size) u x):
  OwnG (w.alloc (.cells #[.int .i64 4, .string n1, .slice none 0 0, .string ⟨#[]⟩, .int .i64 3, .string n2,u, .string t2, .int .i64 5, .string ⟨#[]⟩, .slice none 0 0, .string ⟨#[]⟩] 32)) base (.slice (some ⟨w.heap.size,0,none⟩) 3 3)
   [.slice none 0 0,u, .slice none 0 0] [(4,n1,[],⟨#[]⟩),(3,n2,x,t2),(5,⟨#[]⟩,[],⟨#[]⟩)]:=
 ⟨own_base (World.ownsRow_lit (e:=32) (size:=4) (base:=w.heap.size) w _ 3 (Nat.le_refl _) (by unfold maxLen;omega) rfl) (fun g hg=>by
   have:g=w.heap.size:=by simpa [Value.ownBlock] using hg.symm
   omega),rfl,fun j h1 h2=>by
   have hj:j=0∨j=1∨j=2:=by simp at h1;omega
   rcases hj with rfl|rfl|rfl
   ·exact KeptC.nil
   ·exact hu.keep (fun b _ hl _=>Below.heap_alloc _ _ _ hl) (by simp) (fun b hl e=>e)
   ·exact KeptC.nil,⟨_,_,rfl⟩⟩
structure AfG (w wr:World) (R M q n:Nat) (v:Value) (us:List Value) (l:List It):Prop extends AfD w wr R q n v us l where
 ne:v.ownBlock≠some M
 nm:NmS wr M
 le:w.heap.size≤M
 ml:M<wr.heap.size
section
variable {w wr w':World} {R M q q' n n':Nat} {v v':Value} {us us':List Value} {l l':List It}
theorem AfG.call (h:AfG w wr R M q n v us l) (hr:Rdm w' R q') (hg:wr.grownBy w' (some R)):AfG w w' R M q' n v us l:=
 ⟨h.toAfD.call hr hg,h.ne,h.nm.grown hg (by intro e;injection e with e;have:=h.lt;have:=h.le;omega),h.le,by have:=h.ml;have:=hg.size;omega⟩
theorem AfG.more (h:AfG w wr R M q n v us l) (hq:q≤q') (hn:n≤n'):AfG w wr R M q' n' v us l:=⟨h.toAfD.more hq hn,h.ne,h.nm,h.le,h.ml⟩
theorem AfG.step {r:Option Nat} (h:AfG w wr R M q n v us l) (a:AfD w w' R q' n' v' us' l') (hg:wr.grownBy w' r) (hr:r≠some M) (hv: ∀b,v'.ownBlock=some b→b≠M):AfG w w' R M q' n' v' us' l':=
 ⟨a,fun e=>hv M e rfl,h.nm.grown hg hr,h.le,by have:=h.ml;have:=hg.size;omega⟩
theorem AfG.al (h:AfG w wr R M q n v us l) (o:Obj):AfG w (wr.alloc o) R M q n v us l:=
 h.step (h.toAfD.al o) (World.grownBy_alloc wr o none) (by simp) (fun b hb e=>h.ne (e▸hb))
theorem AfG.fresh (h:AfG w wr R M q n v us l) {o:Obj} (hg:(wr.alloc o).grownBy w' (some wr.heap.size)):AfG w w' R M q n v us l:=
 have hk: ∀b,b<wr.heap.size→w'.heap[b]? =wr.heap[b]? :=fun b hb=>(hg.block b (by simp;omega) (fun e=>by have e:=Option.some.inj e;omega)).trans (Below.heap_alloc _ _ _ hb)
 have hs:wr.heap.size≤w'.heap.size:=by have:=hg.size;simp at this;omega
 have hg2:wr.grownBy w' none:=⟨hg.os,hg.tape,hg.output,hs,fun i hi _=>hk i hi⟩
 h.step ⟨h.own.keep (fun b _ hb=>hk b hb) hs,h.few,h.len,h.rd.kept hg2 (by simp),grown_trans h.gr ⟨hg.os,hg.tape,hg.output,hs,fun i hi _=>hk i hi⟩,h.lt⟩ hg2 (by simp) (fun b hb e=>h.ne (e▸hb))
end
theorem sound_ok:SoundOK:=by
 intro R p w hp h
 have HLT:=Lib.hid h.lt
 obtain ⟨i0,hi,hz0,hz1,hz2⟩:=info_parts infoC
 have HA0:=Lib.hid (show AfG w ((w.alloc (.cells #[] 32)).alloc (.cells #[.string ⟨#[97]⟩, .string ⟨#[98]⟩, .string ⟨#[99]⟩, .string ⟨#[120,49]⟩] 9)) R (w.heap.size+1) p 0 (.slice (some ⟨w.heap.size,0,none⟩) 0 0) [] [] from
  ⟨(AfD.lit h (World.grownBy.refl _ _) h).al _,by simp [Value.ownBlock],fun q hq=>by
    match q,hq with
    |0,_=>show _=some (Value.string ⟨#[97]⟩);simp [go_sem]
    |1,_=>show _=some (Value.string ⟨#[98]⟩);simp [go_sem]
    |2,_=>show _=some (Value.string ⟨#[99]⟩);simp [go_sem]
    |3,_=>show _=some (Value.string ⟨#[120,49]⟩);simp [go_sem],by omega,by simp⟩)
 clear h
 go_enter Tryz.func80,Tryz.ntmps80
 go_wp2_with fail
 go_loopw [3,5] (fun a i wr=> ∃(k:Nat) (us:List Value) (l:List It),k≤4∧i= .int .i64 (k:Int)∧AfG w wr R (w.heap.size+1) (p+k*200) (2*k) a us l) (fun _ i _=>4-(intOf i).toNat)
 case atStart=>exact ⟨0,[],[],Nat.zero_le _,rfl,HA0.out.more (by omega) (by omega)⟩
 case round=>
  obtain ⟨k,us,l,hk,rfl,hA⟩:=hrel
  have HA:=Lib.hid hA
  obtain ⟨ag,ac0,rfl⟩:=hA.own.is
  clear hA HA0
  by_cases hlt:k<4
  ·have hltI:(k:Int)<4:=by omega
   have hk0:(0:Int)≤(k:Int):=by omega
   have HFL:=Lib.hid HA.out.len
   obtain ⟨t,ht,hT⟩: ∃t:ByteArray,t.size≤3∧nmS k=t:=⟨_,nmS_size k,rfl⟩
   have HT:=Lib.hid hT;clear hT
   go_wp2_with fail
   refine (pick_any R _ 3 _ (by omega) HA.out.rd).mono ?_
   rintro e w1 ⟨x,rfl,hx0,hx1,-,hr1,hg1,-⟩
   have hx2:=hx1 (by omega)
   obtain ⟨x1,rfl⟩:=Int.eq_ofNat_of_zero_le hx0
   have A1:=Lib.hid (HA.out.call hr1 hg1)
   clear hx1 hr1 hg1
   go_wp2_with fail
   refine (pick_any R _ 3 _ (by omega) A1.out.rd).mono ?_
   rintro e w2 ⟨y,rfl,hy0,hy1,-,hr2,hg2,-⟩
   have hy2:=hy1 (by omega)
   have A2:=Lib.hid (A1.out.call hr2 hg2)
   clear hy1 hr2 hg2
   have HTY:=Lib.hid (typ_three x1 (by omega) y (by omega) R _ w2 (by omega) A2.out.rd)
   go_wp2_with fail
   refine HTY.out.mono ?_
   rintro e w3 ⟨v3,l3,rfl,ho3,hs3,h13,hc3,hr3,hg3⟩
   have A3:=Lib.hid (A2.out.call hr3 hg3)
   have E3:=Lib.hid (RowK.of_own ho3 (Nat.le_refl _))
   have hsz3:w2.heap.size≤w3.heap.size:=hg3.size
   obtain ⟨a3,c3,rfl⟩:=own_shape ho3
   have F3:=Lib.hid (show (∀c∈l3,c.2.1.size≤60)∧l3.length≤15 from ⟨fun c hc=>Nat.le_trans (hs3 c hc) (by omega),by omega⟩)
   have HBL:=Lib.hid (show∀b,(Value.slice (some ⟨ag,0,none⟩) l.length ac0).ownBlock=some b→b<w2.heap.size from A2.out.blt)
   clear hr3 hg3 ho3 hs3 h13 hc3 HTY A1
   rcases Nat.eq_zero_or_pos k with hk1|hk1
   case' inl=>
    have hkI: ¬(0:Int)<(k:Int):=by omega
    clear hk1
    obtain ⟨w6,h6⟩: ∃x,x=w3:=⟨_,rfl⟩
    obtain ⟨l6,hl6⟩: ∃x,x=l3:=⟨_,rfl⟩
    subst h6;subst hl6
    obtain ⟨a6,ha6⟩: ∃x,x=a3:=⟨_,rfl⟩
    obtain ⟨c6,hc6⟩: ∃x,x=c3:=⟨_,rfl⟩
    subst ha6;subst hc6
    have A6:=Lib.hid (A3.out.more (show _≤p+k*200+180 by omega) (Nat.le_refl _));have E6:=Lib.hid E3.out;have F6:=Lib.hid F3.out
    have hs6:w2.heap.size≤w6.heap.size:=hsz3
    have d6:w6.cell? ⟨w.heap.size+1,k,none⟩=some (.string t):=by rw [←HT.out];exact A6.out.nm k hlt
   case' inr=>
    have hkI:(0:Int)<(k:Int):=by omega
    go_wp2_with fail
    refine (pick_any R _ 2 _ (by omega) A3.out.rd).mono ?_
    rintro e w5 ⟨z,rfl,hz0',hz1',-,hr5,hg5,-⟩
    have A5:=Lib.hid (A3.out.call hr5 hg5)
    have E5:=Lib.hid (E3.out.keep (fun b hb hl=>hg5.block b hl (fun e=>by injection e with e;have:=HLT.out;have:=A2.out.gr.size;omega)) hg5.size)
    have hsz5:w2.heap.size≤w5.heap.size:=Nat.le_trans hsz3 hg5.size
    clear hr5 hg5 hz1'
    by_cases hz:z=0
    case' neg=>
     have hzb:(z==0)=false:=beq_eq_false_iff_ne.mpr hz
     obtain ⟨w6,h6⟩: ∃x,x=w5:=⟨_,rfl⟩
     obtain ⟨l6,hl6⟩: ∃x,x=l3:=⟨_,rfl⟩
     subst h6;subst hl6
     obtain ⟨a6,ha6⟩: ∃x,x=a3:=⟨_,rfl⟩
     obtain ⟨c6,hc6⟩: ∃x,x=c3:=⟨_,rfl⟩
     subst ha6;subst hc6
     have A6:=Lib.hid (A5.out.more (show _≤p+k*200+180 by omega) (Nat.le_refl _));have E6:=Lib.hid E5.out;have F6:=Lib.hid F3.out
     have hs6:w2.heap.size≤w6.heap.size:=hsz5
     have d6:w6.cell? ⟨w.heap.size+1,k,none⟩=some (.string t):=by rw [←HT.out];exact A6.out.nm k hlt
    case' pos=>
     subst hz
     go_wp2_with fail
     refine (pick_any R _ (k:Int) _ (by omega) A5.out.rd).mono ?_
     rintro e w7 ⟨y7,rfl,hj0,hj1,-,hr7,hg7,-⟩
     have hj2:=hj1 (by omega)
     obtain ⟨j,rfl⟩:=Int.eq_ofNat_of_zero_le hj0
     have hj4:(j:Int)<4:=by omega
     have A7:=Lib.hid (A5.out.call hr7 hg7)
     have E7:=Lib.hid (E5.out.keep (fun b hb hl=>hg7.block b hl (fun e=>by injection e with e;have:=HLT.out;have:=A2.out.gr.size;omega)) hg7.size)
     have hsz7:w2.heap.size≤w7.heap.size:=Nat.le_trans hsz5 hg7.size
     obtain ⟨tj,htj,hTj⟩: ∃t:ByteArray,t.size≤3∧nmS j=t:=⟨_,nmS_size j,rfl⟩
     have dj:w7.cell? ⟨w.heap.size+1,j,none⟩=some (.string tj):=by rw [←hTj];exact A7.out.nm j (by omega)
     clear hr7 hg7 hj1 hTj
     obtain ⟨l6,hl6⟩: ∃x:List Cl,x=[(5,⟨#[]⟩,2),(4,tj,0)]++l3:=⟨_,rfl⟩
     have F6:=Lib.hid (show (∀c∈l6,c.2.1.size≤60)∧l6.length≤17 by
      rw [hl6]
      refine ⟨fun c hc=> ?_,by have:=F3.out.2;simp;omega⟩
      simp only [List.cons_append,List.nil_append,List.mem_cons] at hc
      rcases hc with rfl|rfl|hc
      ·exact Nat.zero_le _
      ·exact Nat.le_trans htj (by omega)
      ·exact F3.out.1 c hc)
     have HN6:=Lib.hid (show 2+l3.length=l6.length by rw [hl6];simp;omega)
     have HFC:=Lib.hid (show [Value.int .i64 5, .string ⟨#[]⟩, .int .i64 2, .int .i64 4, .string tj, .int .i64 0]++flatC l3=flatC l6 by rw [hl6];rfl)
     have HL3:=Lib.hid F3.out.2
     have HLI:=Lib.hid (World.ownsRow_lit (base:=w7.heap.size) (size:=3) (e:=110) w7 #[.int .i64 5, .string ⟨#[]⟩, .int .i64 2, .int .i64 4, .string tj, .int .i64 0] 2 (Nat.le_refl _) (by unfold maxLen;omega) rfl)
     have A8:=Lib.hid (A7.out.more (show _≤p+k*200+180 by omega) (Nat.le_refl _))
     clear hl6
     go_wp2_with (at_builtin;refine append_rowC rfl _ _ 30 rfl w7.heap.size 110 i0 (.agg #[.int .i64 0, .string ByteArray.empty, .int .i64 0]) 32 Tryz.underlying30 hi hz0 hz1 hz2 (by decide) (.slice (some ⟨w7.heap.size,0,none⟩) 2 2) 2 _ rfl HLI.out _ l3 rfl (E7.out.row.al _) (by have:=HL3.out;unfold maxLen;omega) (by have:=HL3.out;omega) (by simp) ?_;intro v6 w6 hown6 hgrow6;rw [show (#[Value.int .i64 5, .string ⟨#[]⟩, .int .i64 2, .int .i64 4, .string tj, .int .i64 0]:Array Value).toList++flatC l3=flatC l6 from HFC.out,HN6.out] at hown6;have E6:=Lib.hid (RowK.of_own hown6 hsz7);obtain ⟨a6,c6,rfl⟩:=own_shape hown6;have hs6:w2.heap.size≤w6.heap.size:=(by have:=hgrow6.size;simp at this;omega);have A6:=Lib.hid (A8.out.fresh hgrow6);have d6:w6.cell? ⟨w.heap.size+1,k,none⟩=some (.string t):=(by rw [←HT.out];exact A6.out.nm k hlt);clear hown6 hgrow6)
   all_goals
    (try go_wp2_with fail)
    have I6:=Lib.hid (It4.new w6 (.int .i64 3) (.string t) (.slice a6 l6.length c6) (.string ⟨#[]⟩) 32)
    have A7:=Lib.hid (A6.out.al (.cells #[.int .i64 3, .string t, .slice a6 l6.length c6, .string ⟨#[]⟩] 32))
    refine (pick_any R _ 2 _ (by omega) A7.out.rd).mono ?_
    rintro e w8 ⟨z8,rfl,hz80,hz81,-,hr8,hg8,-⟩
    have A8:=Lib.hid (A7.out.call hr8 hg8)
    have I8:=Lib.hid (I6.out.grownR hg8 (by have:=A6.out.gr.size;have:=A6.out.lt;omega))
    have hs8:w2.heap.size≤w8.heap.size:=(by have:=hg8.size;simp at this;omega)
    have K8:=Lib.hid (RowK.kept (E6.out.keep (w1:=w8) (fun b hb hl=>(hg8.block b (by simp;omega) (fun e=>by injection e with e;have:=HLT.out;have:=A2.out.gr.size;omega)).trans (Below.heap_alloc _ _ _ hl)) (by have:=hg8.size;simp at this;omega)))
    have FI:=Lib.hid (show FewI (3,t,l6,⟨#[]⟩) from ⟨Nat.le_trans ht (by omega),F6.out.1,by have:=F6.out.2;show l6.length≤60;omega,by show (0:Nat)≤61;omega⟩)
    have hw2:w.heap.size≤w2.heap.size:=A2.out.gr.size
    have hml:=A8.out.ml
    obtain ⟨⟨z0,z1,z2,z3⟩,-,-⟩:=I8.out
    clear hr8 hg8 hz81
    by_cases hz8:z8=0
    case' pos=>
     subst hz8
     go_wp2_with (at_builtin;refine back_D rfl A8.out.toAfD _ _ rfl rfl rfl K8.out FI.out hw2 hs8 HBL.out (by omega) ?_;intro v9 w9 U9 L9 a9 b9 e9 g9;have A9:=Lib.hid (A8.out.step a9 g9 A8.out.ne (fun x hx e=>by rcases b9 x hx with h|h;exact A8.out.ne (e▸h);omega));obtain ⟨g9,c9,rfl⟩:=a9.own.is;clear a9 b9 e9)
    case' neg=>
     have hz8b:(z8==0)=false:=beq_eq_false_iff_ne.mpr hz8
     go_wp2_with (at_builtin;refine front_D rfl A8.out.toAfD _ _ rfl rfl rfl K8.out FI.out hw2 hs8 (by omega) ?_;intro v9 w9 U9 L9 a9 b9 e9 g9;have A9:=Lib.hid (A8.out.step a9 g9 (by simp) (fun x hx e=>by rcases b9 x hx with h|h<;>omega));obtain ⟨g9,c9,rfl⟩:=a9.own.is;clear a9 b9 e9)
    all_goals
     (try go_wp2_with fail)
     refine (pick_any R _ 4 _ (by omega) A9.out.rd).mono ?_
     rintro e wa ⟨za,rfl,hza0,hza1,-,hra,hga,-⟩
     have AA:=Lib.hid (A9.out.call hra hga)
     clear hra hga hza1
     by_cases hza:za=0
     ·subst hza
      go_wp2_with (at_builtin;refine back_Z rfl AA.out.toAfD _ _ rfl rfl rfl (by decide) (by omega) ?_;intro vb wb ub lb ab bb eb gb;have AB:=Lib.hid (AA.out.step ab gb AA.out.ne (fun x hx e=>by rcases bb x hx with h|h;exact AA.out.ne (e▸h);have:=AA.out.ml;omega));clear ab bb eb gb)
      go_wp2
      go_roundw
      case rel=>exact ⟨k+1,_,_,by omega,by go_num,AB.out.more (by omega) (by omega)⟩
      case measure=>simp [intOf]<;>omega
     ·have hzab:(za==0)=false:=beq_eq_false_iff_ne.mpr hza
      go_wp2
      go_roundw
      case rel=>exact ⟨k+1,_,_,by omega,by go_num,AA.out.more (by omega) (by omega)⟩
      case measure=>simp [intOf]<;>omega
  ·have hltI: ¬(k:Int)<4:=by omega
   obtain rfl:k=4:=by omega
   have HFL:=Lib.hid HA.out.len
   go_wp2_with fail
   refine (pick_any R _ 2 _ (by omega) HA.out.rd).mono ?_
   rintro e w1 ⟨x,rfl,hx0,hx1,-,hr1,hg1,-⟩
   have A1:=Lib.hid (HA.out.call hr1 hg1)
   clear hx1 hr1 hg1
   by_cases hx:x=0
   ·subst hx
    have HLI:=Lib.hid (World.ownsRow_lit (base:=w1.heap.size) (size:=3) (e:=110) w1 #[.int .i64 4, .string ⟨#[97]⟩, .int .i64 0] 1 (Nat.le_refl _) (by unfold maxLen;omega) rfl)
    have HKE:=Lib.hid (RowK.kept (RowK.of_own (l:=[(4,⟨#[97]⟩,0)]) HLI.out (Nat.le_refl _)))
    have hsz:(w1.alloc (.cells #[.int .i64 4, .string ⟨#[97]⟩, .int .i64 0] 110)).heap.size=w1.heap.size+1:=by simp
    have g3:=lit_G3 (w:=w1.alloc (.cells #[.int .i64 4, .string ⟨#[97]⟩, .int .i64 0] 110)) (n1:=⟨#[113]⟩) (n2:=⟨#[97]⟩) (t2:=⟨#[99,111,112,121]⟩) (base:=w1.heap.size) (by simp) HKE.out
    rw [hsz] at g3
    have G3:=Lib.hid g3
    have LT3:=Lib.hid (G3.out.later A1.out.gr.size A1.out.blt)
    have AL:=Lib.hid ((A1.out.toAfD.al (.cells #[.int .i64 4, .string ⟨#[97]⟩, .int .i64 0] 110)).al (.cells #[.int .i64 4, .string ⟨#[113]⟩, .slice none 0 0, .string ⟨#[]⟩, .int .i64 3, .string ⟨#[97]⟩, .slice (some ⟨w1.heap.size,0,none⟩) 1 1, .string ⟨#[99,111,112,121]⟩, .int .i64 5, .string ⟨#[]⟩, .slice none 0 0, .string ⟨#[]⟩] 32))
    have FF3:=Lib.hid (show∀i∈([(4,⟨#[113]⟩,[],⟨#[]⟩),(3,⟨#[97]⟩,[(4,⟨#[97]⟩,0)],⟨#[99,111,112,121]⟩),(5,⟨#[]⟩,[],⟨#[]⟩)]:List It),FewI i from fun i hi=>by
     simp only [List.mem_cons,List.not_mem_nil,or_false] at hi
     rcases hi with rfl|rfl|rfl
     ·exact few_simple 4 (by decide)
     ·exact ⟨by decide,by decide,by decide,by decide⟩
     ·exact few_simple 5 (by decide))
    clear g3 hsz
    go_wp2_with (at_builtin;refine app_D (m:=11) rfl AL.out _ _ rfl rfl rfl G3.out LT3.out FF3.out (Nat.le_refl _) (by omega) ?_;rintro vb wb ub lb ab- - -;have AB:=Lib.hid ab;clear ab)
    go_wp2
    go_ret
    exact ⟨_,_,rfl,AB.out.own.reads,AB.out.few,by have:=AB.out.len;omega,AB.out.rd.mono (by omega),AB.out.gr⟩
   ·have hxb:(x==0)=false:=beq_eq_false_iff_ne.mpr hx
    go_wp2
    go_ret
    exact ⟨_,_,rfl,A1.out.own.reads,A1.out.few,by have:=HFL.out;omega,A1.out.rd.mono (by omega),A1.out.gr⟩
theorem any_ok:AnyOK:=any_of sound_ok doc_ok
end Go.Proofs.YtegdjjjpoahamaaGreatDoor
