/-
  Drawn bindings, often bent: spec.l20Bindings.
-/
import Derived.Test.YthillfgjpalpcaaGreatDoorDrawValue
import Derived.Test.YthillfgjpalpcaaGreatDoorGBi
import Derived.Deep.RegionHeld3
set_option linter.unusedVariables false
set_option maxHeartbeats 8000000
set_option maxRecDepth 100000
namespace Go.Proofs.YthillfgjpalpcaaGreatDoor
open Go.RowKit
def FewB (b:Bd):Prop:=b.1.size≤3∧(∀c∈b.2,c.2.1.size≤60)∧b.2.length≤5
theorem fewB_snoc {env:List Bd} {b:Bd} (h: ∀x∈env,FewB x) (hb:FewB b): ∀x∈env++[b],FewB x:=by
 intro x hx
 rw [List.mem_append,List.mem_singleton] at hx
 rcases hx with hx|rfl
 ·exact h x hx
 ·exact hb
theorem lit_B (w:World):OwnB (w.alloc (.cells #[] 46)) w.heap.size (.slice (some ⟨w.heap.size,0,none⟩) 0 0) [] []:=
 ⟨World.ownsRow_lit (e:=46) (size:=2) (base:=w.heap.size) w #[] 0 (Nat.le_refl _) (by unfold maxLen;omega) rfl,rfl,fun k h=>by simp at h,fun k h=>by simp at h,fun i j h=>by simp at h⟩
theorem OwnB.grownR {w w':World} {base R:Nat} {v:Value} {us:List Value} {env:List Bd} (h:OwnB w base v us env) (hg:w.grownBy w' (some R)) (hR:R<base):OwnB w' base v us env:=
 h.keep (fun b hb hlt=>hg.block b hlt (fun e=>by cases e;omega))
theorem OwnB.pushN {wr w1 w2:World} {base gg:Nat} {a v':Value} {us us2:List Value} {env env2:List Bd} (h:OwnB wr base a us env) (hbase:base≤wr.heap.size) (hW: ∀b,base≤b→b<wr.heap.size→w1.heap[b]? =wr.heap[b]?) (hs1:wr.heap.size≤w1.heap.size) (hl2:us2.length=env2.length)
  (hu: ∀k (h1:k<us2.length) (h2:k<env2.length),w1.ownsRow wr.heap.size 44 3 us2[k] env2[k].2.length (flatC env2[k].2)) (hap: ∀i j (hi:i<us2.length) (hj:j<us2.length) b,us2[i].ownBlock=some b→us2[j].ownBlock=some b→i=j)
  (o:Obj) (hgrow:(w1.alloc o).grownBy w2 a.ownBlock) (hrow:w2.ownsRow base 46 2 v' (env.length+env2.length) (bindF env us++bindF env2 us2)) (hvb:v'.ownBlock=some gg) (hat:a.ownBlock=some gg∨gg=w1.heap.size+1):
  OwnB w2 base v' (us++us2) (env++env2):=by
 have hl:=h.len
 have hal: ∀x,a.ownBlock=some x→base≤x∧x<wr.heap.size:=fun x hx=>h.row.lt x hx
 have hw2: ∀b,b<w1.heap.size→a.ownBlock≠some b→w2.heap[b]? =w1.heap[b]? :=fun b hb hne=>by
  rw [hgrow.block b (by simp;omega) (fun e=>hne e.symm),Below.heap_alloc _ _ _ hb]
 have hul: ∀k (h1:k<us2.length) x,us2[k].ownBlock=some x→wr.heap.size≤x∧x<w1.heap.size:=fun k h1 x hx=>(hu k h1 (by omega)).lt x hx
 have hkl: ∀k (h1:k<us.length) x,us[k].ownBlock=some x→base≤x∧x<wr.heap.size:=fun k h1 x hx=>(h.each k h1 (by omega)).lt x hx
 have hcut: ∀k (h1:k<(us++us2).length),(∃h:k<us.length,(us++us2)[k]=us[k])∨(∃h:k-us.length<us2.length,us.length≤k∧(us++us2)[k]=us2[k-us.length]):=by
  intro k h1
  by_cases hk:k<us.length
  ·exact .inl ⟨hk,List.getElem_append_left hk⟩
  ·rw [List.length_append] at h1
   exact .inr ⟨by omega,by omega,List.getElem_append_right (by omega)⟩
 refine ⟨?_,by simp [hl,hl2], ?_, ?_, ?_⟩
 ·rw [List.length_append,bindF_append env us env2 us2 (by omega)]
  exact hrow
 ·intro k h1 h2
  rcases hcut k h1 with ⟨hk,e⟩|⟨hk,hkl2,e⟩
  ·rw [e,List.getElem_append_left (by omega)]
   exact own_keep (h.each k hk (by omega)) (fun g hg=>by
    have h3:=hkl k hk g hg
    rw [hw2 g (by omega) (h.far k hk g hg),hW g h3.1 h3.2])
  ·have e2:(env++env2)[k]=env2[k-us.length]'(by omega):=by
    rw [List.getElem_append_right (by omega)];congr 1;omega
   rw [e,e2]
   exact own_base (own_keep (hu _ hk (by omega)) (fun g hg=>hw2 g (hul _ hk g hg).2 (fun e=>by have:=hal g e;have:=hul _ hk g hg;omega))) (fun g hg=>by have:=hul _ hk g hg;omega)
 ·intro k h1 b hb
  rw [hvb]
  intro e0
  injection e0 with e0
  subst e0
  rcases hcut k h1 with ⟨hk,e⟩|⟨hk,hkl2,e⟩
  ·rw [e] at hb
   rcases hat with hat|hat
   ·exact h.far k hk _ hb hat
   ·have:=hkl k hk _ hb;omega
  ·rw [e] at hb
   have:=hul _ hk _ hb
   rcases hat with hat|hat
   ·have:=hal _ hat;omega
   ·omega
 ·intro i j h1 h2 b hi hj
  rcases hcut i h1 with ⟨hki,ei⟩|⟨hki,hki2,ei⟩
  ·rw [ei] at hi
   rcases hcut j h2 with ⟨hkj,ej⟩|⟨hkj,hkj2,ej⟩
   ·rw [ej] at hj;exact h.apart i j hki hkj b hi hj
   ·rw [ej] at hj
    have:=hkl i hki b hi;have:=hul _ hkj b hj;omega
  ·rw [ei] at hi
   rcases hcut j h2 with ⟨hkj,ej⟩|⟨hkj,hkj2,ej⟩
   ·rw [ej] at hj
    have:=hkl j hkj b hj;have:=hul _ hki b hi;omega
   ·rw [ej] at hj
    have:=hap _ _ hki hkj b hi hj;omega
theorem OwnB.pushB {wr w1 w2:World} {base gg:Nat} {a v' u:Value} {us:List Value} {env:List Bd} {nm:ByteArray} {l:List Cl} (h:OwnB wr base a us env) (hbase:base≤wr.heap.size) (hW: ∀b,base≤b→b<wr.heap.size→w1.heap[b]? =wr.heap[b]?) (hs1:wr.heap.size≤w1.heap.size)
  (hu:w1.ownsRow wr.heap.size 44 3 u l.length (flatC l)) (o:Obj) (hgrow:(w1.alloc o).grownBy w2 a.ownBlock) (hrow:w2.ownsRow base 46 2 v' (env.length+1) (bindF env us++[.string nm,u])) (hvb:v'.ownBlock=some gg) (hat:a.ownBlock=some gg∨gg=w1.heap.size+1):
  OwnB w2 base v' (us++[u]) (env++[(nm,l)]):=
 h.pushN hbase hW hs1 (us2:=[u]) (env2:=[(nm,l)]) rfl (fun k h1 h2=>by
  obtain rfl:k=0:=by simpa using h1
  exact hu) (fun i j hi hj _ _ _=>by simp at hi hj;omega) o hgrow hrow hvb hat
def BindsD (R p:Nat) (w:World) (e:Ending) (w':World):Prop:=
 ∃(v:Value) (us:List Value) (env:List Bd),e= .returned v∧OwnB w' w.heap.size v us env∧(∀b∈env,FewB b)∧env.length≤7∧Rdm w' R (p+2000)∧w.grownBy w' (some R)
def NmRow (w:World) (M:Nat):Prop:= ∀q,q<5→ ∃t:ByteArray,t.size≤3∧w.cell? ⟨M,q,none⟩=some (.string t)
theorem NmRow.grown {w w':World} {M:Nat} {r:Option Nat} (h:NmRow w M) (hg:w.grownBy w' r) (hr:r≠some M):NmRow w' M:=fun q hq=>by
 obtain ⟨t,ht,hc⟩:=h q hq
 exact ⟨t,ht,hg.cell hc (fun e=>hr e.symm)⟩
theorem NmRow.alloc {w:World} {M:Nat} (h:NmRow w M) (o:Obj):NmRow (w.alloc o) M:=h.grown (World.grownBy_alloc w o none) (by simp)
theorem val_two (R p:Nat) (w:World) (hp:p+260<1073741824) (h:Rdm w R p):
  Calls Tryz.prog 78 #[.pointer (some ⟨R,0,none⟩), .int .i64 2, .int .i64 0] w (ValD R p 260 4 0 w):=by
 have e1:kv (1+1)=260:=by decide
 have e2:cv (1+1)=4:=by decide
 have:=value_all 1 (by omega) R p 0 w (by rw [e1];exact hp) (by omega) (by omega) h
 rwa [e1,e2] at this
theorem val_one (R p:Nat) (w:World) (hp:p+80<1073741824) (h:Rdm w R p):
  Calls Tryz.prog 78 #[.pointer (some ⟨R,0,none⟩), .int .i64 1, .int .i64 0] w (ValD R p 80 1 0 w):=by
 have e1:kv (0+1)=80:=by decide
 have e2:cv (0+1)=1:=by decide
 have:=value_all 0 (by omega) R p 0 w (by rw [e1];exact hp) (by omega) (by omega) h
 rwa [e1,e2] at this
theorem bindings_any (R p:Nat) (n:Int) (w:World) (hp:p+3000<1073741824) (hn0:0≤n) (hn1:n≤1000) (h:Rdm w R p):
  Calls Tryz.prog 53 #[.pointer (some ⟨R,0,none⟩), .int .i64 n] w (BindsD R p w):=by
 have HLT:=zz h.lt
 obtain ⟨j0,hj,hy0,hy1,hy2⟩:=info_parts infoBd
 have HO0:=zz ((lit_B w).grownR (World.grownBy_alloc (w.alloc (.cells #[] 46)) (.cells #[.string ⟨#[97]⟩, .string ⟨#[98]⟩, .string ⟨#[99]⟩, .string ⟨#[120,49]⟩, .string ⟨#[113,46,97]⟩] 9) (some R)) HLT.out)
 have HR0:=zz ((h.kept (World.grownBy_alloc w (.cells #[] 46) none) (by simp)).kept (World.grownBy_alloc (w.alloc (.cells #[] 46)) (.cells #[.string ⟨#[97]⟩, .string ⟨#[98]⟩, .string ⟨#[99]⟩, .string ⟨#[120,49]⟩, .string ⟨#[113,46,97]⟩] 9) none) (by simp))
 have HG0:=zz (grown_alloc (World.grownBy_alloc w (.cells #[] 46) (some R)) (.cells #[.string ⟨#[97]⟩, .string ⟨#[98]⟩, .string ⟨#[99]⟩, .string ⟨#[120,49]⟩, .string ⟨#[113,46,97]⟩] 9))
 have HN0:=zz (show NmRow ((w.alloc (.cells #[] 46)).alloc (.cells #[.string ⟨#[97]⟩, .string ⟨#[98]⟩, .string ⟨#[99]⟩, .string ⟨#[120,49]⟩, .string ⟨#[113,46,97]⟩] 9)) (w.heap.size+1) from fun q hq=>by
  match q,hq with
  |0,_=>exact ⟨⟨#[97]⟩,by decide,by simp [go_sem]⟩
  |1,_=>exact ⟨⟨#[98]⟩,by decide,by simp [go_sem]⟩
  |2,_=>exact ⟨⟨#[99]⟩,by decide,by simp [go_sem]⟩
  |3,_=>exact ⟨⟨#[120,49]⟩,by decide,by simp [go_sem]⟩
  |4,_=>exact ⟨⟨#[113,46,97]⟩,by decide,by simp [go_sem]⟩)
 clear h
 go_enter Tryz.func53,Tryz.ntmps53
 go_wp2_with fail
 go_loopw [5,7] (fun a i wr=> ∃(k:Nat) (us:List Value) (env:List Bd),k≤5∧i= .int .i64 (k:Int)∧OwnB wr w.heap.size a us env∧a.ownBlock≠some (w.heap.size+1)∧(∀b∈env,FewB b)∧env.length≤k∧NmRow wr (w.heap.size+1)∧Rdm wr R (p+k*261)∧w.grownBy wr (some R)) (fun _ i _=>5-(intOf i).toNat)
 case atStart=>exact ⟨0,[],[],Nat.zero_le _,rfl,HO0.out,by simp [Value.ownBlock],fun b h=>by simp at h,Nat.le_refl _,HN0.out,HR0.out.mono (by omega),HG0.out⟩
 case round=>
  obtain ⟨k,us,env,hk,rfl,hown,hne,hfew,hlen,hnm,hr,hg⟩:=hrel
  have HO:=zz hown;have HNE:=zz hne;have HF:=zz hfew;have HNM:=zz hnm;have HR:=zz hr;have HG:=zz hg
  clear hown hne hfew hnm hr hg
  by_cases hlt:k<5
  ·have hltI:(k:Int)<5:=by omega
   have hk0:(0:Int)≤(k:Int):=by omega
   go_wp2_with fail
   refine (pick_any R (p+k*261) 4 _ (by omega) HR.out).mono ?_
   rintro e w1 ⟨m,rfl,hm0,hm1,-,hr1,hg1,-⟩
   have hm2:=hm1 (by omega)
   have HO1:=zz (HO.out.grownR hg1 HLT.out)
   have HG1:=zz (grown_trans HG.out hg1)
   have HN1:=zz (HNM.out.grown hg1 (by intro e;injection e with e;have:=HLT.out;omega))
   have HR1:=zz (hr1.mono (show _≤p+k*261+1 by omega))
   clear hm1 hg1 hr1
   by_cases hmp:0<m
   ·obtain ⟨aa,ac,rfl⟩:=own_shape HO1.out.row
    obtain ⟨t,ht,d0⟩:=HN1.out k hlt
    have HNA:=zz (bindF_length env us HO1.out.len.symm)
    have hbw:w.heap.size≤w1.heap.size:=HG1.out.size
    have HNEA:=zz HNE.out
    have HVA:=zz (fun w' (hr':Rdm w' R (p+k*261+1))=>val_two R (p+k*261+1) w' (by omega) hr')
    have hMR:w.heap.size+1≠R:=by have:=HLT.out;omega
    have hlen5:env.length≤5:=by omega
    go_wp2_with fail
    go_region_held3 (fun w'=>w'.cell? ⟨w.heap.size+1,k,none⟩=some (.string t))
     (first
      |go_keep
      |exact d6
      |exact d5)
     ((first
      |(go_at_call 78;((with_reducible refine (HVA.out _ ?_).mono ?_);(focus (first|exact HR1.out|exact HR1.out.dr1));rintro e w5 ⟨v5,l5,rfl,ho5,hsh5,h15,⟨-,hc5,-⟩,hr5,hg5⟩;have d5:w5.cell? ⟨w.heap.size+1,k,none⟩=some (.string t):=hg5.cell d0 (fun e=>hMR (Option.some.inj e));obtain ⟨a5,c5,rfl⟩:=own_shape ho5;have HO5:=zz (show w5.ownsRow w1.heap.size 44 3 (.slice a5 l5.length c5) l5.length (flatC l5) from ho5);have HG5:=zz (show w1.grownBy w5 (some R) from ⟨hg5.os,hg5.tape,hg5.output,hg5.size,hg5.block⟩);have HR5:=zz hr5;have HS5:=zz (And.intro hsh5 hc5);have hs5:w1.heap.size≤w5.heap.size:=hg5.size;clear ho5 hsh5 h15 hc5 hr5 hg5))
      |(refine step_append_lies _ (by rfl) _ _ _ (by rfl) w.heap.size 46 j0 (.agg #[.string ByteArray.empty, .slice none 0 0]) 2 40 Tryz.underlying30 hj hy0 hy1 hy2 rfl (by decide) (.slice aa env.length ac) env.length (bindF env us) (by rfl) (by first|exact ((HO1.out.grownR HG5.out HLT.out).row.alloc _)|exact ((HO1.out.grownR HG5.out HLT.out).row.alloc _).drew) ⟨w5.heap.size,0,none⟩ 1 1 [.string t, .slice a5 l5.length c5] (by rfl) rfl (World.news_of_block (by first|exact heap_alloc_new w5 _|exact heap_alloc_new w5.drew _)) (by simp [Value.oneCell']) (by omega) (by unfold maxLen;omega) (by omega) (by simp;omega) (w5.heap.size+1) (by simp) ?_;intro gg cap' w6 hown6 hgrow6 hat6 hlt6;have d6:w6.cell? ⟨w.heap.size+1,k,none⟩=some (.string t):=hgrow6.cell ((World.grownBy_alloc w5 (.cells #[.string t, .slice a5 l5.length c5] 46) none).cell d5 (by simp)) (fun e=>HNEA.out e.symm))))
    all_goals
     have HN:=zz (OwnB.pushB (nm:=t) HO1.out hbw (fun b hb hl=>HG5.out.block b hl (fun e=>by injection e with e;have:=HLT.out;omega)) hs5 HO5.out (.cells #[.string t, .slice a5 l5.length c5] 46) (by first|exact hgrow6|exact ⟨hgrow6.os,hgrow6.tape,hgrow6.output,hgrow6.size,hgrow6.block⟩) hown6 rfl hat6)
     have HG6:=zz (grown_ownV (grown_alloc (grown_trans HG1.out HG5.out) (.cells #[.string t, .slice a5 l5.length c5] 46)) (by first|exact hgrow6|exact ⟨hgrow6.os,hgrow6.tape,hgrow6.output,hgrow6.size,hgrow6.block⟩) (fun x hx=>(HO1.out.row.lt x hx).1))
     have HR6:=zz ((HR5.out.kept (World.grownBy_alloc w5 (.cells #[.string t, .slice a5 l5.length c5] 46) none) (by simp)).kept (show (w5.alloc (.cells #[.string t, .slice a5 l5.length c5] 46)).grownBy w6 _ from ⟨hgrow6.os,hgrow6.tape,hgrow6.output,hgrow6.size,hgrow6.block⟩) (fun x hx=>(by have:=(HO1.out.row.lt x hx).1;have:=HLT.out;omega)))
     have HN6:=zz (((HN1.out.grown HG5.out (by intro e;injection e with e;exact hMR e.symm)).alloc (.cells #[.string t, .slice a5 l5.length c5] 46)).grown (show (w5.alloc (.cells #[.string t, .slice a5 l5.length c5] 46)).grownBy w6 _ from ⟨hgrow6.os,hgrow6.tape,hgrow6.output,hgrow6.size,hgrow6.block⟩) (by exact HNEA.out))
     have HFN:=zz (fewB_snoc HF.out (show FewB (t,l5) from ⟨ht,HS5.out.1,by have:=HS5.out.2 (by omega);show l5.length≤5;omega⟩))
     have HGG:=zz (show (Value.slice (some ⟨gg,0,none⟩) (env.length+1) cap').ownBlock≠some (w.heap.size+1) from by
      intro e
      have e:gg=w.heap.size+1:=by simpa [Value.ownBlock] using e
      rcases hat6 with h9|h9
      ·exact HNEA.out (by rw [h9,e])
      ·have h8:w.heap.size+1<w1.heap.size:=World.block_lt_of_cell? w1 _ d0
       omega)
     clear hown6 hgrow6 hat6
     go_wp2
     go_roundw
     case rel=>exact ⟨k+1,us++[.slice a5 l5.length c5],env++[(t,l5)],by omega,by go_num,HN.out,HGG.out,HFN.out,by rw [List.length_append];simp;omega,HN6.out,HR6.out.mono (by omega),HG6.out⟩
     case measure=>simp [intOf];omega
   ·have hm:m=0:=by omega
    subst hm
    go_wp2
    go_roundw
    case rel=>exact ⟨k+1,us,env,by omega,by go_num,HO1.out,HNE.out,HF.out,by omega,HN1.out,HR1.out.mono (by omega),HG1.out⟩
    case measure=>simp [intOf];omega
  ·obtain rfl:k=5:=by omega
   have HLN:=zz hlen
   go_wp2_with fail
   refine (odd_any R (p+5*261) n _ (by omega) (by omega) (by omega) HR.out).mono ?_
   rintro e wa ⟨bo,rfl,-,hra,hga,-⟩
   have HOA:=zz (HO.out.grownR hga HLT.out);have HGA:=zz (grown_trans HG.out hga);have HRA:=zz hra
   clear hra hga
   cases bo with
   |false=>
    go_wp2
    go_ret
    exact ⟨_,us,env,rfl,HOA.out,HF.out,by omega,HRA.out.mono (by omega),HGA.out⟩
   |true=>
    go_wp2_with fail
    refine (pick_any R (p+5*261+1) 3 _ (by omega) HRA.out).mono ?_
    rintro e wb ⟨m,rfl,hm0,hm1,-,hrb,hgb,-⟩
    have hm2:=hm1 (by omega)
    have HOB:=zz (HOA.out.grownR hgb HLT.out);have HGB:=zz (grown_trans HGA.out hgb);have HRB:=zz (hrb.mono (show _≤p+5*261+2 by omega))
    clear hrb hgb hm1
    obtain ⟨aa,ac,rfl⟩:=own_shape HOB.out.row
    have HNA:=zz (bindF_length env us HOB.out.len.symm)
    have hbw:w.heap.size≤wb.heap.size:=HGB.out.size
    have h3:m=0∨m=1∨m=2:=by omega
    clear hm0 hm2
    rcases h3 with rfl|rfl|rfl
    ·go_wp2_with fail
     refine (val_one R (p+5*261+2) _ (by omega) HRB.out).mono ?_
     rintro e w5 ⟨v5,l5,rfl,ho5,hsh5,h15,⟨-,hc5,-⟩,hr5,hg5⟩
     replace hc5:=hc5 (by omega)
     have HR5:=zz hr5;have HG5:=zz hg5;have HV5:=zz ho5;have HS5:=zz (And.intro hsh5 hc5)
     obtain ⟨a5,c5,rfl⟩:=own_shape ho5
     clear hr5 hg5 hsh5 hc5 h15 ho5
     go_wp2_with fail
     refine (val_one R (p+5*261+2+80) _ (by omega) HR5.out).mono ?_
     rintro e w6 ⟨v6,l6,rfl,ho6,hsh6,h16,⟨-,hc6,-⟩,hr6,hg6⟩
     replace hc6:=hc6 (by omega)
     have HRW:=zz hr6;have HG6:=zz hg6;have HV6:=zz ho6;have HS6:=zz (And.intro hsh6 hc6)
     have HV56:=zz (own_keep HV5.out (fun g hg=>hg6.block g (HV5.out.lt g hg).2 (fun e=>by injection e with e;have:=(HV5.out.lt g hg).1;have:=HLT.out;omega)))
     obtain ⟨a6,c6,rfl⟩:=own_shape ho6
     clear hr6 hg6 hsh6 hc6 h16 ho6
     have HGW:=zz (grown_trans HGB.out (grown_trans HG5.out HG6.out))
     have HGN:=zz (grown_trans HG5.out HG6.out)
     have HROW:=zz (HOB.out.grownR HGN.out HLT.out).row
     have hs56:wb.heap.size≤w5.heap.size:=HG5.out.size
     have hs66:w5.heap.size≤w6.heap.size:=HG6.out.size
     go_wp2_with (at_builtin;refine wpList_append_lies _ rfl _ _ 30 rfl w.heap.size 46 j0 (.agg #[.string ByteArray.empty, .slice none 0 0]) 2 40 Tryz.underlying30 hj hy0 hy1 hy2 rfl (by decide) (.slice aa env.length ac) env.length (bindF env us) rfl (by exact (HROW.out.alloc _)) ⟨w6.heap.size,0,none⟩ 2 2 [.string ⟨#[97]⟩, .slice a5 l5.length c5, .string ⟨#[97]⟩, .slice a6 l6.length c6] rfl rfl (World.news_of_block (heap_alloc_new w6 _)) (by simp [Value.oneCell']) (by omega) (by unfold maxLen;omega) (by omega) (by have:=HGW.out.size;simp;omega) (w6.heap.size+1) (by simp) ?_;intro gg cap' w8 hown8 hgrow8 hat8 hlt8;have HO8:=zz hown8;have HGR8:=zz hgrow8;have HAT8:=zz hat8;clear hown8 hgrow8 hat8)
     have HN:=zz (HOB.out.pushN hbw (fun b hb hl=>HGN.out.block b hl (fun e=>by injection e with e;have:=HLT.out;omega)) (Nat.le_trans hs56 hs66) (us2:=[.slice a5 l5.length c5, .slice a6 l6.length c6]) (env2:=[(⟨#[97]⟩,l5),(⟨#[97]⟩,l6)]) rfl (fun k h1 h2=>by
      match k,h1 with
      |0,_=>exact HV56.out
      |1,_=>exact own_base HV6.out (fun g hg=>Nat.le_trans hs56 (HV6.out.lt g hg).1)) (fun i j hi hj b h1 h2=>by
      match i,j,hi,hj with
      |0,0,_,_=>rfl
      |1,1,_,_=>rfl
      |0,1,_,_=>have:=(HV5.out.lt b h1).2;have:=(HV6.out.lt b h2).1;omega
      |1,0,_,_=>have:=(HV5.out.lt b h2).2;have:=(HV6.out.lt b h1).1;omega) _ HGR8.out HO8.out rfl HAT8.out)
     have HG8:=zz (grown_ownV (grown_alloc HGW.out _) HGR8.out (fun x hx=>(HROW.out.lt x hx).1))
     have HR8:=zz ((HRW.out.kept (World.grownBy_alloc w6 _ none) (by simp)).kept HGR8.out (fun x hx=>(by have:=(HROW.out.lt x hx).1;have:=HLT.out;omega)))
     have HF8:=zz (show∀b∈env++[((⟨#[97]⟩:ByteArray),l5),(⟨#[97]⟩,l6)],FewB b from fun b hb=>by
      rw [List.mem_append] at hb
      rcases hb with hb|hb
      ·exact HF.out b hb
      ·simp only [List.mem_cons,List.not_mem_nil,or_false] at hb
       rcases hb with rfl|rfl
       ·exact ⟨by show (⟨#[97]⟩:ByteArray).size≤3;decide,HS5.out.1,by have:=HS5.out.2;show l5.length≤5;omega⟩
       ·exact ⟨by show (⟨#[97]⟩:ByteArray).size≤3;decide,HS6.out.1,by have:=HS6.out.2;show l6.length≤5;omega⟩)
     go_wp2
     go_ret
     exact ⟨.slice (some ⟨gg,0,none⟩) (env.length+2) cap',us++[.slice a5 l5.length c5, .slice a6 l6.length c6],env++[(⟨#[97]⟩,l5),(⟨#[97]⟩,l6)],rfl,HN.out,HF8.out,by rw [List.length_append];simp;omega,HR8.out.mono (by omega),HG8.out⟩
    ·have HRW:=HRB
     have HGW:=HGB
     have HROW:=zz HOB.out.row
     go_wp2_with (at_builtin;refine wpList_append_lies _ rfl _ _ 30 rfl w.heap.size 46 j0 (.agg #[.string ByteArray.empty, .slice none 0 0]) 2 40 Tryz.underlying30 hj hy0 hy1 hy2 rfl (by decide) (.slice aa env.length ac) env.length (bindF env us) rfl (by exact (HROW.out.alloc _)) ⟨wb.heap.size,0,none⟩ 1 1 [.string ⟨#[122]⟩, .slice none 0 0] rfl rfl (World.news_of_block (heap_alloc_new wb _)) (by simp [Value.oneCell']) (by omega) (by unfold maxLen;omega) (by omega) (by have:=HGW.out.size;simp;omega) (wb.heap.size+1) (by simp) ?_;intro gg cap' w8 hown8 hgrow8 hat8 hlt8;have HO8:=zz hown8;have HGR8:=zz hgrow8;have HAT8:=zz hat8;clear hown8 hgrow8 hat8)
     have HN:=zz (HOB.out.pushB (nm:=⟨#[122]⟩) (l:=[]) hbw (fun b hb hl=>rfl) (Nat.le_refl _) (World.ownsRow_nil _ _ _ _) _ HGR8.out HO8.out rfl HAT8.out)
     have HG8:=zz (grown_ownV (grown_alloc HGW.out _) HGR8.out (fun x hx=>(HROW.out.lt x hx).1))
     have HR8:=zz ((HRW.out.kept (World.grownBy_alloc wb _ none) (by simp)).kept HGR8.out (fun x hx=>(by have:=(HROW.out.lt x hx).1;have:=HLT.out;omega)))
     have HF8:=zz (fewB_snoc HF.out (show FewB ((⟨#[122]⟩:ByteArray),[]) from ⟨by show (⟨#[122]⟩:ByteArray).size≤3;decide,fun c hc=>(by cases hc),by simp⟩))
     go_wp2
     go_ret
     exact ⟨.slice (some ⟨gg,0,none⟩) (env.length+1) cap',us++[.slice none 0 0],env++[(⟨#[122]⟩,[])],rfl,HN.out,HF8.out,by rw [List.length_append];simp;omega,HR8.out.mono (by omega),HG8.out⟩
    ·go_wp2_with fail
     refine (val_one R (p+5*261+2) _ (by omega) HRB.out).mono ?_
     rintro e w5 ⟨v5,l5,rfl,ho5,hsh5,h15,⟨-,hc5,-⟩,hr5,hg5⟩
     replace hc5:=hc5 (by omega)
     have HRW:=zz hr5;have HG5:=zz hg5;have HV5:=zz ho5;have HS5:=zz (And.intro hsh5 hc5)
     obtain ⟨a5,c5,rfl⟩:=own_shape ho5
     clear hr5 hg5 hsh5 hc5 h15 ho5
     have HGW:=zz (grown_trans HGB.out HG5.out)
     have HROW:=zz (HOB.out.grownR HG5.out HLT.out).row
     have hs56:wb.heap.size≤w5.heap.size:=HG5.out.size
     go_wp2_with (at_builtin;refine wpList_append_lies _ rfl _ _ 30 rfl w.heap.size 46 j0 (.agg #[.string ByteArray.empty, .slice none 0 0]) 2 40 Tryz.underlying30 hj hy0 hy1 hy2 rfl (by decide) (.slice aa env.length ac) env.length (bindF env us) rfl (by exact (HROW.out.alloc _)) ⟨w5.heap.size,0,none⟩ 1 1 [.string ⟨#[90]⟩, .slice a5 l5.length c5] rfl rfl (World.news_of_block (heap_alloc_new w5 _)) (by simp [Value.oneCell']) (by omega) (by unfold maxLen;omega) (by omega) (by have:=HGW.out.size;simp;omega) (w5.heap.size+1) (by simp) ?_;intro gg cap' w8 hown8 hgrow8 hat8 hlt8;have HO8:=zz hown8;have HGR8:=zz hgrow8;have HAT8:=zz hat8;clear hown8 hgrow8 hat8)
     have HN:=zz (HOB.out.pushB (nm:=⟨#[90]⟩) hbw (fun b hb hl=>HG5.out.block b hl (fun e=>by injection e with e;have:=HLT.out;omega)) hs56 HV5.out _ HGR8.out HO8.out rfl HAT8.out)
     have HG8:=zz (grown_ownV (grown_alloc HGW.out _) HGR8.out (fun x hx=>(HROW.out.lt x hx).1))
     have HR8:=zz ((HRW.out.kept (World.grownBy_alloc w5 _ none) (by simp)).kept HGR8.out (fun x hx=>(by have:=(HROW.out.lt x hx).1;have:=HLT.out;omega)))
     have HF8:=zz (fewB_snoc HF.out (show FewB ((⟨#[90]⟩:ByteArray),l5) from ⟨by show (⟨#[90]⟩:ByteArray).size≤3;decide,HS5.out.1,by have:=HS5.out.2;show l5.length≤5;omega⟩))
     go_wp2
     go_ret
     exact ⟨.slice (some ⟨gg,0,none⟩) (env.length+1) cap',us++[.slice a5 l5.length c5],env++[(⟨#[90]⟩,l5)],rfl,HN.out,HF8.out,by rw [List.length_append];simp;omega,HR8.out.mono (by omega),HG8.out⟩
end Go.Proofs.YthillfgjpalpcaaGreatDoor
