/-
  impl.growParts, growBlock, by their contracts: the tree of a document, or none.
-/
import Derived.Test.YtegdjjjpoahamaaGreatDoorTreeD
import Derived.Deep.Draws
import Derived.Deep.AppendLies
import Derived.Deep.RegionHeld3
import Derived.RegionTactic
import Derived.Deep.RegionLaw
import Derived.Deep.DrawnRows
set_option linter.unusedVariables false
set_option maxHeartbeats 4000000
set_option maxRecDepth 100000
namespace Go.Proofs.YtegdjjjpoahamaaGreatDoor
open Go.RowKit
theorem infoPtrD:(Tryz.prog.info? 86).map (fun i=>(i.zero,i.size,i.bytes))=some (some (.pointer none),1,8):=by kernel_rfl
def cellN (w:World) (a:Addr):Nat:=match w.cell? a with
 |some (.int _ n)=>n.toNat
 |_=>0
theorem cellN_of {w:World} {a:Addr} {n:Nat} (h:w.cell? a=some (.int .i64 (n:Int))):cellN w a=n:=by unfold cellN;rw [h];rfl
def GrownP (l:List It) (f d:Nat) (w:World) (e:Ending) (w':World):Prop:=
 Below w.heap.size w w'∧((∃(seg post:List It) (v:Value) (qs:List Nat),e= .returned (.pointer (some ⟨w.heap.size,0,none⟩))∧l.drop f=seg++post∧(∀i,post.head? =some i→i.1=5)∧BlkD w' w.heap.size #[.int .i64 (f:Int), .int .i64 ((f+seg.length:Nat):Int),v]∧w'.ownsRow (w.heap.size+1) 86 1 v qs.length (ptrs qs)∧
  TrD w' (fun b=>w.heap.size<b∧b<w'.heap.size∧v.ownBlock≠some b) qs f seg d)∨(e= .returned (.pointer none)∧BadN d (l.drop f)))
def GrownB (l:List It) (f d:Nat) (w:World) (e:Ending) (w':World):Prop:=
 Below w.heap.size w w'∧((∃(N:Nat) (seg post:List It),e= .returned (.pointer (some ⟨N,0,none⟩))∧l.drop f=seg++post∧TrD w' (fun b=>w.heap.size≤b∧b<w'.heap.size) [N] f seg d)∨(e= .returned (.pointer none)∧BadN d (l.drop f)))
def GInvD (l:List It) (w:World) (f d:Nat) (seg:List It) (wr:World):Prop:=
 ∃(v:Value) (ps:List Nat),BlkD wr w.heap.size #[.int .i64 (f:Int), .int .i64 ((f+seg.length:Nat):Int),v]∧wr.ownsRow (w.heap.size+1) 86 1 v ps.length (ptrs ps)∧TrD wr (fun b=>w.heap.size<b∧b<wr.heap.size∧v.ownBlock≠some b) ps f seg d∧Below w.heap.size w wr∧l.drop f=seg++l.drop (f+seg.length)∧f+seg.length≤l.length
theorem GInvD.start (l:List It) (w:World) (f d:Nat) (hf:f≤l.length):GInvD l w f d [] (w.alloc (.cells #[.int .i64 (f:Int), .int .i64 (f:Int), .slice none 0 0] 129)):=
 ⟨_,[],BlkD.new _ _,World.ownsRow_nil _ _ _ _, .nil _ _,(Below.refl _ _).alloc (Nat.le_refl _) _,by simp,hf⟩
theorem GInvD.done {l:List It} {w wr:World} {f d:Nat} {seg:List It} (h:GInvD l w f d seg wr) (hp: ∀i,(l.drop (f+seg.length)).head? =some i→i.1=5):GrownP l f d w (.returned (.pointer (some ⟨w.heap.size,0,none⟩))) wr:=by
 obtain ⟨v,ps,hb,ho,ht,hB,he,hl⟩:=h
 exact ⟨hB, .inl ⟨seg,_,v,ps,rfl,he,hp,hb,ho,ht⟩⟩
theorem GInvD.fail {l:List It} {w wr w1:World} {f d:Nat} {seg:List It} (h:GInvD l w f d seg wr) (hd:d≤4) (hB:Below wr.heap.size wr w1) (hno:BadN d (l.drop (f+seg.length))):GrownP l f d w (.returned (.pointer none)) w1:=by
 obtain ⟨v,ps,hb,ho,ht,hBw,he,hl⟩:=h
 exact ⟨hBw.trans (hB.mono hBw.size), .inr ⟨rfl,by rw [he];exact hno.pre ht.pt hd⟩⟩
theorem drop_more {l a b p:List It} {f g:Nat} (h:l.drop f=a++l.drop g) (hg:g=f+a.length) (h2:l.drop g=b++p) (hle:g≤l.length):l.drop f=(a++b)++l.drop (f+(a++b).length)∧f+(a++b).length≤l.length:=by
 have hl:l.drop (g+b.length)=p:=by
  have:l.drop (g+b.length)=(l.drop g).drop b.length:=by rw [List.drop_drop]
  rw [this,h2,List.drop_left]
 have h3:=congrArg List.length h2
 rw [List.length_append,List.length_drop] at h3
 refine ⟨?_,by rw [List.length_append];omega⟩
 rw [List.length_append,show f+(a.length+b.length)=g+b.length by omega,hl,h,h2,List.append_assoc]
theorem GInvD.next {l:List It} {w wr w1 w2:World} {f g d N1 gg cap':Nat} {vv:Value} {ps:List Nat} {seg seg1 post1:List It} (hg:g=f+seg.length)
  (hbel:Below w.heap.size w wr) (hb:BlkD wr w.heap.size #[.int .i64 (f:Int), .int .i64 (g:Int),vv]) (ho:wr.ownsRow (w.heap.size+1) 86 1 vv ps.length (ptrs ps))
  (ht:TrD wr (fun b=>w.heap.size<b∧b<wr.heap.size∧vv.ownBlock≠some b) ps f seg d) (hb1:Below wr.heap.size wr w1) (ht1:TrD w1 (fun b=>wr.heap.size≤b∧b<w1.heap.size) [N1] g seg1 d)
  (o:Obj) (hgrow:(w1.alloc o).grownBy w2 vv.ownBlock) (hat:vv.ownBlock=some gg∨gg=w1.heap.size+1)
  (hown':w2.ownsRow (w.heap.size+1) 86 1 (.slice (some ⟨gg,0,none⟩) (ps.length+1) cap') (ps.length+1) (ptrs ps++[.pointer (some ⟨N1,0,none⟩)])) (hk2:BlkD w2 w.heap.size #[.int .i64 (f:Int), .int .i64 (g:Int),vv])
  (he:l.drop f=seg++l.drop g) (he1:l.drop g=seg1++post1) (hle:g≤l.length):
  GInvD l w f d (seg++seg1) ((w2.setCell ⟨w.heap.size,2,none⟩ (.slice (some ⟨gg,0,none⟩) (ps.length+1) cap')).setCell ⟨w.heap.size,1,none⟩ (.int .i64 ((g+seg1.length:Nat):Int))):=by
 have hs1:=hb1.size
 have hs2:w1.heap.size+1≤w2.heap.size:=by have:=hgrow.size;simpa using this
 have hNlt:=hb.lt
 have hgg:w.heap.size+1≤gg∧gg<w2.heap.size:=hown'.lt gg rfl
 have hol: ∀r,vv.ownBlock=some r→r<wr.heap.size:=fun r hr=>(ho.lt r hr).2
 have hsz:((w2.setCell ⟨w.heap.size,2,none⟩ (.slice (some ⟨gg,0,none⟩) (ps.length+1) cap')).setCell ⟨w.heap.size,1,none⟩ (.int .i64 ((g+seg1.length:Nat):Int))).heap.size=w2.heap.size:=by simp [World.setCell]
 have hset: ∀b,b≠w.heap.size→((w2.setCell ⟨w.heap.size,2,none⟩ (.slice (some ⟨gg,0,none⟩) (ps.length+1) cap')).setCell ⟨w.heap.size,1,none⟩ (.int .i64 ((g+seg1.length:Nat):Int))).heap[b]? =w2.heap[b]? :=fun b hbn=>by
  rw [Below.heap_setCell _ _ _ _ hbn,Below.heap_setCell _ _ _ _ hbn]
 have hlen:(ps++[N1]).length=ps.length+1:=by simp
 refine ⟨.slice (some ⟨gg,0,none⟩) (ps.length+1) cap',ps++[N1], ?_, ?_, ?_, ?_,drop_more he hg he1 hle⟩
 ·have:=(hk2.set_ 2 (.slice (some ⟨gg,0,none⟩) (ps.length+1) cap')).set_ 1 (.int .i64 ((g+seg1.length:Nat):Int))
  rw [List.length_append,show f+(seg.length+seg1.length)=g+seg1.length by omega]
  exact this
 ·rw [ptrs_snoc,hlen]
  refine hown'.kept (row:=some w.heap.size) ⟨rfl,rfl,rfl,by rw [hsz];exact Nat.le_refl _,fun b _ hn=>hset b (fun e=>hn (by rw [e]))⟩ (.inr ?_)
  intro he
  have he:gg=w.heap.size:=by simpa [Value.ownBlock] using he
  omega
 ·refine TrD.app (ht.keep ?_ ?_) (show TrD _ _ [N1] (f+seg.length) seg1 d from hg▸ht1.keep ?_ ?_)
  ·rintro b ⟨h1,h2,h3⟩-
   rw [hset b (by omega),hgrow.block b (by simp;omega) (fun e=>h3 e.symm),Below.heap_alloc _ _ _ (by omega),hb1.block b h2]
  ·rintro b ⟨h1,h2,h3⟩-
   refine ⟨h1,by rw [hsz];omega,fun he=> ?_⟩
   have he:gg=b:=by simpa [Value.ownBlock] using he
   subst he
   rcases hat with h|h
   ·exact h3 h
   ·omega
  ·rintro b ⟨h1,h2⟩-
   rw [hset b (by omega),hgrow.block b (by simp;omega) (fun e=>by have:=hol b e.symm;omega),Below.heap_alloc _ _ _ (by omega)]
  ·rintro b ⟨h1,h2⟩-
   refine ⟨by omega,by rw [hsz];omega,fun he=> ?_⟩
   have he:gg=b:=by simpa [Value.ownBlock] using he
   subst he
   rcases hat with h|h
   ·have:=hol _ h;omega
   ·omega
 ·exact ((((hbel.trans (hb1.mono hbel.size)).alloc (by have:=hbel.size;omega) _).grown hgrow (by simp;have:=hbel.size;omega) (fun r hr=>by have:=(ho.lt r hr).1;omega)).setCell (Nat.le_refl _) _).setCell (Nat.le_refl _) _
def PartsAt (v:Value) (l:List It) (f d:Nat):Prop:= ∀w:World,RowIt w v l→Calls Tryz.prog 122 #[v, .int .i64 (f:Int), .int .i64 (d:Int)] w (GrownP l f d w)
theorem growBlock_of (v:Value) (l:List It) (h60:l.length≤30) (f d:Nat) (hf:f<l.length) (hd:d≤4) (h5:l[f].1≠5) (hP:d<4→PartsAt v l (f+1) (d+1)) (w:World) (hr:RowIt w v l):
  Calls Tryz.prog 164 #[v, .int .i64 (f:Int), .int .i64 (d:Int)] w (GrownB l f d w):=by
 have HR:=Lib.hid hr
 obtain ⟨ao,cap,rfl,h1,h2,h3⟩:=hr
 unfold maxLen at h2
 obtain ⟨b,o,rfl,hbl,hc⟩:=h3.resolve_left (by rintro rfl;simp at hf)
 obtain ⟨u,c0,-⟩:=hc f hf
 have HDR:=Lib.hid (show l.drop f=l[f]::l.drop (f+1) from List.drop_eq_getElem_cons hf)
 have H5:=Lib.hid h5
 generalize l[f]=it at c0 HDR H5
 have HP:=Lib.hid hP
 clear hP h5 hc
 by_cases h4:it.1=4
 ·have e4:(it.1 !=4)=false:=by rw [h4];rfl
  by_cases hd4:d<4
  ·have ed:((d:Int)==4)=false:=beq_eq_false_iff_ne.mpr (by omega)
   have HC:=Lib.hid (HP.out hd4 w HR.out)
   rw [show ((f+1:Nat):Int)=(f:Int)+1 by omega,show ((d+1:Nat):Int)=(d:Int)+1 by omega] at HC
   have H4:=Lib.hid h4
   clear h4
   go_enter Tryz.func164,Tryz.ntmps164
   go_wp2_with fail
   refine HC.out.mono ?_
   rintro e w1 ⟨hb1,⟨seg,post,vv,qs,rfl,he,hp,hbk,ho,ht⟩|⟨rfl,hbad⟩⟩
   ·have HB1:=Lib.hid hb1;have HBK:=Lib.hid hbk;have HO:=Lib.hid ho;have HT:=Lib.hid ht;have HE:=Lib.hid he
    have hlen:f+1+seg.length+post.length=l.length:=by
     have:=congrArg List.length he
     rw [List.length_append,List.length_drop] at this
     omega
    have d1:w1.cell? ⟨w.heap.size,1,none⟩=some (.int .i64 ((f+1+seg.length:Nat):Int)):=hbk.cell 1
    have d0:w1.cell? ⟨w.heap.size,0,none⟩=some (.int .i64 ((f+1:Nat):Int)):=hbk.cell 0
    have f0:w1.frozen? ⟨w.heap.size,0,none⟩=false:=hbk.frozen 0
    have f1:w1.frozen? ⟨w.heap.size,1,none⟩=false:=hbk.frozen 1
    cases post with
    |nil=>
     have hz:f+1+seg.length=l.length:=by simpa using hlen
     have HBAD:=Lib.hid (show BadN d (it::l.drop (f+1)) by
      have e2:l.drop (f+1)=seg:=by rw [HE.out,List.append_nil]
      rw [e2];exact BadN.left H4.out hd4 HT.out.pt)
     rw [hz] at d1
     clear hb1 hbk ho ht he hp hlen
     go_wp2
     go_ret
     exact ⟨HB1.out, .inr ⟨rfl,by rw [HDR.out];exact HBAD.out⟩⟩
    |cons c post=>
     have H5C:=Lib.hid (hp c rfl)
     have hz:((f+1+seg.length:Nat):Int)≠(l.length:Int):=by simp at hlen;omega
     have hz1:(((f+1+seg.length:Nat):Int)==(l.length:Int))=false:=beq_eq_false_iff_ne.mpr hz
     have HFIN:=Lib.hid (show∀w2,w2=(w1.setCell ⟨w.heap.size,0,none⟩ (.int .i64 (f:Int))).setCell ⟨w.heap.size,1,none⟩ (.int .i64 ((f+1+seg.length:Nat)+1:Int))→GrownB l f d w (.returned (.pointer (some ⟨w.heap.size,0,none⟩))) w2 by
      rintro w2 rfl
      have hs1:=HB1.out.size
      have hsz:((w1.setCell ⟨w.heap.size,0,none⟩ (.int .i64 (f:Int))).setCell ⟨w.heap.size,1,none⟩ (.int .i64 ((f+1+seg.length:Nat)+1:Int))).heap.size=w1.heap.size:=by simp [World.setCell]
      have hset: ∀b,b≠w.heap.size→((w1.setCell ⟨w.heap.size,0,none⟩ (.int .i64 (f:Int))).setCell ⟨w.heap.size,1,none⟩ (.int .i64 ((f+1+seg.length:Nat)+1:Int))).heap[b]? =w1.heap[b]? :=fun b hbn=>by
       rw [Below.heap_setCell _ _ _ _ hbn,Below.heap_setCell _ _ _ _ hbn]
      refine ⟨(HB1.out.setCell (Nat.le_refl _) _).setCell (Nat.le_refl _) _, .inl ⟨w.heap.size,it::(seg++[c]),post,rfl,by rw [HDR.out,HE.out];simp, ?_⟩⟩
      refine TrD.blk (qs:=qs) (v:=vv) (g:=f+seg.length+2) H4.out H5C.out hd4 ⟨Nat.le_refl _,by rw [hsz];exact HBK.out.lt⟩ rfl ?_ ?_ ?_ (HT.out.keep ?_ ?_) (.nil _ _)
      ·have:=(HBK.out.set_ 0 (.int .i64 (f:Int))).set_ 1 (.int .i64 ((f+1+seg.length:Nat)+1:Int))
       rw [show ((f+seg.length+2:Nat):Int)=((f+1+seg.length:Nat)+1:Int) by omega]
       exact this
      ·exact (own_base (own_keep HO.out (fun g hg=>hset g (by have:=(HO.out.lt g hg).1;omega))) (fun g hg=>Nat.zero_le _))
      ·intro r hr
       have:=HO.out.lt r hr
       exact ⟨by omega,by rw [hsz];omega⟩
      ·rintro b ⟨k1,k2,k3⟩-;exact hset b (by omega)
      ·rintro b ⟨k1,k2,k3⟩-;exact ⟨by omega,by rw [hsz];exact k2⟩)
     have hsm:f+1+seg.length<40:=by simp at hlen;omega
     clear hb1 hbk ho ht he hp hlen
     generalize f+1+seg.length=T at d1 hz hz1 HFIN hsm
     go_wp2
     go_ret
     exact HFIN.out _ rfl
   ·have HB1:=Lib.hid hb1
    have HBAD:=Lib.hid (BadN.inn (o:=it) H4.out hd4 hbad)
    clear hb1 hbad
    go_wp2
    go_ret
    exact ⟨HB1.out, .inr ⟨rfl,by rw [HDR.out];exact HBAD.out⟩⟩
  ·have HBAD:=Lib.hid (show BadN d (it::l.drop (f+1)) by
    obtain rfl:d=4:=by omega
    exact BadN.deep h4)
   have ed:((d:Int)==4)=true:=beq_iff_eq.mpr (by omega)
   clear h4
   go_enter Tryz.func164,Tryz.ntmps164
   go_wp2
   go_ret
   exact ⟨Below.refl _ _, .inr ⟨rfl,by rw [HDR.out];exact HBAD.out⟩⟩
 ·have e4:(it.1 !=4)=true:=bne_iff_ne.mpr h4
  have H4:=Lib.hid h4
  clear h4
  have HFIN:=Lib.hid (show∀w2,w2=w.alloc (.cells #[.int .i64 (f:Int), .int .i64 ((f:Int)+1), .slice none 0 0] 129)→GrownB l f d w (.returned (.pointer (some ⟨w.heap.size,0,none⟩))) w2 by
   rintro w2 rfl
   refine ⟨(Below.refl _ _).alloc (Nat.le_refl _) _, .inl ⟨w.heap.size,[it],_,rfl,HDR.out, .leaf H4.out H5.out ⟨Nat.le_refl _,by simp⟩ ?_ (.nil _ _)⟩⟩
   rw [show ((f+1:Nat):Int)=(f:Int)+1 by omega]
   exact BlkD.new _ _)
  go_enter Tryz.func164,Tryz.ntmps164
  go_wp2
  go_ret
  exact HFIN.out _ rfl
theorem growParts_of (v:Value) (l:List It) (h60:l.length≤30) (f d:Nat) (hf:f≤l.length) (hd:d≤4) (hP: ∀g,f≤g→g<l.length→d<4→PartsAt v l (g+1) (d+1)) (w:World) (hr:RowIt w v l):
  Calls Tryz.prog 122 #[v, .int .i64 (f:Int), .int .i64 (d:Int)] w (GrownP l f d w):=by
 obtain ⟨i0,hi,hz0,hz1,hz2⟩:=info_parts infoPtrD
 have HR:=Lib.hid hr
 obtain ⟨ao,cap,rfl,h1,h2,h3⟩:=hr
 unfold maxLen at h2
 have H3:=Lib.hid h3;have HP:=Lib.hid hP
 clear h3 hP
 have HST:=Lib.hid (GInvD.start l w f d hf)
 go_enter Tryz.func122,Tryz.ntmps122
 go_wp2
 go_loopw [8] (fun _ wr=> ∃seg:List It,GInvD l w f d seg wr) (fun _ wr=>l.length-cellN wr ⟨w.heap.size,1,none⟩)
 case atStart=>exact ⟨[],HST.out⟩
 case round=>
  obtain ⟨seg,hG⟩:=hrel
  have HG:=Lib.hid hG
  obtain ⟨vv,ps,hb,hown,ht,hB,he,hle⟩:=hG
  have HEG:=Lib.hid (Eq.refl (f+seg.length))
  generalize hgd:f+seg.length=g at hb he hle
  have HGD:=Lib.hid hgd
  have e0:wr.cell? ⟨w.heap.size,1,none⟩=some (.int .i64 (g:Int)):=hb.cell 1
  have HB:=Lib.hid hb;have HO:=Lib.hid hown;have HT:=Lib.hid ht;have HBel:=Lib.hid hB;have HE:=Lib.hid he
  have hfg:f≤g:=by omega
  clear hb hown ht hB he hgd
  by_cases hgl:g<l.length
  ·obtain ⟨b,o,rfl,hbl,cc⟩:=H3.out.resolve_left (by rintro rfl;simp at hgl)
   obtain ⟨u,c0,-⟩:=cc g hgl
   have k0:wr.cell? ⟨b,o+g*4,none⟩=some (.int .i64 l[g].1):=(HBel.out.cell (p:=⟨b,_,none⟩) hbl).trans c0
   clear cc c0
   by_cases h5:l[g].1=5
   ·have e5:(l[g].1 !=5)=false:=by rw [h5];rfl
    have HD:=Lib.hid (HG.out.done (by
     rw [HGD.out,List.drop_eq_getElem_cons hgl]
     intro i hi
     have hi:l[g]=i:=Option.some.inj hi
     rw [←hi];exact h5))
    clear h5
    generalize l[g].1=kk at k0 e5
    go_wp2
    go_ret
    exact HD.out
   ·have e5:(l[g].1 !=5)=true:=bne_iff_ne.mpr h5
    have HC:=Lib.hid (growBlock_of _ l h60 g d hgl hd h5 (HP.out g hfg hgl) wr (HR.out.mono HBel.out))
    clear h5
    generalize l[g].1=kk at k0 e5
    go_wp2_with fail
    refine HC.out.mono ?_
    rintro e w1 ⟨hb1,⟨N1,seg1,post1,rfl,he1,ht1⟩|⟨rfl,hno⟩⟩
    ·obtain ⟨hS1,hpos,v1,qs1,inn1,hN1,-⟩:=ht1.root
     have hT:g+seg1.length≤l.length:=by
      have:=congrArg List.length he1
      rw [List.length_append,List.length_drop] at this
      omega
     have cN1:w1.cell? ⟨N1,1,none⟩=some (.int .i64 ((g+seg1.length:Nat):Int)):=hN1.cell 1
     have hN1lt:w.heap.size<N1:=by have:=HB.out.lt;omega
     have hgb1:wr.grownBy w1 none:=⟨hb1.os,hb1.tape,hb1.output,hb1.size,fun i hi _=>hb1.block i hi⟩
     have own1:=HO.out.kept hgb1 (by cases hv:vv.ownBlock<;>simp)
     have K1:=HB.out.keep hb1
     have hM:=K1.lt
     have c1:w1.cell? ⟨w.heap.size,1,none⟩=some (.int .i64 (g:Int)):=K1.cell 1
     have c2:w1.cell? ⟨w.heap.size,2,none⟩=some vv:=K1.cell 2
     have f1:w1.frozen? ⟨w.heap.size,1,none⟩=false:=K1.frozen 1
     have f2:w1.frozen? ⟨w.heap.size,2,none⟩=false:=K1.frozen 2
     have hne:vv.ownBlock≠some w.heap.size:=fun he=>by have:=(own1.lt _ he).1;omega
     have NE:=Lib.hid hne
     have HK1:=Lib.hid K1;have HN1:=Lib.hid hN1
     have HT1:=Lib.hid ht1;have HB1:=Lib.hid hb1;have HE1:=Lib.hid he1;have HS1:=Lib.hid hS1
     clear hgb1 K1 hne hb1 ht1 hN1 hS1 e0 he1
     obtain ⟨av,cv,hv,hcv⟩: ∃a c,vv= .slice a ps.length c∧c≤maxLen:=by
      rcases own1.2 with ⟨rfl,h0⟩|⟨g',cap',cur,rfl,_,_,_,hq,_⟩
      ·exact ⟨none,0,by rw [h0],by unfold maxLen;omega⟩
      ·exact ⟨_,_,rfl,hq⟩
     subst hv
     unfold maxLen at hcv
     have hpl:ps.length≤1000:=by
      have: ∀{ps:List Nat} {f d:Nat} {seg:List It} {w:World} {S:Nat→Prop},TrD w S ps f seg d→ps.length≤seg.length:=by
       intro ps f d seg w S h
       induction h with
       |nil=>simp
       |leaf _ _ _ _ _ ih=>simp;omega
       |blk _ _ _ _ _ _ _ _ _ _ _ ih=>simp;omega
      have:=this HT.out
      have:=HGD.out
      omega
     have hfar: ∀r,(Value.slice av ps.length cv).ownBlock=some r→r<N1:=fun r hr=>by have h1:=HS1.out;have h2:=(HO.out.lt r hr).2;omega
     have hNr:(Value.slice av ps.length cv).ownBlock≠some N1:=fun he=>by have:=hfar _ he;omega
     have hn1: ¬N1=w.heap.size:=by omega
     have hn2: ¬w.heap.size=N1:=by omega
     have NR:=Lib.hid hNr;have FAR:=Lib.hid hfar;clear hfar hNr
     have HTT:=Lib.hid (Eq.refl (g+seg1.length))
     generalize hTd:g+seg1.length=T at cN1 hT
     have HTD:=Lib.hid hTd
     clear hTd
     have HOW:=Lib.hid own1
     go_wp2_with (at_builtin;refine wpList_append_lies _ rfl _ _ 127 rfl (w.heap.size+1) 86 i0 (.pointer none) 1 8 Tryz.underlying127 hi hz0 hz1 hz2 rfl (by decide) (.slice av ps.length cv) ps.length _ rfl (own1.alloc _) ⟨w1.heap.size,0,none⟩ 1 1 [.pointer (some ⟨N1,0,none⟩)] rfl rfl (World.news_of_block (cs:= #[.pointer (some ⟨N1,0,none⟩)]) (t:=86) (fr:=(0,0)) (heap_alloc_new w1 _)) (by simp [Value.oneCell']) (by omega) (by unfold maxLen;omega) (by omega) (by simp;omega) (w1.heap.size+1) (by simp) ?_;intro gg cap' w2 hown' hgrow hat hlt';have hfz:w2.frozen? ⟨w.heap.size,2,none⟩=false:=((hgrow.frozen_far _ (by simp;omega) (fun hq=>NE.out hq.symm)).trans (((World.grownBy_alloc w1 _ none).frozen_far ⟨w.heap.size,2,none⟩ hM (by simp)).trans f2));have K2:=BlkD.grown (HK1.out.alloc _) hgrow (fun hq=>NE.out hq.symm);have M2:=BlkD.grown (HN1.out.alloc _) hgrow (fun hq=>NR.out hq.symm);have hc2:w2.cell? ⟨w.heap.size,2,none⟩=some (.slice av ps.length cv):=K2.cell 2;have hc1:w2.cell? ⟨w.heap.size,1,none⟩=some (.int .i64 (g:Int)):=K2.cell 1;have hf1:w2.frozen? ⟨w.heap.size,1,none⟩=false:=K2.frozen 1;have hcn:w2.cell? ⟨N1,1,none⟩=some (.int .i64 (T:Int)):=by {rw [←HTD.out];exact M2.cell 1};have KK2:=Lib.hid K2;have HO2:=Lib.hid hown';have HG2:=Lib.hid hgrow;have HAT:=Lib.hid hat;clear K2 M2 hown' hgrow hat)
     have HNX:=Lib.hid (show GInvD l w f d (seg++seg1) ((w2.setCell ⟨w.heap.size,2,none⟩ (.slice (some ⟨gg,0,none⟩) (ps.length+1) cap')).setCell ⟨w.heap.size,1,none⟩ (.int .i64 (T:Int))) by
      have:=GInvD.next HGD.out.symm HBel.out HB.out HO.out HT.out HB1.out HT1.out _ HG2.out HAT.out HO2.out KK2.out HE.out HE1.out hle
      rwa [HTD.out] at this)
     have HFT:=Lib.hid (show f+(seg++seg1).length=T by rw [List.length_append];have:=HTD.out;have:=HGD.out;omega)
     go_roundw
     case rel=>exact ⟨_,HNX.out⟩
     case measure=>
      obtain ⟨v9,ps9,hb9,-⟩:=HNX.out
      rw [HFT.out] at hb9
      rw [cellN_of (n:=T) (hb9.cell 1),cellN_of (n:=g) (HB.out.cell 1)]
      have:=HTD.out
      omega
    ·have HF:=Lib.hid (HG.out.fail hd hb1 (by rw [HGD.out];exact hno))
     clear hno hb1
     go_wp2
     go_ret
     exact HF.out
  ·obtain rfl:g=l.length:=by omega
   have HD:=Lib.hid (HG.out.done (by
    rw [HGD.out,List.drop_length]
    intro i hi;cases hi))
   go_wp2
   go_ret
   exact HD.out
theorem growParts_any (v:Value) (l:List It) (h60:l.length≤30) (j:Nat): ∀(f d:Nat),f≤l.length→d≤4→l.length-f≤j→PartsAt v l f d:=by
 induction j with
 |zero=>
  intro f d hf hd hj w hr
  exact growParts_of v l h60 f d hf hd (fun g h1 h2=>by omega) w hr
 |succ j ih=>
  intro f d hf hd hj w hr
  exact growParts_of v l h60 f d hf hd (fun g h1 h2 hd4=>ih (g+1) (d+1) (by omega) (by omega) (by omega)) w hr
end Go.Proofs.YtegdjjjpoahamaaGreatDoor
