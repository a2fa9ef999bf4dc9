/-
  Items more behind items of one's own; a copy of an item (impl's (Item).copied).
-/
import Derived.Test.YtegdjjjpoahamaaGreatDoorItB
import Derived.Test.YtegdjjjpoahamaaGreatDoorBaseE
set_option linter.unusedVariables false
set_option maxHeartbeats 4000000
set_option maxRecDepth 100000
namespace Go.Proofs.YtegdjjjpoahamaaGreatDoor
open Go.RowKit
theorem own_nilI (w:World) (base:Nat):OwnI w base (.slice none 0 0) [] []:=⟨World.ownsRow_nil _ _ _ _,rfl,fun k h=>by simp at h,fun k h=>by simp at h,fun i j h=>by simp at h⟩
theorem lit_I (w:World):OwnI (w.alloc (.cells #[] 32)) w.heap.size (.slice (some ⟨w.heap.size,0,none⟩) 0 0) [] []:=
 ⟨World.ownsRow_lit (e:=32) (size:=4) (base:=w.heap.size) w #[] 0 (Nat.le_refl _) (by unfold maxLen;omega) rfl,rfl,fun k h=>by simp at h,fun k h=>by simp at h,fun i j h=>by simp at h⟩
theorem OwnI.pushN {wr w1 w2:World} {base gg:Nat} {a v':Value} {us us2:List Value} {env env2:List It} (h:OwnI wr base a us env) (hbase:base≤wr.heap.size) (hW: ∀b,base≤b→b<wr.heap.size→w1.heap[b]? =wr.heap[b]?) (hs1:wr.heap.size≤w1.heap.size) (hl2:us2.length=env2.length)
  (hu: ∀k (h1:k<us2.length) (h2:k<env2.length),w1.ownsRow wr.heap.size 110 3 us2[k] env2[k].2.2.1.length (flatC env2[k].2.2.1)) (hap: ∀i j (hi:i<us2.length) (hj:j<us2.length) b,us2[i].ownBlock=some b→us2[j].ownBlock=some b→i=j)
  (o:Obj) (hgrow:(w1.alloc o).grownBy w2 a.ownBlock) (hrow:w2.ownsRow base 32 4 v' (env.length+env2.length) (itF env us++itF env2 us2)) (hvb:v'.ownBlock=some gg) (hat:a.ownBlock=some gg∨gg=w1.heap.size+1):
  OwnI w2 base v' (us++us2) (env++env2):=by
 have hl:=h.len
 have hal: ∀x,a.ownBlock=some x→base≤x∧x<wr.heap.size:=fun x hx=>h.row.lt x hx
 have hw2: ∀b,b<w1.heap.size→a.ownBlock≠some b→w2.heap[b]? =w1.heap[b]? :=fun b hb hne=>by
  rw [hgrow.block b (by simp;omega) (fun e=>hne e.symm),Below.heap_alloc _ _ _ hb]
 have hul: ∀k (h1:k<us2.length) x,us2[k].ownBlock=some x→wr.heap.size≤x∧x<w1.heap.size:=fun k h1 x hx=>(hu k h1 (by omega)).lt x hx
 have hkl: ∀k (h1:k<us.length) x,us[k].ownBlock=some x→base≤x∧x<wr.heap.size:=fun k h1 x hx=>(h.each k h1 (by omega)).lt x hx
 have hcut: ∀k (h1:k<(us++us2).length),(∃h:k<us.length,(us++us2)[k]=us[k])∨(∃h:k-us.length<us2.length,us.length≤k∧(us++us2)[k]=us2[k-us.length]):=by
  intro k h1
  by_cases hk:k<us.length
  ·exact .inl ⟨hk,List.getElem_append_left hk⟩
  ·rw [List.length_append] at h1
   exact .inr ⟨by omega,by omega,List.getElem_append_right (by omega)⟩
 refine ⟨?_,by simp [hl,hl2], ?_, ?_, ?_⟩
 ·rw [List.length_append,itF_append env us env2 us2 (by omega)]
  exact hrow
 ·intro k h1 h2
  rcases hcut k h1 with ⟨hk,e⟩|⟨hk,hkl2,e⟩
  ·rw [e,List.getElem_append_left (by omega)]
   exact own_keep (h.each k hk (by omega)) (fun g hg=>by
    have h3:=hkl k hk g hg
    rw [hw2 g (by omega) (h.far k hk g hg),hW g h3.1 h3.2])
  ·have e2:(env++env2)[k]=env2[k-us.length]'(by omega):=by
    rw [List.getElem_append_right (by omega)];congr 1;omega
   rw [e,e2]
   exact own_base (own_keep (hu _ hk (by omega)) (fun g hg=>hw2 g (hul _ hk g hg).2 (fun e=>by have:=hal g e;have:=hul _ hk g hg;omega))) (fun g hg=>by have:=hul _ hk g hg;omega)
 ·intro k h1 b hb
  rw [hvb]
  intro e0
  injection e0 with e0
  subst e0
  rcases hcut k h1 with ⟨hk,e⟩|⟨hk,hkl2,e⟩
  ·rw [e] at hb
   rcases hat with hat|hat
   ·exact h.far k hk _ hb hat
   ·have:=hkl k hk _ hb;omega
  ·rw [e] at hb
   have:=hul _ hk _ hb
   rcases hat with hat|hat
   ·have:=hal _ hat;omega
   ·omega
 ·intro i j h1 h2 b hi hj
  rcases hcut i h1 with ⟨hki,ei⟩|⟨hki,hki2,ei⟩
  ·rw [ei] at hi
   rcases hcut j h2 with ⟨hkj,ej⟩|⟨hkj,hkj2,ej⟩
   ·rw [ej] at hj;exact h.apart i j hki hkj b hi hj
   ·rw [ej] at hj
    have:=hkl i hki b hi;have:=hul _ hkj b hj;omega
  ·rw [ei] at hi
   rcases hcut j h2 with ⟨hkj,ej⟩|⟨hkj,hkj2,ej⟩
   ·rw [ej] at hj
    have:=hkl j hkj b hj;have:=hul _ hki b hi;omega
   ·rw [ej] at hj
    have:=hap _ _ hki hkj b hi hj;omega
theorem OwnI.push {wr w1 w2:World} {base gg c:Nat} {a u:Value} {us:List Value} {env:List It} {i:It} (h:OwnI wr base a us env) (hbase:base≤wr.heap.size) (hb1:Below wr.heap.size wr w1) (hu:w1.ownsRow wr.heap.size 110 3 u i.2.2.1.length (flatC i.2.2.1))
  (o:Obj) (hgrow:(w1.alloc o).grownBy w2 a.ownBlock) (hrow:w2.ownsRow base 32 4 (.slice (some ⟨gg,0,none⟩) (env.length+1) c) (env.length+1) (itF env us++[.int .i64 i.1, .string i.2.1,u, .string i.2.2.2])) (hat:a.ownBlock=some gg∨gg=w1.heap.size+1):
  OwnI w2 base (.slice (some ⟨gg,0,none⟩) (env.length+1) c) (us++[u]) (env++[i])∧Below base wr w2:=by
 refine ⟨h.pushN (us2:=[u]) (env2:=[i]) hbase (fun b _ hl=>hb1.block b hl) hb1.size rfl (fun k h1 h2=> ?_) (fun x y hx hy b _ _=>by simp at hx hy;omega) o hgrow hrow rfl hat, ?_⟩
 ·have:k=0:=by simp at h1;omega
  subst this;exact hu
 ·exact ((hb1.mono hbase).alloc (Nat.le_trans hbase hb1.size) o).grown hgrow (by have:=hb1.size;simp;omega) (fun x hx=>(h.row.lt x hx).1)
theorem infoCI:(Tryz.prog.info? 110).map (fun i=>(i.zero,i.size,i.bytes))=some (some (.agg #[.int .i64 0, .string ByteArray.empty, .int .i64 0]),3,32):=by kernel_rfl
theorem copied_any (u:Value) (k:Int) (nm t:ByteArray) (l:List Cl) (w:World) (hr:RowC w u l) (hl:l.length≤1048576):
 Calls Tryz.prog 165 #[.agg #[.int .i64 k, .string nm,u, .string t]] w fun e w'=> ∃u',e= .returned (.agg #[.int .i64 k, .string nm,u', .string t])∧w'.ownsRow w.heap.size 110 3 u' l.length (flatC l)∧Below w.heap.size w w':=by
 obtain ⟨i0,hi,hz0,hz1,hz2⟩:=info_parts infoCI
 have HB0:=Lib.hid (((Below.refl w.heap.size w).alloc (Nat.le_refl _) (.cells #[.int .i64 k, .string nm,u, .string t] 32)).alloc (by simp) (.cells #[.int .i64 0, .string ByteArray.empty, .slice none 0 0, .string ByteArray.empty] 32))
 have HR:=Lib.hid (hr.mono HB0.out)
 have X0:=Lib.hid ((It4.new w (.int .i64 k) (.string nm) u (.string t) 32).al (.cells #[.int .i64 0, .string ByteArray.empty, .slice none 0 0, .string ByteArray.empty] 32))
 have Y0:=Lib.hid (It4.new (w.alloc (.cells #[.int .i64 k, .string nm,u, .string t] 32)) (.int .i64 0) (.string ByteArray.empty) (.slice none 0 0) (.string ByteArray.empty) 32)
 obtain ⟨ao,cap,rfl,-⟩:=hr
 go_enter Tryz.func165,Tryz.ntmps165
 go_wp2_with (
  at_builtin;refine append_rowC rfl _ _ 30 rfl (w.heap.size+2) 110 i0 (.agg #[.int .i64 0, .string ByteArray.empty, .int .i64 0]) 32 Tryz.underlying30 hi hz0 hz1 hz2 (by decide) _ 0 [] rfl (World.ownsRow_nil _ _ _ _) _ l rfl HR.out (by unfold maxLen;omega) (by omega) (by simp) ?_;intro v1 w1 hown1 hgrow1
  rw [List.nil_append,Nat.zero_add] at hown1
  have hb1:Below (w.heap.size+2) ((w.alloc (.cells #[.int .i64 k, .string nm, .slice ao l.length cap, .string t] 32)).alloc (.cells #[.int .i64 0, .string ByteArray.empty, .slice none 0 0, .string ByteArray.empty] 32)) w1:=(Below.refl _ _).grown hgrow1 (by simp) (fun x hx=>by cases hx)
  have hsz:((w.alloc (.cells #[.int .i64 k, .string nm, .slice ao l.length cap, .string t] 32)).alloc (.cells #[.int .i64 0, .string ByteArray.empty, .slice none 0 0, .string ByteArray.empty] 32)).heap.size=w.heap.size+2:=by simp
  obtain ⟨⟨x0,x1,x2,x3⟩,⟨f0,f1,f2,f3⟩,-⟩:=X0.out.keep (hsz▸hb1)
  obtain ⟨⟨y0,y1,y2,y3⟩,⟨g0,g1,g2,g3⟩,-⟩:It4 w1 (w.heap.size+1) (.int .i64 0) (.string ByteArray.empty) (.slice none 0 0) (.string ByteArray.empty):=by
   have:=Y0.out.keep (hsz▸hb1)
   simpa using this
  obtain ⟨a2,c2,rfl⟩:=own_shape hown1
  have hs3:w.heap.size+2≤w1.heap.size:=by have:=hb1.size;simpa using this
  have HB1:=Lib.hid (HB0.out.trans (hb1.mono (by omega)))
  have HOU:=Lib.hid (show∀g,(Value.slice a2 l.length c2).ownBlock=some g→w.heap.size+2≤g from fun g hg=>(hown1.lt g hg).1)
  have HO1:=Lib.hid hown1
  have HFIN:=Lib.hid (show∀w5:World,w5=((((w1.setCell ⟨w.heap.size,2,none⟩ (.slice a2 l.length c2)).setCell ⟨w.heap.size+1,0,none⟩ (.int .i64 k)).setCell ⟨w.heap.size+1,1,none⟩ (.string nm)).setCell ⟨w.heap.size+1,2,none⟩ (.slice a2 l.length c2)).setCell ⟨w.heap.size+1,3,none⟩ (.string t)→
   w5.ownsRow w.heap.size 110 3 (.slice a2 l.length c2) l.length (flatC l)∧Below w.heap.size w w5 by
   rintro w5 rfl
   refine ⟨own_base (own_keep HO1.out (fun g hg=>by
    have:=HOU.out g hg
    rw [Below.heap_setCell _ _ _ _ (show g≠w.heap.size+1 by omega),Below.heap_setCell _ _ _ _ (show g≠w.heap.size+1 by omega),Below.heap_setCell _ _ _ _ (show g≠w.heap.size+1 by omega),Below.heap_setCell _ _ _ _ (show g≠w.heap.size+1 by omega),Below.heap_setCell _ _ _ _ (show g≠w.heap.size by omega)])) (fun g hg=>by have:=HOU.out g hg;omega), ?_⟩
   have h1:w.heap.size≤w.heap.size+1:=by omega
   exact ((((HB1.out.setCell (p:=⟨w.heap.size,2,none⟩) (Nat.le_refl _) _).setCell (p:=⟨w.heap.size+1,0,none⟩) h1 _).setCell (p:=⟨w.heap.size+1,1,none⟩) h1 _).setCell (p:=⟨w.heap.size+1,2,none⟩) h1 _).setCell (p:=⟨w.heap.size+1,3,none⟩) h1 _)
  clear hown1 hgrow1 hb1 hsz)
 exact bodyPost_ret (v:= .agg #[.int .i64 k, .string nm, .slice a2 l.length c2, .string t]) (by simp [results,Tryz.results165,go_sem,y0,y1,y2,y3]) rfl ⟨_,rfl,(HFIN.out _ rfl).1,(HFIN.out _ rfl).2⟩
end Go.Proofs.YtegdjjjpoahamaaGreatDoor
