/-
  Several texts of the proof in one file: ValText, Vals, NodeV, AppV.
-/
import Derived.Test.YthillfgjpalpcaaGreatDoorOfV
set_option linter.unusedVariables false
set_option maxHeartbeats 4000000
set_option maxRecDepth 100000
namespace Go.Proofs.YthillfgjpalpcaaGreatDoor
theorem Tx.up {l l':List Cl} {n f t:Nat} {xs:List Pt} (h:Tx l n f t xs): ∀(a:Nat),(∀i,f≤i→i<t→l'[i+a]? =l[i]?)→Tx l' n (f+a) (t+a) xs:=by
 induction h with
 |nil f=>intro a hb;exact .nil _
 | @cons f g n t c ks xs hc h1 h2 i1 i2=>
  intro a hb
  obtain ⟨_,e1⟩:=h1.exs
  obtain ⟨_,e2⟩:=h2.exs
  have l1:=e1.le;have l2:=e2.le
  have k1:=i1 a (fun i hi1 hi2=>hb i (by omega) (by omega))
  have k2:=i2 a (fun i hi1 hi2=>hb i (by omega) (by omega))
  rw [show f+1+a=f+a+1 by omega] at k1
  exact .cons (by rw [hb f (Nat.le_refl _) (by omega)];exact hc) k1 k2
open Go.RowKit
theorem cell_block {w w':World} {b:Nat} (h:w'.heap[b]? =w.heap[b]?) (o:Nat):w'.cell? ⟨b,o,none⟩=w.cell? ⟨b,o,none⟩:=by
 simp only [World.cell?,h]
def RowV (w:World) (S:Nat→Prop) (v:Value) (us:List Value):Prop:=
 ∃ao cap,v= .slice ao us.length cap∧us.length≤cap∧cap≤maxLen∧(us=[]∨ ∃b o,ao=some ⟨b,o,none⟩∧S b∧b<w.heap.size∧ ∀(k:Nat) (h:k<us.length),w.cell? ⟨b,o+k,none⟩=some us[k])
theorem RowV.keep {w w':World} {S S':Nat→Prop} {v:Value} {us:List Value} (h:RowV w S v us) (hw: ∀b,S b→b<w.heap.size→w'.heap[b]? =w.heap[b]?) (hS: ∀b,S b→b<w.heap.size→S' b) (hs:w.heap.size≤w'.heap.size):RowV w' S' v us:=by
 obtain ⟨ao,cap,hv,h1,h2,h3⟩:=h
 refine ⟨ao,cap,hv,h1,h2, ?_⟩
 rcases h3 with h3|⟨b,o,ha,hb,hlt,hj⟩
 ·exact .inl h3
 ·exact .inr ⟨b,o,ha,hS b hb hlt,by omega,fun k hk=>(cell_block (hw b hb hlt) _).trans (hj k hk)⟩
def truW (b:Bool):ByteArray:=if b then ⟨#[116,114,117,101]⟩ else ⟨#[102,97,108,115,101]⟩
inductive VlS (w:World) (S:Nat→Prop):List Value→List (List Cl)→Prop
 |nil:VlS w S [] []
 |num {s:ByteArray} {us:List Value} {ps:List (List Cl)}:rdOK s=true→VlS w S us ps→VlS w S (.iface 154 (.agg #[.int .i64 (rdT s), .int .i64 (rdB s)])::us) ([(1,s,0)]::ps)
 |text {s:ByteArray} {us:List Value} {ps:List (List Cl)}:okC (2,s,0)=true→VlS w S us ps→VlS w S (.iface 155 (.string s)::us) ([(2,s,0)]::ps)
 |truth {b:Bool} {us:List Value} {ps:List (List Cl)}:VlS w S us ps→VlS w S (.iface 156 (.bool b)::us) ([(3,truW b,0)]::ps)
 |list {v:Value} {us' us:List Value} {ps' ps:List (List Cl)}:RowV w S v us'→VlS w S us' ps'→VlS w S us ps→VlS w S (.iface 158 v::us) (listV ps'::ps)
theorem VlS.keep {w w':World} {S S':Nat→Prop} {us:List Value} {ps:List (List Cl)} (h:VlS w S us ps) (hw: ∀b,S b→b<w.heap.size→w'.heap[b]? =w.heap[b]?) (hS: ∀b,S b→b<w.heap.size→S' b) (hs:w.heap.size≤w'.heap.size):VlS w' S' us ps:=by
 induction h with
 |nil=>exact .nil
 |num h1 h2 ih=>exact .num h1 ih
 |text h1 h2 ih=>exact .text h1 ih
 |truth h2 ih=>exact .truth ih
 |list h1 h2 h3 i2 i3=>exact .list (h1.keep hw hS hs) i2 i3
theorem VlS.len {w:World} {S:Nat→Prop} {us:List Value} {ps:List (List Cl)} (h:VlS w S us ps):us.length=ps.length:=by
 induction h with
 |nil=>rfl
 |num h1 h2 ih=>simp [ih]
 |text h1 h2 ih=>simp [ih]
 |truth h2 ih=>simp [ih]
 |list h1 h2 h3 i2 i3=>simp [i3]
theorem VlS.app {w:World} {S:Nat→Prop} {us:List Value} {ps:List (List Cl)} (h:VlS w S us ps) {us2:List Value} {ps2:List (List Cl)} (k:VlS w S us2 ps2):VlS w S (us++us2) (ps++ps2):=by
 induction h with
 |nil=>exact k
 |num h1 h2 ih=>exact .num h1 ih
 |text h1 h2 ih=>exact .text h1 ih
 |truth h2 ih=>exact .truth ih
 |list h1 h2 h3 i2 i3=>exact .list h1 h2 i3
theorem VlS.exs {w:World} {S:Nat→Prop} {us:List Value} {ps:List (List Cl)} (h:VlS w S us ps): ∀p∈ps,∃d,Exs (amL p) 1 0 p.length d:=by
 induction h with
 |nil=>intro p hp;cases hp
 |num h1 h2 ih=>
  intro p hp
  rcases List.mem_cons.mp hp with rfl|hp
  ·exact ⟨1,Exs.one (m:=0) (by simp [amL]) (.nil _)⟩
  ·exact ih p hp
 |text h1 h2 ih=>
  intro p hp
  rcases List.mem_cons.mp hp with rfl|hp
  ·exact ⟨1,Exs.one (m:=0) (by simp [amL]) (.nil _)⟩
  ·exact ih p hp
 |truth h2 ih=>
  intro p hp
  rcases List.mem_cons.mp hp with rfl|hp
  ·exact ⟨1,Exs.one (m:=0) (by simp [amL]) (.nil _)⟩
  ·exact ih p hp
 | @list v us' us ps' ps h1 h2 h3 i2 i3=>
  intro p hp
  rcases List.mem_cons.mp hp with rfl|hp
  ·have hc:=cat_exs i2 [(5,⟨#[]⟩,(ps'.length:Int))] []
   rw [List.append_nil] at hc
   have hone:Exs (amL (listV ps')) 1 0 (1+ps'.flatten.length) (maxV ps'+1):=Exs.one (m:=ps'.length) (by simp [listV,amL]) hc
   have hlen:(listV ps').length=1+ps'.flatten.length:=by simp [listV];omega
   exact ⟨_,by rw [hlen];exact hone⟩
  ·exact i3 p hp
theorem okV_parts {ps:List (List Cl)} (hx: ∀p∈ps,∃d,Exs (amL p) 1 0 p.length d) (hok:okV (listV ps)=true):(∀p∈ps,okV p=true)∧partsV (listV ps)=ps:=by
 have hc:=cut_cat hx [(5,⟨#[]⟩,(ps.length:Int))] []
 rw [List.append_nil] at hc
 have hp:partsV (listV ps)=ps:=by
  rw [partsV,if_pos ⟨hok,_,_,rfl,rfl⟩]
  have:(amL (listV ps)).getD 0 0=ps.length:=by simp [listV,amL]
  rw [this]
  exact hc
 refine ⟨?_,hp⟩
 have:=(list_partsV hok (c:=(5,⟨#[]⟩,(ps.length:Int))) (t:=ps.flatten) rfl rfl).2.1
 rwa [hp] at this
theorem VlS.all {w:World} {S:Nat→Prop} {P:Value→List Cl→Prop}
  (hn: ∀s,rdOK s=true→P (.iface 154 (.agg #[.int .i64 (rdT s), .int .i64 (rdB s)])) [(1,s,0)])
  (ht: ∀s:ByteArray,okC (2,s,0)=true→P (.iface 155 (.string s)) [(2,s,0)])
  (hb: ∀b:Bool,P (.iface 156 (.bool b)) [(3,truW b,0)])
  (hl: ∀v us ps,RowV w S v us→VlS w S us ps→(∀k (h:k<us.length) (h':k<ps.length),P us[k] ps[k])→P (.iface 158 v) (listV ps))
  {us:List Value} {ps:List (List Cl)} (h:VlS w S us ps): ∀k (h:k<us.length) (h':k<ps.length),P us[k] ps[k]:=by
 induction h with
 |nil=>intro k hk;simp at hk
 |num h1 h2 ih=>intro k hk hk';cases k with
  |zero=>exact hn _ h1
  |succ k=>exact ih k (by simpa using hk) (by simpa using hk')
 |text h1 h2 ih=>intro k hk hk';cases k with
  |zero=>exact ht _ h1
  |succ k=>exact ih k (by simpa using hk) (by simpa using hk')
 |truth h2 ih=>intro k hk hk';cases k with
  |zero=>exact hb _
  |succ k=>exact ih k (by simpa using hk) (by simpa using hk')
 |list h1 h2 h3 i2 i3=>intro k hk hk';cases k with
  |zero=>exact hl _ _ _ h1 h2 i2
  |succ k=>exact i3 k (by simpa using hk) (by simpa using hk')
def NodeV (l:List Cl) (f t:Nat) (w:World) (e:Ending) (w':World):Prop:=
 Below w.heap.size w w'∧ ∃u,e= .returned u∧VlS w' (fun b=>w.heap.size≤b∧b<w'.heap.size) [u] [(l.drop f).take (t-f)]
theorem infoV:(Tryz.prog.info? 70).map (fun i=>(i.zero,i.size,i.bytes))=some (some .nilIface,1,16):=by kernel_rfl
theorem conc_num:Tryz.prog.concrete 154=true:=by kernel_rfl
theorem conc_text:Tryz.prog.concrete 155=true:=by kernel_rfl
theorem conc_truth:Tryz.prog.concrete 156=true:=by kernel_rfl
theorem conc_list:Tryz.prog.concrete 158=true:=by kernel_rfl
theorem truW_of {s:ByteArray} (h:s.data.toList=trueL∨s.data.toList=falseL):truW (s.toList==[116,114,117,101])=s:=by
 rcases h with h|h
 ·rw [ls_yes (l:=[116,114,117,101]) h];exact (strL h).symm
 ·rw [ls_no (l:=[116,114,117,101]) (by rw [h];decide)];exact (strL h).symm
theorem VlS.iface {w:World} {S:Nat→Prop} {u:Value} {p:List Cl} (h:VlS w S [u] [p]): ∃T x,u= .iface T x:=by
 cases h<;>exact ⟨_,_,rfl⟩
theorem made_nil (n:Nat):(madeCells Value.nilIface.cells (n*1)).toList=List.replicate n Value.nilIface:=by
 have h: ∀x:Nat,([Value.nilIface][x % 1]?.getD default)=Value.nilIface:=fun x=>by rw [Nat.mod_one];rfl
 simp only [madeCells,Value.cells]
 simp [h,List.map_const']
theorem sub_one {l:List Cl} {f:Nat} (h:f<l.length):(l.drop f).take (f+1-f)=[l[f]]:=by
 rw [List.drop_eq_getElem_cons h,show f+1-f=1 by omega];rfl
def NInv (l:List Cl) (am:List Nat) (S:Nat→Prop) (w:World) (qs:List Nat) (f M k:Nat) (wr:World):Prop:=
 ∃(us:List Value) (ps:List (List Cl)) (g e0:Nat),us.length=k∧VlS wr (fun b=>w.heap.size≤b∧b≠M∧b<wr.heap.size) us ps∧ps.flatten=(l.drop (f+1)).take (g-(f+1))∧f+1≤g∧TrS w am S (qs.take k) (f+1) g e0∧
  wr.ownsRow w.heap.size 70 1 (.slice (some ⟨M,0,none⟩) qs.length qs.length) qs.length (us++List.replicate (qs.length-k) .nilIface)∧Below w.heap.size w wr
theorem NInv.next {l:List Cl} {am:List Nat} {S:Nat→Prop} {w wr w1:World} {qs:List Nat} {f M k g g' e1:Nat} {us:List Value} {ps:List (List Cl)} {u:Value}
  (hk:k<qs.length) (hus:us.length=k) (hv:VlS wr (fun b=>w.heap.size≤b∧b≠M∧b<wr.heap.size) us ps) (hp:ps.flatten=(l.drop (f+1)).take (g-(f+1))) (hfg:f+1≤g) (hgg:g≤g')
  (ht:TrS w am S (qs.take (k+1)) (f+1) g' e1) (ho:wr.ownsRow w.heap.size 70 1 (.slice (some ⟨M,0,none⟩) qs.length qs.length) qs.length (us++List.replicate (qs.length-k) .nilIface)) (hb:Below w.heap.size w wr)
  (hb1:Below wr.heap.size wr w1) (hu:VlS w1 (fun b=>wr.heap.size≤b∧b<w1.heap.size) [u] [(l.drop g).take (g'-g)]):NInv l am S w qs f M (k+1) (w1.setCell ⟨M,k,none⟩ u):=by
 have hM:=ho.lt M rfl
 have hsz:(w1.setCell ⟨M,k,none⟩ u).heap.size=w1.heap.size:=by simp [World.setCell]
 have hs1:=hb1.size
 have hset: ∀b,b≠M→(w1.setCell ⟨M,k,none⟩ u).heap[b]? =w1.heap[b]? :=fun b hbn=>Below.heap_setCell _ _ _ _ hbn
 have hbw:=hb.size
 refine ⟨us++[u],ps++[(l.drop g).take (g'-g)],g',e1,by simp [hus], ?_, ?_,by omega,ht, ?_, ?_⟩
 ·refine VlS.app (hv.keep ?_ ?_ (by rw [hsz];omega)) (hu.keep ?_ ?_ (by rw [hsz];omega))
  ·rintro b ⟨h1,h2,h3⟩-
   rw [hset b h2,hb1.block b h3]
  ·rintro b ⟨h1,h2,h3⟩-
   exact ⟨h1,h2,by rw [hsz];omega⟩
  ·rintro b ⟨h1,h2⟩-
   rw [hset b (by omega)]
  ·rintro b ⟨h1,h2⟩-
   exact ⟨by omega,by omega,by rw [hsz];omega⟩
 ·rw [List.flatten_append,hp]
  simp only [List.flatten_cons,List.flatten_nil,List.append_nil]
  have:l.drop g=(l.drop (f+1)).drop (g-(f+1)):=by rw [List.drop_drop];congr 1;omega
  rw [this,show g'-(f+1)=(g-(f+1))+(g'-g) by omega,List.take_add]
 ·have h1:=((ho.kept (row:=none) ⟨hb1.os,hb1.tape,hb1.output,hb1.size,fun i hi _=>hb1.block i hi⟩ (.inr (by simp [Value.ownBlock])))).stored k u
  have e:(us++List.replicate (qs.length-k) Value.nilIface).set k u=us++[u]++List.replicate (qs.length-(k+1)) Value.nilIface:=by
   rw [List.set_append_right _ _ (by omega),hus,Nat.sub_self,show qs.length-k=(qs.length-(k+1))+1 by omega,List.replicate_succ,List.set_cons_zero,List.append_assoc]
   rfl
  rw [e] at h1
  exact h1.1
 ·exact (hb.trans (hb1.mono hb.size)).setCell hM.1 _
theorem NInv.done {l:List Cl} {am:List Nat} {S:Nat→Prop} {w wr:World} {qs:List Nat} {f t M d:Nat} (h:NInv l am S w qs f M qs.length wr) (hx:Exs am qs.length (f+1) t d) (hl:f<l.length) (h5:l[f]=(5,⟨#[]⟩,(qs.length:Int))):
  NodeV l f t w (.returned (.iface 158 (.slice (some ⟨M,0,none⟩) qs.length qs.length))) wr:=by
 obtain ⟨us,ps,g,e0,hus,hv,hp,hfg,ht,ho,hb⟩:=h
 rw [List.take_of_length_le (Nat.le_refl _)] at ht
 obtain ⟨rfl,-⟩:=ht.exs.uniq hx
 have hM:=ho.lt M rfl
 have hln:=hv.len
 have e:(l.drop f).take (g-f)=listV ps:=by
  rw [listV,hp,List.drop_eq_getElem_cons hl,show g-f=(g-(f+1))+1 by omega,List.take_succ_cons,h5]
  congr 4;omega
 refine ⟨hb,_,rfl, ?_⟩
 rw [e]
 have hrep:us++List.replicate (qs.length-qs.length) Value.nilIface=us:=by simp
 rw [hrep] at ho
 refine .list (us':=us) ?_ (hv.keep (fun _ _ _=>rfl) (fun b hb' _=>⟨hb'.1,hb'.2.2⟩) (Nat.le_refl _)) .nil
 have hcm:qs.length≤maxLen:=by
  rcases ho.2 with ⟨h1,_⟩|⟨g',cap,cur,h1,_,_,h3,h4,_⟩
  ·cases h1
  ·injection h1 with h1 h2 h5';omega
 refine ⟨_,_,by rw [hus],by omega,hcm, .inr ⟨M,0,rfl,⟨hM.1,hM.2⟩,hM.2,fun k hk=> ?_⟩⟩
 rw [Nat.zero_add,ho.cellAt k (by omega),List.getElem?_eq_getElem hk]
theorem nodeValue_any (v:Value) (l:List Cl) (h60:l.length≤60) (hok:l.all okVC=true) (S:Nat→Prop) (j:Nat): ∀(N f t d:Nat) (w:World),RowC w v l→TrS w (amL l) S [N] f t d→t-f≤j→Tab w→
  Calls Tryz.prog 107 #[v, .pointer (some ⟨N,0,none⟩)] w (NodeV l f t w):=by
 induction j with
 |zero=>intro N f t d w hr h hj;have:=h.exs.le;simp at this;omega
 |succ j ih=>
  intro N f t d w hr h hj htab
  have HR:=zz hr
  obtain ⟨m,e,v2,qs,hm,hS,hb,ho,hro,ht,rfl⟩:=h.inv
  have hle:=ht.exs.le
  have htl:t≤(amL l).length:=h.exs.le.2 (by simp)
  rw [amL_length] at htl
  have hql:qs.length=m:=own_len ho
  subst hql
  have hNlt:N<w.heap.size:=hb.lt
  have hlt:f<l.length:=by omega
  obtain ⟨ao,cap,rfl,h1,h2,h3⟩:=hr
  obtain ⟨ao2,cap2,rfl,p1,p2,p3⟩:=own_ptr ho
  unfold maxLen at h2 p2
  obtain ⟨b,o,rfl,hbl,cc⟩:=h3.resolve_left (by rintro rfl;simp at hlt)
  obtain ⟨c0,c1,c2⟩:=cc f hlt
  have n0:w.cell? ⟨N,0,none⟩=some (.int .i64 (f:Int)):=hb.cell 0
  have n2:w.cell? ⟨N,2,none⟩=some (.slice ao2 qs.length cap2):=hb.cell 2
  have hvc:okVC l[f]=true:=by rw [List.all_eq_true] at hok;exact hok _ (List.getElem_mem hlt)
  rw [amL_at l f hlt] at hm
  have hkd:=okVC_kind hvc
  have hss:l[f].2.1.size≤60:=okW_size (okVC_W hvc)
  have HLF:=zz (show l[f]=(l[f].1,l[f].2.1,l[f].2.2) from rfl)
  have HSUB:=zz (show t=f+1→(l.drop f).take (t-f)=[l[f]] from fun h=>by subst h;exact sub_one hlt)
  have HMM:=zz hm
  generalize l[f].1=kk at c0 HLF hkd
  generalize l[f].2.1=ss at c1 HLF hss
  generalize hmm:l[f].2.2=mm at c2 HLF HMM
  rw [HLF.out] at hvc
  have HT:=zz ht;have P3:=zz p3;have HO:=zz ho
  have hlf:f+1≤t:=by have:=hle.1;omega
  have hleaf:mm=0→qs=[]∧t=f+1:=by
   rintro rfl
   have h0:qs.length=0:=by have:=HMM.out;simpa using this.symm
   have hq:qs=[]:=List.length_eq_zero_iff.mp h0
   subst hq
   have:=HT.out
   cases this
   exact ⟨rfl,rfl⟩
  clear hmm hm h3 cc p3 ho hro hb h ht
  rcases hkd with h1k|h2k|h3k|h5k
  ·subst h1k
   rw [okVC_1,Bool.and_eq_true] at hvc
   obtain ⟨hrd,hmb⟩:=hvc
   obtain rfl:mm=0:=by simpa [manyB] using hmb
   have HS1:=zz ((HSUB.out (hleaf rfl).2).trans (by rw [HLF.out]))
   have HRD:=zz hrd
   have hnum:=conc_num
   clear HSUB HLF hleaf hmb hrd HT P3 HO HMM
   go_enter Tryz.func107,Tryz.ntmps107
   go_wp2_with fail
   refine (readFraction_impl ss _ (by omega) (htab.al _)).mono ?_
   rintro e w1 ⟨rfl,hb1⟩
   have HB1:=zz (((Below.refl w.heap.size w).alloc (Nat.le_refl _) _).trans ((hb1.alloc hb1.size (.cells #[.int .i64 (rdT ss), .int .i64 (rdB ss)] 94)).mono (by simp)));clear hb1
   generalize hRT:rdT ss=RT at HB1⊢
   generalize hRB:rdB ss=RB at HB1⊢
   have HRT:=zz hRT;have HRB:=zz hRB;clear hRT hRB
   go_wp2
   go_ret
   refine ⟨HB1.out,_,rfl, ?_⟩
   rw [HS1.out,←HRT.out,←HRB.out]
   exact .num HRD.out .nil
  ·subst h2k
   rw [okVC_2] at hvc
   obtain rfl:mm=0:=by
    simp only [cellB,Bool.and_eq_true] at hvc
    simpa [manyB] using hvc.2
   have HS1:=zz ((HSUB.out (hleaf rfl).2).trans (by rw [HLF.out]))
   have HRD:=zz (show okC (2,ss,0)=true from hvc)
   have htxt:=conc_text
   clear HSUB HLF hleaf hvc HT P3 HO HMM
   go_enter Tryz.func107,Tryz.ntmps107
   go_wp2
   go_ret
   refine ⟨(Below.refl w.heap.size w).alloc (Nat.le_refl _) _,_,rfl, ?_⟩
   rw [HS1.out]
   exact .text HRD.out .nil
  ·subst h3k
   rw [okVC_3] at hvc
   obtain ⟨hw3,hm3⟩:(ss.data.toList=trueL∨ss.data.toList=falseL)∧mm=0:=by
    simp only [cellB,Bool.and_eq_true] at hvc
    refine ⟨?_,by simpa [manyB] using hvc.2⟩
    have:=hvc.1
    simpa [wordB] using this
   subst hm3
   have HS1:=zz ((HSUB.out (hleaf rfl).2).trans (by rw [HLF.out]))
   have HTW:=zz (truW_of hw3)
   have htru:=conc_truth
   clear HSUB HLF hleaf hvc HT P3 HO HMM hw3
   go_enter Tryz.func107,Tryz.ntmps107
   go_wp2
   go_ret
   refine ⟨(Below.refl w.heap.size w).alloc (Nat.le_refl _) _,_,rfl, ?_⟩
   rw [HS1.out]
   have:=VlS.truth (w:=w.alloc (.cells #[.int .i64 3, .string ss, .int .i64 0] 44)) (S:=fun b=>w.heap.size≤b∧b<(w.alloc (.cells #[.int .i64 3, .string ss, .int .i64 0] 44)).heap.size) (b:=ss.toList==[116,114,117,101]) .nil
   rw [HTW.out] at this
   exact this
  ·subst h5k
   rw [okVC_5] at hvc
   have hs0:ss=⟨#[]⟩:=by
    simp only [cellB,Bool.and_eq_true] at hvc
    have:=hvc.1
    exact strL (l:=[]) (by simpa [wordB] using this)
   subst hs0
   have hmq:mm=(qs.length:Int):=by
    have h1:=many_bd 5 mm (by simp only [cellB,Bool.and_eq_true] at hvc;exact hvc.2)
    have h2:=HMM.out
    simp at h2;omega
   subst hmq
   have H5:=zz HLF.out
   have hlst:=conc_list
   obtain ⟨i0,hi,hz0,hz1,hz2⟩:=info_parts infoV
   have hby:i0.bytes*qs.length≤281474976710656:=by rw [hz2];omega
   clear HSUB HLF hleaf hvc HMM hss
   have hB0:Below w.heap.size w (w.alloc (.cells #[.int .i64 5, .string ⟨#[]⟩, .int .i64 (qs.length:Int)] 44)):=(Below.refl w.heap.size w).alloc (Nat.le_refl _) _
   have n2a:(w.alloc (.cells #[.int .i64 5, .string ⟨#[]⟩, .int .i64 (qs.length:Int)] 44)).cell? ⟨N,2,none⟩=some (.slice ao2 qs.length cap2):=(hB0.cell (p:=⟨N,2,none⟩) hNlt).trans n2
   have HB0:=zz hB0;clear hB0
   go_enter Tryz.func107,Tryz.ntmps107
   go_wp2_with (at_make;refine wpList_make_full _ rfl _ _ 158 rfl w.heap.size 70 i0 .nilIface 1 Tryz.underlying158 hi hz0 hz1 .i64 .i64 (qs.length:Int) (qs.length:Int) qs.length rfl rfl rfl rfl hby (by unfold maxLen;omega) (by simp) ?_;intro w1 hown1 hgrow1;have n2b:w1.cell? ⟨N,2,none⟩=some (.slice ao2 qs.length cap2):=hgrow1.cell n2a (by simp))
   have HSTART:=zz (show NInv l (amL l) S w qs f (w.heap.size+1) 0 w1 from
    ⟨[],[],f+1,0,rfl, .nil,by simp,Nat.le_refl _,by rw [List.take_zero];exact .nil _,by
     have e:(madeCells Value.nilIface.cells (qs.length*1)).toList=List.replicate qs.length Value.nilIface:=made_nil qs.length
     have h:=hown1
     rw [e] at h
     simpa using h,HB0.out.grown hgrow1 (by simp) (by simp)⟩)
   have IH:=zz ih;have H5L:=zz (show l[f]=(5,⟨#[]⟩,(qs.length:Int)) from H5.out)
   have hHB1:w.heap.size+1≤w1.heap.size:=by have:=hgrow1.size;simp at this;omega
   clear hown1 hgrow1 ih hby
   go_wp2_with fail
   go_loopw [52] (fun i wr=> ∃k:Nat,k≤qs.length∧i= .int .i64 (k:Int)∧NInv l (amL l) S w qs f (w.heap.size+1) k wr) (fun i _=>qs.length-(intOf i).toNat)
   case atStart=>exact ⟨0,Nat.zero_le _,rfl,HSTART.out⟩
   case round=>
    obtain ⟨k,hk,rfl,hinv⟩:=hrel
    have HINV:=zz hinv;clear hinv
    by_cases hlt2:k<qs.length
    ·obtain ⟨us,ps,g,e0,hus,hv,hp,hfg,htk,hown,hbw⟩:=HINV.out
     obtain ⟨b2,rfl,hbl2,cc2⟩:=P3.out.resolve_left (by rintro rfl;simp at hlt2)
     have d0:wr.cell? ⟨b2,k,none⟩=some (.pointer (some ⟨qs[k],0,none⟩)):=(hbw.cell (p:=⟨b2,_,none⟩) hbl2).trans (cc2 k hlt2)
     obtain ⟨g1,g2,q0,q1,q2,j1,j2,j3,j4,-⟩:=HT.out.at k hlt2
     obtain ⟨rfl,-⟩:=htk.exs.uniq j1.exs
     have hx1:=j1.exs.le;have hx2:=j2.exs.le;have hx4:=j4.exs.le
     simp only [List.length_cons,List.length_nil] at hx2
     have hkeep:=j2.keep (w':=wr) (S':=S) (fun b _ h=>hbw.block b h) (fun b h _=>h)
     have HIK:=zz (IH.out qs[k] g g2 q1 wr (HR.out.mono hbw) hkeep (by omega) (htab.keep hbw))
     have HNX:=zz (fun w2 u hb1 hu=>NInv.next (l:=l) (am:=amL l) (S:=S) (w:=w) (wr:=wr) (w1:=w2) (u:=u) hlt2 hus hv hp hfg (by omega) j3 hown hbw hb1 hu)
     have HOW:=zz hown
     have hul:us.length+(qs.length-k)=qs.length:=by omega
     clear cc2 hv hp htk hown j1 j2 j3 j4 hkeep HINV
     go_wp2_with fail
     refine HIK.out.mono ?_
     rintro e w2 ⟨hb2,u,rfl,hu⟩
     obtain ⟨T,x,rfl⟩:=hu.iface
     have HO2:=zz (HOW.out.kept (row:=none) ⟨hb2.os,hb2.tape,hb2.output,hb2.size,fun i hi _=>hb2.block i hi⟩ (.inr (by simp [Value.ownBlock])))
     have HN2:=zz (HNX.out w2 _ hb2 hu)
     obtain ⟨u3,g3⟩: ∃u,w2.cell? ⟨w.heap.size+1,k,none⟩=some u:=by
      rw [HO2.out.cellAt k (by omega),List.getElem?_eq_getElem (by have:=HO2.out.1;omega)];exact ⟨_,rfl⟩
     have z3:=HO2.out.frozenAt k
     clear hb2 hu
     go_wp2
     go_roundw
     case rel=>exact ⟨k+1,by omega,by go_num,HN2.out⟩
     case measure=>simp [intOf];omega
    ·obtain rfl:k=qs.length:=by omega
     have HD:=zz (HINV.out.done HT.out.exs hlt H5L.out)
     go_wp2
     go_ret
     exact HD.out
def ReadV (l:List Cl) (w:World) (e:Ending) (w':World):Prop:=
 Below w.heap.size w w'∧((∃T x,e= .returned (.iface T x)∧okV l=true∧VlS w' (fun b=>w.heap.size≤b∧b<w'.heap.size) [.iface T x] [l])∨(e= .returned .nilIface∧okV l=false))
theorem readValue_any (v:Value) (l:List Cl) (w:World) (hr:RowC w v l) (hz:ShortC l) (htab:Tab w):
  Calls Tryz.prog 74 #[v] w (ReadV l w):=by
 have HR:=zz hr
 have HC:=zz (valueTree_any v l w hr hz htab)
 obtain ⟨ao,cap,rfl,h1,h2,h3⟩:=hr
 unfold maxLen at h2
 clear h3 hz
 go_enter Tryz.func74,Tryz.ntmps74
 go_wp2_with fail
 refine HC.out.mono ?_
 rintro e w1 ⟨hb1,⟨N,d,rfl,hok,hd,ht⟩|⟨rfl,hno⟩⟩
 ·have hi:=(okP_iff l).mp hok
  rw [okP_V] at hok
  have HOK:=zz hok;have HB:=zz hb1;have HT:=zz ht;have HAL:=zz hi.2.1
  have h60:=hi.1
  clear hok hb1 ht hi
  go_wp2_with fail
  refine (nodeValue_any _ l h60 HAL.out _ l.length N 0 l.length d _ (HR.out.mono HB.out) HT.out (by omega) (htab.keep HB.out)).mono ?_
  rintro e w2 ⟨hb2,u,rfl,hu⟩
  have HB2:=zz (HB.out.trans (hb2.mono HB.out.size))
  obtain ⟨T,x,rfl⟩:=hu.iface
  have HU:=zz (show VlS w2 (fun b=>w.heap.size≤b∧b<w2.heap.size) [.iface T x] [l] by
   have:=hu.keep (w':=w2) (S':=fun b=>w.heap.size≤b∧b<w2.heap.size) (fun _ _ _=>rfl) (fun b hb _=>⟨by have:=HB.out.size;omega,hb.2⟩) (Nat.le_refl _)
   simpa using this)
  clear hb2 hu
  go_wp2
  go_ret
  exact ⟨HB2.out, .inl ⟨T,x,rfl,HOK.out,HU.out⟩⟩
 ·rw [okP_V] at hno
  have HOK:=zz hno;have HB:=zz hb1
  clear hno hb1
  go_wp2
  go_ret
  exact ⟨HB.out, .inr ⟨rfl,HOK.out⟩⟩
def AppE (base:Nat) (acc p:List Cl) (w:World) (e:Ending) (w':World):Prop:=
 ∃v',e= .returned v'∧w'.ownsRow base 44 3 v' (acc.length+p.length) (flatC (acc++p))∧Below base w w'∧w.heap.size≤w'.heap.size
def AppOK (W:World) (u:Value) (p:List Cl):Prop:=
 ∃(T:TypeId) (x:Value) (K:FuncId),u= .iface T x∧(∀w,(method 384 T x "loop.example/configformatter/impl.appendTo").run Tryz.prog w= .ok (K,x) w)∧(∀args w,(callFunc K args).run Tryz.prog w= .ok (.enter K args) w)∧
  ∀(w:World) (base:Nat) (v:Value) (acc:List Cl),Below W.heap.size W w→W.heap.size≤base→base≤w.heap.size→w.ownsRow base 44 3 v acc.length (flatC acc)→acc.length+p.length≤100000→
   Calls Tryz.prog K #[x,v] w (AppE base acc p w)
theorem RowC_lit (w:World) (k m:Int) (s:ByteArray):RowC (w.alloc (.cells #[.int .i64 k, .string s, .int .i64 m] 44)) (.slice (some ⟨w.heap.size,0,none⟩) 1 1) [(k,s,m)]:=by
 refine ⟨some ⟨w.heap.size,0,none⟩,1,rfl,by simp,by unfold maxLen;omega, .inr ⟨w.heap.size,0,rfl,by simp,fun j hj=> ?_⟩⟩
 obtain rfl:j=0:=by simpa using hj
 exact ⟨(cell_of_row (w.alloc (.cells #[.int .i64 k, .string s, .int .i64 m] 44)) w.heap.size 0 _ _ (0,0) (heap_alloc_new w _)).trans rfl,(cell_of_row (w.alloc (.cells #[.int .i64 k, .string s, .int .i64 m] 44)) w.heap.size 1 _ _ (0,0) (heap_alloc_new w _)).trans rfl,(cell_of_row (w.alloc (.cells #[.int .i64 k, .string s, .int .i64 m] 44)) w.heap.size 2 _ _ (0,0) (heap_alloc_new w _)).trans rfl⟩
theorem own_belowA {w w1:World} {base:Nat} {e:TypeId} {size n:Nat} {v:Value} {xs:List Value} (h:w.ownsRow base e size v n xs) (hb:Below w.heap.size w w1):w1.ownsRow base e size v n xs:=
 h.kept (row:=none) ⟨hb.os,hb.tape,hb.output,hb.size,fun i hi _=>hb.block i hi⟩ (by cases hv:v.ownBlock with|none=>exact .inl rfl|some x=>exact .inr (by simp))
theorem meth_app_num (x:Value) (w:World):(method 384 154 x "loop.example/configformatter/impl.appendTo").run Tryz.prog w= .ok (279,x) w:=by kernel_rfl
theorem meth_app_text (x:Value) (w:World):(method 384 155 x "loop.example/configformatter/impl.appendTo").run Tryz.prog w= .ok (281,x) w:=by kernel_rfl
theorem meth_app_truth (x:Value) (w:World):(method 384 156 x "loop.example/configformatter/impl.appendTo").run Tryz.prog w= .ok (283,x) w:=by kernel_rfl
theorem meth_app_list (x:Value) (w:World):(method 384 158 x "loop.example/configformatter/impl.appendTo").run Tryz.prog w= .ok (285,x) w:=by kernel_rfl
theorem text_num (t b:Int) (w:World) (htab:Tab w):
  Calls Tryz.prog 280 #[.agg #[.int .i64 t, .int .i64 b]] w fun e w'=>e= .returned (.string ⟨(textF t b).toArray⟩)∧Below w.heap.size w w':=by
 go_enter Tryz.func280,Tryz.ntmps280
 go_wp2_with fail
 refine (fractionText_impl t b _ (htab.al _)).mono ?_
 rintro e w1 ⟨rfl,hb1⟩
 have HB1:=zz (((Below.refl w.heap.size w).alloc (Nat.le_refl _) _).trans (hb1.mono (by simp)));clear hb1
 go_wp2
 go_ret
 exact ⟨rfl,HB1.out⟩
theorem text_truth (b:Bool) (w:World):
  Calls Tryz.prog 284 #[.bool b] w fun e w'=>e= .returned (.string (truW b))∧w=w':=by
 cases b with
 |true=>
  go_enter Tryz.func284,Tryz.ntmps284
  go_wp2
  go_ret
  exact ⟨rfl,rfl⟩
 |false=>
  go_enter Tryz.func284,Tryz.ntmps284
  go_wp2
  go_ret
  exact ⟨rfl,rfl⟩
theorem rd_word (s:ByteArray) (h:rdOK s=true):(⟨(textF (rdT s) (rdB s)).toArray⟩:ByteArray)=s:=by
 rw [rd_text s h]
theorem app_num (s:ByteArray) (hrd:rdOK s=true) (w:World) (base:Nat) (v:Value) (acc:List Cl) (hbase:base≤w.heap.size) (ho:w.ownsRow base 44 3 v acc.length (flatC acc)) (hn:acc.length+1≤100000) (htab:Tab w):
  Calls Tryz.prog 279 #[.agg #[.int .i64 (rdT s), .int .i64 (rdB s)],v] w (AppE base acc [(1,s,0)] w):=by
 obtain ⟨i0,hi,hz0,hz1,hz2⟩:=info_parts infoC
 have HW:=zz (rd_word s hrd)
 have HO:=zz ho
 generalize rdT s=T at HW⊢
 generalize rdB s=B at HW⊢
 clear ho hrd
 go_enter Tryz.func279,Tryz.ntmps279
 go_wp2_with fail
 refine (text_num T B _ (htab.al _)).mono ?_
 rintro e w1 ⟨rfl,hb1⟩
 rw [HW.out]
 have HB1:=zz (((Below.refl w.heap.size w).alloc (Nat.le_refl _) _).trans (hb1.mono (by simp)));clear hb1
 have HO1:=zz (own_belowA HO.out HB1.out)
 have hs1:=HB1.out.size
 go_wp2_with (at_builtin;refine append_rowC rfl _ _ 26 rfl base 44 i0 (.agg #[.int .i64 0, .string ByteArray.empty, .int .i64 0]) 32 Tryz.underlying26 hi hz0 hz1 hz2 (by decide) v acc.length (flatC acc) rfl (HO1.out.alloc _) _ [(1,s,0)] rfl (RowC_lit _ _ _ _) (by unfold maxLen;simp;omega) (by simp;omega) (by simp;omega) ?_)
 intro v2 w2 hown2 hgrow2
 have HO2:=zz (show w2.ownsRow base 44 3 v2 (acc.length+[((1:Int),s,(0:Int))].length) (flatC (acc++[(1,s,0)])) by rw [flatC_append];exact hown2)
 have HB2:=zz ((((HB1.out.mono hbase).alloc (by omega) _).grown hgrow2 (by simp;omega) (fun r hr=>(HO1.out.lt r hr).1)))
 have hs2:w.heap.size≤w2.heap.size:=by have:=hgrow2.size;simp at this;omega
 clear hown2 hgrow2
 go_wp2
 go_ret
 exact ⟨_,rfl,HO2.out,HB2.out,hs2⟩
theorem app_text (s:ByteArray) (w:World) (base:Nat) (v:Value) (acc:List Cl) (hbase:base≤w.heap.size) (ho:w.ownsRow base 44 3 v acc.length (flatC acc)) (hn:acc.length+1≤100000):
  Calls Tryz.prog 281 #[.string s,v] w (AppE base acc [(2,s,0)] w):=by
 obtain ⟨i0,hi,hz0,hz1,hz2⟩:=info_parts infoC
 have HO:=zz ho
 clear ho
 go_enter Tryz.func281,Tryz.ntmps281
 go_wp2_with (at_builtin;refine append_rowC rfl _ _ 26 rfl base 44 i0 (.agg #[.int .i64 0, .string ByteArray.empty, .int .i64 0]) 32 Tryz.underlying26 hi hz0 hz1 hz2 (by decide) v acc.length (flatC acc) rfl (HO.out.alloc _) _ [(2,s,0)] rfl (RowC_lit _ _ _ _) (by unfold maxLen;simp;omega) (by simp;omega) (by simp;omega) ?_)
 intro v2 w2 hown2 hgrow2
 have HO2:=zz (show w2.ownsRow base 44 3 v2 (acc.length+[((2:Int),s,(0:Int))].length) (flatC (acc++[(2,s,0)])) by rw [flatC_append];exact hown2)
 have HB2:=zz ((((Below.refl base w).alloc (by omega) _).grown hgrow2 (by simp;omega) (fun r hr=>(HO.out.lt r hr).1)))
 have hs2:w.heap.size≤w2.heap.size:=by have:=hgrow2.size;simp at this;omega
 clear hown2 hgrow2
 go_wp2
 go_ret
 exact ⟨_,rfl,HO2.out,HB2.out,hs2⟩
theorem app_truth (b:Bool) (w:World) (base:Nat) (v:Value) (acc:List Cl) (hbase:base≤w.heap.size) (ho:w.ownsRow base 44 3 v acc.length (flatC acc)) (hn:acc.length+1≤100000):
  Calls Tryz.prog 283 #[.bool b,v] w (AppE base acc [(3,truW b,0)] w):=by
 obtain ⟨i0,hi,hz0,hz1,hz2⟩:=info_parts infoC
 have HO:=zz ho
 have HT:=zz (fun w'=>text_truth b w')
 generalize truW b=s at HT⊢
 clear ho
 go_enter Tryz.func283,Tryz.ntmps283
 go_wp2_with fail
 refine (HT.out _).mono ?_
 rintro e w' ⟨rfl,rfl⟩
 go_wp2_with (at_builtin;refine append_rowC rfl _ _ 26 rfl base 44 i0 (.agg #[.int .i64 0, .string ByteArray.empty, .int .i64 0]) 32 Tryz.underlying26 hi hz0 hz1 hz2 (by decide) v acc.length (flatC acc) rfl (HO.out.alloc _) _ [(3,s,0)] rfl (RowC_lit _ _ _ _) (by unfold maxLen;simp;omega) (by simp;omega) (by simp;omega) ?_)
 intro v2 w2 hown2 hgrow2
 have HO2:=zz (show w2.ownsRow base 44 3 v2 (acc.length+[((3:Int),s,(0:Int))].length) (flatC (acc++[(3,s,0)])) by rw [flatC_append];exact hown2)
 have HB2:=zz ((((Below.refl base w).alloc (by omega) _).grown hgrow2 (by simp;omega) (fun r hr=>(HO.out.lt r hr).1)))
 have hs2:w.heap.size≤w2.heap.size:=by have:=hgrow2.size;simp at this;omega
 clear hown2 hgrow2
 go_wp2
 go_ret
 exact ⟨_,rfl,HO2.out,HB2.out,hs2⟩
theorem app_list (W:World) (S:Nat→Prop) (x:Value) (us:List Value) (ps:List (List Cl)) (hx:RowV W S x us) (hl:us.length=ps.length) (hall: ∀k (h:k<us.length) (h':k<ps.length),AppOK W us[k] ps[k])
  (w:World) (base:Nat) (v:Value) (acc:List Cl) (hW:Below W.heap.size W w) (hWb:W.heap.size≤base) (hbase:base≤w.heap.size) (ho:w.ownsRow base 44 3 v acc.length (flatC acc)) (hn:acc.length+(listV ps).length≤100000):
  Calls Tryz.prog 285 #[x,v] w (AppE base acc (listV ps) w):=by
 obtain ⟨i0,hi,hz0,hz1,hz2⟩:=info_parts infoC
 have HO:=zz ho;have HW:=zz hW;have HALL:=zz hall
 have hlen:(listV ps).length=1+ps.flatten.length:=by simp [listV];omega
 obtain ⟨ao,cap,rfl,h1,h2,h3⟩:=hx
 unfold maxLen at h2
 have H3:=zz h3
 have HPL:=zz (show ps.length=us.length from hl.symm)
 have HLV:=zz (show listV ps=(5,⟨#[]⟩,(us.length:Int))::ps.flatten by rw [listV,hl])
 have HLEN:=zz hlen;have HN:=zz hn
 have hn0:acc.length+1≤100000:=by omega
 clear ho hW hall h3 hl hlen hn
 go_enter Tryz.func285,Tryz.ntmps285
 go_wp2_with (at_builtin;refine append_rowC rfl _ _ 26 rfl base 44 i0 (.agg #[.int .i64 0, .string ByteArray.empty, .int .i64 0]) 32 Tryz.underlying26 hi hz0 hz1 hz2 (by decide) v acc.length (flatC acc) rfl (HO.out.alloc _) _ [(5,⟨#[]⟩,(us.length:Int))] rfl (RowC_lit _ _ _ _) (by unfold maxLen;simp;omega) (by simp;omega) (by simp;omega) ?_)
 intro v2 w2 hown2 hgrow2
 have HO2:=zz (show w2.ownsRow base 44 3 v2 (acc++[((5:Int),(⟨#[]⟩:ByteArray),(us.length:Int))]).length (flatC (acc++[(5,⟨#[]⟩,(us.length:Int))])) by rw [flatC_append,List.length_append];exact hown2)
 have HB2:=zz ((((Below.refl base w).alloc (by omega) _).grown hgrow2 (by simp;omega) (fun r hr=>(HO.out.lt r hr).1)))
 have hs2:w.heap.size≤w2.heap.size:=by have:=hgrow2.size;simp at this;omega
 clear hown2 hgrow2
 go_wp2_with fail
 go_loopw [1,15] (fun a i wr=> ∃k:Nat,k≤us.length∧i= .int .i64 (k:Int)∧wr.ownsRow base 44 3 a ((acc++[((5:Int),(⟨#[]⟩:ByteArray),(us.length:Int))])++(ps.take k).flatten).length (flatC ((acc++[((5:Int),(⟨#[]⟩:ByteArray),(us.length:Int))])++(ps.take k).flatten))∧Below base w wr∧w.heap.size≤wr.heap.size) (fun _ i _=>us.length-(intOf i).toNat)
 case atStart=>exact ⟨0,Nat.zero_le _,rfl,by simpa using HO2.out,HB2.out,hs2⟩
 case round=>
  obtain ⟨k,hk,rfl,hown,hb,hsz⟩:=hrel
  have HOR:=zz hown;have HB:=zz hb
  clear hown hb
  by_cases hlt:k<us.length
  ·obtain ⟨b,o,rfl,-,hbl,cc⟩:=H3.out.resolve_left (by rintro rfl;simp at hlt)
   have hWr:Below W.heap.size W wr:=HW.out.trans (HB.out.mono hWb)
   have d0:wr.cell? ⟨b,o+k,none⟩=some us[k]:=(hWr.cell (p:=⟨b,_,none⟩) hbl).trans (cc k hlt)
   have hfl:(ps.take (k+1)).flatten=(ps.take k).flatten++ps[k]'(by rw [HPL.out];exact hlt):=by
    rw [List.take_succ_eq_append_getElem (by rw [HPL.out];exact hlt),List.flatten_append];simp
   have hle:(ps.take (k+1)).flatten.length≤ps.flatten.length:=by
    conv=>rhs;rw [←List.take_append_drop (k+1) ps,List.flatten_append,List.length_append]
    omega
   obtain ⟨T,xk,K,hu,hm,heK,hK⟩:=HALL.out k hlt (by rw [HPL.out];exact hlt)
   rw [hu] at d0
   have HK:=zz (hK wr base _ _ hWr hWb (by omega) HOR.out (by rw [hfl,List.length_append] at hle;rw [List.length_append,List.length_append];have:=HLEN.out;have:=HN.out;simp only [List.length_cons,List.length_nil];omega))
   have HFL:=zz hfl
   clear hfl hle hK cc
   go_wp2_with fail
   refine HK.out.mono ?_
   rintro e w3 ⟨v3,rfl,ho3,hb3,hs3⟩
   have HO3:=zz (show w3.ownsRow base 44 3 v3 ((acc++[((5:Int),(⟨#[]⟩:ByteArray),(us.length:Int))])++(ps.take (k+1)).flatten).length (flatC ((acc++[((5:Int),(⟨#[]⟩:ByteArray),(us.length:Int))])++(ps.take (k+1)).flatten)) by
    rw [HFL.out,←List.append_assoc,List.length_append];exact ho3)
   have HB3:=zz (HB.out.trans hb3)
   clear ho3 hb3
   go_wp2
   go_roundw
   case rel=>exact ⟨k+1,by omega,by go_num,HO3.out,HB3.out,by omega⟩
   case measure=>simp [intOf];omega
  ·obtain rfl:k=us.length:=by omega
   have HFA:=zz (show (acc++[((5:Int),(⟨#[]⟩:ByteArray),(us.length:Int))])++(ps.take us.length).flatten=acc++listV ps by
    rw [HLV.out,List.take_of_length_le (by rw [HPL.out];exact Nat.le_refl _)];simp)
   have HO3:=zz (show wr.ownsRow base 44 3 _ (acc.length+(listV ps).length) (flatC (acc++listV ps)) by
    have:=HOR.out;rw [HFA.out,List.length_append] at this;exact this)
   go_wp2
   go_ret
   exact ⟨_,rfl,HO3.out,HB.out,hsz⟩
theorem VlS.app_ok {W:World} {S:Nat→Prop} {us:List Value} {ps:List (List Cl)} (h:VlS W S us ps) (htab:Tab W): ∀k (hk:k<us.length) (hk':k<ps.length),AppOK W us[k] ps[k]:=by
 refine VlS.all (P:=AppOK W) ?_ ?_ ?_ ?_ h
 ·intro s hs
  exact ⟨_,_,279,rfl,fun w=>meth_app_num _ w,enters_of Tryz.func279 (by kernel_rfl) rfl,fun w base v acc hW hWb hbase ho hn=>app_num s hs w base v acc hbase ho hn (htab.keep hW)⟩
 ·intro s hs
  exact ⟨_,_,281,rfl,fun w=>meth_app_text _ w,enters_of Tryz.func281 (by kernel_rfl) rfl,fun w base v acc hW hWb hbase ho hn=>app_text s w base v acc hbase ho hn⟩
 ·intro b
  exact ⟨_,_,283,rfl,fun w=>meth_app_truth _ w,enters_of Tryz.func283 (by kernel_rfl) rfl,fun w base v acc hW hWb hbase ho hn=>app_truth b w base v acc hbase ho hn⟩
 ·intro v us ps hv hs hall
  exact ⟨_,_,285,rfl,fun w=>meth_app_list _ w,enters_of Tryz.func285 (by kernel_rfl) rfl,fun w base v' acc hW hWb hbase ho hn=>app_list W S v us ps hv hs.len hall w base v' acc hW hWb hbase ho hn⟩
end Go.Proofs.YthillfgjpalpcaaGreatDoor
