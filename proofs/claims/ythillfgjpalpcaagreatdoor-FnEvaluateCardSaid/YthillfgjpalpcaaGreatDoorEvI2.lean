/-
  impl's (*node).partValues, list and call, by their contracts.
-/
import Derived.Test.YthillfgjpalpcaaGreatDoorEvI1
set_option linter.unusedVariables false
set_option maxHeartbeats 4000000
set_option maxRecDepth 100000
namespace Go.Proofs.YthillfgjpalpcaaGreatDoor
open Go.RowKit
def PInv (w:World) (S:Nat→Prop) (ks:List (Option (List Cl))) (n M k:Nat) (wr:World):Prop:=
 ∃(us:List Value) (ls:List (List Cl)),us.length=k∧VlS wr (fun b=>S b∧b≠M) us ls∧ks.take k=ls.map some∧(∀l∈ls,okV l=true)∧wr.ownsRow w.heap.size 70 1 (.slice (some ⟨M,0,none⟩) n n) n (us++List.replicate (n-k) .nilIface)∧Below w.heap.size w wr
theorem PInv.next {w wr w1:World} {S:Nat→Prop} {ks:List (Option (List Cl))} {n M k:Nat} {u:Value} {r:List Cl} (h:PInv w S ks n M k wr) (hk:k<n) (hkl:k<ks.length) (hb1:Below wr.heap.size wr w1) (hu:VlS w1 (fun b=>S b∧b≠M) [u] [r]) (hok:okV r=true) (ho:ks[k]=some r):
  PInv w S ks n M (k+1) (w1.setCell ⟨M,k,none⟩ u):=by
 obtain ⟨us,ls,hus,hv,ht,hall,hown,hb⟩:=h
 have hM:=hown.lt M rfl
 have hsz:(w1.setCell ⟨M,k,none⟩ u).heap.size=w1.heap.size:=by simp [World.setCell]
 have hs1:=hb1.size
 have hset: ∀b,b≠M→(w1.setCell ⟨M,k,none⟩ u).heap[b]? =w1.heap[b]? :=fun b hbn=>Below.heap_setCell _ _ _ _ hbn
 have hbw:=hb.size
 refine ⟨us++[u],ls++[r],by simp [hus], ?_, ?_, ?_, ?_, ?_⟩
 ·refine VlS.app (hv.keep ?_ ?_ (by rw [hsz];omega)) (hu.keep ?_ ?_ (by rw [hsz];omega))
  ·rintro b ⟨h1,h2⟩ h3
   rw [hset b h2,hb1.block b h3]
  ·exact fun b h _=>h
  ·rintro b ⟨h1,h2⟩-
   rw [hset b h2]
  ·exact fun b h _=>h
 ·rw [List.take_succ_eq_append_getElem hkl,ht,ho,List.map_append];rfl
 ·intro l hl
  rw [List.mem_append,List.mem_singleton] at hl
  rcases hl with hl|rfl
  ·exact hall l hl
  ·exact hok
 ·have h1:=((hown.kept (row:=none) ⟨hb1.os,hb1.tape,hb1.output,hb1.size,fun i hi _=>hb1.block i hi⟩ (.inr (by simp [Value.ownBlock])))).stored k u
  have e:(us++List.replicate (n-k) Value.nilIface).set k u=us++[u]++List.replicate (n-(k+1)) Value.nilIface:=by
   rw [List.set_append_right _ _ (by omega),hus,Nat.sub_self,show n-k=(n-(k+1))+1 by omega,List.replicate_succ,List.set_cons_zero,List.append_assoc]
   rfl
  rw [e] at h1
  exact h1.1
 ·exact (hb.trans (hb1.mono hb.size)).setCell hM.1 _
theorem allO_noneI: ∀{ks:List (Option (List Cl))} {k:Nat} (h:k<ks.length),ks[k]=none→(∃ls:List (List Cl),ks.take k=ls.map some)→allO ks=none:=by
 intro ks
 induction ks with
 |nil=>intro k h;simp at h
 |cons x xs ih=>
  intro k h hn ht
  cases k with
  |zero=>
   have:x=none:=hn
   subst this;rfl
  |succ k=>
   obtain ⟨ls,hl⟩:=ht
   match ls,hl with
   |l::ls,hl=>
    rw [List.take_succ_cons,List.map_cons] at hl
    injection hl with h1 h2
    subst h1
    rw [allO,ih (by simpa using h) hn ⟨ls,h2⟩];rfl
def PartV (S:Nat→Prop) (ks:List (Option (List Cl))) (w:World) (e:Ending) (w':World):Prop:=
 Below w.heap.size w w'∧((∃v us ls,e= .returned (.tuple #[v, .bool true])∧RowV w' S v us∧VlS w' S us ls∧allO ks=some ls∧(∀l∈ls,okV l=true))∨(e= .returned (.tuple #[.slice none 0 0, .bool false])∧allO ks=none))
theorem PInv.done {w wr:World} {S:Nat→Prop} {ks:List (Option (List Cl))} {n M:Nat} (h:PInv w S ks n M n wr) (hn:ks.length=n) (hS:Hi w.heap.size S):PartV S ks w (.returned (.tuple #[.slice (some ⟨M,0,none⟩) n n, .bool true])) wr:=by
 obtain ⟨us,ls,hus,hv,ht,hall,hown,hb⟩:=h
 rw [List.take_of_length_le (by omega)] at ht
 rw [Nat.sub_self,List.replicate_zero,List.append_nil] at hown
 exact ⟨hb, .inl ⟨_,us,ls,rfl,(RowV.of_own hown hS).1,hv.keep (fun _ _ _=>rfl) (fun b hb _=>hb.1) (Nat.le_refl _),by rw [ht];exact allO_some ls,hall⟩⟩
theorem partValues_any (N B:Nat) (env:List Bd) (qs:List Nat) (sa:Option Addr) (sn scp:Nat) (ks:List (Option (List Cl))) (S:Nat→Prop) (w:World) (hn:NodeP w N qs) (hq:qs.length≤1000) (hp:PartsE w B env qs (.agg #[.slice sa sn scp, .map (some B)]) ks) (hS:Hi w.heap.size S) (he:EnvV w S B env) (htab:Tab w):
  Calls Tryz.prog 140 #[.pointer (some ⟨N,0,none⟩), .agg #[.slice sa sn scp, .map (some B)]] w (PartV S ks w):=by
 have HS:=zz hS;have HE:=zz he;have HT:=zz htab;have HP:=zz hp.2;have HL:=zz hp.1
 obtain ⟨ao,cap,n2,hN,h1,h2,h3⟩:=hn
 unfold maxLen at h2
 have H3:=zz h3
 obtain ⟨i0,hi,hz0,hz1,hz2⟩:=info_parts infoV
 have hby:i0.bytes*qs.length≤281474976710656:=by rw [hz2];omega
 clear hp hS he htab h3
 go_enter Tryz.func140,Tryz.ntmps140
 go_wp2_with (at_make;have HBA:=zz ((Below.refl w.heap.size w).alloc (Nat.le_refl _) (.cells #[.slice sa sn scp, .map (some B)] 73));have n2a:(w.alloc (.cells #[.slice sa sn scp, .map (some B)] 73)).cell? ⟨N,2,none⟩=some (.slice ao qs.length cap):=(HBA.out.cell (p:=⟨N,2,none⟩) hN).trans n2;refine wpList_make_full _ rfl _ _ 157 rfl w.heap.size 70 i0 .nilIface 1 Tryz.underlying157 hi hz0 hz1 .i64 .i64 (qs.length:Int) (qs.length:Int) qs.length rfl rfl rfl rfl hby (by unfold maxLen;omega) (by simp) ?_;intro w1 hown1 hgrow1;have n2b:w1.cell? ⟨N,2,none⟩=some (.slice ao qs.length cap):=hgrow1.cell n2a (by simp);have s0:=hgrow1.cell (scp_new w sa sn scp B).1 (by simp);have s1:=hgrow1.cell (scp_new w sa sn scp B).2 (by simp))
 have HSTART:=zz (show PInv w S ks qs.length (w.heap.size+1) 0 w1 from
  ⟨[],[],rfl, .nil,by simp,fun l hl=>(by cases hl),by
   have e:(madeCells Value.nilIface.cells (qs.length*1)).toList=List.replicate qs.length Value.nilIface:=made_nil qs.length
   have h:=hown1
   rw [e] at h
   simpa using h,HBA.out.grown hgrow1 (by simp) (by simp)⟩)
 have hHB1:w.heap.size+1+1≤w1.heap.size:=by have:=HSTART.out;obtain ⟨us,ls,-,-,-,-,h,-⟩:=this;have h9:w.heap.size+1<w1.heap.size:=(h.lt (w.heap.size+1) rfl).2;omega
 have HSC:=zz (And.intro s0 s1)
 have HBW1:=zz (HBA.out.grown hgrow1 (by simp) (by simp))
 clear hown1 hgrow1 hby s0 s1
 go_wp2_with fail
 go_loopw [20] (fun i wr=> ∃k:Nat,k≤qs.length∧i= .int .i64 (k:Int)∧PInv w S ks qs.length (w.heap.size+1) k wr∧wr.cell? ⟨w.heap.size,0,none⟩=some (.slice sa sn scp)∧wr.cell? ⟨w.heap.size,1,none⟩=some (.map (some B))) (fun i _=>qs.length-(intOf i).toNat)
 case atStart=>exact ⟨0,Nat.zero_le _,rfl,HSTART.out,HSC.out⟩
 case round=>
  obtain ⟨k,hk,rfl,hinv,s0,s1⟩:=hrel
  have HINV:=zz hinv;clear hinv
  by_cases hlt:k<qs.length
  ·obtain ⟨us,ls,hus,hv,ht,hall,hown,hbw⟩:=HINV.out
   obtain ⟨b,rfl,hbl,cc⟩:=H3.out.resolve_left (by rintro rfl;simp at hlt)
   have d0:wr.cell? ⟨b,k,none⟩=some (.pointer (some ⟨qs[k],0,none⟩)):=(hbw.cell (p:=⟨b,_,none⟩) hbl).trans (cc k hlt)
   have hkl:k<ks.length:=by have:=HL.out;omega
   have hM:w.heap.size+1<wr.heap.size:=(hown.lt (w.heap.size+1) rfl).2
   have HBW:=zz hbw
   have HIK:=zz (HP.out k hlt hkl wr (fun b=>S b∧b≠w.heap.size+1) hbw (fun b hb=>⟨HS.out b (by have:=hbw.size;omega),by omega⟩) (HE.out.keep hbw (fun b hb hl=>⟨hb,by omega⟩)) (HT.out.keep hbw))
   have HOW:=zz hown
   have HNX:=zz (fun w2 u r hb1 hu hok ho=>PInv.next (w1:=w2) (u:=u) (r:=r) HINV.out hlt hkl hb1 hu hok ho)
   have HNO:=zz (fun h=>allO_noneI hkl h ⟨ls,ht⟩)
   have q1:=fun w=>eqlNo w
   clear hv ht hall hown cc hbw
   go_wp2_with fail
   refine HIK.out.mono ?_
   rintro e w2 ⟨hb2,⟨rfl,hno⟩|⟨u,r,rfl,hu,hok,ho⟩⟩
   ·have HO2:=zz (HOW.out.kept (row:=none) ⟨hb2.os,hb2.tape,hb2.output,hb2.size,fun i hi _=>hb2.block i hi⟩ (.inr (by simp [Value.ownBlock])))
    obtain ⟨u3,g3⟩: ∃u,w2.cell? ⟨w.heap.size+1,k,none⟩=some u:=by
     rw [HO2.out.cellAt k (by omega),List.getElem?_eq_getElem (by have:=HO2.out.1;omega)];exact ⟨_,rfl⟩
    have z3:=HO2.out.frozenAt k
    have HN:=zz (HNO.out hno)
    have HB2:=zz ((HBW.out.trans (hb2.mono HBW.out.size)).setCell (p:=⟨w.heap.size+1,k,none⟩) (by show w.heap.size≤w.heap.size+1;omega) .nilIface)
    clear hb2 hno
    go_wp2
    exact bodyPost_ret (v:= .tuple #[.slice none 0 0, .bool false]) (by simp [results,Tryz.results140,go_sem]) rfl ⟨HB2.out, .inr ⟨rfl,HN.out⟩⟩
   ·obtain ⟨T,x,rfl⟩:=hu.iface
    have HO2:=zz (HOW.out.kept (row:=none) ⟨hb2.os,hb2.tape,hb2.output,hb2.size,fun i hi _=>hb2.block i hi⟩ (.inr (by simp [Value.ownBlock])))
    have HN2:=zz (HNX.out w2 _ r hb2 hu hok ho)
    have s2:w2.cell? ⟨w.heap.size,0,none⟩=some (.slice sa sn scp):=kept hb2 s0
    have s3:w2.cell? ⟨w.heap.size,1,none⟩=some (.map (some B)):=kept hb2 s1
    have HS2:=zz (show (w2.setCell ⟨w.heap.size+1,k,none⟩ (.iface T x)).cell? ⟨w.heap.size,0,none⟩=some (.slice sa sn scp)∧(w2.setCell ⟨w.heap.size+1,k,none⟩ (.iface T x)).cell? ⟨w.heap.size,1,none⟩=some (.map (some B)) from ⟨(cell_block (Below.heap_setCell _ _ _ _ (by show w.heap.size≠w.heap.size+1;omega)) 0).trans s2,(cell_block (Below.heap_setCell _ _ _ _ (by show w.heap.size≠w.heap.size+1;omega)) 1).trans s3⟩)
    obtain ⟨u3,g3⟩: ∃u,w2.cell? ⟨w.heap.size+1,k,none⟩=some u:=by
     rw [HO2.out.cellAt k (by omega),List.getElem?_eq_getElem (by have:=HO2.out.1;omega)];exact ⟨_,rfl⟩
    have z3:=HO2.out.frozenAt k
    have q2:=fun w=>eqlIf T x w
    clear hb2 hu hok ho
    go_wp2
    go_roundw
    case rel=>exact ⟨k+1,by omega,by go_num,HN2.out,HS2.out⟩
    case measure=>simp [intOf];omega
  ·obtain rfl:k=qs.length:=by omega
   have HD:=zz (HINV.out.done HL.out.symm HS.out)
   go_wp2
   exact bodyPost_ret (v:= .tuple #[.slice (some ⟨w.heap.size+1,0,none⟩) qs.length qs.length, .bool true]) (by simp [results,Tryz.results140,go_sem]) rfl HD.out
theorem allO_len {ks:List (Option (List Cl))} {ls:List (List Cl)} (h:allO ks=some ls):ls.length=ks.length:=by
 rw [allO_mem h,List.length_map]
theorem list_any (N B:Nat) (env:List Bd) (qs:List Nat) (sa:Option Addr) (sn scp:Nat) (ks:List (Option (List Cl))) (S:Nat→Prop) (w:World) (hn:NodeP w N qs) (hq:qs.length≤8) (hp:PartsE w B env qs (.agg #[.slice sa sn scp, .map (some B)]) ks) (hS:Hi w.heap.size S) (he:EnvV w S B env) (htab:Tab w):
  Calls Tryz.prog 110 #[.pointer (some ⟨N,0,none⟩), .agg #[.slice sa sn scp, .map (some B)]] w (Res S ((allO ks).bind lisO) w):=by
 have HBA:=zz ((Below.refl w.heap.size w).alloc (Nat.le_refl _) (.cells #[.slice sa sn scp, .map (some B)] 73))
 have HPV:=zz (partValues_any N B env qs sa sn scp ks S _ (hn.keep HBA.out) (by omega) (hp.keep HBA.out) (hS.mono HBA.out.size) (he.low HBA.out) (htab.keep HBA.out))
 have HT:=zz htab
 have hkl:ks.length≤8:=by rw [←hp.1];exact hq
 have hlst:=conc_list
 clear hn hp hS he htab hq
 go_enter Tryz.func110,Tryz.ntmps110
 go_wp2_with fail
 refine HPV.out.mono ?_
 rintro e w1 ⟨hb1,⟨v,us,ls,rfl,hrow,hvs,hall,hok⟩|⟨rfl,hno⟩⟩
 ·have hl:=allO_len hall
  have HR:=zz (Res.list (o:=(allO ks).bind lisO) (HBA.out.trans (hb1.mono HBA.out.size)) hrow hvs hok (by omega) ((HT.out.keep HBA.out).keep hb1) (by rw [hall];rfl))
  obtain ⟨ao,cap,rfl,-⟩:=hrow
  clear hb1 hvs hall hok hl
  go_wp2
  go_ret
  exact HR.out
 ·have HN:=zz (show (allO ks).bind lisO=none by rw [hno];rfl)
  have HB1:=zz (HBA.out.trans (hb1.mono HBA.out.size))
  clear hb1 hno
  go_wp2
  go_ret
  exact Res.nil HB1.out HN.out
theorem call_any (N B:Nat) (env:List Bd) (qs:List Nat) (sa:Option Addr) (sn scp:Nat) (nm:ByteArray) (ks:List (Option (List Cl))) (S:Nat→Prop) (w:World) (hn:NodeP w N qs) (hq:qs.length≤8) (hnm:nm.size≤1048576) (hp:PartsE w B env qs (.agg #[.slice sa sn scp, .map (some B)]) ks) (hS:Hi w.heap.size S) (he:EnvV w S B env) (htab:Tab w):
  Calls Tryz.prog 111 #[.pointer (some ⟨N,0,none⟩), .agg #[.slice sa sn scp, .map (some B)], .string nm] w (Res S ((allO ks).bind (callF nm)) w):=by
 have HBA:=zz ((Below.refl w.heap.size w).alloc (Nat.le_refl _) (.cells #[.slice sa sn scp, .map (some B)] 73))
 have HPV:=zz (partValues_any N B env qs sa sn scp ks S _ (hn.keep HBA.out) (by omega) (hp.keep HBA.out) (hS.mono HBA.out.size) (he.low HBA.out) (htab.keep HBA.out))
 have HT:=zz htab;have HS:=zz hS
 have hkl:ks.length≤8:=by rw [←hp.1];exact hq
 clear hn hp hS he htab hq
 go_enter Tryz.func111,Tryz.ntmps111
 go_wp2_with fail
 refine HPV.out.mono ?_
 rintro e w1 ⟨hb1,⟨v,us,ls,rfl,hrow,hvs,hall,hok⟩|⟨rfl,hno⟩⟩
 ·have hl:=allO_len hall
  have HCR:=zz (callResult_any nm v us ls w1 hnm ((HS.out.mono HBA.out.size).mono hb1.size) hrow hvs hok (by omega) ((HT.out.keep HBA.out).keep hb1))
  have HN:=zz (show (allO ks).bind (callF nm)=callF nm ls by rw [hall];rfl)
  have HB1:=zz (HBA.out.trans (hb1.mono HBA.out.size))
  obtain ⟨ao,cap,rfl,-⟩:=hrow
  clear hb1 hvs hall hok hl
  go_wp2_with fail
  refine HCR.out.mono ?_
  intro e w2 hr
  obtain ⟨r,rfl,hres⟩:=hr.ret
  have HR2:=zz (hres.from HB1.out)
  clear hr hres
  go_wp2
  go_ret
  rw [HN.out]
  exact HR2.out
 ·have HN:=zz (show (allO ks).bind (callF nm)=none by rw [hno];rfl)
  have HB1:=zz (HBA.out.trans (hb1.mono HBA.out.size))
  clear hb1 hno
  go_wp2
  go_ret
  exact Res.nil HB1.out HN.out
end Go.Proofs.YthillfgjpalpcaaGreatDoor
