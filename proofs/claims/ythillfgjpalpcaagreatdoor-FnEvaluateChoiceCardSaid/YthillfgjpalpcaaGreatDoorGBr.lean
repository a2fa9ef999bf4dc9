/-
  Several texts of the proof in one file: BoundI, ResI, LeafI.
-/
import Derived.Test.YthillfgjpalpcaaGreatDoorEvI5
set_option linter.unusedVariables false
set_option maxHeartbeats 4000000
set_option maxRecDepth 100000
namespace Go.Proofs.YthillfgjpalpcaaGreatDoor
open Go.RowKit Go.Maps Go.MapKept Go.ChangeMaps Go.WideMaps
def BoundD (env:List Bd) (w:World) (e:Ending) (w':World):Prop:=
 Below w.heap.size w w'∧((∃B,e= .returned (.tuple #[.map (some B), .bool true])∧bindOK env=true∧EnvV w' (fun b=>w.heap.size≤b) B env)∨(e= .returned (.tuple #[.map none, .bool false])∧bindOK env=false))
def BI (w:World) (env:List Bd) (M k:Nat) (wr:World):Prop:=
 ∃us:List Value,MapIs wr M (((env.take k).map (·.1)).zip us)∧VlS wr (fun b=>w.heap.size≤b∧b≠M) us ((env.take k).map (·.2))∧(∀b∈env.take k,nmL b.1=true∧okV b.2=true)∧diffB (env.take k)∧w.heap.size≤M∧Below w.heap.size w wr
theorem BI.next {w wr w1 w2:World} {env:List Bd} {M k:Nat} {us:List Value} {u:Value} (hk:k<env.length) (hv:VlS wr (fun b=>w.heap.size≤b∧b≠M) us ((env.take k).map (·.2))) (hall: ∀b∈env.take k,nmL b.1=true∧okV b.2=true) (hd:diffB (env.take k)) (hM:w.heap.size≤M) (hMl:M<wr.heap.size) (hb:Below w.heap.size w wr)
  (hb1:Below wr.heap.size wr w1) (hu:VlS w1 (fun b=>wr.heap.size≤b∧b<w1.heap.size) [u] [env[k].2]) (hok:okV env[k].2=true) (hn:nmL env[k].1=true) (hnew: ∀p∈((env.take k).map (·.1)).zip us,p.1≠env[k].1)
  (hm:MapIs w2 M (((env.take k).map (·.1)).zip us++[(env[k].1,u)])) (hg:w1.grownBy w2 (some M)):BI w env M (k+1) w2:=by
 have hl:=hv.len
 rw [List.length_map] at hl
 have hs1:=hb1.size
 have hs2:=hg.size
 have hbw:=hb.size
 have e1:env.take (k+1)=env.take k++[env[k]]:=List.take_succ_eq_append_getElem hk
 have hblk: ∀b,b<w1.heap.size→b≠M→w2.heap[b]? =w1.heap[b]? :=fun b h1 h2=>hg.block b h1 (by simpa using h2)
 refine ⟨us++[u], ?_, ?_, ?_, ?_,hM,(hb.trans (hb1.mono hb.size)).grown hg (by omega) (fun j hj=>by cases hj;exact hM)⟩
 ·rw [e1,List.map_append,List.zip_append (by rw [List.length_map];omega)]
  exact hm
 ·rw [e1,List.map_append]
  refine VlS.app (hv.keep ?_ (fun b h _=>h) (by omega)) (hu.keep ?_ ?_ (by omega))
  ·rintro b ⟨h1,h2⟩ h3
   rw [hblk b (by omega) h2,hb1.block b h3]
  ·rintro b ⟨h1,h2⟩ h3
   exact hblk b h2 (by omega)
  ·rintro b ⟨h1,h2⟩-
   exact ⟨by omega,by omega⟩
 ·intro b hbm
  rw [e1,List.mem_append,List.mem_singleton] at hbm
  rcases hbm with hbm|rfl
  ·exact hall b hbm
  ·exact ⟨hn,hok⟩
 ·rw [e1,diffB_app]
  refine ⟨hd,fun x hx he=> ?_⟩
  obtain ⟨j,hj,rfl⟩:=List.mem_iff_getElem.mp hx
  have hjz:j<(((env.take k).map (·.1)).zip us).length:=by rw [List.length_zip,List.length_map];omega
  refine hnew _ (List.getElem_mem hjz) ?_
  rw [List.getElem_zip,List.getElem_map]
  exact he
theorem BI.done {w wr:World} {env:List Bd} {M:Nat} (h:BI w env M env.length wr) (h30:env.length≤30):BoundD env w (.returned (.tuple #[.map (some M), .bool true])) wr:=by
 obtain ⟨us,hm,hv,hall,hd,hM,hb⟩:=h
 rw [List.take_of_length_le (Nat.le_refl _)] at hm hv hall hd
 exact ⟨hb, .inl ⟨M,rfl,(bindOK_iff env).mpr ⟨h30,hall,hd⟩,us,hm,hv.keep (fun _ _ _=>rfl) (fun b h _=>h.1) (Nat.le_refl _)⟩⟩
theorem bindOK_same2 {env:List Bd} {us:List Value} {k:Nat} (hk:k<env.length) {u:Value} (hm:(env[k].1,u)∈((env.take k).map (·.1)).zip us):bindOK env=false:=by
 obtain ⟨j,hj,he⟩:=List.mem_iff_getElem.mp hm
 rw [List.length_zip,List.length_map,List.length_take] at hj
 have hjk:j<k:=by omega
 rw [List.getElem_zip,List.getElem_map] at he
 injection he with e1 e2
 rw [List.getElem_take] at e1
 exact bindOK_same hk hjk e1
theorem zip_small {env:List Bd} {us:List Value} {k:Nat} (hz:ShortB env): ∀p∈((env.take k).map (·.1)).zip us,p.1.size≤maxLen:=by
 intro p hp
 have h1:=(List.of_mem_zip hp).1
 obtain ⟨b,hb,he⟩:=List.mem_map.mp h1
 have:=(hz b (List.mem_of_mem_take hb)).1
 rw [←he];unfold maxLen;omega
theorem kept4b {W w1:World} (hb:Below W.heap.size W w1) {p:Addr} {v:Value} (h:W.cell? p=some v):w1.cell? p=some v:=by
 rw [hb.cell (World.block_lt_of_cell? W _ h)];exact h
theorem wpList_upd {P:Program} (w:World) {ops:Array Oper} {rest:List Oper} {o:Oper} {a:Act} {Q:Exit→Act→World→Prop}
  (hg:o.guard=none) (m x v:Operand) (t:TypeId) (hop:o.op=Op.mapUpdate t m x v) (k e:TypeId) (hk:P.underlying k=some .string) (ht:P.underlying t=some (.map k e)) (b:Nat) (ns:List (ByteArray×Value))
  (hm:a.eval m= .map (some b)) (h:MapIs w b ns) (key:ByteArray) (val:Value) (hx:a.eval x= .string key) (hv:a.eval v=val) (hs:key.size≤maxLen) (hns: ∀p∈ns,p.1.size≤maxLen) (hnew: ∀p∈ns,p.1≠key)
  (hK: ∀w',MapIs w' b (ns++[(key,val)])→w.grownBy w' (some b)→wpList P ops Q rest (a.put o.dst undef) w'):
  wpList P ops Q (o::rest) a w:=by
 refine wpList_plain hg fun K' hK'=> ?_
 obtain ⟨w',hrun,r1,r2⟩:=h.ins hk ht key val hs hns hnew
 unfold Oper.wp
 simp [execOp,hop,hm,hx,hv,hrun,Result.andThen]
 exact hK' _ _ (hK w' r1 r2)
theorem boundValues_any (v:Value) (env:List Bd) (w:World) (hr:RowB w v env) (hz:ShortB env) (htab:Tab w):
  Calls Tryz.prog 45 #[v] w (BoundD env w):=by
 have HZ:=zz hz;have HT:=zz htab
 have hzero: ∀w,(zeroValue 70).run Tryz.prog w= .ok .nilIface w:=fun w=>by kernel_rfl
 obtain ⟨ao,cap,rfl,h1,h2,h3⟩:=hr
 unfold maxLen at h2
 have H3:=zz h3
 clear h3 hz htab
 by_cases h30:env.length≤30
 case neg=>
  have HN:=zz (show bindOK env=false by rw [Bool.eq_false_iff];intro h;exact h30 ((bindOK_iff env).mp h).1)
  go_enter Tryz.func45,Tryz.ntmps45
  go_wp2
  exact bodyPost_ret (v:= .tuple #[.map none, .bool false]) (by simp [results,Tryz.results45,go_sem]) rfl ⟨Below.refl _ _, .inr ⟨rfl,HN.out⟩⟩
 have H30:=zz h30
 have HSTART:=zz (show BI w env w.heap.size 0 (w.alloc (.map #[] 0)) from ⟨[],MapIs.made w, .nil,fun b h=>by simp at h,by rw [List.take_zero];trivial,Nat.le_refl _,(Below.refl _ _).alloc (Nat.le_refl _) _⟩)
 have hmm:= @run_makeMap Tryz.prog
 go_enter Tryz.func45,Tryz.ntmps45
 go_wp2_with fail
 clear hmm
 go_loopw [16] (fun i wr=> ∃k:Nat,k≤env.length∧i= .int .i64 (k:Int)∧BI w env w.heap.size k wr) (fun i _=>env.length-(intOf i).toNat)
 case atStart=>exact ⟨0,Nat.zero_le _,rfl,HSTART.out⟩
 case round=>
  obtain ⟨k,hk,rfl,hinv⟩:=hrel
  have HINV:=zz hinv;clear hinv
  by_cases hlt:k<env.length
  ·obtain ⟨us,hm,hv,hall,hd,hM,hbw⟩:=HINV.out
   obtain ⟨b,o,rfl,hbl,cc⟩:=H3.out.resolve_left (by rintro rfl;simp at hlt)
   obtain ⟨u,c0,c1,hru⟩:=cc k hlt
   have d0:wr.cell? ⟨b,o+k*2,none⟩=some (.string env[k].1):=(hbw.cell (p:=⟨b,_,none⟩) hbl).trans c0
   have d1:wr.cell? ⟨b,o+k*2+1,none⟩=some u:=(hbw.cell (p:=⟨b,_,none⟩) hbl).trans c1
   obtain ⟨z1,z2,z3⟩:=HZ.out env[k] (List.getElem_mem hlt)
   have HNX:=zz (fun w1 w2 u hb1 hu hok hn hnew hm2 hg=>BI.next (w1:=w1) (w2:=w2) (u:=u) hlt hv hall hd hM hm.lt hbw hb1 hu hok hn hnew hm2 hg)
   have HM:=zz hm;have HBW:=zz hbw
   have HRU:=zz (hru.mono hbw)
   have hlook:=hm.look (P:=Tryz.prog) Tryz.underlying9 Tryz.underlying66 (hzero wr) env[k].1 (by unfold maxLen;omega) (zip_small HZ.out)
   have HBAD:=zz (fun h=>bindOK_bad (List.getElem_mem hlt) h)
   have HSAME:=zz (fun u hm=>bindOK_same2 (us:=us) hlt (u:=u) hm)
   have HZ2:=zz z2
   have HSM:=zz (zip_small (us:=us) (k:=k) HZ.out)
   have HRV:=zz (fun w' (hb:Below wr.heap.size wr w')=>readValue_any u env[k].2 w' (HRU.out.mono hb) HZ2.out (HT.out.keep ((HBW.out).trans (hb.mono HBW.out.size))))
   have HNV:=zz (fun w'=>nameValid_impl env[k].1 w' (by unfold maxLen;omega))
   have HBA:=zz ((Below.refl wr.heap.size wr).alloc (Nat.le_refl _) (.cells #[.string env[k].1,u] 46))
   have HINm:=zz (show nameL env[k].1.data.toList=nmL env[k].1 from rfl)
   clear hv hall hd hbw cc c0 c1 hru z2 z3 hm
   generalize hnm:env[k].1=nm at*
   generalize hvl:env[k].2=vl at*
   have HMA:=zz (HM.out.keep HBA.out)
   obtain ⟨aq,nq,cq,rfl⟩: ∃a n c,u= .slice a n c:=by obtain ⟨a,c,h,_⟩:=HRU.out;exact ⟨a,_,c,h⟩
   have hlook2:=HMA.out.look (P:=Tryz.prog) Tryz.underlying9 Tryz.underlying66 (hzero _) nm (by unfold maxLen;omega) HSM.out
   have q1:=fun w=>eqlNo w
   clear hlook
   rcases hlook2 with ⟨uu,hmem,hrun⟩|⟨hnone,hrun⟩
   ·have HN:=zz (HSAME.out uu hmem)
    clear hmem
    go_wp2_with fail
    refine (HRV.out _ HBA.out).mono ?_
    rintro e w1 ⟨hb1,⟨T,x,rfl,hok,hvv⟩|⟨rfl,hno⟩⟩
    ·have HB1:=zz (HBW.out.trans ((HBA.out.trans (hb1.mono HBA.out.size)).mono HBW.out.size))
     clear hb1 hok hvv
     go_wp2
     exact bodyPost_ret (v:= .tuple #[.map none, .bool false]) (by simp [results,Tryz.results45,go_sem]) rfl ⟨HB1.out, .inr ⟨rfl,HN.out⟩⟩
    ·have HB1:=zz (HBW.out.trans ((HBA.out.trans (hb1.mono HBA.out.size)).mono HBW.out.size))
     clear hb1 hno
     go_wp2
     exact bodyPost_ret (v:= .tuple #[.map none, .bool false]) (by simp [results,Tryz.results45,go_sem]) rfl ⟨HB1.out, .inr ⟨rfl,HN.out⟩⟩
   ·have HNONE:=zz hnone
    clear hnone
    go_wp2_with fail
    refine (HRV.out _ HBA.out).mono ?_
    rintro e w1 ⟨hb1,⟨T,x,rfl,hok,hvv⟩|⟨rfl,hno⟩⟩
    ·have HBR:=zz (HBA.out.trans (hb1.mono HBA.out.size))
     have HB1:=zz (HBW.out.trans (HBR.out.mono HBW.out.size))
     have q2:=fun w=>eqlIf T x w
     obtain ⟨z0,z1⟩:w1.cell? ⟨wr.heap.size,0,none⟩=some (.string nm)∧w1.cell? ⟨wr.heap.size,1,none⟩=some (.slice aq nq cq):=⟨kept4b hb1 (by simp [go_sem]),kept4b hb1 (by simp [go_sem])⟩
     have HVV:=zz hvv;have HOK:=zz hok
     clear hb1 hok hvv
     go_wp2_with fail
     refine (HNV.out _).mono ?_
     rintro e w2 ⟨rfl,hb2⟩
     have HB2:=zz (HB1.out.trans (hb2.mono HB1.out.size))
     have HBR2:=zz (HBR.out.trans (hb2.mono HBR.out.size))
     obtain ⟨y0,y1⟩:w2.cell? ⟨wr.heap.size,0,none⟩=some (.string nm)∧w2.cell? ⟨wr.heap.size,1,none⟩=some (.slice aq nq cq):=⟨kept4b hb2 z0,kept4b hb2 z1⟩
     have HV2:=zz ((HVV.out.keep (w':=w2) (S':=fun b=>wr.heap.size≤b∧b<w2.heap.size) (fun b hb hl=>hb2.block b hl) (fun b hb hl=>⟨by have:=HBA.out.size;omega,by have:=hb2.size;omega⟩) hb2.size))
     have HM2:=zz (HM.out.keep HBR2.out)
     clear hb2 z0 z1
     cases hnb:nameL nm.data.toList with
     |false=>
      have HN:=zz (HBAD.out (.inl (HINm.out.symm.trans hnb)))
      clear hnb
      go_wp2
      exact bodyPost_ret (v:= .tuple #[.map none, .bool false]) (by simp [results,Tryz.results45,go_sem]) rfl ⟨HB2.out, .inr ⟨rfl,HN.out⟩⟩
     |true=>
      have HNB:=zz (HINm.out.symm.trans hnb)
      clear hnb
      go_wp2_with (refine wpList_upd _ rfl _ _ _ 66 rfl 9 70 Tryz.underlying9 Tryz.underlying66 w.heap.size _ rfl HM2.out nm (.iface T x) rfl rfl (by unfold maxLen;omega) HSM.out HNONE.out ?_;intro w3 hm hg;have HD:=zz (HNX.out w2 w3 (.iface T x) HBR2.out HV2.out HOK.out HNB.out HNONE.out hm hg);clear hm hg)
      go_roundw
      case rel=>exact ⟨k+1,by omega,by go_num,HD.out⟩
      case measure=>simp [intOf];omega
    ·have HB1:=zz (HBW.out.trans ((HBA.out.trans (hb1.mono HBA.out.size)).mono HBW.out.size))
     have HN:=zz (HBAD.out (.inr hno))
     clear hb1 hno
     go_wp2
     exact bodyPost_ret (v:= .tuple #[.map none, .bool false]) (by simp [results,Tryz.results45,go_sem]) rfl ⟨HB1.out, .inr ⟨rfl,HN.out⟩⟩
  ·obtain rfl:k=env.length:=by omega
   have HD:=zz (HINV.out.done H30.out)
   go_wp2
   exact bodyPost_ret (v:= .tuple #[.map (some w.heap.size), .bool true]) (by simp [results,Tryz.results45,go_sem]) rfl HD.out
open Go.RowKit
def ValO (S:Nat→Prop) (o:Option (List Cl)) (u:Value) (w:World):Prop:=(u= .nilIface∧o=none)∨ ∃r,VlS w S [u] [r]∧okV r=true∧o=some r
theorem ResE.shape {S:Nat→Prop} {o:Option (List Cl)} {w w':World} {e:Ending} (h:ResE S o w e w'): ∃u,e= .returned u∧ValO S o u w':=by
 obtain ⟨hb,⟨rfl,ho⟩|⟨u,r,rfl,hv,hok,ho⟩⟩:=h
 ·exact ⟨_,rfl, .inl ⟨rfl,ho⟩⟩
 ·exact ⟨_,rfl, .inr ⟨r,hv,hok,ho⟩⟩
theorem unary_both {S:Nat→Prop} (s:ByteArray) (u:Value) (o:Option (List Cl)) (w:World) (h:ValO S o u w) (htab:Tab w):
  Calls Tryz.prog 112 #[.string s,u] w (Res S (unaO s o) w):=by
 rcases h with ⟨rfl,rfl⟩|⟨r,hv,hok,rfl⟩
 ·exact unary_nil s w
 ·exact unary_any s u r w hv hok htab
theorem result_choice (o0 o1 o2:Option (List Cl)) (N B:Nat) (env:List Bd) (qs:List Nat) (b o sn scp f:Nat) (s:ByteArray) (m:Int) (S:Nat→Prop) (w:World) (hn:NodeP w N qs) (n0:w.cell? ⟨N,0,none⟩=some (.int .i64 (f:Int))) (hf:f<sn) (h60:sn≤60) (hsc:sn≤scp) (hcm:scp≤maxLen) (c0:w.cell? ⟨b,o+f*3,none⟩=some (.int .i64 9)) (c1:w.cell? ⟨b,o+f*3+1,none⟩=some (.string s)) (c2:w.cell? ⟨b,o+f*3+2,none⟩=some (.int .i64 m)) (hS:Hi w.heap.size S) (he:EnvV w S B env) (htab:Tab w) (hp:PartsE w B env qs (.agg #[.slice (some ⟨b,o,none⟩) sn scp, .map (some B)]) [o0,o1,o2]):
  Calls Tryz.prog 76 #[.pointer (some ⟨N,0,none⟩), .agg #[.slice (some ⟨b,o,none⟩) sn scp, .map (some B)]] w (Res S (choO o0 o1 o2) w):=by
 have HP:=zz hp;clear hp
 have hN:N<w.heap.size:=World.block_lt_of_cell? w _ n0
 have hbl:b<w.heap.size:=World.block_lt_of_cell? w _ c0
 have HNP:=zz hn;have HS:=zz hS;have HE:=zz he;have HT:=zz htab
 have HBA:=zz ((Below.refl w.heap.size w).alloc (Nat.le_refl _) (.cells #[.slice (some ⟨b,o,none⟩) sn scp, .map (some B)] 73))
 obtain ⟨s0,s1⟩:=scp_new w (some ⟨b,o,none⟩) sn scp B
 have m0:(w.alloc (.cells #[.slice (some ⟨b,o,none⟩) sn scp, .map (some B)] 73)).cell? ⟨N,0,none⟩=some (.int .i64 (f:Int)):=(HBA.out.cell (p:=⟨N,0,none⟩) hN).trans n0
 have d0:(w.alloc (.cells #[.slice (some ⟨b,o,none⟩) sn scp, .map (some B)] 73)).cell? ⟨b,o+f*3,none⟩=some (.int .i64 9):=(HBA.out.cell (p:=⟨b,_,none⟩) hbl).trans c0
 have d1:(w.alloc (.cells #[.slice (some ⟨b,o,none⟩) sn scp, .map (some B)] 73)).cell? ⟨b,o+f*3+1,none⟩=some (.string s):=(HBA.out.cell (p:=⟨b,_,none⟩) hbl).trans c1
 have d2:(w.alloc (.cells #[.slice (some ⟨b,o,none⟩) sn scp, .map (some B)] 73)).cell? ⟨b,o+f*3+2,none⟩=some (.int .i64 m):=(HBA.out.cell (p:=⟨b,_,none⟩) hbl).trans c2
 have hfI:(f:Int)<(sn:Int):=by omega
 have hf0:(0:Int)≤(f:Int):=by omega
 unfold maxLen at hcm
 clear hn hS he htab n0 c0 c1 c2
 go_enter Tryz.func76,Tryz.ntmps76
 go_wp2_with fail
 generalize w.alloc (.cells #[.slice (some ⟨b,o,none⟩) sn scp, .map (some B)] 73)=wa at HBA s0 s1 m0 d0 d1 d2⊢
 have l1:N<wa.heap.size:=World.block_lt_of_cell? wa _ m0
 have l2:b<wa.heap.size:=World.block_lt_of_cell? wa _ d0
 have l3:w.heap.size<wa.heap.size:=World.block_lt_of_cell? wa _ s0
 have l4: ¬N=wa.heap.size:=by omega
 have l5: ¬b=wa.heap.size:=by omega
 have l6: ¬w.heap.size=wa.heap.size:=by omega
 go_region
 have HB2:=zz (show Below w.heap.size w (wa.alloc (.cells #[.int .i64 9, .string s, .int .i64 m] 44)).drew from (HBA.out.alloc HBA.out.size _).drew)
 obtain ⟨z0,z1⟩:(wa.alloc (.cells #[.int .i64 9, .string s, .int .i64 m] 44)).drew.cell? ⟨w.heap.size,0,none⟩=some (.slice (some ⟨b,o,none⟩) sn scp)∧(wa.alloc (.cells #[.int .i64 9, .string s, .int .i64 m] 44)).drew.cell? ⟨w.heap.size,1,none⟩=some (.map (some B)):=⟨kept ((Below.refl _ wa).alloc (Nat.le_refl _) _).drew s0,kept ((Below.refl _ wa).alloc (Nat.le_refl _) _).drew s1⟩
 go_wp2_with fail
 refine (choice_node N B env qs (some ⟨b,o,none⟩) sn scp o0 o1 o2 S _ (HNP.out.keep HB2.out) (HP.out.keep HB2.out) (HS.out.mono HB2.out.size) (HE.out.low HB2.out) (HT.out.keep HB2.out)).mono ?_
 intro e w1 hr
 obtain ⟨r,rfl,hres⟩:=hr.ret
 have HR:=zz (hres.from HB2.out)
 clear hr hres
 go_wp2
 go_ret
 exact HR.out
theorem result_list (ks:List (Option (List Cl))) (N B:Nat) (env:List Bd) (qs:List Nat) (b o sn scp f:Nat) (s:ByteArray) (m:Int) (S:Nat→Prop) (w:World) (hn:NodeP w N qs) (n0:w.cell? ⟨N,0,none⟩=some (.int .i64 (f:Int))) (hf:f<sn) (h60:sn≤60) (hsc:sn≤scp) (hcm:scp≤maxLen) (c0:w.cell? ⟨b,o+f*3,none⟩=some (.int .i64 5)) (c1:w.cell? ⟨b,o+f*3+1,none⟩=some (.string s)) (c2:w.cell? ⟨b,o+f*3+2,none⟩=some (.int .i64 m)) (hS:Hi w.heap.size S) (he:EnvV w S B env) (htab:Tab w) (hp:PartsE w B env qs (.agg #[.slice (some ⟨b,o,none⟩) sn scp, .map (some B)]) ks) (hq:qs.length≤8):
  Calls Tryz.prog 76 #[.pointer (some ⟨N,0,none⟩), .agg #[.slice (some ⟨b,o,none⟩) sn scp, .map (some B)]] w (Res S ((allO ks).bind lisO) w):=by
 have HP:=zz hp;clear hp
 have hN:N<w.heap.size:=World.block_lt_of_cell? w _ n0
 have hbl:b<w.heap.size:=World.block_lt_of_cell? w _ c0
 have HNP:=zz hn;have HS:=zz hS;have HE:=zz he;have HT:=zz htab
 have HBA:=zz ((Below.refl w.heap.size w).alloc (Nat.le_refl _) (.cells #[.slice (some ⟨b,o,none⟩) sn scp, .map (some B)] 73))
 obtain ⟨s0,s1⟩:=scp_new w (some ⟨b,o,none⟩) sn scp B
 have m0:(w.alloc (.cells #[.slice (some ⟨b,o,none⟩) sn scp, .map (some B)] 73)).cell? ⟨N,0,none⟩=some (.int .i64 (f:Int)):=(HBA.out.cell (p:=⟨N,0,none⟩) hN).trans n0
 have d0:(w.alloc (.cells #[.slice (some ⟨b,o,none⟩) sn scp, .map (some B)] 73)).cell? ⟨b,o+f*3,none⟩=some (.int .i64 5):=(HBA.out.cell (p:=⟨b,_,none⟩) hbl).trans c0
 have d1:(w.alloc (.cells #[.slice (some ⟨b,o,none⟩) sn scp, .map (some B)] 73)).cell? ⟨b,o+f*3+1,none⟩=some (.string s):=(HBA.out.cell (p:=⟨b,_,none⟩) hbl).trans c1
 have d2:(w.alloc (.cells #[.slice (some ⟨b,o,none⟩) sn scp, .map (some B)] 73)).cell? ⟨b,o+f*3+2,none⟩=some (.int .i64 m):=(HBA.out.cell (p:=⟨b,_,none⟩) hbl).trans c2
 have hfI:(f:Int)<(sn:Int):=by omega
 have hf0:(0:Int)≤(f:Int):=by omega
 unfold maxLen at hcm
 clear hn hS he htab n0 c0 c1 c2
 go_enter Tryz.func76,Tryz.ntmps76
 go_wp2_with fail
 generalize w.alloc (.cells #[.slice (some ⟨b,o,none⟩) sn scp, .map (some B)] 73)=wa at HBA s0 s1 m0 d0 d1 d2⊢
 have l1:N<wa.heap.size:=World.block_lt_of_cell? wa _ m0
 have l2:b<wa.heap.size:=World.block_lt_of_cell? wa _ d0
 have l3:w.heap.size<wa.heap.size:=World.block_lt_of_cell? wa _ s0
 have l4: ¬N=wa.heap.size:=by omega
 have l5: ¬b=wa.heap.size:=by omega
 have l6: ¬w.heap.size=wa.heap.size:=by omega
 go_region
 have HB2:=zz (show Below w.heap.size w (wa.alloc (.cells #[.int .i64 5, .string s, .int .i64 m] 44)).drew from (HBA.out.alloc HBA.out.size _).drew)
 obtain ⟨z0,z1⟩:(wa.alloc (.cells #[.int .i64 5, .string s, .int .i64 m] 44)).drew.cell? ⟨w.heap.size,0,none⟩=some (.slice (some ⟨b,o,none⟩) sn scp)∧(wa.alloc (.cells #[.int .i64 5, .string s, .int .i64 m] 44)).drew.cell? ⟨w.heap.size,1,none⟩=some (.map (some B)):=⟨kept ((Below.refl _ wa).alloc (Nat.le_refl _) _).drew s0,kept ((Below.refl _ wa).alloc (Nat.le_refl _) _).drew s1⟩
 go_wp2_with fail
 refine (list_any N B env qs (some ⟨b,o,none⟩) sn scp ks S _ (HNP.out.keep HB2.out) hq (HP.out.keep HB2.out) (HS.out.mono HB2.out.size) (HE.out.low HB2.out) (HT.out.keep HB2.out)).mono ?_
 intro e w1 hr
 obtain ⟨r,rfl,hres⟩:=hr.ret
 have HR:=zz (hres.from HB2.out)
 clear hr hres
 go_wp2
 go_ret
 exact HR.out
theorem result_call (ks:List (Option (List Cl))) (N B:Nat) (env:List Bd) (qs:List Nat) (b o sn scp f:Nat) (s:ByteArray) (m:Int) (S:Nat→Prop) (w:World) (hn:NodeP w N qs) (n0:w.cell? ⟨N,0,none⟩=some (.int .i64 (f:Int))) (hf:f<sn) (h60:sn≤60) (hsc:sn≤scp) (hcm:scp≤maxLen) (c0:w.cell? ⟨b,o+f*3,none⟩=some (.int .i64 6)) (c1:w.cell? ⟨b,o+f*3+1,none⟩=some (.string s)) (c2:w.cell? ⟨b,o+f*3+2,none⟩=some (.int .i64 m)) (hS:Hi w.heap.size S) (he:EnvV w S B env) (htab:Tab w) (hp:PartsE w B env qs (.agg #[.slice (some ⟨b,o,none⟩) sn scp, .map (some B)]) ks) (hq:qs.length≤8) (hnm:s.size≤60):
  Calls Tryz.prog 76 #[.pointer (some ⟨N,0,none⟩), .agg #[.slice (some ⟨b,o,none⟩) sn scp, .map (some B)]] w (Res S ((allO ks).bind (callF s)) w):=by
 have HP:=zz hp;clear hp
 have hN:N<w.heap.size:=World.block_lt_of_cell? w _ n0
 have hbl:b<w.heap.size:=World.block_lt_of_cell? w _ c0
 have HNP:=zz hn;have HS:=zz hS;have HE:=zz he;have HT:=zz htab
 have HBA:=zz ((Below.refl w.heap.size w).alloc (Nat.le_refl _) (.cells #[.slice (some ⟨b,o,none⟩) sn scp, .map (some B)] 73))
 obtain ⟨s0,s1⟩:=scp_new w (some ⟨b,o,none⟩) sn scp B
 have m0:(w.alloc (.cells #[.slice (some ⟨b,o,none⟩) sn scp, .map (some B)] 73)).cell? ⟨N,0,none⟩=some (.int .i64 (f:Int)):=(HBA.out.cell (p:=⟨N,0,none⟩) hN).trans n0
 have d0:(w.alloc (.cells #[.slice (some ⟨b,o,none⟩) sn scp, .map (some B)] 73)).cell? ⟨b,o+f*3,none⟩=some (.int .i64 6):=(HBA.out.cell (p:=⟨b,_,none⟩) hbl).trans c0
 have d1:(w.alloc (.cells #[.slice (some ⟨b,o,none⟩) sn scp, .map (some B)] 73)).cell? ⟨b,o+f*3+1,none⟩=some (.string s):=(HBA.out.cell (p:=⟨b,_,none⟩) hbl).trans c1
 have d2:(w.alloc (.cells #[.slice (some ⟨b,o,none⟩) sn scp, .map (some B)] 73)).cell? ⟨b,o+f*3+2,none⟩=some (.int .i64 m):=(HBA.out.cell (p:=⟨b,_,none⟩) hbl).trans c2
 have hfI:(f:Int)<(sn:Int):=by omega
 have hf0:(0:Int)≤(f:Int):=by omega
 unfold maxLen at hcm
 clear hn hS he htab n0 c0 c1 c2
 go_enter Tryz.func76,Tryz.ntmps76
 go_wp2_with fail
 generalize w.alloc (.cells #[.slice (some ⟨b,o,none⟩) sn scp, .map (some B)] 73)=wa at HBA s0 s1 m0 d0 d1 d2⊢
 have l1:N<wa.heap.size:=World.block_lt_of_cell? wa _ m0
 have l2:b<wa.heap.size:=World.block_lt_of_cell? wa _ d0
 have l3:w.heap.size<wa.heap.size:=World.block_lt_of_cell? wa _ s0
 have l4: ¬N=wa.heap.size:=by omega
 have l5: ¬b=wa.heap.size:=by omega
 have l6: ¬w.heap.size=wa.heap.size:=by omega
 go_region
 have HB2:=zz (show Below w.heap.size w (wa.alloc (.cells #[.int .i64 6, .string s, .int .i64 m] 44)).drew from (HBA.out.alloc HBA.out.size _).drew)
 obtain ⟨z0,z1⟩:(wa.alloc (.cells #[.int .i64 6, .string s, .int .i64 m] 44)).drew.cell? ⟨w.heap.size,0,none⟩=some (.slice (some ⟨b,o,none⟩) sn scp)∧(wa.alloc (.cells #[.int .i64 6, .string s, .int .i64 m] 44)).drew.cell? ⟨w.heap.size,1,none⟩=some (.map (some B)):=⟨kept ((Below.refl _ wa).alloc (Nat.le_refl _) _).drew s0,kept ((Below.refl _ wa).alloc (Nat.le_refl _) _).drew s1⟩
 go_wp2_with fail
 refine (call_any N B env qs (some ⟨b,o,none⟩) sn scp s ks S _ (HNP.out.keep HB2.out) hq (by omega) (HP.out.keep HB2.out) (HS.out.mono HB2.out.size) (HE.out.low HB2.out) (HT.out.keep HB2.out)).mono ?_
 intro e w1 hr
 obtain ⟨r,rfl,hres⟩:=hr.ret
 have HR:=zz (hres.from HB2.out)
 clear hr hres
 go_wp2
 go_ret
 exact HR.out
theorem result_binary (o0 o1:Option (List Cl)) (N B:Nat) (env:List Bd) (qs:List Nat) (b o sn scp f:Nat) (s:ByteArray) (m:Int) (S:Nat→Prop) (w:World) (hn:NodeP w N qs) (n0:w.cell? ⟨N,0,none⟩=some (.int .i64 (f:Int))) (hf:f<sn) (h60:sn≤60) (hsc:sn≤scp) (hcm:scp≤maxLen) (c0:w.cell? ⟨b,o+f*3,none⟩=some (.int .i64 8)) (c1:w.cell? ⟨b,o+f*3+1,none⟩=some (.string s)) (c2:w.cell? ⟨b,o+f*3+2,none⟩=some (.int .i64 m)) (hS:Hi w.heap.size S) (he:EnvV w S B env) (htab:Tab w) (hp:PartsE w B env qs (.agg #[.slice (some ⟨b,o,none⟩) sn scp, .map (some B)]) [o0,o1]) (hsg:1≤signW s.data.toList∧signW s.data.toList≤13):
  Calls Tryz.prog 76 #[.pointer (some ⟨N,0,none⟩), .agg #[.slice (some ⟨b,o,none⟩) sn scp, .map (some B)]] w (Res S (binO s o0 o1) w):=by
 have HP:=zz hp;clear hp
 have HSG:=zz hsg;clear hsg
 have hN:N<w.heap.size:=World.block_lt_of_cell? w _ n0
 have hbl:b<w.heap.size:=World.block_lt_of_cell? w _ c0
 have HNP:=zz hn;have HS:=zz hS;have HE:=zz he;have HT:=zz htab
 have HBA:=zz ((Below.refl w.heap.size w).alloc (Nat.le_refl _) (.cells #[.slice (some ⟨b,o,none⟩) sn scp, .map (some B)] 73))
 obtain ⟨s0,s1⟩:=scp_new w (some ⟨b,o,none⟩) sn scp B
 have m0:(w.alloc (.cells #[.slice (some ⟨b,o,none⟩) sn scp, .map (some B)] 73)).cell? ⟨N,0,none⟩=some (.int .i64 (f:Int)):=(HBA.out.cell (p:=⟨N,0,none⟩) hN).trans n0
 have d0:(w.alloc (.cells #[.slice (some ⟨b,o,none⟩) sn scp, .map (some B)] 73)).cell? ⟨b,o+f*3,none⟩=some (.int .i64 8):=(HBA.out.cell (p:=⟨b,_,none⟩) hbl).trans c0
 have d1:(w.alloc (.cells #[.slice (some ⟨b,o,none⟩) sn scp, .map (some B)] 73)).cell? ⟨b,o+f*3+1,none⟩=some (.string s):=(HBA.out.cell (p:=⟨b,_,none⟩) hbl).trans c1
 have d2:(w.alloc (.cells #[.slice (some ⟨b,o,none⟩) sn scp, .map (some B)] 73)).cell? ⟨b,o+f*3+2,none⟩=some (.int .i64 m):=(HBA.out.cell (p:=⟨b,_,none⟩) hbl).trans c2
 have hfI:(f:Int)<(sn:Int):=by omega
 have hf0:(0:Int)≤(f:Int):=by omega
 unfold maxLen at hcm
 clear hn hS he htab n0 c0 c1 c2
 go_enter Tryz.func76,Tryz.ntmps76
 go_wp2_with fail
 generalize w.alloc (.cells #[.slice (some ⟨b,o,none⟩) sn scp, .map (some B)] 73)=wa at HBA s0 s1 m0 d0 d1 d2⊢
 have l1:N<wa.heap.size:=World.block_lt_of_cell? wa _ m0
 have l2:b<wa.heap.size:=World.block_lt_of_cell? wa _ d0
 have l3:w.heap.size<wa.heap.size:=World.block_lt_of_cell? wa _ s0
 have l4: ¬N=wa.heap.size:=by omega
 have l5: ¬b=wa.heap.size:=by omega
 have l6: ¬w.heap.size=wa.heap.size:=by omega
 go_region
 have HB2:=zz (show Below w.heap.size w (wa.alloc (.cells #[.int .i64 8, .string s, .int .i64 m] 44)).drew from (HBA.out.alloc HBA.out.size _).drew)
 obtain ⟨z0,z1⟩:(wa.alloc (.cells #[.int .i64 8, .string s, .int .i64 m] 44)).drew.cell? ⟨w.heap.size,0,none⟩=some (.slice (some ⟨b,o,none⟩) sn scp)∧(wa.alloc (.cells #[.int .i64 8, .string s, .int .i64 m] 44)).drew.cell? ⟨w.heap.size,1,none⟩=some (.map (some B)):=⟨kept ((Below.refl _ wa).alloc (Nat.le_refl _) _).drew s0,kept ((Below.refl _ wa).alloc (Nat.le_refl _) _).drew s1⟩
 go_wp2_with fail
 refine (binary_node N B env qs (some ⟨b,o,none⟩) sn scp s o0 o1 S _ (HNP.out.keep HB2.out) (HP.out.keep HB2.out) (HS.out.mono HB2.out.size) (HE.out.low HB2.out) HSG.out (HT.out.keep HB2.out)).mono ?_
 intro e w1 hr
 obtain ⟨r,rfl,hres⟩:=hr.ret
 have HR:=zz (hres.from HB2.out)
 clear hr hres
 go_wp2
 go_ret
 exact HR.out
theorem result_name (N B:Nat) (env:List Bd) (qs:List Nat) (b o sn scp f:Nat) (s:ByteArray) (m:Int) (S:Nat→Prop) (w:World) (hn:NodeP w N qs) (n0:w.cell? ⟨N,0,none⟩=some (.int .i64 (f:Int))) (hf:f<sn) (h60:sn≤60) (hsc:sn≤scp) (hcm:scp≤maxLen) (c0:w.cell? ⟨b,o+f*3,none⟩=some (.int .i64 4)) (c1:w.cell? ⟨b,o+f*3+1,none⟩=some (.string s)) (c2:w.cell? ⟨b,o+f*3+2,none⟩=some (.int .i64 m)) (hS:Hi w.heap.size S) (he:EnvV w S B env) (htab:Tab w) (hd:diffB env) (hz:ShortB env) (hok: ∀b∈env,nmL b.1=true∧okV b.2=true) (hss:s.size≤60):
  Calls Tryz.prog 76 #[.pointer (some ⟨N,0,none⟩), .agg #[.slice (some ⟨b,o,none⟩) sn scp, .map (some B)]] w (Res S (envO env s) w):=by
 have HD:=zz hd;have HZ:=zz hz;have HOK:=zz hok;clear hd hz hok
 have hzero: ∀w,(zeroValue 70).run Tryz.prog w= .ok .nilIface w:=fun w=>by kernel_rfl
 have hN:N<w.heap.size:=World.block_lt_of_cell? w _ n0
 have hbl:b<w.heap.size:=World.block_lt_of_cell? w _ c0
 have HNP:=zz hn;have HS:=zz hS;have HE:=zz he;have HT:=zz htab
 have HBA:=zz ((Below.refl w.heap.size w).alloc (Nat.le_refl _) (.cells #[.slice (some ⟨b,o,none⟩) sn scp, .map (some B)] 73))
 obtain ⟨s0,s1⟩:=scp_new w (some ⟨b,o,none⟩) sn scp B
 have m0:(w.alloc (.cells #[.slice (some ⟨b,o,none⟩) sn scp, .map (some B)] 73)).cell? ⟨N,0,none⟩=some (.int .i64 (f:Int)):=(HBA.out.cell (p:=⟨N,0,none⟩) hN).trans n0
 have d0:(w.alloc (.cells #[.slice (some ⟨b,o,none⟩) sn scp, .map (some B)] 73)).cell? ⟨b,o+f*3,none⟩=some (.int .i64 4):=(HBA.out.cell (p:=⟨b,_,none⟩) hbl).trans c0
 have d1:(w.alloc (.cells #[.slice (some ⟨b,o,none⟩) sn scp, .map (some B)] 73)).cell? ⟨b,o+f*3+1,none⟩=some (.string s):=(HBA.out.cell (p:=⟨b,_,none⟩) hbl).trans c1
 have d2:(w.alloc (.cells #[.slice (some ⟨b,o,none⟩) sn scp, .map (some B)] 73)).cell? ⟨b,o+f*3+2,none⟩=some (.int .i64 m):=(HBA.out.cell (p:=⟨b,_,none⟩) hbl).trans c2
 have hfI:(f:Int)<(sn:Int):=by omega
 have hf0:(0:Int)≤(f:Int):=by omega
 unfold maxLen at hcm
 clear hn hS he htab n0 c0 c1 c2
 go_enter Tryz.func76,Tryz.ntmps76
 go_wp2_with fail
 generalize w.alloc (.cells #[.slice (some ⟨b,o,none⟩) sn scp, .map (some B)] 73)=wa at HBA s0 s1 m0 d0 d1 d2⊢
 have l1:N<wa.heap.size:=World.block_lt_of_cell? wa _ m0
 have l2:b<wa.heap.size:=World.block_lt_of_cell? wa _ d0
 have l3:w.heap.size<wa.heap.size:=World.block_lt_of_cell? wa _ s0
 have l4: ¬N=wa.heap.size:=by omega
 have l5: ¬b=wa.heap.size:=by omega
 have l6: ¬w.heap.size=wa.heap.size:=by omega
 go_region
 have HB2:=zz (show Below w.heap.size w (wa.alloc (.cells #[.int .i64 4, .string s, .int .i64 m] 44)).drew from (HBA.out.alloc HBA.out.size _).drew)
 obtain ⟨z0,z1⟩:(wa.alloc (.cells #[.int .i64 4, .string s, .int .i64 m] 44)).drew.cell? ⟨w.heap.size,0,none⟩=some (.slice (some ⟨b,o,none⟩) sn scp)∧(wa.alloc (.cells #[.int .i64 4, .string s, .int .i64 m] 44)).drew.cell? ⟨w.heap.size,1,none⟩=some (.map (some B)):=⟨kept ((Below.refl _ wa).alloc (Nat.le_refl _) _).drew s0,kept ((Below.refl _ wa).alloc (Nat.le_refl _) _).drew s1⟩
 obtain ⟨us,hm,hv⟩:=HE.out.low HB2.out
 have hlook:=hm.look1 (P:=Tryz.prog) Tryz.underlying9 Tryz.underlying66 (hzero _) s (by unfold maxLen;omega) (by
  have h9:=zip_small (env:=env) (us:=us) (k:=env.length) HZ.out
  rwa [List.take_of_length_le (Nat.le_refl _)] at h9)
 rcases hlook with ⟨u,hmem,hrun⟩|⟨hnone,hrun⟩
 ·obtain ⟨p,hp,hvu⟩:=EnvV.at HD.out hv hmem
  have HN:=zz hp
  have HV:=zz hvu
  have HPO:=zz (envO_ok HOK.out hp)
  obtain ⟨T,x,rfl⟩:=hvu.iface
  clear hm hv hmem hp hvu
  go_wp2
  go_ret
  exact Res.val HB2.out HV.out (HT.out.keep HB2.out) HPO.out HN.out
 ·have HN:=zz (EnvV.not (env:=env) (us:=us) (by have:=hv.len;rwa [List.length_map] at this) hnone)
  clear hm hv hnone
  go_wp2
  go_ret
  exact Res.nil HB2.out HN.out
theorem result_unary (o0:Option (List Cl)) (N B:Nat) (env:List Bd) (qs:List Nat) (b o sn scp f:Nat) (s:ByteArray) (m:Int) (S:Nat→Prop) (w:World) (hn:NodeP w N qs) (n0:w.cell? ⟨N,0,none⟩=some (.int .i64 (f:Int))) (hf:f<sn) (h60:sn≤60) (hsc:sn≤scp) (hcm:scp≤maxLen) (c0:w.cell? ⟨b,o+f*3,none⟩=some (.int .i64 7)) (c1:w.cell? ⟨b,o+f*3+1,none⟩=some (.string s)) (c2:w.cell? ⟨b,o+f*3+2,none⟩=some (.int .i64 m)) (hS:Hi w.heap.size S) (he:EnvV w S B env) (htab:Tab w) (hp:PartsE w B env qs (.agg #[.slice (some ⟨b,o,none⟩) sn scp, .map (some B)]) [o0]):
  Calls Tryz.prog 76 #[.pointer (some ⟨N,0,none⟩), .agg #[.slice (some ⟨b,o,none⟩) sn scp, .map (some B)]] w (Res S (unaO s o0) w):=by
 have HP:=zz hp;clear hp
 have hN:N<w.heap.size:=World.block_lt_of_cell? w _ n0
 have hbl:b<w.heap.size:=World.block_lt_of_cell? w _ c0
 have HNP:=zz hn;have HS:=zz hS;have HE:=zz he;have HT:=zz htab
 have HBA:=zz ((Below.refl w.heap.size w).alloc (Nat.le_refl _) (.cells #[.slice (some ⟨b,o,none⟩) sn scp, .map (some B)] 73))
 obtain ⟨s0,s1⟩:=scp_new w (some ⟨b,o,none⟩) sn scp B
 have m0:(w.alloc (.cells #[.slice (some ⟨b,o,none⟩) sn scp, .map (some B)] 73)).cell? ⟨N,0,none⟩=some (.int .i64 (f:Int)):=(HBA.out.cell (p:=⟨N,0,none⟩) hN).trans n0
 have d0:(w.alloc (.cells #[.slice (some ⟨b,o,none⟩) sn scp, .map (some B)] 73)).cell? ⟨b,o+f*3,none⟩=some (.int .i64 7):=(HBA.out.cell (p:=⟨b,_,none⟩) hbl).trans c0
 have d1:(w.alloc (.cells #[.slice (some ⟨b,o,none⟩) sn scp, .map (some B)] 73)).cell? ⟨b,o+f*3+1,none⟩=some (.string s):=(HBA.out.cell (p:=⟨b,_,none⟩) hbl).trans c1
 have d2:(w.alloc (.cells #[.slice (some ⟨b,o,none⟩) sn scp, .map (some B)] 73)).cell? ⟨b,o+f*3+2,none⟩=some (.int .i64 m):=(HBA.out.cell (p:=⟨b,_,none⟩) hbl).trans c2
 have hfI:(f:Int)<(sn:Int):=by omega
 have hf0:(0:Int)≤(f:Int):=by omega
 unfold maxLen at hcm
 clear hn hS he htab n0 c0 c1 c2
 go_enter Tryz.func76,Tryz.ntmps76
 go_wp2_with fail
 generalize w.alloc (.cells #[.slice (some ⟨b,o,none⟩) sn scp, .map (some B)] 73)=wa at HBA s0 s1 m0 d0 d1 d2⊢
 have l1:N<wa.heap.size:=World.block_lt_of_cell? wa _ m0
 have l2:b<wa.heap.size:=World.block_lt_of_cell? wa _ d0
 have l3:w.heap.size<wa.heap.size:=World.block_lt_of_cell? wa _ s0
 have l4: ¬N=wa.heap.size:=by omega
 have l5: ¬b=wa.heap.size:=by omega
 have l6: ¬w.heap.size=wa.heap.size:=by omega
 go_region
 have HB2:=zz (show Below w.heap.size w (wa.alloc (.cells #[.int .i64 7, .string s, .int .i64 m] 44)).drew from (HBA.out.alloc HBA.out.size _).drew)
 obtain ⟨z0,z1⟩:(wa.alloc (.cells #[.int .i64 7, .string s, .int .i64 m] 44)).drew.cell? ⟨w.heap.size,0,none⟩=some (.slice (some ⟨b,o,none⟩) sn scp)∧(wa.alloc (.cells #[.int .i64 7, .string s, .int .i64 m] 44)).drew.cell? ⟨w.heap.size,1,none⟩=some (.map (some B)):=⟨kept ((Below.refl _ wa).alloc (Nat.le_refl _) _).drew s0,kept ((Below.refl _ wa).alloc (Nat.le_refl _) _).drew s1⟩
 have hq1:qs.length=1:=HP.out.1
 obtain ⟨ao,cap,n2,-,p1,p2,p3⟩:=HNP.out.keep HB2.out
 obtain ⟨g,rfl,hgl,cc⟩:=p3.resolve_left (by rintro rfl;simp at hq1)
 have a0:=cc 0 (by omega)
 generalize hq0:qs[0]=q0 at a0
 have HQ0:=zz (show∀h:0<qs.length,qs[0]=q0 from fun _=>hq0)
 have HL:=zz hq1
 rw [hq1] at n2 p1
 clear hq0 cc p3 s0 s1 m0 d0 d1 d2
 clear hq1
 unfold maxLen at p2
 have y1:(wa.alloc (.cells #[.int .i64 7, .string s, .int .i64 m] 44)).drew.cell? ⟨wa.heap.size,1,none⟩=some (.string s):=by simp [go_sem]
 have y0:(wa.alloc (.cells #[.int .i64 7, .string s, .int .i64 m] 44)).drew.cell? ⟨wa.heap.size,0,none⟩=some (.int .i64 7):=by simp [go_sem]
 have hwa:wa.heap.size<(wa.alloc (.cells #[.int .i64 7, .string s, .int .i64 m] 44)).drew.heap.size:=by simp
 generalize wa.heap.size=gc at y0 y1 hwa⊢
 generalize (wa.alloc (.cells #[.int .i64 7, .string s, .int .i64 m] 44)).drew=w2 at HB2 z0 z1 n2 a0 hgl y0 y1 hwa⊢
 have HW:=zz (show Below w.heap.size w w2.drew from HB2.out.drew)
 have HEV:=zz (HP.out.2 0 (by have:=HL.out;omega) (by simp) w2.drew S HW.out (HS.out.mono HW.out.size) (HE.out.low HW.out) (HT.out.keep HW.out))
 rw [HQ0.out] at HEV
 go_wp2_with fail
 go_region_held3 (fun w'=>w'.cell? ⟨gc,1,none⟩=some (.string s)∧w'.cell? ⟨N,2,none⟩=some (.slice (some ⟨g,0,none⟩) 1 cap)∧w'.cell? ⟨g,0,none⟩=some (.pointer (some ⟨q0,0,none⟩))∧w'.cell? ⟨w.heap.size,0,none⟩=some (.slice (some ⟨b,o,none⟩) sn scp)∧w'.cell? ⟨w.heap.size,1,none⟩=some (.map (some B)))
  (first
   |go_keep
   |(go_split_ands;exact ⟨kept hb4.out (by assumption),kept hb4.out (by assumption),kept hb4.out (by assumption),kept hb4.out (by assumption),kept hb4.out (by assumption)⟩)
   |(go_split_ands;exact ⟨kept hb3.out (by assumption),kept hb3.out (by assumption),kept hb3.out (by assumption),kept hb3.out (by assumption),kept hb3.out (by assumption)⟩))
  (first
   |(go_at_call 46;refine HEV.out.mono ?_;rintro e w3 h3;obtain ⟨u,rfl,hu3⟩:=ResE.shape h3;have hb3:=zz h3.1;have hh3:=zz hu3;clear h3 hu3)
   |(go_at_call 112;refine (unary_both s _ _ _ hh3.out (HT.out.keep (HW.out.trans (hb3.out.mono HW.out.size)))).mono ?_;rintro e w4 h4;obtain ⟨r,rfl,hres⟩:=h4.ret;have hb4:=zz hres.1;have hr4:=zz hres;clear h4 hres))
 have HR:=zz (hr4.out.from (HW.out.trans (hb3.out.mono HW.out.size)))
 clear hr4 hh3 hb3 hb4
 go_wp2
 go_ret
 exact HR.out
theorem leaf_num {S:Nat→Prop} (N b o sn scp f:Nat) (s:ByteArray) (w:World) (n0:w.cell? ⟨N,0,none⟩=some (.int .i64 (f:Int))) (hf:f<sn) (h60:sn≤60) (hsc:sn≤scp) (hcm:scp≤maxLen) (c0:w.cell? ⟨b,o+f*3,none⟩=some (.int .i64 1)) (c1:w.cell? ⟨b,o+f*3+1,none⟩=some (.string s)) (c2:w.cell? ⟨b,o+f*3+2,none⟩=some (.int .i64 0)) (htab:Tab w) (hrd:rdOK s=true) (hss:s.size≤60) (hok:okV [(1,s,0)]=true):
  Calls Tryz.prog 107 #[.slice (some ⟨b,o,none⟩) sn scp, .pointer (some ⟨N,0,none⟩)] w (Res S (some [(1,s,0)]) w):=by
 have HT:=zz htab
 have hfI:(f:Int)<(sn:Int):=by omega
 have hf0:(0:Int)≤(f:Int):=by omega
 unfold maxLen at hcm
 have HRD:=zz hrd;have HOK:=zz hok
 have hnum:=conc_num
 clear hrd hok
 go_enter Tryz.func107,Tryz.ntmps107
 go_wp2_with fail
 refine (readFraction_impl s _ (by omega) (HT.out.al _)).mono ?_
 rintro e w1 ⟨rfl,hb1⟩
 have HB1:=zz (((Below.refl w.heap.size w).alloc (Nat.le_refl _) _).trans ((hb1.alloc hb1.size (.cells #[.int .i64 (rdT s), .int .i64 (rdB s)] 94)).mono (by simp)));clear hb1
 generalize hRT:rdT s=RT at HB1⊢
 generalize hRB:rdB s=RB at HB1⊢
 have HRT:=zz hRT;have HRB:=zz hRB;clear hRT hRB
 go_wp2
 go_ret
 refine Res.val (r:=[(1,s,0)]) HB1.out ?_ (HT.out.keep HB1.out) HOK.out rfl
 rw [←HRT.out,←HRB.out]
 exact .num HRD.out .nil
theorem leaf_text {S:Nat→Prop} (N b o sn scp f:Nat) (s:ByteArray) (w:World) (n0:w.cell? ⟨N,0,none⟩=some (.int .i64 (f:Int))) (hf:f<sn) (h60:sn≤60) (hsc:sn≤scp) (hcm:scp≤maxLen) (c0:w.cell? ⟨b,o+f*3,none⟩=some (.int .i64 2)) (c1:w.cell? ⟨b,o+f*3+1,none⟩=some (.string s)) (c2:w.cell? ⟨b,o+f*3+2,none⟩=some (.int .i64 0)) (htab:Tab w) (hrd:okC (2,s,0)=true) (hok:okV [(2,s,0)]=true):
  Calls Tryz.prog 107 #[.slice (some ⟨b,o,none⟩) sn scp, .pointer (some ⟨N,0,none⟩)] w (Res S (some [(2,s,0)]) w):=by
 have HT:=zz htab
 have hfI:(f:Int)<(sn:Int):=by omega
 have hf0:(0:Int)≤(f:Int):=by omega
 unfold maxLen at hcm
 have HRD:=zz hrd;have HOK:=zz hok
 have htxt:=conc_text
 clear hrd hok
 go_enter Tryz.func107,Tryz.ntmps107
 go_wp2
 go_ret
 exact Res.val (r:=[(2,s,0)]) ((Below.refl w.heap.size w).alloc (Nat.le_refl _) _) (.text HRD.out .nil) (HT.out.al _) HOK.out rfl
theorem leaf_truth {S:Nat→Prop} (N b o sn scp f:Nat) (s:ByteArray) (w:World) (n0:w.cell? ⟨N,0,none⟩=some (.int .i64 (f:Int))) (hf:f<sn) (h60:sn≤60) (hsc:sn≤scp) (hcm:scp≤maxLen) (c0:w.cell? ⟨b,o+f*3,none⟩=some (.int .i64 3)) (c1:w.cell? ⟨b,o+f*3+1,none⟩=some (.string s)) (c2:w.cell? ⟨b,o+f*3+2,none⟩=some (.int .i64 0)) (htab:Tab w) (hw3:s.data.toList=trueL∨s.data.toList=falseL):
  Calls Tryz.prog 107 #[.slice (some ⟨b,o,none⟩) sn scp, .pointer (some ⟨N,0,none⟩)] w (Res S (some [(3,s,0)]) w):=by
 have HT:=zz htab
 have hfI:(f:Int)<(sn:Int):=by omega
 have hf0:(0:Int)≤(f:Int):=by omega
 unfold maxLen at hcm
 have HTW:=zz (truW_of hw3)
 have htru:=conc_truth
 clear hw3
 go_enter Tryz.func107,Tryz.ntmps107
 go_wp2
 go_ret
 exact Res.tru ((Below.refl w.heap.size w).alloc (Nat.le_refl _) _) (HT.out.al _) (s.toList==[116,114,117,101]) (by
  have h:=HTW.out
  show some [((3:Int),s,(0:Int))]=some [(3,truW (s.toList==[116,114,117,101]),0)]
  rw [h])
theorem result_leaf_num (N B:Nat) (env:List Bd) (qs:List Nat) (b o sn scp f:Nat) (s:ByteArray) (S:Nat→Prop) (w:World) (hn:NodeP w N qs) (n0:w.cell? ⟨N,0,none⟩=some (.int .i64 (f:Int))) (hf:f<sn) (h60:sn≤60) (hsc:sn≤scp) (hcm:scp≤maxLen) (c0:w.cell? ⟨b,o+f*3,none⟩=some (.int .i64 1)) (c1:w.cell? ⟨b,o+f*3+1,none⟩=some (.string s)) (c2:w.cell? ⟨b,o+f*3+2,none⟩=some (.int .i64 0)) (hS:Hi w.heap.size S) (he:EnvV w S B env) (htab:Tab w) (hrd:rdOK s=true) (hss:s.size≤60) (hok:okV [(1,s,0)]=true):
  Calls Tryz.prog 76 #[.pointer (some ⟨N,0,none⟩), .agg #[.slice (some ⟨b,o,none⟩) sn scp, .map (some B)]] w (Res S (some [(1,s,0)]) w):=by
 have HH:=zz (show rdOK s=true∧s.size≤60∧okV [(1,s,0)]=true from ⟨hrd,hss,hok⟩)
 clear hrd hss hok
 have hN:N<w.heap.size:=World.block_lt_of_cell? w _ n0
 have hbl:b<w.heap.size:=World.block_lt_of_cell? w _ c0
 have HNP:=zz hn;have HS:=zz hS;have HE:=zz he;have HT:=zz htab
 have HBA:=zz ((Below.refl w.heap.size w).alloc (Nat.le_refl _) (.cells #[.slice (some ⟨b,o,none⟩) sn scp, .map (some B)] 73))
 obtain ⟨s0,s1⟩:=scp_new w (some ⟨b,o,none⟩) sn scp B
 have m0:(w.alloc (.cells #[.slice (some ⟨b,o,none⟩) sn scp, .map (some B)] 73)).cell? ⟨N,0,none⟩=some (.int .i64 (f:Int)):=(HBA.out.cell (p:=⟨N,0,none⟩) hN).trans n0
 have d0:(w.alloc (.cells #[.slice (some ⟨b,o,none⟩) sn scp, .map (some B)] 73)).cell? ⟨b,o+f*3,none⟩=some (.int .i64 1):=(HBA.out.cell (p:=⟨b,_,none⟩) hbl).trans c0
 have d1:(w.alloc (.cells #[.slice (some ⟨b,o,none⟩) sn scp, .map (some B)] 73)).cell? ⟨b,o+f*3+1,none⟩=some (.string s):=(HBA.out.cell (p:=⟨b,_,none⟩) hbl).trans c1
 have d2:(w.alloc (.cells #[.slice (some ⟨b,o,none⟩) sn scp, .map (some B)] 73)).cell? ⟨b,o+f*3+2,none⟩=some (.int .i64 0):=(HBA.out.cell (p:=⟨b,_,none⟩) hbl).trans c2
 have hfI:(f:Int)<(sn:Int):=by omega
 have hf0:(0:Int)≤(f:Int):=by omega
 unfold maxLen at hcm
 clear hn hS he htab n0 c0 c1 c2
 go_enter Tryz.func76,Tryz.ntmps76
 go_wp2_with fail
 generalize w.alloc (.cells #[.slice (some ⟨b,o,none⟩) sn scp, .map (some B)] 73)=wa at HBA s0 s1 m0 d0 d1 d2⊢
 have l1:N<wa.heap.size:=World.block_lt_of_cell? wa _ m0
 have l2:b<wa.heap.size:=World.block_lt_of_cell? wa _ d0
 have l3:w.heap.size<wa.heap.size:=World.block_lt_of_cell? wa _ s0
 have l4: ¬N=wa.heap.size:=by omega
 have l5: ¬b=wa.heap.size:=by omega
 have l6: ¬w.heap.size=wa.heap.size:=by omega
 go_region
 have HB2:=zz (show Below w.heap.size w (wa.alloc (.cells #[.int .i64 1, .string s, .int .i64 0] 44)).drew from (HBA.out.alloc HBA.out.size _).drew)
 obtain ⟨z0,z1⟩:(wa.alloc (.cells #[.int .i64 1, .string s, .int .i64 0] 44)).drew.cell? ⟨w.heap.size,0,none⟩=some (.slice (some ⟨b,o,none⟩) sn scp)∧(wa.alloc (.cells #[.int .i64 1, .string s, .int .i64 0] 44)).drew.cell? ⟨w.heap.size,1,none⟩=some (.map (some B)):=⟨kept ((Below.refl _ wa).alloc (Nat.le_refl _) _).drew s0,kept ((Below.refl _ wa).alloc (Nat.le_refl _) _).drew s1⟩
 have k0:(wa.alloc (.cells #[.int .i64 1, .string s, .int .i64 0] 44)).drew.cell? ⟨N,0,none⟩=some (.int .i64 (f:Int)):=kept ((Below.refl _ wa).alloc (Nat.le_refl _) _).drew m0
 have k1:(wa.alloc (.cells #[.int .i64 1, .string s, .int .i64 0] 44)).drew.cell? ⟨b,o+f*3,none⟩=some (.int .i64 1):=kept ((Below.refl _ wa).alloc (Nat.le_refl _) _).drew d0
 have k2:(wa.alloc (.cells #[.int .i64 1, .string s, .int .i64 0] 44)).drew.cell? ⟨b,o+f*3+1,none⟩=some (.string s):=kept ((Below.refl _ wa).alloc (Nat.le_refl _) _).drew d1
 have k3:(wa.alloc (.cells #[.int .i64 1, .string s, .int .i64 0] 44)).drew.cell? ⟨b,o+f*3+2,none⟩=some (.int .i64 0):=kept ((Below.refl _ wa).alloc (Nat.le_refl _) _).drew d2
 have HLF:=zz (leaf_num (S:=S) N b o sn scp f s _ k0 hf h60 hsc (by unfold maxLen;exact hcm) k1 k2 k3 (HT.out.keep HB2.out) HH.out.1 HH.out.2.1 HH.out.2.2)
 clear k0 k1 k2 k3
 go_wp2_with fail
 refine HLF.out.mono ?_
 intro e w1 hr
 obtain ⟨r,rfl,hres⟩:=hr.ret
 have HR:=zz (hres.from HB2.out)
 clear hr hres
 go_wp2
 go_ret
 exact HR.out
theorem result_leaf_text (N B:Nat) (env:List Bd) (qs:List Nat) (b o sn scp f:Nat) (s:ByteArray) (S:Nat→Prop) (w:World) (hn:NodeP w N qs) (n0:w.cell? ⟨N,0,none⟩=some (.int .i64 (f:Int))) (hf:f<sn) (h60:sn≤60) (hsc:sn≤scp) (hcm:scp≤maxLen) (c0:w.cell? ⟨b,o+f*3,none⟩=some (.int .i64 2)) (c1:w.cell? ⟨b,o+f*3+1,none⟩=some (.string s)) (c2:w.cell? ⟨b,o+f*3+2,none⟩=some (.int .i64 0)) (hS:Hi w.heap.size S) (he:EnvV w S B env) (htab:Tab w) (hrd:okC (2,s,0)=true) (hok:okV [(2,s,0)]=true):
  Calls Tryz.prog 76 #[.pointer (some ⟨N,0,none⟩), .agg #[.slice (some ⟨b,o,none⟩) sn scp, .map (some B)]] w (Res S (some [(2,s,0)]) w):=by
 have HH:=zz (show okC (2,s,0)=true∧okV [(2,s,0)]=true from ⟨hrd,hok⟩)
 clear hrd hok
 have hN:N<w.heap.size:=World.block_lt_of_cell? w _ n0
 have hbl:b<w.heap.size:=World.block_lt_of_cell? w _ c0
 have HNP:=zz hn;have HS:=zz hS;have HE:=zz he;have HT:=zz htab
 have HBA:=zz ((Below.refl w.heap.size w).alloc (Nat.le_refl _) (.cells #[.slice (some ⟨b,o,none⟩) sn scp, .map (some B)] 73))
 obtain ⟨s0,s1⟩:=scp_new w (some ⟨b,o,none⟩) sn scp B
 have m0:(w.alloc (.cells #[.slice (some ⟨b,o,none⟩) sn scp, .map (some B)] 73)).cell? ⟨N,0,none⟩=some (.int .i64 (f:Int)):=(HBA.out.cell (p:=⟨N,0,none⟩) hN).trans n0
 have d0:(w.alloc (.cells #[.slice (some ⟨b,o,none⟩) sn scp, .map (some B)] 73)).cell? ⟨b,o+f*3,none⟩=some (.int .i64 2):=(HBA.out.cell (p:=⟨b,_,none⟩) hbl).trans c0
 have d1:(w.alloc (.cells #[.slice (some ⟨b,o,none⟩) sn scp, .map (some B)] 73)).cell? ⟨b,o+f*3+1,none⟩=some (.string s):=(HBA.out.cell (p:=⟨b,_,none⟩) hbl).trans c1
 have d2:(w.alloc (.cells #[.slice (some ⟨b,o,none⟩) sn scp, .map (some B)] 73)).cell? ⟨b,o+f*3+2,none⟩=some (.int .i64 0):=(HBA.out.cell (p:=⟨b,_,none⟩) hbl).trans c2
 have hfI:(f:Int)<(sn:Int):=by omega
 have hf0:(0:Int)≤(f:Int):=by omega
 unfold maxLen at hcm
 clear hn hS he htab n0 c0 c1 c2
 go_enter Tryz.func76,Tryz.ntmps76
 go_wp2_with fail
 generalize w.alloc (.cells #[.slice (some ⟨b,o,none⟩) sn scp, .map (some B)] 73)=wa at HBA s0 s1 m0 d0 d1 d2⊢
 have l1:N<wa.heap.size:=World.block_lt_of_cell? wa _ m0
 have l2:b<wa.heap.size:=World.block_lt_of_cell? wa _ d0
 have l3:w.heap.size<wa.heap.size:=World.block_lt_of_cell? wa _ s0
 have l4: ¬N=wa.heap.size:=by omega
 have l5: ¬b=wa.heap.size:=by omega
 have l6: ¬w.heap.size=wa.heap.size:=by omega
 go_region
 have HB2:=zz (show Below w.heap.size w (wa.alloc (.cells #[.int .i64 2, .string s, .int .i64 0] 44)).drew from (HBA.out.alloc HBA.out.size _).drew)
 obtain ⟨z0,z1⟩:(wa.alloc (.cells #[.int .i64 2, .string s, .int .i64 0] 44)).drew.cell? ⟨w.heap.size,0,none⟩=some (.slice (some ⟨b,o,none⟩) sn scp)∧(wa.alloc (.cells #[.int .i64 2, .string s, .int .i64 0] 44)).drew.cell? ⟨w.heap.size,1,none⟩=some (.map (some B)):=⟨kept ((Below.refl _ wa).alloc (Nat.le_refl _) _).drew s0,kept ((Below.refl _ wa).alloc (Nat.le_refl _) _).drew s1⟩
 have k0:(wa.alloc (.cells #[.int .i64 2, .string s, .int .i64 0] 44)).drew.cell? ⟨N,0,none⟩=some (.int .i64 (f:Int)):=kept ((Below.refl _ wa).alloc (Nat.le_refl _) _).drew m0
 have k1:(wa.alloc (.cells #[.int .i64 2, .string s, .int .i64 0] 44)).drew.cell? ⟨b,o+f*3,none⟩=some (.int .i64 2):=kept ((Below.refl _ wa).alloc (Nat.le_refl _) _).drew d0
 have k2:(wa.alloc (.cells #[.int .i64 2, .string s, .int .i64 0] 44)).drew.cell? ⟨b,o+f*3+1,none⟩=some (.string s):=kept ((Below.refl _ wa).alloc (Nat.le_refl _) _).drew d1
 have k3:(wa.alloc (.cells #[.int .i64 2, .string s, .int .i64 0] 44)).drew.cell? ⟨b,o+f*3+2,none⟩=some (.int .i64 0):=kept ((Below.refl _ wa).alloc (Nat.le_refl _) _).drew d2
 have HLF:=zz (leaf_text (S:=S) N b o sn scp f s _ k0 hf h60 hsc (by unfold maxLen;exact hcm) k1 k2 k3 (HT.out.keep HB2.out) HH.out.1 HH.out.2)
 clear k0 k1 k2 k3
 go_wp2_with fail
 refine HLF.out.mono ?_
 intro e w1 hr
 obtain ⟨r,rfl,hres⟩:=hr.ret
 have HR:=zz (hres.from HB2.out)
 clear hr hres
 go_wp2
 go_ret
 exact HR.out
theorem result_leaf_truth (N B:Nat) (env:List Bd) (qs:List Nat) (b o sn scp f:Nat) (s:ByteArray) (S:Nat→Prop) (w:World) (hn:NodeP w N qs) (n0:w.cell? ⟨N,0,none⟩=some (.int .i64 (f:Int))) (hf:f<sn) (h60:sn≤60) (hsc:sn≤scp) (hcm:scp≤maxLen) (c0:w.cell? ⟨b,o+f*3,none⟩=some (.int .i64 3)) (c1:w.cell? ⟨b,o+f*3+1,none⟩=some (.string s)) (c2:w.cell? ⟨b,o+f*3+2,none⟩=some (.int .i64 0)) (hS:Hi w.heap.size S) (he:EnvV w S B env) (htab:Tab w) (hw3:s.data.toList=trueL∨s.data.toList=falseL):
  Calls Tryz.prog 76 #[.pointer (some ⟨N,0,none⟩), .agg #[.slice (some ⟨b,o,none⟩) sn scp, .map (some B)]] w (Res S (some [(3,s,0)]) w):=by
 have HH:=zz hw3;clear hw3
 have hN:N<w.heap.size:=World.block_lt_of_cell? w _ n0
 have hbl:b<w.heap.size:=World.block_lt_of_cell? w _ c0
 have HNP:=zz hn;have HS:=zz hS;have HE:=zz he;have HT:=zz htab
 have HBA:=zz ((Below.refl w.heap.size w).alloc (Nat.le_refl _) (.cells #[.slice (some ⟨b,o,none⟩) sn scp, .map (some B)] 73))
 obtain ⟨s0,s1⟩:=scp_new w (some ⟨b,o,none⟩) sn scp B
 have m0:(w.alloc (.cells #[.slice (some ⟨b,o,none⟩) sn scp, .map (some B)] 73)).cell? ⟨N,0,none⟩=some (.int .i64 (f:Int)):=(HBA.out.cell (p:=⟨N,0,none⟩) hN).trans n0
 have d0:(w.alloc (.cells #[.slice (some ⟨b,o,none⟩) sn scp, .map (some B)] 73)).cell? ⟨b,o+f*3,none⟩=some (.int .i64 3):=(HBA.out.cell (p:=⟨b,_,none⟩) hbl).trans c0
 have d1:(w.alloc (.cells #[.slice (some ⟨b,o,none⟩) sn scp, .map (some B)] 73)).cell? ⟨b,o+f*3+1,none⟩=some (.string s):=(HBA.out.cell (p:=⟨b,_,none⟩) hbl).trans c1
 have d2:(w.alloc (.cells #[.slice (some ⟨b,o,none⟩) sn scp, .map (some B)] 73)).cell? ⟨b,o+f*3+2,none⟩=some (.int .i64 0):=(HBA.out.cell (p:=⟨b,_,none⟩) hbl).trans c2
 have hfI:(f:Int)<(sn:Int):=by omega
 have hf0:(0:Int)≤(f:Int):=by omega
 unfold maxLen at hcm
 clear hn hS he htab n0 c0 c1 c2
 go_enter Tryz.func76,Tryz.ntmps76
 go_wp2_with fail
 generalize w.alloc (.cells #[.slice (some ⟨b,o,none⟩) sn scp, .map (some B)] 73)=wa at HBA s0 s1 m0 d0 d1 d2⊢
 have l1:N<wa.heap.size:=World.block_lt_of_cell? wa _ m0
 have l2:b<wa.heap.size:=World.block_lt_of_cell? wa _ d0
 have l3:w.heap.size<wa.heap.size:=World.block_lt_of_cell? wa _ s0
 have l4: ¬N=wa.heap.size:=by omega
 have l5: ¬b=wa.heap.size:=by omega
 have l6: ¬w.heap.size=wa.heap.size:=by omega
 go_region
 have HB2:=zz (show Below w.heap.size w (wa.alloc (.cells #[.int .i64 3, .string s, .int .i64 0] 44)).drew from (HBA.out.alloc HBA.out.size _).drew)
 obtain ⟨z0,z1⟩:(wa.alloc (.cells #[.int .i64 3, .string s, .int .i64 0] 44)).drew.cell? ⟨w.heap.size,0,none⟩=some (.slice (some ⟨b,o,none⟩) sn scp)∧(wa.alloc (.cells #[.int .i64 3, .string s, .int .i64 0] 44)).drew.cell? ⟨w.heap.size,1,none⟩=some (.map (some B)):=⟨kept ((Below.refl _ wa).alloc (Nat.le_refl _) _).drew s0,kept ((Below.refl _ wa).alloc (Nat.le_refl _) _).drew s1⟩
 have k0:(wa.alloc (.cells #[.int .i64 3, .string s, .int .i64 0] 44)).drew.cell? ⟨N,0,none⟩=some (.int .i64 (f:Int)):=kept ((Below.refl _ wa).alloc (Nat.le_refl _) _).drew m0
 have k1:(wa.alloc (.cells #[.int .i64 3, .string s, .int .i64 0] 44)).drew.cell? ⟨b,o+f*3,none⟩=some (.int .i64 3):=kept ((Below.refl _ wa).alloc (Nat.le_refl _) _).drew d0
 have k2:(wa.alloc (.cells #[.int .i64 3, .string s, .int .i64 0] 44)).drew.cell? ⟨b,o+f*3+1,none⟩=some (.string s):=kept ((Below.refl _ wa).alloc (Nat.le_refl _) _).drew d1
 have k3:(wa.alloc (.cells #[.int .i64 3, .string s, .int .i64 0] 44)).drew.cell? ⟨b,o+f*3+2,none⟩=some (.int .i64 0):=kept ((Below.refl _ wa).alloc (Nat.le_refl _) _).drew d2
 have HLF:=zz (leaf_truth (S:=S) N b o sn scp f s _ k0 hf h60 hsc (by unfold maxLen;exact hcm) k1 k2 k3 (HT.out.keep HB2.out) HH.out)
 clear k0 k1 k2 k3
 go_wp2_with fail
 refine HLF.out.mono ?_
 intro e w1 hr
 obtain ⟨r,rfl,hres⟩:=hr.ret
 have HR:=zz (hres.from HB2.out)
 clear hr hres
 go_wp2
 go_ret
 exact HR.out
end Go.Proofs.YthillfgjpalpcaaGreatDoor
