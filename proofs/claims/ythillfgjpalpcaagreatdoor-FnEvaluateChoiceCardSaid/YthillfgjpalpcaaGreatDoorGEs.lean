/-
  Several texts of the proof in one file: EvC, EvU, EvL, EvO.
-/
import Derived.Test.YthillfgjpalpcaaGreatDoorEvV
set_option linter.unusedVariables false
set_option maxHeartbeats 4000000
set_option maxRecDepth 100000
namespace Go.Proofs.YthillfgjpalpcaaGreatDoor
open Go.RowKit
theorem val_choice {v ev:Value} {l:List Cl} {env:List Bd} {j:Nat} (h60:l.length≤60) (hok:l.all okC=true) (he: ∀b∈env,nmL b.1=true∧okV b.2=true) (ih:ValOK v ev l env j) (f t:Nat) (s:ByteArray) (m:Int) (ks:List (Option (List Cl))) (w:World) (hc:l[f]? =some (9,s,m)) (hks:Ev l env m.toNat (f+1) t ks) (hj:t-f≤j+1) (hr:RowC w v l) (hrb:RowB w ev env):
  Calls Tryz.prog 41 #[v, .int .i64 (f:Int),ev] w (NewCB ((combV env (9,s,m) ks).getD []) (combV env (9,s,m) ks).isSome w):=by
 obtain ⟨hfl,he0⟩:=List.getElem?_eq_some_iff.mp hc
 have hokc:okC (9,s,m)=true:=by rw [←he0];exact okC_all hok f hfl
 obtain rfl:m=3:=by
  have:=hokc
  simp only [okC,cellB,manyB,Bool.and_eq_true] at this
  simpa using this.2
 obtain ⟨dk,hxk⟩:=hks.exs
 have hkl:=hxk.le
 have HKI:=zz (fun w' hr'=>l5Kids_any v l f _ t dk w' hr' h60 (allM_of hok) (amL_some hc) hxk)
 have HIH:=zz ih;have HR:=zz hr;have HRB:=zz hrb;have HX:=zz hks;have HOK:=zz hokc
 have HV:=zz (fun (k:Nat) (x:List Cl) (hk:ks[k]? =some (some x))=>hks.ok hok he _ (List.mem_of_getElem? hk) x rfl)
 obtain ⟨x0,x1,x2,rfl⟩: ∃x0 x1 x2,ks=[x0,x1,x2]:=by
  have:=hks.len
  match ks,this with
  |[x0,x1,x2],_=>exact ⟨x0,x1,x2,rfl⟩
 obtain ⟨gg0,gg0',y0,z0,u0,t0,b0,b0',b0''⟩:=ev_part hks 0 (by decide)
 obtain rfl:x0=y0:=by simpa using z0
 obtain ⟨gg1,gg1',y1,z1,u1,t1,b1,b1',b1''⟩:=ev_part hks 1 (by decide)
 obtain rfl:x1=y1:=by simpa using z1
 obtain ⟨gg2,gg2',y2,z2,u2,t2,b2,b2',b2''⟩:=ev_part hks 2 (by decide)
 obtain rfl:x2=y2:=by simpa using z2
 have HQ:=zz (show∀v,x0=some v→combV env (9,s,3) [x0,x1,x2]=if kdV v=3 then (if trueW v=true then x1 else x2) else none from fun v hv=>by subst hv;simp [combV])
 have HQ0:=zz (show x0=none→combV env (9,s,3) [x0,x1,x2]=none from fun hv=>by subst hv;simp [combV])
 obtain ⟨ao,cap,rfl,h1,h2,h3⟩:=hr
 unfold maxLen at h2
 obtain ⟨b,o,rfl,hbl,cc⟩:=h3.resolve_left (by rintro rfl;simp at hfl)
 obtain ⟨c0,c1,c2⟩:=cc f hfl
 rw [he0] at c0 c1 c2
 simp only at c0 c1 c2
 have e2: ¬b=w.heap.size:=by omega
 clear cc h3 hc hks ih he0 hxk hokc hok he hrb
 have HCP:=zz (CpE.new w 9 s 3)
 have hbA:=(Below.refl w.heap.size w).alloc (Nat.le_refl _) (.cells #[.int .i64 9, .string s, .int .i64 3] 44)
 have HBA:=zz hbA
 go_enter Tryz.func41,Tryz.ntmps41
 go_wp2_with fail
 refine (HKI.out _ (HR.out.mono HBA.out)).mono ?_
 rintro e1 w1 ⟨v1,rfl,hown1,hb1⟩
 obtain ⟨hri,hrl⟩:=RowI.of_own hown1
 have hLm:=kidsL_length (amL l) (3:Int).toNat (f+1)
 have HB1:=zz (HBA.out.trans (hb1.mono HBA.out.size))
 have HCP1:=zz (HCP.out.keep hb1)
 have HR1:=zz (HR.out.mono HB1.out)
 have HRB1:=zz (HRB.out.mono HB1.out)
 generalize hL:kidsL (amL l) (f+1) (3:Int).toNat=L at hri hLm
 have HL:=zz hL;clear hL
 obtain ⟨bo,cp,rfl,g1,g2,g3⟩:=hri
 rw [hLm] at g1
 rw [hLm]
 unfold maxLen at g2
 have HG3:=zz g3
 clear g3 hb1 hbA hown1 hrl HCP HBA c0 c1 c2 e2
 generalize w.heap.size=CG at HCP1
 obtain ⟨-,k0,k1,k2⟩:=HCP1.out
 obtain ⟨bk,rfl,hbk,hck⟩:=kidE_cell HG3.out (by rw [hLm];decide)
 have q0:=hck 0 gg0 (by rw [←HL.out];exact u0)
 have HP0:=zz (fun w' hr' hb'=>HIH.out gg0 gg0' x0 w' t0 (by omega) hr' hb')
 have q1:=hck 1 gg1 (by rw [←HL.out];exact u1)
 have HP1:=zz (fun w' hr' hb'=>HIH.out gg1 gg1' x1 w' t1 (by omega) hr' hb')
 have q2:=hck 2 gg2 (by rw [←HL.out];exact u2)
 have HP2:=zz (fun w' hr' hb'=>HIH.out gg2 gg2' x2 w' t2 (by omega) hr' hb')
 clear hck z0 u0 t0 b0 b0' b0'' z1 u1 t1 b1 b1' b1'' z2 u2 t2 b2 b2' b2''
 go_wp2_with fail
 refine (HP0.out _ HR1.out HRB1.out).mono ?_
 rintro e w2 ⟨u,rfl,hown,hb2⟩
 have HB2:=zz (HB1.out.trans (hb2.mono HB1.out.size))
 have HR2:=zz (HR1.out.mono hb2)
 have HRB2:=zz (HRB1.out.mono hb2)
 have HCP2:=zz (HCP1.out.keep hb2)
 have hbk2:=Nat.lt_of_lt_of_le hbk hb2.size
 have q1:=(hb2.cell (p:=⟨bk,1,none⟩) hbk).trans q1
 have q2:=(hb2.cell (p:=⟨bk,2,none⟩) hbk).trans q2
 clear k0 k1 k2 q0
 cases x0 with
 |none=>
  have HN:=zz (HQ0.out rfl)
  clear hown hb2
  go_wp2
  exact bodyPost_ret (v:= .tuple #[.slice (some ⟨_,0,none⟩) 0 0, .bool false]) (by simp [results,Tryz.results41,go_sem];rfl) rfl (newCB_no HB2.out (by simp) (by rw [HN.out];rfl) (by rw [HN.out];rfl))
 |some v0=>
  have hokv:=HV.out 0 v0 rfl
  obtain ⟨ub,uo,uc,rfl,hup,hul,p0,p1,hru⟩:=val_head (l:=v0) hown hokv
  clear hown hb2
  by_cases hk:kdV v0=3
  ·rw [hk] at p0
   by_cases ht:trueW v0=true
   ·have HN:=zz ((HQ.out v0 rfl).trans ((if_pos hk).trans (if_pos ht)))
    have htl:(wdV v0).toList=[116,114,117,101]:=by rw [ByteArray.toList_eq];simpa [trueW,trueL] using ht
    generalize wdV v0=sv at p1 htl
    clear hk ht
    go_wp2_with fail
    refine (HP1.out _ HR2.out HRB2.out).mono ?_
    rintro e w3 ⟨u2,rfl,hown2,hb3⟩
    have HO:=zz (own_base (base':=w.heap.size) hown2 (fun g hg=>Nat.le_trans HB2.out.size (hown2.lt g hg).1))
    have HBN:=zz (HB2.out.trans (hb3.mono HB2.out.size))
    clear hown2 hb3
    go_wp2
    exact bodyPost_ret (v:= .tuple #[u2, .bool x1.isSome]) (by simp [results,Tryz.results41,go_sem]) rfl (by rw [HN.out];exact ⟨u2,rfl,HO.out,HBN.out⟩)
   ·have HN:=zz ((HQ.out v0 rfl).trans ((if_pos hk).trans (if_neg ht)))
    have htl:((wdV v0).toList==[116,114,117,101])=false:=by
     rw [ByteArray.toList_eq];simpa [trueW,trueL] using ht
    have htl2: ¬(wdV v0).toList=[116,114,117,101]:=by simpa using htl
    generalize wdV v0=sv at p1 htl htl2
    clear hk ht
    go_wp2_with fail
    refine (HP2.out _ HR2.out HRB2.out).mono ?_
    rintro e w3 ⟨u2,rfl,hown2,hb3⟩
    have HO:=zz (own_base (base':=w.heap.size) hown2 (fun g hg=>Nat.le_trans HB2.out.size (hown2.lt g hg).1))
    have HBN:=zz (HB2.out.trans (hb3.mono HB2.out.size))
    clear hown2 hb3
    go_wp2
    exact bodyPost_ret (v:= .tuple #[u2, .bool x2.isSome]) (by simp [results,Tryz.results41,go_sem]) rfl (by rw [HN.out];exact ⟨u2,rfl,HO.out,HBN.out⟩)
  ·have HN:=zz ((HQ.out v0 rfl).trans (if_neg hk))
   have hkb:(kdV v0 !=3)=true:=bne_iff_ne.mpr hk
   generalize kdV v0=kv at p0 hkb
   clear hk
   go_wp2
   exact bodyPost_ret (v:= .tuple #[.slice (some ⟨_,0,none⟩) 0 0, .bool false]) (by simp [results,Tryz.results41,go_sem];rfl) rfl (newCB_no HB2.out (by simp) (by rw [HN.out];rfl) (by rw [HN.out];rfl))
theorem val_unary {v ev:Value} {l:List Cl} {env:List Bd} {j:Nat} (h60:l.length≤60) (hok:l.all okC=true) (he: ∀b∈env,nmL b.1=true∧okV b.2=true) (ih:ValOK v ev l env j) (f t:Nat) (s:ByteArray) (m:Int) (ks:List (Option (List Cl))) (w:World) (hc:l[f]? =some (7,s,m)) (hks:Ev l env m.toNat (f+1) t ks) (hj:t-f≤j+1) (hr:RowC w v l) (hrb:RowB w ev env):
  Calls Tryz.prog 41 #[v, .int .i64 (f:Int),ev] w (NewCB ((combV env (7,s,m) ks).getD []) (combV env (7,s,m) ks).isSome w):=by
 obtain ⟨hfl,he0⟩:=List.getElem?_eq_some_iff.mp hc
 have hokc:okC (7,s,m)=true:=by rw [←he0];exact okC_all hok f hfl
 obtain rfl:m=1:=by
  have:=hokc
  simp only [okC,cellB,manyB,Bool.and_eq_true] at this
  simpa using this.2
 obtain ⟨dk,hxk⟩:=hks.exs
 have hkl:=hxk.le
 have HKI:=zz (fun w' hr'=>l5Kids_any v l f _ t dk w' hr' h60 (allM_of hok) (amL_some hc) hxk)
 have HIH:=zz ih;have HR:=zz hr;have HRB:=zz hrb;have HX:=zz hks;have HOK:=zz hokc
 have HV:=zz (fun (k:Nat) (x:List Cl) (hk:ks[k]? =some (some x))=>hks.ok hok he _ (List.mem_of_getElem? hk) x rfl)
 obtain ⟨x0,rfl⟩: ∃x0,ks=[x0]:=by
  have:=hks.len
  match ks,this with
  |[x0],_=>exact ⟨x0,rfl⟩
 obtain ⟨gg0,gg0',y0,z0,u0,t0,b0,b0',b0''⟩:=ev_part hks 0 (by decide)
 obtain rfl:x0=y0:=by simpa using z0
 have HQ:=zz (show∀v,x0=some v→combV env (7,s,1) [x0]=if s.data.toList=[33]∧kdV v=3 then some (truV (falseW v)) else if s.data.toList=[45]∧kdV v=1 then some (numV (-aT v) (aB v)) else none from fun v hv=>by subst hv;simp [combV])
 have HQ0:=zz (show x0=none→combV env (7,s,1) [x0]=none from fun hv=>by subst hv;simp [combV])
 have hsw:s.toList=[33]∨s.toList=[45]:=by
  rw [ByteArray.toList_eq]
  have:=hokc
  simp only [okC,cellB,wordB,Bool.and_eq_true] at this
  simpa using this.1
 have hsd:s.toList=s.data.toList:=ByteArray.toList_eq ..
 obtain ⟨ao,cap,rfl,h1,h2,h3⟩:=hr
 unfold maxLen at h2
 obtain ⟨b,o,rfl,hbl,cc⟩:=h3.resolve_left (by rintro rfl;simp at hfl)
 obtain ⟨c0,c1,c2⟩:=cc f hfl
 rw [he0] at c0 c1 c2
 simp only at c0 c1 c2
 have e2: ¬b=w.heap.size:=by omega
 clear cc h3 hc hks ih he0 hxk hokc hok he hrb
 have HCP:=zz (CpE.new w 7 s 1)
 have hbA:=(Below.refl w.heap.size w).alloc (Nat.le_refl _) (.cells #[.int .i64 7, .string s, .int .i64 1] 44)
 have HBA:=zz hbA
 go_enter Tryz.func41,Tryz.ntmps41
 go_wp2_with fail
 refine (HKI.out _ (HR.out.mono HBA.out)).mono ?_
 rintro e1 w1 ⟨v1,rfl,hown1,hb1⟩
 obtain ⟨hri,hrl⟩:=RowI.of_own hown1
 have hLm:=kidsL_length (amL l) (1:Int).toNat (f+1)
 have HB1:=zz (HBA.out.trans (hb1.mono HBA.out.size))
 have HCP1:=zz (HCP.out.keep hb1)
 have HR1:=zz (HR.out.mono HB1.out)
 have HRB1:=zz (HRB.out.mono HB1.out)
 generalize hL:kidsL (amL l) (f+1) (1:Int).toNat=L at hri hLm
 have HL:=zz hL;clear hL
 obtain ⟨bo,cp,rfl,g1,g2,g3⟩:=hri
 rw [hLm] at g1
 rw [hLm]
 unfold maxLen at g2
 have HG3:=zz g3
 clear g3 hb1 hbA hown1 hrl HCP HBA c0 c1 c2 e2
 generalize w.heap.size=CG at HCP1
 obtain ⟨-,k0,k1,k2⟩:=HCP1.out
 obtain ⟨bk,rfl,hbk,hck⟩:=kidE_cell HG3.out (by rw [hLm];decide)
 have q0:=hck 0 gg0 (by rw [←HL.out];exact u0)
 have HP0:=zz (fun w' hr' hb'=>HIH.out gg0 gg0' x0 w' t0 (by omega) hr' hb')
 clear hck z0 u0 t0 b0 b0' b0''
 go_wp2_with fail
 refine (HP0.out _ HR1.out HRB1.out).mono ?_
 rintro e w2 ⟨u,rfl,hown,hb2⟩
 have HB2:=zz (HB1.out.trans (hb2.mono HB1.out.size))
 have HR2:=zz (HR1.out.mono hb2)
 have HRB2:=zz (HRB1.out.mono hb2)
 have HCP2:=zz (HCP1.out.keep hb2)
 have hbk2:=Nat.lt_of_lt_of_le hbk hb2.size
 obtain ⟨-,k0,k1,k2⟩:=HCP2.out
 clear q0
 cases x0 with
 |none=>
  have HN:=zz (HQ0.out rfl)
  clear hown hb2 hsw hsd
  go_wp2
  exact bodyPost_ret (v:= .tuple #[.slice (some ⟨_,0,none⟩) 0 0, .bool false]) (by simp [results,Tryz.results41,go_sem];rfl) rfl (newCB_no HB2.out (by simp) (by rw [HN.out];rfl) (by rw [HN.out];rfl))
 |some v0=>
  have hokv:=HV.out 0 v0 rfl
  obtain ⟨ub,uo,uc,rfl,hup,hul,p0,p1,hru⟩:=val_head (l:=v0) hown hokv
  clear hown hb2
  rcases hsw with hs|hs
  ·have hs2: ¬s.toList=[45]:=by rw [hs];decide
   by_cases hk:kdV v0=3
   ·have HN:=zz ((HQ.out v0 rfl).trans (if_pos ⟨hsd.symm.trans hs,hk⟩))
    rw [hk] at p0
    have htl:((wdV v0).toList==[102,97,108,115,101])=falseW v0:=by rw [ByteArray.toList_eq];rfl
    cases hf:falseW v0
    all_goals
     rw [hf] at htl HN
     have htl2:=htl
     simp only [beq_iff_eq,beq_eq_false_iff_ne,ne_eq] at htl2
     generalize wdV v0=sv at p1 htl htl2
     clear hk hf hsd
     go_wp2_with fail
     refine (l9Truth_any _ _).mono ?_
     rintro e w4 ⟨u2,rfl,hown2,hb4⟩
     have HO:=zz (own_base (base':=w.heap.size) hown2 (fun g hg=>Nat.le_trans HB2.out.size (hown2.lt g hg).1))
     have HBN:=zz (HB2.out.trans (hb4.mono HB2.out.size))
     clear hown2 hb4
     go_wp2
     exact bodyPost_ret (v:= .tuple #[u2, .bool true]) (by simp [results,Tryz.results41,go_sem]) rfl (by rw [HN.out];exact ⟨u2,rfl,HO.out,HBN.out⟩)
   ·have HN:=zz ((HQ.out v0 rfl).trans ((if_neg (fun q=>hk q.2)).trans (if_neg (fun q=>hs2 (hsd.trans q.1)))))
    have hkb:(kdV v0==3)=false:=beq_false_of_ne hk
    generalize kdV v0=kv at p0 hkb
    clear hk hsd
    go_wp2
    exact bodyPost_ret (v:= .tuple #[.slice (some ⟨_,0,none⟩) 0 0, .bool false]) (by simp [results,Tryz.results41,go_sem];rfl) rfl (newCB_no HB2.out (by simp) (by rw [HN.out];rfl) (by rw [HN.out];rfl))
  ·have hs2: ¬s.toList=[33]:=by rw [hs];decide
   by_cases hk:kdV v0=1
   ·have HN:=zz ((HQ.out v0 rfl).trans ((if_neg (fun q=>hs2 (hsd.trans q.1))).trans (if_pos ⟨hsd.symm.trans hs,hk⟩)))
    rw [hk] at p0
    have hvb:=numE_ok hokv hk
    obtain ⟨r1,r2,-⟩:=(vB_iff _ _).mp hvb
    have hsz:=(okV_len hokv).2
    have HRF:=zz (fun w'=>readFraction_spec (wdV v0) w' (by omega))
    have hTd:aT v0=rdT (wdV v0):=rfl
    have hBd:aB v0=rdB (wdV v0):=rfl
    rw [←hTd,←hBd] at HRF
    generalize aT v0=T at HRF HN r1 r2
    generalize aB v0=B at HRF HN
    generalize rdOK (wdV v0)=okf at HRF
    generalize wdV v0=sv at p1 HRF
    clear hk hsd hTd hBd hvb hsz
    go_wp2_with fail
    refine (HRF.out _).mono ?_
    rintro e w3 ⟨rfl,hb3⟩
    have HB3:=zz (HB2.out.trans (hb3.mono HB2.out.size))
    have HB3a:=zz (HB3.out.alloc HB3.out.size (.cells #[.int .i64 T, .int .i64 B] 94))
    clear hb3 p0 p1 k0 k1 k2
    go_wp2_with fail
    refine (l9Number_any _ _ _).mono ?_
    rintro e w4 ⟨u2,rfl,hown2,hb4⟩
    have HO:=zz (own_base (base':=w.heap.size) hown2 (fun g hg=>Nat.le_trans HB3a.out.size (hown2.lt g hg).1))
    have HBN:=zz (HB3a.out.trans (hb4.mono HB3a.out.size))
    clear hown2 hb4
    go_wp2
    exact bodyPost_ret (v:= .tuple #[u2, .bool true]) (by simp [results,Tryz.results41,go_sem]) rfl (by rw [HN.out];exact ⟨u2,rfl,HO.out,HBN.out⟩)
   ·have HN:=zz ((HQ.out v0 rfl).trans ((if_neg (fun q=>hs2 (hsd.trans q.1))).trans (if_neg (fun q=>hk q.2))))
    have hkb:(kdV v0==1)=false:=beq_false_of_ne hk
    generalize kdV v0=kv at p0 hkb
    clear hk hsd
    go_wp2
    exact bodyPost_ret (v:= .tuple #[.slice (some ⟨_,0,none⟩) 0 0, .bool false]) (by simp [results,Tryz.results41,go_sem];rfl) rfl (newCB_no HB2.out (by simp) (by rw [HN.out];rfl) (by rw [HN.out];rfl))
theorem allO_none {ks:List (Option (List Cl))} {k:Nat} (h:ks[k]? =some none):allO ks=none:=by
 induction ks generalizing k with
 |nil=>simp at h
 |cons x xs ih=>
  cases x with
  |none=>rfl
  |some v=>
   cases k with
   |zero=>simp at h
   |succ k=>show (allO xs).map _=none;rw [ih (k:=k) (by simpa using h)];rfl
theorem lenSS_bd {ls:List (List Cl)} (h: ∀x∈ls,okV x=true):lenSS ls≤60*ls.length:=by
 induction ls with
 |nil=>simp [lenSS]
 |cons a t ih=>
  have h1:=((okV_iff _).mp (h a (List.mem_cons_self ..))).1
  have h2:=ih (fun x hx=>h x (List.mem_cons_of_mem _ hx))
  have e:lenSS (a::t)=a.length+lenSS t:=by simp [lenSS]
  rw [e,List.length_cons];omega
theorem infoCSE:(Tryz.prog.info? 26).map (fun i=>(i.zero,i.size,i.bytes))=some (some (.slice none 0 0),1,24):=by kernel_rfl
theorem val_list {v ev:Value} {l:List Cl} {env:List Bd} {j:Nat} (h60:l.length≤60) (hok:l.all okC=true) (he: ∀b∈env,nmL b.1=true∧okV b.2=true) (ih:ValOK v ev l env j) (f t:Nat) (s:ByteArray) (m:Int) (ks:List (Option (List Cl))) (w:World) (hc:l[f]? =some (5,s,m)) (hks:Ev l env m.toNat (f+1) t ks) (hj:t-f≤j+1) (hr:RowC w v l) (hrb:RowB w ev env):
  Calls Tryz.prog 41 #[v, .int .i64 (f:Int),ev] w (NewCB ((combV env (5,s,m) ks).getD []) (combV env (5,s,m) ks).isSome w):=by
 obtain ⟨hfl,he0⟩:=List.getElem?_eq_some_iff.mp hc
 have hokc:okC (5,s,m)=true:=by rw [←he0];exact okC_all hok f hfl
 obtain ⟨dk,hxk⟩:=hks.exs
 have hkl:=hxk.le
 have HKI:=zz (fun w' hr'=>l5Kids_any v l f _ t dk w' hr' h60 (allM_of hok) (amL_some hc) hxk)
 have HIH:=zz ih;have HR:=zz hr;have HRB:=zz hrb;have HX:=zz hks;have HOK:=zz hokc
 have HV:=zz (fun (k:Nat) (x:List Cl) (hk:ks[k]? =some (some x))=>hks.ok hok he _ (List.mem_of_getElem? hk) x rfl)
 have HQ:=zz (show combV env (5,s,m) ks=(allO ks).bind (lisO) by simp [combV])
 obtain ⟨j0,hj0,hy0,hy1,hy2⟩:=info_parts infoCSE
 have hm8:=okC_many hokc
 simp only at hm8
 have hM8:m.toNat≤8:=by omega
 obtain ⟨ao,cap,rfl,h1,h2,h3⟩:=hr
 unfold maxLen at h2
 obtain ⟨b,o,rfl,hbl,cc⟩:=h3.resolve_left (by rintro rfl;simp at hfl)
 obtain ⟨c0,c1,c2⟩:=cc f hfl
 rw [he0] at c0 c1 c2
 simp only at c0 c1 c2
 have e2: ¬b=w.heap.size:=by omega
 clear cc h3 hc hks ih he0 hxk hokc hok he hrb
 have HCP:=zz (CpE.new w 5 s m)
 have hbA:=(Below.refl w.heap.size w).alloc (Nat.le_refl _) (.cells #[.int .i64 5, .string s, .int .i64 m] 44)
 have HBA:=zz hbA
 go_enter Tryz.func41,Tryz.ntmps41
 go_wp2_with fail
 refine (HKI.out _ (HR.out.mono HBA.out)).mono ?_
 rintro e1 w1 ⟨v1,rfl,hown1,hb1⟩
 obtain ⟨hri,hrl⟩:=RowI.of_own hown1
 have hLm:=kidsL_length (amL l) (m:Int).toNat (f+1)
 have HB1:=zz (HBA.out.trans (hb1.mono HBA.out.size))
 have HCP1:=zz (HCP.out.keep hb1)
 have HR1:=zz (HR.out.mono HB1.out)
 have HRB1:=zz (HRB.out.mono HB1.out)
 generalize hL:kidsL (amL l) (f+1) (m:Int).toNat=L at hri hLm
 have HL:=zz hL;clear hL
 obtain ⟨bo,cp,rfl,g1,g2,g3⟩:=hri
 rw [hLm] at g1
 rw [hLm]
 unfold maxLen at g2
 have HG3:=zz g3
 clear g3 hb1 hbA hown1 hrl HCP HBA c0 c1 c2 e2
 generalize w.heap.size=CG at HCP1
 obtain ⟨-,k0,k1,k2⟩:=HCP1.out
 generalize m.toNat=M at hLm g1 HX HL hM8⊢
 have HLIT:=zz (show OwnSS (w1.alloc (.cells #[] 26)) w1.heap.size (.slice (some ⟨w1.heap.size,0,none⟩) 0 0) [] [] from ⟨World.ownsRow_lit (e:=26) (size:=1) (base:=w1.heap.size) w1 #[] 0 (Nat.le_refl _) (by unfold maxLen;omega) rfl,rfl,fun k h=>by simp at h,fun k h=>by simp at h,fun i j h=>by simp at h⟩)
 have HBL:=zz ((Below.refl w1.heap.size w1).alloc (Nat.le_refl _) (.cells #[] 26))
 go_wp2_with fail
 clear k0 k1 k2
 go_loopw [23,24] (fun a i wr=> ∃(k:Nat) (us:List Value) (ls:List (List Cl)),k≤M∧i= .int .i64 (k:Int)∧ls.length=k∧ks.take k=ls.map some∧(∀x∈ls,okV x=true)∧OwnSS wr w1.heap.size a us ls∧Below w1.heap.size w1 wr) (fun _ i _=>M-(intOf i).toNat)
 case atStart=>exact ⟨0,[],[],Nat.zero_le _,rfl,rfl,rfl,fun x hx=>by simp at hx,HLIT.out,HBL.out⟩
 case round=>
  obtain ⟨k,us,ls,hk,rfl,hlk,htk,hov,hown,hb⟩:=hrel
  have HO:=zz hown;have HBR:=zz hb;have HTK:=zz htk;have HOV:=zz hov;have HLK:=zz hlk
  have HBW:=zz (HB1.out.trans (hb.mono HB1.out.size))
  obtain ⟨-,k0,k1,k2⟩:=HCP1.out.keep hb
  have hOR:=hown.row
  rw [hlk] at hOR
  obtain ⟨aa,ac,rfl⟩:=own_shape hOR
  have HOR:=zz hOR
  have hwr:=HBR.out.size
  clear htk hov hown hb hOR hlk
  by_cases hlt:k<M
  ·obtain ⟨gg,gg',x,z0,u0,t0,b0,b0',b0''⟩:=ev_part HX.out k hlt
   obtain ⟨bk,rfl,hbk,hck⟩:=kidE_cell HG3.out (by rw [hLm];omega)
   have q0:wr.cell? ⟨bk,k,none⟩=some (.int .i64 (gg:Int)):=(HBR.out.cell (p:=⟨bk,k,none⟩) hbk).trans (hck k gg (by rw [←HL.out];exact u0))
   have HP:=zz (HIH.out gg gg' x wr t0 (by omega) (HR1.out.mono HBR.out) (HRB1.out.mono HBR.out))
   have HZ0:=zz z0
   clear hck z0 u0 t0 b0 b0' b0''
   go_wp2_with fail
   refine HP.out.mono ?_
   rintro e w3 ⟨u3,rfl,hown3,hb3⟩
   have HB3:=zz (HBW.out.trans (hb3.mono HBW.out.size))
   have hs3:=hb3.size
   cases x with
   |none=>
    have HN:=zz (show combV env (5,s,m) ks=none by rw [HQ.out,allO_none HZ0.out];rfl)
    clear hown3 hb3 k0 k1 k2
    go_wp2
    exact bodyPost_ret (v:= .tuple #[.slice (some ⟨_,0,none⟩) 0 0, .bool false]) (by simp [results,Tryz.results41,go_sem];rfl) rfl (newCB_no HB3.out (by simp) (by rw [HN.out];rfl) (by rw [HN.out];rfl))
   |some vk=>
    have hokv:=HV.out k vk HZ0.out
    have hown3:w3.ownsRow wr.heap.size 44 3 u3 vk.length (flatC vk):=hown3
    obtain ⟨a3,c3,rfl⟩:=own_shape hown3
    have HT2:=zz (show ks.take (k+1)=(ls++[vk]).map some by rw [List.take_add_one,HTK.out,HZ0.out,List.map_append];rfl)
    have HOV2:=zz (show∀x∈ls++[vk],okV x=true from fun x hx=>by
     rw [List.mem_append,List.mem_singleton] at hx
     rcases hx with hx|rfl
     ·exact HOV.out x hx
     ·exact hokv)
    have hown6:=own_belowS HOR.out hb3
    have HO6a:=zz hown6
    go_wp2_with (at_builtin;refine wpList_append_lies _ rfl _ _ 99 rfl w1.heap.size 26 j0 (.slice none 0 0) 1 24 Tryz.underlying99 hj0 hy0 hy1 hy2 rfl (by decide) (.slice aa k ac) k us rfl (HO6a.out.alloc _) ⟨w3.heap.size,0,none⟩ 1 1 [.slice a3 vk.length c3] rfl rfl (World.news_of_block (heap_alloc_new w3 _)) (by simp [Value.oneCell']) (by omega) (by unfold maxLen;omega) (by omega) (by simp;omega) (w3.heap.size+1) (by simp) ?_;intro gq cap' w6 hown' hgrow hat hlt')
    have HN:=zz (HO.out.push (gg:=gq) hb3 hown3 _ hgrow (show w6.ownsRow w1.heap.size 26 1 _ (ls.length+1) _ by rw [HLK.out];exact hown') rfl hat hwr)
    have HB6:=zz (((HBR.out.trans (hb3.mono hwr)).alloc (by omega) (.cells #[.slice a3 vk.length c3] 26)).grown hgrow (by simp;omega) (fun x hx=>(HOR.out.lt x hx).1))
    clear hown3 hgrow hown' hat hb3 hown6
    go_roundw
    case rel=>exact ⟨k+1,us++[.slice a3 vk.length c3],ls++[vk],by omega,by go_num,by rw [List.length_append,HLK.out];rfl,HT2.out,HOV2.out,HN.out,HB6.out⟩
    case measure=>simp [intOf];omega
  ·obtain rfl:k=M:=by omega
   have HKS:=zz (show ks=ls.map some by
    have h:=HTK.out
    rwa [List.take_of_length_le (by rw [HX.out.len];exact Nat.le_refl _)] at h)
   have HN:=zz (show combV env (5,s,m) ks=lisO ls by rw [HQ.out,HKS.out,allO_some];rfl)
   have hbd:=lenSS_bd HOV.out
   have hlk:=HLK.out
   have HLC:=zz (l8List_any _ ls wr HO.out.reads (fun l hl=>okV_short (HOV.out l hl)) (by omega))
   clear hbd
   go_wp2_with fail
   refine HLC.out.mono ?_
   rintro e w7 ⟨u,rfl,hown,hb7⟩
   have HO7:=zz (own_base (base':=w.heap.size) hown (fun g hg=>Nat.le_trans HBW.out.size (hown.lt g hg).1))
   have HB7:=zz (HBW.out.trans (hb7.mono HBW.out.size))
   clear hown hb7
   go_wp2
   exact bodyPost_ret (v:= .tuple #[u, .bool (okV (listV ls))]) (by simp [results,Tryz.results41,go_sem]) rfl (by rw [HN.out,(lisO_one _).1,(lisO_one _).2];exact ⟨u,rfl,HO7.out,HB7.out⟩)
theorem val_call {v ev:Value} {l:List Cl} {env:List Bd} {j:Nat} (h60:l.length≤60) (hok:l.all okC=true) (he: ∀b∈env,nmL b.1=true∧okV b.2=true) (ih:ValOK v ev l env j) (f t:Nat) (s:ByteArray) (m:Int) (ks:List (Option (List Cl))) (w:World) (hc:l[f]? =some (6,s,m)) (hks:Ev l env m.toNat (f+1) t ks) (hj:t-f≤j+1) (hr:RowC w v l) (hrb:RowB w ev env):
  Calls Tryz.prog 41 #[v, .int .i64 (f:Int),ev] w (NewCB ((combV env (6,s,m) ks).getD []) (combV env (6,s,m) ks).isSome w):=by
 obtain ⟨hfl,he0⟩:=List.getElem?_eq_some_iff.mp hc
 have hokc:okC (6,s,m)=true:=by rw [←he0];exact okC_all hok f hfl
 obtain ⟨dk,hxk⟩:=hks.exs
 have hkl:=hxk.le
 have HKI:=zz (fun w' hr'=>l5Kids_any v l f _ t dk w' hr' h60 (allM_of hok) (amL_some hc) hxk)
 have HIH:=zz ih;have HR:=zz hr;have HRB:=zz hrb;have HX:=zz hks;have HOK:=zz hokc
 have HV:=zz (fun (k:Nat) (x:List Cl) (hk:ks[k]? =some (some x))=>hks.ok hok he _ (List.mem_of_getElem? hk) x rfl)
 have HQ:=zz (show combV env (6,s,m) ks=(allO ks).bind (callF s) by simp [combV])
 obtain ⟨j0,hj0,hy0,hy1,hy2⟩:=info_parts infoCSE
 have hm8:=okC_many hokc
 simp only at hm8
 have hM8:m.toNat≤8:=by omega
 obtain ⟨ao,cap,rfl,h1,h2,h3⟩:=hr
 unfold maxLen at h2
 obtain ⟨b,o,rfl,hbl,cc⟩:=h3.resolve_left (by rintro rfl;simp at hfl)
 obtain ⟨c0,c1,c2⟩:=cc f hfl
 rw [he0] at c0 c1 c2
 simp only at c0 c1 c2
 have e2: ¬b=w.heap.size:=by omega
 clear cc h3 hc hks ih he0 hxk hokc hok he hrb
 have HCP:=zz (CpE.new w 6 s m)
 have hbA:=(Below.refl w.heap.size w).alloc (Nat.le_refl _) (.cells #[.int .i64 6, .string s, .int .i64 m] 44)
 have HBA:=zz hbA
 go_enter Tryz.func41,Tryz.ntmps41
 go_wp2_with fail
 refine (HKI.out _ (HR.out.mono HBA.out)).mono ?_
 rintro e1 w1 ⟨v1,rfl,hown1,hb1⟩
 obtain ⟨hri,hrl⟩:=RowI.of_own hown1
 have hLm:=kidsL_length (amL l) (m:Int).toNat (f+1)
 have HB1:=zz (HBA.out.trans (hb1.mono HBA.out.size))
 have HCP1:=zz (HCP.out.keep hb1)
 have HR1:=zz (HR.out.mono HB1.out)
 have HRB1:=zz (HRB.out.mono HB1.out)
 generalize hL:kidsL (amL l) (f+1) (m:Int).toNat=L at hri hLm
 have HL:=zz hL;clear hL
 obtain ⟨bo,cp,rfl,g1,g2,g3⟩:=hri
 rw [hLm] at g1
 rw [hLm]
 unfold maxLen at g2
 have HG3:=zz g3
 clear g3 hb1 hbA hown1 hrl HCP HBA c0 c1 c2 e2
 generalize w.heap.size=CG at HCP1
 obtain ⟨-,k0,k1,k2⟩:=HCP1.out
 generalize m.toNat=M at hLm g1 HX HL hM8⊢
 have HLIT:=zz (show OwnSS (w1.alloc (.cells #[] 26)) w1.heap.size (.slice (some ⟨w1.heap.size,0,none⟩) 0 0) [] [] from ⟨World.ownsRow_lit (e:=26) (size:=1) (base:=w1.heap.size) w1 #[] 0 (Nat.le_refl _) (by unfold maxLen;omega) rfl,rfl,fun k h=>by simp at h,fun k h=>by simp at h,fun i j h=>by simp at h⟩)
 have HBL:=zz ((Below.refl w1.heap.size w1).alloc (Nat.le_refl _) (.cells #[] 26))
 go_wp2_with fail
 clear k0 k1 k2
 go_loopw [23,24] (fun a i wr=> ∃(k:Nat) (us:List Value) (ls:List (List Cl)),k≤M∧i= .int .i64 (k:Int)∧ls.length=k∧ks.take k=ls.map some∧(∀x∈ls,okV x=true)∧OwnSS wr w1.heap.size a us ls∧Below w1.heap.size w1 wr) (fun _ i _=>M-(intOf i).toNat)
 case atStart=>exact ⟨0,[],[],Nat.zero_le _,rfl,rfl,rfl,fun x hx=>by simp at hx,HLIT.out,HBL.out⟩
 case round=>
  obtain ⟨k,us,ls,hk,rfl,hlk,htk,hov,hown,hb⟩:=hrel
  have HO:=zz hown;have HBR:=zz hb;have HTK:=zz htk;have HOV:=zz hov;have HLK:=zz hlk
  have HBW:=zz (HB1.out.trans (hb.mono HB1.out.size))
  obtain ⟨-,k0,k1,k2⟩:=HCP1.out.keep hb
  have hOR:=hown.row
  rw [hlk] at hOR
  obtain ⟨aa,ac,rfl⟩:=own_shape hOR
  have HOR:=zz hOR
  have hwr:=HBR.out.size
  clear htk hov hown hb hOR hlk
  by_cases hlt:k<M
  ·obtain ⟨gg,gg',x,z0,u0,t0,b0,b0',b0''⟩:=ev_part HX.out k hlt
   obtain ⟨bk,rfl,hbk,hck⟩:=kidE_cell HG3.out (by rw [hLm];omega)
   have q0:wr.cell? ⟨bk,k,none⟩=some (.int .i64 (gg:Int)):=(HBR.out.cell (p:=⟨bk,k,none⟩) hbk).trans (hck k gg (by rw [←HL.out];exact u0))
   have HP:=zz (HIH.out gg gg' x wr t0 (by omega) (HR1.out.mono HBR.out) (HRB1.out.mono HBR.out))
   have HZ0:=zz z0
   clear hck z0 u0 t0 b0 b0' b0''
   go_wp2_with fail
   refine HP.out.mono ?_
   rintro e w3 ⟨u3,rfl,hown3,hb3⟩
   have HB3:=zz (HBW.out.trans (hb3.mono HBW.out.size))
   have hs3:=hb3.size
   cases x with
   |none=>
    have HN:=zz (show combV env (6,s,m) ks=none by rw [HQ.out,allO_none HZ0.out];rfl)
    clear hown3 hb3 k0 k1 k2
    go_wp2
    exact bodyPost_ret (v:= .tuple #[.slice (some ⟨_,0,none⟩) 0 0, .bool false]) (by simp [results,Tryz.results41,go_sem];rfl) rfl (newCB_no HB3.out (by simp) (by rw [HN.out];rfl) (by rw [HN.out];rfl))
   |some vk=>
    have hokv:=HV.out k vk HZ0.out
    have hown3:w3.ownsRow wr.heap.size 44 3 u3 vk.length (flatC vk):=hown3
    obtain ⟨a3,c3,rfl⟩:=own_shape hown3
    have HT2:=zz (show ks.take (k+1)=(ls++[vk]).map some by rw [List.take_add_one,HTK.out,HZ0.out,List.map_append];rfl)
    have HOV2:=zz (show∀x∈ls++[vk],okV x=true from fun x hx=>by
     rw [List.mem_append,List.mem_singleton] at hx
     rcases hx with hx|rfl
     ·exact HOV.out x hx
     ·exact hokv)
    have hown6:=own_belowS HOR.out hb3
    have HO6a:=zz hown6
    go_wp2_with (at_builtin;refine wpList_append_lies _ rfl _ _ 99 rfl w1.heap.size 26 j0 (.slice none 0 0) 1 24 Tryz.underlying99 hj0 hy0 hy1 hy2 rfl (by decide) (.slice aa k ac) k us rfl (HO6a.out.alloc _) ⟨w3.heap.size,0,none⟩ 1 1 [.slice a3 vk.length c3] rfl rfl (World.news_of_block (heap_alloc_new w3 _)) (by simp [Value.oneCell']) (by omega) (by unfold maxLen;omega) (by omega) (by simp;omega) (w3.heap.size+1) (by simp) ?_;intro gq cap' w6 hown' hgrow hat hlt')
    have HN:=zz (HO.out.push (gg:=gq) hb3 hown3 _ hgrow (show w6.ownsRow w1.heap.size 26 1 _ (ls.length+1) _ by rw [HLK.out];exact hown') rfl hat hwr)
    have HB6:=zz (((HBR.out.trans (hb3.mono hwr)).alloc (by omega) (.cells #[.slice a3 vk.length c3] 26)).grown hgrow (by simp;omega) (fun x hx=>(HOR.out.lt x hx).1))
    clear hown3 hgrow hown' hat hb3 hown6
    go_roundw
    case rel=>exact ⟨k+1,us++[.slice a3 vk.length c3],ls++[vk],by omega,by go_num,by rw [List.length_append,HLK.out];rfl,HT2.out,HOV2.out,HN.out,HB6.out⟩
    case measure=>simp [intOf];omega
  ·obtain rfl:k=M:=by omega
   have HKS:=zz (show ks=ls.map some by
    have h:=HTK.out
    rwa [List.take_of_length_le (by rw [HX.out.len];exact Nat.le_refl _)] at h)
   have HN:=zz (show combV env (6,s,m) ks=callF s ls by rw [HQ.out,HKS.out,allO_some];rfl)
   have hlk:=HLK.out
   have HLC:=zz (l9Call_any s _ ls wr HO.out.reads HOV.out)
   go_wp2_with fail
   refine HLC.out.mono ?_
   rintro e w7 ⟨u,rfl,hown,hb7⟩
   have HO7:=zz (own_base (base':=w.heap.size) hown (fun g hg=>Nat.le_trans HBW.out.size (hown.lt g hg).1))
   have HB7:=zz (HBW.out.trans (hb7.mono HBW.out.size))
   clear hown hb7
   go_wp2
   exact bodyPost_ret (v:= .tuple #[u, .bool (callOK s ls)]) (by simp [results,Tryz.results41,go_sem]) rfl (by rw [HN.out];exact ⟨u,rfl,HO7.out,HB7.out⟩)
theorem envO_at {env:List Bd} {s:ByteArray}: ∀(k:Nat) (h:k<env.length),(∀q (hq:q<env.length),q<k→env[q].1≠s)→env[k].1=s→envO env s=some env[k].2:=by
 induction env with
 |nil=>intro k h;simp at h
 |cons b bs ih=>
  intro k h hd he
  cases k with
  |zero=>show (if b.1=s then _ else _)=_;rw [if_pos (show b.1=s from he)];rfl
  |succ k=>
   show (if b.1=s then _ else envO bs s)=_
   rw [if_neg (show¬b.1=s from hd 0 (by simp) (by omega))]
   exact ih k (by simpa using h) (fun q hq hlt=>by have:=hd (q+1) (by simpa using hq) (by omega);simpa using this) (by simpa using he)
theorem envO_not {env:List Bd} {s:ByteArray} (h: ∀q (hq:q<env.length),env[q].1≠s):envO env s=none:=by
 induction env with
 |nil=>rfl
 |cons b bs ih=>
  show (if b.1=s then _ else envO bs s)=_
  rw [if_neg (show¬b.1=s from h 0 (by simp))]
  exact ih (fun q hq=>by have:=h (q+1) (by simpa using hq);simpa using this)
theorem val_name {v ev:Value} {l:List Cl} {env:List Bd} {j:Nat} (h60:l.length≤60) (hok:l.all okC=true) (he: ∀b∈env,nmL b.1=true∧okV b.2=true) (ih:ValOK v ev l env j) (f t:Nat) (s:ByteArray) (m:Int) (ks:List (Option (List Cl))) (w:World) (hc:l[f]? =some (4,s,m)) (hks:Ev l env m.toNat (f+1) t ks) (hj:t-f≤j+1) (hr:RowC w v l) (hrb:RowB w ev env):
  Calls Tryz.prog 41 #[v, .int .i64 (f:Int),ev] w (NewCB ((combV env (4,s,m) ks).getD []) (combV env (4,s,m) ks).isSome w):=by
 obtain ⟨hfl,he0⟩:=List.getElem?_eq_some_iff.mp hc
 have hokc:okC (4,s,m)=true:=by rw [←he0];exact okC_all hok f hfl
 obtain rfl:m=0:=by
  have:=hokc
  simp only [okC,cellB,manyB,Bool.and_eq_true] at this
  simpa using this.2
 obtain ⟨dk,hxk⟩:=hks.exs
 have hkl:=hxk.le
 have HKI:=zz (fun w' hr'=>l5Kids_any v l f _ t dk w' hr' h60 (allM_of hok) (amL_some hc) hxk)
 have HIH:=zz ih;have HR:=zz hr;have HRB:=zz hrb;have HX:=zz hks;have HOK:=zz hokc
 have HV:=zz (fun (k:Nat) (x:List Cl) (hk:ks[k]? =some (some x))=>hks.ok hok he _ (List.mem_of_getElem? hk) x rfl)
 have HQ:=zz (show combV env (4,s,0) ks=envO env s by simp [combV])
 have HZ:=zz (fun b hb=>(he b hb).2)
 obtain ⟨i0,hi,hz0,hz1,hz2⟩:=info_parts infoC
 obtain ⟨ao,cap,rfl,h1,h2,h3⟩:=hr
 unfold maxLen at h2
 obtain ⟨b,o,rfl,hbl,cc⟩:=h3.resolve_left (by rintro rfl;simp at hfl)
 obtain ⟨c0,c1,c2⟩:=cc f hfl
 rw [he0] at c0 c1 c2
 simp only at c0 c1 c2
 have e2: ¬b=w.heap.size:=by omega
 have hrb2:=hrb
 obtain ⟨eao,ecap,hev,q1,q2,q3⟩:=hrb2
 subst hev
 unfold maxLen at q2
 have HE3:=zz q3;clear q3
 clear cc h3 hc hks ih he0 hxk hokc hok he hrb
 have HCP:=zz (CpE.new w 4 s 0)
 have hbA:=(Below.refl w.heap.size w).alloc (Nat.le_refl _) (.cells #[.int .i64 4, .string s, .int .i64 0] 44)
 have HBA:=zz hbA
 go_enter Tryz.func41,Tryz.ntmps41
 go_wp2_with fail
 refine (HKI.out _ (HR.out.mono HBA.out)).mono ?_
 rintro e1 w1 ⟨v1,rfl,hown1,hb1⟩
 obtain ⟨hri,hrl⟩:=RowI.of_own hown1
 have hLm:=kidsL_length (amL l) (0:Int).toNat (f+1)
 have HB1:=zz (HBA.out.trans (hb1.mono HBA.out.size))
 have HCP1:=zz (HCP.out.keep hb1)
 have HR1:=zz (HR.out.mono HB1.out)
 have HRB1:=zz (HRB.out.mono HB1.out)
 generalize hL:kidsL (amL l) (f+1) (0:Int).toNat=L at hri hLm
 have HL:=zz hL;clear hL
 obtain ⟨bo,cp,rfl,g1,g2,g3⟩:=hri
 rw [hLm] at g1
 rw [hLm]
 unfold maxLen at g2
 have HG3:=zz g3
 clear g3 hb1 hbA hown1 hrl HCP HBA c0 c1 c2 e2
 generalize w.heap.size=CG at HCP1
 obtain ⟨-,k0,k1,k2⟩:=HCP1.out
 go_wp2_with fail
 clear k0 k1 k2
 go_loopw [10] (fun i wr=> ∃k:Nat,k≤env.length∧i= .int .i64 (k:Int)∧(∀q (h:q<env.length),q<k→env[q].1≠s)∧Below w1.heap.size w1 wr) (fun i _=>env.length-(intOf i).toNat)
 case atStart=>exact ⟨0,Nat.zero_le _,rfl,fun q _ h=>by omega,Below.refl _ _⟩
 case round=>
  obtain ⟨k,hk,rfl,hdf,hb⟩:=hrel
  have HDF:=zz hdf
  have HBR:=zz hb
  have HBW:=zz (HB1.out.trans (hb.mono HB1.out.size))
  obtain ⟨-,k0,k1,k2⟩:=HCP1.out.keep hb
  clear hdf hb
  by_cases hlt:k<env.length
  ·obtain ⟨eb,eo,rfl,hel,cc⟩:=HE3.out.resolve_left (by rintro rfl;simp at hlt)
   obtain ⟨u,c0,c1,hru⟩:=cc k hlt
   have d0:=(HBW.out.cell (p:=⟨eb,_,none⟩) hel).trans c0
   have d1:=(HBW.out.cell (p:=⟨eb,_,none⟩) hel).trans c1
   have hwr:Below wr.heap.size wr wr.drew:=⟨rfl,rfl,rfl,Nat.le_refl _,fun _ _=>rfl⟩
   have HRU:=zz (hru.mono HBW.out)
   have hsz:=((okV_iff _).mp (HZ.out _ (List.getElem_mem hlt))).1
   have HBD:=zz (HBW.out.trans (hwr.mono HBW.out.size))
   have HBDA:=zz (show Below w.heap.size w (wr.alloc (.cells #[] 44)).drew from (HBW.out.alloc HBW.out.size (.cells #[] 44)).trans ⟨rfl,rfl,rfl,Nat.le_refl _,fun _ _=>rfl⟩)
   have HWD:=zz (show Below wr.heap.size wr (wr.alloc (.cells #[] 44)).drew from ((Below.refl _ wr).alloc (Nat.le_refl _) (.cells #[] 44)).trans ⟨rfl,rfl,rfl,Nat.le_refl _,fun _ _=>rfl⟩)
   have hws:=HBW.out.size
   have hne: ¬eb=wr.heap.size:=by omega
   have d2:(wr.alloc (.cells #[] 44)).cell? ⟨eb,eo+k*2+1,none⟩=some u:=(((Below.refl wr.heap.size wr).alloc (Nat.le_refl _) (.cells #[] 44)).cell (p:=⟨eb,_,none⟩) (by show eb<wr.heap.size;omega)).trans d1
   have d3:(wr.drew.alloc (.cells #[] 44)).cell? ⟨eb,eo+k*2+1,none⟩=some u:=d2
   clear cc c0 c1 hru hwr
   by_cases hee:env[k].1=s
   ·have HN:=zz (HQ.out.trans (envO_at k hlt HDF.out hee))
    have ht:(env[k].1.toList==s.toList)=true:=by rw [hee];simp
    have ht2:env[k].1.toList=s.toList:=by rw [hee]
    generalize env[k].1=nk at d0 ht ht2
    generalize env[k].2=lk at HRU HN hsz
    clear hee
    have HL0:=zz (show ((wr.alloc (.cells #[] 44)).drew).ownsRow w.heap.size 44 3 (.slice (some ⟨wr.heap.size,0,none⟩) 0 0) 0 [] from World.ownsRow_lit (e:=44) (size:=3) (base:=w.heap.size) wr #[] 0 hws (by unfold maxLen;omega) rfl)
    clear d1 d3
    go_wp2_with fail
    go_region
    go_wp2_with (at_builtin;refine append_rowC rfl _ _ 26 rfl w.heap.size 44 i0 (.agg #[.int .i64 0, .string ByteArray.empty, .int .i64 0]) 32 Tryz.underlying26 hi hz0 hz1 hz2 (by decide) _ 0 [] rfl HL0.out _ lk rfl (HRU.out.mono HWD.out) (by unfold maxLen;omega) (by omega) (by simp;omega) ?_;intro v6 w6 hown6 hgrow6;have HO:=zz (show w6.ownsRow w.heap.size 44 3 v6 lk.length (flatC lk) by simpa using hown6);have HBN:=zz (HBDA.out.grown hgrow6 HBDA.out.size (fun q hq=>(HL0.out.lt q hq).1));clear hown6 hgrow6)
    exact bodyPost_ret (v:= .tuple #[v6, .bool true]) (by simp [results,Tryz.results41,go_sem]) rfl (by rw [HN.out];exact ⟨_,rfl,HO.out,HBN.out⟩)
   ·have HN2:=zz (show∀q (h:q<env.length),q<k+1→env[q].1≠s from fun q h hm=>by
     by_cases hmi:q=k
     ·subst hmi;exact hee
     ·exact HDF.out q h (by omega))
    have ht:(env[k].1.toList==s.toList)=false:=by
     rw [beq_eq_false_iff_ne,ByteArray.toList_eq,ByteArray.toList_eq]
     intro e;exact hee (ByteArray.ext (by simpa using e))
    generalize env[k].1=nk at d0 ht
    clear hee
    go_wp2_with fail
    go_region
    go_wp2
    go_roundw
    case rel=>exact ⟨k+1,by omega,by go_num,HN2.out,HBR.out.trans ⟨rfl,rfl,rfl,Nat.le_refl _,fun _ _=>rfl⟩⟩
    case measure=>simp [intOf];omega
  ·have HN:=zz (HQ.out.trans (envO_not (fun q hq=>HDF.out q hq (by omega))))
   obtain rfl:k=env.length:=by omega
   clear k0 k1 k2
   go_wp2
   exact bodyPost_ret (v:= .tuple #[.slice (some ⟨_,0,none⟩) 0 0, .bool false]) (by simp [results,Tryz.results41,go_sem];rfl) rfl (newCB_no HBW.out (by simp) (by rw [HN.out];rfl) (by rw [HN.out];rfl))
end Go.Proofs.YthillfgjpalpcaaGreatDoor
