/-
  spec.l10Value: a sign between two values.
-/
import Derived.Test.YthillfgjpalpcaaGreatDoorEvV
set_option linter.unusedVariables false
set_option maxHeartbeats 4000000
set_option maxRecDepth 100000
namespace Go.Proofs.YthillfgjpalpcaaGreatDoor
open Go.RowKit
theorem sign_in {l:List UInt8} (h:0<rankL l):1≤signW l∧signW l≤13:=by
 by_cases q0:l=[124,124]
 ·subst q0;simp [signW]
 by_cases q1:l=[38,38]
 ·subst q1;simp [signW]
 by_cases q2:l=[61,61]
 ·subst q2;simp [signW]
 by_cases q3:l=[33,61]
 ·subst q3;simp [signW]
 by_cases q4:l=[60]
 ·subst q4;simp [signW]
 by_cases q5:l=[60,61]
 ·subst q5;simp [signW]
 by_cases q6:l=[62]
 ·subst q6;simp [signW]
 by_cases q7:l=[62,61]
 ·subst q7;simp [signW]
 by_cases q8:l=[43]
 ·subst q8;simp [signW]
 by_cases q9:l=[45]
 ·subst q9;simp [signW]
 by_cases q10:l=[42]
 ·subst q10;simp [signW]
 by_cases q11:l=[47]
 ·subst q11;simp [signW]
 by_cases q12:l=[37]
 ·subst q12;simp [signW]
 exfalso
 simp [rankL,q0,q1,q2,q3,q4,q5,q6,q7,q8,q9,q10,q11,q12] at h
noncomputable def thenV (x:Option (List Cl)):Option (List Cl):=match x with
 |some b=>if kdV b=3 then some b else none
 |none=>none
theorem combV_and {env:List Bd} {s:ByteArray} (v:List Cl) (x:Option (List Cl)) (h:signW s.data.toList=12):combV env (8,s,2) [some v,x]=if kdV v=3 then (if trueW v=false then some v else thenV x) else none:=by
 simp [combV,h,thenV]
 cases x<;>rfl
theorem combV_or {env:List Bd} {s:ByteArray} (v:List Cl) (x:Option (List Cl)) (h:signW s.data.toList=13):combV env (8,s,2) [some v,x]=if kdV v=3 then (if trueW v=true then some v else thenV x) else none:=by
 simp [combV,h,thenV]
 cases x<;>rfl
theorem combV_bin {env:List Bd} {s:ByteArray} (v:List Cl) (x:Option (List Cl)) (hs:1≤signW s.data.toList∧signW s.data.toList≤11):combV env (8,s,2) [some v,x]=x.bind (binV s v):=by
 have n1: ¬(signW s.data.toList=12∨signW s.data.toList=13):=by omega
 simp [combV,n1]
 cases x<;>rfl
theorem sign_12 {l:List UInt8} (h:signW l=12):l=[38,38]:=by
 unfold signW at h
 split at h<;>simp_all
theorem sign_13 {l:List UInt8} (h:signW l=13):l=[124,124]:=by
 unfold signW at h
 split at h<;>simp_all
theorem val_and {v ev:Value} {l:List Cl} {env:List Bd} {j:Nat} (h60:l.length≤60) (hok:l.all okC=true) (he: ∀b∈env,nmL b.1=true∧okV b.2=true) (ih:ValOK v ev l env j) (f t:Nat) (s:ByteArray) (m:Int) (ks:List (Option (List Cl))) (w:World) (hc:l[f]? =some (8,s,m)) (hks:Ev l env m.toNat (f+1) t ks) (hj:t-f≤j+1) (hr:RowC w v l) (hrb:RowB w ev env) (hs:s.toList=[38,38]):
  Calls Tryz.prog 41 #[v, .int .i64 (f:Int),ev] w (NewCB ((combV env (8,s,m) ks).getD []) (combV env (8,s,m) ks).isSome w):=by
 obtain ⟨hfl,he0⟩:=List.getElem?_eq_some_iff.mp hc
 have hokc:okC (8,s,m)=true:=by rw [←he0];exact okC_all hok f hfl
 obtain rfl:m=2:=by
  have:=hokc
  simp only [okC,cellB,manyB,Bool.and_eq_true] at this
  simpa using this.2
 obtain ⟨dk,hxk⟩:=hks.exs
 have hkl:=hxk.le
 have HKI:=zz (fun w' hr'=>l5Kids_any v l f _ t dk w' hr' h60 (allM_of hok) (amL_some hc) hxk)
 have HIH:=zz ih;have HR:=zz hr;have HRB:=zz hrb;have HX:=zz hks;have HOK:=zz hokc
 have HV:=zz (fun (k:Nat) (x:List Cl) (hk:ks[k]? =some (some x))=>hks.ok hok he _ (List.mem_of_getElem? hk) x rfl)
 obtain ⟨x0,x1,rfl⟩: ∃x0 x1,ks=[x0,x1]:=by
  have:=hks.len
  match ks,this with
  |[x0,x1],_=>exact ⟨x0,x1,rfl⟩
 obtain ⟨gg0,gg0',y0,z0,u0,t0,b0,b0',b0''⟩:=ev_part hks 0 (by decide)
 obtain rfl:x0=y0:=by simpa using z0
 obtain ⟨gg1,gg1',y1,z1,u1,t1,b1,b1',b1''⟩:=ev_part hks 1 (by decide)
 obtain rfl:x1=y1:=by simpa using z1
 have HQ0:=zz (show x0=none→combV env (8,s,2) [x0,x1]=none from fun hv=>by subst hv;simp [combV])
 have hsw:signW s.data.toList=12:=by rw [←ByteArray.toList_eq,hs];rfl
 have HQ:=zz (show∀v,x0=some v→combV env (8,s,2) [x0,x1]=if kdV v=3 then (if trueW v=false then some v else thenV x1) else none from fun v hv=>by rw [hv];exact combV_and v x1 hsw)
 clear hsw
 obtain ⟨ao,cap,rfl,h1,h2,h3⟩:=hr
 unfold maxLen at h2
 obtain ⟨b,o,rfl,hbl,cc⟩:=h3.resolve_left (by rintro rfl;simp at hfl)
 obtain ⟨c0,c1,c2⟩:=cc f hfl
 rw [he0] at c0 c1 c2
 simp only at c0 c1 c2
 have e2: ¬b=w.heap.size:=by omega
 clear cc h3 hc hks ih he0 hxk hokc hok he hrb
 have HCP:=zz (CpE.new w 8 s 2)
 have hbA:=(Below.refl w.heap.size w).alloc (Nat.le_refl _) (.cells #[.int .i64 8, .string s, .int .i64 2] 44)
 have HBA:=zz hbA
 go_enter Tryz.func41,Tryz.ntmps41
 go_wp2_with fail
 refine (HKI.out _ (HR.out.mono HBA.out)).mono ?_
 rintro e1 w1 ⟨v1,rfl,hown1,hb1⟩
 obtain ⟨hri,hrl⟩:=RowI.of_own hown1
 have hLm:=kidsL_length (amL l) (2:Int).toNat (f+1)
 have HB1:=zz (HBA.out.trans (hb1.mono HBA.out.size))
 have HCP1:=zz (HCP.out.keep hb1)
 have HR1:=zz (HR.out.mono HB1.out)
 have HRB1:=zz (HRB.out.mono HB1.out)
 generalize hL:kidsL (amL l) (f+1) (2:Int).toNat=L at hri hLm
 have HL:=zz hL;clear hL
 obtain ⟨bo,cp,rfl,g1,g2,g3⟩:=hri
 rw [hLm] at g1
 rw [hLm]
 unfold maxLen at g2
 have HG3:=zz g3
 clear g3 hb1 hbA hown1 hrl HCP HBA c0 c1 c2 e2
 generalize w.heap.size=CG at HCP1
 obtain ⟨-,k0,k1,k2⟩:=HCP1.out
 obtain ⟨bk,rfl,hbk,hck⟩:=kidE_cell HG3.out (by rw [hLm];decide)
 have q0:=hck 0 gg0 (by rw [←HL.out];exact u0)
 have HP0:=zz (fun w' hr' hb'=>HIH.out gg0 gg0' x0 w' t0 (by omega) hr' hb')
 have q1:=hck 1 gg1 (by rw [←HL.out];exact u1)
 have HP1:=zz (fun w' hr' hb'=>HIH.out gg1 gg1' x1 w' t1 (by omega) hr' hb')
 clear hck z0 u0 t0 b0 b0' b0'' z1 u1 t1 b1 b1' b1''
 go_wp2_with fail
 refine (HP0.out _ HR1.out HRB1.out).mono ?_
 rintro e w2 ⟨u,rfl,hown,hb2⟩
 have HB2:=zz (HB1.out.trans (hb2.mono HB1.out.size))
 have HR2:=zz (HR1.out.mono hb2)
 have HRB2:=zz (HRB1.out.mono hb2)
 have HCP2:=zz (HCP1.out.keep hb2)
 have hbk2:=Nat.lt_of_lt_of_le hbk hb2.size
 have q1:=(hb2.cell (p:=⟨bk,1,none⟩) hbk).trans q1
 obtain ⟨-,k0,k1,k2⟩:=HCP2.out
 clear q0
 cases x0 with
 |none=>
  have HN:=zz (HQ0.out rfl)
  clear hown hb2 hs
  go_wp2
  exact bodyPost_ret (v:= .tuple #[.slice (some ⟨_,0,none⟩) 0 0, .bool false]) (by simp [results,Tryz.results41,go_sem];rfl) rfl (newCB_no HB2.out (by simp) (by rw [HN.out];rfl) (by rw [HN.out];rfl))
 |some v0=>
  have hokv:=HV.out 0 v0 rfl
  obtain ⟨ub,uo,uc,hue,hup,hul,p0,p1,hru⟩:=val_head (l:=v0) hown hokv
  subst hue
  clear hb2
  by_cases hk:kdV v0=3
  ·rw [hk] at p0
   have hHD:=zz (show Below w2.heap.size w2 w2.drew from ⟨rfl,rfl,rfl,Nat.le_refl _,fun _ _=>rfl⟩)
   have htl:((wdV v0).toList==[116,114,117,101])=trueW v0:=by rw [ByteArray.toList_eq];rfl
   cases ht:trueW v0
   ·have HN:=zz ((HQ.out v0 rfl).trans (if_pos hk))
    rw [ht] at htl HN
    have htl2:=htl
    simp only [beq_eq_false_iff_ne,ne_eq] at htl2
    have HO:=zz (own_base (base':=w.heap.size) hown (fun g hg=>Nat.le_trans HB1.out.size (hown.lt g hg).1))
    generalize wdV v0=sv at p1 htl htl2
    clear hk ht hown
    go_wp2_with fail
    go_region
    have HBN:=zz (HB2.out.trans (hHD.out.mono HB2.out.size))
    have HN2:=zz (show combV env (8,s,2) [some v0,x1]=some v0 by rw [HN.out];simp)
    go_wp2
    exact bodyPost_ret (v:= .tuple #[.slice (some ⟨ub,uo,none⟩) v0.length uc, .bool true]) (by simp [results,Tryz.results41,go_sem]) rfl (by rw [HN2.out];exact ⟨_,rfl,HO.out,HBN.out⟩)
   ·have HN:=zz ((HQ.out v0 rfl).trans (if_pos hk))
    rw [ht] at htl HN
    have htl2:=htl
    simp only [beq_iff_eq] at htl2
    have HO:=zz (own_base (base':=w.heap.size) hown (fun g hg=>Nat.le_trans HB1.out.size (hown.lt g hg).1))
    generalize wdV v0=sv at p1 htl htl2
    clear hk ht hown
    go_wp2_with fail
    go_region
    have HBD:=zz (HB2.out.trans (hHD.out.mono HB2.out.size))
    have HN2:=zz (show combV env (8,s,2) [some v0,x1]=thenV x1 by rw [HN.out];simp)
    go_wp2_with fail
    refine (HP1.out _ (HR2.out.mono hHD.out) (HRB2.out.mono hHD.out)).mono ?_
    rintro e w3 ⟨u2,rfl,hown2,hb3⟩
    have HB3:=zz (HBD.out.trans (hb3.mono HBD.out.size))
    clear k0 k1 k2 p0 p1 q1 hb3
    cases x1 with
    |none=>
     have HN3:=zz HN2.out
     clear hown2
     go_wp2
     exact bodyPost_ret (v:= .tuple #[.slice (some ⟨_,0,none⟩) 0 0, .bool false]) (by simp [results,Tryz.results41,go_sem];rfl) rfl (newCB_no HB3.out (by simp) (by rw [HN3.out];rfl) (by rw [HN3.out];rfl))
    |some v1=>
     have hokv1:=HV.out 1 v1 rfl
     obtain ⟨ub1,uo1,uc1,hue1,hup1,hul1,p01,p11,hru1⟩:=val_head (l:=v1) hown2 hokv1
     subst hue1
     by_cases hk1:kdV v1=3
     ·have HN3:=zz (HN2.out.trans (if_pos hk1))
      have HO2:=zz (own_base (base':=w.heap.size) hown2 (fun g hg=>Nat.le_trans HBD.out.size (hown2.lt g hg).1))
      rw [hk1] at p01
      clear hk1 hown2
      go_wp2
      exact bodyPost_ret (v:= .tuple #[.slice (some ⟨ub1,uo1,none⟩) v1.length uc1, .bool true]) (by simp [results,Tryz.results41,go_sem]) rfl (by rw [HN3.out];exact ⟨_,rfl,HO2.out,HB3.out⟩)
     ·have HN3:=zz (HN2.out.trans (if_neg hk1))
      have hkb:(kdV v1 !=3)=true:=bne_iff_ne.mpr hk1
      generalize kdV v1=kv at p01 hkb
      clear hk1 hown2
      go_wp2
      exact bodyPost_ret (v:= .tuple #[.slice (some ⟨_,0,none⟩) 0 0, .bool false]) (by simp [results,Tryz.results41,go_sem];rfl) rfl (newCB_no HB3.out (by simp) (by rw [HN3.out];rfl) (by rw [HN3.out];rfl))
  ·have HN:=zz ((HQ.out v0 rfl).trans (if_neg hk))
   have hkb:(kdV v0 !=3)=true:=bne_iff_ne.mpr hk
   generalize kdV v0=kv at p0 hkb
   clear hk hown
   go_wp2
   exact bodyPost_ret (v:= .tuple #[.slice (some ⟨_,0,none⟩) 0 0, .bool false]) (by simp [results,Tryz.results41,go_sem];rfl) rfl (newCB_no HB2.out (by simp) (by rw [HN.out];rfl) (by rw [HN.out];rfl))
theorem val_or {v ev:Value} {l:List Cl} {env:List Bd} {j:Nat} (h60:l.length≤60) (hok:l.all okC=true) (he: ∀b∈env,nmL b.1=true∧okV b.2=true) (ih:ValOK v ev l env j) (f t:Nat) (s:ByteArray) (m:Int) (ks:List (Option (List Cl))) (w:World) (hc:l[f]? =some (8,s,m)) (hks:Ev l env m.toNat (f+1) t ks) (hj:t-f≤j+1) (hr:RowC w v l) (hrb:RowB w ev env) (hs:s.toList=[124,124]):
  Calls Tryz.prog 41 #[v, .int .i64 (f:Int),ev] w (NewCB ((combV env (8,s,m) ks).getD []) (combV env (8,s,m) ks).isSome w):=by
 obtain ⟨hfl,he0⟩:=List.getElem?_eq_some_iff.mp hc
 have hokc:okC (8,s,m)=true:=by rw [←he0];exact okC_all hok f hfl
 obtain rfl:m=2:=by
  have:=hokc
  simp only [okC,cellB,manyB,Bool.and_eq_true] at this
  simpa using this.2
 obtain ⟨dk,hxk⟩:=hks.exs
 have hkl:=hxk.le
 have HKI:=zz (fun w' hr'=>l5Kids_any v l f _ t dk w' hr' h60 (allM_of hok) (amL_some hc) hxk)
 have HIH:=zz ih;have HR:=zz hr;have HRB:=zz hrb;have HX:=zz hks;have HOK:=zz hokc
 have HV:=zz (fun (k:Nat) (x:List Cl) (hk:ks[k]? =some (some x))=>hks.ok hok he _ (List.mem_of_getElem? hk) x rfl)
 obtain ⟨x0,x1,rfl⟩: ∃x0 x1,ks=[x0,x1]:=by
  have:=hks.len
  match ks,this with
  |[x0,x1],_=>exact ⟨x0,x1,rfl⟩
 obtain ⟨gg0,gg0',y0,z0,u0,t0,b0,b0',b0''⟩:=ev_part hks 0 (by decide)
 obtain rfl:x0=y0:=by simpa using z0
 obtain ⟨gg1,gg1',y1,z1,u1,t1,b1,b1',b1''⟩:=ev_part hks 1 (by decide)
 obtain rfl:x1=y1:=by simpa using z1
 have HQ0:=zz (show x0=none→combV env (8,s,2) [x0,x1]=none from fun hv=>by subst hv;simp [combV])
 have hsw:signW s.data.toList=13:=by rw [←ByteArray.toList_eq,hs];rfl
 have HQ:=zz (show∀v,x0=some v→combV env (8,s,2) [x0,x1]=if kdV v=3 then (if trueW v=true then some v else thenV x1) else none from fun v hv=>by rw [hv];exact combV_or v x1 hsw)
 clear hsw
 obtain ⟨ao,cap,rfl,h1,h2,h3⟩:=hr
 unfold maxLen at h2
 obtain ⟨b,o,rfl,hbl,cc⟩:=h3.resolve_left (by rintro rfl;simp at hfl)
 obtain ⟨c0,c1,c2⟩:=cc f hfl
 rw [he0] at c0 c1 c2
 simp only at c0 c1 c2
 have e2: ¬b=w.heap.size:=by omega
 clear cc h3 hc hks ih he0 hxk hokc hok he hrb
 have HCP:=zz (CpE.new w 8 s 2)
 have hbA:=(Below.refl w.heap.size w).alloc (Nat.le_refl _) (.cells #[.int .i64 8, .string s, .int .i64 2] 44)
 have HBA:=zz hbA
 go_enter Tryz.func41,Tryz.ntmps41
 go_wp2_with fail
 refine (HKI.out _ (HR.out.mono HBA.out)).mono ?_
 rintro e1 w1 ⟨v1,rfl,hown1,hb1⟩
 obtain ⟨hri,hrl⟩:=RowI.of_own hown1
 have hLm:=kidsL_length (amL l) (2:Int).toNat (f+1)
 have HB1:=zz (HBA.out.trans (hb1.mono HBA.out.size))
 have HCP1:=zz (HCP.out.keep hb1)
 have HR1:=zz (HR.out.mono HB1.out)
 have HRB1:=zz (HRB.out.mono HB1.out)
 generalize hL:kidsL (amL l) (f+1) (2:Int).toNat=L at hri hLm
 have HL:=zz hL;clear hL
 obtain ⟨bo,cp,rfl,g1,g2,g3⟩:=hri
 rw [hLm] at g1
 rw [hLm]
 unfold maxLen at g2
 have HG3:=zz g3
 clear g3 hb1 hbA hown1 hrl HCP HBA c0 c1 c2 e2
 generalize w.heap.size=CG at HCP1
 obtain ⟨-,k0,k1,k2⟩:=HCP1.out
 obtain ⟨bk,rfl,hbk,hck⟩:=kidE_cell HG3.out (by rw [hLm];decide)
 have q0:=hck 0 gg0 (by rw [←HL.out];exact u0)
 have HP0:=zz (fun w' hr' hb'=>HIH.out gg0 gg0' x0 w' t0 (by omega) hr' hb')
 have q1:=hck 1 gg1 (by rw [←HL.out];exact u1)
 have HP1:=zz (fun w' hr' hb'=>HIH.out gg1 gg1' x1 w' t1 (by omega) hr' hb')
 clear hck z0 u0 t0 b0 b0' b0'' z1 u1 t1 b1 b1' b1''
 go_wp2_with fail
 refine (HP0.out _ HR1.out HRB1.out).mono ?_
 rintro e w2 ⟨u,rfl,hown,hb2⟩
 have HB2:=zz (HB1.out.trans (hb2.mono HB1.out.size))
 have HR2:=zz (HR1.out.mono hb2)
 have HRB2:=zz (HRB1.out.mono hb2)
 have HCP2:=zz (HCP1.out.keep hb2)
 have hbk2:=Nat.lt_of_lt_of_le hbk hb2.size
 have q1:=(hb2.cell (p:=⟨bk,1,none⟩) hbk).trans q1
 obtain ⟨-,k0,k1,k2⟩:=HCP2.out
 clear q0
 cases x0 with
 |none=>
  have HN:=zz (HQ0.out rfl)
  clear hown hb2 hs
  go_wp2
  exact bodyPost_ret (v:= .tuple #[.slice (some ⟨_,0,none⟩) 0 0, .bool false]) (by simp [results,Tryz.results41,go_sem];rfl) rfl (newCB_no HB2.out (by simp) (by rw [HN.out];rfl) (by rw [HN.out];rfl))
 |some v0=>
  have hokv:=HV.out 0 v0 rfl
  obtain ⟨ub,uo,uc,hue,hup,hul,p0,p1,hru⟩:=val_head (l:=v0) hown hokv
  subst hue
  clear hb2
  by_cases hk:kdV v0=3
  ·rw [hk] at p0
   have hHD:=zz (show Below w2.heap.size w2 w2.drew from ⟨rfl,rfl,rfl,Nat.le_refl _,fun _ _=>rfl⟩)
   have htl:((wdV v0).toList==[116,114,117,101])=trueW v0:=by rw [ByteArray.toList_eq];rfl
   cases ht:trueW v0
   ·have HN:=zz ((HQ.out v0 rfl).trans (if_pos hk))
    rw [ht] at htl HN
    have htl2:=htl
    simp only [beq_eq_false_iff_ne,ne_eq] at htl2
    have HO:=zz (own_base (base':=w.heap.size) hown (fun g hg=>Nat.le_trans HB1.out.size (hown.lt g hg).1))
    generalize wdV v0=sv at p1 htl htl2
    clear hk ht hown
    go_wp2_with fail
    go_region
    have HBD:=zz (HB2.out.trans (hHD.out.mono HB2.out.size))
    have HN2:=zz (show combV env (8,s,2) [some v0,x1]=thenV x1 by rw [HN.out];simp)
    go_wp2_with fail
    refine (HP1.out _ (HR2.out.mono hHD.out) (HRB2.out.mono hHD.out)).mono ?_
    rintro e w3 ⟨u2,rfl,hown2,hb3⟩
    have HB3:=zz (HBD.out.trans (hb3.mono HBD.out.size))
    clear k0 k1 k2 p0 p1 q1 hb3
    cases x1 with
    |none=>
     have HN3:=zz HN2.out
     clear hown2
     go_wp2
     exact bodyPost_ret (v:= .tuple #[.slice (some ⟨_,0,none⟩) 0 0, .bool false]) (by simp [results,Tryz.results41,go_sem];rfl) rfl (newCB_no HB3.out (by simp) (by rw [HN3.out];rfl) (by rw [HN3.out];rfl))
    |some v1=>
     have hokv1:=HV.out 1 v1 rfl
     obtain ⟨ub1,uo1,uc1,hue1,hup1,hul1,p01,p11,hru1⟩:=val_head (l:=v1) hown2 hokv1
     subst hue1
     by_cases hk1:kdV v1=3
     ·have HN3:=zz (HN2.out.trans (if_pos hk1))
      have HO2:=zz (own_base (base':=w.heap.size) hown2 (fun g hg=>Nat.le_trans HBD.out.size (hown2.lt g hg).1))
      rw [hk1] at p01
      clear hk1 hown2
      go_wp2
      exact bodyPost_ret (v:= .tuple #[.slice (some ⟨ub1,uo1,none⟩) v1.length uc1, .bool true]) (by simp [results,Tryz.results41,go_sem]) rfl (by rw [HN3.out];exact ⟨_,rfl,HO2.out,HB3.out⟩)
     ·have HN3:=zz (HN2.out.trans (if_neg hk1))
      have hkb:(kdV v1 !=3)=true:=bne_iff_ne.mpr hk1
      generalize kdV v1=kv at p01 hkb
      clear hk1 hown2
      go_wp2
      exact bodyPost_ret (v:= .tuple #[.slice (some ⟨_,0,none⟩) 0 0, .bool false]) (by simp [results,Tryz.results41,go_sem];rfl) rfl (newCB_no HB3.out (by simp) (by rw [HN3.out];rfl) (by rw [HN3.out];rfl))
   ·have HN:=zz ((HQ.out v0 rfl).trans (if_pos hk))
    rw [ht] at htl HN
    have htl2:=htl
    simp only [beq_iff_eq] at htl2
    have HO:=zz (own_base (base':=w.heap.size) hown (fun g hg=>Nat.le_trans HB1.out.size (hown.lt g hg).1))
    generalize wdV v0=sv at p1 htl htl2
    clear hk ht hown
    go_wp2_with fail
    go_region
    have HBN:=zz (HB2.out.trans (hHD.out.mono HB2.out.size))
    have HN2:=zz (show combV env (8,s,2) [some v0,x1]=some v0 by rw [HN.out];simp)
    go_wp2
    exact bodyPost_ret (v:= .tuple #[.slice (some ⟨ub,uo,none⟩) v0.length uc, .bool true]) (by simp [results,Tryz.results41,go_sem]) rfl (by rw [HN2.out];exact ⟨_,rfl,HO.out,HBN.out⟩)
  ·have HN:=zz ((HQ.out v0 rfl).trans (if_neg hk))
   have hkb:(kdV v0 !=3)=true:=bne_iff_ne.mpr hk
   generalize kdV v0=kv at p0 hkb
   clear hk hown
   go_wp2
   exact bodyPost_ret (v:= .tuple #[.slice (some ⟨_,0,none⟩) 0 0, .bool false]) (by simp [results,Tryz.results41,go_sem];rfl) rfl (newCB_no HB2.out (by simp) (by rw [HN.out];rfl) (by rw [HN.out];rfl))
theorem val_binary {v ev:Value} {l:List Cl} {env:List Bd} {j:Nat} (h60:l.length≤60) (hok:l.all okC=true) (he: ∀b∈env,nmL b.1=true∧okV b.2=true) (ih:ValOK v ev l env j) (f t:Nat) (s:ByteArray) (m:Int) (ks:List (Option (List Cl))) (w:World) (hc:l[f]? =some (8,s,m)) (hks:Ev l env m.toNat (f+1) t ks) (hj:t-f≤j+1) (hr:RowC w v l) (hrb:RowB w ev env) (hs:1≤signW s.data.toList∧signW s.data.toList≤11):
  Calls Tryz.prog 41 #[v, .int .i64 (f:Int),ev] w (NewCB ((combV env (8,s,m) ks).getD []) (combV env (8,s,m) ks).isSome w):=by
 obtain ⟨hfl,he0⟩:=List.getElem?_eq_some_iff.mp hc
 have hokc:okC (8,s,m)=true:=by rw [←he0];exact okC_all hok f hfl
 obtain rfl:m=2:=by
  have:=hokc
  simp only [okC,cellB,manyB,Bool.and_eq_true] at this
  simpa using this.2
 obtain ⟨dk,hxk⟩:=hks.exs
 have hkl:=hxk.le
 have HKI:=zz (fun w' hr'=>l5Kids_any v l f _ t dk w' hr' h60 (allM_of hok) (amL_some hc) hxk)
 have HIH:=zz ih;have HR:=zz hr;have HRB:=zz hrb;have HX:=zz hks;have HOK:=zz hokc
 have HV:=zz (fun (k:Nat) (x:List Cl) (hk:ks[k]? =some (some x))=>hks.ok hok he _ (List.mem_of_getElem? hk) x rfl)
 obtain ⟨x0,x1,rfl⟩: ∃x0 x1,ks=[x0,x1]:=by
  have:=hks.len
  match ks,this with
  |[x0,x1],_=>exact ⟨x0,x1,rfl⟩
 obtain ⟨gg0,gg0',y0,z0,u0,t0,b0,b0',b0''⟩:=ev_part hks 0 (by decide)
 obtain rfl:x0=y0:=by simpa using z0
 obtain ⟨gg1,gg1',y1,z1,u1,t1,b1,b1',b1''⟩:=ev_part hks 1 (by decide)
 obtain rfl:x1=y1:=by simpa using z1
 have HQ0:=zz (show x0=none→combV env (8,s,2) [x0,x1]=none from fun hv=>by subst hv;simp [combV])
 have HQ:=zz (show∀v,x0=some v→combV env (8,s,2) [x0,x1]=x1.bind (binV s v) from fun v hv=>by rw [hv];exact combV_bin v x1 hs)
 have f1: ¬s.toList=[38,38]:=by rw [ByteArray.toList_eq];intro h;rw [h] at hs;exact absurd hs (by decide)
 have f2: ¬s.toList=[124,124]:=by rw [ByteArray.toList_eq];intro h;rw [h] at hs;exact absurd hs (by decide)
 have f3:(s.toList==[38,38])=false:=beq_false_of_ne f1
 have f4:(s.toList==[124,124])=false:=beq_false_of_ne f2
 obtain ⟨ao,cap,rfl,h1,h2,h3⟩:=hr
 unfold maxLen at h2
 obtain ⟨b,o,rfl,hbl,cc⟩:=h3.resolve_left (by rintro rfl;simp at hfl)
 obtain ⟨c0,c1,c2⟩:=cc f hfl
 rw [he0] at c0 c1 c2
 simp only at c0 c1 c2
 have e2: ¬b=w.heap.size:=by omega
 clear cc h3 hc hks ih he0 hxk hokc hok he hrb
 have HCP:=zz (CpE.new w 8 s 2)
 have hbA:=(Below.refl w.heap.size w).alloc (Nat.le_refl _) (.cells #[.int .i64 8, .string s, .int .i64 2] 44)
 have HBA:=zz hbA
 go_enter Tryz.func41,Tryz.ntmps41
 go_wp2_with fail
 refine (HKI.out _ (HR.out.mono HBA.out)).mono ?_
 rintro e1 w1 ⟨v1,rfl,hown1,hb1⟩
 obtain ⟨hri,hrl⟩:=RowI.of_own hown1
 have hLm:=kidsL_length (amL l) (2:Int).toNat (f+1)
 have HB1:=zz (HBA.out.trans (hb1.mono HBA.out.size))
 have HCP1:=zz (HCP.out.keep hb1)
 have HR1:=zz (HR.out.mono HB1.out)
 have HRB1:=zz (HRB.out.mono HB1.out)
 generalize hL:kidsL (amL l) (f+1) (2:Int).toNat=L at hri hLm
 have HL:=zz hL;clear hL
 obtain ⟨bo,cp,rfl,g1,g2,g3⟩:=hri
 rw [hLm] at g1
 rw [hLm]
 unfold maxLen at g2
 have HG3:=zz g3
 clear g3 hb1 hbA hown1 hrl HCP HBA c0 c1 c2 e2
 generalize w.heap.size=CG at HCP1
 obtain ⟨-,k0,k1,k2⟩:=HCP1.out
 obtain ⟨bk,rfl,hbk,hck⟩:=kidE_cell HG3.out (by rw [hLm];decide)
 have q0:=hck 0 gg0 (by rw [←HL.out];exact u0)
 have HP0:=zz (fun w' hr' hb'=>HIH.out gg0 gg0' x0 w' t0 (by omega) hr' hb')
 have q1:=hck 1 gg1 (by rw [←HL.out];exact u1)
 have HP1:=zz (fun w' hr' hb'=>HIH.out gg1 gg1' x1 w' t1 (by omega) hr' hb')
 clear hck z0 u0 t0 b0 b0' b0'' z1 u1 t1 b1 b1' b1''
 go_wp2_with fail
 refine (HP0.out _ HR1.out HRB1.out).mono ?_
 rintro e w2 ⟨u,rfl,hown,hb2⟩
 have HB2:=zz (HB1.out.trans (hb2.mono HB1.out.size))
 have HR2:=zz (HR1.out.mono hb2)
 have HRB2:=zz (HRB1.out.mono hb2)
 have HCP2:=zz (HCP1.out.keep hb2)
 have hbk2:=Nat.lt_of_lt_of_le hbk hb2.size
 have q1:=(hb2.cell (p:=⟨bk,1,none⟩) hbk).trans q1
 obtain ⟨-,k0,k1,k2⟩:=HCP2.out
 clear q0
 cases x0 with
 |none=>
  have HN:=zz (HQ0.out rfl)
  clear hown hb2
  go_wp2
  exact bodyPost_ret (v:= .tuple #[.slice (some ⟨_,0,none⟩) 0 0, .bool false]) (by simp [results,Tryz.results41,go_sem];rfl) rfl (newCB_no HB2.out (by simp) (by rw [HN.out];rfl) (by rw [HN.out];rfl))
 |some v0=>
  have hokv:=HV.out 0 v0 rfl
  obtain ⟨ub,uo,uc,hue,hup,hul,p0,p1,hru⟩:=val_head (l:=v0) hown hokv
  subst hue
  clear hb2 hown
  have HRU:=zz hru
  go_wp2_with fail
  refine (HP1.out _ HR2.out HRB2.out).mono ?_
  rintro e w3 ⟨u2,rfl,hown2,hb3⟩
  have HB3:=zz (HB2.out.trans (hb3.mono HB2.out.size))
  have HRU3:=zz (HRU.out.mono hb3)
  obtain ⟨-,k0,k1,k2⟩:=HCP2.out.keep hb3
  clear p0 p1 q1 hb3
  cases x1 with
  |none=>
   have HN3:=zz (HQ.out v0 rfl)
   clear hown2
   go_wp2
   exact bodyPost_ret (v:= .tuple #[.slice (some ⟨_,0,none⟩) 0 0, .bool false]) (by simp [results,Tryz.results41,go_sem];rfl) rfl (newCB_no HB3.out (by simp) (by rw [HN3.out];rfl) (by rw [HN3.out];rfl))
  |some v1=>
   have hokv1:=HV.out 1 v1 rfl
   have HN3:=zz (HQ.out v0 rfl)
   have HBI:=zz (binary_any s _ u2 v0 v1 w3 HRU3.out (RowC.of_own hown2).1 hokv hokv1 hs)
   have HBL:=zz HB3.out
   obtain ⟨ub1,uo1,uc1,hue1,-,-,-,-,-⟩:=val_head (l:=v1) hown2 hokv1
   subst hue1
   clear hown2
   go_wp2_with fail
   refine HBI.out.mono ?_
   rintro e w4 ⟨u4,rfl,hown4,hb4⟩
   have HO:=zz (own_base (base':=w.heap.size) hown4 (fun g hg=>Nat.le_trans HB3.out.size (hown4.lt g hg).1))
   have HBN:=zz (HB3.out.trans (hb4.mono HB3.out.size))
   clear hown4 hb4
   go_wp2
   exact bodyPost_ret (v:= .tuple #[u4, .bool (binV s v0 v1).isSome]) (by simp [results,Tryz.results41,go_sem]) rfl (by rw [HN3.out];exact ⟨u4,rfl,HO.out,HBN.out⟩)
end Go.Proofs.YthillfgjpalpcaaGreatDoor
