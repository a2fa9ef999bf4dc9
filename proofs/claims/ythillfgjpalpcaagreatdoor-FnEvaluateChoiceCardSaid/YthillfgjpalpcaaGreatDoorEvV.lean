/-
  spec.l10Value: its base; numbers, texts and truths.
-/
import Derived.Test.YthillfgjpalpcaaGreatDoorBin
set_option linter.unusedVariables false
set_option maxHeartbeats 4000000
set_option maxRecDepth 100000
namespace Go.Proofs.YthillfgjpalpcaaGreatDoor
open Go.RowKit
theorem ev_part {l:List Cl} {env:List Bd} {m f t:Nat} {ks:List (Option (List Cl))} (h:Ev l env m f t ks) (k:Nat) (hk:k<m):
  ∃g g' x,ks[k]? =some x∧(kidsL (amL l) f m)[k]? =some g∧Ev l env 1 g g' [x]∧f≤g∧g<g'∧g'≤t:=by
 obtain ⟨g,g',x,x1,x2,x3,x4⟩:=h.at k hk
 obtain ⟨_,hx⟩:=x2.exs
 obtain ⟨_,hy⟩:=x3.exs
 obtain ⟨_,hz⟩:=x4.exs
 obtain ⟨_,h0⟩:=h.exs
 obtain ⟨k',g2,d0,d1,d2,e1,e2,-⟩:=kid_at h0 k hk
 obtain ⟨rfl,-⟩:=hx.uniq e2
 have l1:=hx.le;have l2:=hy.le;have l3:=hz.le
 exact ⟨g,g',x,x1,e1,x3,by omega,by omega,by omega⟩
theorem kidE_cell {w:World} {bo:Option Addr} {L:List Nat} (h:L=[]∨ ∃b,bo=some ⟨b,0,none⟩∧b<w.heap.size∧ ∀k (h:k<L.length),w.cell? ⟨b,k,none⟩=some (.int .i64 (L[k]:Int))) (hl:0<L.length):
  ∃b,bo=some ⟨b,0,none⟩∧b<w.heap.size∧ ∀(k g:Nat),L[k]? =some g→w.cell? ⟨b,k,none⟩=some (.int .i64 (g:Int)):=by
 obtain ⟨b,hb,hlt,hc⟩:=h.resolve_left (by rintro rfl;simp at hl)
 refine ⟨b,hb,hlt,fun k g hg=> ?_⟩
 obtain ⟨hk,he⟩:=List.getElem?_eq_some_iff.mp hg
 rw [hc k hk,he]
def CpE (w:World) (g:Nat) (k:Int) (s:ByteArray) (m:Int):Prop:=g<w.heap.size∧w.cell? ⟨g,0,none⟩=some (.int .i64 k)∧w.cell? ⟨g,1,none⟩=some (.string s)∧w.cell? ⟨g,2,none⟩=some (.int .i64 m)
theorem CpE.keep {w w':World} {g:Nat} {k m:Int} {s:ByteArray} (h:CpE w g k s m) (hb:Below w.heap.size w w'):CpE w' g k s m:=by
 obtain ⟨h0,h1,h2,h3⟩:=h
 exact ⟨Nat.lt_of_lt_of_le h0 hb.size,(hb.cell (p:=⟨g,0,none⟩) h0).trans h1,(hb.cell (p:=⟨g,1,none⟩) h0).trans h2,(hb.cell (p:=⟨g,2,none⟩) h0).trans h3⟩
theorem CpE.new (w:World) (k:Int) (s:ByteArray) (m:Int):CpE (w.alloc (.cells #[.int .i64 k, .string s, .int .i64 m] 44)) w.heap.size k s m:=by
 have h:=heap_alloc_new w (.cells #[.int .i64 k, .string s, .int .i64 m] 44)
 refine ⟨by simp, ?_, ?_, ?_⟩<;>(rw [cell_of_row _ _ _ _ _ (0,0) h];rfl)
def ValOK (v ev:Value) (l:List Cl) (env:List Bd) (j:Nat):Prop:= ∀(f t:Nat) (x:Option (List Cl)) (w:World),Ev l env 1 f t [x]→t-f≤j→RowC w v l→RowB w ev env→
 Calls Tryz.prog 41 #[v, .int .i64 (f:Int),ev] w (NewCB (x.getD []) x.isSome w)
theorem val_head {w':World} {base:Nat} {u:Value} {l:List Cl} (ho:w'.ownsRow base 44 3 u l.length (flatC l)) (hok:okV l=true): ∃b o cap,u= .slice (some ⟨b,o,none⟩) l.length cap∧(0:Int)<(l.length:Int)∧b<w'.heap.size∧w'.cell? ⟨b,o,none⟩=some (.int .i64 (kdV l))∧w'.cell? ⟨b,o+1,none⟩=some (.string (wdV l))∧RowC w' u l:=by
 have hr:=(RowC.of_own ho).1
 obtain ⟨b,o,cap,rfl,h1,h2,h3,-⟩:=hr.headE (okV_len hok).1
 exact ⟨b,o,cap,rfl,by have:=(okV_len hok).1;omega,h1,h2,h3,hr⟩
theorem val_leaf1 {v ev:Value} {l:List Cl} {env:List Bd} {j:Nat} (h60:l.length≤60) (hok:l.all okC=true) (he: ∀b∈env,nmL b.1=true∧okV b.2=true) (ih:ValOK v ev l env j) (f t:Nat) (s:ByteArray) (m:Int) (ks:List (Option (List Cl))) (w:World) (hc:l[f]? =some (1,s,m)) (hks:Ev l env m.toNat (f+1) t ks) (hj:t-f≤j+1) (hr:RowC w v l) (hrb:RowB w ev env):
  Calls Tryz.prog 41 #[v, .int .i64 (f:Int),ev] w (NewCB ((combV env (1,s,m) ks).getD []) (combV env (1,s,m) ks).isSome w):=by
 obtain ⟨hfl,he0⟩:=List.getElem?_eq_some_iff.mp hc
 have hokc:okC (1,s,m)=true:=by rw [←he0];exact okC_all hok f hfl
 obtain rfl:m=0:=by
  have:=hokc
  simp only [okC,cellB,manyB,Bool.and_eq_true] at this
  simpa using this.2
 obtain ⟨dk,hxk⟩:=hks.exs
 have hkl:=hxk.le
 have HKI:=zz (fun w' hr'=>l5Kids_any v l f _ t dk w' hr' h60 (allM_of hok) (amL_some hc) hxk)
 have HIH:=zz ih;have HR:=zz hr;have HRB:=zz hrb;have HX:=zz hks;have HOK:=zz hokc
 have HV:=zz (fun (k:Nat) (x:List Cl) (hk:ks[k]? =some (some x))=>hks.ok hok he _ (List.mem_of_getElem? hk) x rfl)
 have HQ:=zz (show combV env (1,s,0) ks=some [(1,s,0)] by simp [combV])
 obtain ⟨ao,cap,rfl,h1,h2,h3⟩:=hr
 unfold maxLen at h2
 obtain ⟨b,o,rfl,hbl,cc⟩:=h3.resolve_left (by rintro rfl;simp at hfl)
 obtain ⟨c0,c1,c2⟩:=cc f hfl
 rw [he0] at c0 c1 c2
 simp only at c0 c1 c2
 have e2: ¬b=w.heap.size:=by omega
 clear cc h3 hc hks ih he0 hxk hokc hok he hrb
 have HCP:=zz (CpE.new w 1 s 0)
 have hbA:=(Below.refl w.heap.size w).alloc (Nat.le_refl _) (.cells #[.int .i64 1, .string s, .int .i64 0] 44)
 have HBA:=zz hbA
 go_enter Tryz.func41,Tryz.ntmps41
 go_wp2_with fail
 refine (HKI.out _ (HR.out.mono HBA.out)).mono ?_
 rintro e1 w1 ⟨v1,rfl,hown1,hb1⟩
 obtain ⟨hri,hrl⟩:=RowI.of_own hown1
 have hLm:=kidsL_length (amL l) (0:Int).toNat (f+1)
 have HB1:=zz (HBA.out.trans (hb1.mono HBA.out.size))
 have HCP1:=zz (HCP.out.keep hb1)
 have HR1:=zz (HR.out.mono HB1.out)
 have HRB1:=zz (HRB.out.mono HB1.out)
 generalize hL:kidsL (amL l) (f+1) (0:Int).toNat=L at hri hLm
 have HL:=zz hL;clear hL
 obtain ⟨bo,cp,rfl,g1,g2,g3⟩:=hri
 rw [hLm] at g1
 rw [hLm]
 unfold maxLen at g2
 have HG3:=zz g3
 clear g3 hb1 hbA hown1 hrl HCP HBA c0 c1 c2 e2
 generalize w.heap.size=CG at HCP1
 obtain ⟨-,k0,k1,k2⟩:=HCP1.out
 have HO:=zz (own_lit1 w w1 1 0 s HB1.out)
 go_wp2
 exact bodyPost_ret (v:= .tuple #[.slice (some ⟨w1.heap.size,0,none⟩) 1 1, .bool true]) (by simp [results,Tryz.results41,go_sem]) rfl ⟨_,by rw [HQ.out];rfl,by rw [HQ.out];exact HO.out,HB1.out.alloc HB1.out.size _⟩
theorem val_leaf2 {v ev:Value} {l:List Cl} {env:List Bd} {j:Nat} (h60:l.length≤60) (hok:l.all okC=true) (he: ∀b∈env,nmL b.1=true∧okV b.2=true) (ih:ValOK v ev l env j) (f t:Nat) (s:ByteArray) (m:Int) (ks:List (Option (List Cl))) (w:World) (hc:l[f]? =some (2,s,m)) (hks:Ev l env m.toNat (f+1) t ks) (hj:t-f≤j+1) (hr:RowC w v l) (hrb:RowB w ev env):
  Calls Tryz.prog 41 #[v, .int .i64 (f:Int),ev] w (NewCB ((combV env (2,s,m) ks).getD []) (combV env (2,s,m) ks).isSome w):=by
 obtain ⟨hfl,he0⟩:=List.getElem?_eq_some_iff.mp hc
 have hokc:okC (2,s,m)=true:=by rw [←he0];exact okC_all hok f hfl
 obtain rfl:m=0:=by
  have:=hokc
  simp only [okC,cellB,manyB,Bool.and_eq_true] at this
  simpa using this.2
 obtain ⟨dk,hxk⟩:=hks.exs
 have hkl:=hxk.le
 have HKI:=zz (fun w' hr'=>l5Kids_any v l f _ t dk w' hr' h60 (allM_of hok) (amL_some hc) hxk)
 have HIH:=zz ih;have HR:=zz hr;have HRB:=zz hrb;have HX:=zz hks;have HOK:=zz hokc
 have HV:=zz (fun (k:Nat) (x:List Cl) (hk:ks[k]? =some (some x))=>hks.ok hok he _ (List.mem_of_getElem? hk) x rfl)
 have HQ:=zz (show combV env (2,s,0) ks=some [(2,s,0)] by simp [combV])
 obtain ⟨ao,cap,rfl,h1,h2,h3⟩:=hr
 unfold maxLen at h2
 obtain ⟨b,o,rfl,hbl,cc⟩:=h3.resolve_left (by rintro rfl;simp at hfl)
 obtain ⟨c0,c1,c2⟩:=cc f hfl
 rw [he0] at c0 c1 c2
 simp only at c0 c1 c2
 have e2: ¬b=w.heap.size:=by omega
 clear cc h3 hc hks ih he0 hxk hokc hok he hrb
 have HCP:=zz (CpE.new w 2 s 0)
 have hbA:=(Below.refl w.heap.size w).alloc (Nat.le_refl _) (.cells #[.int .i64 2, .string s, .int .i64 0] 44)
 have HBA:=zz hbA
 go_enter Tryz.func41,Tryz.ntmps41
 go_wp2_with fail
 refine (HKI.out _ (HR.out.mono HBA.out)).mono ?_
 rintro e1 w1 ⟨v1,rfl,hown1,hb1⟩
 obtain ⟨hri,hrl⟩:=RowI.of_own hown1
 have hLm:=kidsL_length (amL l) (0:Int).toNat (f+1)
 have HB1:=zz (HBA.out.trans (hb1.mono HBA.out.size))
 have HCP1:=zz (HCP.out.keep hb1)
 have HR1:=zz (HR.out.mono HB1.out)
 have HRB1:=zz (HRB.out.mono HB1.out)
 generalize hL:kidsL (amL l) (f+1) (0:Int).toNat=L at hri hLm
 have HL:=zz hL;clear hL
 obtain ⟨bo,cp,rfl,g1,g2,g3⟩:=hri
 rw [hLm] at g1
 rw [hLm]
 unfold maxLen at g2
 have HG3:=zz g3
 clear g3 hb1 hbA hown1 hrl HCP HBA c0 c1 c2 e2
 generalize w.heap.size=CG at HCP1
 obtain ⟨-,k0,k1,k2⟩:=HCP1.out
 have HO:=zz (own_lit1 w w1 2 0 s HB1.out)
 go_wp2
 exact bodyPost_ret (v:= .tuple #[.slice (some ⟨w1.heap.size,0,none⟩) 1 1, .bool true]) (by simp [results,Tryz.results41,go_sem]) rfl ⟨_,by rw [HQ.out];rfl,by rw [HQ.out];exact HO.out,HB1.out.alloc HB1.out.size _⟩
theorem val_leaf3 {v ev:Value} {l:List Cl} {env:List Bd} {j:Nat} (h60:l.length≤60) (hok:l.all okC=true) (he: ∀b∈env,nmL b.1=true∧okV b.2=true) (ih:ValOK v ev l env j) (f t:Nat) (s:ByteArray) (m:Int) (ks:List (Option (List Cl))) (w:World) (hc:l[f]? =some (3,s,m)) (hks:Ev l env m.toNat (f+1) t ks) (hj:t-f≤j+1) (hr:RowC w v l) (hrb:RowB w ev env):
  Calls Tryz.prog 41 #[v, .int .i64 (f:Int),ev] w (NewCB ((combV env (3,s,m) ks).getD []) (combV env (3,s,m) ks).isSome w):=by
 obtain ⟨hfl,he0⟩:=List.getElem?_eq_some_iff.mp hc
 have hokc:okC (3,s,m)=true:=by rw [←he0];exact okC_all hok f hfl
 obtain rfl:m=0:=by
  have:=hokc
  simp only [okC,cellB,manyB,Bool.and_eq_true] at this
  simpa using this.2
 obtain ⟨dk,hxk⟩:=hks.exs
 have hkl:=hxk.le
 have HKI:=zz (fun w' hr'=>l5Kids_any v l f _ t dk w' hr' h60 (allM_of hok) (amL_some hc) hxk)
 have HIH:=zz ih;have HR:=zz hr;have HRB:=zz hrb;have HX:=zz hks;have HOK:=zz hokc
 have HV:=zz (fun (k:Nat) (x:List Cl) (hk:ks[k]? =some (some x))=>hks.ok hok he _ (List.mem_of_getElem? hk) x rfl)
 have HQ:=zz (show combV env (3,s,0) ks=some [(3,s,0)] by simp [combV])
 obtain ⟨ao,cap,rfl,h1,h2,h3⟩:=hr
 unfold maxLen at h2
 obtain ⟨b,o,rfl,hbl,cc⟩:=h3.resolve_left (by rintro rfl;simp at hfl)
 obtain ⟨c0,c1,c2⟩:=cc f hfl
 rw [he0] at c0 c1 c2
 simp only at c0 c1 c2
 have e2: ¬b=w.heap.size:=by omega
 clear cc h3 hc hks ih he0 hxk hokc hok he hrb
 have HCP:=zz (CpE.new w 3 s 0)
 have hbA:=(Below.refl w.heap.size w).alloc (Nat.le_refl _) (.cells #[.int .i64 3, .string s, .int .i64 0] 44)
 have HBA:=zz hbA
 go_enter Tryz.func41,Tryz.ntmps41
 go_wp2_with fail
 refine (HKI.out _ (HR.out.mono HBA.out)).mono ?_
 rintro e1 w1 ⟨v1,rfl,hown1,hb1⟩
 obtain ⟨hri,hrl⟩:=RowI.of_own hown1
 have hLm:=kidsL_length (amL l) (0:Int).toNat (f+1)
 have HB1:=zz (HBA.out.trans (hb1.mono HBA.out.size))
 have HCP1:=zz (HCP.out.keep hb1)
 have HR1:=zz (HR.out.mono HB1.out)
 have HRB1:=zz (HRB.out.mono HB1.out)
 generalize hL:kidsL (amL l) (f+1) (0:Int).toNat=L at hri hLm
 have HL:=zz hL;clear hL
 obtain ⟨bo,cp,rfl,g1,g2,g3⟩:=hri
 rw [hLm] at g1
 rw [hLm]
 unfold maxLen at g2
 have HG3:=zz g3
 clear g3 hb1 hbA hown1 hrl HCP HBA c0 c1 c2 e2
 generalize w.heap.size=CG at HCP1
 obtain ⟨-,k0,k1,k2⟩:=HCP1.out
 have HO:=zz (own_lit1 w w1 3 0 s HB1.out)
 go_wp2
 exact bodyPost_ret (v:= .tuple #[.slice (some ⟨w1.heap.size,0,none⟩) 1 1, .bool true]) (by simp [results,Tryz.results41,go_sem]) rfl ⟨_,by rw [HQ.out];rfl,by rw [HQ.out];exact HO.out,HB1.out.alloc HB1.out.size _⟩
end Go.Proofs.YthillfgjpalpcaaGreatDoor
