/-
  Drawn values, often bent: spec.l20Value.
-/
import Derived.Test.YthillfgjpalpcaaGreatDoorFracDraw
import Derived.Test.YthillfgjpalpcaaGreatDoorBaseE
set_option linter.unusedVariables false
set_option maxHeartbeats 8000000
set_option maxRecDepth 100000
namespace Go.Proofs.YthillfgjpalpcaaGreatDoor
open Go.RowKit
def nmC (l:List Cl):Nat:=l.countP fun c=>decide (0<c.2.2)
theorem nmC_append (a b:List Cl):nmC (a++b)=nmC a+nmC b:=List.countP_append
theorem nmC_one (c:Cl):nmC [c]≤1:=by unfold nmC;rw [List.countP_cons,List.countP_nil];split<;>omega
theorem nmC_leaf (c:Cl) (h:c.2.2≤0):nmC [c]=0:=by unfold nmC;rw [List.countP_cons,List.countP_nil,if_neg (by simp;omega)]
def kv:Nat→Nat
 |0=>20
 |d+1=>20+3*kv d
def cv:Nat→Nat
 |0=>1
 |d+1=>if d=0 then 1 else 1+3*cv d
theorem cv_le (d:Nat) (h:d≤5):cv d≤400:=by
 have:d=0∨d=1∨d=2∨d=3∨d=4∨d=5:=by omega
 rcases this with rfl|rfl|rfl|rfl|rfl|rfl<;>decide
theorem cv_pos (d:Nat):1≤cv d:=by
 cases d with
 |zero=>simp [cv]
 |succ d=>rw [cv];split<;>omega
def ValD (R p K C:Nat) (n:Int) (w:World) (e:Ending) (w':World):Prop:=
 ∃(v:Value) (l:List Cl),e= .returned v∧w'.ownsRow w.heap.size 44 3 v l.length (flatC l)∧(∀c∈l,c.2.1.size≤60)∧1≤l.length∧(l.length≤C+1∧(n<1→l.length≤C)∧3*nmC l+1≤C)∧Rdm w' R (p+K)∧w.grownBy w' (some R)
theorem RowC_litV (w:World) (k m:Int) (s:ByteArray):RowC (w.alloc (.cells #[.int .i64 k, .string s, .int .i64 m] 44)) (.slice (some ⟨w.heap.size,0,none⟩) 1 1) [(k,s,m)]:=by
 refine ⟨some ⟨w.heap.size,0,none⟩,1,rfl,by simp,by unfold maxLen;omega, .inr ⟨w.heap.size,0,rfl,by simp,fun j hj=> ?_⟩⟩
 obtain rfl:j=0:=by simpa using hj
 exact ⟨(cell_of_row (w.alloc (.cells #[.int .i64 k, .string s, .int .i64 m] 44)) w.heap.size 0 _ _ (0,0) (heap_alloc_new w _)).trans rfl,(cell_of_row (w.alloc (.cells #[.int .i64 k, .string s, .int .i64 m] 44)) w.heap.size 1 _ _ (0,0) (heap_alloc_new w _)).trans rfl,(cell_of_row (w.alloc (.cells #[.int .i64 k, .string s, .int .i64 m] 44)) w.heap.size 2 _ _ (0,0) (heap_alloc_new w _)).trans rfl⟩
theorem grown_ownV {w a b:World} {R:Nat} {row:Option Nat} (h:w.grownBy a (some R)) (hg:a.grownBy b row) (hr: ∀q,row=some q→w.heap.size≤q):w.grownBy b (some R):=
 ⟨hg.os.trans h.os,hg.tape.trans h.tape,hg.output.trans h.output,Nat.le_trans h.size hg.size,fun k hk hn=>by
  rw [hg.block k (by have:=h.size;omega) (fun e=>by have:=hr k e.symm;omega)]
  exact h.block k hk hn⟩
theorem grown_setc {w a:World} {R g:Nat} (h:w.grownBy a (some R)) (hg:w.heap.size≤g) (j:Nat) (u:Value):w.grownBy (a.setCell ⟨g,j,none⟩ u) (some R):=
 ⟨h.os,h.tape,h.output,by have:=h.size;simpa [World.setCell] using this,fun k hk hn=>by rw [Below.heap_setCell _ _ _ _ (show k≠g by omega)];exact h.block k hk hn⟩
theorem grown_belowV {w a b:World} {R:Nat} (h:w.grownBy a (some R)) (hb:Below a.heap.size a b):w.grownBy b (some R):=
 ⟨hb.os.trans h.os,hb.tape.trans h.tape,hb.output.trans h.output,Nat.le_trans h.size hb.size,fun k hk hn=>by
  rw [hb.block k (by have:=h.size;omega)];exact h.block k hk hn⟩
theorem Rdm.setc {w:World} {R p g:Nat} (h:Rdm w R p) (hg:R<g) (j:Nat) (u:Value):Rdm (w.setCell ⟨g,j,none⟩ u) R p:=
 h.kept (row:=some g) ⟨rfl,rfl,rfl,by simp [World.setCell],fun k hk hn=>Below.heap_setCell _ _ _ _ (fun e=>hn (by rw [e]))⟩ (fun k hk=>by cases hk;exact hg)
theorem Rdm.below {w a:World} {R p:Nat} (h:Rdm w R p) (hb:Below w.heap.size w a):Rdm a R p:=
 h.kept (row:=none) ⟨hb.os,hb.tape,hb.output,hb.size,fun i hi _=>hb.block i hi⟩ (by simp)
theorem own_some {w:World} {base n:Nat} {T:TypeId} {v:Value} {xs:List Value} (h:w.ownsRow base T 3 v n xs) (hn:1≤n): ∃g cap,v= .slice (some ⟨g,0,none⟩) n cap:=by
 rcases h.2 with ⟨-,h0⟩|⟨g,cap,cur,rfl,-⟩
 ·omega
 ·exact ⟨g,cap,rfl⟩
theorem own_shapeV {w:World} {base n:Nat} {T:TypeId} {v:Value} {xs:List Value} (h:w.ownsRow base T 3 v n xs): ∃a c,v= .slice a n c:=by
 rcases h.2 with ⟨rfl,h0⟩|⟨g,cap,cur,rfl,-⟩
 ·exact ⟨none,0,by rw [h0]⟩
 ·exact ⟨_,_,rfl⟩
theorem flatC_consV (a:Cl) (t:List Cl):flatC (a::t)= .int .i64 a.1:: .string a.2.1:: .int .i64 a.2.2::flatC t:=by simp [flatC]
theorem bend_word {wb:World} {base g n c:Nat} {l:List Cl} (h:wb.ownsRow base 44 3 (.slice (some ⟨g,0,none⟩) n c) n (flatC l)) (hn:n=l.length) (hl:1≤l.length) (hs: ∀d∈l,d.2.1.size≤60):
  (wb.setCell ⟨g,1,none⟩ (.string ⟨#[49,47,50]⟩)).ownsRow base 44 3 (.slice (some ⟨g,0,none⟩) n c) (l.set 0 ((l[0]'hl).1,⟨#[49,47,50]⟩,(l[0]'hl).2.2)).length (flatC (l.set 0 ((l[0]'hl).1,⟨#[49,47,50]⟩,(l[0]'hl).2.2)))∧
  (∀d∈l.set 0 ((l[0]'hl).1,⟨#[49,47,50]⟩,(l[0]'hl).2.2),d.2.1.size≤60)∧(l.set 0 ((l[0]'hl).1,⟨#[49,47,50]⟩,(l[0]'hl).2.2)).length=l.length∧nmC (l.set 0 ((l[0]'hl).1,⟨#[49,47,50]⟩,(l[0]'hl).2.2))≤nmC l:=by
 subst hn
 cases l with
 |nil=>simp at hl
 |cons a t=>
  have h1:=(h.stored 1 (.string ⟨#[49,47,50]⟩)).1
  rw [flatC_consV] at h1
  refine ⟨by rw [List.set_cons_zero,flatC_consV];simpa using h1, ?_,by simp, ?_⟩
  ·intro d hd
   rw [List.set_cons_zero] at hd
   rcases List.mem_cons.mp hd with rfl|hd
   ·show (⟨#[49,47,50]⟩:ByteArray).size≤60
    decide
   ·exact hs d (by simp [hd])
  ·simp only [List.set_cons_zero,List.getElem_cons_zero,nmC,List.countP_cons];exact Nat.le_refl _
theorem bend_cell {wb:World} {base g n c:Nat} {l:List Cl} (h:wb.ownsRow base 44 3 (.slice (some ⟨g,0,none⟩) n c) n (flatC l)) (hn:n=l.length) (hl:1≤l.length) (hs: ∀d∈l,d.2.1.size≤60):
  (((wb.setCell ⟨g,0,none⟩ (.int .i64 4)).setCell ⟨g,1,none⟩ (.string ⟨#[97]⟩)).setCell ⟨g,2,none⟩ (.int .i64 0)).ownsRow base 44 3 (.slice (some ⟨g,0,none⟩) n c) (l.set 0 (4,⟨#[97]⟩,0)).length (flatC (l.set 0 (4,⟨#[97]⟩,0)))∧
  (∀d∈l.set 0 (4,⟨#[97]⟩,0),d.2.1.size≤60)∧(l.set 0 (4,⟨#[97]⟩,0)).length=l.length∧nmC (l.set 0 (4,⟨#[97]⟩,0))≤nmC l:=by
 subst hn
 cases l with
 |nil=>simp at hl
 |cons a t=>
  have h1:=(((h.stored 0 (.int .i64 4)).1.stored 1 (.string ⟨#[97]⟩)).1.stored 2 (.int .i64 0)).1
  rw [flatC_consV] at h1
  refine ⟨by rw [List.set_cons_zero,flatC_consV];simpa using h1, ?_,by simp, ?_⟩
  ·intro d hd
   rw [List.set_cons_zero] at hd
   rcases List.mem_cons.mp hd with rfl|hd
   ·show (⟨#[97]⟩:ByteArray).size≤60
    decide
   ·exact hs d (by simp [hd])
  ·simp only [List.set_cons_zero,nmC,List.countP_cons];simp
theorem bend_more {w8:World} {base:Nat} {v:Value} {l:List Cl} (h:w8.ownsRow base 44 3 v (l.length+[((3:Int),(⟨#[116,114,117,101]⟩:ByteArray),(0:Int))].length) (flatC l++flatC [(3,⟨#[116,114,117,101]⟩,0)])) (hs: ∀d∈l,d.2.1.size≤60):
  w8.ownsRow base 44 3 v (l++[((3:Int),(⟨#[116,114,117,101]⟩:ByteArray),(0:Int))]).length (flatC (l++[(3,⟨#[116,114,117,101]⟩,0)]))∧
  (∀d∈l++[((3:Int),(⟨#[116,114,117,101]⟩:ByteArray),(0:Int))],d.2.1.size≤60)∧(l++[((3:Int),(⟨#[116,114,117,101]⟩:ByteArray),(0:Int))]).length=l.length+1∧nmC (l++[((3:Int),(⟨#[116,114,117,101]⟩:ByteArray),(0:Int))])≤nmC l:=by
 refine ⟨by rw [flatC_append,List.length_append];exact h, ?_,by simp,by rw [nmC_append,nmC_leaf _ (Int.le_refl 0)];omega⟩
 intro d hd
 rw [List.mem_append,List.mem_singleton] at hd
 rcases hd with hd|rfl
 ·exact hs d hd
 ·show (⟨#[116,114,117,101]⟩:ByteArray).size≤60
  decide
theorem val_txt (m:Nat) (h:m<4): ∃t:ByteArray,t.size≤60∧(#[Value.string ⟨#[]⟩, .string ⟨#[97]⟩, .string ⟨#[65,98]⟩, .string ⟨#[122,122]⟩]:Array Value)[m]? =some (.string t):=by
 match m,h with
 |0,_=>exact ⟨_,by decide,rfl⟩
 |1,_=>exact ⟨_,by decide,rfl⟩
 |2,_=>exact ⟨_,by decide,rfl⟩
 |3,_=>exact ⟨_,by decide,rfl⟩
theorem val_tru (m:Nat) (h:m<2): ∃t:ByteArray,t.size≤60∧(#[Value.string ⟨#[116,114,117,101]⟩, .string ⟨#[102,97,108,115,101]⟩]:Array Value)[m]? =some (.string t):=by
 match m,h with
 |0,_=>exact ⟨_,by decide,rfl⟩
 |1,_=>exact ⟨_,by decide,rfl⟩
theorem val_knd (m:Nat) (h:m<5): ∃t:Nat,t≤3∧(#[Value.int .i64 0, .int .i64 0, .int .i64 1, .int .i64 2, .int .i64 3]:Array Value)[m]? =some (.int .i64 (t:Int)):=by
 match m,h with
 |0,_=>exact ⟨0,by decide,rfl⟩
 |1,_=>exact ⟨0,by decide,rfl⟩
 |2,_=>exact ⟨1,by decide,rfl⟩
 |3,_=>exact ⟨2,by decide,rfl⟩
 |4,_=>exact ⟨3,by decide,rfl⟩
def ValAny (deep:Nat):Prop:= ∀(R p:Nat) (n:Int) (w:World),p+kv deep<1073741824→0≤n→n≤1000→Rdm w R p→
 Calls Tryz.prog 78 #[.pointer (some ⟨R,0,none⟩), .int .i64 (deep:Int), .int .i64 n] w (ValD R p (kv deep) (cv deep) n w)
theorem value_step (d:Nat) (hd5:d≤5) (ih:1≤d→ValAny d):ValAny (d+1):=by
 intro R p n w hp hn0 hn1 h
 have HLT:=zz h.lt
 have HKV:=zz (show kv (d+1)=20+3*kv d from rfl)
 have hcp:=cv_pos (d+1)
 have HCP:=zz hcp
 obtain ⟨i0,hi,hz0,hz1,hz2⟩:=info_parts infoC
 have hp20:p+20<1073741824:=by have:=HKV.out;omega
 clear hcp
 go_enter Tryz.func78,Tryz.ntmps78
 go_wp2_with fail
 refine (pick_any R p 5 _ (by omega) ((h.kept (World.grownBy_alloc w (.cells #[] 44) none) (by simp)).kept (World.grownBy_alloc (w.alloc (.cells #[] 44)) _ none) (by simp))).mono ?_
 rintro e w1 ⟨j,rfl,hj0,hj1,-,hr1,hg1,hs1⟩
 have hj2:=hj1 (by omega)
 obtain ⟨j1,rfl⟩:=Int.eq_ofNat_of_zero_le hj0
 obtain ⟨k,hk,hlit⟩:=val_knd j1 (by omega)
 have hcell:w1.cell? ⟨w.heap.size+1,j1,none⟩=some (.int .i64 (k:Int)):=by
  have hq:=lit_cell (w:=w.alloc (.cells #[] 44)) (by have:=HLT.out;simp;omega) hg1 hlit
  simpa using hq
 have HG1:=zz (grown_trans (grown_alloc (World.grownBy_alloc w (.cells #[] 44) (some R)) _) hg1)
 clear hj1 hg1 hs1 hlit
 have hk4:k=0∨k=1∨k=2∨k=3:=by omega
 clear hk
 rcases hk4 with rfl|rfl|rfl|rfl
 ·go_wp2_with fail
  refine (fraction_any R (p+1) 0 _ (by omega) (by omega) (by omega) hr1).mono ?_
  rintro e w2 ⟨ft,fb,rfl,hr2,hg2⟩
  have HG2:=zz (grown_trans HG1.out hg2)
  clear hg2 hcell
  go_wp2_with fail
  refine (fractionText_spec ft fb _).mono ?_
  rintro e w9 ⟨rfl,hb9⟩
  have hr9:=hr2.below hb9
  have HG9:=zz (grown_belowV HG2.out hb9)
  have ht:(⟨(textF ft fb).toArray⟩:ByteArray).size≤60:=by
   have:=textF_len60 ft fb
   show (textF ft fb).toArray.size≤60
   simpa using this
  generalize (⟨(textF ft fb).toArray⟩:ByteArray)=t at ht⊢
  clear hb9 hr2 HG2
  go_wp2_with fail
  obtain ⟨lx,hlx⟩: ∃l:List Cl,l=[((1:Int),t,(0:Int))]:=⟨_,rfl⟩
  have hl1:1≤lx.length:=by rw [hlx];exact Nat.le_refl _
  have HSH:=zz (show∀c∈lx,c.2.1.size≤60 from fun c hc=>by rw [hlx,List.mem_singleton] at hc;subst hc;exact ht)
  have hlc:lx.length=1:=by rw [hlx];rfl
  have hnm:nmC lx=0:=by rw [hlx];exact nmC_leaf _ (Int.le_refl 0)
  have HO:=zz (show (w9.alloc (.cells #[.int .i64 1, .string t, .int .i64 0] 44)).ownsRow w.heap.size 44 3 (.slice (some ⟨w9.heap.size,0,none⟩) 1 1) lx.length (flatC lx) by rw [hlx];exact World.ownsRow_lit (base:=w.heap.size) w9 #[.int .i64 1, .string t, .int .i64 0] 1 HG9.out.size (by unfold maxLen;omega) rfl)
  have HR:=zz (hr9.kept (World.grownBy_alloc w9 (.cells #[.int .i64 1, .string t, .int .i64 0] 44) none) (by simp))
  have HG:=zz (grown_alloc HG9.out (.cells #[.int .i64 1, .string t, .int .i64 0] 44))
  clear hlx hr9
  generalize w9.alloc (.cells #[.int .i64 1, .string t, .int .i64 0] 44)=wz at HO HR HG⊢
  generalize w9.heap.size=gx at HO⊢
  go_wp2_with fail
  refine (odd_any R (p+1+8) n _ (by omega) (by omega) (by omega) HR.out).mono ?_
  rintro e wa ⟨bo,rfl,hbo,hra,hga,-⟩
  have HBO:=zz hbo;clear hbo
  have HOA:=zz (HO.out.kept hga (.inr (by intro he;have:=(HO.out.lt _ he).1;have:=HLT.out;omega)))
  have HRA:=zz hra;have HGA:=zz (grown_trans HG.out hga)
  clear hra hga
  cases bo with
  |false=>
   go_wp2
   go_ret
   exact ⟨_,lx,rfl,HOA.out,HSH.out,hl1,⟨by have h2:=(show lx.length≤cv (d+1)∧3*nmC lx+1≤cv (d+1) from by have:=HCP.out;omega);omega,fun _=>by have h2:=(show lx.length≤cv (d+1)∧3*nmC lx+1≤cv (d+1) from by have:=HCP.out;omega);omega,by have h2:=(show lx.length≤cv (d+1)∧3*nmC lx+1≤cv (d+1) from by have:=HCP.out;omega);omega⟩,HRA.out.mono (by have:=HKV.out;omega),HGA.out⟩
  |true=>
   go_wp2_with fail
   refine (pick_any R (p+1+8+1) 3 _ (by omega) HRA.out).mono ?_
   rintro e wb ⟨m,rfl,hm0,hm1,-,hrb,hgb,-⟩
   have hm2:=hm1 (by omega)
   have HOB:=zz (HOA.out.kept hgb (.inr (by intro he;have:=(HOA.out.lt _ he).1;have:=HLT.out;omega)))
   have HRB:=zz (hrb.mono (show _≤p+1+8+1+1 by omega));have HGB:=zz (grown_trans HGA.out hgb)
   clear hrb hgb hm1
   have h3:m=0∨m=1∨m=2:=by omega
   clear hm0 hm2
   have HON:=zz (show wb.ownsRow w.heap.size 44 3 (.slice (some ⟨gx,0,none⟩) 1 1) 1 (flatC lx) from (by have h:=HOB.out;rw [hlc] at h;exact h))
   have hgw:=(HOB.out.lt gx rfl).1
   have hgR:R<gx:=by have:=HLT.out;omega
   have hcc: ∀j,j<3→ ∃u,wb.cell? ⟨gx,j,none⟩=some u:=fun j hj=>by
    rw [HON.out.cellAt j (by omega),List.getElem?_eq_getElem (by have:=HON.out.1;omega)];exact ⟨_,rfl⟩
   obtain ⟨y0,e0⟩:=hcc 0 (by omega)
   obtain ⟨y1,e1⟩:=hcc 1 (by omega)
   obtain ⟨y2,e2⟩:=hcc 2 (by omega)
   have z0:=HON.out.frozenAt 0
   have z1:=HON.out.frozenAt 1
   have z2:=HON.out.frozenAt 2
   clear hcc
   rcases h3 with rfl|rfl|rfl
   ·have HB1:=zz (bend_word HON.out hlc.symm hl1 HSH.out)
    have HRX:=zz (HRB.out.setc hgR 1 (.string ⟨#[49,47,50]⟩))
    have HGX:=zz (grown_setc HGB.out hgw 1 (.string ⟨#[49,47,50]⟩))
    go_wp2
    go_ret
    exact ⟨_,_,rfl,HB1.out.1,HB1.out.2.1,by have:=HB1.out.2.2.1;omega,⟨by have h1:=HB1.out.2.2;have h2:=(show lx.length≤cv (d+1)∧3*nmC lx+1≤cv (d+1) from by have:=HCP.out;omega);omega,fun hn=>(by have:=HBO.out hn;cases this),by have h1:=HB1.out.2.2;have h2:=(show lx.length≤cv (d+1)∧3*nmC lx+1≤cv (d+1) from by have:=HCP.out;omega);omega⟩,HRX.out.mono (by have:=HKV.out;omega),HGX.out⟩
   ·have HB1:=zz (bend_cell HON.out hlc.symm hl1 HSH.out)
    have HRX:=zz (((HRB.out.setc hgR 0 (.int .i64 4)).setc hgR 1 (.string ⟨#[97]⟩)).setc hgR 2 (.int .i64 0))
    have HGX:=zz (grown_setc (grown_setc (grown_setc HGB.out hgw 0 (.int .i64 4)) hgw 1 (.string ⟨#[97]⟩)) hgw 2 (.int .i64 0))
    go_wp2
    go_ret
    exact ⟨_,_,rfl,HB1.out.1,HB1.out.2.1,by have:=HB1.out.2.2.1;omega,⟨by have h1:=HB1.out.2.2;have h2:=(show lx.length≤cv (d+1)∧3*nmC lx+1≤cv (d+1) from by have:=HCP.out;omega);omega,fun hn=>(by have:=HBO.out hn;cases this),by have h1:=HB1.out.2.2;have h2:=(show lx.length≤cv (d+1)∧3*nmC lx+1≤cv (d+1) from by have:=HCP.out;omega);omega⟩,HRX.out.mono (by have:=HKV.out;omega),HGX.out⟩
   ·have hbw:w.heap.size≤wb.heap.size:=HGB.out.size
    go_wp2_with (at_builtin;go_loud (refine append_rowC rfl _ _ 26 rfl w.heap.size 44 i0 (.agg #[.int .i64 0, .string ByteArray.empty, .int .i64 0]) 32 Tryz.underlying26 hi hz0 hz1 hz2 (by decide) (.slice (some ⟨gx,0,none⟩) 1 1) lx.length (flatC lx) rfl (HOB.out.alloc _) _ [(3,⟨#[116,114,117,101]⟩,0)] rfl (RowC_litV _ _ _ _) (by unfold maxLen;simp;omega) (by simp;omega) (by simp;omega) ?_;intro v8 w8 hown8 hgrow8;have HB1:=zz (bend_more hown8 HSH.out);have HRX:=zz ((HRB.out.kept (World.grownBy_alloc wb (.cells #[.int .i64 3, .string ⟨#[116,114,117,101]⟩, .int .i64 0] 44) none) (by simp)).kept hgrow8 (fun k hk=>(by have hk':gx=k:=(by simpa [Value.ownBlock] using hk);omega)));have HGX:=zz (grown_ownV (grown_alloc HGB.out (.cells #[.int .i64 3, .string ⟨#[116,114,117,101]⟩, .int .i64 0] 44)) hgrow8 (fun x hx=>(HOB.out.lt x hx).1));clear hown8 hgrow8))
    go_wp2
    go_ret
    exact ⟨_,_,rfl,HB1.out.1,HB1.out.2.1,by have:=HB1.out.2.2.1;omega,⟨by have h1:=HB1.out.2.2;have h2:=(show lx.length≤cv (d+1)∧3*nmC lx+1≤cv (d+1) from by have:=HCP.out;omega);omega,fun hn=>(by have:=HBO.out hn;cases this),by have h1:=HB1.out.2.2;have h2:=(show lx.length≤cv (d+1)∧3*nmC lx+1≤cv (d+1) from by have:=HCP.out;omega);omega⟩,HRX.out.mono (by have:=HKV.out;omega),HGX.out⟩
 ·go_wp2_with fail
  refine (pick_any R (p+1) 4 _ (by omega) (hr1.kept (World.grownBy_alloc w1 _ none) (by simp))).mono ?_
  rintro e w9 ⟨i,rfl,hi0,hi1,-,hr9,hg9,-⟩
  have hi2:=hi1 (by omega)
  obtain ⟨i1,rfl⟩:=Int.eq_ofNat_of_zero_le hi0
  obtain ⟨t,ht,hlit⟩:=val_txt i1 (by omega)
  have hcell9:=lit_cell hr1.lt hg9 hlit
  have HG9:=zz (grown_trans (grown_alloc HG1.out _) hg9)
  clear hi1 hg9 hlit
  go_wp2_with fail
  clear hcell9 hcell
  obtain ⟨lx,hlx⟩: ∃l:List Cl,l=[((2:Int),t,(0:Int))]:=⟨_,rfl⟩
  have hl1:1≤lx.length:=by rw [hlx];exact Nat.le_refl _
  have HSH:=zz (show∀c∈lx,c.2.1.size≤60 from fun c hc=>by rw [hlx,List.mem_singleton] at hc;subst hc;exact ht)
  have hlc:lx.length=1:=by rw [hlx];rfl
  have hnm:nmC lx=0:=by rw [hlx];exact nmC_leaf _ (Int.le_refl 0)
  have HO:=zz (show (w9.alloc (.cells #[.int .i64 2, .string t, .int .i64 0] 44)).ownsRow w.heap.size 44 3 (.slice (some ⟨w9.heap.size,0,none⟩) 1 1) lx.length (flatC lx) by rw [hlx];exact World.ownsRow_lit (base:=w.heap.size) w9 #[.int .i64 2, .string t, .int .i64 0] 1 HG9.out.size (by unfold maxLen;omega) rfl)
  have HR:=zz (hr9.kept (World.grownBy_alloc w9 (.cells #[.int .i64 2, .string t, .int .i64 0] 44) none) (by simp))
  have HG:=zz (grown_alloc HG9.out (.cells #[.int .i64 2, .string t, .int .i64 0] 44))
  clear hlx hr9
  generalize w9.alloc (.cells #[.int .i64 2, .string t, .int .i64 0] 44)=wz at HO HR HG⊢
  generalize w9.heap.size=gx at HO⊢
  go_wp2_with fail
  refine (odd_any R (p+1+1) n _ (by omega) (by omega) (by omega) HR.out).mono ?_
  rintro e wa ⟨bo,rfl,hbo,hra,hga,-⟩
  have HBO:=zz hbo;clear hbo
  have HOA:=zz (HO.out.kept hga (.inr (by intro he;have:=(HO.out.lt _ he).1;have:=HLT.out;omega)))
  have HRA:=zz hra;have HGA:=zz (grown_trans HG.out hga)
  clear hra hga
  cases bo with
  |false=>
   go_wp2
   go_ret
   exact ⟨_,lx,rfl,HOA.out,HSH.out,hl1,⟨by have h2:=(show lx.length≤cv (d+1)∧3*nmC lx+1≤cv (d+1) from by have:=HCP.out;omega);omega,fun _=>by have h2:=(show lx.length≤cv (d+1)∧3*nmC lx+1≤cv (d+1) from by have:=HCP.out;omega);omega,by have h2:=(show lx.length≤cv (d+1)∧3*nmC lx+1≤cv (d+1) from by have:=HCP.out;omega);omega⟩,HRA.out.mono (by have:=HKV.out;omega),HGA.out⟩
  |true=>
   go_wp2_with fail
   refine (pick_any R (p+1+1+1) 3 _ (by omega) HRA.out).mono ?_
   rintro e wb ⟨m,rfl,hm0,hm1,-,hrb,hgb,-⟩
   have hm2:=hm1 (by omega)
   have HOB:=zz (HOA.out.kept hgb (.inr (by intro he;have:=(HOA.out.lt _ he).1;have:=HLT.out;omega)))
   have HRB:=zz (hrb.mono (show _≤p+1+1+1+1 by omega));have HGB:=zz (grown_trans HGA.out hgb)
   clear hrb hgb hm1
   have h3:m=0∨m=1∨m=2:=by omega
   clear hm0 hm2
   have HON:=zz (show wb.ownsRow w.heap.size 44 3 (.slice (some ⟨gx,0,none⟩) 1 1) 1 (flatC lx) from (by have h:=HOB.out;rw [hlc] at h;exact h))
   have hgw:=(HOB.out.lt gx rfl).1
   have hgR:R<gx:=by have:=HLT.out;omega
   have hcc: ∀j,j<3→ ∃u,wb.cell? ⟨gx,j,none⟩=some u:=fun j hj=>by
    rw [HON.out.cellAt j (by omega),List.getElem?_eq_getElem (by have:=HON.out.1;omega)];exact ⟨_,rfl⟩
   obtain ⟨y0,e0⟩:=hcc 0 (by omega)
   obtain ⟨y1,e1⟩:=hcc 1 (by omega)
   obtain ⟨y2,e2⟩:=hcc 2 (by omega)
   have z0:=HON.out.frozenAt 0
   have z1:=HON.out.frozenAt 1
   have z2:=HON.out.frozenAt 2
   clear hcc
   rcases h3 with rfl|rfl|rfl
   ·have HB1:=zz (bend_word HON.out hlc.symm hl1 HSH.out)
    have HRX:=zz (HRB.out.setc hgR 1 (.string ⟨#[49,47,50]⟩))
    have HGX:=zz (grown_setc HGB.out hgw 1 (.string ⟨#[49,47,50]⟩))
    go_wp2
    go_ret
    exact ⟨_,_,rfl,HB1.out.1,HB1.out.2.1,by have:=HB1.out.2.2.1;omega,⟨by have h1:=HB1.out.2.2;have h2:=(show lx.length≤cv (d+1)∧3*nmC lx+1≤cv (d+1) from by have:=HCP.out;omega);omega,fun hn=>(by have:=HBO.out hn;cases this),by have h1:=HB1.out.2.2;have h2:=(show lx.length≤cv (d+1)∧3*nmC lx+1≤cv (d+1) from by have:=HCP.out;omega);omega⟩,HRX.out.mono (by have:=HKV.out;omega),HGX.out⟩
   ·have HB1:=zz (bend_cell HON.out hlc.symm hl1 HSH.out)
    have HRX:=zz (((HRB.out.setc hgR 0 (.int .i64 4)).setc hgR 1 (.string ⟨#[97]⟩)).setc hgR 2 (.int .i64 0))
    have HGX:=zz (grown_setc (grown_setc (grown_setc HGB.out hgw 0 (.int .i64 4)) hgw 1 (.string ⟨#[97]⟩)) hgw 2 (.int .i64 0))
    go_wp2
    go_ret
    exact ⟨_,_,rfl,HB1.out.1,HB1.out.2.1,by have:=HB1.out.2.2.1;omega,⟨by have h1:=HB1.out.2.2;have h2:=(show lx.length≤cv (d+1)∧3*nmC lx+1≤cv (d+1) from by have:=HCP.out;omega);omega,fun hn=>(by have:=HBO.out hn;cases this),by have h1:=HB1.out.2.2;have h2:=(show lx.length≤cv (d+1)∧3*nmC lx+1≤cv (d+1) from by have:=HCP.out;omega);omega⟩,HRX.out.mono (by have:=HKV.out;omega),HGX.out⟩
   ·have hbw:w.heap.size≤wb.heap.size:=HGB.out.size
    go_wp2_with (at_builtin;go_loud (refine append_rowC rfl _ _ 26 rfl w.heap.size 44 i0 (.agg #[.int .i64 0, .string ByteArray.empty, .int .i64 0]) 32 Tryz.underlying26 hi hz0 hz1 hz2 (by decide) (.slice (some ⟨gx,0,none⟩) 1 1) lx.length (flatC lx) rfl (HOB.out.alloc _) _ [(3,⟨#[116,114,117,101]⟩,0)] rfl (RowC_litV _ _ _ _) (by unfold maxLen;simp;omega) (by simp;omega) (by simp;omega) ?_;intro v8 w8 hown8 hgrow8;have HB1:=zz (bend_more hown8 HSH.out);have HRX:=zz ((HRB.out.kept (World.grownBy_alloc wb (.cells #[.int .i64 3, .string ⟨#[116,114,117,101]⟩, .int .i64 0] 44) none) (by simp)).kept hgrow8 (fun k hk=>(by have hk':gx=k:=(by simpa [Value.ownBlock] using hk);omega)));have HGX:=zz (grown_ownV (grown_alloc HGB.out (.cells #[.int .i64 3, .string ⟨#[116,114,117,101]⟩, .int .i64 0] 44)) hgrow8 (fun x hx=>(HOB.out.lt x hx).1));clear hown8 hgrow8))
    go_wp2
    go_ret
    exact ⟨_,_,rfl,HB1.out.1,HB1.out.2.1,by have:=HB1.out.2.2.1;omega,⟨by have h1:=HB1.out.2.2;have h2:=(show lx.length≤cv (d+1)∧3*nmC lx+1≤cv (d+1) from by have:=HCP.out;omega);omega,fun hn=>(by have:=HBO.out hn;cases this),by have h1:=HB1.out.2.2;have h2:=(show lx.length≤cv (d+1)∧3*nmC lx+1≤cv (d+1) from by have:=HCP.out;omega);omega⟩,HRX.out.mono (by have:=HKV.out;omega),HGX.out⟩
 ·go_wp2_with fail
  refine (pick_any R (p+1) 2 _ (by omega) (hr1.kept (World.grownBy_alloc w1 _ none) (by simp))).mono ?_
  rintro e w9 ⟨i,rfl,hi0,hi1,-,hr9,hg9,-⟩
  have hi2:=hi1 (by omega)
  obtain ⟨i1,rfl⟩:=Int.eq_ofNat_of_zero_le hi0
  obtain ⟨t,ht,hlit⟩:=val_tru i1 (by omega)
  have hcell9:=lit_cell hr1.lt hg9 hlit
  have HG9:=zz (grown_trans (grown_alloc HG1.out _) hg9)
  clear hi1 hg9 hlit
  go_wp2_with fail
  clear hcell9 hcell
  obtain ⟨lx,hlx⟩: ∃l:List Cl,l=[((3:Int),t,(0:Int))]:=⟨_,rfl⟩
  have hl1:1≤lx.length:=by rw [hlx];exact Nat.le_refl _
  have HSH:=zz (show∀c∈lx,c.2.1.size≤60 from fun c hc=>by rw [hlx,List.mem_singleton] at hc;subst hc;exact ht)
  have hlc:lx.length=1:=by rw [hlx];rfl
  have hnm:nmC lx=0:=by rw [hlx];exact nmC_leaf _ (Int.le_refl 0)
  have HO:=zz (show (w9.alloc (.cells #[.int .i64 3, .string t, .int .i64 0] 44)).ownsRow w.heap.size 44 3 (.slice (some ⟨w9.heap.size,0,none⟩) 1 1) lx.length (flatC lx) by rw [hlx];exact World.ownsRow_lit (base:=w.heap.size) w9 #[.int .i64 3, .string t, .int .i64 0] 1 HG9.out.size (by unfold maxLen;omega) rfl)
  have HR:=zz (hr9.kept (World.grownBy_alloc w9 (.cells #[.int .i64 3, .string t, .int .i64 0] 44) none) (by simp))
  have HG:=zz (grown_alloc HG9.out (.cells #[.int .i64 3, .string t, .int .i64 0] 44))
  clear hlx hr9
  generalize w9.alloc (.cells #[.int .i64 3, .string t, .int .i64 0] 44)=wz at HO HR HG⊢
  generalize w9.heap.size=gx at HO⊢
  go_wp2_with fail
  refine (odd_any R (p+1+1) n _ (by omega) (by omega) (by omega) HR.out).mono ?_
  rintro e wa ⟨bo,rfl,hbo,hra,hga,-⟩
  have HBO:=zz hbo;clear hbo
  have HOA:=zz (HO.out.kept hga (.inr (by intro he;have:=(HO.out.lt _ he).1;have:=HLT.out;omega)))
  have HRA:=zz hra;have HGA:=zz (grown_trans HG.out hga)
  clear hra hga
  cases bo with
  |false=>
   go_wp2
   go_ret
   exact ⟨_,lx,rfl,HOA.out,HSH.out,hl1,⟨by have h2:=(show lx.length≤cv (d+1)∧3*nmC lx+1≤cv (d+1) from by have:=HCP.out;omega);omega,fun _=>by have h2:=(show lx.length≤cv (d+1)∧3*nmC lx+1≤cv (d+1) from by have:=HCP.out;omega);omega,by have h2:=(show lx.length≤cv (d+1)∧3*nmC lx+1≤cv (d+1) from by have:=HCP.out;omega);omega⟩,HRA.out.mono (by have:=HKV.out;omega),HGA.out⟩
  |true=>
   go_wp2_with fail
   refine (pick_any R (p+1+1+1) 3 _ (by omega) HRA.out).mono ?_
   rintro e wb ⟨m,rfl,hm0,hm1,-,hrb,hgb,-⟩
   have hm2:=hm1 (by omega)
   have HOB:=zz (HOA.out.kept hgb (.inr (by intro he;have:=(HOA.out.lt _ he).1;have:=HLT.out;omega)))
   have HRB:=zz (hrb.mono (show _≤p+1+1+1+1 by omega));have HGB:=zz (grown_trans HGA.out hgb)
   clear hrb hgb hm1
   have h3:m=0∨m=1∨m=2:=by omega
   clear hm0 hm2
   have HON:=zz (show wb.ownsRow w.heap.size 44 3 (.slice (some ⟨gx,0,none⟩) 1 1) 1 (flatC lx) from (by have h:=HOB.out;rw [hlc] at h;exact h))
   have hgw:=(HOB.out.lt gx rfl).1
   have hgR:R<gx:=by have:=HLT.out;omega
   have hcc: ∀j,j<3→ ∃u,wb.cell? ⟨gx,j,none⟩=some u:=fun j hj=>by
    rw [HON.out.cellAt j (by omega),List.getElem?_eq_getElem (by have:=HON.out.1;omega)];exact ⟨_,rfl⟩
   obtain ⟨y0,e0⟩:=hcc 0 (by omega)
   obtain ⟨y1,e1⟩:=hcc 1 (by omega)
   obtain ⟨y2,e2⟩:=hcc 2 (by omega)
   have z0:=HON.out.frozenAt 0
   have z1:=HON.out.frozenAt 1
   have z2:=HON.out.frozenAt 2
   clear hcc
   rcases h3 with rfl|rfl|rfl
   ·have HB1:=zz (bend_word HON.out hlc.symm hl1 HSH.out)
    have HRX:=zz (HRB.out.setc hgR 1 (.string ⟨#[49,47,50]⟩))
    have HGX:=zz (grown_setc HGB.out hgw 1 (.string ⟨#[49,47,50]⟩))
    go_wp2
    go_ret
    exact ⟨_,_,rfl,HB1.out.1,HB1.out.2.1,by have:=HB1.out.2.2.1;omega,⟨by have h1:=HB1.out.2.2;have h2:=(show lx.length≤cv (d+1)∧3*nmC lx+1≤cv (d+1) from by have:=HCP.out;omega);omega,fun hn=>(by have:=HBO.out hn;cases this),by have h1:=HB1.out.2.2;have h2:=(show lx.length≤cv (d+1)∧3*nmC lx+1≤cv (d+1) from by have:=HCP.out;omega);omega⟩,HRX.out.mono (by have:=HKV.out;omega),HGX.out⟩
   ·have HB1:=zz (bend_cell HON.out hlc.symm hl1 HSH.out)
    have HRX:=zz (((HRB.out.setc hgR 0 (.int .i64 4)).setc hgR 1 (.string ⟨#[97]⟩)).setc hgR 2 (.int .i64 0))
    have HGX:=zz (grown_setc (grown_setc (grown_setc HGB.out hgw 0 (.int .i64 4)) hgw 1 (.string ⟨#[97]⟩)) hgw 2 (.int .i64 0))
    go_wp2
    go_ret
    exact ⟨_,_,rfl,HB1.out.1,HB1.out.2.1,by have:=HB1.out.2.2.1;omega,⟨by have h1:=HB1.out.2.2;have h2:=(show lx.length≤cv (d+1)∧3*nmC lx+1≤cv (d+1) from by have:=HCP.out;omega);omega,fun hn=>(by have:=HBO.out hn;cases this),by have h1:=HB1.out.2.2;have h2:=(show lx.length≤cv (d+1)∧3*nmC lx+1≤cv (d+1) from by have:=HCP.out;omega);omega⟩,HRX.out.mono (by have:=HKV.out;omega),HGX.out⟩
   ·have hbw:w.heap.size≤wb.heap.size:=HGB.out.size
    go_wp2_with (at_builtin;go_loud (refine append_rowC rfl _ _ 26 rfl w.heap.size 44 i0 (.agg #[.int .i64 0, .string ByteArray.empty, .int .i64 0]) 32 Tryz.underlying26 hi hz0 hz1 hz2 (by decide) (.slice (some ⟨gx,0,none⟩) 1 1) lx.length (flatC lx) rfl (HOB.out.alloc _) _ [(3,⟨#[116,114,117,101]⟩,0)] rfl (RowC_litV _ _ _ _) (by unfold maxLen;simp;omega) (by simp;omega) (by simp;omega) ?_;intro v8 w8 hown8 hgrow8;have HB1:=zz (bend_more hown8 HSH.out);have HRX:=zz ((HRB.out.kept (World.grownBy_alloc wb (.cells #[.int .i64 3, .string ⟨#[116,114,117,101]⟩, .int .i64 0] 44) none) (by simp)).kept hgrow8 (fun k hk=>(by have hk':gx=k:=(by simpa [Value.ownBlock] using hk);omega)));have HGX:=zz (grown_ownV (grown_alloc HGB.out (.cells #[.int .i64 3, .string ⟨#[116,114,117,101]⟩, .int .i64 0] 44)) hgrow8 (fun x hx=>(HOB.out.lt x hx).1));clear hown8 hgrow8))
    go_wp2
    go_ret
    exact ⟨_,_,rfl,HB1.out.1,HB1.out.2.1,by have:=HB1.out.2.2.1;omega,⟨by have h1:=HB1.out.2.2;have h2:=(show lx.length≤cv (d+1)∧3*nmC lx+1≤cv (d+1) from by have:=HCP.out;omega);omega,fun hn=>(by have:=HBO.out hn;cases this),by have h1:=HB1.out.2.2;have h2:=(show lx.length≤cv (d+1)∧3*nmC lx+1≤cv (d+1) from by have:=HCP.out;omega);omega⟩,HRX.out.mono (by have:=HKV.out;omega),HGX.out⟩
 ·go_wp2_with fail
  refine (pick_any R (p+1) 4 _ (by omega) hr1).mono ?_
  rintro e w9 ⟨i,rfl,hi0,hi1,-,hr9,hg9,-⟩
  have hi2:=hi1 (by omega)
  obtain ⟨i1,rfl⟩:=Int.eq_ofNat_of_zero_le hi0
  have HG9:=zz (grown_trans HG1.out hg9)
  clear hi1 hg9 hcell
  obtain ⟨kd,hkd⟩: ∃kd,kv d=kd:=⟨_,rfl⟩
  obtain ⟨cd,hcd⟩: ∃cd,cv d=cd:=⟨_,rfl⟩
  have hcd1:1≤cd:=by rw [←hcd];exact cv_pos d
  have hcd9:cd≤400:=by rw [←hcd];exact cv_le d hd5
  have HKD:=zz hkd;have HCD:=zz hcd
  have HKV2:=zz (show kv (d+1)=20+3*kd by rw [←hkd];rfl)
  clear hkd hcd
  by_cases hd0:d=0
  ·have hdd:(d:Int)+1≤1:=by omega
   have HCV:=zz (show cv (d+1)=1 by rw [cv,if_pos hd0])
   have HD0:=zz hd0;clear hd0
   go_wp2_with fail
   have ht:(⟨#[]⟩:ByteArray).size≤60:=by decide
   obtain ⟨lx,hlx⟩: ∃l:List Cl,l=[((5:Int),⟨#[]⟩,(0:Int))]:=⟨_,rfl⟩
   have hl1:1≤lx.length:=by rw [hlx];exact Nat.le_refl _
   have HSH:=zz (show∀c∈lx,c.2.1.size≤60 from fun c hc=>by rw [hlx,List.mem_singleton] at hc;subst hc;exact ht)
   have hlc:lx.length=1:=by rw [hlx];rfl
   have hnm:nmC lx=0:=by rw [hlx];exact nmC_leaf _ (Int.le_refl 0)
   have HO:=zz (show (w9.alloc (.cells #[.int .i64 5, .string ⟨#[]⟩, .int .i64 0] 44)).ownsRow w.heap.size 44 3 (.slice (some ⟨w9.heap.size,0,none⟩) 1 1) lx.length (flatC lx) by rw [hlx];exact World.ownsRow_lit (base:=w.heap.size) w9 #[.int .i64 5, .string ⟨#[]⟩, .int .i64 0] 1 HG9.out.size (by unfold maxLen;omega) rfl)
   have HR:=zz (hr9.kept (World.grownBy_alloc w9 (.cells #[.int .i64 5, .string ⟨#[]⟩, .int .i64 0] 44) none) (by simp))
   have HG:=zz (grown_alloc HG9.out (.cells #[.int .i64 5, .string ⟨#[]⟩, .int .i64 0] 44))
   clear hlx hr9
   generalize w9.alloc (.cells #[.int .i64 5, .string ⟨#[]⟩, .int .i64 0] 44)=wz at HO HR HG⊢
   generalize w9.heap.size=gx at HO⊢
   refine wp_loop_rounds 1 ?_
   rw [rounds_succ]
   go_wp2_with fail
   refine (odd_any R (p+1+1) n _ (by omega) (by omega) (by omega) HR.out).mono ?_
   rintro e wa ⟨bo,rfl,hbo,hra,hga,-⟩
   have HBO:=zz hbo;clear hbo
   have HOA:=zz (HO.out.kept hga (.inr (by intro he;have:=(HO.out.lt _ he).1;have:=HLT.out;omega)))
   have HRA:=zz hra;have HGA:=zz (grown_trans HG.out hga)
   clear hra hga
   cases bo with
   |false=>
    go_wp2
    go_ret
    exact ⟨_,lx,rfl,HOA.out,HSH.out,hl1,⟨by have h2:=(show lx.length≤cv (d+1)∧3*nmC lx+1≤cv (d+1) from by have:=HCP.out;omega);omega,fun _=>by have h2:=(show lx.length≤cv (d+1)∧3*nmC lx+1≤cv (d+1) from by have:=HCP.out;omega);omega,by have h2:=(show lx.length≤cv (d+1)∧3*nmC lx+1≤cv (d+1) from by have:=HCP.out;omega);omega⟩,HRA.out.mono (by have:=HKV.out;omega),HGA.out⟩
   |true=>
    go_wp2_with fail
    refine (pick_any R (p+1+1+1) 3 _ (by omega) HRA.out).mono ?_
    rintro e wb ⟨m,rfl,hm0,hm1,-,hrb,hgb,-⟩
    have hm2:=hm1 (by omega)
    have HOB:=zz (HOA.out.kept hgb (.inr (by intro he;have:=(HOA.out.lt _ he).1;have:=HLT.out;omega)))
    have HRB:=zz (hrb.mono (show _≤p+1+1+1+1 by omega));have HGB:=zz (grown_trans HGA.out hgb)
    clear hrb hgb hm1
    have h3:m=0∨m=1∨m=2:=by omega
    clear hm0 hm2
    have HON:=zz (show wb.ownsRow w.heap.size 44 3 (.slice (some ⟨gx,0,none⟩) 1 1) 1 (flatC lx) from (by have h:=HOB.out;rw [hlc] at h;exact h))
    have hgw:=(HOB.out.lt gx rfl).1
    have hgR:R<gx:=by have:=HLT.out;omega
    have hcc: ∀j,j<3→ ∃u,wb.cell? ⟨gx,j,none⟩=some u:=fun j hj=>by
     rw [HON.out.cellAt j (by omega),List.getElem?_eq_getElem (by have:=HON.out.1;omega)];exact ⟨_,rfl⟩
    obtain ⟨y0,e0⟩:=hcc 0 (by omega)
    obtain ⟨y1,e1⟩:=hcc 1 (by omega)
    obtain ⟨y2,e2⟩:=hcc 2 (by omega)
    have z0:=HON.out.frozenAt 0
    have z1:=HON.out.frozenAt 1
    have z2:=HON.out.frozenAt 2
    clear hcc
    rcases h3 with rfl|rfl|rfl
    ·have HB1:=zz (bend_word HON.out hlc.symm hl1 HSH.out)
     have HRX:=zz (HRB.out.setc hgR 1 (.string ⟨#[49,47,50]⟩))
     have HGX:=zz (grown_setc HGB.out hgw 1 (.string ⟨#[49,47,50]⟩))
     go_wp2
     go_ret
     exact ⟨_,_,rfl,HB1.out.1,HB1.out.2.1,by have:=HB1.out.2.2.1;omega,⟨by have h1:=HB1.out.2.2;have h2:=(show lx.length≤cv (d+1)∧3*nmC lx+1≤cv (d+1) from by have:=HCP.out;omega);omega,fun hn=>(by have:=HBO.out hn;cases this),by have h1:=HB1.out.2.2;have h2:=(show lx.length≤cv (d+1)∧3*nmC lx+1≤cv (d+1) from by have:=HCP.out;omega);omega⟩,HRX.out.mono (by have:=HKV.out;omega),HGX.out⟩
    ·have HB1:=zz (bend_cell HON.out hlc.symm hl1 HSH.out)
     have HRX:=zz (((HRB.out.setc hgR 0 (.int .i64 4)).setc hgR 1 (.string ⟨#[97]⟩)).setc hgR 2 (.int .i64 0))
     have HGX:=zz (grown_setc (grown_setc (grown_setc HGB.out hgw 0 (.int .i64 4)) hgw 1 (.string ⟨#[97]⟩)) hgw 2 (.int .i64 0))
     go_wp2
     go_ret
     exact ⟨_,_,rfl,HB1.out.1,HB1.out.2.1,by have:=HB1.out.2.2.1;omega,⟨by have h1:=HB1.out.2.2;have h2:=(show lx.length≤cv (d+1)∧3*nmC lx+1≤cv (d+1) from by have:=HCP.out;omega);omega,fun hn=>(by have:=HBO.out hn;cases this),by have h1:=HB1.out.2.2;have h2:=(show lx.length≤cv (d+1)∧3*nmC lx+1≤cv (d+1) from by have:=HCP.out;omega);omega⟩,HRX.out.mono (by have:=HKV.out;omega),HGX.out⟩
    ·have hbw:w.heap.size≤wb.heap.size:=HGB.out.size
     go_wp2_with (at_builtin;go_loud (refine append_rowC rfl _ _ 26 rfl w.heap.size 44 i0 (.agg #[.int .i64 0, .string ByteArray.empty, .int .i64 0]) 32 Tryz.underlying26 hi hz0 hz1 hz2 (by decide) (.slice (some ⟨gx,0,none⟩) 1 1) lx.length (flatC lx) rfl (HOB.out.alloc _) _ [(3,⟨#[116,114,117,101]⟩,0)] rfl (RowC_litV _ _ _ _) (by unfold maxLen;simp;omega) (by simp;omega) (by simp;omega) ?_;intro v8 w8 hown8 hgrow8;have HB1:=zz (bend_more hown8 HSH.out);have HRX:=zz ((HRB.out.kept (World.grownBy_alloc wb (.cells #[.int .i64 3, .string ⟨#[116,114,117,101]⟩, .int .i64 0] 44) none) (by simp)).kept hgrow8 (fun k hk=>(by have hk':gx=k:=(by simpa [Value.ownBlock] using hk);omega)));have HGX:=zz (grown_ownV (grown_alloc HGB.out (.cells #[.int .i64 3, .string ⟨#[116,114,117,101]⟩, .int .i64 0] 44)) hgrow8 (fun x hx=>(HOB.out.lt x hx).1));clear hown8 hgrow8))
     go_wp2
     go_ret
     exact ⟨_,_,rfl,HB1.out.1,HB1.out.2.1,by have:=HB1.out.2.2.1;omega,⟨by have h1:=HB1.out.2.2;have h2:=(show lx.length≤cv (d+1)∧3*nmC lx+1≤cv (d+1) from by have:=HCP.out;omega);omega,fun hn=>(by have:=HBO.out hn;cases this),by have h1:=HB1.out.2.2;have h2:=(show lx.length≤cv (d+1)∧3*nmC lx+1≤cv (d+1) from by have:=HCP.out;omega);omega⟩,HRX.out.mono (by have:=HKV.out;omega),HGX.out⟩
  ·have hdd: ¬((d:Int)+1≤1):=by omega
   have HCV:=zz (show cv (d+1)=1+3*cd by rw [cv,if_neg hd0,HCD.out])
   have HD0:=zz (show 1≤d by omega);clear hd0
   go_wp2_with fail
   obtain ⟨hd,hhd⟩: ∃hd:Cl,hd=(5,⟨#[]⟩,(i1:Int)):=⟨_,rfl⟩
   have HO0:=zz (show (w9.alloc (.cells #[.int .i64 5, .string ⟨#[]⟩, .int .i64 (i1:Int)] 44)).ownsRow w.heap.size 44 3 (.slice (some ⟨w9.heap.size,0,none⟩) 1 1) [hd].length (flatC [hd]) by rw [hhd];exact World.ownsRow_lit (base:=w.heap.size) w9 #[.int .i64 5, .string ⟨#[]⟩, .int .i64 (i1:Int)] 1 HG9.out.size (by unfold maxLen;omega) rfl)
   have HR0:=zz (hr9.kept (World.grownBy_alloc w9 (.cells #[.int .i64 5, .string ⟨#[]⟩, .int .i64 (i1:Int)] 44) none) (by simp))
   have HG0:=zz (grown_alloc HG9.out (.cells #[.int .i64 5, .string ⟨#[]⟩, .int .i64 (i1:Int)] 44))
   have HS0:=zz (show∀c∈[hd],c.2.1.size≤60 from fun c hc=>by
    rw [List.mem_singleton,hhd] at hc;subst hc
    show (⟨#[]⟩:ByteArray).size≤60
    decide)
   have HNM:=zz (nmC_one hd)
   have HIH:=zz (ih HD0.out)
   have hM3:i1≤3:=by omega
   have HDM:=zz (show (d:Int)+1-1=(d:Int) by omega)
   clear hhd hr9 HG9 ih
   go_loopw [7,9] (fun out i wr=> ∃(k:Nat) (lx:List Cl),k≤i1∧i= .int .i64 (k:Int)∧wr.ownsRow w.heap.size 44 3 out lx.length (flatC lx)∧(∀c∈lx,c.2.1.size≤60)∧1≤lx.length∧lx.length≤1+k*cd∧3*nmC lx≤3+k*(cd-1)∧Rdm wr R (p+2+k*kd)∧w.grownBy wr (some R)) (fun _ i _=>i1-(intOf i).toNat)
   case atStart=>exact ⟨0,[hd],Nat.zero_le _,rfl,HO0.out,HS0.out,Nat.le_refl _,by simp,by have:=HNM.out;omega,HR0.out.mono (by omega),HG0.out⟩
   case round=>
    obtain ⟨k,lx,hk,rfl,hown,hsh,hl1,hlc,hnm,hr,hg⟩:=hrel
    have HO:=zz hown;have HSH:=zz hsh;have HR:=zz hr;have HG:=zz hg
    clear hown hsh hr hg
    have hkc:k*cd≤3*cd:=Nat.mul_le_mul_right _ (by omega)
    have hkk:k*kd≤3*kd:=Nat.mul_le_mul_right _ (by omega)
    have hkn:k*(cd-1)≤3*(cd-1):=Nat.mul_le_mul_right _ (by omega)
    have HS1:=zz (show (k+1)*cd=k*cd+cd from Nat.succ_mul k cd);have HS2:=zz (show (k+1)*kd=k*kd+kd from Nat.succ_mul k kd);have HS3:=zz (show (k+1)*(cd-1)=k*(cd-1)+(cd-1) from Nat.succ_mul k (cd-1))
    by_cases hlt:k<i1
    ·have hltI:(k:Int)<(i1:Int):=by omega
     have hkk1:(k+1)*kd≤3*kd:=Nat.mul_le_mul_right _ (by omega)
     have hb1:p+2+k*kd+kd<1073741824:=by have:=HS2.out;have:=HKV2.out;omega
     go_wp2_with fail
     refine (HIH.out R (p+2+k*kd) 0 _ (by rw [HKD.out];exact hb1) (by omega) (by omega) HR.out).mono ?_
     rintro e w5 ⟨v5,l5,rfl,ho5,hsh5,h15,⟨-,hc5,hn5⟩,hr5,hg5⟩
     replace hc5:=hc5 (by omega)
     rw [HKD.out] at hr5;rw [HCD.out] at hc5 hn5
     have HO5:=zz (HO.out.kept hg5 (.inr (by intro he;have:=(HO.out.lt _ he).1;have:=HLT.out;omega)))
     have HG5:=zz (grown_trans HG.out hg5)
     have HP5:=zz ho5;have HSH5:=zz hsh5;have HR5:=zz hr5
     obtain ⟨ao5,co5,rfl⟩:=own_shapeV ho5
     clear ho5 hsh5 hr5 hg5
     have hll:lx.length+l5.length≤2000:=by omega
     go_wp2_with (at_builtin;refine append_rows rfl _ _ 26 rfl w.heap.size 44 i0 (.agg #[.int .i64 0, .string ByteArray.empty, .int .i64 0]) 3 32 Tryz.underlying26 hi hz0 hz1 hz2 rfl (by decide) _ _ _ rfl HO5.out _ _ _ _ rfl HP5.out (flatC_one _) (by unfold maxLen;omega) (by omega) HG5.out.size ?_;intro v6 w6 hown6 hgrow6;have HO6:=zz hown6;have HG6:=zz (grown_ownV HG5.out hgrow6 (fun x hx=>(HO5.out.lt x hx).1));have HR6:=zz (HR5.out.kept hgrow6 (fun x hx=>(by have:=(HO5.out.lt x hx).1;have:=HLT.out;omega)));clear hown6 hgrow6)
     go_roundw
     case rel=>exact ⟨k+1,lx++l5,by omega,by go_num,by rw [List.length_append,flatC_append];exact HO6.out,(fun c hc=>by rw [List.mem_append] at hc;exact hc.elim (HSH.out c) (HSH5.out c)),by rw [List.length_append];omega,by rw [List.length_append];have:=HS1.out;omega,by rw [nmC_append];have:=HS3.out;omega,HR6.out.mono (by have:=HS2.out;omega),HG6.out⟩
     case measure=>simp [intOf];omega
    ·obtain rfl:k=i1:=by omega
     have hltI: ¬(k:Int)<(k:Int):=by omega
     obtain ⟨gx,c7,rfl⟩:=own_some HO.out hl1
     have hlen7:lx.length≤2000:=by omega
     have hqq:p+2+k*kd+2<1073741824:=by have:=HKV2.out;omega
     go_wp2_with fail
     refine (odd_any R (p+2+k*kd) n _ (by omega) (by omega) (by omega) HR.out).mono ?_
     rintro e wa ⟨bo,rfl,hbo,hra,hga,-⟩
     have HBO:=zz hbo;clear hbo
     have HOA:=zz (HO.out.kept hga (.inr (by intro he;have:=(HO.out.lt _ he).1;have:=HLT.out;omega)))
     have HRA:=zz hra;have HGA:=zz (grown_trans HG.out hga)
     clear hra hga
     cases bo with
     |false=>
      go_wp2
      go_ret
      exact ⟨_,lx,rfl,HOA.out,HSH.out,hl1,⟨by have h2:=(show lx.length≤cv (d+1)∧3*nmC lx+1≤cv (d+1) from by have:=HCV.out;omega);omega,fun _=>by have h2:=(show lx.length≤cv (d+1)∧3*nmC lx+1≤cv (d+1) from by have:=HCV.out;omega);omega,by have h2:=(show lx.length≤cv (d+1)∧3*nmC lx+1≤cv (d+1) from by have:=HCV.out;omega);omega⟩,HRA.out.mono (by have:=HKV2.out;omega),HGA.out⟩
     |true=>
      go_wp2_with fail
      refine (pick_any R (p+2+k*kd+1) 3 _ (by omega) HRA.out).mono ?_
      rintro e wb ⟨m,rfl,hm0,hm1,-,hrb,hgb,-⟩
      have hm2:=hm1 (by omega)
      have HOB:=zz (HOA.out.kept hgb (.inr (by intro he;have:=(HOA.out.lt _ he).1;have:=HLT.out;omega)))
      have HRB:=zz (hrb.mono (show _≤p+2+k*kd+1+1 by omega));have HGB:=zz (grown_trans HGA.out hgb)
      clear hrb hgb hm1
      have h3:m=0∨m=1∨m=2:=by omega
      clear hm0 hm2
      have HON:=zz (show wb.ownsRow w.heap.size 44 3 (.slice (some ⟨gx,0,none⟩) lx.length c7) lx.length (flatC lx) from HOB.out)
      have hgw:=(HOB.out.lt gx rfl).1
      have hgR:R<gx:=by have:=HLT.out;omega
      have hcc: ∀j,j<3→ ∃u,wb.cell? ⟨gx,j,none⟩=some u:=fun j hj=>by
       rw [HON.out.cellAt j (by omega),List.getElem?_eq_getElem (by have:=HON.out.1;omega)];exact ⟨_,rfl⟩
      obtain ⟨y0,e0⟩:=hcc 0 (by omega)
      obtain ⟨y1,e1⟩:=hcc 1 (by omega)
      obtain ⟨y2,e2⟩:=hcc 2 (by omega)
      have z0:=HON.out.frozenAt 0
      have z1:=HON.out.frozenAt 1
      have z2:=HON.out.frozenAt 2
      clear hcc
      rcases h3 with rfl|rfl|rfl
      ·have HB1:=zz (bend_word HON.out rfl hl1 HSH.out)
       have HRX:=zz (HRB.out.setc hgR 1 (.string ⟨#[49,47,50]⟩))
       have HGX:=zz (grown_setc HGB.out hgw 1 (.string ⟨#[49,47,50]⟩))
       go_wp2
       go_ret
       exact ⟨_,_,rfl,HB1.out.1,HB1.out.2.1,by have:=HB1.out.2.2.1;omega,⟨by have h1:=HB1.out.2.2;have h2:=(show lx.length≤cv (d+1)∧3*nmC lx+1≤cv (d+1) from by have:=HCV.out;omega);omega,fun hn=>(by have:=HBO.out hn;cases this),by have h1:=HB1.out.2.2;have h2:=(show lx.length≤cv (d+1)∧3*nmC lx+1≤cv (d+1) from by have:=HCV.out;omega);omega⟩,HRX.out.mono (by have:=HKV2.out;omega),HGX.out⟩
      ·have HB1:=zz (bend_cell HON.out rfl hl1 HSH.out)
       have HRX:=zz (((HRB.out.setc hgR 0 (.int .i64 4)).setc hgR 1 (.string ⟨#[97]⟩)).setc hgR 2 (.int .i64 0))
       have HGX:=zz (grown_setc (grown_setc (grown_setc HGB.out hgw 0 (.int .i64 4)) hgw 1 (.string ⟨#[97]⟩)) hgw 2 (.int .i64 0))
       go_wp2
       go_ret
       exact ⟨_,_,rfl,HB1.out.1,HB1.out.2.1,by have:=HB1.out.2.2.1;omega,⟨by have h1:=HB1.out.2.2;have h2:=(show lx.length≤cv (d+1)∧3*nmC lx+1≤cv (d+1) from by have:=HCV.out;omega);omega,fun hn=>(by have:=HBO.out hn;cases this),by have h1:=HB1.out.2.2;have h2:=(show lx.length≤cv (d+1)∧3*nmC lx+1≤cv (d+1) from by have:=HCV.out;omega);omega⟩,HRX.out.mono (by have:=HKV2.out;omega),HGX.out⟩
      ·have hbw:w.heap.size≤wb.heap.size:=HGB.out.size
       go_wp2_with (at_builtin;go_loud (refine append_rowC rfl _ _ 26 rfl w.heap.size 44 i0 (.agg #[.int .i64 0, .string ByteArray.empty, .int .i64 0]) 32 Tryz.underlying26 hi hz0 hz1 hz2 (by decide) (.slice (some ⟨gx,0,none⟩) lx.length c7) lx.length (flatC lx) rfl (HOB.out.alloc _) _ [(3,⟨#[116,114,117,101]⟩,0)] rfl (RowC_litV _ _ _ _) (by unfold maxLen;simp;omega) (by simp;omega) (by simp;omega) ?_;intro v8 w8 hown8 hgrow8;have HB1:=zz (bend_more hown8 HSH.out);have HRX:=zz ((HRB.out.kept (World.grownBy_alloc wb (.cells #[.int .i64 3, .string ⟨#[116,114,117,101]⟩, .int .i64 0] 44) none) (by simp)).kept hgrow8 (fun k hk=>(by have hk':gx=k:=(by simpa [Value.ownBlock] using hk);omega)));have HGX:=zz (grown_ownV (grown_alloc HGB.out (.cells #[.int .i64 3, .string ⟨#[116,114,117,101]⟩, .int .i64 0] 44)) hgrow8 (fun x hx=>(HOB.out.lt x hx).1));clear hown8 hgrow8))
       go_wp2
       go_ret
       exact ⟨_,_,rfl,HB1.out.1,HB1.out.2.1,by have:=HB1.out.2.2.1;omega,⟨by have h1:=HB1.out.2.2;have h2:=(show lx.length≤cv (d+1)∧3*nmC lx+1≤cv (d+1) from by have:=HCV.out;omega);omega,fun hn=>(by have:=HBO.out hn;cases this),by have h1:=HB1.out.2.2;have h2:=(show lx.length≤cv (d+1)∧3*nmC lx+1≤cv (d+1) from by have:=HCV.out;omega);omega⟩,HRX.out.mono (by have:=HKV2.out;omega),HGX.out⟩
theorem value_all: ∀d,d≤5→ValAny (d+1)
 |0,h=>value_step 0 h (fun h=>absurd h (by omega))
 |d+1,h=>value_step (d+1) h (fun _=>value_all d (by omega))
end Go.Proofs.YthillfgjpalpcaaGreatDoor
