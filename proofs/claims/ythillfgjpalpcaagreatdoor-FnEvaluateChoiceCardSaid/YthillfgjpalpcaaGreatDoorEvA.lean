/-
  spec.l10Value and spec.Evaluate, by their contracts.
-/
import Derived.Test.YthillfgjpalpcaaGreatDoorGEs
import Derived.Test.YthillfgjpalpcaaGreatDoorEvB
import Derived.Test.YthillfgjpalpcaaGreatDoorBindS
set_option linter.unusedVariables false
set_option maxHeartbeats 4000000
set_option maxRecDepth 100000
namespace Go.Proofs.YthillfgjpalpcaaGreatDoor
open Go.RowKit
theorem kind_in {k:Int} {s:ByteArray} {m:Int} (h:okC (k,s,m)=true):k=1∨k=2∨k=3∨k=4∨k=5∨k=6∨k=7∨k=8∨k=9:=by
 simp only [okC,cellB,Bool.and_eq_true] at h
 have h2:=h.2
 unfold manyB at h2
 by_cases h1:k=1∨k=2∨k=3∨k=4
 ·omega
 ·rw [if_neg h1] at h2
  by_cases h5:k=5∨k=6
  ·omega
  ·rw [if_neg h5] at h2
   by_cases h7:k=7
   ·omega
   ·rw [if_neg h7] at h2
    by_cases h8:k=8
    ·omega
    ·rw [if_neg h8] at h2
     by_cases h9:k=9
     ·omega
     ·rw [if_neg h9] at h2;cases h2
theorem eval_step {v ev:Value} {l:List Cl} {env:List Bd} {j:Nat} (h60:l.length≤60) (hok:l.all okC=true) (he: ∀b∈env,nmL b.1=true∧okV b.2=true) (ih:ValOK v ev l env j):ValOK v ev l env (j+1):=by
 intro f t x w hX hj hr hrb
 obtain ⟨⟨k,s,m⟩,ks,hc,hks,rfl⟩:=hX.inv
 obtain ⟨hfl,he0⟩:=List.getElem?_eq_some_iff.mp hc
 have hokc:okC (k,s,m)=true:=by rw [←he0];exact okC_all hok f hfl
 rcases kind_in hokc with rfl|rfl|rfl|rfl|rfl|rfl|rfl|rfl|rfl
 ·exact val_leaf1 h60 hok he ih f t s m ks w hc hks hj hr hrb
 ·exact val_leaf2 h60 hok he ih f t s m ks w hc hks hj hr hrb
 ·exact val_leaf3 h60 hok he ih f t s m ks w hc hks hj hr hrb
 ·exact val_name h60 hok he ih f t s m ks w hc hks hj hr hrb
 ·exact val_list h60 hok he ih f t s m ks w hc hks hj hr hrb
 ·exact val_call h60 hok he ih f t s m ks w hc hks hj hr hrb
 ·exact val_unary h60 hok he ih f t s m ks w hc hks hj hr hrb
 ·have hrk:0<rankL s.data.toList:=by
   simp only [okC,cellB,wordB,Bool.and_eq_true] at hokc
   simpa using hokc.1
  have hs:=sign_in hrk
  by_cases h12:signW s.data.toList=12
  ·exact val_and h60 hok he ih f t s m ks w hc hks hj hr hrb ((ByteArray.toList_eq ..).trans (sign_12 h12))
  by_cases h13:signW s.data.toList=13
  ·exact val_or h60 hok he ih f t s m ks w hc hks hj hr hrb ((ByteArray.toList_eq ..).trans (sign_13 h13))
  exact val_binary h60 hok he ih f t s m ks w hc hks hj hr hrb (by omega)
 ·exact val_choice h60 hok he ih f t s m ks w hc hks hj hr hrb
theorem eval_all {v ev:Value} {l:List Cl} {env:List Bd} (h60:l.length≤60) (hok:l.all okC=true) (he: ∀b∈env,nmL b.1=true∧okV b.2=true): ∀j,ValOK v ev l env j:=by
 intro j
 induction j with
 |zero=>
  intro f t x w hX hj
  obtain ⟨_,h⟩:=hX.exs
  have:=h.le
  omega
 |succ j ih=>exact eval_step h60 hok he ih
theorem evaluate_spec (v ev:Value) (l:List Cl) (env:List Bd) (w:World) (hr:RowC w v l) (hrb:RowB w ev env) (hz:ShortC l) (hl:l.length≤1048576) (hzb:ShortB env):
  Calls Tryz.prog 14 #[v,ev] w (NewCB ((evalV l env).getD []) (evalV l env).isSome w):=by
 have HEV:=zz (exprValid_spec v l w hr hz hl)
 have HBV:=zz (fun w' (hb:Below w.heap.size w w')=>bindingsValid_spec ev env w' (hrb.mono hb) hzb)
 have HR:=zz hr;have HRB:=zz hrb
 clear hr hrb hz hzb
 cases h1:okE l with
 |false=>
  have HN:=zz (evalV_no (l:=l) (env:=env) (fun h=>by rw [h1] at h;cases h.1))
  rw [h1] at HEV
  clear h1
  go_enter Tryz.func14,Tryz.ntmps14
  go_wp2_with fail
  refine HEV.out.mono ?_
  rintro e w1 ⟨rfl,hb1⟩
  have HB1:=zz hb1;clear hb1
  go_wp2
  exact bodyPost_ret (v:= .tuple #[.slice (some ⟨_,0,none⟩) 0 0, .bool false]) (by simp [results,Tryz.results14,go_sem];rfl) rfl (newCB_no HB1.out (by simp) (by rw [HN.out];rfl) (by rw [HN.out];rfl))
 |true=>
  cases h2:bindOK env with
  |false=>
   have HN:=zz (evalV_no (l:=l) (env:=env) (fun h=>by rw [h2] at h;cases h.2))
   rw [h1] at HEV;rw [h2] at HBV
   clear h1 h2
   go_enter Tryz.func14,Tryz.ntmps14
   go_wp2_with fail
   refine HEV.out.mono ?_
   rintro e w1 ⟨rfl,hb1⟩
   have HB1:=zz hb1;clear hb1
   go_wp2_with fail
   refine (HBV.out _ HB1.out).mono ?_
   rintro e w2 ⟨rfl,hb2⟩
   have HB2:=zz (HB1.out.trans (hb2.mono HB1.out.size));clear hb2
   go_wp2
   exact bodyPost_ret (v:= .tuple #[.slice (some ⟨_,0,none⟩) 0 0, .bool false]) (by simp [results,Tryz.results14,go_sem];rfl) rfl (newCB_no HB2.out (by simp) (by rw [HN.out];rfl) (by rw [HN.out];rfl))
  |true=>
   obtain ⟨x,hx⟩:=okE_ev env h1
   have HN:=zz (evalV_of h1 h2 hx)
   obtain ⟨h60,hal,-⟩:=(okE_iff l).mp h1
   obtain ⟨-,hbn,-⟩:=(bindOK_iff env).mp h2
   have HVA:=zz (fun w' (hb:Below w.heap.size w w')=>eval_all (v:=v) (ev:=ev) h60 hal hbn l.length 0 l.length x w' hx (by omega) (HR.out.mono hb) (HRB.out.mono hb))
   rw [h1] at HEV;rw [h2] at HBV
   clear h1 h2 hx
   go_enter Tryz.func14,Tryz.ntmps14
   go_wp2_with fail
   refine HEV.out.mono ?_
   rintro e w1 ⟨rfl,hb1⟩
   have HB1:=zz hb1;clear hb1
   go_wp2_with fail
   refine (HBV.out _ HB1.out).mono ?_
   rintro e w2 ⟨rfl,hb2⟩
   have HB2:=zz (HB1.out.trans (hb2.mono HB1.out.size));clear hb2
   go_wp2_with fail
   refine (HVA.out _ HB2.out).mono ?_
   rintro e w3 ⟨u,rfl,hown,hb3⟩
   have HO:=zz (own_base (base':=w.heap.size) hown (fun g hg=>Nat.le_trans HB2.out.size (hown.lt g hg).1))
   have HB3:=zz (HB2.out.trans (hb3.mono HB2.out.size))
   clear hown hb3
   go_wp2
   exact bodyPost_ret (v:= .tuple #[u, .bool x.isSome]) (by simp [results,Tryz.results14,go_sem]) rfl (by rw [HN.out];exact ⟨u,rfl,HO.out,HB3.out⟩)
end Go.Proofs.YthillfgjpalpcaaGreatDoor
