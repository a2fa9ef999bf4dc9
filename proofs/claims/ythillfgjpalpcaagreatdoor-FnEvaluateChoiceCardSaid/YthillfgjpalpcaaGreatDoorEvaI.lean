/-
  impl's (*node).evaluate at every tree, and Evaluate, by their contracts.
-/
import Derived.Test.YthillfgjpalpcaaGreatDoorGBr
import Derived.Test.YthillfgjpalpcaaGreatDoorEvA
set_option linter.unusedVariables false
set_option maxHeartbeats 4000000
set_option maxRecDepth 100000
namespace Go.Proofs.YthillfgjpalpcaaGreatDoor
open Go.RowKit
theorem comb_name (env:List Bd) (s:ByteArray) (m:Int) (ks:List (Option (List Cl))):combV env (4,s,m) ks=envO env s:=by simp [combV]
theorem comb_choice (env:List Bd) (s:ByteArray) (m:Int) (o0 o1 o2:Option (List Cl)):combV env (9,s,m) [o0,o1,o2]=choO o0 o1 o2:=by
 cases o0<;>simp [combV,choO]
theorem comb_unary (env:List Bd) (s:ByteArray) (m:Int) (o0:Option (List Cl)):combV env (7,s,m) [o0]=unaO s o0:=by
 cases o0<;>simp [combV,unaO]
theorem comb_list (env:List Bd) (s:ByteArray) (m:Int) (ks:List (Option (List Cl))):combV env (5,s,m) ks=(allO ks).bind lisO:=by simp [combV]
theorem comb_call (env:List Bd) (s:ByteArray) (m:Int) (ks:List (Option (List Cl))):combV env (6,s,m) ks=(allO ks).bind (callF s):=by simp [combV]
theorem comb_leaf (env:List Bd) (k:Int) (hk:k=1∨k=2∨k=3) (s:ByteArray) (m:Int) (ks:List (Option (List Cl))):combV env (k,s,m) ks=some [(k,s,m)]:=by
 rcases hk with rfl|rfl|rfl<;>simp [combV]
theorem comb_binary (env:List Bd) (s:ByteArray) (m:Int) (o0 o1:Option (List Cl)) (hs:1≤signW s.data.toList∧signW s.data.toList≤13):combV env (8,s,m) [o0,o1]=binO s o0 o1:=by
 cases o0 with
 |none=>simp [combV,binO,decO,bothO]
 |some a=>
  by_cases h12:signW s.data.toList=12
  ·cases o1<;>simp [combV,binO,decO,h12]
  ·by_cases h13:signW s.data.toList=13
   ·cases o1<;>simp [combV,binO,decO,h13]
   ·cases o1<;>simp [combV,binO,bothO,h12,h13]
theorem evaluate_all {l:List Cl} {env:List Bd} (h60:l.length≤60) (hal:l.all okC=true) (hbn: ∀b∈env,nmL b.1=true∧okV b.2=true) (hd:diffB env) (hzb:ShortB env) (b o scp B:Nat) (hsc:l.length≤scp) (hcm:scp≤maxLen) (T:Nat→Prop) (j:Nat):
  ∀(N f t d:Nat) (x:Option (List Cl)) (w:World) (S:Nat→Prop),RowC w (.slice (some ⟨b,o,none⟩) l.length scp) l→TrS w (amL l) T [N] f t d→Ev l env 1 f t [x]→t-f≤j→Hi w.heap.size S→EnvV w S B env→Tab w→
  Calls Tryz.prog 46 #[.pointer (some ⟨N,0,none⟩), .agg #[.slice (some ⟨b,o,none⟩) l.length scp, .map (some B)]] w (ResE S x w):=by
 induction j with
 |zero=>intro N f t d x w S hr h hx hj;have:=h.exs.le;simp at this;omega
 |succ j ih=>
  intro N f t d x w S hr h hx hj hS he htab
  obtain ⟨m0,e0,v2,qs,hm,hT,hbk,ho,hro,ht,rfl⟩:=h.inv
  obtain ⟨⟨k,s,m⟩,ks,hc,hks,rfl⟩:=hx.inv
  replace hks:Ev l env m.toNat (f+1) t ks:=hks
  obtain ⟨hfl,hce⟩:=List.getElem?_eq_some_iff.mp hc
  have hokc:okC (k,s,m)=true:=by rw [←hce];exact okC_all hal f hfl
  have hm2:m0=m.toNat:=by
   have h1:=amL_at l f hfl
   rw [hm] at h1
   injection h1 with h1
   rw [h1,hce]
  have hql:qs.length=m.toNat:=by rw [←hm2];exact own_len ho
  have hkl:ks.length=m.toNat:=hks.len
  have hmany:=okC_many hokc
  simp only at hmany
  have hle:=ht.exs.le
  have hP:PartsE w B env qs (.agg #[.slice (some ⟨b,o,none⟩) l.length scp, .map (some B)]) ks:=by
   refine ⟨by omega,fun i hi hi' w' S' hb' hS' he' ht'=> ?_⟩
   obtain ⟨g,g',d0,d1,d2,j1,j2,j3,j4,-⟩:=ht.at i hi
   obtain ⟨p,p',y,e1,e2,e3,e4⟩:=hks.at i (by omega)
   obtain ⟨da,ea⟩:=e2.exs
   have x1:=j1.exs
   rw [List.length_take,Nat.min_eq_left (by omega)] at x1
   obtain ⟨rfl,-⟩:=x1.uniq ea
   obtain ⟨db,eb⟩:=e3.exs
   obtain ⟨rfl,-⟩:=j2.exs.uniq eb
   rw [List.getElem?_eq_getElem hi'] at e1
   injection e1 with e1
   have l1:=j1.exs.le;have l2:=j2.exs.le;have l4:=j4.exs.le
   simp only [List.length_cons,List.length_nil] at l2
   rw [e1]
   exact ih qs[i] g g' d1 y w' S' (hr.mono hb') (j2.keep (S':=T) (fun b _ h=>hb'.block b h) (fun b h _=>h)) e3 (by omega) hS' he' ht'
  refine evaluate_of N (some ⟨b,o,none⟩) l.length scp B S _ w (fun w' hb'=> ?_) htab
  have hn':NodeP w' N qs:=(NodeP.of hbk ho).keep hb'
  have n0:w'.cell? ⟨N,0,none⟩=some (.int .i64 (f:Int)):=(hb'.cell (p:=⟨N,0,none⟩) hbk.lt).trans (hbk.cell 0)
  obtain ⟨ao,cap,hv,h1,h2,h3⟩:=hr.mono hb'
  injection hv with hv1 hv2 hv3
  obtain ⟨b9,o9,ha9,hbl,cc⟩:=h3.resolve_left (by rintro rfl;simp at hfl)
  rw [←hv1] at ha9
  injection ha9 with ha9
  injection ha9 with hb9 ho9
  subst hb9;subst ho9
  obtain ⟨c0,c1,c2⟩:=cc f hfl
  rw [hce] at c0 c1 c2
  have hP':=hP.keep hb'
  have hS':=hS.mono hb'.size
  have he':=he.low hb'
  have ht':=htab.keep hb'
  clear hv1 hv2 hv3 cc h3 h1 h2 ih hP hr hbk ho hro ht hks hc hm
  have hss:s.size≤60:=by
   have hc9:=hokc
   rw [okC,cellB,Bool.and_eq_true] at hc9
   exact word_len _ _ hc9.1
  rcases kind_in hokc with rfl|rfl|rfl|rfl|rfl|rfl|rfl|rfl|rfl
  ·obtain ⟨-,q1,q2⟩:=okC_leaf hokc (by simp) (by simp) (by simp) (by simp) (by simp) (by simp)
   simp only at q1;subst q1
   rw [comb_leaf env 1 (.inl rfl)]
   have q3:=q2
   rw [okVC_1,Bool.and_eq_true] at q3
   exact result_leaf_num N B env qs b o l.length scp f s S w' hn' n0 hfl h60 hsc hcm c0 c1 c2 hS' he' ht' q3.1 hss (one_ok q2 rfl)
  ·obtain ⟨-,q1,q2⟩:=okC_leaf hokc (by simp) (by simp) (by simp) (by simp) (by simp) (by simp)
   simp only at q1;subst q1
   rw [comb_leaf env 2 (.inr (.inl rfl))]
   exact result_leaf_text N B env qs b o l.length scp f s S w' hn' n0 hfl h60 hsc hcm c0 c1 c2 hS' he' ht' hokc (one_ok q2 rfl)
  ·obtain ⟨-,q1,q2⟩:=okC_leaf hokc (by simp) (by simp) (by simp) (by simp) (by simp) (by simp)
   simp only at q1;subst q1
   rw [comb_leaf env 3 (.inr (.inr rfl))]
   have q3:s.data.toList=trueL∨s.data.toList=falseL:=by
    simp only [okC,cellB,Bool.and_eq_true] at hokc
    have:=hokc.1
    simpa [wordB] using this
   exact result_leaf_truth N B env qs b o l.length scp f s S w' hn' n0 hfl h60 hsc hcm c0 c1 c2 hS' he' ht' q3
  ·rw [comb_name]
   exact result_name N B env qs b o l.length scp f s m S w' hn' n0 hfl h60 hsc hcm c0 c1 c2 hS' he' ht' hd hzb hbn hss
  ·rw [comb_list]
   exact result_list ks N B env qs b o l.length scp f s m S w' hn' n0 hfl h60 hsc hcm c0 c1 c2 hS' he' ht' hP' (by omega)
  ·rw [comb_call]
   exact result_call ks N B env qs b o l.length scp f s m S w' hn' n0 hfl h60 hsc hcm c0 c1 c2 hS' he' ht' hP' (by omega) hss
  ·have hm1:m=1:=by
    simp only [okC,cellB,Bool.and_eq_true] at hokc
    simpa [manyB] using hokc.2
   subst hm1
   obtain ⟨o0,rfl⟩:=List.length_eq_one_iff.mp hkl
   rw [comb_unary]
   exact result_unary o0 N B env qs b o l.length scp f s 1 S w' hn' n0 hfl h60 hsc hcm c0 c1 c2 hS' he' ht' hP'
  ·have hm1:m=2:=by
    simp only [okC,cellB,Bool.and_eq_true] at hokc
    simpa [manyB] using hokc.2
   subst hm1
   obtain ⟨o0,o1,rfl⟩:=len_two hkl
   have hrk:0<rankL s.data.toList:=by
    simp only [okC,cellB,wordB,Bool.and_eq_true] at hokc
    simpa using hokc.1
   have hsg:=sign_in hrk
   rw [comb_binary env s 2 o0 o1 hsg]
   exact result_binary o0 o1 N B env qs b o l.length scp f s 2 S w' hn' n0 hfl h60 hsc hcm c0 c1 c2 hS' he' ht' hP' hsg
  ·have hm1:m=3:=by
    simp only [okC,cellB,Bool.and_eq_true] at hokc
    simpa [manyB] using hokc.2
   subst hm1
   obtain ⟨o0,o1,o2,rfl⟩: ∃a b c,ks=[a,b,c]:=by
    match ks,hkl with
    |[a,b,c],_=>exact ⟨a,b,c,rfl⟩
   rw [comb_choice]
   exact result_choice o0 o1 o2 N B env qs b o l.length scp f s 3 S w' hn' n0 hfl h60 hsc hcm c0 c1 c2 hS' he' ht' hP'
theorem evaluate_impl (v ev:Value) (l:List Cl) (env:List Bd) (w:World) (hr:RowC w v l) (hrb:RowB w ev env) (hz:SizedC l) (hzb:ShortB env) (htab:Tab w):
  Calls Tryz.prog 17 #[v,ev] w (NewCB ((evalV l env).getD []) (evalV l env).isSome w):=by
 have HT:=zz (exprTree_any v l w hr hz htab)
 have HBV:=zz (fun w' (hb:Below w.heap.size w w')=>boundValues_any ev env w' (hrb.mono hb) hzb (htab.keep hb))
 have HR:=zz hr;have HTAB:=zz htab;have HZB:=zz hzb
 obtain ⟨ao,cap,rfl,h1,h2,h3⟩:=hr
 obtain ⟨ao2,cap2,rfl,-⟩:=hrb
 have H2:=zz h2
 unfold maxLen at h2
 have H3:=zz h3
 have q1:=fun w=>eqlNo w
 clear hz hzb htab h3
 go_enter Tryz.func17,Tryz.ntmps17
 go_wp2_with fail
 refine HT.out.mono ?_
 rintro e w1 ⟨hb1,⟨N,d,rfl,hok,hd,ht⟩|⟨rfl,hno⟩⟩
 ·have HB1:=zz hb1;have HOK:=zz hok;have HTR:=zz ht
  clear hb1 hok ht
  go_wp2_with fail
  refine (HBV.out _ HB1.out).mono ?_
  rintro e w2 ⟨hb2,⟨B,rfl,hbok,henv⟩|⟨rfl,hbno⟩⟩
  ·obtain ⟨x,hx⟩:=okE_ev env HOK.out
   have HN:=zz (evalV_of HOK.out hbok hx)
   obtain ⟨h60,hal,-⟩:=(okE_iff l).mp HOK.out
   obtain ⟨-,hbn,hdf⟩:=(bindOK_iff env).mp hbok
   have HB2:=zz (HB1.out.trans (hb2.mono HB1.out.size))
   have hln:0<l.length:=by
    have:=hx.exs
    obtain ⟨d9,h9⟩:=this
    have:=h9.le
    omega
   obtain ⟨b,o,rfl,hbl,-⟩:=H3.out.resolve_left (by rintro rfl;simp at hln)
   have HEA:=zz (evaluate_all h60 hal hbn hdf HZB.out b o cap B h1 H2.out (fun b=>w.heap.size≤b∧b<w1.heap.size) l.length N 0 l.length d x w2 (fun b=>w1.heap.size≤b) (HR.out.mono HB2.out) (HTR.out.keep (fun b _ h=>hb2.block b h) (fun b h _=>h)) hx (by omega) (fun b hb=>by have:=hb2.size;omega) henv (HTAB.out.keep HB2.out))
   clear hb2 hbok henv hx h60 hal hbn hdf hln hbl
   go_wp2_with fail
   refine HEA.out.mono ?_
   rintro e w3 ⟨hb3,⟨rfl,hno⟩|⟨u,r,rfl,hv,hrok,hxr⟩⟩
   ·have HB3:=zz (HB2.out.trans (hb3.mono HB2.out.size))
    have HE:=zz (show (evalV l env).getD []=[]∧(evalV l env).isSome=false by rw [HN.out,hno];exact ⟨rfl,rfl⟩)
    clear hb3 hno
    go_wp2
    exact bodyPost_ret (v:= .tuple #[.slice none 0 0, .bool false]) (by simp [results,Tryz.results17,go_sem]) rfl (by rw [HE.out.1,HE.out.2];exact newCB_nil _ _ HB3.out)
   ·have HB3:=zz (HB2.out.trans (hb3.mono HB2.out.size))
    have HE:=zz (show (evalV l env).getD []=r∧(evalV l env).isSome=true by rw [HN.out,hxr];exact ⟨rfl,rfl⟩)
    have happ:=hv.app_ok (HTAB.out.keep HB3.out) 0 (by simp) (by simp)
    simp only [List.getElem_cons_zero] at happ
    have hr60:=((okV_iff r).mp hrok).1
    obtain ⟨Tx,xx,K,rfl,hmeth,heK,hK⟩:=happ
    have HK:=zz (hK w3 w3.heap.size (.slice none 0 0) [] (Below.refl _ _) (Nat.le_refl _) (Nat.le_refl _) (World.ownsRow_nil _ _ _ _) (by simp;omega))
    have q2:=fun w=>eqlIf Tx xx w
    clear hb3 hv hrok hxr hK
    go_wp2_with fail
    refine HK.out.mono ?_
    rintro e w4 ⟨v4,rfl,ho4,hb4,hs4⟩
    have HO4:=zz (show w4.ownsRow w3.heap.size 44 3 v4 r.length (flatC r) by simpa using ho4)
    have HB4:=zz (HB3.out.trans (hb4.mono HB3.out.size))
    have hbs:=HB3.out.size
    clear ho4 hb4
    go_wp2
    exact bodyPost_ret (v:= .tuple #[v4, .bool true]) (by simp [results,Tryz.results17,go_sem]) rfl (by rw [HE.out.1,HE.out.2];exact ⟨v4,rfl,own_base HO4.out (fun g hg=>Nat.le_trans hbs (HO4.out.lt g hg).1),HB4.out⟩)
  ·have HB2:=zz (HB1.out.trans (hb2.mono HB1.out.size))
   have HN:=zz (evalV_no (l:=l) (env:=env) (fun h=>by rw [hbno] at h;cases h.2))
   clear hb2 hbno
   go_wp2
   exact bodyPost_ret (v:= .tuple #[.slice none 0 0, .bool false]) (by simp [results,Tryz.results17,go_sem]) rfl (by rw [HN.out];exact newCB_nil _ _ HB2.out)
 ·have HB1:=zz hb1
  have HN:=zz (evalV_no (l:=l) (env:=env) (fun h=>by rw [hno] at h;cases h.1))
  clear hb1 hno
  go_wp2_with fail
  refine (HBV.out _ HB1.out).mono ?_
  rintro e w2 ⟨hb2,⟨B,rfl,hbok,henv⟩|⟨rfl,hbno⟩⟩
  ·have HB2:=zz (HB1.out.trans (hb2.mono HB1.out.size))
   clear hb2 hbok henv
   go_wp2
   exact bodyPost_ret (v:= .tuple #[.slice none 0 0, .bool false]) (by simp [results,Tryz.results17,go_sem]) rfl (by rw [HN.out];exact newCB_nil _ _ HB2.out)
  ·have HB2:=zz (HB1.out.trans (hb2.mono HB1.out.size))
   clear hb2 hbno
   go_wp2
   exact bodyPost_ret (v:= .tuple #[.slice none 0 0, .bool false]) (by simp [results,Tryz.results17,go_sem]) rfl (by rw [HN.out];exact newCB_nil _ _ HB2.out)
end Go.Proofs.YthillfgjpalpcaaGreatDoor
