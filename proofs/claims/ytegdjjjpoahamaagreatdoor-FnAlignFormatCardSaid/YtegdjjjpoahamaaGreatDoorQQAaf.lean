/-
  Part of the proof of FnAlignDocument.
-/
import Derived.Test.YtegdjjjpoahamaaGreatDoorQQAae
import Derived.Test.YtegdjjjpoahamaaGreatDoorDrawSound
import Derived.Deep.AppendLies
import Derived.Deep.QuietTactic
import Derived.BigQuiet
set_option linter.unusedVariables false
set_option maxHeartbeats 8000000
set_option maxRecDepth 100000
namespace Go.Proofs.YtegdjjjpoahamaaGreatDoor
theorem step_back (m:Int×Nat×List (Int×Nat×Nat)) (a b:Nat) (h:(stepM (stepM m a 32) b 32).1=0):(stepM m a 32).1=0:=by
 obtain ⟨st,f,X⟩:=m
 by_cases h1:nB st 32=true
 ·exfalso
  have hst:st=3∨st=4∨st=11:=by
   unfold nB at h1
   by_cases a1:st=1
   ·subst a1;exact absurd h1 (by decide)
   by_cases a2:st=2
   ·subst a2;exact absurd h1 (by decide)
   by_cases a3:st=3
   ·exact .inl a3
   by_cases a4:st=4
   ·exact .inr (.inl a4)
   by_cases a11:st=11
   ·exact .inr (.inr a11)
   rw [if_neg a1,if_neg a2,if_neg (by omega)] at h1
   repeat' split at h1
   all_goals first|omega|(exact absurd h1 (by decide))|(exact absurd (of_decide_eq_true h1) a11)
  rcases hst with rfl|rfl|rfl
  ·simp [stepM,nB,nS,inTextI] at h
  ·simp [stepM,nB,nS,inTextI] at h
  ·simp [stepM,nB,nS] at h
 ·by_cases h2:st=0
  ·subst h2;rw [step_zero];exact first_space
  ·by_cases h3:kI st=0
   ·exfalso
    have e:stepM (st,f,X) a 32=(11,f,X):=by simp [stepM,h1,h2,h3]
    rw [e,step_stuck] at h
    simp at h
   ·rw [step_ends st f a X 32 h3 (by simpa using h1)];exact first_space
theorem end_snoc (l:List UInt8):endM (0,0,[]) 0 (l++[32])=stepM (endM (0,0,[]) 0 l) (l.length+1) 32:=by
 unfold endM
 rw [runM_snoc,List.length_append,Nat.zero_add,Nat.zero_add]
 rfl
theorem res_snoc (l:List UInt8):resB (0,0,[]) 0 (l++[32])=resB (0,0,[]) 0 l∧resL (0,0,[]) 0 (l++[32])=resL (0,0,[]) 0 l:=by
 by_cases h:(endM (0,0,[]) 0 l).1=0
 ·have e:endM (0,0,[]) 0 (l++[32])=(0,l.length+1,(endM (0,0,[]) 0 l).2.2):=by
   rw [end_snoc]
   generalize endM (0,0,[]) 0 l=m at h⊢
   obtain ⟨st,f,X⟩:=m
   simp only at h
   subst h
   rw [step_zero,first_space]
  have r1:resB (0,0,[]) 0 l=true:=by rw [resB,h];rfl
  have r2:resB (0,0,[]) 0 (l++[32])=true:=by rw [resB,e];rfl
  exact ⟨by rw [r1,r2],by rw [resL,if_pos r2,resL,if_pos r1,e]⟩
 ·have h': ¬(endM (0,0,[]) 0 (l++[32])).1=0:=by
   intro k
   rw [end_snoc] at k
   exact h (step_back (runM (0,0,[]) 0 l) _ _ k)
  have r1:resB (0,0,[]) 0 l=false:=by rw [resB,decide_eq_false h]
  have r2:resB (0,0,[]) 0 (l++[32])=false:=by rw [resB,decide_eq_false h']
  exact ⟨by rw [r1,r2],by rw [resL,r2,resL,r1];rfl⟩
theorem res_cons (l:List UInt8):resB (0,0,[]) 0 (32::l)=resB (0,0,[]) 0 l∧resL (0,0,[]) 0 (32::l)=(resL (0,0,[]) 0 l).map (shT 1):=by
 have e:endM (0,0,[]) 0 (32::l)=shM 1 [] (endM (0,0,[]) 0 l):=by
  rw [end_space _ _ _ _ _ (by decide),end_from]
  have:=end_sh 1 [] l (0,0,[]) 0
  simpa [shM] using this
 have h1:resB (0,0,[]) 0 (32::l)=resB (0,0,[]) 0 l:=by rw [resB,e,resB];rfl
 refine ⟨h1, ?_⟩
 rw [resL,h1,resL,e]
 cases resB (0,0,[]) 0 l with
 |false=>rfl
 |true=>simp [shM]
theorem ba_size (l:List UInt8):(baL l).size=l.length:=by simp [baL,ByteArray.size]
theorem okT_ba (l:List UInt8):okT (baL l)=(decide (l.length≤20000)&&plainL l&&resB (0,0,[]) 0 l):=by rw [okT,ba_size,baL_list]
theorem tkL_snoc (l:List UInt8) (hl:l.length+1≤20000):rdTk (baL (l++[32]))=rdTk (baL l):=by
 obtain ⟨r1,r2⟩:=res_snoc l
 have hok:okT (baL (l++[32]))=okT (baL l):=by
  rw [okT_ba,okT_ba,r1,plain_app,List.length_append]
  have e1:decide (l.length+[(32:UInt8)].length≤20000)=true:=decide_eq_true hl
  have e2:decide (l.length≤20000)=true:=decide_eq_true (by omega)
  have e3:plainL [32]=true:=by decide
  rw [e1,e2,e3,Bool.and_true]
 have htk:toksT (baL (l++[32]))=toksT (baL l):=by
  rw [toksT,hok,toksT]
  cases okT (baL l) with
  |false=>rfl
  |true=>rw [if_pos rfl,if_pos rfl,baL_list,baL_list,r2]
 have hin:=(toks_facts (baL l)).2.1
 rw [rdTk,rdTk,htk]
 apply List.map_congr_left
 intro x hx
 obtain ⟨q1,q2⟩:=hin x hx
 rw [ba_size] at q2
 congr 1
 apply ba_eq
 rw [ByteArray.data_extract,ByteArray.data_extract,Array.toList_extract,Array.toList_extract,List.extract_eq_take_drop,List.extract_eq_take_drop,baL_list,baL_list,List.drop_append_of_le_length (by omega),List.take_append_of_le_length (by rw [List.length_drop];omega)]
theorem tk_cons (l:List UInt8) (hl:l.length+1≤20000):rdTk (baL (32::l))=rdTk (baL l):=by
 obtain ⟨r1,r2⟩:=res_cons l
 have hok:okT (baL (32::l))=okT (baL l):=by
  rw [okT_ba,okT_ba,r1,plain_cons,List.length_cons]
  have e1:decide (l.length+1≤20000)=true:=decide_eq_true hl
  have e2:decide (l.length≤20000)=true:=decide_eq_true (by omega)
  have e3:plainI (((32:UInt8).toNat:Nat):Int)=true:=by decide
  rw [e1,e2,e3,Bool.true_and]
 have htk:toksT (baL (32::l))=(toksT (baL l)).map (shT 1):=by
  rw [toksT,hok,toksT]
  cases okT (baL l) with
  |false=>rfl
  |true=>rw [if_pos rfl,if_pos rfl,baL_list,baL_list,r2]
 have hin:=(toks_facts (baL l)).2.1
 rw [rdTk,rdTk,htk,List.map_map]
 apply List.map_congr_left
 intro x hx
 obtain ⟨q1,q2⟩:=hin x hx
 simp only [Function.comp,shT]
 congr 1
 apply ba_eq
 rw [ByteArray.data_extract,ByteArray.data_extract,Array.toList_extract,Array.toList_extract,List.extract_eq_take_drop,List.extract_eq_take_drop,baL_list,baL_list,show x.2.2+1-(x.2.1+1)=x.2.2-x.2.1 by omega,List.drop_succ_cons]
theorem tk_pad: ∀(a b:Nat) (l:List UInt8),a+(l.length+b)≤20000→rdTk (baL (spL a++(l++spL b)))=rdTk (baL l):=by
 intro a
 induction a with
 |zero=>
  intro b
  induction b with
  |zero=>intro l _;rw [show spL 0=[] from rfl,List.nil_append,List.append_nil]
  |succ b ih=>
   intro l h
   have e:spL 0++(l++spL (b+1))=(spL 0++(l++spL b))++[32]:=by
    rw [show spL (b+1)=spL b++[32] by unfold spL;exact List.replicate_succ',show spL 0=[] from rfl]
    simp
   rw [e,tkL_snoc _ (by simp [spL];omega)]
   exact ih l (by omega)
 |succ a ih=>
  intro b l h
  have e:spL (a+1)++(l++spL b)=32::(spL a++(l++spL b)):=rfl
  rw [e,tk_cons _ (by simp [spL];omega)]
  exact ih b l (by omega)
theorem tk_trim (l:List UInt8) (h:l.length≤20000):rdTk (baL l)=rdTk (baL (trimL l)):=by
 obtain ⟨a,b,e,-,-⟩:=trim_parts l
 have hl:=congrArg List.length e
 rw [List.length_append,List.length_append,show (spL a).length=a by simp [spL],show (spL b).length=b by simp [spL]] at hl
 have:=tk_pad a b (trimL l) (by omega)
 rw [←e] at this
 exact this
theorem rd_trim {l:List UInt8} (h:l.length≤20000) (c:List Cl):RdOK (baL l) c↔RdOK (baL (trimL l)) c:=by
 unfold RdOK;rw [tk_trim l h]
open Classical in
noncomputable def rdI (s:ByteArray):List Cl:=if h: ∃c,RdOK s c then h.choose else []
theorem rdI_of {s:ByteArray} {c:List Cl} (h:RdOK s c):rdI s=c:=by
 have hx: ∃c,RdOK s c:=⟨c,h⟩
 unfold rdI;rw [dif_pos hx]
 exact hx.choose_spec.uniq h
theorem rdI_no {s:ByteArray} (h: ∀c,¬RdOK s c):rdI s=[]:=by
 unfold rdI;rw [dif_neg];rintro ⟨c,hc⟩;exact h c hc
theorem rdI_trim {l:List UInt8} (h:l.length≤20000):rdI (baL l)=rdI (baL (trimL l)):=by
 by_cases hx: ∃c,RdOK (baL l) c
 ·obtain ⟨c,hc⟩:=hx
  rw [rdI_of hc,rdI_of ((rd_trim h c).mp hc)]
 ·rw [rdI_no (fun c hc=>hx ⟨c,hc⟩),rdI_no (fun c hc=>hx ⟨c,(rd_trim h c).mpr hc⟩)]
theorem rdI_text {l:List Cl} (h:okE l=true):rdI (baL (textE l))=l:=rdI_of (text_reads h)
theorem rdI_ok (s:ByteArray):rdI s=[]∨RdOK s (rdI s):=by
 by_cases hx: ∃c,RdOK s c
 ·obtain ⟨c,hc⟩:=hx
  rw [rdI_of hc];exact .inr hc
 ·exact .inl (rdI_no (fun c hc=>hx ⟨c,hc⟩))
open Go.RowKit
theorem rd_sized (s:ByteArray):SizedC (rdI s)∧(rdI s).length≤60:=by
 rcases rdI_ok s with h|h
 ·rw [h];exact ⟨fun c hc=>(by cases hc),by simp⟩
 ·refine ⟨?_,((okE_iff _).mp h.2).1⟩
  obtain ⟨⟨n,hn,-⟩,-⟩:=h
  intro x hx
  have:=hn.words (B:=20000) (by omega) (fun p k w hp=>(sp_sizes s).1 _ (List.mem_of_getElem? hp)) (fun x hx=>by cases hx) x hx
  unfold maxLen;omega
theorem scBel {W w w':World} {L:Nat} (hb:Below W.heap.size W w) (hg:w.grownBy w' (some L)) (hL:W.heap.size≤L):Below W.heap.size W w':=
 hb.grown hg hb.size (fun r hr=>by injection hr with hr;omega)
theorem own_sc {w w':World} {base n L:Nat} {e:TypeId} {size:Nat} {v:Value} {xs:List Value} (h:w.ownsRow base e size v n xs) (hg:w.grownBy w' (some L)) (hL:L<base):w'.ownsRow base e size v n xs:=
 own_keep h (fun g hg2=>hg.block g (h.lt g hg2).2 (fun e=>by injection e with e;have:=(h.lt g hg2).1;omega))
def NewIt (i:It) (w:World) (e:Ending) (w':World):Prop:=
 ∃v,e= .returned (.agg #[.int .i64 i.1, .string i.2.1,v, .string i.2.2.2])∧w'.ownsRow w.heap.size 110 3 v i.2.2.1.length (flatC i.2.2.1)
theorem take_note (c:List UInt8):trimL (Lib.trimPrefix (cutR c) [35])=behL c:=by
 rcases cutR_head c with ⟨h1,h2⟩|⟨t,h1,h2⟩
 ·rw [h1,h2];rfl
 ·rw [h1,h2]
  unfold Lib.trimPrefix Lib.hasPrefix
  rw [if_pos (by simp)];rfl
theorem takeP_len (c p:List UInt8):(Lib.trimPrefix c p).length≤c.length:=by
 unfold Lib.trimPrefix
 split
 ·rw [List.length_drop];omega
 ·exact Nat.le_refl _
theorem cutR_len (c:List UInt8):(cutR c).length≤c.length∧(cutH c).length≤c.length:=by
 rw [(code_take c).1,(code_take c).2,List.length_drop,List.length_take];omega
theorem scFin {w w4:World} {L len:Nat} {v y0 y1 y2 y3:Value} {xs:List Value} (hg:w.grownBy w4 (some L)) (ho:w4.ownsRow (w.heap.size+1) 110 3 v len xs):
  ((((w4.setCell ⟨w.heap.size,0,none⟩ y0).setCell ⟨w.heap.size,1,none⟩ y1).setCell ⟨w.heap.size,2,none⟩ y2).setCell ⟨w.heap.size,3,none⟩ y3).ownsRow w.heap.size 110 3 v len xs∧
  w.grownBy ((((w4.setCell ⟨w.heap.size,0,none⟩ y0).setCell ⟨w.heap.size,1,none⟩ y1).setCell ⟨w.heap.size,2,none⟩ y2).setCell ⟨w.heap.size,3,none⟩ y3) (some L):=by
 have hs: ∀(x:World) (j:Nat) (y:Value),(x.setCell ⟨w.heap.size,j,none⟩ y).heap.size=x.heap.size:=fun x j y=>by simp [World.setCell]
 refine ⟨own_base (own_keep ho (fun g hg=> ?_)) (fun g hg=> ?_), ?_⟩
 ·have hbn:g≠w.heap.size:=by have:=(ho.lt g hg).1;omega
  rw [Below.heap_setCell _ _ _ _ hbn,Below.heap_setCell _ _ _ _ hbn,Below.heap_setCell _ _ _ _ hbn,Below.heap_setCell _ _ _ _ hbn]
 ·have:=(ho.lt g hg).1;omega
 ·refine ⟨hg.os,hg.tape,hg.output, ?_,fun b hb hn=> ?_⟩
  ·rw [hs,hs,hs,hs];exact hg.size
  ·have hbn:b≠w.heap.size:=by omega
   rw [Below.heap_setCell _ _ _ _ hbn,Below.heap_setCell _ _ _ _ hbn,Below.heap_setCell _ _ _ _ hbn,Below.heap_setCell _ _ _ _ hbn]
   exact hg.block b hb hn
theorem scEntry (W:World) (nm:ByteArray) (l:List UInt8) (L:Nat) (w:World) (h:ScAt w L l) (hl:l.length≤2097152) (hb:Below W.heap.size W w) (hL:W.heap.size≤L) (htab:Tab W):
  Calls Tryz.prog 118 #[.pointer (some ⟨L,0,none⟩), .string nm] w fun e w'=>NewIt (3,nm,rdI (baL (cutH l)),baL (behL l)) w e w'∧w.grownBy w' (some L):=by
 have HLT:=Lib.hid h.lt
 have HBA:=Lib.hid (World.grownBy_alloc w (.cells #[.int .i64 0, .string ⟨#[]⟩, .slice none 0 0, .string ⟨#[]⟩] 32) (some L))
 have HZ:=Lib.hid (It4.new w (.int .i64 0) (.string ⟨#[]⟩) (.slice none 0 0) (.string ⟨#[]⟩) 32)
 have HC:=Lib.hid (scCode l L (w.alloc (.cells #[.int .i64 0, .string ⟨#[]⟩, .slice none 0 0, .string ⟨#[]⟩] 32)) (h.below ((Below.refl _ _).alloc (Nat.le_refl _) _)) hl)
 have HB:=Lib.hid hb;have HT:=Lib.hid htab
 obtain ⟨hc1,hc2⟩:=cutR_len l
 clear h hb htab
 go_enter Tryz.func118,Tryz.ntmps118
 go_wp2_with fail
 refine HC.out.mono ?_
 rintro e w1 ⟨rfl,hs1,hg1⟩
 have HG1:=Lib.hid (scTr HBA.out hg1);have HS1:=Lib.hid hs1
 have HZ1:=Lib.hid (HZ.out.grown hg1 (by have:=HLT.out;intro e;injection e with e;omega))
 clear hs1 hg1
 go_wp2_with fail
 refine (readExpr_impl (baL (cutH l)) w1 (by rw [bl_size];omega) (HT.out.keep (scBel HB.out HG1.out hL))).mono ?_
 rintro e w2 ⟨hb2,hres⟩
 obtain ⟨v,ok,rfl,hown⟩: ∃(v:Value) (ok:Bool),e= .returned (.tuple #[v, .bool ok])∧w2.ownsRow w1.heap.size 110 3 v (rdI (baL (cutH l))).length (flatC (rdI (baL (cutH l)))):=by
  rcases hres with ⟨v,c,rfl,hc,ho⟩|⟨rfl,hno⟩
  ·rw [rdI_of hc];exact ⟨v,true,rfl,ho⟩
  ·rw [rdI_no hno];exact ⟨_,false,rfl,World.ownsRow_nil _ _ _ _⟩
 obtain ⟨va,vc,rfl⟩:=own_shape hown
 have HG2:=Lib.hid (scTr HG1.out (show w1.grownBy w2 (some L) from ⟨hb2.os,hb2.tape,hb2.output,hb2.size,fun i hi _=>hb2.block i hi⟩));have HS2:=Lib.hid (HS1.out.below hb2);have HZ2:=Lib.hid (HZ1.out.keep hb2);have HO2:=Lib.hid hown
 have HL1:=Lib.hid (show L<w1.heap.size from HS1.out.lt)
 have HW1:=Lib.hid (show w.heap.size<w1.heap.size from by have:=HZ1.out.2.2;exact this)
 clear hres hown hb2 HS1 HZ1
 go_wp2_with fail
 refine (scTake ⟨#[35]⟩ _ L w2 HS2.out).mono ?_
 rintro e w3 ⟨rfl,hs3,hg3⟩
 have HG3:=Lib.hid (scTr HG2.out hg3);have HS3:=Lib.hid hs3;have HO3:=Lib.hid (own_sc HO2.out hg3 HL1.out)
 have HZ3:=Lib.hid (HZ2.out.grown hg3 (by have:=HLT.out;intro e;injection e with e;omega))
 have h3:=takeP_len (cutR l) [35]
 clear hs3 hg3 HS2 HO2 HZ2
 go_wp2_with fail
 refine (scNote (Lib.trimPrefix (cutR l) [35]) L w3 HS3.out (by omega)).mono ?_
 rintro e w4 ⟨rfl,hs4,hg4⟩
 have HG4:=Lib.hid (scTr HG3.out hg4);have HO4:=Lib.hid (own_sc HO3.out hg4 HL1.out)
 have HZ4:=Lib.hid (HZ3.out.grown hg4 (by have:=HLT.out;intro e;injection e with e;omega))
 rw [take_note]
 clear hs4 hg4 HS3 HO3 HZ3
 obtain ⟨⟨z0,z1,z2,z3⟩,⟨y0,y1,y2,y3⟩,hz⟩:=HZ4.out
 have HFIN:=Lib.hid (fun y0 y1 y2 y3=>scFin (y0:=y0) (y1:=y1) (y2:=y2) (y3:=y3) HG4.out (own_base HO4.out (fun g hg=>by have:=(HO4.out.lt g hg).1;have:=HW1.out;omega)))
 go_wp2
 exact bodyPost_ret (v:= .agg #[.int .i64 3, .string nm, .slice va (rdI (baL (cutH l))).length vc, .string (baL (behL l))]) (by simp [results,Tryz.results118,go_sem,z0,z1,z2,z3]) rfl ⟨⟨_,rfl,(HFIN.out _ _ _ _).1⟩,(HFIN.out _ _ _ _).2⟩
theorem hasP_head (l:List UInt8) (b:UInt8):Lib.hasPrefix l [b]=decide (l.head? =some b):=by
 cases l with
 |nil=>simp [Lib.hasPrefix,List.isPrefixOf]
 |cons a l=>
  by_cases h:a=b
  ·subst h;simp [Lib.hasPrefix,List.isPrefixOf]
  ·have h': ¬b=a:=fun e=>h e.symm
   simp [Lib.hasPrefix,List.isPrefixOf,h,h']
theorem trimP_yes {l:List UInt8} {b:UInt8} (h:l.head? =some b):Lib.trimPrefix l [b]=l.drop 1:=by
 unfold Lib.trimPrefix;rw [hasP_head,if_pos (by simpa using h)];rfl
theorem trimP_no {l:List UInt8} {b:UInt8} (h:l.head? ≠some b):Lib.trimPrefix l [b]=l:=by
 unfold Lib.trimPrefix;rw [hasP_head,if_neg (by simpa using h)]
theorem nmQ_len (l:List UInt8):(nmQ l).length≤l.length:=by rw [nmQ_drop,List.length_drop];omega
theorem trL_len (l:List UInt8):(trL l).length≤l.length:=by
 obtain ⟨k,hk⟩:=trL_drop l
 rw [hk,List.length_drop];omega
theorem new_nil {w w':World} (k:Int) (n t:ByteArray):NewIt (k,n,[],t) w (.returned (.agg #[.int .i64 k, .string n, .slice none 0 0, .string t])) w':=⟨_,rfl,World.ownsRow_nil _ _ _ _⟩
theorem stored_grown {w w4:World} {L:Nat} {y0 y1 y2 y3:Value} (hg:w.grownBy w4 (some L)):w.grownBy ((((w4.setCell ⟨w.heap.size,0,none⟩ y0).setCell ⟨w.heap.size,1,none⟩ y1).setCell ⟨w.heap.size,2,none⟩ y2).setCell ⟨w.heap.size,3,none⟩ y3) (some L):=
 (scFin hg (World.ownsRow_nil w4 (w.heap.size+1) 110 3)).2
theorem scItem (W:World) (l:List UInt8) (L:Nat) (w:World) (h:ScAt w L l) (hl:l.length≤2097152) (hb:Below W.heap.size W w) (hL:W.heap.size≤L) (htab:Tab W):
  Calls Tryz.prog 74 #[.pointer (some ⟨L,0,none⟩)] w fun e w'=>NewIt (rawP rdI l) w e w'∧w.grownBy w' (some L):=by
 have HLT:=Lib.hid h.lt
 have HBA:=Lib.hid (World.grownBy_alloc w (.cells #[.int .i64 0, .string ⟨#[]⟩, .slice none 0 0, .string ⟨#[]⟩] 32) (some L))
 have HZ:=Lib.hid (It4.new w (.int .i64 0) (.string ⟨#[]⟩) (.slice none 0 0) (.string ⟨#[]⟩) 32)
 have HS0:=Lib.hid (h.below ((Below.refl w.heap.size w).alloc (Nat.le_refl _) (.cells #[.int .i64 0, .string ⟨#[]⟩, .slice none 0 0, .string ⟨#[]⟩] 32)))
 have HB:=Lib.hid hb;have HT:=Lib.hid htab;have HLL:=Lib.hid hL
 obtain ⟨d0,-⟩:=HS0.out.cells
 clear h hb htab hL
 by_cases c1:l=[]
 ·subst c1
  have HR:=Lib.hid (show rawP rdI []=(1,⟨#[]⟩,[],⟨#[]⟩) by rw [rawP,if_pos rfl])
  have e0:(baL ([]:List UInt8)).toList=[]:=ByteArray.toList_eq _
  go_enter Tryz.func74,Tryz.ntmps74
  go_wp2
  exact bodyPost_ret (v:= .agg #[.int .i64 1, .string ⟨#[]⟩, .slice none 0 0, .string ⟨#[]⟩]) (by simp [results,Tryz.results74,go_sem]) rfl ⟨by rw [HR.out];exact new_nil _ _ _,World.grownBy_alloc _ _ _⟩
 by_cases c2:l=[125]
 ·subst c2
  have HR:=Lib.hid (show rawP rdI [125]=(5,⟨#[]⟩,[],⟨#[]⟩) by rw [rawP,if_neg (by simp),if_pos rfl])
  have e0:(baL ([125]:List UInt8)).toList=[125]:=ByteArray.toList_eq _
  go_enter Tryz.func74,Tryz.ntmps74
  go_wp2
  exact bodyPost_ret (v:= .agg #[.int .i64 5, .string ⟨#[]⟩, .slice none 0 0, .string ⟨#[]⟩]) (by simp [results,Tryz.results74,go_sem]) rfl ⟨by rw [HR.out];exact new_nil _ _ _,World.grownBy_alloc _ _ _⟩
 have t1:((baL l).toList==[])=false:=by rw [beq_eq_false_iff_ne,ByteArray.toList_eq];exact c1
 have t2:((baL l).toList==[125])=false:=by rw [beq_eq_false_iff_ne,ByteArray.toList_eq];exact c2
 have HTK:=Lib.hid (scTake ⟨#[35]⟩ l L (w.alloc (.cells #[.int .i64 0, .string ⟨#[]⟩, .slice none 0 0, .string ⟨#[]⟩] 32)) HS0.out)
 by_cases c3:l.head? =some 35
 ·have HR:=Lib.hid (show rawP rdI l=(2,⟨#[]⟩,[],baL (trimL (l.drop 1))) by rw [rawP,if_neg c1,if_neg c2,if_pos c3])
  rw [show (⟨#[35]⟩:ByteArray).data.toList=[35] from rfl,hasP_head,trimP_yes c3,decide_eq_true c3] at HTK
  clear c1 c2 c3
  go_enter Tryz.func74,Tryz.ntmps74
  go_wp2_with fail
  refine HTK.out.mono ?_
  rintro e w1 ⟨rfl,hs1,hg1⟩
  have HG1:=Lib.hid (scTr HBA.out hg1);have HS1:=Lib.hid hs1
  have HZ1:=Lib.hid (HZ.out.grown hg1 (by have:=HLT.out;intro e;injection e with e;omega))
  clear hs1 hg1 HTK d0
  go_wp2_with fail
  refine (scNote _ L w1 HS1.out (by rw [List.length_drop];omega)).mono ?_
  rintro e w2 ⟨rfl,hs2,hg2⟩
  have HG2:=Lib.hid (scTr HG1.out hg2)
  have HZ2:=Lib.hid (HZ1.out.grown hg2 (by have:=HLT.out;intro e;injection e with e;omega))
  obtain ⟨⟨z0,z1,z2,z3⟩,⟨y0,y1,y2,y3⟩,hz⟩:=HZ2.out
  clear hs2 hg2 HS1 HZ1
  generalize baL (trimL (l.drop 1))=nt at HR
  go_wp2
  exact bodyPost_ret (v:= .agg #[.int .i64 2, .string ⟨#[]⟩, .slice none 0 0, .string nt]) (by simp [results,Tryz.results74,go_sem,z0,z1,z2,z3]) rfl ⟨by rw [HR.out];exact new_nil _ _ _,stored_grown HG2.out⟩
 rw [show (⟨#[35]⟩:ByteArray).data.toList=[35] from rfl,hasP_head,trimP_no c3,decide_eq_false c3] at HTK
 have hq1:=nmQ_len l
 have hq2:=trL_len (nmQ l)
 have HC:=Lib.hid (And.intro c1 (And.intro c2 c3))
 clear c1 c2 c3
 go_enter Tryz.func74,Tryz.ntmps74
 go_wp2_with fail
 refine HTK.out.mono ?_
 rintro e w1 ⟨rfl,hs1,hg1⟩
 have HG1:=Lib.hid (scTr HBA.out hg1);have HS1:=Lib.hid hs1
 have HZ1:=Lib.hid (HZ.out.grown hg1 (by have:=HLT.out;intro e;injection e with e;omega))
 clear hs1 hg1 HTK d0 t1 t2
 go_wp2_with fail
 refine (scPart l L w1 HS1.out hl).mono ?_
 rintro e w2 ⟨rfl,hs2,hg2⟩
 have HG2:=Lib.hid (scTr HG1.out hg2);have HS2:=Lib.hid hs2
 have HZ2:=Lib.hid (HZ1.out.grown hg2 (by have:=HLT.out;intro e;injection e with e;omega))
 clear hs2 hg2 HS1 HZ1
 go_wp2_with fail
 refine (scSkip (nmQ l) L w2 HS2.out).mono ?_
 rintro e w3 ⟨rfl,hs3,hg3⟩
 have HG3:=Lib.hid (scTr HG2.out hg3);have HS3:=Lib.hid hs3
 have HZ3:=Lib.hid (HZ2.out.grown hg3 (by have:=HLT.out;intro e;injection e with e;omega))
 clear hs3 hg3 HS2 HZ2
 obtain ⟨d3,-⟩:=HS3.out.cells
 obtain ⟨⟨z0,z1,z2,z3⟩,⟨y0,y1,y2,y3⟩,hz⟩:=HZ3.out
 have HTQ:=Lib.hid (scTake ⟨#[61]⟩ (trL (nmQ l)) L w3 HS3.out)
 have HRD:=Lib.hid (show rawP rdI l=if trL (nmQ l)=[123] then (4,baL (nmP l),[],⟨#[]⟩) else if (trL (nmQ l)).head? =some 61 then (3,baL (nmP l),rdI (baL (cutH ((trL (nmQ l)).drop 1))),baL (behL ((trL (nmQ l)).drop 1))) else (0,⟨#[]⟩,[],⟨#[]⟩) by rw [rawP,if_neg HC.out.1,if_neg HC.out.2.1,if_neg HC.out.2.2])
 generalize trL (nmQ l)=q at d3 HTQ HRD hq2
 generalize baL (nmP l)=nm at HRD
 clear HS3 HC
 by_cases c4:q=[123]
 ·subst c4
  have e0:(baL ([123]:List UInt8)).toList=[123]:=ByteArray.toList_eq _
  have HR:=Lib.hid (show rawP rdI l=(4,nm,[],⟨#[]⟩) by rw [HRD.out,if_pos rfl])
  go_wp2
  exact bodyPost_ret (v:= .agg #[.int .i64 4, .string nm, .slice none 0 0, .string ⟨#[]⟩]) (by simp [results,Tryz.results74,go_sem,z0,z1,z2,z3]) rfl ⟨by rw [HR.out];exact new_nil _ _ _,stored_grown HG3.out⟩
 have t4:((baL q).toList==[123])=false:=by rw [beq_eq_false_iff_ne,ByteArray.toList_eq];exact c4
 by_cases c5:q.head? =some 61
 ·have HR:=Lib.hid (show rawP rdI l=(3,nm,rdI (baL (cutH (q.drop 1))),baL (behL (q.drop 1))) by rw [HRD.out,if_neg c4,if_pos c5])
  rw [show (⟨#[61]⟩:ByteArray).data.toList=[61] from rfl,hasP_head,trimP_yes c5,decide_eq_true c5] at HTQ
  clear c4 c5 z0 z1 z2 z3 y0 y1 y2 y3 hz
  go_wp2_with fail
  refine HTQ.out.mono ?_
  rintro e w4 ⟨rfl,hs4,hg4⟩
  have HG4:=Lib.hid (scTr HG3.out hg4);have HS4:=Lib.hid hs4
  have HZ4:=Lib.hid (HZ3.out.grown hg4 (by have:=HLT.out;intro e;injection e with e;omega))
  have HW4:=Lib.hid (show w.heap.size<w4.heap.size from HZ4.out.2.2)
  clear hs4 hg4 HTQ d3 t4 HZ3
  go_wp2_with fail
  refine (scEntry W nm (q.drop 1) L w4 HS4.out (by rw [List.length_drop];omega) (scBel HB.out HG4.out HLL.out) HLL.out HT.out).mono ?_
  rintro e w5 ⟨⟨v,rfl,ho5⟩,hg5⟩
  simp only at ho5
  obtain ⟨va,vc,rfl⟩:=own_shape ho5
  have HG5:=Lib.hid (scTr HG4.out hg5);have HO5:=Lib.hid (own_base (base':=w.heap.size+1) ho5 (fun g hg=>by have:=(ho5.lt g hg).1;have:=HW4.out;omega))
  obtain ⟨⟨z0,z1,z2,z3⟩,⟨y0,y1,y2,y3⟩,hz⟩:=HZ4.out.grown hg5 (by have:=HLT.out;intro e;injection e with e;omega)
  clear ho5 hg5 HS4 HZ4
  generalize rdI (baL (cutH (q.drop 1)))=R at HR HO5
  generalize baL (behL (q.drop 1))=nt at HR
  have HFIN:=Lib.hid (fun y0 y1 y2 y3=>scFin (y0:=y0) (y1:=y1) (y2:=y2) (y3:=y3) HG5.out HO5.out)
  go_wp2
  exact bodyPost_ret (v:= .agg #[.int .i64 3, .string nm, .slice va R.length vc, .string nt]) (by simp [results,Tryz.results74,go_sem,z0,z1,z2,z3]) rfl ⟨by rw [HR.out];exact ⟨_,rfl,(HFIN.out _ _ _ _).1⟩,(HFIN.out _ _ _ _).2⟩
 ·have HR:=Lib.hid (show rawP rdI l=(0,⟨#[]⟩,[],⟨#[]⟩) by rw [HRD.out,if_neg c4,if_neg c5])
  rw [show (⟨#[61]⟩:ByteArray).data.toList=[61] from rfl,hasP_head,decide_eq_false c5] at HTQ
  clear c4 c5 z0 z1 z2 z3 y0 y1 y2 y3 hz
  go_wp2_with fail
  refine HTQ.out.mono ?_
  rintro e w4 ⟨rfl,hs4,hg4⟩
  have HG4:=Lib.hid (scTr HG3.out hg4)
  obtain ⟨⟨z0,z1,z2,z3⟩,⟨y0,y1,y2,y3⟩,hz⟩:=HZ3.out.grown hg4 (by have:=HLT.out;intro e;injection e with e;omega)
  clear hs4 hg4 HTQ d3 t4 HZ3
  go_wp2
  exact bodyPost_ret (v:= .agg #[.int .i64 0, .string ⟨#[]⟩, .slice none 0 0, .string ⟨#[]⟩]) (by simp [results,Tryz.results74,go_sem,z0,z1,z2,z3]) rfl ⟨by rw [HR.out];exact new_nil _ _ _,stored_grown HG4.out⟩
theorem raw_sized (l:List UInt8) (hl:l.length≤2097152):(rawP rdI l).2.1.size≤2097152∧SizedC (rawP rdI l).2.2.1∧(rawP rdI l).2.2.1.length≤60∧(rawP rdI l).2.2.2.size≤2097152:=by
 have h1:(nmP l).length≤l.length:=by
  have:=congrArg List.length (nm_take l)
  rw [List.length_take] at this;omega
 have h2:=nmQ_len l
 have h3:=trL_len (nmQ l)
 have hz:SizedC []:=fun c hc=>by cases hc
 have e0:(⟨#[]⟩:ByteArray).size=0:=rfl
 unfold rawP
 split
 ·exact ⟨by show (⟨#[]⟩:ByteArray).size≤_;omega,hz,by simp,by show (⟨#[]⟩:ByteArray).size≤_;omega⟩
 split
 ·exact ⟨by show (⟨#[]⟩:ByteArray).size≤_;omega,hz,by simp,by show (⟨#[]⟩:ByteArray).size≤_;omega⟩
 split
 ·refine ⟨by show (⟨#[]⟩:ByteArray).size≤_;omega,hz,by simp, ?_⟩
  show (baL (trimL (l.drop 1))).size≤_
  rw [bl_size]
  have:=trimL_len (l.drop 1)
  rw [List.length_drop] at this;omega
 split
 ·exact ⟨by show (baL (nmP l)).size≤_;rw [bl_size];omega,hz,by simp,by show (⟨#[]⟩:ByteArray).size≤_;omega⟩
 split
 ·refine ⟨by show (baL (nmP l)).size≤_;rw [bl_size];omega,(rd_sized _).1,(rd_sized _).2, ?_⟩
  show (baL (behL ((trL (nmQ l)).drop 1))).size≤_
  rw [bl_size]
  have: ∀m:List UInt8,(behL m).length≤m.length:=fun m=>by
   unfold behL
   split
   ·rename_i k _
    have:=trimL_len (m.drop (k+1))
    rw [List.length_drop] at this;omega
   ·simp
  have:=this ((trL (nmQ l)).drop 1)
  rw [List.length_drop] at this;omega
 ·exact ⟨by show (⟨#[]⟩:ByteArray).size≤_;omega,hz,by simp,by show (⟨#[]⟩:ByteArray).size≤_;omega⟩
def NewItB (o:Option It) (w:World) (e:Ending) (w':World):Prop:=
 ∃v,e= .returned (.tuple #[.agg #[.int .i64 (o.getD zeroI).1, .string (o.getD zeroI).2.1,v, .string (o.getD zeroI).2.2.2], .bool o.isSome])∧w'.ownsRow w.heap.size 110 3 v (o.getD zeroI).2.2.1.length (flatC (o.getD zeroI).2.2.1)∧Below w.heap.size w w'
theorem scFinB {w w4:World} {len:Nat} {v y0 y1 y2 y3:Value} {xs:List Value} (hg:Below w.heap.size w w4) (ho:w4.ownsRow (w.heap.size+1) 110 3 v len xs):
  ((((w4.setCell ⟨w.heap.size,0,none⟩ y0).setCell ⟨w.heap.size,1,none⟩ y1).setCell ⟨w.heap.size,2,none⟩ y2).setCell ⟨w.heap.size,3,none⟩ y3).ownsRow w.heap.size 110 3 v len xs∧
  Below w.heap.size w ((((w4.setCell ⟨w.heap.size,0,none⟩ y0).setCell ⟨w.heap.size,1,none⟩ y1).setCell ⟨w.heap.size,2,none⟩ y2).setCell ⟨w.heap.size,3,none⟩ y3):=by
 refine ⟨own_base (own_keep ho (fun g hg=> ?_)) (fun g hg=> ?_), ?_⟩
 ·have hbn:g≠w.heap.size:=by have:=(ho.lt g hg).1;omega
  rw [Below.heap_setCell _ _ _ _ hbn,Below.heap_setCell _ _ _ _ hbn,Below.heap_setCell _ _ _ _ hbn,Below.heap_setCell _ _ _ _ hbn]
 ·have:=(ho.lt g hg).1;omega
 ·exact (((hg.setCell (p:=⟨w.heap.size,0,none⟩) (Nat.le_refl _) _).setCell (p:=⟨w.heap.size,1,none⟩) (Nat.le_refl _) _).setCell (p:=⟨w.heap.size,2,none⟩) (Nat.le_refl _) _).setCell (p:=⟨w.heap.size,3,none⟩) (Nat.le_refl _) _
theorem readItem_impl (s:ByteArray) (w:World) (hs:s.size≤2097152) (htab:Tab w):
  Calls Tryz.prog 42 #[.string s] w (NewItB (readItP rdI s) w):=by
 have hl:s.data.toList.length≤2097152:=by rw [Array.length_toList];exact hs
 have hlt:=trimL_len s.data.toList
 have HBA:=Lib.hid ((Below.refl w.heap.size w).alloc (Nat.le_refl _) (.cells #[.int .i64 0, .string ⟨#[]⟩, .slice none 0 0, .string ⟨#[]⟩] 32))
 have HZ:=Lib.hid (It4.new w (.int .i64 0) (.string ⟨#[]⟩) (.slice none 0 0) (.string ⟨#[]⟩) 32)
 have HT:=Lib.hid htab
 have hsz:(w.alloc (.cells #[.int .i64 0, .string ⟨#[]⟩, .slice none 0 0, .string ⟨#[]⟩] 32)).heap.size=w.heap.size+1:=by simp
 have HSZ:=Lib.hid hsz
 have HRW:=Lib.hid (show readItP rdI s=if itemB (rawP rdI (trimL s.data.toList))=true then some (rawP rdI (trimL s.data.toList)) else none from rfl)
 have HSD:=Lib.hid (raw_sized (trimL s.data.toList) (by omega))
 clear htab hsz
 go_enter Tryz.func42,Tryz.ntmps42
 go_wp2_with fail
 refine (Tryz.strings_Trim_one s 32 (by decide) _ (by omega)).mono ?_
 rintro e w1 ⟨rfl,hw1⟩
 rw [trimB_eq,ba_list2]
 have HG1:=Lib.hid (scDr hw1 none)
 have hs1:w1.heap.size=w.heap.size+1:=by
  rcases hw1 with rfl|rfl
  ·exact HSZ.out
  ·exact HSZ.out
 have HS1:=Lib.hid hs1
 have HZ1:=Lib.hid (HZ.out.grown HG1.out (by simp))
 have HB1:=Lib.hid (HBA.out.grown HG1.out (by simp) (fun r hr=>by cases hr))
 clear hw1 hs1
 have HNW:=Lib.hid (ScAt.new w1 (trimL s.data.toList))
 have HB2:=Lib.hid (HB1.out.alloc HB1.out.size (.cells #[.string (baL (trimL s.data.toList))] 84))
 have HZ2:=Lib.hid (HZ1.out.al (.cells #[.string (baL (trimL s.data.toList))] 84))
 have HIT:=Lib.hid (scItem w (trimL s.data.toList) w1.heap.size _ HNW.out (by omega) HB2.out HB1.out.size HT.out)
 generalize trimL s.data.toList=l at HIT HRW HSD HB2 HZ2 HNW⊢
 generalize rawP rdI l=i at HIT HRW HSD
 clear HZ HG1 HNW hlt
 go_wp2_with fail
 refine HIT.out.mono ?_
 rintro e w3 ⟨⟨v,rfl,ho3⟩,hg3⟩
 obtain ⟨k,n,x,t⟩:=i
 simp only at ho3
 obtain ⟨va,vc,rfl⟩:=own_shape ho3
 have HB3:=Lib.hid (HB2.out.grown hg3 HB2.out.size (fun r hr=>by injection hr with hr;have:=HB1.out.size;omega))
 have HZ3:=Lib.hid (HZ2.out.grown hg3 (by intro e;injection e with e;have:=HS1.out;omega))
 have HO3:=Lib.hid (own_base (base':=w.heap.size+1) ho3 (fun g hg=>by have h1:=(ho3.lt g hg).1;have h2:=HS1.out;simp at h1;omega))
 clear ho3 hg3 HIT HZ2 HB2 HB1 HZ1 HS1
 have HZ4:=Lib.hid (HZ3.out.al (.cells #[.int .i64 k, .string n, .slice va x.length vc, .string t] 32))
 have HB4:=Lib.hid (HB3.out.alloc HB3.out.size (.cells #[.int .i64 k, .string n, .slice va x.length vc, .string t] 32))
 have HI4:=Lib.hid (It4.new w3 (.int .i64 k) (.string n) (.slice va x.length vc) (.string t) 32)
 have HO4:=Lib.hid (HO3.out.alloc (.cells #[.int .i64 k, .string n, .slice va x.length vc, .string t] 32))
 have HIV:=Lib.hid (itemValid_impl (k,n,x,t) (.slice va x.length vc) _ (RowC.of_own HO4.out).1 (by have:=HSD.out.1;show n.size≤maxLen;unfold maxLen;simp only at this;omega) HSD.out.2.1 (by have:=HSD.out.2.2.2;show t.size≤maxLen;unfold maxLen;simp only at this;omega) (HT.out.keep HB4.out))
 simp only at HIV
 generalize hok:itemB (k,n,x,t)=ok at HIV HRW
 clear hok
 go_wp2_with fail
 refine HIV.out.mono ?_
 rintro e w5 ⟨rfl,hb5⟩
 have HB5:=Lib.hid (HB4.out.trans (hb5.mono HB4.out.size));have HZ5:=Lib.hid (HZ4.out.keep hb5);have HI5:=Lib.hid (HI4.out.keep hb5)
 have HO5:=Lib.hid (HO4.out.kept (row:=none) ⟨hb5.os,hb5.tape,hb5.output,hb5.size,fun i hi _=>hb5.block i hi⟩ (by cases hv:Value.ownBlock (.slice va x.length vc) with|none=>exact .inl rfl|some x=>exact .inr (by simp)))
 have HNE:=Lib.hid (show w.heap.size≠w3.heap.size by have:=HZ3.out.2.2;omega)
 obtain ⟨⟨z0,z1,z2,z3⟩,⟨y0,y1,y2,y3⟩,hz⟩:=HZ5.out
 obtain ⟨⟨i0,i1,i2,i3⟩,⟨j0,j1,j2,j3⟩,hi⟩:=HI5.out
 have HFIN:=Lib.hid (fun y0 y1 y2 y3=>scFinB (y0:=y0) (y1:=y1) (y2:=y2) (y3:=y3) HB5.out HO5.out)
 have HFIZ:=Lib.hid (fun y0 y1 y2 y3=>scFinB (y0:=y0) (y1:=y1) (y2:=y2) (y3:=y3) HB5.out (World.ownsRow_nil w5 (w.heap.size+1) 110 3))
 clear hb5 HB4 HZ4 HI4 HO4 HIV HSD
 cases ok with
 |false=>
  have HR:=Lib.hid (show readItP rdI s=none by rw [HRW.out,if_neg (by simp)])
  go_wp2
  exact bodyPost_ret (v:= .tuple #[.agg #[.int .i64 0, .string ⟨#[]⟩, .slice none 0 0, .string ⟨#[]⟩], .bool false]) (by simp [results,Tryz.results42,go_sem,z0,z1,z2,z3]) rfl (by rw [HR.out];exact ⟨_,rfl,HFIZ.out _ _ _ _⟩)
 |true=>
  have HR:=Lib.hid (show readItP rdI s=some (k,n,x,t) by rw [HRW.out,if_pos rfl])
  go_wp2
  exact bodyPost_ret (v:= .tuple #[.agg #[.int .i64 k, .string n, .slice va x.length vc, .string t], .bool true]) (by simp [results,Tryz.results42,go_sem,z0,z1,z2,z3]) rfl (by rw [HR.out];exact ⟨_,rfl,HFIN.out _ _ _ _⟩)
def stI (k:Int):Int:=if k=4 then 1 else if k=5 then-1 else 0
theorem depN_st (d:Int) (i:It):depN d i=d+stI i.1:=by
 unfold depN depS stI
 by_cases h4:i.1=4
 ·rw [if_pos h4,if_pos h4,if_neg (by omega)]
 ·rw [if_neg h4,if_neg h4]
  split<;>omega
theorem blockStep_any (k:Int) (n t:ByteArray) (a:Option Addr) (m c:Nat) (w:World):
  Calls Tryz.prog 60 #[.agg #[.int .i64 k, .string n, .slice a m c, .string t]] w fun e w'=>e= .returned (.int .i64 (stI k))∧Below w.heap.size w w':=by
 have HB:=Lib.hid ((Below.refl w.heap.size w).alloc (Nat.le_refl _) (.cells #[.int .i64 k, .string n, .slice a m c, .string t] 32))
 unfold stI
 by_cases h4:k=4
 ·subst h4
  go_enter Tryz.func60,Tryz.ntmps60
  go_wp2
  go_ret
  exact ⟨rfl,HB.out⟩
 by_cases h5:k=5
 ·subst h5
  go_enter Tryz.func60,Tryz.ntmps60
  go_wp2
  go_ret
  exact ⟨rfl,HB.out⟩
 rw [if_neg h4,if_neg h5]
 have t4:(k==4)=false:=beq_eq_false_iff_ne.mpr h4
 have t5:(k==5)=false:=beq_eq_false_iff_ne.mpr h5
 go_enter Tryz.func60,Tryz.ntmps60
 go_wp2
 go_ret
 exact ⟨rfl,HB.out⟩
def NewD (r:List It×Int) (w:World) (e:Ending) (w':World):Prop:=
 ∃(v:Value) (us:List Value),e= .returned (.tuple #[v, .int .i64 r.2])∧OwnI w' w.heap.size v us r.1∧Below w.heap.size w w'
theorem goD_none_step {R:ByteArray→List Cl} {acc:List It} {s:ByteArray} {ss:List ByteArray} (h:readIt R s=none):goD R acc (s::ss)=(none,acc.length):=by rw [goD,h]
theorem goD_bad_step {R:ByteArray→List Cl} {acc:List It} {s:ByteArray} {ss:List ByteArray} {i:It} (h:readIt R s=some i) (hn: ¬(nestO 0 (acc++[i])≠none∧acc.length≠30)):goD R acc (s::ss)=(none,acc.length):=by
 rw [goD,h];simp only [if_neg hn]
theorem goD_step {R:ByteArray→List Cl} {acc:List It} {s:ByteArray} {ss:List ByteArray} {i:It} (h:readIt R s=some i) (hn:nestO 0 (acc++[i])≠none∧acc.length≠30):goD R acc (s::ss)=goD R (acc++[i]) ss:=by
 rw [goD,h];simp only [if_pos hn]
theorem nest_one {acc:List It} {op:Int} (h:nestO 0 acc=some op) (i:It):nestO 0 (acc++[i])=if 0≤op+stI i.1∧op+stI i.1≤4 then some (op+stI i.1) else none:=by
 rw [nestO_app,h]
 show nestO op [i]=_
 show (if 0≤depN op i∧depN op i≤4 then nestO (depN op i) [] else none)=_
 rw [depN_st];rfl
theorem readDL_stop {R:ByteArray→List Cl} {ss:List ByteArray} {n:Nat} (h:goD R [] ss=(none,n)):readDL R ss=([],(n:Int)):=by
 unfold readDL;rw [h]
theorem readDL_done {R:ByteArray→List Cl} {ss:List ByteArray} {acc:List It} {n:Nat} {op:Int} (h:goD R [] ss=(some acc,n)) (hl:acc.length≤30) (hv:acc.all itemB=true) (ho:nestO 0 acc=some op):readDL R ss=if op=0 then (acc,-1) else ([],(ss.length:Int)):=by
 unfold readDL;rw [h]
 simp only
 by_cases h0:op=0
 ·rw [if_pos ((docB_iff acc).mpr ⟨hl,hv,by rw [ho,h0]⟩),if_pos h0]
 ·rw [if_neg (fun k=>h0 (by have:=((docB_iff acc).mp k).2.2;rw [ho] at this;injection this)),if_neg h0]
theorem readDocument_impl (s:ByteArray) (w:World) (hs:s.size≤2097152) (htab:Tab w):
  Calls Tryz.prog 23 #[.string s] w (NewD (readD rdI s) w):=by
 have hm:s.size≤maxLen:=by unfold maxLen;omega
 by_cases ht:textB s=true
 case neg=>
  have HR:=Lib.hid (show readD rdI s=([],0) by unfold readD;rw [if_neg ht])
  have ht':textB s=false:=by simpa using ht
  go_enter Tryz.func23,Tryz.ntmps23
  go_wp2_with fail
  refine (textValid_impl s _ hm).mono ?_
  rintro e w1 ⟨rfl,rfl⟩
  rw [ht']
  go_wp2
  go_ret2
  exact ⟨_,[],by rw [HR.out];rfl,by rw [HR.out];exact own_nilI _ _,Below.refl _ _⟩
 have h20:s.size≤20000:=by simp only [textB,Bool.and_eq_true,decide_eq_true_eq] at ht;exact ht.1
 have HRD:=Lib.hid (show readD rdI s=readDL rdI (linesB s) by unfold readD;rw [if_pos ht])
 have HSZ:=Lib.hid (fun (t:ByteArray) (h:t∈linesB s)=>Nat.le_trans (lines_size s t h) h20)
 have HT:=Lib.hid htab;clear htab
 obtain ⟨i0,hi,hz0,hz1,hz2⟩:=info_parts infoIt
 go_enter Tryz.func23,Tryz.ntmps23
 go_wp2_with fail
 refine (textValid_impl s _ hm).mono ?_
 rintro e w1 ⟨rfl,rfl⟩
 rw [ht]
 go_wp2_with fail
 refine (linesOf_impl s _ hm).mono ?_
 rintro e w1 ⟨v1,rfl,ho1,hb1⟩
 generalize linesB s=ss at HRD HSZ ho1
 have HL1:=Lib.hid (RowOf.of_own ho1);have HB1:=Lib.hid hb1
 obtain ⟨va,vc,rfl⟩:=own_shape ho1
 clear ho1 hb1
 go_wp2_with fail
 go_loopw [5,6,18] (fun a op i wr=> ∃(k:Nat) (o:Int) (us:List Value) (acc:List It),k≤ss.length∧i= .int .i64 (k:Int)∧op= .int .i64 o∧(0≤o∧o≤4)∧k≤30∧Hid (acc.length=k)∧OwnI wr w1.heap.size a us acc∧Hid (nestO 0 acc=some o)∧Hid (acc.all itemB=true)∧Hid (goD rdI [] ss=goD rdI acc (ss.drop k))∧Below w1.heap.size w1 wr) (fun _ _ i _=>ss.length-(intOf i).toNat)
 case atStart=>exact ⟨0,0,[],[],Nat.zero_le _,rfl,rfl,by omega,by omega,Lib.hid rfl,own_nilI _ _,Lib.hid rfl,Lib.hid rfl,Lib.hid (by rw [List.drop_zero]),Below.refl _ _⟩
 case round=>
  obtain ⟨k,o,us,acc,hk,rfl,rfl,ho,hk30,HAL,hown,HNE,HAV,HGD,hbr⟩:=hrel
  have HO:=Lib.hid hown;have HBR:=Lib.hid hbr
  obtain ⟨aa,ac,rfl⟩:=own_shape hown.row
  clear hown hbr
  by_cases hlt:k<ss.length
  case neg=>
   have hltI: ¬(k:Int)<(ss.length:Int):=by omega
   have HFN:=Lib.hid (show readD rdI s=if o=0 then (acc,-1) else ([],(ss.length:Int)) from by
    rw [HRD.out]
    refine readDL_done (n:=acc.length) ?_ (by have:=HAL.out;omega) HAV.out HNE.out
    rw [HGD.out,List.drop_of_length_le (by omega)];rfl)
   have HBF:=Lib.hid (HB1.out.trans (HBR.out.mono HB1.out.size))
   by_cases h0:o=0
   ·subst h0
    have HFN2:=Lib.hid (show readD rdI s=(acc,-1) by rw [HFN.out,if_pos rfl])
    go_wp2
    go_ret2
    exact ⟨_,us,by rw [HFN2.out];rfl,by rw [HFN2.out];exact HO.out.lower HB1.out.size,HBF.out⟩
   ·have hpos:(0:Int)<o:=by omega
    have HFN2:=Lib.hid (show readD rdI s=([],(ss.length:Int)) by rw [HFN.out,if_neg h0])
    go_wp2
    go_ret2
    exact ⟨_,[],by rw [HFN2.out];rfl,by rw [HFN2.out];exact own_nilI _ _,HBF.out⟩
  have hltI:(k:Int)<(ss.length:Int):=by omega
  obtain ⟨bo,bcap,hsl,g1,g2,g3⟩:=HL1.out
  rw [strs_length] at hsl g1
  simp only [Value.slice.injEq] at hsl
  obtain ⟨rfl,-,rfl⟩:=hsl
  unfold maxLen at g2
  obtain ⟨b,off,rfl,hbl,hcc⟩:=g3.resolve_left (fun e=>by have:=congrArg List.length e;rw [strs_length,List.length_nil] at this;omega)
  have d0:wr.cell? ⟨b,off+k,none⟩=some (.string ss[k]):=(HBR.out.cell (p:=⟨b,_,none⟩) hbl).trans (hcc k _ (by simp [strs,hlt]))
  have hsz:=HSZ.out ss[k] (List.getElem_mem hlt)
  have HRI:=Lib.hid (readItem_impl ss[k] wr (by omega) (HT.out.keep (HB1.out.trans (HBR.out.mono HB1.out.size))))
  rw [readItP_eq (B:=20000) (fun l hl=>rdI_trim hl) hsz] at HRI
  have HDR:=Lib.hid (List.drop_eq_getElem_cons hlt)
  generalize ss[k]=line at d0 HRI HDR
  clear hcc g3 hsz
  have hal30:acc.length≤30:=by have:=HAL.out;omega
  have HB0:=Lib.hid (HB1.out.trans (HBR.out.mono HB1.out.size))
  cases hri:readIt rdI line with
  |none=>
   have HFN:=Lib.hid (show readD rdI s=([],(k:Int)) from by rw [HRD.out];exact readDL_stop (by rw [HGD.out,HDR.out,goD_none_step hri,HAL.out]))
   have HRN:=Lib.hid (show Calls Tryz.prog 42 #[.string line] wr (fun e w'=> ∃v,e= .returned (.tuple #[.agg #[.int .i64 0, .string ⟨#[]⟩,v, .string ⟨#[]⟩], .bool false])∧w'.ownsRow wr.heap.size 110 3 v 0 []∧Below wr.heap.size wr w') from by have:=HRI.out;rw [hri] at this;exact this)
   clear hri HRI HDR HGD HNE HAV
   go_wp2_with fail
   refine HRN.out.mono ?_
   rintro e w2 ⟨v2,rfl,ho2,hb2⟩
   obtain ⟨a2,c2,rfl⟩:=own_shape ho2
   have HB2:=Lib.hid (HB0.out.trans (hb2.mono HB0.out.size))
   have HB2A:=Lib.hid (HB2.out.alloc HB2.out.size (.cells #[.int .i64 0, .string ⟨#[]⟩, .slice a2 0 c2, .string ⟨#[]⟩] 32))
   clear ho2 hb2 HRN
   go_wp2_with fail
   refine (blockStep_any _ _ _ _ _ _ _).mono ?_
   rintro e w3 ⟨rfl,hb3⟩
   have HB3:=Lib.hid (HB2A.out.trans (hb3.mono HB2A.out.size))
   have e0:stI 0=0:=by decide
   rw [e0]
   clear hb3
   go_wp2
   go_ret2
   exact ⟨_,[],by rw [HFN.out];rfl,by rw [HFN.out];exact own_nilI _ _,HB3.out⟩
  |some i=>
   have HRN:=Lib.hid (show Calls Tryz.prog 42 #[.string line] wr (fun e w'=> ∃v,e= .returned (.tuple #[.agg #[.int .i64 i.1, .string i.2.1,v, .string i.2.2.2], .bool true])∧w'.ownsRow wr.heap.size 110 3 v i.2.2.1.length (flatC i.2.2.1)∧Below wr.heap.size wr w') from by have:=HRI.out;rw [hri] at this;exact this)
   have HIV:=Lib.hid (readIt_ok hri)
   have HN1:=Lib.hid (nest_one HNE.out i)
   have HRI2:=Lib.hid hri
   clear hri HRI
   obtain ⟨ki,n,x,t⟩:=i
   go_wp2_with fail
   refine HRN.out.mono ?_
   rintro e w2 ⟨v2,rfl,ho2,hb2⟩
   (try simp only at ho2)
   obtain ⟨a2,c2,rfl⟩:=own_shape ho2
   have HB2:=Lib.hid hb2;have HO2:=Lib.hid ho2
   have HI2:=Lib.hid (It4.new w2 (.int .i64 ki) (.string n) (.slice a2 x.length c2) (.string t) 32)
   have HB2A:=Lib.hid (HB2.out.alloc HB2.out.size (.cells #[.int .i64 ki, .string n, .slice a2 x.length c2, .string t] 32))
   have HO2A:=Lib.hid (HO2.out.alloc (.cells #[.int .i64 ki, .string n, .slice a2 x.length c2, .string t] 32))
   clear ho2 hb2 HRN
   go_wp2_with fail
   refine (blockStep_any _ _ _ _ _ _ _).mono ?_
   rintro e w3 ⟨rfl,hb3⟩
   have HB3:=Lib.hid (HB2A.out.trans (hb3.mono HB2A.out.size));have HI3:=Lib.hid (HI2.out.keep hb3);have HO3:=Lib.hid (own_belowS HO2A.out hb3)
   have hst: -1≤stI ki∧stI ki≤1:=by unfold stI;split;omega;split<;>omega
   have HN2:=Lib.hid (show nestO 0 (acc++[(ki,n,x,t)])=if 0≤o+stI ki∧o+stI ki≤4 then some (o+stI ki) else none from HN1.out)
   generalize stI ki=st at hst HN2⊢
   have HBF:=Lib.hid (HB0.out.trans (HB3.out.mono HB0.out.size))
   have hwo:IntKind.i64.wrap (o+st)=o+st:=IntWalk.i64_in _ (by omega)
   have HW:=Lib.hid hwo
   clear hb3 HB2A HI2 HO2A HB2 HO2 HN1 hwo
   by_cases hg:0≤o+st∧o+st≤4∧k≠30
   case neg=>
    have HFN:=Lib.hid (show readD rdI s=([],(k:Int)) from by
     rw [HRD.out]
     refine readDL_stop ?_
     rw [HGD.out,HDR.out,goD_bad_step HRI2.out (fun hq=>hg ?_),HAL.out]
     have h1:=hq.1
     rw [HN2.out] at h1
     by_cases hc:0≤o+st∧o+st≤4
     ·exact ⟨hc.1,hc.2,by have:=HAL.out;have:=hq.2;omega⟩
     ·rw [if_neg hc] at h1;exact absurd rfl h1)
    have h3:(o+st<0)∨(0≤o+st∧4<o+st)∨(0≤o+st∧o+st≤4∧(k:Int)=30):=by omega
    clear hg HDR HGD HNE HAV
    rcases h3 with q1|⟨q0,q1⟩|⟨q0,q1,q2⟩
    ·go_wp2
     go_ret2
     exact ⟨_,[],by rw [HFN.out];rfl,by rw [HFN.out];exact own_nilI _ _,HBF.out⟩
    ·go_wp2
     go_ret2
     exact ⟨_,[],by rw [HFN.out];rfl,by rw [HFN.out];exact own_nilI _ _,HBF.out⟩
    ·have q3:((k:Int)==30)=true:=beq_iff_eq.mpr q2
     clear q2
     go_wp2
     go_ret2
     exact ⟨_,[],by rw [HFN.out];rfl,by rw [HFN.out];exact own_nilI _ _,HBF.out⟩
   obtain ⟨q0,q1,q2⟩:=hg
   have q3:((k:Int)==30)=false:=beq_eq_false_iff_ne.mpr (by omega)
   have hk29:k<30:=by omega
   have HGN:=Lib.hid (show goD rdI [] ss=goD rdI (acc++[(ki,n,x,t)]) (ss.drop (k+1)) from by
    rw [HGD.out,HDR.out,goD_step HRI2.out ⟨by rw [HN2.out,if_pos ⟨q0,q1⟩];simp,by have:=HAL.out;omega⟩])
   have HNN:=Lib.hid (show nestO 0 (acc++[(ki,n,x,t)])=some (o+st) from by rw [HN2.out,if_pos ⟨q0,q1⟩])
   have HAN:=Lib.hid (show (acc++[(ki,n,x,t)]).all itemB=true from by rw [List.all_append,HAV.out];simp [HIV.out])
   have HLN:=Lib.hid (show (acc++[(ki,n,x,t)]).length=k+1 from by rw [List.length_append,HAL.out];rfl)
   obtain ⟨⟨z0,z1,z2,z3⟩,-,hz⟩:=HI3.out
   have hne: ¬w2.heap.size=w3.heap.size:=by omega
   have HRW:=Lib.hid (show w3.ownsRow w1.heap.size 32 4 (.slice aa acc.length ac) acc.length (itF acc us) from own_belowS HO.out.row HB3.out)
   have hs3:w1.heap.size≤w3.heap.size:=Nat.le_trans HBR.out.size HB3.out.size
   clear q2 HDR HGD HNE HAV HN2 HRI2 HIV HAL
   go_wp2_with (at_builtin;refine wpList_append_lies _ rfl _ _ 23 rfl w1.heap.size 32 i0 (.agg #[.int .i64 0, .string ByteArray.empty, .slice none 0 0, .string ByteArray.empty]) 4 64 Tryz.underlying23 hi hz0 hz1 hz2 rfl (by decide) (.slice aa acc.length ac) acc.length (itF acc us) rfl (by exact (HRW.out.alloc _)) ⟨w3.heap.size,0,none⟩ 1 1 [.int .i64 ki, .string n, .slice a2 x.length c2, .string t] rfl rfl (World.news_of_block (heap_alloc_new w3 _)) (by simp [Value.oneCell']) (by omega) (by unfold maxLen;omega) (by omega) (by simp;omega) (w3.heap.size+1) (by simp) ?_;intro gg cap' w4 hown4 hgrow4 hat4 hlt4)
   have hpp:=HO.out.push (i:=(ki,n,x,t)) HBR.out.size HB3.out HO3.out _ hgrow4 hown4 hat4
   have HP4:=Lib.hid hpp.1
   have HB4:=Lib.hid (HBR.out.trans (hpp.2.mono (Nat.le_refl _)))
   clear hpp hown4 hgrow4 hat4 hlt4
   go_wp2
   go_roundw
   case rel=>exact ⟨k+1,o+st,us++[.slice a2 x.length c2],acc++[(ki,n,x,t)],by omega,by go_num,by first|rfl|rw [HW.out],⟨q0,q1⟩,by omega,HLN,HP4.out,HNN,HAN,HGN,HB4.out⟩
   case measure=>simp [intOf];omega
theorem sameCells_same (v1 v2:Value) (l:List Cl) (w:World) (h1:RowC w v1 l) (h2:RowC w v2 l):
  Calls Tryz.prog 96 #[v1,v2] w fun e w'=>e= .returned (.bool true)∧Below w.heap.size w w':=by
 obtain ⟨a1,c1,rfl,p1,q1,r1⟩:=h1
 obtain ⟨a2,c2,rfl,p2,q2,r2⟩:=h2
 unfold maxLen at q1 q2
 have R1:=Lib.hid r1;have R2:=Lib.hid r2
 clear r1 r2
 go_enter Tryz.func96,Tryz.ntmps96
 go_wp2_with fail
 go_loopw [5] (fun i wr=> ∃k:Nat,k≤l.length∧i= .int .i64 (k:Int)∧Below w.heap.size w wr) (fun i _=>l.length-(intOf i).toNat)
 case atStart=>exact ⟨0,Nat.zero_le _,rfl,Below.refl _ _⟩
 case round=>
  obtain ⟨k,hk,rfl,hb⟩:=hrel
  have HB:=Lib.hid hb;clear hb
  by_cases hlt:k<l.length
  ·obtain ⟨b1,o1,rfl,hl1,cc1⟩:=R1.out.resolve_left (by rintro rfl;simp at hlt)
   obtain ⟨b2,o2,rfl,hl2,cc2⟩:=R2.out.resolve_left (by rintro rfl;simp at hlt)
   obtain ⟨x0,x1,x2⟩:=cc1 k hlt
   obtain ⟨y0,y1,y2⟩:=cc2 k hlt
   have d0:=(HB.out.cell (p:=⟨b1,_,none⟩) hl1).trans x0
   have d1:=(HB.out.cell (p:=⟨b1,_,none⟩) hl1).trans x1
   have d2:=(HB.out.cell (p:=⟨b1,_,none⟩) hl1).trans x2
   have e0:=(HB.out.cell (p:=⟨b2,_,none⟩) hl2).trans y0
   have e1:=(HB.out.cell (p:=⟨b2,_,none⟩) hl2).trans y1
   have e2:=(HB.out.cell (p:=⟨b2,_,none⟩) hl2).trans y2
   generalize l[k].1=kk at d0 e0
   generalize l[k].2.1=ss at d1 e1
   generalize l[k].2.2=mm at d2 e2
   clear cc1 cc2 x0 x1 x2 y0 y1 y2
   go_wp2_with fail
   go_quiet (fail)
   have HQ:=Lib.hid (show Below w.heap.size w (wr.drewN nq) from HB.out.trans ⟨rfl,rfl,rfl,Nat.le_refl _,fun _ _=>rfl⟩)
   go_wp2
   go_roundw
   case rel=>exact ⟨k+1,by omega,by go_num,HQ.out⟩
   case measure=>simp [intOf];omega
  ·obtain rfl:k=l.length:=by omega
   go_wp2
   go_ret
   exact ⟨rfl,HB.out⟩
theorem sameItem_same (k:Int) (s t:ByteArray) (u1 u2:Value) (l:List Cl) (w:World) (h1:RowC w u1 l) (h2:RowC w u2 l):
  Calls Tryz.prog 63 #[.agg #[.int .i64 k, .string s,u1, .string t], .agg #[.int .i64 k, .string s,u2, .string t]] w fun e w'=>e= .returned (.bool true)∧Below w.heap.size w w':=by
 have HB0:=Lib.hid (((Below.refl w.heap.size w).alloc (Nat.le_refl _) (.cells #[.int .i64 k, .string s,u1, .string t] 32)).alloc (by simp) (.cells #[.int .i64 k, .string s,u2, .string t] 32))
 have HC:=Lib.hid (sameCells_same u1 u2 l _ (h1.mono HB0.out) (h2.mono HB0.out))
 have HX0:=Lib.hid (fun w1 (h:Below ((w.alloc (.cells #[.int .i64 k, .string s,u1, .string t] 32)).alloc (.cells #[.int .i64 k, .string s,u2, .string t] 32)).heap.size ((w.alloc (.cells #[.int .i64 k, .string s,u1, .string t] 32)).alloc (.cells #[.int .i64 k, .string s,u2, .string t] 32)) w1)=>
  (show w1.cell? ⟨w.heap.size,3,none⟩=some (.string t) by rw [h.cell (by simp;omega)];simp [go_sem]))
 have HX1:=Lib.hid (fun w1 (h:Below ((w.alloc (.cells #[.int .i64 k, .string s,u1, .string t] 32)).alloc (.cells #[.int .i64 k, .string s,u2, .string t] 32)).heap.size ((w.alloc (.cells #[.int .i64 k, .string s,u1, .string t] 32)).alloc (.cells #[.int .i64 k, .string s,u2, .string t] 32)) w1)=>
  (show w1.cell? ⟨w.heap.size+1,3,none⟩=some (.string t) by rw [h.cell (by simp)];simp [go_sem]))
 obtain ⟨a1,c1,rfl,-⟩:=h1
 obtain ⟨a2,c2,rfl,-⟩:=h2
 have ht:(s.toList==s.toList)=true:=by simp
 have ht2:(t.toList==t.toList)=true:=by simp
 have hk:(k !=k)=false:=by simp
 go_enter Tryz.func63,Tryz.ntmps63
 go_wp2_with fail
 refine HC.out.mono ?_
 rintro e w1 ⟨rfl,hb1⟩
 have e0:=HX0.out w1 hb1
 have e1:=HX1.out w1 hb1
 have HB1:=Lib.hid (HB0.out.trans (hb1.mono HB0.out.size));clear hb1
 go_wp2
 go_ret
 exact ⟨rfl,HB1.out⟩
theorem sameItems_same (v1 v2:Value) (l:List It) (w:World) (h1:RowIt w v1 l) (h2:RowIt w v2 l):
  Calls Tryz.prog 26 #[v1,v2] w fun e w'=>e= .returned (.bool true)∧Below w.heap.size w w':=by
 obtain ⟨a1,c1,rfl,l1,m1,r1⟩:=h1
 obtain ⟨a2,c2,rfl,l2,m2,r2⟩:=h2
 unfold maxLen at m1 m2
 have R1:=Lib.hid r1;have R2:=Lib.hid r2
 clear r1 r2
 go_enter Tryz.func26,Tryz.ntmps26
 go_wp2
 go_loopw [5] (fun i wr=> ∃k:Nat,k≤l.length∧i= .int .i64 (k:Int)∧Below w.heap.size w wr) (fun i _=>l.length-(intOf i).toNat)
 case atStart=>exact ⟨0,Nat.zero_le _,rfl,Below.refl _ _⟩
 case round=>
  obtain ⟨k,hk,rfl,hb⟩:=hrel
  have HB:=Lib.hid hb;clear hb
  by_cases hlt:k<l.length
  ·obtain ⟨b1,o1,rfl,lt1,cc1⟩:=R1.out.resolve_left (by rintro rfl;simp at hlt)
   obtain ⟨b2,o2,rfl,lt2,cc2⟩:=R2.out.resolve_left (by rintro rfl;simp at hlt)
   obtain ⟨u1,p1⟩:=cc1 k hlt
   obtain ⟨u2,p2⟩:=cc2 k hlt
   obtain ⟨d0,d1,d2,d3,x1⟩:=p1.mono lt1 HB.out
   obtain ⟨f0,f1,f2,f3,x2⟩:=p2.mono lt2 HB.out
   have X1:=Lib.hid x1;have X2:=Lib.hid x2
   clear cc1 cc2 p1 p2 x1 x2
   have bk0:(0:Int)≤(k:Int):=by omega
   have bk1:(k:Int)<(l.length:Int):=by omega
   generalize l[k].1=kk at d0 f0
   generalize l[k].2.1=nk at d1 f1
   generalize l[k].2.2.1=lk at X1 X2
   generalize l[k].2.2.2=tk at d3 f3
   go_wp2_with fail
   go_region_with ((go_at_call 63;refine (sameItem_same _ _ _ _ _ lk _ (X1.out.mono (drewB wr)) (X2.out.mono (drewB wr))).mono ?_;rintro e w1 ⟨rfl,hb1⟩))
   all_goals
    have HB2:=Lib.hid (HB.out.trans (((drewB wr).trans hb1).mono HB.out.size))
    clear hb1
    (try go_wp2)
    go_roundw
    case rel=>exact ⟨k+1,by omega,by go_num,HB2.out⟩
    case measure=>simp [intOf];omega
  ·obtain rfl:k=l.length:=by omega
   go_wp2
   go_ret
   exact ⟨rfl,HB.out⟩
theorem col_line {l:List It} (hk:alignK l=true) (k:Nat) (hlt:k<l.length): ∃(s:ByteArray) (c:Int),(linesB (alignT l))[k]? =some s∧(colL l)[k]? =some c∧s.size≤20000∧(c= -1∨ ∃j:Nat,c=(j:Int)∧j<s.size∧s.data.toList[j]? =some 61):=by
 obtain ⟨D,m,-,-,e⟩:=align_lineAt hk k hlt
 obtain ⟨hk1,e1⟩:=List.getElem?_eq_some_iff.mp e
 have hc:=colL_at hk1 hlt
 rw [e1] at hc
 refine ⟨_,_,e,hc, ?_, ?_⟩
 ·have:=lines_size (alignT l) _ (List.getElem_mem hk1)
  rw [e1] at this
  exact Nat.le_trans this (align_size l)
 ·by_cases h3:l[k].1=3
  ·right
   rw [if_pos h3,baL_list]
   rcases ixc_cases (lineI l[k] D m) 61 with ⟨-,h⟩|⟨j,h1,h2,h3',h4⟩
   ·exfalso
    apply h
    generalize l[k]=it at h3⊢
    obtain ⟨ik,inm,ics,int⟩:=it
    simp only at h3
    subst h3
    simp [lineI,coreI]
   ·refine ⟨j,h1,by rw [bl_size];exact h2, ?_⟩
    rw [h4,List.getElem?_append_right (by rw [List.length_take];omega),List.length_take]
    simp [Nat.min_eq_left (Nat.le_of_lt h2)]
  ·left;rw [if_neg h3]
theorem fnAlignDocument_core (a0:Option Addr) (len0 cap0:Nat) (w:World) (hrow:CodeRow w a0 len0 cap0) (htab:Tab w):
  Calls Tryz.prog 4 #[.slice a0 len0 cap0] w fun e w'=>e= .returned (.bool true)∧Below w.heap.size w w':=by
 have hcap:=hrow.1;have hmx:=hrow.2.1
 unfold maxLen at hmx
 by_cases hl:len0≤1048576
 ·have HD:=Lib.hid (drawAlignDocument_any any_ok a0 len0 cap0 w hrow);have HT:=Lib.hid htab
  clear hrow htab
  go_enter Tryz.func4,Tryz.ntmps4
  go_wp2_with fail
  refine HD.out.mono ?_
  rintro e w1 ⟨v,l,rfl,hr1,hfew,hl1,hb1⟩
  have HB1:=Lib.hid hb1;have R1:=Lib.hid hr1;have HSI:=Lib.hid (fewI_shortI hfew)
  obtain ⟨va,vc,rfl,-⟩:=hr1
  have HPI:=Lib.hid (fun w' (hr:RowIt w' (.slice va l.length vc) l) (ht:Tab w')=>alignDocument_impl (.slice va l.length vc) l w' hr HSI.out ht)
  have HPS:=Lib.hid (fun w' (hr:RowIt w' (.slice va l.length vc) l)=>alignDocument_spec (.slice va l.length vc) l w' hr HSI.out (by omega))
  have HCI:=Lib.hid (fun w' (hr:RowIt w' (.slice va l.length vc) l) (ht:Tab w')=>alignColumns_impl (.slice va l.length vc) l w' hr HSI.out (by omega) ht)
  have HTS:=Lib.hid (align_size l)
  have HNT:=Lib.hid (show alignK l=false→alignT l=⟨#[]⟩ from fun h=>by rw [alignT,if_neg (by rw [h];simp)])
  have HRD:=Lib.hid (show alignK l=true→ ∀w',Tab w'→Calls Tryz.prog 23 #[.string (alignT l)] w' (NewD (l,-1) w') from fun h w' ht=>by
   have:=readDocument_impl (alignT l) w' (by have:=HTS.out;omega) ht
   rw [align_reads (fun l hl=>rdI_text hl) h] at this;exact this)
  have HLN:=Lib.hid (show alignK l=true→(linesB (alignT l)).length=l.length∧(colL l).length=l.length from fun h=>⟨(align_count l).2 h,(colL_length l).trans ((align_count l).2 h)⟩)
  have HCO:=Lib.hid (fun (h:alignK l=true) (k:Nat) (hlt:k<l.length)=>col_line h k hlt)
  obtain ⟨LS,hLS⟩: ∃x,x=linesB (alignT l):=⟨_,rfl⟩
  obtain ⟨CS,hCS⟩: ∃x,x=colL l:=⟨_,rfl⟩
  have HLO:=Lib.hid (show∀w',Calls Tryz.prog 24 #[.string (alignT l)] w' (NewTexts LS w') from fun w'=>by
   rw [hLS];exact linesOf_impl (alignT l) w' (by have:=HTS.out;unfold maxLen;omega))
  rw [←hLS] at HLN HCO
  rw [←hCS] at HCI HLN HCO
  generalize alignT l=T at HPI HPS HTS HNT HRD HLO hLS
  generalize alignK l=K at HPI HPS HNT HRD HLN HCO
  clear hb1 hfew hLS hCS
  go_wp2_with fail
  refine (HPI.out _ R1.out (HT.out.keep HB1.out)).mono ?_
  rintro e w2 ⟨rfl,hb2⟩
  have HB2:=Lib.hid (HB1.out.trans (hb2.mono HB1.out.size));have R2:=Lib.hid (R1.out.mono hb2);clear hb2
  go_wp2_with fail
  refine (HPS.out _ R2.out).mono ?_
  rintro e w3 ⟨rfl,hb3⟩
  have HB3:=Lib.hid (HB2.out.trans (hb3.mono HB2.out.size));have R3:=Lib.hid (R2.out.mono hb3);clear hb3
  clear HB1 HB2 HPI HPS R1 R2
  cases K with
  |false=>
   have hT:=HNT.out rfl
   subst hT
   have e0:(⟨#[]⟩:ByteArray).toList=[]:=ByteArray.toList_eq _
   clear HRD HLN HNT HCO HCI HLO
   go_wp2_with fail
   refine (alive_any _).mono ?_
   rintro e w' ⟨rfl,rfl⟩
   go_wp2
   go_ret
   exact ⟨rfl,HB3.out⟩
  |true=>
   obtain ⟨hn1,hn2⟩:=HLN.out (by simp)
   go_wp2_with fail
   refine (HRD.out (by simp) _ (HT.out.keep HB3.out)).mono ?_
   rintro e w4 ⟨v4,us4,rfl,ho4,hb4⟩
   have X4:=Lib.hid ho4.reads;have R4:=Lib.hid (R3.out.mono hb4);have HB4:=Lib.hid (HB3.out.trans (hb4.mono HB3.out.size))
   obtain ⟨a4,c4,rfl⟩:=own_shape ho4.row
   clear ho4 hb4
   go_wp2_with fail
   refine (HLO.out _).mono ?_
   rintro e w5 ⟨v5,rfl,ho5,hb5⟩
   rw [hn1] at ho5
   have X5:=Lib.hid (X4.out.mono hb5);have R5:=Lib.hid (R4.out.mono hb5);have HB5:=Lib.hid (HB4.out.trans (hb5.mono HB4.out.size))
   have L5:=Lib.hid (RowOf.of_own ho5)
   obtain ⟨a5,c5,rfl⟩:=own_shape ho5
   clear ho5 hb5
   go_wp2_with fail
   refine (HCI.out _ R5.out (HT.out.keep HB5.out)).mono ?_
   rintro e w6 ⟨v6,rfl,ho6,hb6⟩
   rw [hn2] at ho6
   have X6:=Lib.hid (X5.out.mono hb6);have R6:=Lib.hid (R5.out.mono hb6);have HB6:=Lib.hid (HB5.out.trans (hb6.mono HB5.out.size))
   have L6:=Lib.hid (L5.out.mono hb6)
   have C6:=Lib.hid (RowOf.of_own ho6)
   obtain ⟨a6,c6,rfl⟩:=own_shape ho6
   clear ho6 hb6 X4 X5 R4 R5 L5 HB4 HB5 HCI HLO HRD HNT
   have hl100:l.length≤100:=hl1
   have HLC:=Lib.hid (show∀k,(hk:k<l.length)→ ∃b o b' o' s c,a5=some ⟨b,o,none⟩∧a6=some ⟨b',o',none⟩∧w6.cell? ⟨b,o+k,none⟩=some (.string s)∧w6.cell? ⟨b',o'+k,none⟩=some (.int .i64 c)∧s.size≤20000∧(c= -1∨ ∃j:Nat,c=(j:Int)∧j<s.size∧s.data.toList[j]? =some 61) from fun k hk=>by
    obtain ⟨s,c,e1,e2,hs,hc⟩:=HCO.out (by simp) k hk
    obtain ⟨_,_,hv1,-,-,q1⟩:=L6.out
    obtain ⟨_,_,hv2,-,-,q2⟩:=C6.out
    injection hv1 with p1 p2 p3
    injection hv2 with p4 p5 p6
    obtain ⟨b,o,ha,-,hc1⟩:=q1.resolve_left (fun e=>by have:=congrArg List.length e;rw [strs_length,hn1,List.length_nil] at this;omega)
    obtain ⟨b',o',ha',-,hc2⟩:=q2.resolve_left (fun e=>by have:=congrArg List.length e;rw [intsZ_length,hn2,List.length_nil] at this;omega)
    exact ⟨b,o,b',o',s,c,p1.trans ha,p4.trans ha',hc1 k _ (by simp [strs,e1]),hc2 k _ (by simp [intsZ,e2]),hs,hc⟩)
   clear HCO L6 C6
   go_wp2_with fail
   go_loopw [12] (fun i wr=> ∃k n:Nat,k≤l.length∧i= .int .i64 (k:Int)∧wr=w6.drewN n) (fun i _=>l.length-(intOf i).toNat)
   case atStart=>exact ⟨0,0,Nat.zero_le _,rfl,rfl⟩
   case round=>
    obtain ⟨k,q,hk,rfl,rfl⟩:=hrel
    by_cases hlt:k<l.length
    ·have hltI:(k:Int)<(l.length:Int):=by omega
     obtain ⟨b,o,b',o',s,c,rfl,rfl,e1,e2,hs,hc⟩:=HLC.out k hlt
     rcases hc with rfl|⟨j,rfl,hj,hb⟩
     ·have hg: ¬(0:Int)≤ -1:=by omega
      go_wp2_with fail
      go_quiet (fail)
      go_wp2
      go_roundw
      case rel=>exact ⟨k+1,_,by omega,by go_num,rfl⟩
      case measure=>simp [intOf];omega
     ·have hg:(0:Int)≤(j:Int):=by omega
      have hjI:(j:Int)<(s.size:Int):=by omega
      have hjN: ¬(s.size:Int)≤(j:Int):=by omega
      have hq:((s[j].toNat:Int) !=61)=false:=by
       have e:s[j]=61:=by
        rw [List.getElem?_eq_some_iff] at hb
        obtain ⟨h,e⟩:=hb
        rw [←e];rfl
       rw [e];rfl
      clear hb
      go_wp2_with fail
      go_quiet (fail)
      go_wp2
      go_roundw
      case rel=>exact ⟨k+1,_,by omega,by go_num,rfl⟩
      case measure=>simp [intOf];omega
    ·obtain rfl:k=l.length:=by omega
     have hltI: ¬(l.length:Int)<(l.length:Int):=by omega
     have HB:=Lib.hid (show Below w6.heap.size w6 (w6.drewN q) from ⟨rfl,rfl,rfl,Nat.le_refl _,fun _ _=>rfl⟩)
     have X7:=Lib.hid (X6.out.mono HB.out);have R7:=Lib.hid (R6.out.mono HB.out)
     have HB7:=Lib.hid (HB6.out.trans (HB.out.mono HB6.out.size))
     go_wp2_with fail
     refine (sameItems_same _ _ l _ X7.out R7.out).mono ?_
     rintro e w8 ⟨rfl,hb8⟩
     have HB8:=Lib.hid (HB7.out.trans (hb8.mono HB7.out.size));clear hb8
     go_wp2
     go_ret
     exact ⟨rfl,HB8.out⟩
 ·clear hrow htab
  go_enter Tryz.func4,Tryz.ntmps4
  go_wp2
  go_ret
  exact ⟨rfl,Below.refl _ _⟩
end Go.Proofs.YtegdjjjpoahamaaGreatDoor
