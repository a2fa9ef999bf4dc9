/-
  Part of the proof of FnItemLine.
-/
import Derived.Test.YthijkjnngfnfdaaGreatDoorQIae
import Derived.Test.YthijkjnngfnfdaaGreatDoorQIad
import Derived.Deep.AppendLies
set_option linter.unusedVariables false
set_option maxHeartbeats 8000000
set_option maxRecDepth 100000
namespace Go.Proofs.YthijkjnngfnfdaaGreatDoor
open Go.RowKit
def SpOK (s:ByteArray) (c:List Cl):Prop:=Rs (rdTk s) .choice 0 0 c (rdTk s).length 0∧okE c=true
theorem ints_cell (l:List Int) (k:Nat) (h:k<l.length):(l.map (Value.int .i64))[k]? =some (.int .i64 l[k]):=by simp [h]
theorem strs_cell (l:List ByteArray) (k:Nat) (h:k<l.length):(strs l)[k]? =some (.string l[k]):=by simp [strs,h]
theorem RowTk.of_own {w:World} {B:Nat} {e1 e2:TypeId} {vW vK:Value} {tk:List Tk} (h1:w.ownsRow B e1 1 vW tk.length (strs (tk.map (·.2)))) (h2:w.ownsRow B e2 1 vK tk.length ((tk.map (·.1)).map (Value.int .i64))):RowTk w vW vK tk:=by
 constructor
 ·rcases h1.2 with ⟨rfl,h0⟩|⟨g,cap,cur,rfl,hg,hh,q1,q2,_⟩
  ·exact ⟨none,0,by rw [h0],by omega,by unfold maxLen;omega, .inl (List.length_eq_zero_iff.mp h0)⟩
  ·refine ⟨_,cap,rfl,q1,q2, .inr ⟨g,rfl,(h1.lt g rfl).2,fun k hk=> ?_⟩⟩
   rw [h1.cellAt k (by omega),strs_cell _ k (by simpa using hk)];simp
 ·rcases h2.2 with ⟨rfl,h0⟩|⟨g,cap,cur,rfl,hg,hh,q1,q2,_⟩
  ·exact ⟨none,0,by rw [h0],by omega,by unfold maxLen;omega, .inl (List.length_eq_zero_iff.mp h0)⟩
  ·refine ⟨_,cap,rfl,q1,q2, .inr ⟨g,rfl,(h2.lt g rfl).2,fun k hk=> ?_⟩⟩
   rw [h2.cellAt k (by omega),ints_cell _ k (by simpa using hk)];simp
def TkL (tk:List Tk) (w1:World) (i:Value) (wr:World):Prop:=
 ∃(k:Nat) (vW vK:Value),i= .int .i64 (k:Int)∧k≤tk.length∧BlkS wr w1.heap.size #[vW,vK, .int .i64 0, .int .i64 0]∧wr.ownsRow (w1.heap.size+1) 9 1 vW k (strs ((tk.take k).map (·.2)))∧wr.ownsRow (w1.heap.size+1) 3 1 vK k (((tk.take k).map (·.1)).map (Value.int .i64))∧
  (∀x,vW.ownBlock=some x→vK.ownBlock≠some x)∧Below w1.heap.size w1 wr
theorem TkL.start (tk:List Tk) (w1:World):TkL tk w1 (.int .i64 0) (w1.alloc (.cells #[.slice none 0 0, .slice none 0 0, .int .i64 0, .int .i64 0] 135)):=
 ⟨0,_,_,rfl,Nat.zero_le _,BlkS.new w1 _,World.ownsRow_nil _ _ _ _,World.ownsRow_nil _ _ _ _,fun x hx=>by simp [Value.ownBlock] at hx,(Below.refl _ _).alloc (Nat.le_refl _) _⟩
theorem tk_len (s:ByteArray):(rdTk s).length=(toksT s).length:=by simp [rdTk]
theorem SpOK.uniq {s:ByteArray} {c d:List Cl} (h:SpOK s c) (k:SpOK s d):c=d:=(h.1.uniq k.1).1
theorem SpOK.some {s:ByteArray} {c:List Cl} (h:SpOK s c):fineC c:=by
 obtain ⟨h60,hal,-⟩:=(okE_iff c).mp h.2
 exact ⟨h60,fun x hx=>by rw [List.all_eq_true] at hal;exact hal x hx⟩
theorem sp_none {s:ByteArray} (h:toksT s=[]) (c:List Cl): ¬SpOK s c:=by
 rintro ⟨h1,h2⟩
 have:=h1.le.1
 rw [tk_len,h] at this
 simp only [Job.held,List.length_nil] at this
 have:c=[]:=List.length_eq_zero_iff.mp (by omega)
 subst this
 obtain ⟨-,-,d,-,hx⟩:=(okE_iff []).mp h2
 generalize hn:(1:Nat)=n at hx
 cases hx with
 |nil=>cases hn
 |cons hm=>simp [amL] at hm
theorem sp_sizes (s:ByteArray):(∀x∈rdTk s,x.2.size≤20000)∧ ∀x∈rdTk s,1≤x.1∧x.1≤4:=by
 obtain ⟨f1,f2,f3,f4⟩:=toks_facts s
 have h20:toksT s≠[]→s.size≤20000:=by
  intro h
  by_cases hk:okT s=true
  ·exact (toks_len s (.inr hk)).2 h
  ·exact absurd (by rw [toksT,if_neg hk]) h
 constructor
 ·intro x hx
  simp only [rdTk,List.mem_map] at hx
  obtain ⟨y,hy,rfl⟩:=hx
  have:=h20 (List.ne_nil_of_mem hy)
  have:=f2 y hy
  simp only [ByteArray.size_extract];omega
 ·intro x hx
  simp only [rdTk,List.mem_map] at hx
  obtain ⟨y,hy,rfl⟩:=hx
  exact f4 y hy
theorem sp_of {s:ByteArray} {c:List Cl} (h:RdOK s c):SpOK s c:=by
 obtain ⟨⟨n,h1,h3⟩,h2⟩:=h
 exact ⟨read_levels h1 h3,h2⟩
theorem RdOK.okT {s:ByteArray} {c:List Cl} (h:RdOK s c):okT s=true:=by
 cases hk:Go.Proofs.YthijkjnngfnfdaaGreatDoor.okT s with
 |true=>rfl
 |false=>exact absurd (sp_of h) (sp_none (by rw [toksT,hk];rfl) c)
theorem step_back (m:Int×Nat×List (Int×Nat×Nat)) (a b:Nat) (h:(stepM (stepM m a 32) b 32).1=0):(stepM m a 32).1=0:=by
 obtain ⟨st,f,X⟩:=m
 by_cases h1:nB st 32=true
 ·exfalso
  have hst:st=3∨st=4∨st=11:=by
   unfold nB at h1
   by_cases a1:st=1
   ·subst a1;exact absurd h1 (by decide)
   by_cases a2:st=2
   ·subst a2;exact absurd h1 (by decide)
   by_cases a3:st=3
   ·exact .inl a3
   by_cases a4:st=4
   ·exact .inr (.inl a4)
   by_cases a11:st=11
   ·exact .inr (.inr a11)
   rw [if_neg a1,if_neg a2,if_neg (by omega)] at h1
   repeat' split at h1
   all_goals first|omega|(exact absurd h1 (by decide))|(exact absurd (of_decide_eq_true h1) a11)
  rcases hst with rfl|rfl|rfl
  ·simp [stepM,nB,nS,inTextI] at h
  ·simp [stepM,nB,nS,inTextI] at h
  ·simp [stepM,nB,nS] at h
 ·by_cases h2:st=0
  ·subst h2;rw [step_zero];exact first_space
  ·by_cases h3:kI st=0
   ·exfalso
    have e:stepM (st,f,X) a 32=(11,f,X):=by simp [stepM,h1,h2,h3]
    rw [e,step_stuck] at h
    simp at h
   ·rw [step_ends st f a X 32 h3 (by simpa using h1)];exact first_space
theorem end_snoc (l:List UInt8):endM (0,0,[]) 0 (l++[32])=stepM (endM (0,0,[]) 0 l) (l.length+1) 32:=by
 unfold endM
 rw [runM_snoc,List.length_append,Nat.zero_add,Nat.zero_add]
 rfl
theorem res_snoc (l:List UInt8):resB (0,0,[]) 0 (l++[32])=resB (0,0,[]) 0 l∧resL (0,0,[]) 0 (l++[32])=resL (0,0,[]) 0 l:=by
 by_cases h:(endM (0,0,[]) 0 l).1=0
 ·have e:endM (0,0,[]) 0 (l++[32])=(0,l.length+1,(endM (0,0,[]) 0 l).2.2):=by
   rw [end_snoc]
   generalize endM (0,0,[]) 0 l=m at h⊢
   obtain ⟨st,f,X⟩:=m
   simp only at h
   subst h
   rw [step_zero,first_space]
  have r1:resB (0,0,[]) 0 l=true:=by rw [resB,h];rfl
  have r2:resB (0,0,[]) 0 (l++[32])=true:=by rw [resB,e];rfl
  exact ⟨by rw [r1,r2],by rw [resL,if_pos r2,resL,if_pos r1,e]⟩
 ·have h': ¬(endM (0,0,[]) 0 (l++[32])).1=0:=by
   intro k
   rw [end_snoc] at k
   exact h (step_back (runM (0,0,[]) 0 l) _ _ k)
  have r1:resB (0,0,[]) 0 l=false:=by rw [resB,decide_eq_false h]
  have r2:resB (0,0,[]) 0 (l++[32])=false:=by rw [resB,decide_eq_false h']
  exact ⟨by rw [r1,r2],by rw [resL,r2,resL,r1];rfl⟩
theorem res_cons (l:List UInt8):resB (0,0,[]) 0 (32::l)=resB (0,0,[]) 0 l∧resL (0,0,[]) 0 (32::l)=(resL (0,0,[]) 0 l).map (shT 1):=by
 have e:endM (0,0,[]) 0 (32::l)=shM 1 [] (endM (0,0,[]) 0 l):=by
  rw [end_space _ _ _ _ _ (by decide),end_from]
  have:=end_sh 1 [] l (0,0,[]) 0
  simpa [shM] using this
 have h1:resB (0,0,[]) 0 (32::l)=resB (0,0,[]) 0 l:=by rw [resB,e,resB];rfl
 refine ⟨h1, ?_⟩
 rw [resL,h1,resL,e]
 cases resB (0,0,[]) 0 l with
 |false=>rfl
 |true=>simp [shM]
theorem ba_size (l:List UInt8):(baL l).size=l.length:=by simp [baL,ByteArray.size]
theorem okT_ba (l:List UInt8):okT (baL l)=(decide (l.length≤20000)&&plainL l&&resB (0,0,[]) 0 l):=by rw [okT,ba_size,baL_list]
theorem tkL_snoc (l:List UInt8) (hl:l.length+1≤20000):rdTk (baL (l++[32]))=rdTk (baL l):=by
 obtain ⟨r1,r2⟩:=res_snoc l
 have hok:okT (baL (l++[32]))=okT (baL l):=by
  rw [okT_ba,okT_ba,r1,plain_app,List.length_append]
  have e1:decide (l.length+[(32:UInt8)].length≤20000)=true:=decide_eq_true hl
  have e2:decide (l.length≤20000)=true:=decide_eq_true (by omega)
  have e3:plainL [32]=true:=by decide
  rw [e1,e2,e3,Bool.and_true]
 have htk:toksT (baL (l++[32]))=toksT (baL l):=by
  rw [toksT,hok,toksT]
  cases okT (baL l) with
  |false=>rfl
  |true=>rw [if_pos rfl,if_pos rfl,baL_list,baL_list,r2]
 have hin:=(toks_facts (baL l)).2.1
 rw [rdTk,rdTk,htk]
 apply List.map_congr_left
 intro x hx
 obtain ⟨q1,q2⟩:=hin x hx
 rw [ba_size] at q2
 congr 1
 apply ba_eq
 rw [ByteArray.data_extract,ByteArray.data_extract,Array.toList_extract,Array.toList_extract,List.extract_eq_take_drop,List.extract_eq_take_drop,baL_list,baL_list,List.drop_append_of_le_length (by omega),List.take_append_of_le_length (by rw [List.length_drop];omega)]
theorem tk_cons (l:List UInt8) (hl:l.length+1≤20000):rdTk (baL (32::l))=rdTk (baL l):=by
 obtain ⟨r1,r2⟩:=res_cons l
 have hok:okT (baL (32::l))=okT (baL l):=by
  rw [okT_ba,okT_ba,r1,plain_cons,List.length_cons]
  have e1:decide (l.length+1≤20000)=true:=decide_eq_true hl
  have e2:decide (l.length≤20000)=true:=decide_eq_true (by omega)
  have e3:plainI (((32:UInt8).toNat:Nat):Int)=true:=by decide
  rw [e1,e2,e3,Bool.true_and]
 have htk:toksT (baL (32::l))=(toksT (baL l)).map (shT 1):=by
  rw [toksT,hok,toksT]
  cases okT (baL l) with
  |false=>rfl
  |true=>rw [if_pos rfl,if_pos rfl,baL_list,baL_list,r2]
 have hin:=(toks_facts (baL l)).2.1
 rw [rdTk,rdTk,htk,List.map_map]
 apply List.map_congr_left
 intro x hx
 obtain ⟨q1,q2⟩:=hin x hx
 simp only [Function.comp,shT]
 congr 1
 apply ba_eq
 rw [ByteArray.data_extract,ByteArray.data_extract,Array.toList_extract,Array.toList_extract,List.extract_eq_take_drop,List.extract_eq_take_drop,baL_list,baL_list,show x.2.2+1-(x.2.1+1)=x.2.2-x.2.1 by omega,List.drop_succ_cons]
theorem tk_pad: ∀(a b:Nat) (l:List UInt8),a+(l.length+b)≤20000→rdTk (baL (spL a++(l++spL b)))=rdTk (baL l):=by
 intro a
 induction a with
 |zero=>
  intro b
  induction b with
  |zero=>intro l _;rw [show spL 0=[] from rfl,List.nil_append,List.append_nil]
  |succ b ih=>
   intro l h
   have e:spL 0++(l++spL (b+1))=(spL 0++(l++spL b))++[32]:=by
    rw [show spL (b+1)=spL b++[32] by unfold spL;exact List.replicate_succ',show spL 0=[] from rfl]
    simp
   rw [e,tkL_snoc _ (by simp [spL];omega)]
   exact ih l (by omega)
 |succ a ih=>
  intro b l h
  have e:spL (a+1)++(l++spL b)=32::(spL a++(l++spL b)):=rfl
  rw [e,tk_cons _ (by simp [spL];omega)]
  exact ih b l (by omega)
theorem tk_trim (l:List UInt8) (h:l.length≤20000):rdTk (baL l)=rdTk (baL (trimL l)):=by
 obtain ⟨a,b,e,-,-⟩:=trim_parts l
 have hl:=congrArg List.length e
 rw [List.length_append,List.length_append,show (spL a).length=a by simp [spL],show (spL b).length=b by simp [spL]] at hl
 have:=tk_pad a b (trimL l) (by omega)
 rw [←e] at this
 exact this
theorem rd_trim {l:List UInt8} (h:l.length≤20000) (c:List Cl):RdOK (baL l) c↔RdOK (baL (trimL l)) c:=by
 unfold RdOK;rw [tk_trim l h]
open Classical in
noncomputable def rdI (s:ByteArray):List Cl:=if h: ∃c,RdOK s c then h.choose else []
open Classical in
noncomputable def rdS (s:ByteArray):List Cl:=if h: ∃c,SpOK s c then h.choose else []
theorem rdI_of {s:ByteArray} {c:List Cl} (h:RdOK s c):rdI s=c:=by
 have hx: ∃c,RdOK s c:=⟨c,h⟩
 unfold rdI;rw [dif_pos hx]
 exact hx.choose_spec.uniq h
theorem rdI_no {s:ByteArray} (h: ∀c,¬RdOK s c):rdI s=[]:=by
 unfold rdI;rw [dif_neg];rintro ⟨c,hc⟩;exact h c hc
theorem rdI_trim {l:List UInt8} (h:l.length≤20000):rdI (baL l)=rdI (baL (trimL l)):=by
 by_cases hx: ∃c,RdOK (baL l) c
 ·obtain ⟨c,hc⟩:=hx
  rw [rdI_of hc,rdI_of ((rd_trim h c).mp hc)]
 ·rw [rdI_no (fun c hc=>hx ⟨c,hc⟩),rdI_no (fun c hc=>hx ⟨c,(rd_trim h c).mpr hc⟩)]
theorem rdI_text {l:List Cl} (h:okE l=true):rdI (baL (textE l))=l:=rdI_of (text_reads h)
theorem rdI_ok (s:ByteArray):rdI s=[]∨RdOK s (rdI s):=by
 by_cases hx: ∃c,RdOK s c
 ·obtain ⟨c,hc⟩:=hx
  rw [rdI_of hc];exact .inr hc
 ·exact .inl (rdI_no (fun c hc=>hx ⟨c,hc⟩))
theorem rd_sized (s:ByteArray):SizedC (rdI s)∧(rdI s).length≤60:=by
 rcases rdI_ok s with h|h
 ·rw [h];exact ⟨fun c hc=>(by cases hc),by simp⟩
 ·refine ⟨?_,((okE_iff _).mp h.2).1⟩
  obtain ⟨⟨n,hn,-⟩,-⟩:=h
  intro x hx
  have:=hn.words (B:=20000) (by omega) (fun p k w hp=>(sp_sizes s).1 _ (List.mem_of_getElem? hp)) (fun x hx=>by cases hx) x hx
  unfold maxLen;omega
theorem scBel {W w w':World} {L:Nat} (hb:Below W.heap.size W w) (hg:w.grownBy w' (some L)) (hL:W.heap.size≤L):Below W.heap.size W w':=
 hb.grown hg hb.size (fun r hr=>by injection hr with hr;omega)
theorem own_sc {w w':World} {base n L:Nat} {e:TypeId} {size:Nat} {v:Value} {xs:List Value} (h:w.ownsRow base e size v n xs) (hg:w.grownBy w' (some L)) (hL:L<base):w'.ownsRow base e size v n xs:=
 own_keep h (fun g hg2=>hg.block g (h.lt g hg2).2 (fun e=>by injection e with e;have:=(h.lt g hg2).1;omega))
def NewIt (i:It) (w:World) (e:Ending) (w':World):Prop:=
 ∃v,e= .returned (.agg #[.int .i64 i.1, .string i.2.1,v, .string i.2.2.2])∧w'.ownsRow w.heap.size 120 3 v i.2.2.1.length (flatC i.2.2.1)
theorem take_note (c:List UInt8):trimL (Lib.trimPrefix (cutR c) [35])=behL c:=by
 rcases cutR_head c with ⟨h1,h2⟩|⟨t,h1,h2⟩
 ·rw [h1,h2];rfl
 ·rw [h1,h2]
  unfold Lib.trimPrefix Lib.hasPrefix
  rw [if_pos (by simp)];rfl
theorem takeP_len (c p:List UInt8):(Lib.trimPrefix c p).length≤c.length:=by
 unfold Lib.trimPrefix
 split
 ·rw [List.length_drop];omega
 ·exact Nat.le_refl _
theorem cutR_len (c:List UInt8):(cutR c).length≤c.length∧(cutH c).length≤c.length:=by
 rw [(code_take c).1,(code_take c).2,List.length_drop,List.length_take];omega
theorem It4.stored {w:World} {B:Nat} {x0 x1 x2 x3 y0 y1 y2 y3:Value} (h:It4 w B x0 x1 x2 x3):
  It4 ((((w.setCell ⟨B,0,none⟩ y0).setCell ⟨B,1,none⟩ y1).setCell ⟨B,2,none⟩ y2).setCell ⟨B,3,none⟩ y3) B y0 y1 y2 y3:=by
 obtain ⟨⟨h1,h2,h3,h4⟩,⟨f1,f2,f3,f4⟩,h5⟩:=h
 refine ⟨⟨?_, ?_, ?_, ?_⟩,⟨?_, ?_, ?_, ?_⟩, ?_⟩
 all_goals simp [go_sem, *]
theorem scFin {w w4:World} {L len:Nat} {v y0 y1 y2 y3:Value} {xs:List Value} (hg:w.grownBy w4 (some L)) (ho:w4.ownsRow (w.heap.size+1) 120 3 v len xs):
  ((((w4.setCell ⟨w.heap.size,0,none⟩ y0).setCell ⟨w.heap.size,1,none⟩ y1).setCell ⟨w.heap.size,2,none⟩ y2).setCell ⟨w.heap.size,3,none⟩ y3).ownsRow w.heap.size 120 3 v len xs∧
  w.grownBy ((((w4.setCell ⟨w.heap.size,0,none⟩ y0).setCell ⟨w.heap.size,1,none⟩ y1).setCell ⟨w.heap.size,2,none⟩ y2).setCell ⟨w.heap.size,3,none⟩ y3) (some L):=by
 have hs: ∀(x:World) (j:Nat) (y:Value),(x.setCell ⟨w.heap.size,j,none⟩ y).heap.size=x.heap.size:=fun x j y=>by simp [World.setCell]
 refine ⟨own_base (own_keep ho (fun g hg=> ?_)) (fun g hg=> ?_), ?_⟩
 ·have hbn:g≠w.heap.size:=by have:=(ho.lt g hg).1;omega
  rw [Below.heap_setCell _ _ _ _ hbn,Below.heap_setCell _ _ _ _ hbn,Below.heap_setCell _ _ _ _ hbn,Below.heap_setCell _ _ _ _ hbn]
 ·have:=(ho.lt g hg).1;omega
 ·refine ⟨hg.os,hg.tape,hg.output, ?_,fun b hb hn=> ?_⟩
  ·rw [hs,hs,hs,hs];exact hg.size
  ·have hbn:b≠w.heap.size:=by omega
   rw [Below.heap_setCell _ _ _ _ hbn,Below.heap_setCell _ _ _ _ hbn,Below.heap_setCell _ _ _ _ hbn,Below.heap_setCell _ _ _ _ hbn]
   exact hg.block b hb hn
theorem scEntry (W:World) (nm:ByteArray) (l:List UInt8) (L:Nat) (w:World) (h:ScAt w L l) (hl:l.length≤2097152) (hb:Below W.heap.size W w) (hL:W.heap.size≤L) (htab:Tab W):
  Calls Tryz.prog 107 #[.pointer (some ⟨L,0,none⟩), .string nm] w fun e w'=>NewIt (3,nm,rdI (baL (cutH l)),baL (behL l)) w e w'∧w.grownBy w' (some L):=by
 have HLT:=Lib.hid h.lt
 have HBA:=Lib.hid (World.grownBy_alloc w (.cells #[.int .i64 0, .string ⟨#[]⟩, .slice none 0 0, .string ⟨#[]⟩] 25) (some L))
 have HZ:=Lib.hid (It4.new w (.int .i64 0) (.string ⟨#[]⟩) (.slice none 0 0) (.string ⟨#[]⟩) 25)
 have HC:=Lib.hid (scCode l L (w.alloc (.cells #[.int .i64 0, .string ⟨#[]⟩, .slice none 0 0, .string ⟨#[]⟩] 25)) (h.below ((Below.refl _ _).alloc (Nat.le_refl _) _)) hl)
 have HB:=Lib.hid hb;have HT:=Lib.hid htab
 obtain ⟨hc1,hc2⟩:=cutR_len l
 clear h hb htab
 go_enter Tryz.func107,Tryz.ntmps107
 go_wp2_with fail
 refine HC.out.mono ?_
 rintro e w1 ⟨rfl,hs1,hg1⟩
 have HG1:=Lib.hid (scTr HBA.out hg1);have HS1:=Lib.hid hs1
 have HZ1:=Lib.hid (HZ.out.grown hg1 (by have:=HLT.out;intro e;injection e with e;omega))
 clear hs1 hg1
 go_wp2_with fail
 refine (readExpr_impl (baL (cutH l)) w1 (by rw [bl_size];omega) (HT.out.keep (scBel HB.out HG1.out hL))).mono ?_
 rintro e w2 ⟨hb2,hres⟩
 obtain ⟨v,ok,rfl,hown⟩: ∃(v:Value) (ok:Bool),e= .returned (.tuple #[v, .bool ok])∧w2.ownsRow w1.heap.size 120 3 v (rdI (baL (cutH l))).length (flatC (rdI (baL (cutH l)))):=by
  rcases hres with ⟨v,c,rfl,hc,ho⟩|⟨rfl,hno⟩
  ·rw [rdI_of hc];exact ⟨v,true,rfl,ho⟩
  ·rw [rdI_no hno];exact ⟨_,false,rfl,World.ownsRow_nil _ _ _ _⟩
 obtain ⟨va,vc,rfl⟩:=own_shape hown
 have HG2:=Lib.hid (scTr HG1.out (show w1.grownBy w2 (some L) from ⟨hb2.os,hb2.tape,hb2.output,hb2.size,fun i hi _=>hb2.block i hi⟩));have HS2:=Lib.hid (HS1.out.below hb2);have HZ2:=Lib.hid (HZ1.out.keep hb2);have HO2:=Lib.hid hown
 have HL1:=Lib.hid (show L<w1.heap.size from HS1.out.lt)
 have HW1:=Lib.hid (show w.heap.size<w1.heap.size from by have:=HZ1.out.2.2;exact this)
 clear hres hown hb2 HS1 HZ1
 go_wp2_with fail
 refine (scTake ⟨#[35]⟩ _ L w2 HS2.out).mono ?_
 rintro e w3 ⟨rfl,hs3,hg3⟩
 have HG3:=Lib.hid (scTr HG2.out hg3);have HS3:=Lib.hid hs3;have HO3:=Lib.hid (own_sc HO2.out hg3 HL1.out)
 have HZ3:=Lib.hid (HZ2.out.grown hg3 (by have:=HLT.out;intro e;injection e with e;omega))
 have h3:=takeP_len (cutR l) [35]
 clear hs3 hg3 HS2 HO2 HZ2
 go_wp2_with fail
 refine (scNote (Lib.trimPrefix (cutR l) [35]) L w3 HS3.out (by omega)).mono ?_
 rintro e w4 ⟨rfl,hs4,hg4⟩
 have HG4:=Lib.hid (scTr HG3.out hg4);have HO4:=Lib.hid (own_sc HO3.out hg4 HL1.out)
 have HZ4:=Lib.hid (HZ3.out.grown hg4 (by have:=HLT.out;intro e;injection e with e;omega))
 rw [take_note]
 clear hs4 hg4 HS3 HO3 HZ3
 obtain ⟨⟨z0,z1,z2,z3⟩,⟨y0,y1,y2,y3⟩,hz⟩:=HZ4.out
 have HFIN:=Lib.hid (fun y0 y1 y2 y3=>scFin (y0:=y0) (y1:=y1) (y2:=y2) (y3:=y3) HG4.out (own_base HO4.out (fun g hg=>by have:=(HO4.out.lt g hg).1;have:=HW1.out;omega)))
 go_wp2
 exact bodyPost_ret (v:= .agg #[.int .i64 3, .string nm, .slice va (rdI (baL (cutH l))).length vc, .string (baL (behL l))]) (by simp [results,Tryz.results107,go_sem,z0,z1,z2,z3]) rfl ⟨⟨_,rfl,(HFIN.out _ _ _ _).1⟩,(HFIN.out _ _ _ _).2⟩
theorem hasP_head (l:List UInt8) (b:UInt8):Lib.hasPrefix l [b]=decide (l.head? =some b):=by
 cases l with
 |nil=>simp [Lib.hasPrefix,List.isPrefixOf]
 |cons a l=>
  by_cases h:a=b
  ·subst h;simp [Lib.hasPrefix,List.isPrefixOf]
  ·have h': ¬b=a:=fun e=>h e.symm
   simp [Lib.hasPrefix,List.isPrefixOf,h,h']
theorem trimP_yes {l:List UInt8} {b:UInt8} (h:l.head? =some b):Lib.trimPrefix l [b]=l.drop 1:=by
 unfold Lib.trimPrefix;rw [hasP_head,if_pos (by simpa using h)];rfl
theorem trimP_no {l:List UInt8} {b:UInt8} (h:l.head? ≠some b):Lib.trimPrefix l [b]=l:=by
 unfold Lib.trimPrefix;rw [hasP_head,if_neg (by simpa using h)]
theorem nmQ_len (l:List UInt8):(nmQ l).length≤l.length:=by rw [nmQ_drop,List.length_drop];omega
theorem trL_len (l:List UInt8):(trL l).length≤l.length:=by
 obtain ⟨k,hk⟩:=trL_drop l
 rw [hk,List.length_drop];omega
theorem new_nil {w w':World} (k:Int) (n t:ByteArray):NewIt (k,n,[],t) w (.returned (.agg #[.int .i64 k, .string n, .slice none 0 0, .string t])) w':=⟨_,rfl,World.ownsRow_nil _ _ _ _⟩
theorem stored_grown {w w4:World} {L:Nat} {y0 y1 y2 y3:Value} (hg:w.grownBy w4 (some L)):w.grownBy ((((w4.setCell ⟨w.heap.size,0,none⟩ y0).setCell ⟨w.heap.size,1,none⟩ y1).setCell ⟨w.heap.size,2,none⟩ y2).setCell ⟨w.heap.size,3,none⟩ y3) (some L):=
 (scFin hg (World.ownsRow_nil w4 (w.heap.size+1) 120 3)).2
theorem scItem (W:World) (l:List UInt8) (L:Nat) (w:World) (h:ScAt w L l) (hl:l.length≤2097152) (hb:Below W.heap.size W w) (hL:W.heap.size≤L) (htab:Tab W):
  Calls Tryz.prog 51 #[.pointer (some ⟨L,0,none⟩)] w fun e w'=>NewIt (rawP rdI l) w e w'∧w.grownBy w' (some L):=by
 have HLT:=Lib.hid h.lt
 have HBA:=Lib.hid (World.grownBy_alloc w (.cells #[.int .i64 0, .string ⟨#[]⟩, .slice none 0 0, .string ⟨#[]⟩] 25) (some L))
 have HZ:=Lib.hid (It4.new w (.int .i64 0) (.string ⟨#[]⟩) (.slice none 0 0) (.string ⟨#[]⟩) 25)
 have HS0:=Lib.hid (h.below ((Below.refl w.heap.size w).alloc (Nat.le_refl _) (.cells #[.int .i64 0, .string ⟨#[]⟩, .slice none 0 0, .string ⟨#[]⟩] 25)))
 have HB:=Lib.hid hb;have HT:=Lib.hid htab;have HLL:=Lib.hid hL
 obtain ⟨d0,-⟩:=HS0.out.cells
 clear h hb htab hL
 by_cases c1:l=[]
 ·subst c1
  have HR:=Lib.hid (show rawP rdI []=(1,⟨#[]⟩,[],⟨#[]⟩) by rw [rawP,if_pos rfl])
  have e0:(baL ([]:List UInt8)).toList=[]:=ByteArray.toList_eq _
  go_enter Tryz.func51,Tryz.ntmps51
  go_wp2
  exact bodyPost_ret (v:= .agg #[.int .i64 1, .string ⟨#[]⟩, .slice none 0 0, .string ⟨#[]⟩]) (by simp [results,Tryz.results51,go_sem]) rfl ⟨by rw [HR.out];exact new_nil _ _ _,World.grownBy_alloc _ _ _⟩
 by_cases c2:l=[125]
 ·subst c2
  have HR:=Lib.hid (show rawP rdI [125]=(5,⟨#[]⟩,[],⟨#[]⟩) by rw [rawP,if_neg (by simp),if_pos rfl])
  have e0:(baL ([125]:List UInt8)).toList=[125]:=ByteArray.toList_eq _
  go_enter Tryz.func51,Tryz.ntmps51
  go_wp2
  exact bodyPost_ret (v:= .agg #[.int .i64 5, .string ⟨#[]⟩, .slice none 0 0, .string ⟨#[]⟩]) (by simp [results,Tryz.results51,go_sem]) rfl ⟨by rw [HR.out];exact new_nil _ _ _,World.grownBy_alloc _ _ _⟩
 have t1:((baL l).toList==[])=false:=by rw [beq_eq_false_iff_ne,ByteArray.toList_eq];exact c1
 have t2:((baL l).toList==[125])=false:=by rw [beq_eq_false_iff_ne,ByteArray.toList_eq];exact c2
 have HTK:=Lib.hid (scTake ⟨#[35]⟩ l L (w.alloc (.cells #[.int .i64 0, .string ⟨#[]⟩, .slice none 0 0, .string ⟨#[]⟩] 25)) HS0.out)
 by_cases c3:l.head? =some 35
 ·have HR:=Lib.hid (show rawP rdI l=(2,⟨#[]⟩,[],baL (trimL (l.drop 1))) by rw [rawP,if_neg c1,if_neg c2,if_pos c3])
  rw [show (⟨#[35]⟩:ByteArray).data.toList=[35] from rfl,hasP_head,trimP_yes c3,decide_eq_true c3] at HTK
  clear c1 c2 c3
  go_enter Tryz.func51,Tryz.ntmps51
  go_wp2_with fail
  refine HTK.out.mono ?_
  rintro e w1 ⟨rfl,hs1,hg1⟩
  have HG1:=Lib.hid (scTr HBA.out hg1);have HS1:=Lib.hid hs1
  have HZ1:=Lib.hid (HZ.out.grown hg1 (by have:=HLT.out;intro e;injection e with e;omega))
  clear hs1 hg1 HTK d0
  go_wp2_with fail
  refine (scNote _ L w1 HS1.out (by rw [List.length_drop];omega)).mono ?_
  rintro e w2 ⟨rfl,hs2,hg2⟩
  have HG2:=Lib.hid (scTr HG1.out hg2)
  have HZ2:=Lib.hid (HZ1.out.grown hg2 (by have:=HLT.out;intro e;injection e with e;omega))
  obtain ⟨⟨z0,z1,z2,z3⟩,⟨y0,y1,y2,y3⟩,hz⟩:=HZ2.out
  clear hs2 hg2 HS1 HZ1
  generalize baL (trimL (l.drop 1))=nt at HR
  go_wp2
  exact bodyPost_ret (v:= .agg #[.int .i64 2, .string ⟨#[]⟩, .slice none 0 0, .string nt]) (by simp [results,Tryz.results51,go_sem,z0,z1,z2,z3]) rfl ⟨by rw [HR.out];exact new_nil _ _ _,stored_grown HG2.out⟩
 rw [show (⟨#[35]⟩:ByteArray).data.toList=[35] from rfl,hasP_head,trimP_no c3,decide_eq_false c3] at HTK
 have hq1:=nmQ_len l
 have hq2:=trL_len (nmQ l)
 have HC:=Lib.hid (And.intro c1 (And.intro c2 c3))
 clear c1 c2 c3
 go_enter Tryz.func51,Tryz.ntmps51
 go_wp2_with fail
 refine HTK.out.mono ?_
 rintro e w1 ⟨rfl,hs1,hg1⟩
 have HG1:=Lib.hid (scTr HBA.out hg1);have HS1:=Lib.hid hs1
 have HZ1:=Lib.hid (HZ.out.grown hg1 (by have:=HLT.out;intro e;injection e with e;omega))
 clear hs1 hg1 HTK d0 t1 t2
 go_wp2_with fail
 refine (scPart l L w1 HS1.out hl).mono ?_
 rintro e w2 ⟨rfl,hs2,hg2⟩
 have HG2:=Lib.hid (scTr HG1.out hg2);have HS2:=Lib.hid hs2
 have HZ2:=Lib.hid (HZ1.out.grown hg2 (by have:=HLT.out;intro e;injection e with e;omega))
 clear hs2 hg2 HS1 HZ1
 go_wp2_with fail
 refine (scSkip (nmQ l) L w2 HS2.out).mono ?_
 rintro e w3 ⟨rfl,hs3,hg3⟩
 have HG3:=Lib.hid (scTr HG2.out hg3);have HS3:=Lib.hid hs3
 have HZ3:=Lib.hid (HZ2.out.grown hg3 (by have:=HLT.out;intro e;injection e with e;omega))
 clear hs3 hg3 HS2 HZ2
 obtain ⟨d3,-⟩:=HS3.out.cells
 obtain ⟨⟨z0,z1,z2,z3⟩,⟨y0,y1,y2,y3⟩,hz⟩:=HZ3.out
 have HTQ:=Lib.hid (scTake ⟨#[61]⟩ (trL (nmQ l)) L w3 HS3.out)
 have HRD:=Lib.hid (show rawP rdI l=if trL (nmQ l)=[123] then (4,baL (nmP l),[],⟨#[]⟩) else if (trL (nmQ l)).head? =some 61 then (3,baL (nmP l),rdI (baL (cutH ((trL (nmQ l)).drop 1))),baL (behL ((trL (nmQ l)).drop 1))) else (0,⟨#[]⟩,[],⟨#[]⟩) by rw [rawP,if_neg HC.out.1,if_neg HC.out.2.1,if_neg HC.out.2.2])
 generalize trL (nmQ l)=q at d3 HTQ HRD hq2
 generalize baL (nmP l)=nm at HRD
 clear HS3 HC
 by_cases c4:q=[123]
 ·subst c4
  have e0:(baL ([123]:List UInt8)).toList=[123]:=ByteArray.toList_eq _
  have HR:=Lib.hid (show rawP rdI l=(4,nm,[],⟨#[]⟩) by rw [HRD.out,if_pos rfl])
  go_wp2
  exact bodyPost_ret (v:= .agg #[.int .i64 4, .string nm, .slice none 0 0, .string ⟨#[]⟩]) (by simp [results,Tryz.results51,go_sem,z0,z1,z2,z3]) rfl ⟨by rw [HR.out];exact new_nil _ _ _,stored_grown HG3.out⟩
 have t4:((baL q).toList==[123])=false:=by rw [beq_eq_false_iff_ne,ByteArray.toList_eq];exact c4
 by_cases c5:q.head? =some 61
 ·have HR:=Lib.hid (show rawP rdI l=(3,nm,rdI (baL (cutH (q.drop 1))),baL (behL (q.drop 1))) by rw [HRD.out,if_neg c4,if_pos c5])
  rw [show (⟨#[61]⟩:ByteArray).data.toList=[61] from rfl,hasP_head,trimP_yes c5,decide_eq_true c5] at HTQ
  clear c4 c5 z0 z1 z2 z3 y0 y1 y2 y3 hz
  go_wp2_with fail
  refine HTQ.out.mono ?_
  rintro e w4 ⟨rfl,hs4,hg4⟩
  have HG4:=Lib.hid (scTr HG3.out hg4);have HS4:=Lib.hid hs4
  have HZ4:=Lib.hid (HZ3.out.grown hg4 (by have:=HLT.out;intro e;injection e with e;omega))
  have HW4:=Lib.hid (show w.heap.size<w4.heap.size from HZ4.out.2.2)
  clear hs4 hg4 HTQ d3 t4 HZ3
  go_wp2_with fail
  refine (scEntry W nm (q.drop 1) L w4 HS4.out (by rw [List.length_drop];omega) (scBel HB.out HG4.out HLL.out) HLL.out HT.out).mono ?_
  rintro e w5 ⟨⟨v,rfl,ho5⟩,hg5⟩
  simp only at ho5
  obtain ⟨va,vc,rfl⟩:=own_shape ho5
  have HG5:=Lib.hid (scTr HG4.out hg5);have HO5:=Lib.hid (own_base (base':=w.heap.size+1) ho5 (fun g hg=>by have:=(ho5.lt g hg).1;have:=HW4.out;omega))
  obtain ⟨⟨z0,z1,z2,z3⟩,⟨y0,y1,y2,y3⟩,hz⟩:=HZ4.out.grown hg5 (by have:=HLT.out;intro e;injection e with e;omega)
  clear ho5 hg5 HS4 HZ4
  generalize rdI (baL (cutH (q.drop 1)))=R at HR HO5
  generalize baL (behL (q.drop 1))=nt at HR
  have HFIN:=Lib.hid (fun y0 y1 y2 y3=>scFin (y0:=y0) (y1:=y1) (y2:=y2) (y3:=y3) HG5.out HO5.out)
  go_wp2
  exact bodyPost_ret (v:= .agg #[.int .i64 3, .string nm, .slice va R.length vc, .string nt]) (by simp [results,Tryz.results51,go_sem,z0,z1,z2,z3]) rfl ⟨by rw [HR.out];exact ⟨_,rfl,(HFIN.out _ _ _ _).1⟩,(HFIN.out _ _ _ _).2⟩
 ·have HR:=Lib.hid (show rawP rdI l=(0,⟨#[]⟩,[],⟨#[]⟩) by rw [HRD.out,if_neg c4,if_neg c5])
  rw [show (⟨#[61]⟩:ByteArray).data.toList=[61] from rfl,hasP_head,decide_eq_false c5] at HTQ
  clear c4 c5 z0 z1 z2 z3 y0 y1 y2 y3 hz
  go_wp2_with fail
  refine HTQ.out.mono ?_
  rintro e w4 ⟨rfl,hs4,hg4⟩
  have HG4:=Lib.hid (scTr HG3.out hg4)
  obtain ⟨⟨z0,z1,z2,z3⟩,⟨y0,y1,y2,y3⟩,hz⟩:=HZ3.out.grown hg4 (by have:=HLT.out;intro e;injection e with e;omega)
  clear hs4 hg4 HTQ d3 t4 HZ3
  go_wp2
  exact bodyPost_ret (v:= .agg #[.int .i64 0, .string ⟨#[]⟩, .slice none 0 0, .string ⟨#[]⟩]) (by simp [results,Tryz.results51,go_sem,z0,z1,z2,z3]) rfl ⟨by rw [HR.out];exact new_nil _ _ _,stored_grown HG4.out⟩
theorem raw_sized (l:List UInt8) (hl:l.length≤2097152):(rawP rdI l).2.1.size≤2097152∧SizedC (rawP rdI l).2.2.1∧(rawP rdI l).2.2.1.length≤60∧(rawP rdI l).2.2.2.size≤2097152:=by
 have h1:(nmP l).length≤l.length:=by
  have:=congrArg List.length (nm_take l)
  rw [List.length_take] at this;omega
 have h2:=nmQ_len l
 have h3:=trL_len (nmQ l)
 have hz:SizedC []:=fun c hc=>by cases hc
 have e0:(⟨#[]⟩:ByteArray).size=0:=rfl
 unfold rawP
 split
 ·exact ⟨by show (⟨#[]⟩:ByteArray).size≤_;omega,hz,by simp,by show (⟨#[]⟩:ByteArray).size≤_;omega⟩
 split
 ·exact ⟨by show (⟨#[]⟩:ByteArray).size≤_;omega,hz,by simp,by show (⟨#[]⟩:ByteArray).size≤_;omega⟩
 split
 ·refine ⟨by show (⟨#[]⟩:ByteArray).size≤_;omega,hz,by simp, ?_⟩
  show (baL (trimL (l.drop 1))).size≤_
  rw [bl_size]
  have:=trimL_len (l.drop 1)
  rw [List.length_drop] at this;omega
 split
 ·exact ⟨by show (baL (nmP l)).size≤_;rw [bl_size];omega,hz,by simp,by show (⟨#[]⟩:ByteArray).size≤_;omega⟩
 split
 ·refine ⟨by show (baL (nmP l)).size≤_;rw [bl_size];omega,(rd_sized _).1,(rd_sized _).2, ?_⟩
  show (baL (behL ((trL (nmQ l)).drop 1))).size≤_
  rw [bl_size]
  have: ∀m:List UInt8,(behL m).length≤m.length:=fun m=>by
   unfold behL
   split
   ·rename_i k _
    have:=trimL_len (m.drop (k+1))
    rw [List.length_drop] at this;omega
   ·simp
  have:=this ((trL (nmQ l)).drop 1)
  rw [List.length_drop] at this;omega
 ·exact ⟨by show (⟨#[]⟩:ByteArray).size≤_;omega,hz,by simp,by show (⟨#[]⟩:ByteArray).size≤_;omega⟩
def NewItB (o:Option It) (w:World) (e:Ending) (w':World):Prop:=
 ∃v,e= .returned (.tuple #[.agg #[.int .i64 (o.getD zeroI).1, .string (o.getD zeroI).2.1,v, .string (o.getD zeroI).2.2.2], .bool o.isSome])∧w'.ownsRow w.heap.size 120 3 v (o.getD zeroI).2.2.1.length (flatC (o.getD zeroI).2.2.1)∧Below w.heap.size w w'
theorem scFinB {w w4:World} {len:Nat} {v y0 y1 y2 y3:Value} {xs:List Value} (hg:Below w.heap.size w w4) (ho:w4.ownsRow (w.heap.size+1) 120 3 v len xs):
  ((((w4.setCell ⟨w.heap.size,0,none⟩ y0).setCell ⟨w.heap.size,1,none⟩ y1).setCell ⟨w.heap.size,2,none⟩ y2).setCell ⟨w.heap.size,3,none⟩ y3).ownsRow w.heap.size 120 3 v len xs∧
  Below w.heap.size w ((((w4.setCell ⟨w.heap.size,0,none⟩ y0).setCell ⟨w.heap.size,1,none⟩ y1).setCell ⟨w.heap.size,2,none⟩ y2).setCell ⟨w.heap.size,3,none⟩ y3):=by
 refine ⟨own_base (own_keep ho (fun g hg=> ?_)) (fun g hg=> ?_), ?_⟩
 ·have hbn:g≠w.heap.size:=by have:=(ho.lt g hg).1;omega
  rw [Below.heap_setCell _ _ _ _ hbn,Below.heap_setCell _ _ _ _ hbn,Below.heap_setCell _ _ _ _ hbn,Below.heap_setCell _ _ _ _ hbn]
 ·have:=(ho.lt g hg).1;omega
 ·exact (((hg.setCell (p:=⟨w.heap.size,0,none⟩) (Nat.le_refl _) _).setCell (p:=⟨w.heap.size,1,none⟩) (Nat.le_refl _) _).setCell (p:=⟨w.heap.size,2,none⟩) (Nat.le_refl _) _).setCell (p:=⟨w.heap.size,3,none⟩) (Nat.le_refl _) _
theorem readItem_impl (s:ByteArray) (w:World) (hs:s.size≤2097152) (htab:Tab w):
  Calls Tryz.prog 15 #[.string s] w (NewItB (readItP rdI s) w):=by
 have hl:s.data.toList.length≤2097152:=by rw [Array.length_toList];exact hs
 have hlt:=trimL_len s.data.toList
 have HBA:=Lib.hid ((Below.refl w.heap.size w).alloc (Nat.le_refl _) (.cells #[.int .i64 0, .string ⟨#[]⟩, .slice none 0 0, .string ⟨#[]⟩] 25))
 have HZ:=Lib.hid (It4.new w (.int .i64 0) (.string ⟨#[]⟩) (.slice none 0 0) (.string ⟨#[]⟩) 25)
 have HT:=Lib.hid htab
 have hsz:(w.alloc (.cells #[.int .i64 0, .string ⟨#[]⟩, .slice none 0 0, .string ⟨#[]⟩] 25)).heap.size=w.heap.size+1:=by simp
 have HSZ:=Lib.hid hsz
 have HRW:=Lib.hid (show readItP rdI s=if itemB (rawP rdI (trimL s.data.toList))=true then some (rawP rdI (trimL s.data.toList)) else none from rfl)
 have HSD:=Lib.hid (raw_sized (trimL s.data.toList) (by omega))
 clear htab hsz
 go_enter Tryz.func15,Tryz.ntmps15
 go_wp2_with fail
 refine (Tryz.strings_Trim_one s 32 (by decide) _ (by omega)).mono ?_
 rintro e w1 ⟨rfl,hw1⟩
 rw [trimB_eq,ba_list2]
 have HG1:=Lib.hid (scDr hw1 none)
 have hs1:w1.heap.size=w.heap.size+1:=by
  rcases hw1 with rfl|rfl
  ·exact HSZ.out
  ·exact HSZ.out
 have HS1:=Lib.hid hs1
 have HZ1:=Lib.hid (HZ.out.grown HG1.out (by simp))
 have HB1:=Lib.hid (HBA.out.grown HG1.out (by simp) (fun r hr=>by cases hr))
 clear hw1 hs1
 have HNW:=Lib.hid (ScAt.new w1 (trimL s.data.toList))
 have HB2:=Lib.hid (HB1.out.alloc HB1.out.size (.cells #[.string (baL (trimL s.data.toList))] 75))
 have HZ2:=Lib.hid (HZ1.out.al (.cells #[.string (baL (trimL s.data.toList))] 75))
 have HIT:=Lib.hid (scItem w (trimL s.data.toList) w1.heap.size _ HNW.out (by omega) HB2.out HB1.out.size HT.out)
 generalize trimL s.data.toList=l at HIT HRW HSD HB2 HZ2 HNW⊢
 generalize rawP rdI l=i at HIT HRW HSD
 clear HZ HG1 HNW hlt
 go_wp2_with fail
 refine HIT.out.mono ?_
 rintro e w3 ⟨⟨v,rfl,ho3⟩,hg3⟩
 obtain ⟨k,n,x,t⟩:=i
 simp only at ho3
 obtain ⟨va,vc,rfl⟩:=own_shape ho3
 have HB3:=Lib.hid (HB2.out.grown hg3 HB2.out.size (fun r hr=>by injection hr with hr;have:=HB1.out.size;omega))
 have HZ3:=Lib.hid (HZ2.out.grown hg3 (by intro e;injection e with e;have:=HS1.out;omega))
 have HO3:=Lib.hid (own_base (base':=w.heap.size+1) ho3 (fun g hg=>by have h1:=(ho3.lt g hg).1;have h2:=HS1.out;simp at h1;omega))
 clear ho3 hg3 HIT HZ2 HB2 HB1 HZ1 HS1
 have HZ4:=Lib.hid (HZ3.out.al (.cells #[.int .i64 k, .string n, .slice va x.length vc, .string t] 25))
 have HB4:=Lib.hid (HB3.out.alloc HB3.out.size (.cells #[.int .i64 k, .string n, .slice va x.length vc, .string t] 25))
 have HI4:=Lib.hid (It4.new w3 (.int .i64 k) (.string n) (.slice va x.length vc) (.string t) 25)
 have HO4:=Lib.hid (HO3.out.alloc (.cells #[.int .i64 k, .string n, .slice va x.length vc, .string t] 25))
 have HIV:=Lib.hid (itemValid_impl (k,n,x,t) (.slice va x.length vc) _ (RowC.of_own HO4.out).1 (by have:=HSD.out.1;show n.size≤maxLen;unfold maxLen;simp only at this;omega) HSD.out.2.1 (by have:=HSD.out.2.2.2;show t.size≤maxLen;unfold maxLen;simp only at this;omega) (HT.out.keep HB4.out))
 simp only at HIV
 generalize hok:itemB (k,n,x,t)=ok at HIV HRW
 clear hok
 go_wp2_with fail
 refine HIV.out.mono ?_
 rintro e w5 ⟨rfl,hb5⟩
 have HB5:=Lib.hid (HB4.out.trans (hb5.mono HB4.out.size));have HZ5:=Lib.hid (HZ4.out.keep hb5);have HI5:=Lib.hid (HI4.out.keep hb5)
 have HO5:=Lib.hid (HO4.out.kept (row:=none) ⟨hb5.os,hb5.tape,hb5.output,hb5.size,fun i hi _=>hb5.block i hi⟩ (by cases hv:Value.ownBlock (.slice va x.length vc) with|none=>exact .inl rfl|some x=>exact .inr (by simp)))
 have HNE:=Lib.hid (show w.heap.size≠w3.heap.size by have:=HZ3.out.2.2;omega)
 obtain ⟨⟨z0,z1,z2,z3⟩,⟨y0,y1,y2,y3⟩,hz⟩:=HZ5.out
 obtain ⟨⟨i0,i1,i2,i3⟩,⟨j0,j1,j2,j3⟩,hi⟩:=HI5.out
 have HFIN:=Lib.hid (fun y0 y1 y2 y3=>scFinB (y0:=y0) (y1:=y1) (y2:=y2) (y3:=y3) HB5.out HO5.out)
 have HFIZ:=Lib.hid (fun y0 y1 y2 y3=>scFinB (y0:=y0) (y1:=y1) (y2:=y2) (y3:=y3) HB5.out (World.ownsRow_nil w5 (w.heap.size+1) 120 3))
 clear hb5 HB4 HZ4 HI4 HO4 HIV HSD
 cases ok with
 |false=>
  have HR:=Lib.hid (show readItP rdI s=none by rw [HRW.out,if_neg (by simp)])
  go_wp2
  exact bodyPost_ret (v:= .tuple #[.agg #[.int .i64 0, .string ⟨#[]⟩, .slice none 0 0, .string ⟨#[]⟩], .bool false]) (by simp [results,Tryz.results15,go_sem,z0,z1,z2,z3]) rfl (by rw [HR.out];exact ⟨_,rfl,HFIZ.out _ _ _ _⟩)
 |true=>
  have HR:=Lib.hid (show readItP rdI s=some (k,n,x,t) by rw [HRW.out,if_pos rfl])
  go_wp2
  exact bodyPost_ret (v:= .tuple #[.agg #[.int .i64 k, .string n, .slice va x.length vc, .string t], .bool true]) (by simp [results,Tryz.results15,go_sem,z0,z1,z2,z3]) rfl (by rw [HR.out];exact ⟨_,rfl,HFIN.out _ _ _ _⟩)
def DrawLI:Prop:= ∀(a:Option Addr) (len cap:Nat) (w:World),CodeRow w a len cap→
 Calls Tryz.prog 10 #[.slice a len cap] w fun e w'=> ∃(i:It) (au:Option Addr) (c:Nat) (d:Int),e= .returned (.tuple #[.agg #[.int .i64 i.1, .string i.2.1, .slice au i.2.2.1.length c, .string i.2.2.2], .int .i64 d])∧RowC w' (.slice au i.2.2.1.length c) i.2.2.1∧FewI i∧(-1≤d∧d≤5)∧Below w.heap.size w w'
def LineIm:Prop:= ∀(i:It) (u:Value) (d:Int) (w:World),RowC w u i.2.2.1→FewI i→Tab w→
 Calls Tryz.prog 11 #[.agg #[.int .i64 i.1, .string i.2.1,u, .string i.2.2.2], .int .i64 d] w fun e w'=>e= .returned (.string (lineD i d))∧Below w.heap.size w w'
theorem lineI_lenL (i:It) (D W:Nat):(lineI i D W).length≤2*D+i.2.1.size+W+i.2.2.2.size+12020:=by
 have h1:i.2.1.data.toList.length=i.2.1.size:=by rw [Array.length_toList];rfl
 have h2:i.2.2.2.data.toList.length=i.2.2.2.size:=by rw [Array.length_toList];rfl
 have h3:=textE_len i.2.2.1
 have h4: ∀n,(spL n).length=n:=fun n=>by simp [spL]
 unfold lineI coreI
 repeat' split
 all_goals simp only [List.length_append,List.length_cons,List.length_nil,h4,h1,h2]
 all_goals omega
theorem lineI_zero {i:It} (h:i.1≠1) (D:Nat):baL (spL (2*D))++baL (lineI i 0 0)=baL (lineI i D 0):=by
 apply ba_eq
 rw [ByteArray.data_append,Array.toList_append,baL_list,baL_list,baL_list]
 unfold lineI
 rw [if_neg h,if_neg h]
 rfl
theorem lineI_blank {i:It} (h:i.1=1) (D:Nat):lineI i D 0=[]:=by unfold lineI;rw [if_pos h]
theorem sp_two (k:Nat):baL (spL (2*k))++⟨#[32,32]⟩=baL (spL (2*(k+1))):=by
 rw [show 2*(k+1)=2*k+1+1 by omega,←sp_snoc,←sp_snoc]
 apply ba_eq
 simp [ByteArray.data_append]
theorem fnItemLine_coreG (hdraw:DrawLI) (hline:LineIm) (a0:Option Addr) (len0 cap0:Nat) (w:World) (hrow:CodeRow w a0 len0 cap0) (htab:Tab w):
  Calls Tryz.prog 3 #[.slice a0 len0 cap0] w fun e w'=>e= .returned (.bool true)∧Below w.heap.size w w':=by
 have hcap:=hrow.1;have hmx:=hrow.2.1
 unfold maxLen at hmx
 by_cases hl:len0≤1048576
 ·have HD:=Lib.hid (hdraw a0 len0 cap0 w hrow);have HT:=Lib.hid htab;have HLI:=Lib.hid hline
  clear hrow htab hdraw hline
  go_enter Tryz.func3,Tryz.ntmps3
  go_wp2_with fail
  refine HD.out.mono ?_
  rintro e w1 ⟨i,au,c,d,rfl,hr1,hf,hd,hb1⟩
  obtain ⟨k,n,l,t⟩:=i
  simp only at hr1⊢
  have HF:=Lib.hid hf
  have HB1:=Lib.hid (hb1.alloc hb1.size (.cells #[.int .i64 k, .string n, .slice au l.length c, .string t] 25))
  have HR1:=Lib.hid (hr1.al (.cells #[.int .i64 k, .string n, .slice au l.length c, .string t] 25))
  have HI1:=Lib.hid (It4.new w1 (.int .i64 k) (.string n) (.slice au l.length c) (.string t) 25)
  have HFS:=Lib.hid (fewI_short hf)
  have HCI:=Lib.hid (show∀(d:Int) (w':World),RowC w' (.slice au l.length c) l→Tab w'→Calls Tryz.prog 11 #[.agg #[.int .i64 k, .string n, .slice au l.length c, .string t], .int .i64 d] w' (fun e w2=>e= .returned (.string (lineD (k,n,l,t) d))∧Below w'.heap.size w' w2) from fun d w' hr ht=>HLI.out (k,n,l,t) (.slice au l.length c) d w' hr hf ht)
  have HCS:=Lib.hid (show∀(w':World),RowC w' (.slice au l.length c) l→Calls Tryz.prog 12 #[.agg #[.int .i64 k, .string n, .slice au l.length c, .string t], .int .i64 d] w' (fun e w2=>e= .returned (.string (lineD (k,n,l,t) d))∧Below w'.heap.size w' w2) from fun w' hr=>itemLine_spec (k,n,l,t) (.slice au l.length c) d w' hr HFS.out.1 HFS.out.2.1 HFS.out.2.2.1 HFS.out.2.2.2)
  have HCV:=Lib.hid (show∀(w':World),RowC w' (.slice au l.length c) l→Calls Tryz.prog 13 #[.agg #[.int .i64 k, .string n, .slice au l.length c, .string t]] w' (fun e w2=>e= .returned (.bool (itemB (k,n,l,t)))∧Below w'.heap.size w' w2) from fun w' hr=>itemValid_spec (k,n,l,t) (.slice au l.length c) w' hr (by have:=HFS.out.1;simp only at this;unfold maxLen;show n.size≤_;omega) HFS.out.2.1 HFS.out.2.2.1 (by have:=HFS.out.2.2.2;simp only at this;unfold maxLen;show t.size≤_;omega))
  obtain ⟨hd0,hd5⟩:=hd
  clear hr1 hf hb1
  obtain ⟨⟨z0,z1,z2,z3⟩,-,hz⟩:=HI1.out
  go_wp2_with fail
  refine (HCI.out d _ HR1.out (HT.out.keep HB1.out)).mono ?_
  rintro e w2 ⟨rfl,hb2⟩
  have HB2:=Lib.hid (HB1.out.trans (hb2.mono HB1.out.size));have HR2:=Lib.hid (HR1.out.mono hb2);have HI2:=Lib.hid (HI1.out.keep hb2)
  clear hb2 z0 z1 z2 z3 hz
  obtain ⟨⟨z0,z1,z2,z3⟩,-,hz⟩:=HI2.out
  go_wp2_with fail
  refine (HCS.out _ HR2.out).mono ?_
  rintro e w3 ⟨rfl,hb3⟩
  have HB3:=Lib.hid (HB2.out.trans (hb3.mono HB2.out.size));have HR3:=Lib.hid (HR2.out.mono hb3);have HI3:=Lib.hid (HI2.out.keep hb3)
  clear hb3 z0 z1 z2 z3 hz
  obtain ⟨⟨z0,z1,z2,z3⟩,-,hz⟩:=HI3.out
  go_wp2_with fail
  refine (HCV.out _ HR3.out).mono ?_
  rintro e w4 ⟨rfl,hb4⟩
  have HB4:=Lib.hid (HB3.out.trans (hb4.mono HB3.out.size));have HR4:=Lib.hid (HR3.out.mono hb4);have HI4:=Lib.hid (HI3.out.keep hb4)
  clear hb4 z0 z1 z2 z3 hz HB1 HB2 HB3 HR1 HR2 HR3 HI1 HI2 HI3
  have e0:(⟨#[]⟩:ByteArray).toList=[]:=ByteArray.toList_eq _
  have HLN:=Lib.hid (show¬(itemB (k,n,l,t)=true∧inI d 0 4=true)→lineD (k,n,l,t) d=⟨#[]⟩ from fun h=>by unfold lineD;rw [if_neg h])
  have HLY:=Lib.hid (show∀d:Int,itemB (k,n,l,t)=true→0≤d→d≤4→lineD (k,n,l,t) d=baL (lineI (k,n,l,t) d.toNat 0) from fun d h h0 h4=>by unfold lineD;rw [if_pos ⟨h,inI_iff.mpr ⟨h0,h4⟩⟩])
  by_cases hgood:itemB (k,n,l,t)=true∧0≤d∧d≤4
  case neg=>
   have hE:lineD (k,n,l,t) d=⟨#[]⟩:=HLN.out (fun h=>hgood ⟨h.1,inI_iff.mp h.2⟩)
   rw [hE]
   have h3:itemB (k,n,l,t)=false∨(itemB (k,n,l,t)=true∧d<0)∨(itemB (k,n,l,t)=true∧0≤d∧4<d):=by
    cases hv:itemB (k,n,l,t) with
    |false=>exact .inl rfl
    |true=>
     by_cases h0:d<0
     ·exact .inr (.inl ⟨rfl,h0⟩)
     ·exact .inr (.inr ⟨rfl,by omega,by
       by_cases h4:4<d
       ·exact h4
       ·exact absurd ⟨hv,by omega,by omega⟩ hgood⟩)
   clear hgood HLN HLY hE
   rcases h3 with hv|⟨hv,h0⟩|⟨hv,h0,h4⟩
   all_goals
    rw [hv]
    clear hv
    go_wp2_with fail
    refine (alive_any _).mono ?_
    rintro e w' ⟨rfl,rfl⟩
    go_wp2
    go_ret
    exact ⟨rfl,HB4.out⟩
  obtain ⟨hv,h0,h4⟩:=hgood
  obtain ⟨D,rfl⟩: ∃D:Nat,d=(D:Int):=⟨d.toNat,by omega⟩
  have hLd:=HLY.out (D:Int) hv (by omega) (by omega)
  rw [Int.toNat_natCast] at hLd
  have HL0:=Lib.hid (show lineD (k,n,l,t) 0=baL (lineI (k,n,l,t) 0 0) from HLY.out 0 hv (by omega) (by omega))
  have HRI:=Lib.hid (show∀w',Tab w'→Calls Tryz.prog 15 #[.string (baL (lineI (k,n,l,t) D 0))] w' (NewItB (some (k,n,l,t)) w') from fun w' ht=>by
   have hsz:(baL (lineI (k,n,l,t) D 0)).size≤20000:=by
    have h1:=lineI_lenL (k,n,l,t) D 0
    have h2:=HF.out.1;have h3:=HF.out.2.2.2
    rw [bl_size];simp only at h1 h2 h3;omega
   have:=readItem_impl (baL (lineI (k,n,l,t) D 0)) w' (by omega) ht
   rw [readItP_eq (B:=20000) (fun l hl=>rdI_trim hl) hsz,line_reads (fun l hl=>rdI_text hl) hv D 0 (baL_list _)] at this
   exact this)
  rw [hLd,hv]
  have HSZ0:=Lib.hid (show (baL (lineI (k,n,l,t) 0 0)).size≤20000 by
    have h1:=lineI_lenL (k,n,l,t) 0 0
    have h2:=HF.out.1;have h3:=HF.out.2.2.2
    rw [bl_size];simp only at h1 h2 h3;omega)
  have HEQ:=Lib.hid (show k≠1→baL (spL (2*D))++baL (lineI (k,n,l,t) 0 0)=baL (lineI (k,n,l,t) D 0) from fun h=>lineI_zero (i:=(k,n,l,t)) h D)
  have HEB:=Lib.hid (show k=1→baL (lineI (k,n,l,t) 0 0)=⟨#[]⟩∧baL (lineI (k,n,l,t) D 0)=⟨#[]⟩ from fun h=>⟨by rw [lineI_blank (i:=(k,n,l,t)) h];rfl,by rw [lineI_blank (i:=(k,n,l,t)) h];rfl⟩)
  generalize baL (lineI (k,n,l,t) D 0)=LD at*
  generalize baL (lineI (k,n,l,t) 0 0)=L0 at*
  clear hv hLd HLN HLY HCS HCV
  go_wp2_with fail
  refine (HRI.out _ (HT.out.keep HB4.out)).mono ?_
  rintro e w5 ⟨v5,rfl,ho5,hb5⟩
  simp only [Option.getD_some,Option.isSome_some] at ho5⊢
  obtain ⟨a5,c5,rfl⟩:=own_shape ho5
  have HB5:=Lib.hid ((HB4.out.trans (hb5.mono HB4.out.size)).alloc (by have:=HB4.out.size;have:=hb5.size;omega) (.cells #[.int .i64 k, .string n, .slice a5 l.length c5, .string t] 25))
  have HR5:=Lib.hid ((HR4.out.mono hb5).al (.cells #[.int .i64 k, .string n, .slice a5 l.length c5, .string t] 25))
  have HX5:=Lib.hid ((RowC.of_own ho5).1.al (.cells #[.int .i64 k, .string n, .slice a5 l.length c5, .string t] 25))
  have HI5:=Lib.hid ((HI4.out.keep hb5).al (.cells #[.int .i64 k, .string n, .slice a5 l.length c5, .string t] 25))
  have HJ5:=Lib.hid (It4.new w5 (.int .i64 k) (.string n) (.slice a5 l.length c5) (.string t) 25)
  clear ho5 hb5
  obtain ⟨⟨z0,z1,z2,z3⟩,-,hz⟩:=HI5.out
  go_wp2_with fail
  refine (HCI.out 0 _ HR5.out (HT.out.keep HB5.out)).mono ?_
  rintro e w6 ⟨rfl,hb6⟩
  rw [HL0.out]
  have HB6:=Lib.hid (HB5.out.trans (hb6.mono HB5.out.size));have HR6:=Lib.hid (HR5.out.mono hb6);have HX6:=Lib.hid (HX5.out.mono hb6);have HI6:=Lib.hid (HI5.out.keep hb6);have HJ6:=Lib.hid (HJ5.out.keep hb6)
  clear hb6 z0 z1 z2 z3 hz
  obtain ⟨⟨z0,z1,z2,z3⟩,-,hz⟩:=HI6.out
  obtain ⟨⟨y0,y1,y2,y3⟩,-,hy⟩:=HJ6.out
  have HFIN:=Lib.hid (sameItem_same k n t (.slice a5 l.length c5) (.slice au l.length c) l w6 HX6.out HR6.out)
  have hl0:=HSZ0.out
  by_cases hk1:k=1
  ·obtain ⟨g1,g2⟩:=HEB.out hk1
   subst g1;subst g2
   have q1:(k !=1)=false:=by rw [hk1];rfl
   clear hk1 HEQ HEB
   go_wp2_with fail
   go_loopw [9,10] (fun x i wr=>x= .string ⟨#[]⟩∧i= .int .i64 0∧wr=w6) (fun _ _ _=>0)
   case atStart=>exact ⟨rfl,rfl,rfl⟩
   case round=>
    obtain ⟨rfl,rfl,hwr⟩:=hrel
    subst hwr
    have hee:((⟨#[]⟩++⟨#[]⟩:ByteArray).toList.isEmpty)=true:=by rw [ByteArray.toList_eq];rfl
    by_cases hD0:(0:Int)<(D:Int)
    all_goals
     go_wp2_with fail
     refine HFIN.out.mono ?_
     rintro e w8 ⟨rfl,hb8⟩
     have HB8:=Lib.hid (HB6.out.trans (hb8.mono HB6.out.size));clear hb8
     go_wp2
     go_ret
     exact ⟨rfl,HB8.out⟩
  ·have HE1:=Lib.hid (HEQ.out hk1)
   have q1:(k !=1)=true:=bne_iff_ne.mpr hk1
   clear hk1 HEQ HEB
   go_wp2_with fail
   go_loopw [9,10] (fun x i wr=> ∃j:Nat,j≤D∧x= .string (baL (spL (2*j)))∧i= .int .i64 (j:Int)∧wr=w6) (fun _ i _=>D-(intOf i).toNat)
   case atStart=>exact ⟨0,Nat.zero_le _,rfl,rfl,rfl⟩
   case round=>
    obtain ⟨j,hj,rfl,rfl,hwr⟩:=hrel
    subst hwr
    by_cases hjD:(j:Int)<(D:Int)
    ·have hss:=sp_size (2*j)
     have hr: ¬9223372036854775807<(baL (spL (2*j))).size+2:=by omega
     clear hss
     go_wp2
     go_roundw
     case rel=>exact ⟨j+1,by omega,by rw [←sp_two],by go_num,by trivial⟩
     case measure=>simp [intOf];omega
    ·obtain rfl:j=D:=by omega
     have hss:=sp_size (2*j)
     have hr: ¬9223372036854775807<(baL (spL (2*j))).size+L0.size:=by omega
     have he:baL (spL (2*j))++L0=LD:=HE1.out
     clear hss
     go_wp2_with fail
     refine HFIN.out.mono ?_
     rintro e w8 ⟨rfl,hb8⟩
     have HB8:=Lib.hid (HB6.out.trans (hb8.mono HB6.out.size));clear hb8
     go_wp2
     go_ret
     exact ⟨by simp,HB8.out⟩
 ·clear hrow htab hdraw hline
  go_enter Tryz.func3,Tryz.ntmps3
  go_wp2
  go_ret
  exact ⟨rfl,Below.refl _ _⟩
theorem quo8 {q:Int} (h0:0≤q) (h9:q<9):0≤q.tdiv 8∧q.tdiv 8≤1:=by
 rw [Int.tdiv_eq_ediv_of_nonneg h0];omega
theorem It4.offD {W:World} {B B':Nat} {x0 x1 x2 x3:Value} (h:It4 W B x0 x1 x2 x3) (hn:B'≠B) (j:Nat) (y:Value):It4 (W.setCell ⟨B',j,none⟩ y) B x0 x1 x2 x3:=
 h.grown (row:=some B') ⟨rfl,rfl,rfl,by simp [World.setCell],fun b _ hb=>Below.heap_setCell _ _ _ _ (fun e=>hb (by rw [e]))⟩ (by intro e;injection e with e;exact hn e)
theorem drawItemLine_any : DrawLI := by
  intro a len cap w h
  have HBA := Lib.hid ((Below.refl w.heap.size w).alloc (Nat.le_refl _) (.cells #[.int .i64 0, .string ⟨#[]⟩, .slice none 0 0, .string ⟨#[]⟩] 25))
  have HZ := Lib.hid (It4.new w (.int .i64 0) (.string ⟨#[]⟩) (.slice none 0 0) (.string ⟨#[]⟩) 25)
  have HO := Lib.hid (open_codes a len cap _ (h.mono HBA.out))
  clear h
  go_enter Tryz.func10, Tryz.ntmps10
  go_wp2_with fail
  refine HO.out.mono ?_
  rintro e w1 ⟨rfl, hr1, hb1, hs1⟩
  have hsz : (w.alloc (.cells #[.int .i64 0, .string ⟨#[]⟩, .slice none 0 0, .string ⟨#[]⟩] 25)).heap.size = w.heap.size + 1 := by simp
  rw [hsz] at hr1
  have HZ1 := Lib.hid (HZ.out.keep hb1)
  have HB := Lib.hid (HBA.out.trans (hb1.mono HBA.out.size)); have HR1 := Lib.hid hr1; have HS := Lib.hid hs1
  clear hb1 hs1 hr1
  go_wp2_with fail
  (try rw [hsz])
  refine (item_any (w.heap.size + 1) 0 9 _ (by omega) (by omega) (by omega) HR1.out).mono ?_
  rintro e w2 ⟨i, au, c, rfl, hk, hf, hr2, hg2⟩
  have hs2 : w.heap.size + 2 ≤ w1.heap.size := by have := HR1.out.lt; omega
  have HZ2 := Lib.hid (HZ1.out.grown hg2 (by intro e; injection e with e; omega))
  have HK := Lib.hid hk; have HF := Lib.hid hf
  have HB2 := Lib.hid (HB.out.trans (grown_below hg2 (by omega) (by omega)))
  obtain ⟨k, n, l, t⟩ := i
  simp only at hk ⊢
  have hs22 : w1.heap.size ≤ w2.heap.size := hg2.size
  obtain ⟨W3, hW3⟩ : ∃ W, W = w2.alloc (.cells #[.int .i64 k, .string n, .slice au l.length c, .string t] 25) := ⟨_, rfl⟩
  have HI3 := Lib.hid (show It4 W3 w2.heap.size (.int .i64 k) (.string n) (.slice au l.length c) (.string t) by rw [hW3]; exact It4.new w2 _ _ _ _ _)
  have HR3 := Lib.hid (show Rdm W3 (w.heap.size + 1) 3000 by rw [hW3]; exact hr2.kept (World.grownBy_alloc w2 _ none) (by simp))
  have HZ3 := Lib.hid (show It4 W3 w.heap.size (.int .i64 0) (.string ⟨#[]⟩) (.slice none 0 0) (.string ⟨#[]⟩) by rw [hW3]; exact HZ2.out.al _)
  have HB3 := Lib.hid (show Below w.heap.size w W3 by rw [hW3]; exact HB2.out.alloc HB2.out.size _)
  have HK3 := Lib.hid (show RowK w1.heap.size W3 (.slice au l.length c) l by
    rw [hW3]; exact HK.out.keep (fun b hb hlt => Below.heap_alloc _ _ _ hlt) (by simp))
  have HS3 := Lib.hid (show W3.heap.size = w2.heap.size + 1 by rw [hW3]; simp)
  clear hk hf hr2 hg2
  go_wp2_with fail
  rw [← hW3]
  clear hW3
  have HRD := Lib.hid (show Rdm W3.drew (w.heap.size + 1) 3000 from HR3.out)
  have HID := Lib.hid (show It4 W3.drew w2.heap.size (.int .i64 k) (.string n) (.slice au l.length c) (.string t) from HI3.out)
  have HZD := Lib.hid (show It4 W3.drew w.heap.size (.int .i64 0) (.string ⟨#[]⟩) (.slice none 0 0) (.string ⟨#[]⟩) from HZ3.out)
  obtain ⟨⟨x0, x1, x2, x3⟩, -, -⟩ := HI3.out
  obtain ⟨⟨xd0, xd1, xd2, xd3⟩, -, -⟩ := HID.out
  go_region_held3 (fun W' => W'.cell? ⟨w2.heap.size, 0, none⟩ = some (.int .i64 k) ∧ W'.cell? ⟨w2.heap.size, 1, none⟩ = some (.string n) ∧ W'.cell? ⟨w2.heap.size, 2, none⟩ = some (.slice au l.length c) ∧ W'.cell? ⟨w2.heap.size, 3, none⟩ = some (.string t))
    (first
      | exact ⟨x0, x1, x2, x3⟩
      | exact ⟨xd0, xd1, xd2, xd3⟩
      | exact ⟨z0, z1, z2, z3⟩
      | exact ⟨v0, v1, v2, v3⟩
      | exact ((((HV.out.offD hnz 0 _).offD hnz 1 _).offD hnz 2 _).offD hnz 3 _).1
      | go_keep)
    (first
      | ((go_at_call 41; (with_reducible refine (pick_any (w.heap.size + 1) 3000 6 _ (by omega) HRD.out).mono ?_); rintro e w4 ⟨m, rfl, hm0, hm1, -, hr4, hg4, hs4⟩
          have hm6 := hm1 (by omega)
          obtain ⟨⟨z0, z1, z2, z3⟩, -, -⟩ := HID.out.grown hg4 (by intro e; injection e with e; omega)))
      | ((go_at_call 41; (with_reducible refine (pick_any (w.heap.size + 1) 3001 9 _ (by omega) hr4).mono ?_); rintro e w5 ⟨q, rfl, hq0, hq1, -, hr5, hg5, hs5⟩
          have hq9 := hq1 (by omega)
          obtain ⟨y0, y1⟩ := quo8 hq0 hq9
          have hwq : IntKind.i64.wrap (q.tdiv 8) = q.tdiv 8 := IntWalk.i64_in _ (by omega)
          have hws : IntKind.i64.wrap (m - q.tdiv 8) = m - q.tdiv 8 := IntWalk.i64_in _ (by omega)
          have HV := Lib.hid ((HID.out.grown hg4 (by intro e; injection e with e; omega)).grown hg5 (by intro e; injection e with e; omega))
          have hnz : w.heap.size ≠ w2.heap.size := by omega
          obtain ⟨⟨v0, v1, v2, v3⟩, -, -⟩ := (HID.out.grown hg4 (by intro e; injection e with e; omega)).grown hg5 (by intro e; injection e with e; omega)
          obtain ⟨⟨u0, u1, u2, u3⟩, ⟨f0, f1, f2, f3⟩, -⟩ := (HZD.out.grown hg4 (by intro e; injection e with e; omega)).grown hg5 (by intro e; injection e with e; omega))))
  all_goals
    have hds : W3.drew.heap.size = W3.heap.size := rfl
    have hsz3 := HS3.out
    have h4 := hg4.size
    have h5 := hg5.size
    have HFIN := Lib.hid (show ∀ w6 : World, w6 = (((w5.setCell ⟨w.heap.size, 0, none⟩ (.int .i64 k)).setCell ⟨w.heap.size, 1, none⟩ (.string n)).setCell ⟨w.heap.size, 2, none⟩ (.slice au l.length c)).setCell ⟨w.heap.size, 3, none⟩ (.string t) →
        RowC w6 (.slice au l.length c) l ∧ Below w.heap.size w w6 by
      rintro w6 rfl
      have hs : ∀ (x : World) (j : Nat) (y : Value), (x.setCell ⟨w.heap.size, j, none⟩ y).heap.size = x.heap.size := fun x j y => by simp [World.setCell]
      refine ⟨HK3.out _ (fun b hb hlt => ?_) (by rw [hs, hs, hs, hs]; omega), ?_⟩
      · have hbn : b ≠ w.heap.size := by omega
        rw [Below.heap_setCell _ _ _ _ hbn, Below.heap_setCell _ _ _ _ hbn, Below.heap_setCell _ _ _ _ hbn, Below.heap_setCell _ _ _ _ hbn, hg5.block b (by omega) (fun e => by injection e with e; omega), hg4.block b (by omega) (fun e => by injection e with e; omega)]
        rfl
      · exact ((((((HB3.out.drew).trans (grown_below hg4 (by omega) (by omega))).trans (grown_below hg5 (by omega) (by omega))).setCell (p := ⟨w.heap.size, 0, none⟩) (Nat.le_refl _) _).setCell (p := ⟨w.heap.size, 1, none⟩) (Nat.le_refl _) _).setCell (p := ⟨w.heap.size, 2, none⟩) (Nat.le_refl _) _).setCell (p := ⟨w.heap.size, 3, none⟩) (Nat.le_refl _) _)
    have hdd : -1 ≤ m - q.tdiv 8 ∧ m - q.tdiv 8 ≤ 5 := by omega
    clear hg4 hg5 HB3 HK3 hr4 hr5
    go_wp2
    exact bodyPost_ret (v := .tuple #[.agg #[.int .i64 k, .string n, .slice au l.length c, .string t], .int .i64 (m - q.tdiv 8)]) (by simp [results, Tryz.results10, go_sem, u0, u1, u2, u3]) rfl ⟨(k, n, l, t), au, c, _, rfl, (HFIN.out _ rfl).1, HF.out, hdd, (HFIN.out _ rfl).2⟩
theorem line_im:LineIm:=fun i u d w hr hf ht=>
 itemLine_impl i u d w hr (by have:=hf.1;omega) (fun c hc=>by have:=hf.2.1 c hc;unfold maxLen;omega) (by have:=hf.2.2.2;omega) ht
theorem fnItemLine_core (a0:Option Addr) (len0 cap0:Nat) (w:World) (hrow:CodeRow w a0 len0 cap0) (htab:Tab w):
  Calls Tryz.prog 3 #[.slice a0 len0 cap0] w fun e w'=>e= .returned (.bool true)∧Below w.heap.size w w':=
 fnItemLine_coreG drawItemLine_any line_im a0 len0 cap0 w hrow htab
end Go.Proofs.YthijkjnngfnfdaaGreatDoor
