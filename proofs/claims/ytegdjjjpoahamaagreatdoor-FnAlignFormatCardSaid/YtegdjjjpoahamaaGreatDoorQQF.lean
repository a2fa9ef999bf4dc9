/-
  Part of the proof of FnAlignFormat.
-/
import Derived.Test.YtegdjjjpoahamaaGreatDoorQQAaf
import Derived.Test.YtegdjjjpoahamaaGreatDoorDrawSound
import Derived.Test.YtegdjjjpoahamaaGreatDoorLineI
import Derived.Deep.Draws
import Derived.Deep.AppendLies
import Derived.Deep.RegionHeld3
import Derived.RegionTactic
import Derived.Deep.RegionLaw
import Derived.Deep.DrawnRows
import Derived.Deep.RegionWith
import Derived.WalkKit
import Derived.WalkSpells
import Derived.Lib.Hide
import Derived.IntWalk
import Derived.BigQuiet
import Derived.Deep.QuietTactic
import Derived.Below
import Derived.Laws.OwnMore
import Derived.OwnWalk
import Derived.Deep.Onto
import Derived.StillTailTactics
set_option linter.unusedVariables false
set_option maxHeartbeats 8000000
set_option maxRecDepth 100000
namespace Go.Proofs.YtegdjjjpoahamaaGreatDoor
def lastK (l:List It):Int:=(l.getLast?.map (·.1)).getD 0
theorem lastK_snoc (l:List It) (i:It):lastK (l++[i])=i.1:=by unfold lastK;rw [List.getLast?_concat];rfl
def tidyS (out:List It) (i:It):List It:=
 if i.1=1∧(out=[]∨lastK out=1∨lastK out=4) then out
 else (if i.1=5∧lastK out=1 then out.dropLast else out)++[i]
def tidyE (out:List It):List It:=if lastK out=1 then out.dropLast else out
def tidyL (l:List It):List It:=tidyE (l.foldl tidyS [])
noncomputable def tidyD (l:List It):List It:=if docB l=true then tidyL l else []
def fullL (l:List It):List It:=l.filter fun i=>decide (i.1≠1)
theorem fullL_snoc (l:List It) (i:It):fullL (l++[i])=fullL l++(if i.1=1 then [] else [i]):=by
 unfold fullL
 rw [List.filter_append]
 congr 1
 by_cases h:i.1=1
 ·rw [if_pos h];simp [h]
 ·rw [if_neg h];simp [h]
theorem drop_last {l:List It} (h:lastK l=1): ∃i,l=l.dropLast++[i]∧i.1=1:=by
 cases hl:l.getLast? with
 |none=>rw [lastK,hl] at h;cases h
 |some i=>
  obtain ⟨ys,hy⟩:=List.getLast?_eq_some_iff.mp hl
  subst hy
  rw [lastK_snoc] at h
  exact ⟨i,by rw [List.dropLast_concat],h⟩
theorem full_drop {l:List It} (h:lastK l=1):fullL l.dropLast=fullL l:=by
 obtain ⟨i,e,h1⟩:=drop_last h
 conv=>rhs;rw [e]
 rw [fullL_snoc,if_pos h1,List.append_nil]
theorem full_S (out:List It) (i:It):fullL (tidyS out i)=fullL (out++[i]):=by
 unfold tidyS
 split
 ·rename_i h;rw [fullL_snoc,if_pos h.1,List.append_nil]
 ·rw [fullL_snoc,fullL_snoc]
  split
  ·rename_i h;rw [full_drop h.2]
  ·rfl
theorem full_fold: ∀(l out:List It),fullL (l.foldl tidyS out)=fullL (out++l):=by
 intro l
 induction l with
 |nil=>intro out;simp
 |cons i l ih=>
  intro out
  rw [List.foldl_cons,ih]
  have:fullL (tidyS out i++l)=fullL (tidyS out i)++fullL l:=by unfold fullL;rw [List.filter_append]
  rw [this,full_S]
  unfold fullL
  rw [←List.filter_append,List.append_assoc];rfl
theorem full_E (out:List It):fullL (tidyE out)=fullL out:=by
 unfold tidyE
 split
 ·rename_i h;exact full_drop h
 ·rfl
theorem tidy_full (l:List It):fullL (tidyL l)=fullL l:=by
 unfold tidyL
 rw [full_E,full_fold,List.nil_append]
theorem nest_full: ∀(l:List It) (d:Int),0≤d→d≤4→nestO d l=nestO d (fullL l):=by
 intro l
 induction l with
 |nil=>intro d _ _;rfl
 |cons i l ih=>
  intro d h0 h1
  by_cases h:i.1=1
  ·have e:fullL (i::l)=fullL l:=by unfold fullL;rw [List.filter_cons_of_neg (by simp [h])]
   have en:depN d i=d:=by unfold depN depS;rw [if_neg (by omega),if_neg (by omega)]
   rw [e,nestO,en,if_pos ⟨h0,h1⟩,ih d h0 h1]
  ·have e:fullL (i::l)=i::fullL l:=by unfold fullL;rw [List.filter_cons_of_pos (by simp [h])]
   rw [e,nestO,nestO]
   split
   ·rename_i hc;exact ih _ hc.1 hc.2
   ·rfl
theorem tidyS_mem {out:List It} {i j:It} (h:j∈tidyS out i):j∈out∨j=i:=by
 unfold tidyS at h
 split at h
 ·exact .inl h
 ·rw [List.mem_append,List.mem_singleton] at h
  rcases h with h|h
  ·split at h
   ·exact .inl (List.dropLast_subset _ h)
   ·exact .inl h
  ·exact .inr h
theorem tidyS_len (out:List It) (i:It):(tidyS out i).length≤out.length+1:=by
 unfold tidyS
 split
 ·omega
 ·rw [List.length_append,List.length_singleton]
  split
  ·rw [List.length_dropLast];omega
  ·omega
theorem fold_mem: ∀(l out:List It) (j:It),j∈l.foldl tidyS out→j∈out∨j∈l:=by
 intro l
 induction l with
 |nil=>intro out j h;exact .inl h
 |cons i l ih=>
  intro out j h
  rcases ih _ j h with h|h
  ·rcases tidyS_mem h with h|h
   ·exact .inl h
   ·exact .inr (by rw [h];exact List.mem_cons_self ..)
  ·exact .inr (List.mem_cons_of_mem _ h)
theorem fold_len: ∀(l out:List It),(l.foldl tidyS out).length≤out.length+l.length:=by
 intro l
 induction l with
 |nil=>intro out;exact Nat.le_refl _
 |cons i l ih=>
  intro out
  have:=ih (tidyS out i)
  have h2:=tidyS_len out i
  rw [List.foldl_cons,List.length_cons];omega
theorem tidyE_mem {out:List It} {j:It} (h:j∈tidyE out):j∈out:=by
 unfold tidyE at h
 split at h
 ·exact List.dropLast_subset _ h
 ·exact h
theorem tidyE_len (out:List It):(tidyE out).length≤out.length:=by
 unfold tidyE
 split
 ·rw [List.length_dropLast];omega
 ·omega
theorem tidy_mem {l:List It} {j:It} (h:j∈tidyL l):j∈l:=by
 rcases fold_mem l [] j (tidyE_mem h) with h|h
 ·cases h
 ·exact h
theorem tidy_len (l:List It):(tidyL l).length≤l.length:=by
 have h1:=tidyE_len (l.foldl tidyS [])
 have h2:=fold_len l []
 rw [List.length_nil,Nat.zero_add] at h2
 exact Nat.le_trans h1 h2
theorem tidy_doc {l:List It} (h:docB l=true):docB (tidyL l)=true:=by
 rw [docB_iff] at h⊢
 obtain ⟨h1,h2,h3⟩:=h
 refine ⟨Nat.le_trans (tidy_len l) h1, ?_, ?_⟩
 ·rw [List.all_eq_true] at h2⊢
  exact fun j hj=>h2 j (tidy_mem hj)
 ·rw [nest_full _ 0 (by omega) (by omega),tidy_full,←nest_full _ 0 (by omega) (by omega)];exact h3
end Go.Proofs.YtegdjjjpoahamaaGreatDoor
namespace Go.Proofs.YtegdjjjpoahamaaGreatDoor
noncomputable def printK (l:List It):Bool:=docB l&&joinOk (printL l)
noncomputable def printT (l:List It):ByteArray:=if printK l=true then joinB (printL l) else ⟨#[]⟩
theorem goD_some {R:ByteArray→List Cl}: ∀(ss:List ByteArray) (acc l:List It),(goD R acc ss).1=some l→ ∃t,l=acc++t∧t.length=ss.length:=by
 intro ss
 induction ss with
 |nil=>intro acc l h;injection h with h;exact ⟨[],by simp [h],rfl⟩
 |cons s ss ih=>
  intro acc l h
  rw [goD] at h
  split at h
  ·split at h
   ·rename_i i _ _
    obtain ⟨t,e,k⟩:=ih _ _ h
    exact ⟨i::t,by rw [e];simp,by simp [k]⟩
   ·cases h
  ·cases h
theorem goD_none {R:ByteArray→List Cl}: ∀(ss:List ByteArray) (acc:List It),(goD R acc ss).1=none→acc.length≤(goD R acc ss).2∧(goD R acc ss).2<acc.length+ss.length∧ ∀k,(hk:k<ss.length)→acc.length+k<(goD R acc ss).2→readIt R ss[k]≠none:=by
 intro ss
 induction ss with
 |nil=>intro acc h;cases h
 |cons s ss ih=>
  intro acc h
  rw [goD] at h⊢
  split at h
  ·rename_i i hi
   split at h
   ·rename_i hc
    (try rw [hi])
    simp only [if_pos hc]
    obtain ⟨h1,h2,h3⟩:=ih _ h
    simp only [List.length_append,List.length_cons,List.length_nil] at h1 h2 h3
    refine ⟨by omega,by simp only [List.length_cons];omega, ?_⟩
    intro k hk hlt
    cases k with
    |zero=>show readIt R s≠none;rw [hi];simp
    |succ k=>exact h3 k (by simpa using hk) (by omega)
   ·rename_i hc
    (try rw [hi])
    simp only [if_neg hc]
    exact ⟨Nat.le_refl _,by simp,fun k hk hlt=>by omega⟩
  ·rename_i hi
   (try rw [hi])
   exact ⟨Nat.le_refl _,by simp,fun k hk hlt=>by simp only at hlt;omega⟩
theorem readDL_ok {R:ByteArray→List Cl} {ss:List ByteArray} (h:(readDL R ss).2= -1):docB (readDL R ss).1=true∧(readDL R ss).1.length=ss.length:=by
 unfold readDL at h⊢
 split
 ·rename_i l hl
  rw [hl] at h
  obtain ⟨t,e,k⟩:=goD_some _ _ _ hl
  rw [List.nil_append] at e;subst e
  by_cases hd:docB l=true
  ·rw [if_pos hd];exact ⟨hd,k⟩
  ·simp only [if_neg hd] at h;omega
 ·rename_i hn
  rw [hn] at h
  simp only at h;omega
theorem readDL_no {R:ByteArray→List Cl} {ss:List ByteArray} (h:(readDL R ss).2≠ -1):(readDL R ss).1=[]∧0≤(readDL R ss).2∧(readDL R ss).2≤ss.length∧ ∀k,(hk:k<ss.length)→(k:Int)<(readDL R ss).2→readIt R ss[k]≠none:=by
 unfold readDL at h⊢
 split
 ·rename_i l hl
  rw [hl] at h
  by_cases hd:docB l=true
  ·simp only [if_pos hd] at h;exact absurd rfl h
  ·simp only [if_neg hd]
   refine ⟨by trivial,by omega,Int.le_refl _, ?_⟩
   intro k hk _
   have key: ∀(ss:List ByteArray) (acc l:List It),(goD R acc ss).1=some l→ ∀k,(hk:k<ss.length)→readIt R ss[k]≠none:=by
    intro ss
    induction ss with
    |nil=>intro acc l _ k hk;simp at hk
    |cons s ss ih=>
     intro acc l h k hk
     rw [goD] at h
     split at h
     ·rename_i i hi
      split at h
      ·cases k with
       |zero=>show readIt R s≠none;rw [hi];simp
       |succ k=>exact ih _ _ h k (by simpa using hk)
      ·cases h
     ·cases h
   exact key _ _ _ hl k hk
 ·rename_i hn
  obtain ⟨h1,h2,h3⟩:=goD_none _ _ hn
  simp only [List.length_nil] at h1 h2 h3
  refine ⟨rfl,by omega,by omega,fun k hk hlt=>h3 k hk (by simp only at hlt;omega)⟩
theorem printK_iff (l:List It):printK l=true↔docB l=true∧joinOk (printL l)=true:=by rw [printK,Bool.and_eq_true]
theorem print_reads {R:ByteArray→List Cl} (hR: ∀l,okE l=true→R (baL (textE l))=l) {l:List It} (h:printK l=true):readD R (printT l)=(l,-1)∧(linesB (printT l)).length=l.length∧textB (printT l)=true:=by
 obtain ⟨h1,h2⟩:=(printK_iff l).mp h
 obtain ⟨k1,k2⟩:=lines_join _ h2
 have e:printT l=joinB (printL l):=by rw [printT,if_pos h]
 have hlen:(printL l).length=l.length:=printG_length l 0
 refine ⟨?_,by rw [e,k2,hlen],by rw [e];exact k1⟩
 rw [e,readD,if_pos k1,k2]
 refine lines_read hR h1 _ hlen fun k h1 h2=> ?_
 rw [show (printL l)[k]=_ from printG_at l 0 k h2]
 exact ⟨_,_,baL_list _⟩
theorem readD_ok {R:ByteArray→List Cl} {s:ByteArray} (h:(readD R s).2= -1):textB s=true∧docB (readD R s).1=true∧(readD R s).1.length=(linesB s).length:=by
 unfold readD at h⊢
 by_cases ht:textB s=true
 ·rw [if_pos ht] at h⊢
  exact ⟨ht,readDL_ok h⟩
 ·rw [if_neg ht] at h;simp at h
theorem readD_no {R:ByteArray→List Cl} {s:ByteArray} (h:(readD R s).2≠ -1):(readD R s).1=[]∧0≤(readD R s).2∧(readD R s).2≤(linesB s).length∧ ∀k,(hk:k<(linesB s).length)→(k:Int)<(readD R s).2→readIt R (linesB s)[k]≠none:=by
 unfold readD at h⊢
 by_cases ht:textB s=true
 ·rw [if_pos ht] at h⊢
  exact readDL_no h
 ·simp only [if_neg ht]
  exact ⟨by trivial,by omega,by omega,fun k hk hlt=>by omega⟩
noncomputable def formK (R:ByteArray→List Cl) (s:ByteArray):Bool:=decide ((readD R s).2= -1)&&printK (tidyL (readD R s).1)
noncomputable def formT (R:ByteArray→List Cl) (s:ByteArray):ByteArray:=if formK R s=true then printT (tidyL (readD R s).1) else ⟨#[]⟩
end Go.Proofs.YtegdjjjpoahamaaGreatDoor
namespace Go.Proofs.YtegdjjjpoahamaaGreatDoor
open Go.RowKit
theorem printT_join {l:List It} (h:docB l=true):printK l=joinOk (printL l)∧printT l=joinB (printL l):=by
 have hk:printK l=joinOk (printL l):=by unfold printK;rw [h];rfl
 refine ⟨hk, ?_⟩
 unfold printT
 rw [hk]
 by_cases hj:joinOk (printL l)=true
 ·rw [if_pos hj]
 ·rw [if_neg hj,joinB,if_neg hj];rfl
theorem printT_no {l:List It} (h:docB l=false):printK l=false∧printT l=⟨#[]⟩:=by
 have hk:printK l=false:=by unfold printK;rw [h];rfl
 exact ⟨hk,by unfold printT;rw [hk];rfl⟩
end Go.Proofs.YtegdjjjpoahamaaGreatDoor
namespace Go.Proofs.YtegdjjjpoahamaaGreatDoor
open Go.RowKit
theorem print_plain {l:List It} (hd:docB l=true): ∀t∈printL l,plainL t.data.toList=true:=by
 intro t ht
 obtain ⟨k,hk,rfl⟩:=List.getElem_of_mem ht
 have hk2:k<l.length:=by rw [printL_length] at hk;exact hk
 rw [show (printL l)[k]=_ from printG_at l 0 k hk2,baL_list]
 have hv:=((docB_iff l).mp hd).2.1
 rw [List.all_eq_true] at hv
 exact line_plain (hv _ (List.getElem_mem hk2)) _ 0
theorem RowKw.of {w0 w:World} {v:Value} {l:List It} (h:RowIt w0 v l):RowKw w0 w v l:=by
 obtain ⟨ao,cap,hv,h1,h2,h3⟩:=h
 refine ⟨ao,cap,hv,h1,h2,h3.imp id ?_⟩
 rintro ⟨b,o,ha,hlt,hj⟩
 refine ⟨b,o,ha,fun k hk=> ?_⟩
 obtain ⟨u,hu⟩:=hj k hk
 refine ⟨u,hu.2.2.2.2,fun W' hb _=> ?_⟩
 obtain ⟨d0,d1,d2,d3,-⟩:=hu.mono hlt hb
 exact ⟨d0,d1,d2,d3⟩
theorem printDocument_impl (v:Value) (l:List It) (w:World) (hr:RowIt w v l) (hz:ShortI l) (hl:l.length≤1048576) (htab:Tab w):
  Calls Tryz.prog 29 #[v] w fun e w'=>e= .returned (.tuple #[.string (printT l), .bool (printK l)])∧Below w.heap.size w w':=by
 have HC:=Lib.hid (documentValid_impl v l w hr (fitI_of_short hz) htab)
 have HR:=Lib.hid hr;have HT:=Lib.hid htab;have HZ:=Lib.hid hz
 obtain ⟨ao,cap,rfl,h1,h2,h3⟩:=hr
 clear h3 hz htab
 cases hok:docB l with
 |false=>
  obtain ⟨hk,ht⟩:=printT_no hok
  rw [hk,ht]
  rw [hok] at HC
  clear hk ht hok
  go_enter Tryz.func29,Tryz.ntmps29
  go_wp2_with fail
  refine HC.out.mono ?_
  rintro e w1 ⟨rfl,hb1⟩
  have HB1:=Lib.hid hb1;clear hb1
  go_wp2
  go_ret2
  exact ⟨rfl,HB1.out⟩
 |true=>
  obtain ⟨h30,hal,hn⟩:=(docB_iff l).mp hok
  rw [List.all_eq_true] at hal
  have HPT:=Lib.hid (lines_text (print_plain hok))
  have HJ:=Lib.hid (printT_join hok)
  have HDW:=Lib.hid (fun (w0 w1:World) (b:Nat) (v u:Value) (hb:Below w0.heap.size w0 w1) (hw:LwAt w0.heap.size b [] w1) (hr:RowIt w0 v l) (ht:Tab w0) (hu: ∃B,w1.ownsRow B 3 1 u l.length (ints (dps 0 l)))=>document_w w0 w1 b v u l hb hw (.of hr) HZ.out h30 (fun i hi=> .inl (hal i hi)) hn ht hu)
  have HDP:=Lib.hid (fun (w':World) (v:Value) (hr:RowIt w' v l) (ht:Tab w')=>depthsOf_impl v l w' hr (fitI_of_short HZ.out) ht)
  have HDD:=Lib.hid (show dpD l=dps 0 l by unfold dpD;rw [if_pos hok])
  have hlen:(accTo (printL l) l.length).size≤100000000:=by
   have:=acc_len HZ.out hn l.length (Nat.le_refl _)
   rw [size_bytes];omega
  rw [printL_length] at HPT
  rw [hok] at HC
  obtain ⟨A,hA⟩: ∃A,A=accTo (printL l) l.length:=⟨_,rfl⟩
  rw [←hA] at HDW HPT hlen
  have HFIN:=Lib.hid (show (if textB A=true then A else ⟨#[]⟩)=printT l∧textB A=printK l from by
   obtain ⟨p1,p2⟩:=HPT.out
   obtain ⟨j1,j2⟩:=HJ.out
   refine ⟨?_,by rw [j1,p1]⟩
   by_cases ht:textB A=true
   ·rw [if_pos ht,j2];exact p2 (by rw [←p1];exact ht)
   ·rw [if_neg ht,printT,if_neg (by rw [j1,←p1];exact ht)])
  clear hok hA hal hn
  go_enter Tryz.func29,Tryz.ntmps29
  go_wp2_with fail
  refine HC.out.mono ?_
  rintro e w1 ⟨rfl,hb1⟩
  have HB1:=Lib.hid hb1;have HR1:=Lib.hid (HR.out.mono hb1);have HT1:=Lib.hid (HT.out.keep hb1)
  have BX:=Lib.hid ((Below.refl w1.heap.size w1).alloc (Nat.le_refl _) (.cells #[.pointer none, .slice none 0 0] 64))
  clear hb1
  go_wp2_with fail
  refine (HDP.out _ _ (HR1.out.mono BX.out) (HT1.out.keep BX.out)).mono ?_
  rintro e w2 ⟨u,rfl,ho2,hb2⟩
  rw [HDD.out,dps_length] at ho2
  have W2:=Lib.hid ((LwAt.new w1).later hb2)
  have B2:=Lib.hid (BX.out.trans (hb2.mono (by simp)))
  have O2:=Lib.hid ho2
  obtain ⟨ua,uc,rfl⟩:=own_shape ho2
  clear hb2 ho2
  go_wp2_with fail
  refine (HDW.out w1 w2 w1.heap.size _ _ B2.out W2.out HR1.out HT1.out ⟨_,O2.out⟩).mono ?_
  rintro e w3 ⟨rfl,h3,hb3,-⟩
  have W3:=Lib.hid h3;have B3:=Lib.hid hb3
  clear h3 hb3
  go_wp2_with fail
  refine (result_w w1.heap.size w1.heap.size A w3 W3.out B3.out.size hlen).mono ?_
  rintro e w4 ⟨rfl,hb4⟩
  rw [HFIN.out.1,HFIN.out.2]
  have HB4:=Lib.hid (HB1.out.trans ((B3.out.trans hb4).mono HB1.out.size));clear hb4
  go_wp2
  go_ret2
  exact ⟨rfl,HB4.out⟩
end Go.Proofs.YtegdjjjpoahamaaGreatDoor
namespace Go.Proofs.YtegdjjjpoahamaaGreatDoor
open Go.RowKit
theorem shortC_nil:ShortC []:=fun c hc=>by cases hc
theorem behL_len (m:List UInt8):(behL m).length≤m.length:=by
 unfold behL
 split
 ·rename_i k _
  have:=trimL_len (m.drop (k+1))
  rw [List.length_drop] at this;omega
 ·simp
section
variable {w X:World} {k:Int} {n t:ByteArray} {v:Value} {x:List Cl}
end
end Go.Proofs.YtegdjjjpoahamaaGreatDoor
namespace Go.Proofs.YtegdjjjpoahamaaGreatDoor
open Go.RowKit
theorem print_size (l:List It):(printT l).size≤20000:=by
 by_cases hk:printK l=true
 ·have h:=((lines_join _ ((printK_iff l).mp hk).2)).1
  rw [printT,if_pos hk]
  simp only [textB,Bool.and_eq_true,decide_eq_true_eq] at h;exact h.1
 ·rw [printT,if_neg hk];exact Nat.zero_le _
end Go.Proofs.YtegdjjjpoahamaaGreatDoor
namespace Go.Proofs.YtegdjjjpoahamaaGreatDoor
def blankI:It:=(1,ByteArray.empty,[],ByteArray.empty)
def waitL (b:Bool):List It:=if b=true then [blankI] else []
structure Tdd (a R:List It) (b:Bool):Prop where
 short:R.length+(waitL b).length≤a.length
 none:R=[]→b=false
 last:R≠[]→lastK R≠1∧lastK R≠4
 fold: ∀out:List It,(out=[]∨lastK out=4)→a.foldl tidyS out=out++(R++waitL b)
theorem lastK_app (a:List It) {b:List It} (h:b≠[]):lastK (a++b)=lastK b:=by
 obtain ⟨x,hx⟩: ∃x,b.getLast? =some x:=⟨_,List.getLast?_eq_some_getLast h⟩
 unfold lastK
 rw [List.getLast?_append,hx];rfl
theorem Tdd.nil:Tdd [] [] false:=⟨by simp [waitL],fun _=>rfl,fun h=>absurd rfl h,fun out _=>by simp [waitL]⟩
theorem Tdd.nil_inv {R:List It} {b:Bool} (h:Tdd [] R b):R=[]:=by
 have:=h.short
 rw [List.length_nil] at this
 exact List.length_eq_zero_iff.mp (by omega)
theorem blank_of {i:It} (h:itemB i=true) (h1:i.1=1):i=blankI:=by
 obtain ⟨k,n,l,t⟩:=i
 simp only at h1
 subst h1
 unfold itemB at h
 simp only [true_or,if_true,Bool.and_eq_true] at h
 obtain ⟨h1,h2,h3⟩:=h
 have hz: ∀s:ByteArray,emB s=true→s=ByteArray.empty:=by
  intro s hs
  have hd:s.data= #[]:=Array.eq_empty_of_size_eq_zero (beq_iff_eq.mp hs)
  cases s;cases hd;rfl
 rw [hz n h1,hz t h3,List.isEmpty_iff.mp h2,blankI]
theorem tidyS_blank {out:List It} (h: ¬(out=[]∨lastK out=1∨lastK out=4)):tidyS out blankI=out++[blankI]:=by
 unfold tidyS
 rw [if_neg (fun k=>h k.2),if_neg (fun k=>absurd k.1 (by decide))]
theorem tidyS_skip {out:List It} (h:out=[]∨lastK out=1∨lastK out=4):tidyS out blankI=out:=by
 unfold tidyS;rw [if_pos ⟨rfl,h⟩]
theorem tidyS_item {out:List It} {i:It} (h1:i.1≠1) (h5:i.1≠5):tidyS out i=out++[i]:=by
 unfold tidyS;rw [if_neg (fun k=>h1 k.1),if_neg (fun k=>h5 k.1)]
theorem Tdd.blank {a R:List It} {b:Bool} (h:Tdd a R b):Tdd (a++[blankI]) R (!R.isEmpty):=by
 cases R with
 |nil=>
  refine ⟨by have h9:=h.short;show 0+0≤_;omega,fun _=>rfl,fun h=>absurd rfl h,fun out ho=> ?_⟩
  have hb:=h.none rfl
  subst hb
  rw [List.foldl_append,h.fold out ho]
  show tidyS _ blankI=_
  have e:out++([]++waitL false)=out:=by simp [waitL]
  rw [e,tidyS_skip (by rcases ho with ho|ho;exact .inl ho;exact .inr (.inr ho))]
  simp [waitL]
 |cons x R=>
  have hne:x::R≠[]:=by simp
  refine ⟨by have:=h.short;simp [waitL];simp at this;omega,fun h=>(by cases h),fun _=>h.last hne,fun out ho=> ?_⟩
  rw [List.foldl_append,h.fold out ho]
  show tidyS _ blankI=_
  cases b with
  |true=>
   rw [tidyS_skip (.inr (.inl (by rw [lastK_app _ (by simp [waitL]),lastK_app _ (by simp [waitL])];rfl)))]
   rfl
  |false=>
   have:=h.last hne
   simp only [waitL,Bool.false_eq_true,if_false,List.append_nil]
   rw [tidyS_blank (by
    rw [lastK_app _ hne]
    rintro (k|k|k)
    ·simp at k
    ·exact this.1 k
    ·exact this.2 k)]
   simp
theorem Tdd.item {a R:List It} {b:Bool} {i:It} (h:Tdd a R b) (h1:i.1≠1) (h4:i.1≠4) (h5:i.1≠5):Tdd (a++[i]) ((R++waitL b)++[i]) false:=by
 refine ⟨by have:=h.short;simp [waitL] at this⊢;omega,fun _=>rfl,fun _=> ?_,fun out ho=> ?_⟩
 ·rw [lastK_snoc];exact ⟨h1,h4⟩
 ·rw [List.foldl_append,h.fold out ho]
  show tidyS _ i=_
  rw [tidyS_item h1 h5]
  simp [waitL]
theorem Tdd.blk {a R inn R2:List It} {b b2:Bool} {o c:It} (h:Tdd a R b) (h2:Tdd inn R2 b2) (h4:o.1=4) (h5:c.1=5):Tdd (a++(o::(inn++[c]))) ((R++waitL b)++(o::(R2++[c]))) false:=by
 refine ⟨by have h8:=h.short;have h9:=h2.short;simp [waitL] at h8 h9⊢;omega,fun _=>rfl,fun _=> ?_,fun out ho=> ?_⟩
 ·rw [show (R++waitL b)++(o::(R2++[c]))=((R++waitL b)++(o::R2))++[c] by simp,lastK_snoc];omega
 ·rw [List.foldl_append,h.fold out ho,List.foldl_cons,tidyS_item (by omega) (by omega),List.foldl_append,h2.fold _ (.inr (by rw [lastK_snoc];exact h4))]
  show tidyS _ c=_
  unfold tidyS
  rw [if_neg (fun k=>by omega)]
  cases b2 with
  |true=>
   rw [if_pos ⟨h5,by rw [lastK_app _ (by simp [waitL]),lastK_app _ (by simp [waitL])];rfl⟩]
   simp only [waitL,if_true]
   rw [←List.append_assoc _ R2 [blankI],List.dropLast_concat]
   simp
  |false=>
   have hl: ¬lastK ((out++(R++waitL b)++[o])++(R2++waitL false))=1:=by
    simp only [waitL,Bool.false_eq_true,if_false,List.append_nil]
    cases R2 with
    |nil=>rw [List.append_nil,lastK_snoc];omega
    |cons x R2=>rw [lastK_app _ (by simp)];exact (h2.last (by simp)).1
   rw [if_neg (fun k=>hl k.2)]
   simp [waitL]
theorem Tdd.whole {l R:List It} {b:Bool} (h:Tdd l R b):tidyL l=R:=by
 unfold tidyL
 rw [h.fold [] (.inl rfl),List.nil_append]
 unfold tidyE
 cases b with
 |true=>
  rw [if_pos (by rw [lastK_app _ (by simp [waitL])];rfl)]
  simp [waitL]
 |false=>
  simp only [waitL,Bool.false_eq_true,if_false,List.append_nil]
  cases R with
  |nil=>rfl
  |cons x R=>rw [if_neg (h.last (by simp)).1]
end Go.Proofs.YtegdjjjpoahamaaGreatDoor
namespace Go.Proofs.YtegdjjjpoahamaaGreatDoor
open Go.RowKit
theorem goD_from {R:ByteArray→List Cl}: ∀(ss:List ByteArray) (acc l:List It),(goD R acc ss).1=some l→ ∀i∈l,i∈acc∨ ∃s∈ss,readIt R s=some i:=by
 intro ss
 induction ss with
 |nil=>intro acc l h i hi;injection h with h;exact .inl (h▸hi)
 |cons s ss ih=>
  intro acc l h i hi
  rw [goD] at h
  split at h
  ·rename_i j hj
   split at h
   ·rcases ih _ _ h i hi with h1|⟨t,ht,hr⟩
    ·rcases List.mem_append.mp h1 with h2|h2
     ·exact .inl h2
     ·exact .inr ⟨s,List.mem_cons_self,by rw [List.mem_singleton.mp h2];exact hj⟩
    ·exact .inr ⟨t,List.mem_cons_of_mem _ ht,hr⟩
   ·cases h
  ·cases h
end Go.Proofs.YtegdjjjpoahamaaGreatDoor
namespace Go.Proofs.YtegdjjjpoahamaaGreatDoor
open Go.RowKit
def Whole (m T:List It):Prop:=(∃i,m=[i]∧T=[i]∧i.1≠4∧i.1≠5)∨(∃o c inn R b,m=o::(inn++[c])∧o.1=4∧c.1=5∧Tdd inn R b∧T=o::(R++[c]))
theorem Tdd.whole_app {a R m T:List It} {b:Bool} (h:Tdd a R b) (hw:Whole m T) (h1: ∀i,m.head? =some i→i.1≠1):Tdd (a++m) ((R++waitL b)++T) false:=by
 rcases hw with ⟨i,rfl,rfl,h4,h5⟩|⟨o,c,inn,R2,b2,rfl,h4,h5,h2,rfl⟩
 ·exact h.item (h1 i rfl) h4 h5
 ·exact h.blk h2 h4 h5
theorem drop_head {l r:List It} {f:Nat} {i:It} (h:l.drop f=i::r): ∃hf:f<l.length,l[f]=i∧l.drop (f+1)=r:=by
 have hf:f<l.length:=by
  rcases Nat.lt_or_ge f l.length with h1|h1
  ·exact h1
  ·rw [List.drop_eq_nil_of_le h1] at h;cases h
 rw [List.drop_eq_getElem_cons hf] at h
 injection h with h1 h2
 exact ⟨hf,h1,h2⟩
theorem drop_mid {l a r:List It} {f:Nat} (h:l.drop f=a++r):l.drop (f+a.length)=r:=by
 have:l.drop (f+a.length)=(l.drop f).drop a.length:=by rw [List.drop_drop]
 rw [this,h,List.drop_left]
theorem whole_data {W0:World} {S:Nat→Prop} {P A d:Nat} {m l:List It} (h:TrD W0 S [P] A m d) (hl: ∃post,l.drop A=m++post):
  ∃(U T:Nat) (v:Value) (qs:List Nat) (inn:List It) (i c:It),S P∧BlkD W0 P #[.int .i64 (A:Int), .int .i64 (U:Int),v]∧W0.ownsRow 0 86 1 v qs.length (ptrs qs)∧(∀r,v.ownBlock=some r→S r)∧TrD W0 S qs (A+1) inn (d+1)∧inn.length<m.length∧(∃post,l.drop (A+1)=inn++post)∧U=A+m.length∧m.head? =some i∧(∃hA:A<l.length,l[A]=i)∧
   ((m=[i]∧inn=[]∧i.1≠4∧i.1≠5∧U=A+1)∨(m=i::(inn++[c])∧i.1=4∧c.1=5∧U=T+1∧A+1<U∧ ∃hT:T<l.length,l[T]=c)):=by
 obtain ⟨post,hp⟩:=hl
 rcases h.inv with ⟨i,rfl,h4,h5,hN,hb⟩|⟨o,c,inn,v,qs,rfl,h4,h5,hd,hN,hb,ho,hr,h1⟩
 ·obtain ⟨hA,hi,hd⟩:=drop_head (r:=post) hp
  exact ⟨A+1,0,_,[],[],i,i,hN,hb,World.ownsRow_nil _ _ _ _,fun r h=>by simp [Value.ownBlock] at h, .nil _ _,by simp,⟨post,hd⟩,rfl,rfl,⟨hA,hi⟩, .inl ⟨rfl,rfl,h4,h5,rfl⟩⟩
 ·have hp2:l.drop A=o::(inn++c::post):=by rw [hp];simp
  obtain ⟨hA,hi,hd⟩:=drop_head hp2
  obtain ⟨hT,hc,-⟩:=drop_head (drop_mid hd)
  exact ⟨A+inn.length+2,A+1+inn.length,v,qs,inn,o,c,hN,hb,ho,hr,h1,by simp;omega,⟨_,hd⟩,by simp;omega,rfl,⟨hA,hi⟩, .inr ⟨rfl,h4,h5,by omega,by omega,hT,hc⟩⟩
def TidyAll (W0:World) (S:Nat→Prop) (l:List It) (v:Value) (j:Nat):Prop:= ∀(N f d:Nat) (x0 x1 vq:Value) (qs:List Nat) (inn:List It) (va:Value) (us:List Value) (out:List It) (w:World),inn.length<j→out.length+inn.length≤100→S N→BlkD W0 N #[x0,x1,vq]→W0.ownsRow 0 86 1 vq qs.length (ptrs qs)→(∀r,vq.ownBlock=some r→S r)→TrD W0 S qs f inn d→(∃post,l.drop f=inn++post)→
 Below W0.heap.size W0 w→OwnI w W0.heap.size va us out→
 Calls Tryz.prog 78 #[.pointer (some ⟨N,0,none⟩),va,v] w fun e w'=> ∃v' us' R b,e= .returned v'∧Tdd inn R b∧OwnI w' W0.heap.size v' us' (out++R)∧Below W0.heap.size W0 w'
def WholeAll (W0:World) (S:Nat→Prop) (l:List It) (v:Value) (j:Nat):Prop:= ∀(P A d:Nat) (m:List It) (va:Value) (us:List Value) (out:List It) (w:World),m.length≤j→out.length+m.length≤100→TrD W0 S [P] A m d→(∃post,l.drop A=m++post)→
 Below W0.heap.size W0 w→OwnI w W0.heap.size va us out→
 Calls Tryz.prog 124 #[.pointer (some ⟨P,0,none⟩),va,v] w fun e w'=> ∃v' us' T,e= .returned v'∧Whole m T∧OwnI w' W0.heap.size v' us' (out++T)∧Below W0.heap.size W0 w'
theorem own_cap {w:World} {base n c:Nat} {a:Option Addr} {us:List Value} {l:List It} (h:OwnI w base (.slice a n c) us l):c≤2^63-1:=by
 rcases h.row.2 with ⟨h1,h2⟩|⟨g,cap,cur,h1,_,_,_,h4,_⟩
 ·injection h1 with _ _ h3;omega
 ·injection h1 with _ _ h3;unfold maxLen at h4;omega
theorem appendWhole_of (W0:World) (S:Nat→Prop) (l:List It) (v:Value) (hr:RowIt W0 v l) (hll: ∀i∈l,i.2.2.1.length≤1048576) (h30:l.length≤30) (j:Nat) (ih:TidyAll W0 S l v j):WholeAll W0 S l v j:=by
 obtain ⟨i0,hi,hz0,hz1,hz2⟩:=info_parts infoIt
 intro P A d m va us out w hm hlen ht hpost hB hown
 obtain ⟨U,T,vp,qs,inn,it,ct,hSP,hbk,hrow,hrS,htin,hil,hpin,hU,hhead,⟨hA,hiA⟩,hcase⟩:=whole_data ht hpost
 obtain ⟨ao,cap,rfl,h1,h2,h3⟩:=hr
 unfold maxLen at h2
 obtain ⟨bl,o,rfl,hbl,cc⟩:=h3.resolve_left (by rintro rfl;simp at hA)
 obtain ⟨aa,ac,rfl⟩:=own_shape hown.row
 have hac:=own_cap hown
 have hUL:U≤1000:=by
  obtain ⟨post,hp⟩:=hpost
  have:=congrArg List.length hp
  rw [List.length_append,List.length_drop] at this
  omega
 obtain ⟨uA,hu0⟩:=cc A hA
 rw [hiA] at hu0
 have hlA:=hll _ (List.getElem_mem hA)
 rw [hiA] at hlA
 have HU0:=Lib.hid hu0
 obtain ⟨d0,d1,d2,d3,hrA⟩:=hu0.mono hbl hB
 have HRA:=Lib.hid hrA
 have p0:w.cell? ⟨P,0,none⟩=some (.int .i64 (A:Int)):=(hbk.keep hB).cell 0
 have HBK:=Lib.hid hbk;have HB:=Lib.hid hB;have HOWN:=Lib.hid hown;have HCC:=Lib.hid cc
 have HIH:=Lib.hid (fun va2 us2 out2 w2 hl2 hB2 ho2=>ih P (A+1) (d+1) _ _ vp qs inn va2 us2 out2 w2 (by omega) hl2 hSP hbk hrow hrS htin hpin hB2 ho2)
 have HCASE:=Lib.hid hcase
 have hsz0:=hB.size
 have hbA:(A:Int)<(l.length:Int):=by omega
 have hAU0:A<U:=by have:=hU;omega
 have hUm:U≤A+m.length:=by omega
 clear hU
 clear hu0 hrA hbk hB hown cc hcase ih hrow hrS htin hpin ht hpost h3 hSP hhead
 obtain ⟨ik,inm,ics,int⟩:=it
 simp only at d0 d1 d2 d3 hlA HRA
 obtain ⟨auA,cuA,rfl⟩: ∃au cu,uA= .slice au ics.length cu:=by obtain ⟨au,cu,h,-⟩:=HRA.out;exact ⟨au,cu,h⟩
 go_enter Tryz.func124,Tryz.ntmps124
 go_wp2_with fail
 refine (copied_any _ ik inm int ics _ HRA.out hlA).mono ?_
 rintro e w1 ⟨u1,rfl,ho1,hb1⟩
 obtain ⟨a1,c1,rfl⟩:=own_shape ho1
 have HO1:=Lib.hid ho1;have HB1:=Lib.hid hb1
 have hrw:w1.ownsRow W0.heap.size 32 4 (.slice aa out.length ac) out.length (itF out us):=own_belowS HOWN.out.row hb1
 have HRW:=Lib.hid hrw
 have hs1:=hb1.size
 clear ho1 hb1 hrw
 go_wp2_with (
  at_builtin;refine wpList_append_lies _ rfl _ _ 23 rfl W0.heap.size 32 i0 (.agg #[.int .i64 0, .string ByteArray.empty, .slice none 0 0, .string ByteArray.empty]) 4 64 Tryz.underlying23 hi hz0 hz1 hz2 rfl (by decide) (.slice aa out.length ac) out.length (itF out us) rfl (by exact (HRW.out.alloc _)) ⟨w1.heap.size,0,none⟩ 1 1 [.int .i64 ik, .string inm, .slice a1 ics.length c1, .string int] rfl rfl (World.news_of_block (heap_alloc_new w1 _)) (by simp [Value.oneCell']) (by omega) (by unfold maxLen;omega) (by omega) (by simp;omega) (w1.heap.size+1) (by simp) ?_;intro gg cap' w2 hown2 hgrow2 hat2 hlt2
  have hpp:=HOWN.out.push (i:=(ik,inm,ics,int)) hsz0 HB1.out HO1.out _ hgrow2 hown2 hat2
  have HP2:=Lib.hid hpp.1
  have HB2:=Lib.hid (HB.out.trans (hpp.2.mono (Nat.le_refl _)))
  clear hpp hown2 hgrow2 hat2 hlt2)
 refine (HIH.out _ _ (out++[(ik,inm,ics,int)]) _ (by rw [List.length_append];simp;omega) HB2.out (by have:=HP2.out;simpa using this)).mono ?_
 rintro e w3 ⟨v3,us3,R,b,rfl,htd,ho3,hB3⟩
 obtain ⟨O3,hO3⟩: ∃x,x=out++[(ik,inm,ics,int)]++R:=⟨_,rfl⟩
 rw [←hO3] at ho3
 obtain ⟨a3,c3,rfl⟩:=own_shape ho3.row
 have hac3:=own_cap ho3
 have hl3:O3.length=out.length+1+R.length:=by rw [hO3];simp;omega
 have HOE:=Lib.hid hO3
 have hRs0:R.length≤inn.length:=by have:=htd.short;omega
 have hl3':O3.length≤200:=by omega
 clear hO3 hl3
 have hRs:R.length≤inn.length:=by have:=htd.short;omega
 have q0:w3.cell? ⟨P,0,none⟩=some (.int .i64 (A:Int)):=(HBK.out.keep hB3).cell 0
 have q1:w3.cell? ⟨P,1,none⟩=some (.int .i64 (U:Int)):=(HBK.out.keep hB3).cell 1
 have HTD:=Lib.hid htd;have HO3:=Lib.hid ho3;have HB3:=Lib.hid hB3
 have hsz3:=hB3.size
 have hwr:IntKind.i64.wrap ((U:Int)-(A:Int))=(U:Int)-(A:Int):=by rw [IntWalk.i64_in _ (by omega)]
 clear htd ho3 hB3
 rcases HCASE.out with ⟨hmi,hin,h4,h5,hUA⟩|⟨hmi,h4,h5,hUT,hAU,hT,hcT⟩
 ·have hgt:decide (1<(U:Int)-(A:Int))=false:=decide_eq_false (by omega)
  have HF:=Lib.hid (show Whole m [(ik,inm,ics,int)] from .inl ⟨_,hmi,rfl,h4,h5⟩)
  have HR0:=Lib.hid (show O3=out++[(ik,inm,ics,int)] by
   have h9:=HTD.out
   rw [hin] at h9
   rw [HOE.out,h9.nil_inv,List.append_nil])
  clear hmi hin h4 h5 hUA
  go_wp2_with fail
  go_quiet (fail)
  go_wp2
  go_ret
  exact ⟨_,us3,[(ik,inm,ics,int)],rfl,HF.out,by rw [←HR0.out];exact HO3.out.below ⟨rfl,rfl,rfl,Nat.le_refl _,fun _ _=>rfl⟩,HB3.out.trans ⟨rfl,rfl,rfl,Nat.le_refl _,fun _ _=>rfl⟩⟩
 ·have hgt:decide (1<(U:Int)-(A:Int))=true:=decide_eq_true (by omega)
  have HF:=Lib.hid (show Whole m ((ik,inm,ics,int)::(R++[ct])) from .inr ⟨_,_,inn,R,b,hmi,h4,h5,HTD.out,rfl⟩)
  obtain ⟨uT,hut⟩:=HCC.out T hT
  rw [hcT] at hut
  have hlT:=hll _ (List.getElem_mem hT)
  rw [hcT] at hlT
  obtain ⟨t0,t1,t2,t3,hrT⟩:=hut.mono hbl HB3.out
  have HRT:=Lib.hid hrT
  have hUT2:(U:Int)-1=(T:Int):=by omega
  have hwr2:IntKind.i64.wrap ((U:Int)-1)=(T:Int):=by rw [IntWalk.i64_in _ (by omega)];exact hUT2
  have hbT:(T:Int)<(l.length:Int):=by omega
  clear hut hrT hmi hcT h4 h5 hUT
  obtain ⟨ck,cnm,ccs,cnt⟩:=ct
  simp only at t0 t1 t2 t3 hlT HRT
  obtain ⟨auT,cuT,rfl⟩: ∃au cu,uT= .slice au ccs.length cu:=by obtain ⟨au,cu,h,-⟩:=HRT.out;exact ⟨au,cu,h⟩
  have HFO:=Lib.hid (show out++((ik,inm,ics,int)::(R++[(ck,cnm,ccs,cnt)]))=O3++[(ck,cnm,ccs,cnt)] by rw [HOE.out];simp)
  go_wp2_with fail
  go_quiet (fail)
  go_wp2_with fail
  refine (copied_any _ ck cnm cnt ccs _ (HRT.out.drewN _) hlT).mono ?_
  rintro e w4 ⟨u4,rfl,ho4,hb4⟩
  obtain ⟨a4,c4,rfl⟩:=own_shape ho4
  have HOD:=Lib.hid (show OwnI (w3.drewN nq) W0.heap.size (.slice a3 O3.length c3) us3 O3 from HO3.out.below ⟨rfl,rfl,rfl,Nat.le_refl _,fun _ _=>rfl⟩)
  have HBD:=Lib.hid (show Below W0.heap.size W0 (w3.drewN nq) from HB3.out.trans ⟨rfl,rfl,rfl,Nat.le_refl _,fun _ _=>rfl⟩)
  have HO4:=Lib.hid ho4;have HB4:=Lib.hid hb4
  have hszd:W0.heap.size≤(w3.drewN nq).heap.size:=hsz3
  have HRW4:=Lib.hid (own_belowS HOD.out.row hb4)
  have hs4:=hb4.size
  clear ho4 hb4
  go_wp2_with (
   at_builtin;refine wpList_append_lies _ rfl _ _ 23 rfl W0.heap.size 32 i0 (.agg #[.int .i64 0, .string ByteArray.empty, .slice none 0 0, .string ByteArray.empty]) 4 64 Tryz.underlying23 hi hz0 hz1 hz2 rfl (by decide) (.slice a3 O3.length c3) O3.length (itF O3 us3) rfl (by exact (HRW4.out.alloc _)) ⟨w4.heap.size,0,none⟩ 1 1 [.int .i64 ck, .string cnm, .slice a4 ccs.length c4, .string cnt] rfl rfl (World.news_of_block (heap_alloc_new w4 _)) (by simp [Value.oneCell']) (by omega) (by unfold maxLen;omega) (by omega) (by simp;omega) (w4.heap.size+1) (by simp) ?_;intro gg5 cap5 w5 hown5 hgrow5 hat5 hlt5
   have hpp:=HOD.out.push (i:=(ck,cnm,ccs,cnt)) hszd HB4.out HO4.out _ hgrow5 hown5 hat5
   have HP5:=Lib.hid hpp.1
   have HB5:=Lib.hid (HBD.out.trans (hpp.2.mono (Nat.le_refl _)))
   clear hpp hown5 hgrow5 hat5 hlt5)
  go_ret
  exact ⟨_,_,(ik,inm,ics,int)::(R++[(ck,cnm,ccs,cnt)]),rfl,HF.out,by rw [HFO.out];exact HP5.out,HB5.out⟩
theorem tidy_step {W0:World} {S:Nat→Prop} {l inn a b:List It} {qs:List Nat} {f d k:Nat} (hval:l.all itemB=true) (hpost: ∃post,l.drop f=inn++post) (hlt:k<qs.length) (hab:inn=a++b) (htb:TrD W0 S (qs.drop k) (f+a.length) b d):
  ∃(P A:Nat) (m b2:List It) (it:It) (x1 vp:Value),qs[k]=P∧BlkD W0 P #[.int .i64 (A:Int),x1,vp]∧(∃hA:A<l.length,l[A]=it)∧m.head? =some it∧(it.1=1→m=[blankI])∧inn=(a++m)++b2∧TrD W0 S (qs.drop (k+1)) (f+(a++m).length) b2 d∧a.length+m.length≤inn.length∧TrD W0 S [P] A m d∧ ∃post,l.drop A=m++post:=by
 rw [List.drop_eq_getElem_cons hlt] at htb
 obtain ⟨m,b2,rfl,htm,htr⟩:=htb.head
 obtain ⟨post,hp⟩:=hpost
 have hp2:l.drop (f+a.length)=m++(b2++post):=by
  rw [hab] at hp
  have:=drop_mid (a:=a) (r:=(m++b2)++post) (by rw [hp,List.append_assoc])
  rw [this,List.append_assoc]
 obtain ⟨U,T,v,qs',inn',i,c,hS,hbk,hrow,hrS,htin,hil,hpi,hU,hhead,⟨hA,hi⟩,hcase⟩:=whole_data htm ⟨_,hp2⟩
 refine ⟨qs[k],f+a.length,m,b2,i,_,v,rfl,hbk,⟨hA,hi⟩,hhead,fun h1=> ?_,by rw [hab,List.append_assoc],by rw [List.length_append,←Nat.add_assoc];exact htr,by rw [hab,List.length_append,List.length_append];omega,htm,⟨_,hp2⟩⟩
 rcases hcase with ⟨hm,-⟩|⟨-,h4,-⟩
 ·rw [hm,blank_of (by rw [List.all_eq_true] at hval;rw [←hi];exact hval _ (List.getElem_mem hA)) h1]
 ·omega
theorem appendTidy_of (W0:World) (S:Nat→Prop) (l:List It) (v:Value) (hr:RowIt W0 v l) (hval:l.all itemB=true) (j:Nat) (ih:WholeAll W0 S l v j):TidyAll W0 S l v (j+1):=by
 obtain ⟨i0,hi,hz0,hz1,hz2⟩:=info_parts infoIt
 intro N f d x0 x1 vq qs inn va us out w hj hlen hSN hbN hrow hrS ht hpost hB hown
 obtain ⟨ao,cap,rfl,h1,h2,h3⟩:=hr
 unfold maxLen at h2
 obtain ⟨aq,cq,rfl,k1,k2,k3⟩:=own_ptrD hrow
 unfold maxLen at k2
 have c2:w.cell? ⟨N,2,none⟩=some (.slice aq qs.length cq):=(hbN.keep hB).cell 2
 have hql:=ht.count
 have H3:=Lib.hid h3;have K3:=Lib.hid k3;have HT:=Lib.hid ht;have HB:=Lib.hid hB;have HOWN:=Lib.hid hown;have IH:=Lib.hid ih;have HPO:=Lib.hid hpost;have HVAL:=Lib.hid hval
 have hsz0:=hB.size
 clear h3 k3 ht hB hown ih hpost hbN hrow hrS hval
 go_enter Tryz.func78,Tryz.ntmps78
 go_wp2
 go_loopw [1,7,8,10,16] (fun t fi wa _ i wr=> ∃(k:Nat) (a b2:List It) (us2:List Value) (R:List It) (bb rr:Bool),k≤qs.length∧i= .int .i64 (k:Int)∧inn=a++b2∧TrD W0 S (qs.drop k) (f+a.length) b2 d∧fi= .bool rr∧wa= .bool bb∧rr=R.isEmpty∧Tdd a R bb∧OwnI wr W0.heap.size t us2 (out++R)∧Below W0.heap.size W0 wr) (fun _ _ _ _ i _=>qs.length-(intOf i).toNat)
 case atStart=>exact ⟨0,[],inn,us,[],false,true,Nat.zero_le _,rfl,rfl,HT.out,rfl,rfl,rfl, .nil,by rw [List.append_nil];exact HOWN.out,HB.out⟩
 case round=>
  obtain ⟨k,a,b2,us2,R,bb,rr,hk,rfl,hab,htb,rfl,rfl,hrr,htd,hown,hbw⟩:=hrel
  by_cases hlt:k<qs.length
  ·obtain ⟨P,A,m,b3,it,y1,vp,hP,hbk,⟨hA,hiA⟩,hhead,hone,hinn,htr,hlm,htm,hpm⟩:=tidy_step HVAL.out HPO.out hlt hab htb
   obtain ⟨q,rfl,hbl,cc⟩:=K3.out.resolve_left (by rintro rfl;simp at hlt)
   have d1:=(hbw.cell (p:=⟨q,k,none⟩) hbl).trans (cc k hlt)
   rw [hP] at d1
   have p0:wr.cell? ⟨P,0,none⟩=some (.int .i64 (A:Int)):=(hbk.keep hbw).cell 0
   obtain ⟨bl,o,rfl,hbl2,ccl⟩:=H3.out.resolve_left (by rintro rfl;simp at hA)
   obtain ⟨uA,hu0⟩:=ccl A hA
   rw [hiA] at hu0
   have e0:=(hu0.mono hbl2 hbw).1
   have hbA:(A:Int)<(l.length:Int):=by omega
   have HTD:=Lib.hid htd;have HOW:=Lib.hid hown;have HBW:=Lib.hid hbw;have HINN:=Lib.hid hinn;have HTR:=Lib.hid htr
   have hszr:=hbw.size
   by_cases hk1:it.1=1
   ·have HNX:=Lib.hid (show Tdd (a++m) R (!R.isEmpty) by rw [hone hk1];exact htd.blank)
    have HRR:=Lib.hid hrr
    have e1:(it.1==1)=true:=by rw [hk1];rfl
    clear hone hhead htd hown hbw hinn htr htm hpm hu0 ccl cc hiA hab htb hbk hP hk1 hrr
    generalize it.1=kk at e0 e1
    go_wp2
    go_roundw
    case rel=>exact ⟨k+1,a++m,b3,us2,R, !rr,rr,by omega,by go_num,HINN.out,HTR.out,rfl,rfl,HRR.out,by rw [HRR.out];exact HNX.out,HOW.out,HBW.out⟩
    case measure=>simp [intOf];omega
   ·have e1:(it.1==1)=false:=beq_eq_false_iff_ne.mpr hk1
    have HNX:=Lib.hid (fun T (hw:Whole m T)=>htd.whole_app hw (fun i h=>by rw [hhead] at h;injection h with h;rw [←h];exact hk1))
    have hshort:=htd.short
    have HLM:=Lib.hid hlm
    have HCALL:=Lib.hid (fun va3 us3 out3 w3 hl3 hB3 ho3=>IH.out P A d m va3 us3 out3 w3 (by omega) hl3 htm hpm hB3 ho3)
    have hml:m.length≤100:=by omega
    have hol:out.length+R.length+(waitL bb).length+m.length≤100:=by omega
    have HOL:=Lib.hid hol
    have HEM:=Lib.hid (show∀T,Whole m T→((R++waitL bb)++T).isEmpty=false by
     intro T hw
     have:T≠[]:=by rcases hw with ⟨i,-,rfl,-⟩|⟨o,c,inn,R2,b,-,-,-,-,rfl⟩<;>simp
     rw [Bool.eq_false_iff]
     intro h
     have h9:=List.isEmpty_iff.mp h
     rw [List.append_eq_nil_iff] at h9
     exact this h9.2)
    clear hone hhead htd hbw hinn htr htm hpm hu0 ccl cc hiA hab htb hbk hP hk1 hrr hlm hshort hol
    generalize it.1=kk at e0 e1
    cases bb with
    |false=>
     have HC:=Lib.hid (HCALL.out _ us2 (out++R) wr (by have:=HOL.out;rw [List.length_append];simp [waitL] at this;omega) HBW.out HOW.out)
     clear hown
     go_wp2_with fail
     refine HC.out.mono ?_
     rintro e w3 ⟨v3,us3,T,rfl,hw,ho3,hB3⟩
     have HN3:=Lib.hid (HNX.out T hw);have HO3:=Lib.hid ho3;have HB3:=Lib.hid hB3;have HE3:=Lib.hid (HEM.out T hw)
     clear hw ho3 hB3
     go_wp2
     go_roundw
     case rel=>exact ⟨k+1,a++m,b3,us3,(R++waitL false)++T,false,false,by omega,by go_num,HINN.out,HTR.out,rfl,rfl,HE3.out.symm,HN3.out,by have:=HO3.out;simpa [waitL] using this,HB3.out⟩
     case measure=>simp [intOf];omega
    |true=>
     obtain ⟨O3,hO3⟩: ∃x,x=out++R:=⟨_,rfl⟩
     rw [←hO3] at hown
     obtain ⟨a3,c3,rfl⟩:=own_shape hown.row
     have hac3:=own_cap hown
     have hl3':O3.length≤200:=by have:=HOL.out;rw [hO3,List.length_append];simp [waitL] at this;omega
     have HLX:=Lib.hid (show (O3++[blankI]).length+m.length≤100 by have:=HOL.out;rw [hO3];simp [waitL] at this⊢;omega)
     have HOE:=Lib.hid (show∀T,(O3++[blankI])++T=out++((R++waitL true)++T) by intro T;rw [hO3];simp [waitL])
     have HO3:=Lib.hid hown
     have HRW:=Lib.hid hown.row
     clear hO3 hown HOW
     go_wp2_with (
      at_builtin;refine wpList_append_lies _ rfl _ _ 23 rfl W0.heap.size 32 i0 (.agg #[.int .i64 0, .string ByteArray.empty, .slice none 0 0, .string ByteArray.empty]) 4 64 Tryz.underlying23 hi hz0 hz1 hz2 rfl (by decide) (.slice a3 O3.length c3) O3.length (itF O3 us2) rfl (by exact (HRW.out.alloc _)) ⟨wr.heap.size,0,none⟩ 1 1 [.int .i64 1, .string ByteArray.empty, .slice none 0 0, .string ByteArray.empty] rfl rfl (World.news_of_block (heap_alloc_new wr _)) (by simp [Value.oneCell']) (by omega) (by unfold maxLen;omega) (by omega) (by simp;omega) (wr.heap.size+1) (by simp) ?_;intro gg cap' w2 hown2 hgrow2 hat2 hlt2
      have hpp:=HO3.out.push (i:=blankI) (u:= .slice none 0 0) hszr (Below.refl _ _) (World.ownsRow_nil _ _ _ _) _ hgrow2 hown2 hat2
      have HP2:=Lib.hid hpp.1
      have HB2:=Lib.hid (HBW.out.trans (hpp.2.mono (Nat.le_refl _)))
      clear hpp hown2 hgrow2 hat2 hlt2)
     refine (HCALL.out _ _ (O3++[blankI]) _ HLX.out HB2.out (by have:=HP2.out;simpa using this)).mono ?_
     rintro e w3 ⟨v3,us3,T,rfl,hw,ho3,hB3⟩
     rw [HOE.out] at ho3
     have HN3:=Lib.hid (HNX.out T hw);have HO4:=Lib.hid ho3;have HB3:=Lib.hid hB3;have HE3:=Lib.hid (HEM.out T hw)
     clear hw ho3 hB3
     go_wp2
     go_roundw
     case rel=>exact ⟨k+1,a++m,b3,us3,(R++waitL true)++T,false,false,by omega,by go_num,HINN.out,HTR.out,rfl,rfl,HE3.out.symm,HN3.out,HO4.out,HB3.out⟩
     case measure=>simp [intOf];omega
  ·obtain rfl:k=qs.length:=by omega
   have HFIN:=Lib.hid (show Tdd inn R bb by
    rw [List.drop_length] at htb
    cases htb
    rw [hab,List.append_nil];exact htd)
   have HO:=Lib.hid hown;have HBW:=Lib.hid hbw
   clear htb htd hown hbw hab hrr
   go_wp2
   go_ret
   exact ⟨_,us2,R,bb,rfl,HFIN.out,HO.out,HBW.out⟩
theorem tidy_all (W0:World) (S:Nat→Prop) (l:List It) (v:Value) (hr:RowIt W0 v l) (hll: ∀i∈l,i.2.2.1.length≤1048576) (h30:l.length≤30) (hval:l.all itemB=true) (j:Nat):TidyAll W0 S l v j:=by
 induction j with
 |zero=>intro N f d x0 x1 vq qs inn va us out w hj;omega
 |succ j ih=>exact appendTidy_of W0 S l v hr hval j (appendWhole_of W0 S l v hr hll h30 j ih)
theorem okE_len {l:List Cl} (h:okE l=true):l.length≤60:=((okE_iff l).mp h).1
theorem item_len {i:It} (h:itemB i=true):i.2.2.1.length≤1048576:=by
 obtain ⟨k,n,l,t⟩:=i
 show l.length≤_
 have he:l.isEmpty=true∨okE l=true:=by
  unfold itemB at h
  simp only at h
  split at h
  ·simp only [Bool.and_eq_true] at h;exact .inl h.2.1
  split at h
  ·simp only [Bool.and_eq_true] at h;exact .inl h.2.1
  split at h
  ·simp only [Bool.and_eq_true] at h;exact .inr h.2.1
  split at h
  ·simp only [Bool.and_eq_true] at h;exact .inl h.2.1
  ·cases h
 rcases he with he|he
 ·rw [List.isEmpty_iff.mp he];simp
 ·have:=okE_len he;omega
theorem tidyItems_impl (v:Value) (l:List It) (w:World) (hr:RowIt w v l) (hz:FitI l) (htab:Tab w):
  Calls Tryz.prog 46 #[v] w (NewI (tidyD l) w):=by
 have HC:=Lib.hid (documentTree_any v l w hr hz htab)
 have HR:=Lib.hid hr
 obtain ⟨ao,cap,rfl,h1,h2,h3⟩:=hr
 clear h3 hz
 cases hok:docB l with
 |true=>
  obtain ⟨h30,hval,hnest⟩:=(docB_iff l).mp hok
  have HD:=Lib.hid (show tidyD l=tidyL l by unfold tidyD;rw [if_pos hok])
  have HVAL:=Lib.hid hval
  rw [HD.out]
  clear hval hnest
  go_enter Tryz.func46,Tryz.ntmps46
  go_wp2_with fail
  refine HC.out.mono ?_
  rintro e w1 ⟨hb1,⟨N,vv,qs,rfl,-,hN,hbk,ho,ht⟩|⟨rfl,hno⟩⟩
  ·have HCALL:=Lib.hid (tidy_all w1 (fun b=>N≤b∧b<w1.heap.size) l _ (HR.out.mono hb1) (fun i hi=>item_len (by have:=HVAL.out;rw [List.all_eq_true] at this;exact this i hi)) h30 HVAL.out (l.length+1) N 0 0 _ _ vv qs l (.slice none 0 0) [] [] w1 (by omega) (by simp;omega) ⟨Nat.le_refl _,hbk.lt⟩ hbk (ho.mono (Nat.zero_le _)) (fun r hr=>by have:=ho.lt r hr;omega)
    (ht.keep (fun b hb hlt=>rfl) (fun b hb hlt=>by omega)) ⟨[],by simp⟩ (Below.refl _ _) (own_nilI _ _))
   have HB1:=Lib.hid hb1
   clear hb1 hbk ho ht
   go_wp2_with fail
   refine HCALL.out.mono ?_
   rintro e w2 ⟨v2,us2,R,b,rfl,htd,ho2,hb2⟩
   have HE:=Lib.hid htd.whole
   rw [List.nil_append] at ho2
   have HO2:=Lib.hid (ho2.lower HB1.out.size);have HB2:=Lib.hid (HB1.out.trans (hb2.mono HB1.out.size))
   clear htd ho2 hb2
   go_wp2
   go_ret
   exact ⟨_,us2,rfl,by rw [HE.out];exact HO2.out,HB2.out⟩
  ·exact absurd hno (by rw [hok];simp)
 |false=>
  have HD:=Lib.hid (show tidyD l=[] by unfold tidyD;rw [if_neg (by rw [hok];simp)])
  rw [HD.out]
  go_enter Tryz.func46,Tryz.ntmps46
  go_wp2_with fail
  refine HC.out.mono ?_
  rintro e w1 ⟨hb1,⟨N,vv,qs,rfl,hyes,-⟩|⟨rfl,hno⟩⟩
  ·exact absurd hyes (by rw [hok];simp)
  ·have HB1:=Lib.hid hb1;clear hb1
   go_wp2
   go_ret
   exact ⟨_,[],rfl,own_nilI _ _,HB1.out⟩
end Go.Proofs.YtegdjjjpoahamaaGreatDoor
namespace Go.Proofs.YtegdjjjpoahamaaGreatDoor
open Go.RowKit
def FormI:Prop:= ∀(s:ByteArray) (w:World),s.size≤2097152→Tab w→
 Calls Tryz.prog 30 #[.string s] w fun e w'=>e= .returned (.tuple #[.string (formT rdI s), .bool (formK rdI s)])∧Below w.heap.size w w'
theorem fit_of_short {l:List It} (h:ShortI l):FitI l:=by
 intro i hi
 obtain ⟨h1,h2,h3,h4⟩:=h i hi
 exact ⟨by unfold maxLen;omega,fun c hc=>by have:=h2 c hc;unfold maxLen;omega,by unfold maxLen;omega⟩
end Go.Proofs.YtegdjjjpoahamaaGreatDoor
namespace Go.Proofs.YtegdjjjpoahamaaGreatDoor
open Go.RowKit
def PrintIm:Prop:= ∀(v:Value) (l:List It) (w:World),RowIt w v l→ShortI l→l.length≤1048576→Tab w→
 Calls Tryz.prog 29 #[v] w fun e w'=>e= .returned (.tuple #[.string (printT l), .bool (printK l)])∧Below w.heap.size w w'
theorem rdI_shortI (s:ByteArray):ShortC (rdI s)∧(rdI s).length≤60:=by
 rcases rdI_ok s with h|h
 ·rw [h];exact ⟨fun c hc=>(by cases hc),by simp⟩
 ·refine ⟨?_,((okE_iff _).mp h.2).1⟩
  obtain ⟨⟨n,hn,-⟩,-⟩:=h
  intro x hx
  have:=hn.words (B:=20000) (by omega) (fun p k w hp=>(sp_sizes s).1 _ (List.mem_of_getElem? hp)) (fun x hx=>by cases hx) x hx
  omega
theorem rawIm_short (l:List UInt8) (hl:l.length≤1048576):(rawI rdI l).2.1.size≤1048576∧ShortC (rawI rdI l).2.2.1∧(rawI rdI l).2.2.1.length≤1048576∧(rawI rdI l).2.2.2.size≤1048576:=by
 have h1:(nmP l).length≤l.length:=by
  have:=congrArg List.length (nm_take l)
  rw [List.length_take] at this;omega
 have h2:=nmQ_len l
 have h3:=trimL_len (nmQ l)
 have e0:(⟨#[]⟩:ByteArray).size≤1048576:=Nat.zero_le _
 unfold rawI
 split
 ·exact ⟨e0,shortC_nil,Nat.zero_le _,e0⟩
 split
 ·exact ⟨e0,shortC_nil,Nat.zero_le _,e0⟩
 split
 ·refine ⟨e0,shortC_nil,Nat.zero_le _, ?_⟩
  show (baL (trimL (l.drop 1))).size≤_
  rw [bl_size]
  have:=trimL_len (l.drop 1)
  rw [List.length_drop] at this;omega
 split
 ·exact ⟨by show (baL (nmP l)).size≤_;rw [bl_size];omega,shortC_nil,Nat.zero_le _,e0⟩
 split
 ·have h4:=rdI_shortI (baL (codeL ((trimL (nmQ l)).drop 1)))
  refine ⟨by show (baL (nmP l)).size≤_;rw [bl_size];omega,h4.1,Nat.le_trans h4.2 (by omega), ?_⟩
  show (baL (behL ((trimL (nmQ l)).drop 1))).size≤_
  rw [bl_size]
  have:=behL_len ((trimL (nmQ l)).drop 1)
  rw [List.length_drop] at this;omega
 ·exact ⟨by show (baL (nmP l)).size≤_;rw [bl_size];omega,shortC_nil,Nat.zero_le _,e0⟩
theorem readItI_short {s:ByteArray} {i:It} (h:readIt rdI s=some i) (hs:s.size≤1048576):i.2.1.size≤1048576∧ShortC i.2.2.1∧i.2.2.1.length≤1048576∧i.2.2.2.size≤1048576:=by
 unfold readIt at h
 split at h
 ·injection h with h
  rw [←h]
  refine rawIm_short _ ?_
  have h1:=trimL_len s.data.toList
  have h2:s.data.toList.length=s.size:=by rw [Array.length_toList];rfl
  omega
 ·cases h
theorem readD_shortI (s:ByteArray):ShortI (readD rdI s).1:=by
 intro i hi
 unfold readD at hi
 split at hi
 ·rename_i ht
  have h20:s.size≤20000:=by simp only [textB,Bool.and_eq_true,decide_eq_true_eq] at ht;exact ht.1
  unfold readDL at hi
  split at hi
  ·rename_i l hl
   have hi2:i∈l:=by
    by_cases hd:docB l=true
    ·rw [if_pos hd] at hi;exact hi
    ·rw [if_neg hd] at hi;cases hi
   rcases goD_from _ _ _ hl i hi2 with h1|⟨t,ht,hr⟩
   ·cases h1
   ·exact readItI_short hr (by have:=lines_size s t ht;omega)
  ·cases hi
 ·cases hi
theorem formatDocument_of (hprint:PrintIm):FormI:=by
 intro s w hs htab
 show
  Calls Tryz.prog 30 #[.string s] w fun e w'=>e= .returned (.tuple #[.string (formT rdI s), .bool (formK rdI s)])∧Below w.heap.size w w'
 have HPR:=Lib.hid hprint;have HT:=Lib.hid htab;clear hprint htab
 by_cases h:(readD rdI s).2= -1
 ·obtain ⟨-,hd,-⟩:=readD_ok h
  have h30:=((docB_iff _).mp hd).1
  have hdt:=tidy_doc hd
  have h30t:=((docB_iff _).mp hdt).1
  have HSH:=Lib.hid (show ShortI (readD rdI s).1 from readD_shortI s)
  have HST:=Lib.hid (show ShortI (tidyL (readD rdI s).1) from fun i hi=>HSH.out i (tidy_mem hi))
  have HFK:=Lib.hid (show formK rdI s=printK (tidyL (readD rdI s).1) by unfold formK;rw [h];simp)
  have HFT:=Lib.hid (show formT rdI s=printT (tidyL (readD rdI s).1) by
   unfold formT
   rw [HFK.out]
   by_cases hp:printK (tidyL (readD rdI s).1)=true
   ·rw [if_pos hp]
   ·rw [if_neg hp,printT,if_neg hp])
  have HTD:=Lib.hid (show tidyD (readD rdI s).1=tidyL (readD rdI s).1 by unfold tidyD;rw [if_pos hd])
  have HRD:=Lib.hid (readDocument_impl s w hs HT.out)
  rw [HFK.out,HFT.out]
  unfold NewD at HRD
  rw [h] at HRD
  generalize (readD rdI s).1=l at*
  clear hd hdt h
  go_enter Tryz.func30,Tryz.ntmps30
  go_wp2_with fail
  refine HRD.out.mono ?_
  rintro e w1 ⟨v,us,rfl,ho1,hb1⟩
  obtain ⟨va,vc,rfl⟩:=own_shape ho1.row
  have HO1:=Lib.hid ho1;have HB1:=Lib.hid hb1
  clear ho1 hb1
  go_wp2_with fail
  refine (tidyItems_impl _ l w1 HO1.out.reads (fit_of_short HSH.out) (HT.out.keep HB1.out)).mono ?_
  rintro e w2 ⟨v2,us2,rfl,ho2,hb2⟩
  rw [HTD.out] at ho2
  obtain ⟨va2,vc2,rfl⟩:=own_shape ho2.row
  have HO2:=Lib.hid ho2;have HB2:=Lib.hid (HB1.out.trans (hb2.mono HB1.out.size))
  clear ho2 hb2
  go_wp2_with fail
  refine (HPR.out _ (tidyL l) w2 HO2.out.reads HST.out (by omega) (HT.out.keep HB2.out)).mono ?_
  rintro e w3 ⟨rfl,hb3⟩
  have HB3:=Lib.hid (HB2.out.trans (hb3.mono HB2.out.size));clear hb3
  go_wp2
  go_ret2
  exact ⟨rfl,HB3.out⟩
 ·obtain ⟨h0,h1,-,-⟩:=readD_no h
  have HFK:=Lib.hid (show formK rdI s=false by unfold formK;rw [decide_eq_false h];rfl)
  have HFT:=Lib.hid (show formT rdI s=⟨#[]⟩ by unfold formT;rw [HFK.out];rfl)
  have HRD:=Lib.hid (readDocument_impl s w hs HT.out)
  rw [HFK.out,HFT.out]
  unfold NewD at HRD
  rw [h0] at HRD
  generalize (readD rdI s).2=f at*
  clear h0 h
  go_enter Tryz.func30,Tryz.ntmps30
  go_wp2_with fail
  refine HRD.out.mono ?_
  rintro e w1 ⟨v,us,rfl,ho1,hb1⟩
  obtain ⟨va,vc,rfl⟩:=own_shape ho1.row
  have HB1:=Lib.hid hb1
  clear ho1 hb1
  go_wp2
  go_ret2
  exact ⟨rfl,HB1.out⟩
end Go.Proofs.YtegdjjjpoahamaaGreatDoor
namespace Go.Proofs.YtegdjjjpoahamaaGreatDoor
open Go.RowKit
def szL:List ByteArray→Nat
 |[]=>0
 |s::L=>s.size+1+szL L
theorem szL_app: ∀(a b:List ByteArray),szL (a++b)=szL a+szL b:=by
 intro a
 induction a with
 |nil=>intro b;simp [szL]
 |cons s a ih=>intro b;simp only [List.cons_append,szL];rw [ih];omega
theorem acc_sz (L:List ByteArray): ∀k,k≤L.length→(accTo L k).size=szL (L.take k):=by
 intro k
 induction k with
 |zero=>intro _;rfl
 |succ k ih=>
  intro hk
  rw [accTo_size_next,ih (by omega),List.take_succ_eq_append_getElem (by omega),szL_app]
  have:lineAt L k=L[k]:=by simp [lineAt,List.getElem?_eq_getElem (show k<L.length by omega)]
  rw [this]
  simp [szL];omega
theorem sz_full: ∀(l:List It) (d:Int),szL (printG d l)+(fullL l).length=szL (printG d (fullL l))+l.length:=by
 intro l
 induction l with
 |nil=>intro d;rfl
 |cons i l ih=>
  intro d
  by_cases h:i.1=1
  ·have e1:fullL (i::l)=fullL l:=by simp [fullL,h]
   have e2:depN d i=d:=by unfold depN depS;rw [if_neg (by omega),if_neg (by omega)]
   have e3:(baL (lineI i (depS d i).toNat 0)).size=0:=by rw [bl_size];unfold lineI;rw [if_pos h];rfl
   have:=ih d
   rw [e1,printG,szL,e2,e3,List.length_cons]
   omega
  ·have e1:fullL (i::l)=i::fullL l:=by simp [fullL,h]
   have:=ih (depN d i)
   rw [e1,printG,printG,szL,szL,List.length_cons,List.length_cons]
   omega
theorem print_tidy {l:List It} (h:printK l=true):printK (tidyL l)=true:=by
 obtain ⟨hd,hj⟩:=(printK_iff l).mp h
 have ht:=tidy_doc hd
 refine (printK_iff _).mpr ⟨ht,joinOk_of _ (print_plain ht) ?_⟩
 have h1:(accTo (printL l) (printL l).length).size≤20000:=by
  have:=(lines_join _ hj).1
  rw [joinB,if_pos hj] at this
  simp only [textB,Bool.and_eq_true,decide_eq_true_eq] at this
  exact this.1
 rw [acc_sz _ _ (Nat.le_refl _),List.take_length] at h1⊢
 have e1:=sz_full l 0;have e2:=sz_full (tidyL l) 0
 rw [tidy_full] at e2
 have:=tidy_len l
 show szL (printG 0 (tidyL l))≤20000
 have h2:szL (printG 0 l)≤20000:=h1
 omega
theorem form_align {l:List It} (h:alignK l=true) (h':printK l=true):formK rdI (alignT l)=true∧formK rdI (printT l)=true∧formT rdI (alignT l)=formT rdI (printT l):=by
 have e1:=align_reads (fun l hl=>rdI_text hl) h
 have e2:=(print_reads (fun l hl=>rdI_text hl) h').1
 have hp:=print_tidy h'
 have k1:formK rdI (alignT l)=true:=by unfold formK;rw [e1];simp [hp]
 have k2:formK rdI (printT l)=true:=by unfold formK;rw [e2];simp [hp]
 refine ⟨k1,k2, ?_⟩
 rw [formT,if_pos k1,formT,if_pos k2,e1,e2]
theorem print_imA:PrintIm:=fun v l w hr hz hl ht=>printDocument_impl v l w hr hz hl ht
theorem fnAlignFormat_core (a0:Option Addr) (len0 cap0:Nat) (w:World) (hrow:CodeRow w a0 len0 cap0) (htab:Tab w):
  Calls Tryz.prog 6 #[.slice a0 len0 cap0] w fun e w'=>e= .returned (.bool true)∧Below w.heap.size w w':=by
 have hcap:=hrow.1;have hmx:=hrow.2.1
 unfold maxLen at hmx
 by_cases hl:len0≤1048576
 ·have HD:=Lib.hid (drawAlignDocument_any any_ok a0 len0 cap0 w hrow);have HT:=Lib.hid htab
  clear hrow htab
  go_enter Tryz.func6,Tryz.ntmps6
  go_wp2_with fail
  refine HD.out.mono ?_
  rintro e w1 ⟨v,l,rfl,hr1,hfew,hl1,hb1⟩
  have HB1:=Lib.hid hb1;have R1:=Lib.hid hr1;have HSI:=Lib.hid (fewI_shortI hfew)
  obtain ⟨va,vc,rfl,-⟩:=hr1
  have HPI:=Lib.hid (fun w' (hr:RowIt w' (.slice va l.length vc) l) (ht:Tab w')=>alignDocument_impl (.slice va l.length vc) l w' hr HSI.out ht)
  have HPS:=Lib.hid (fun w' (hr:RowIt w' (.slice va l.length vc) l)=>alignDocument_spec (.slice va l.length vc) l w' hr HSI.out (by omega))
  have HQI:=Lib.hid (fun w' (hr:RowIt w' (.slice va l.length vc) l) (ht:Tab w')=>printDocument_impl (.slice va l.length vc) l w' hr HSI.out (by omega) ht)
  have HTS:=Lib.hid (align_size l)
  have HNT:=Lib.hid (show alignK l=false→alignT l=⟨#[]⟩ from fun h=>by rw [alignT,if_neg (by rw [h];simp)])
  have HF:=Lib.hid (formatDocument_of print_imA)
  have HPZ:=Lib.hid (print_size l)
  have HFA:=Lib.hid (fun (h:alignK l=true) (h':printK l=true)=>form_align h h')
  generalize alignT l=T at HPI HPS HTS HNT HFA
  generalize alignK l=K at HPI HPS HNT HFA
  generalize printT l=P at HQI HPZ HFA
  generalize printK l=Q at HQI HFA
  clear hb1 hfew
  go_wp2_with fail
  refine (HPI.out _ R1.out (HT.out.keep HB1.out)).mono ?_
  rintro e w2 ⟨rfl,hb2⟩
  have HB2:=Lib.hid (HB1.out.trans (hb2.mono HB1.out.size));have R2:=Lib.hid (R1.out.mono hb2);clear hb2
  go_wp2_with fail
  refine (HPS.out _ R2.out).mono ?_
  rintro e w3 ⟨rfl,hb3⟩
  have HB3:=Lib.hid (HB2.out.trans (hb3.mono HB2.out.size));have R3:=Lib.hid (R2.out.mono hb3);clear hb3
  go_wp2_with fail
  refine (HQI.out _ R3.out (HT.out.keep HB3.out)).mono ?_
  rintro e w4 ⟨rfl,hb4⟩
  have HB4:=Lib.hid (HB3.out.trans (hb4.mono HB3.out.size));clear hb4
  clear HB1 HB2 HB3 HPI HPS HQI R1 R2 R3
  cases K with
  |false=>
   clear HFA HF
   go_wp2_with fail
   refine (alive_any _).mono ?_
   rintro e w' ⟨rfl,rfl⟩
   go_wp2
   go_ret
   exact ⟨rfl,HB4.out⟩
  |true=>
   cases Q with
   |false=>
    clear HFA HF
    go_wp2_with fail
    refine (alive_any _).mono ?_
    rintro e w' ⟨rfl,rfl⟩
    go_wp2
    go_ret
    exact ⟨rfl,HB4.out⟩
   |true=>
    obtain ⟨f1,f2,f3⟩:=HFA.out (by simp) (by simp)
    go_wp2_with fail
    refine (HF.out T _ (by have:=HTS.out;omega) (HT.out.keep HB4.out)).mono ?_
    rintro e w5 ⟨rfl,hb5⟩
    have HB5:=Lib.hid (HB4.out.trans (hb5.mono HB4.out.size));clear hb5
    go_wp2_with fail
    refine (HF.out P _ (by have:=HPZ.out;omega) (HT.out.keep HB5.out)).mono ?_
    rintro e w6 ⟨rfl,hb6⟩
    have HB6:=Lib.hid (HB5.out.trans (hb6.mono HB5.out.size));clear hb6
    (try rw [f1]);(try rw [f2]);(try rw [f3])
    generalize formT rdI P=X
    have hx:(X.toList==X.toList)=true:=by simp
    go_wp2
    go_ret
    exact ⟨rfl,HB6.out⟩
 ·clear hrow htab
  go_enter Tryz.func6,Tryz.ntmps6
  go_wp2
  go_ret
  exact ⟨rfl,Below.refl _ _⟩
end Go.Proofs.YtegdjjjpoahamaaGreatDoor
