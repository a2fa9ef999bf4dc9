/-
  Widths of aligned entries, plainly: wdL.
-/
import Derived.Test.YtegdjjjpoahamaaGreatDoorDocPlain
set_option linter.unusedVariables false
namespace Go.Proofs.YtegdjjjpoahamaaGreatDoor
def fwL:List It→Nat
 |[]=>0
 |i::r=>if i.1=3 then max i.2.1.size (fwL r) else 0
def caW (p:Nat) (i:It):Nat:=if i.1=3 then max p i.2.1.size else 0
def caL (p:Nat):List It→Nat
 |[]=>p
 |i::r=>caL (caW p i) r
def wdL (p:Nat):List It→List Nat
 |[]=>[]
 |i::r=>(if i.1=3 then max p (fwL (i::r)) else 0)::wdL (caW p i) r
theorem wdL_length: ∀(l:List It) (p:Nat),(wdL p l).length=l.length:=by
 intro l
 induction l with
 |nil=>intro p;rfl
 |cons i l ih=>intro p;rw [wdL,List.length_cons,List.length_cons,ih]
theorem fw_e {l:List It} {k:Nat} (hk:k<l.length) (h:l[k].1=3):fwL (l.drop k)=max l[k].2.1.size (fwL (l.drop (k+1))):=by
 rw [List.drop_eq_getElem_cons hk,fwL,if_pos h]
theorem fw_n {l:List It} {k:Nat} (hk:k<l.length) (h: ¬l[k].1=3):fwL (l.drop k)=0:=by
 rw [List.drop_eq_getElem_cons hk,fwL,if_neg h]
theorem caL_app: ∀(a b:List It) (p:Nat),caL p (a++b)=caL (caL p a) b:=by
 intro a
 induction a with
 |nil=>intro b p;rfl
 |cons i a ih=>intro b p;exact ih b _
theorem ca_e {l:List It} {k:Nat} (hk:k<l.length) (p:Nat):caL p (l.take (k+1))=caW (caL p (l.take k)) l[k]:=by
 rw [List.take_succ_eq_append_getElem hk,caL_app];rfl
theorem wdL_at: ∀(l:List It) (p k:Nat) (hk:k<l.length),(wdL p l)[k]? =some (if l[k].1=3 then max (caL p (l.take k)) (fwL (l.drop k)) else 0):=by
 intro l
 induction l with
 |nil=>intro p k hk;simp at hk
 |cons i l ih=>
  intro p k hk
  cases k with
  |zero=>rfl
  |succ k=>exact ih (caW p i) k (by simpa using hk)
theorem wd_next {l:List It} {k:Nat} (hk:k+1<l.length) (h1:l[k].1=3) (h2:l[k+1].1=3):(wdL 0 l)[k+1]? =(wdL 0 l)[k]? :=by
 rw [wdL_at l 0 k (by omega),wdL_at l 0 (k+1) hk,if_pos h1,if_pos h2,ca_e (by omega),caW,if_pos h1,fw_e (k:=k) (by omega) h1]
 congr 1
 omega
theorem wd_big {l:List It} {k:Nat} (hk:k<l.length) (h1:l[k].1=3): ∃n,(wdL 0 l)[k]? =some n∧l[k].2.1.size≤n:=by
 refine ⟨_,wdL_at l 0 k hk, ?_⟩
 rw [if_pos h1,fw_e hk h1];omega
theorem fwL_le {B:Nat}: ∀(l:List It),(∀i∈l,i.2.1.size≤B)→fwL l≤B:=by
 intro l
 induction l with
 |nil=>intro _;exact Nat.zero_le _
 |cons i l ih=>
  intro h
  have h1:=h i (by simp);have h2:=ih fun j hj=>h j (by simp [hj])
  rw [fwL];split<;>omega
theorem caL_le {B:Nat}: ∀(l:List It) (p:Nat),p≤B→(∀i∈l,i.2.1.size≤B)→caL p l≤B:=by
 intro l
 induction l with
 |nil=>intro p hp _;exact hp
 |cons i l ih=>
  intro p hp h
  have h1:=h i (by simp)
  refine ih _ ?_ fun j hj=>h j (by simp [hj])
  unfold caW;split<;>omega
theorem wdL_le {B:Nat} {l:List It} (h: ∀i∈l,i.2.1.size≤B) {k n:Nat} (hn:(wdL 0 l)[k]? =some n):n≤B:=by
 have hk:k<l.length:=by
  have:=(List.getElem?_eq_some_iff.mp hn).1
  rwa [wdL_length] at this
 rw [wdL_at l 0 k hk] at hn
 injection hn with hn
 have h1:=caL_le (l.take k) 0 (Nat.zero_le B) fun i hi=>h i (List.mem_of_mem_take hi)
 have h2:=fwL_le (l.drop k) fun i hi=>h i (List.mem_of_mem_drop hi)
 split at hn<;>omega
def runN:List It→Nat
 |[]=>0
 |i::r=>if i.1=3 then runN r+1 else 0
theorem runN_le: ∀(l:List It),runN l≤l.length:=by
 intro l
 induction l with
 |nil=>exact Nat.le_refl _
 |cons i l ih=>rw [runN];split<;>simp<;>omega
theorem run_e: ∀(l:List It) (k:Nat) (hk:k<runN l),(l[k]'(Nat.lt_of_lt_of_le hk (runN_le l))).1=3:=by
 intro l
 induction l with
 |nil=>intro k hk;simp [runN] at hk
 |cons i l ih=>
  intro k hk
  rw [runN] at hk
  split at hk
  ·rename_i h
   cases k with
   |zero=>exact h
   |succ k=>exact ih k (by omega)
  ·omega
theorem run_n: ∀(l:List It) (hk:runN l<l.length),¬l[runN l].1=3:=by
 intro l
 induction l with
 |nil=>intro hk;simp at hk
 |cons i l ih=>
  intro hk
  by_cases h:i.1=3
  ·have e:runN (i::l)=runN l+1:=by rw [runN,if_pos h]
   simp only [e]
   rw [e] at hk
   exact ih (by simpa using hk)
  ·have e:runN (i::l)=0:=by rw [runN,if_neg h]
   simp only [e]
   exact h
theorem run_all (l:List It) (k:Nat) (h:k≤l.length) (h1: ∀j,(hj:j<k)→(l[j]'(by omega)).1=3) (h2:(hk:k<l.length)→ ¬l[k].1=3):runN l=k:=by
 have a:=run_e l;have b:=run_n l;have c:=runN_le l
 rcases Nat.lt_trichotomy (runN l) k with hlt|he|hgt
 ·exact absurd (h1 _ hlt) (b (by omega))
 ·exact he
 ·exact absurd (a k hgt) (h2 (by omega))
theorem fwL_take: ∀(l:List It),fwL (l.take (runN l))=fwL l:=by
 intro l
 induction l with
 |nil=>rfl
 |cons i l ih=>
  by_cases h:i.1=3
  ·rw [runN,if_pos h,List.take_succ_cons,fwL,fwL,if_pos h,if_pos h,ih]
  ·rw [runN,if_neg h,fwL,if_neg h];rfl
theorem wd_run: ∀(l:List It) (p:Nat),(∀j,j<runN l→(wdL p l)[j]? =some (max p (fwL l)))∧(runN l<l.length→(wdL p l)[runN l]? =some 0)∧(wdL p l).drop (runN l+1)=wdL 0 (l.drop (runN l+1)):=by
 intro l
 induction l with
 |nil=>intro p;refine ⟨fun j hj=>by simp [runN] at hj,fun h=>by simp at h,rfl⟩
 |cons i l ih=>
  intro p
  by_cases h:i.1=3
  ·obtain ⟨i1,i2,i3⟩:=ih (max p i.2.1.size)
   rw [runN,if_pos h,wdL,if_pos h,caW,if_pos h]
   refine ⟨fun j hj=> ?_,fun hl=> ?_, ?_⟩
   ·cases j with
    |zero=>rfl
    |succ j=>
     rw [List.getElem?_cons_succ,i1 j (by omega),fwL,if_pos h]
     congr 1;omega
   ·rw [List.getElem?_cons_succ];exact i2 (by simpa using hl)
   ·rw [List.drop_succ_cons,List.drop_succ_cons];exact i3
  ·rw [runN,if_neg h,wdL,if_neg h,caW,if_neg h]
   exact ⟨fun j hj=>by omega,fun _=>rfl,rfl⟩
def FrW (l:List It) (k:Nat):Prop:=(wdL 0 l).drop k=wdL 0 (l.drop k)
theorem FrW.run {l:List It} {k:Nat} (h:FrW l k):(∀j,j<runN (l.drop k)→(wdL 0 l)[k+j]? =some (fwL (l.drop k)))∧(k+runN (l.drop k)<l.length→(wdL 0 l)[k+runN (l.drop k)]? =some 0)∧FrW l (k+runN (l.drop k)+1):=by
 obtain ⟨h1,h2,h3⟩:=wd_run (l.drop k) 0
 rw [Nat.zero_max] at h1
 unfold FrW at h
 rw [←h] at h1 h2 h3
 simp only [List.getElem?_drop,List.drop_drop] at h1 h2 h3
 exact ⟨h1,fun hl=>h2 (by rw [List.length_drop];omega),h3⟩
def SoW (l:List It) (m:Nat) (L:List Nat):Prop:=L.length=l.length∧ ∀i,i<l.length→L[i]? =if i<m then (wdL 0 l)[i]? else some 0
theorem SoW.set {l:List It} {m x:Nat} {L:List Nat} (h:SoW l m L) (hm:m<l.length) (hx:(wdL 0 l)[m]? =some x):SoW l (m+1) (L.set m x):=by
 obtain ⟨h1,h2⟩:=h
 refine ⟨by rw [List.length_set];exact h1,fun i hi=> ?_⟩
 by_cases e:m=i
 ·subst e
  rw [List.getElem?_set_self (by omega),if_pos (by omega),hx]
 ·rw [List.getElem?_set_ne e,h2 i hi]
  by_cases hlt:i<m
  ·rw [if_pos hlt,if_pos (by omega)]
  ·rw [if_neg hlt,if_neg (by omega)]
theorem SoW.more {l:List It} {m:Nat} {L:List Nat} (h:SoW l m L) (h0:m<l.length→(wdL 0 l)[m]? =some 0):SoW l (m+1) L:=by
 refine ⟨h.1,fun i hi=> ?_⟩
 rw [h.2 i hi]
 by_cases e:m=i
 ·subst e;rw [if_neg (by omega),if_pos (by omega),h0 hi]
 ·by_cases hlt:i<m
  ·rw [if_pos hlt,if_pos (by omega)]
  ·rw [if_neg hlt,if_neg (by omega)]
theorem SoW.start (l:List It):SoW l 0 (List.replicate l.length 0):=
 ⟨by simp,fun i hi=>by simp [hi]⟩
theorem SoW.done {l:List It} {m:Nat} {L:List Nat} (h:SoW l m L) (hm:l.length≤m):L=wdL 0 l:=by
 apply List.ext_getElem?
 intro i
 by_cases hi:i<l.length
 ·rw [h.2 i hi,if_pos (by omega)]
 ·rw [List.getElem?_eq_none (by rw [h.1];omega),List.getElem?_eq_none (by rw [wdL_length];omega)]
noncomputable def wdD (l:List It):List Nat:=if docB l=true then wdL 0 l else []
end Go.Proofs.YtegdjjjpoahamaaGreatDoor
