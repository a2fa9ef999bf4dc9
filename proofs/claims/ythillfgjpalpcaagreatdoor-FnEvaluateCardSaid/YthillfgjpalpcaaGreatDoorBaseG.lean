/-
  Several texts of the proof in one file: CallPlain, CallMore, CallR.
-/
import Derived.Test.YthillfgjpalpcaaGreatDoorBaseE
set_option linter.unusedVariables false
namespace Go.Proofs.YthillfgjpalpcaaGreatDoor
def kdV (l:List Cl):Int:=(l[0]?.getD (0,⟨#[]⟩,0)).1
def wdV (l:List Cl):ByteArray:=(l[0]?.getD (0,⟨#[]⟩,0)).2.1
def myV (l:List Cl):Int:=(l[0]?.getD (0,⟨#[]⟩,0)).2.2
def numV (t b:Int):List Cl:=[(1,⟨(textF t b).toArray⟩,0)]
def truV (b:Bool):List Cl:=[(3,(if b then ⟨#[116,114,117,101]⟩ else ⟨#[102,97,108,115,101]⟩),0)]
noncomputable def texO (s:ByteArray):Option (List Cl):=if okV [(2,s,0)]=true then some [(2,s,0)] else none
noncomputable def lisO (ls:List (List Cl)):Option (List Cl):=if okV (listV ls)=true then some (listV ls) else none
def upC (c:UInt8):UInt8:=if 97≤c.toNat∧c.toNat≤122 then c-32 else c
def loC (c:UInt8):UInt8:=if 65≤c.toNat∧c.toNat≤90 then c+32 else c
def mapB (f:UInt8→UInt8) (s:ByteArray):ByteArray:=⟨(s.data.toList.map f).toArray⟩
theorem mapB_size (f:UInt8→UInt8) (s:ByteArray):(mapB f s).size=s.size:=by
 show (s.data.toList.map f).toArray.size=s.data.size
 simp
def betB (mn:Bool) (l b:List Cl):Bool:=if mn then decide (rdT (wdV l)*rdB (wdV b)<rdT (wdV b)*rdB (wdV l)) else decide (rdT (wdV b)*rdB (wdV l)<rdT (wdV l)*rdB (wdV b))
def bestB (mn:Bool):List Cl→List (List Cl)→List Cl
 |b,[]=>b
 |b,l::ls=>bestB mn (if betB mn l b=true then l else b) ls
def joinSep (sep:ByteArray):List ByteArray→ByteArray
 |[]=>⟨#[]⟩
 |x::xs=>xs.foldl (fun a y=>a++sep++y) x
def nmLength:ByteArray:=⟨#[108,101,110,103,116,104]⟩
def nmUpper:ByteArray:=⟨#[117,112,112,101,114]⟩
def nmLower:ByteArray:=⟨#[108,111,119,101,114]⟩
def nmMin:ByteArray:=⟨#[109,105,110]⟩
def nmMax:ByteArray:=⟨#[109,97,120]⟩
def nmFirst:ByteArray:=⟨#[102,105,114,115,116]⟩
def nmReverse:ByteArray:=⟨#[114,101,118,101,114,115,101]⟩
def nmContains:ByteArray:=⟨#[99,111,110,116,97,105,110,115]⟩
def nmJoin:ByteArray:=⟨#[106,111,105,110]⟩
open Classical in
noncomputable def callF (nm:ByteArray) (ls:List (List Cl)):Option (List Cl):=
 if nm=nmLength then
  match ls with
  |[v]=>if kdV v=2 then some (numV ((wdV v).size:Int) 1) else if kdV v=5 then some (numV (myV v) 1) else none
  |_=>none
 else if nm=nmUpper then
  match ls with
  |[v]=>if kdV v=2 then texO (mapB upC (wdV v)) else none
  |_=>none
 else if nm=nmLower then
  match ls with
  |[v]=>if kdV v=2 then texO (mapB loC (wdV v)) else none
  |_=>none
 else if nm=nmMin∨nm=nmMax then
  match ls with
  |v::vs=>if∀x∈v::vs,kdV x=1 then some (bestB (decide (nm=nmMin)) v vs) else none
  |_=>none
 else if nm=nmFirst then
  match ls with
  |[v]=>if kdV v=5 then (partsV v)[0]? else none
  |_=>none
 else if nm=nmReverse then
  match ls with
  |[v]=>if kdV v=5 then lisO (partsV v).reverse else none
  |_=>none
 else if nm=nmContains then
  match ls with
  |[v,x]=>if kdV v=5 then some (truV (decide (x∈partsV v))) else none
  |_=>none
 else if nm=nmJoin then
  match ls with
  |[v,x]=>if kdV v=5∧kdV x=2∧ ∀p∈partsV v,kdV p=2 then texO (joinSep (wdV x) ((partsV v).map wdV)) else none
  |_=>none
 else none
theorem turned_ok {l:List Cl} (hok:okV l=true) (h5:kdV l=5):okV (listV (partsV l).reverse)=true:=by
 obtain ⟨c,t,hl⟩: ∃c t,l=c::t:=by
  cases l with
  |nil=>simp [kdV] at h5
  |cons c t=>exact ⟨c,t,rfl⟩
 have hc5:c.1=5:=by subst hl;simpa [kdV] using h5
 obtain ⟨k1,k2,k3⟩:=list_partsV hok hl hc5
 have hok2:okV (listV (partsV l))=true:=by rw [k1];exact hok
 have h:=(okV_listV k2).mp hok2
 have k2': ∀p∈(partsV l).reverse,okV p=true:=fun p hp=>k2 p (List.mem_reverse.mp hp)
 have hlen:(partsV l).reverse.flatten.length=(partsV l).flatten.length:=by
  have: ∀L:List (List Cl),L.reverse.flatten.length=L.flatten.length:=by
   intro L
   induction L with
   |nil=>rfl
   |cons a L ih=>simp only [List.reverse_cons,List.flatten_append,List.length_append,List.flatten_cons,List.flatten_nil,List.append_nil,ih];omega
  exact this _
 have hmax:maxV (partsV l).reverse=maxV (partsV l):=by
  have happ: ∀A B:List (List Cl),maxV (A++B)=max (maxV A) (maxV B):=by
   intro A
   induction A with
   |nil=>intro B;simp [maxV]
   |cons a A ih=>intro B;simp only [List.cons_append,maxV,ih];omega
  have: ∀L:List (List Cl),maxV L.reverse=maxV L:=by
   intro L
   induction L with
   |nil=>rfl
   |cons a L ih=>simp only [List.reverse_cons,happ,maxV,ih];omega
  exact this _
 exact (okV_listV k2').mpr ⟨by rw [List.length_reverse];exact h.1,by rw [hlen];exact h.2.1,by rw [hmax];exact h.2.2⟩
noncomputable def callR (nm:ByteArray) (ls:List (List Cl)):List Cl:=(callF nm ls).getD []
noncomputable def callOK (nm:ByteArray) (ls:List (List Cl)):Bool:=(callF nm ls).isSome
theorem one_ok {c:Cl} (h:okVC c=true) (h0:c.2.2=0):okV [c]=true:=by
 rw [okV_iff]
 refine ⟨by simp,by simp [h],1,by omega, ?_⟩
 have:amL [c]=[0]:=by simp [amL,h0]
 rw [this]
 exact Exs.cons (d:=0) (e:=0) rfl (Exs.nil 1) (Exs.nil 1)
theorem num_ok {n:Int} (h0:0≤n) (h1:n≤1000000000):okV (numV n 1)=true:=by
 have hv:vB n 1=true:=by
  simp only [vB,Bool.and_eq_true,decide_eq_true_eq,beq_iff_eq]
  refine ⟨⟨⟨⟨by omega,h1⟩,by omega⟩,by omega⟩, ?_⟩
  simp
 obtain ⟨k1,k2,k3⟩:=read_back ⟨(textF n 1).toArray⟩ n 1 hv (by simp [textF,hv])
 refine one_ok ?_ rfl
 simp only [okVC,vC,plC,if_pos,Bool.and_eq_true]
 refine ⟨k1, ?_⟩
 show cellB 1 ⟨#[48]⟩ 0=true
 simp [cellB,manyB,wordB_zero]
theorem tru_ok (b:Bool):okV (truV b)=true:=by
 cases b<;>refine one_ok ?_ rfl<;>decide+kernel
theorem okV_cons {l:List Cl} (h:okV l=true): ∃c t,l=c::t:=by
 cases l with
 |nil=>obtain ⟨-,-,d,-,hx⟩:=(okV_iff _).mp h;have:=hx.le.1;simp at this
 |cons c t=>exact ⟨c,t,rfl⟩
theorem kd_cons (c:Cl) (t:List Cl):kdV (c::t)=c.1∧wdV (c::t)=c.2.1∧myV (c::t)=c.2.2:=⟨rfl,rfl,rfl⟩
theorem okV_head {c:Cl} {t:List Cl} (h:okV (c::t)=true):okVC c=true:=by
 obtain ⟨-,hal,-⟩:=(okV_iff _).mp h
 rw [List.all_cons,Bool.and_eq_true] at hal
 exact hal.1
theorem okVC_many {c:Cl} (h:okVC c=true):0≤c.2.2∧c.2.2≤8:=by
 rw [okVC,Bool.and_eq_true] at h
 have:=okC_many h.2
 rwa [plC_many] at this
theorem okVC_word {c:Cl} (h:okVC c=true):c.2.1.size≤60:=by
 rw [okVC,Bool.and_eq_true] at h
 by_cases h1:c.1=1
 ·have hv:=h.1
  simp only [vC,if_pos h1] at hv
  have:=rd_text _ hv
  rw [←size_list,←this]
  exact textF_len60 _ _
 ·have hc:=h.2
  rw [plC,if_neg h1,okC,cellB,Bool.and_eq_true] at hc
  exact word_len _ _ hc.1
theorem best_mem (mn:Bool): ∀(ls:List (List Cl)) (b:List Cl),bestB mn b ls=b∨bestB mn b ls∈ls:=by
 intro ls
 induction ls with
 |nil=>intro b;exact .inl rfl
 |cons l ls ih=>
  intro b
  rw [bestB]
  rcases ih (if betB mn l b=true then l else b) with h|h
  ·rw [h];split
   ·exact .inr (List.mem_cons_self ..)
   ·exact .inl rfl
  ·exact .inr (List.mem_cons_of_mem _ h)
theorem num_read {l:List Cl} (hok:okV l=true) (h1:kdV l=1):rdOK (wdV l)=true∧1≤rdB (wdV l):=by
 obtain ⟨c,t,rfl⟩:=okV_cons hok
 have h:=okV_head hok
 rw [okVC,Bool.and_eq_true,vC,if_pos (show c.1=1 from h1)] at h
 exact ⟨h.1,(rd_bottom _ h.1).1⟩
theorem call_ok {nm:ByteArray} {ls:List (List Cl)} {r:List Cl} (hok: ∀x∈ls,okV x=true) (h:callF nm ls=some r):okV r=true:=by
 have htex: ∀s,texO s=some r→okV r=true:=by
  intro s hs;unfold texO at hs;split at hs
  ·rename_i h1;injection hs with hs;rw [←hs];exact h1
  ·cases hs
 unfold callF at h
 repeat' split at h
 all_goals first|(cases h;done)|skip
 ·rename_i v _;injection h with h;subst h
  obtain ⟨c,t,rfl⟩:=okV_cons (hok _ (List.mem_singleton.mpr rfl))
  have:=okVC_word (okV_head (hok _ (List.mem_singleton.mpr rfl)))
  exact num_ok (by omega) (by show ((wdV (c::t)).size:Int)≤1000000000;rw [(kd_cons c t).2.1];omega)
 ·injection h with h;subst h
  rename_i v _ _
  obtain ⟨c,t,rfl⟩:=okV_cons (hok _ (List.mem_singleton.mpr rfl))
  have:=okVC_many (okV_head (hok _ (List.mem_singleton.mpr rfl)))
  rw [(kd_cons c t).2.2]
  exact num_ok (by omega) (by omega)
 ·exact htex _ h
 ·exact htex _ h
 ·injection h with h;subst h
  rcases best_mem (decide (nm=nmMin)) _ _ with k|k
  ·rw [k];exact hok _ (List.mem_cons_self ..)
  ·exact hok _ (List.mem_cons_of_mem _ k)
 ·rename_i v h5
  obtain ⟨c,t,rfl⟩:=okV_cons (hok _ (List.mem_singleton.mpr rfl))
  obtain ⟨-,k2,-⟩:=list_partsV (hok _ (List.mem_singleton.mpr rfl)) rfl h5
  exact k2 _ (List.mem_of_getElem? h)
 ·unfold lisO at h;split at h
  ·rename_i k;injection h with h;rw [←h];exact k
  ·cases h
 ·injection h with h;subst h;exact tru_ok _
 ·exact htex _ h
theorem rev_ne:nmReverse≠nmLength∧nmReverse≠nmUpper∧nmReverse≠nmLower∧ ¬(nmReverse=nmMin∨nmReverse=nmMax)∧nmReverse≠nmFirst:=by decide
theorem callF_rev (ls:List (List Cl)):callF nmReverse ls=(match ls with|[v]=>if kdV v=5 then lisO (partsV v).reverse else none|_=>none):=by
 obtain ⟨h1,h2,h3,h4,h5⟩:=rev_ne
 unfold callF
 rw [if_neg h1,if_neg h2,if_neg h3,if_neg h4,if_neg h5,if_pos rfl]
 try rfl
theorem first_ne:nmFirst≠nmLength∧nmFirst≠nmUpper∧nmFirst≠nmLower∧ ¬(nmFirst=nmMin∨nmFirst=nmMax):=by decide
theorem callF_first (ls:List (List Cl)):callF nmFirst ls=(match ls with|[v]=>if kdV v=5 then (partsV v)[0]? else none|_=>none):=by
 obtain ⟨h1,h2,h3,h4⟩:=first_ne
 unfold callF
 rw [if_neg h1,if_neg h2,if_neg h3,if_neg h4,if_pos rfl]
 try rfl
theorem con_ne:nmContains≠nmLength∧nmContains≠nmUpper∧nmContains≠nmLower∧ ¬(nmContains=nmMin∨nmContains=nmMax)∧nmContains≠nmFirst∧nmContains≠nmReverse:=by decide
theorem min_ne:nmMin≠nmLength∧nmMin≠nmUpper∧nmMin≠nmLower:=by decide
theorem max_ne:nmMax≠nmLength∧nmMax≠nmUpper∧nmMax≠nmLower∧nmMax≠nmMin:=by decide
theorem callF_min (ls:List (List Cl)):callF nmMin ls=(match ls with|v::vs=>if∀x∈v::vs,kdV x=1 then some (bestB true v vs) else none|_=>none):=by
 obtain ⟨h1,h2,h3⟩:=min_ne
 unfold callF
 rw [if_neg h1,if_neg h2,if_neg h3,if_pos (.inl rfl)]
 split<;>simp
theorem callF_max (ls:List (List Cl)):callF nmMax ls=(match ls with|v::vs=>if∀x∈v::vs,kdV x=1 then some (bestB false v vs) else none|_=>none):=by
 obtain ⟨h1,h2,h3,h4⟩:=max_ne
 unfold callF
 rw [if_neg h1,if_neg h2,if_neg h3,if_pos (.inr rfl)]
 split<;>simp [h4]
theorem callF_len (ls:List (List Cl)):callF nmLength ls=(match ls with|[v]=>if kdV v=2 then some (numV ((wdV v).size:Int) 1) else if kdV v=5 then some (numV (myV v) 1) else none|_=>none):=by
 unfold callF
 rw [if_pos rfl]
 try rfl
theorem upp_ne:nmUpper≠nmLength∧nmLower≠nmLength∧nmLower≠nmUpper:=by decide
theorem callF_up (ls:List (List Cl)):callF nmUpper ls=(match ls with|[v]=>if kdV v=2 then texO (mapB upC (wdV v)) else none|_=>none):=by
 obtain ⟨h1,h2,h3⟩:=upp_ne
 unfold callF
 rw [if_neg h1,if_pos rfl]
 try rfl
theorem callF_lo (ls:List (List Cl)):callF nmLower ls=(match ls with|[v]=>if kdV v=2 then texO (mapB loC (wdV v)) else none|_=>none):=by
 obtain ⟨h1,h2,h3⟩:=upp_ne
 unfold callF
 rw [if_neg h2,if_neg h3,if_pos rfl]
 try rfl
open Go.RowKit
theorem rd_valid (s:ByteArray) (h:rdOK s=true):vB (rdT s) (rdB s)=true:=by
 have e:=rd_text s h
 cases hv:vB (rdT s) (rdB s) with
 |true=>rfl
 |false=>
  exfalso
  rw [textF,hv] at e
  have e:s.data.toList=[]:=by simpa using e.symm
  obtain rfl:s=⟨#[]⟩:=by rw [strL e]
  exact absurd h (by decide)
theorem callF_other {nm:ByteArray} {ls:List (List Cl)} (h:nm≠nmLength∧nm≠nmUpper∧nm≠nmLower∧nm≠nmMin∧nm≠nmMax∧nm≠nmFirst∧nm≠nmReverse∧nm≠nmContains∧nm≠nmJoin):callF nm ls=none:=by
 obtain ⟨h1,h2,h3,h4,h5,h6,h7,h8,h9⟩:=h
 unfold callF
 rw [if_neg h1,if_neg h2,if_neg h3,if_neg (by rintro (h|h);exact h4 h;exact h5 h),if_neg h6,if_neg h7,if_neg h8,if_neg h9]
theorem join_ne:nmJoin≠nmLength∧nmJoin≠nmUpper∧nmJoin≠nmLower∧ ¬(nmJoin=nmMin∨nmJoin=nmMax)∧nmJoin≠nmFirst∧nmJoin≠nmReverse∧nmJoin≠nmContains:=by decide
open Classical in
theorem callF_join (ls:List (List Cl)):callF nmJoin ls=(match ls with|[v,x]=>if kdV v=5∧kdV x=2∧ ∀p∈partsV v,kdV p=2 then texO (joinSep (wdV x) ((partsV v).map wdV)) else none|_=>none):=by
 obtain ⟨h1,h2,h3,h4,h5,h6,h7⟩:=join_ne
 unfold callF
 rw [if_neg h1,if_neg h2,if_neg h3,if_neg h4,if_neg h5,if_neg h6,if_neg h7,if_pos rfl]
 try rfl
open Classical in
theorem callF_conL (ls:List (List Cl)):callF nmContains ls=(match ls with|[v,x]=>if kdV v=5 then some (truV (decide (x∈partsV v))) else none|_=>none):=by
 obtain ⟨h1,h2,h3,h4,h5,h6⟩:=con_ne
 unfold callF
 rw [if_neg h1,if_neg h2,if_neg h3,if_neg h4,if_neg h5,if_neg h6,if_pos rfl]
 try rfl
end Go.Proofs.YthillfgjpalpcaaGreatDoor
