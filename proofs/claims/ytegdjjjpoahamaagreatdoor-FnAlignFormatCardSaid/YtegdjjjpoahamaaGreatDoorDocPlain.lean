/-
  Documents, plainly: notes, items, how deep items are, documents (docB), their depths (depthsD) and tidy documents (tidyD).
-/
import Derived.Test.YtegdjjjpoahamaaGreatDoorNotePlain
import Derived.Test.YtegdjjjpoahamaaGreatDoorBaseC
import Derived.Test.YtegdjjjpoahamaaGreatDoorBaseE
set_option linter.unusedVariables false
namespace Go.Proofs.YtegdjjjpoahamaaGreatDoor
abbrev It:=Int×ByteArray×List Cl×ByteArray
noncomputable def itemB (i:It):Bool:=
 if i.1=1∨i.1=5 then emB i.2.1&&(i.2.2.1.isEmpty&&emB i.2.2.2)
 else if i.1=2 then emB i.2.1&&(i.2.2.1.isEmpty&&noteB i.2.2.2)
 else if i.1=3 then simpB i.2.1&&(okE i.2.2.1&&noteB i.2.2.2)
 else if i.1=4 then simpB i.2.1&&(i.2.2.1.isEmpty&&emB i.2.2.2)
 else false
def depS (d:Int) (i:It):Int:=if i.1=5 then d-1 else d
def depN (d:Int) (i:It):Int:=if i.1=4 then depS d i+1 else depS d i
def nestO:Int→List It→Option Int
 |d,[]=>some d
 |d,i::is=>if 0≤depN d i∧depN d i≤4 then nestO (depN d i) is else none
def depL:Int→List It→List Int
 |_,[]=>[]
 |d,i::is=>depS d i::depL (depN d i) is
def endD:Int→List It→Int
 |d,[]=>d
 |d,i::is=>endD (depN d i) is
noncomputable def docB (l:List It):Bool:=decide (l.length≤30)&&(l.all itemB&&decide (nestO 0 l=some 0))
theorem docB_iff (l:List It):docB l=true↔l.length≤30∧l.all itemB=true∧nestO 0 l=some 0:=by
 unfold docB;simp only [Bool.and_eq_true,decide_eq_true_eq]
noncomputable def depthsD (l:List It):List Int:=if docB l=true then depL 0 l else []
theorem nestO_app: ∀(a b:List It) (d:Int),nestO d (a++b)=(nestO d a).bind fun e=>nestO e b:=by
 intro a
 induction a with
 |nil=>intro b d;rfl
 |cons i a ih=>
  intro b d
  show (if _ then nestO (depN d i) (a++b) else none)=Option.bind (if _ then nestO (depN d i) a else none) _
  split
  ·exact ih b _
  ·rfl
theorem depL_length: ∀(l:List It) (d:Int),(depL d l).length=l.length:=by
 intro l
 induction l with
 |nil=>intro d;rfl
 |cons i l ih=>intro d;rw [depL,List.length_cons,List.length_cons,ih]
theorem depL_app: ∀(a b:List It) (d:Int),depL d (a++b)=depL d a++depL (endD d a) b:=by
 intro a
 induction a with
 |nil=>intro b d;rfl
 |cons i a ih=>intro b d;show depS d i::depL (depN d i) (a++b)=_;rw [ih];rfl
theorem endD_app: ∀(a b:List It) (d:Int),endD d (a++b)=endD (endD d a) b:=by
 intro a
 induction a with
 |nil=>intro b d;rfl
 |cons i a ih=>intro b d;exact ih b _
theorem nestO_end: ∀(l:List It) (d e:Int),nestO d l=some e→endD d l=e:=by
 intro l
 induction l with
 |nil=>intro d e h;injection h
 |cons i l ih=>
  intro d e h
  rw [nestO] at h
  split at h
  ·exact ih _ _ h
  ·cases h
theorem nest_pre {l:List It} {d e:Int} (h:nestO d l=some e) (k:Nat) (hk:k≤l.length):nestO d (l.take k)=some (endD d (l.take k)):=by
 have:nestO d (l.take k++l.drop k)=some e:=by rw [List.take_append_drop];exact h
 rw [nestO_app] at this
 cases hp:nestO d (l.take k) with
 |none=>rw [hp] at this;cases this
 |some x=>rw [nestO_end _ _ _ hp]
theorem nest_in: ∀(l:List It) (d e:Int),0≤d→d≤4→nestO d l=some e→0≤e∧e≤4:=by
 intro l
 induction l with
 |nil=>intro d e h0 h1 h;injection h with h;omega
 |cons i l ih=>
  intro d e h0 h1 h
  rw [nestO] at h
  split at h
  ·rename_i hc;exact ih _ _ hc.1 hc.2 h
  ·cases h
theorem depL_at: ∀(l:List It) (d:Int) (k:Nat) (hk:k<l.length),(depL d l)[k]'(by rw [depL_length];exact hk)=depS (endD d (l.take k)) l[k]:=by
 intro l
 induction l with
 |nil=>intro d k hk;simp at hk
 |cons i l ih=>
  intro d k hk
  cases k with
  |zero=>rfl
  |succ k=>exact ih (depN d i) k (by simpa using hk)
theorem endD_step (l:List It) (d:Int) (k:Nat) (hk:k<l.length):endD d (l.take (k+1))=depN (endD d (l.take k)) l[k]:=by
 rw [List.take_succ_eq_append_getElem hk,endD_app];rfl
theorem dep_in {l:List It} {d e:Int} (h:nestO d l=some e) (h0:0≤d) (h1:d≤4) (k:Nat) (hk:k<l.length):0≤depS (endD d (l.take k)) l[k]∧depS (endD d (l.take k)) l[k]≤4:=by
 have a:=nest_pre h k (by omega)
 have b:=nest_pre h (k+1) (by omega)
 have ra:=nest_in _ _ _ h0 h1 a
 have rb:=nest_in _ _ _ h0 h1 b
 rw [endD_step l d k hk] at rb
 unfold depN at rb
 unfold depS at rb⊢
 by_cases h5:l[k].1=5
 ·rw [if_pos h5,if_neg (by omega)] at rb;rw [if_pos h5];exact rb
 ·rw [if_neg h5];exact ra
theorem depL_next {l:List It} (k:Nat) (hk:k+1<l.length):(depL 0 l)[k+1]'(by rw [depL_length];exact hk)=
  (depL 0 l)[k]'(by rw [depL_length];omega)+(if l[k].1=4 then 1 else 0)-(if l[k+1].1=5 then 1 else 0):=by
 rw [depL_at l 0 (k+1) hk,depL_at l 0 k (by omega),endD_step l 0 k (by omega)]
 unfold depN depS
 split<;>split<;>split<;>omega
theorem depL_first {l:List It} (h:nestO 0 l=some 0) (hk:0<l.length):(depL 0 l)[0]'(by rw [depL_length];exact hk)=0:=by
 have:=dep_in h (by omega) (by omega) 0 hk
 rw [depL_at l 0 0 hk]
 have e:endD 0 (l.take 0)=0:=rfl
 rw [e] at this⊢
 unfold depS at this⊢
 split at this
 ·omega
 ·rename_i h5;rw [if_neg h5]
def mostS (m d:Int) (i:It):Int:=if i.1=4 then max (max m (depS d i)) (depS d i+1) else max m (depS d i)
def mostD:Int→Int→List It→Int
 |m,_,[]=>m
 |m,d,i::is=>mostD (mostS m d i) (depN d i) is
theorem mostS_bd (m d:Int) (i:It):m≤mostS m d i∧depN d i≤mostS m d i∧(m<4→d<4→depN d i<4→mostS m d i<4)∧(m≤4→d≤4→depN d i≤4→mostS m d i≤4):=by
 have hd:depS d i≤d:=by unfold depS;split<;>omega
 unfold mostS depN
 by_cases h:i.1=4
 ·rw [if_pos h,if_pos h];omega
 ·rw [if_neg h,if_neg h];omega
theorem mostD_le: ∀(l:List It) (m d:Int),m≤mostD m d l:=by
 intro l
 induction l with
 |nil=>intro m d;exact Int.le_refl _
 |cons i l ih=>
  intro m d
  rw [mostD]
  have h1:=ih (mostS m d i) (depN d i)
  have h2:=(mostS_bd m d i).1
  omega
theorem nest_up: ∀(l:List It) (m d e:Int),0≤d→d<4→m≤4→nestO d l=some e→(mostD m d l<4→nestO (d+1) l=some (e+1))∧(m<4→4≤mostD m d l→nestO (d+1) l=none):=by
 intro l
 induction l with
 |nil=>
  intro m d e h0 h1 hm h
  injection h with h;subst h
  exact ⟨fun _=>rfl,fun k1 k2=>absurd k2 (by show¬4≤m;omega)⟩
 |cons i l ih=>
  intro m d e h0 h1 hm h
  rw [nestO] at h
  split at h
  ·rename_i hc
   have hs:depN (d+1) i=depN d i+1:=by unfold depN depS;split<;>split<;>omega
   obtain ⟨b1,b2,b3,b4⟩:=mostS_bd m d i
   rw [mostD,nestO,hs]
   by_cases h4:depN d i<4
   ·obtain ⟨k1,k2⟩:=ih (mostS m d i) (depN d i) e hc.1 h4 (b4 hm (by omega) (by omega)) h
    rw [if_pos (by omega)]
    exact ⟨k1,fun p q=>k2 (b3 p h1 h4) q⟩
   ·rw [if_neg (by omega)]
    have hle:=mostD_le l (mostS m d i) (depN d i)
    exact ⟨fun k=>by omega,fun _ _=>rfl⟩
  ·cases h
theorem mostD_snoc: ∀(l:List It) (m d:Int) (i:It),mostD m d (l++[i])=mostS (mostD m d l) (endD d l) i:=by
 intro l
 induction l with
 |nil=>intro m d i;rfl
 |cons j l ih=>intro m d i;exact ih _ _ i
def openI (s:ByteArray):It:=(4,s,[],⟨#[]⟩)
def closeI:It:=(5,⟨#[]⟩,[],⟨#[]⟩)
theorem doc_open {l:List It} {s:ByteArray}:docB (l++[openI s])=false:=by
 rw [←Bool.not_eq_true,docB_iff]
 rintro ⟨-,-,h⟩
 rw [nestO_app,Option.bind_eq_some_iff] at h
 obtain ⟨e,h1,h2⟩:=h
 have:=nest_in _ _ _ (by omega) (by omega) h1
 have h3:nestO e [openI s]=if 0≤e+1∧e+1≤4 then some (e+1) else none:=rfl
 rw [h3] at h2
 split at h2
 ·injection h2 with h2;omega
 ·cases h2
theorem doc_block {l:List It} {s:ByteArray} (hs:simpB s=true) (h:docB l=true):docB (openI s::(l++[closeI]))=(decide (mostD 0 0 l<4)&&decide (l.length+2≤30)):=by
 obtain ⟨h1,h2,h3⟩:=(docB_iff l).mp h
 obtain ⟨n1,n2⟩:=nest_up l 0 0 0 (by omega) (by omega) (by omega) h3
 rw [Int.zero_add] at n1 n2
 have hO:itemB (openI s)=true:=by
  show (simpB s&&(true&&emB ⟨#[]⟩))=true
  rw [hs];rfl
 have hC:itemB closeI=true:=by
  unfold itemB closeI
  rw [if_pos (.inr rfl)];rfl
 have hN:nestO 0 (openI s::(l++[closeI]))=(nestO 1 l).bind fun e=>nestO e [closeI]:=by
  have:nestO 0 (openI s::(l++[closeI]))=nestO 1 (l++[closeI]):=rfl
  rw [this,nestO_app]
 by_cases hm:mostD 0 0 l<4
 ·by_cases hl:l.length+2≤30
  ·rw [decide_eq_true hm,decide_eq_true hl,Bool.and_true,docB_iff]
   refine ⟨by simp;omega, ?_, ?_⟩
   ·rw [List.all_cons,List.all_append,hO,h2];simp [hC]
   ·rw [hN,n1 hm];rfl
  ·rw [decide_eq_false hl,Bool.and_false,←Bool.not_eq_true,docB_iff]
   rintro ⟨k,-,-⟩
   simp at k;omega
 ·rw [decide_eq_false hm,Bool.false_and,←Bool.not_eq_true,docB_iff]
  rintro ⟨-,-,k⟩
  rw [hN,n2 (by omega) (by omega)] at k
  cases k
theorem item_6 (i:It):itemB (6,i.2)=false:=by
 unfold itemB
 simp
theorem item_1 (s:ByteArray) (e:List Cl) (t:ByteArray) (hs:s.size≠0):itemB (1,s,e,t)=false:=by
 unfold itemB
 simp [emB,hs]
end Go.Proofs.YtegdjjjpoahamaaGreatDoor
