/-
  Documents, plainly: notes, items, how deep items are, documents (dO), their depths (depthsD) and tidy documents (gN).
-/
import Derived.Test.YthijkjnngfnfdaaGreatDoorZz
import Derived.Test.YthijkjnngfnfdaaGreatDoorPNotePlain
import Derived.Test.YthijkjnngfnfdaaGreatDoorPBaseC
import Derived.Test.YthijkjnngfnfdaaGreatDoorPBaseE
set_option linter.unusedVariables false
namespace Go.Proofs.YthijkjnngfnfdaaGreatDoor
abbrev It:=Int×ByteArray×List Cl×ByteArray
noncomputable def aM (i:It):Bool:=
 if i.1=1∨i.1=5 then emB i.2.1&&(i.2.2.1.isEmpty&&emB i.2.2.2)
 else if i.1=2 then emB i.2.1&&(i.2.2.1.isEmpty&&eO i.2.2.2)
 else if i.1=3 then gi i.2.1&&(okE i.2.2.1&&eO i.2.2.2)
 else if i.1=4 then gi i.2.1&&(i.2.2.1.isEmpty&&emB i.2.2.2)
 else false
def fW (d:Int) (i:It):Int:=if i.1=5 then d-1 else d
def ef (d:Int) (i:It):Int:=if i.1=4 then fW d i+1 else fW d i
def bn:Int→List It→Option Int
 |d,[]=>some d
 |d,i::is=>if 0≤ef d i∧ef d i≤4 then bn (ef d i) is else none
def ew:Int→List It→List Int
 |_,[]=>[]
 |d,i::is=>fW d i::ew (ef d i) is
def oQ:Int→List It→Int
 |d,[]=>d
 |d,i::is=>oQ (ef d i) is
noncomputable def dO (l:List It):Bool:=decide (l.length≤30)&&(l.all aM&&decide (bn 0 l=some 0))
theorem bf (l:List It):dO l=true↔l.length≤30∧l.all aM=true∧bn 0 l=some 0:=by
 unfold dO;simp only [Bool.and_eq_true,decide_eq_true_eq]
theorem jm: ∀(a b:List It) (d:Int),bn d (a++b)=(bn d a).bind fun e=>bn e b:=by
 intro a
 induction a with
 |nil=>intro b d;rfl
 |cons i a ih=>
  intro b d
  show (if _ then bn (ef d i) (a++b) else none)=Option.bind (if _ then bn (ef d i) a else none) _
  split
  ·exact ih b _
  ·rfl
theorem cU: ∀(l:List It) (d:Int),(ew d l).length=l.length:=by
 intro l
 induction l with
 |nil=>intro d;rfl
 |cons i l ih=>intro d;rw [ew,List.length_cons,List.length_cons,ih]
theorem pY: ∀(a b:List It) (d:Int),ew d (a++b)=ew d a++ew (oQ d a) b:=by
 intro a
 induction a with
 |nil=>intro b d;rfl
 |cons i a ih=>intro b d;show fW d i::ew (ef d i) (a++b)=_;rw [ih];rfl
theorem ad6: ∀(a b:List It) (d:Int),oQ d (a++b)=oQ (oQ d a) b:=by
 intro a
 induction a with
 |nil=>intro b d;rfl
 |cons i a ih=>intro b d;exact ih b _
theorem lA: ∀(l:List It) (d e:Int),bn d l=some e→oQ d l=e:=by
 intro l
 induction l with
 |nil=>intro d e h;injection h
 |cons i l ih=>
  intro d e h;rw [bn] at h
  split at h
  ·exact ih _ _ h
  ·cases h
theorem vE {l:List It} {d e:Int} (h:bn d l=some e) (k:Nat) (hk:k≤l.length):bn d (l.take k)=some (oQ d (l.take k)):=by
 have:bn d (l.take k++l.drop k)=some e:=by rw [List.take_append_drop];exact h
 rw [jm] at this
 cases hp:bn d (l.take k) with
 |none=>rw [hp] at this;cases this
 |some x=>rw [lA _ _ _ hp]
theorem zC: ∀(l:List It) (d e:Int),0≤d→d≤4→bn d l=some e→0≤e∧e≤4:=by
 intro l
 induction l with
 |nil=>intro d e h0 h1 h;injection h with h;omega
 |cons i l ih=>
  intro d e h0 h1 h;rw [bn] at h
  split at h
  ·rename_i hc;exact ih _ _ hc.1 hc.2 h
  ·cases h
theorem tc: ∀(l:List It) (d:Int) (k:Nat) (hk:k<l.length),(ew d l)[k]'(by rw [cU];exact hk)=fW (oQ d (l.take k)) l[k]:=by
 intro l
 induction l with
 |nil=>intro d k hk;simp at hk
 |cons i l ih=>
  intro d k hk
  cases k with
  |zero=>rfl
  |succ k=>exact ih (ef d i) k (by simpa using hk)
theorem abG (l:List It) (d:Int) (k:Nat) (hk:k<l.length):oQ d (l.take (k+1))=ef (oQ d (l.take k)) l[k]:=by
 rw [List.take_succ_eq_append_getElem hk,ad6];rfl
theorem ad7 {l:List It} {d e:Int} (h:bn d l=some e) (h0:0≤d) (h1:d≤4) (k:Nat) (hk:k<l.length):0≤fW (oQ d (l.take k)) l[k]∧fW (oQ d (l.take k)) l[k]≤4:=by
 have a:=vE h k (by omega);have b:=vE h (k+1) (by omega);have ra:=zC _ _ _ h0 h1 a;have rb:=zC _ _ _ h0 h1 b;rw [abG l d k hk] at rb;unfold ef at rb;unfold fW at rb⊢
 by_cases h5:l[k].1=5
 ·rw [if_pos h5,if_neg (by omega)] at rb;rw [if_pos h5];exact rb
 ·rw [if_neg h5];exact ra
end Go.Proofs.YthijkjnngfnfdaaGreatDoor
