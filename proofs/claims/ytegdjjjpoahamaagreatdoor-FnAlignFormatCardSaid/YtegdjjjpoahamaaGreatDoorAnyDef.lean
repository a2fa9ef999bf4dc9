/-
  What l20Any draws; drawn items are short.
-/
import Derived.Test.YtegdjjjpoahamaaGreatDoorDrawItem
import Derived.Test.YtegdjjjpoahamaaGreatDoorRowIt
set_option linter.unusedVariables false
namespace Go.Proofs.YtegdjjjpoahamaaGreatDoor
open Go.RowKit
def AnyR (R p:Nat) (w:World) (e:Ending) (w':World):Prop:=
 ∃(v:Value) (l:List It),e= .returned v∧RowIt w' v l∧(∀i∈l,FewI i)∧l.length≤100∧Rdm w' R (p+400000)∧w.grownBy w' (some R)
def AnyOK:Prop:= ∀(R p:Nat) (n:Int) (w:World),p+500000<30000000→0≤n→n≤1000→Rdm w R p→
 Calls Tryz.prog 47 #[.pointer (some ⟨R,0,none⟩), .int .i64 n] w (AnyR R p w)
theorem fewI_short {i:It} (h:FewI i):i.2.1.size≤1048576∧ShortC i.2.2.1∧i.2.2.1.length≤1048576∧i.2.2.2.size≤1048576:=
 ⟨by have:=h.1;omega,fun c hc=>by have:=h.2.1 c hc;omega,by have:=h.2.2.1;omega,by have:=h.2.2.2;omega⟩
theorem fewI_shortI {l:List It} (h: ∀i∈l,FewI i):ShortI l:=fun i hi=>fewI_short (h i hi)
end Go.Proofs.YtegdjjjpoahamaaGreatDoor
