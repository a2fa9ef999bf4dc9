/-
  Drawn documents of both kinds: spec.l20Any, from l20Sound and l20Document.
-/
import Derived.Test.YtegdjjjpoahamaaGreatDoorAnyDef
set_option linter.unusedVariables false
set_option maxHeartbeats 2000000
namespace Go.Proofs.YtegdjjjpoahamaaGreatDoor
open Go.RowKit
def RowsR (R p K:Nat) (w:World) (e:Ending) (w':World):Prop:=
 ∃(v:Value) (l:List It),e= .returned v∧RowIt w' v l∧(∀i∈l,FewI i)∧l.length≤100∧Rdm w' R (p+K)∧w.grownBy w' (some R)
def SoundOK:Prop:= ∀(R p:Nat) (w:World),p+499000<30000000→Rdm w R p→
 Calls Tryz.prog 80 #[.pointer (some ⟨R,0,none⟩)] w (RowsR R p 399000 w)
def DocOK:Prop:= ∀(R p:Nat) (n:Int) (w:World),p+499000<30000000→0≤n→n≤1000→Rdm w R p→
 Calls Tryz.prog 81 #[.pointer (some ⟨R,0,none⟩), .int .i64 n] w (RowsR R p 399000 w)
theorem any_of (hs:SoundOK) (hd:DocOK):AnyOK:=by
 intro R p n w hp hn0 hn1 h
 have HS:=Lib.hid hs;have HD:=Lib.hid hd
 clear hs hd
 go_enter Tryz.func47,Tryz.ntmps47
 go_wp2_with fail
 refine (pick_any R p 2 _ (by omega) h).mono ?_
 rintro e w1 ⟨j,rfl,hj0,hj1,-,hr1,hg1,hs1⟩
 have HG1:=Lib.hid hg1
 clear hg1 hs1 h
 by_cases j0:j=0
 ·subst j0
  go_wp2_with fail
  refine (HS.out R (p+1) w1 (by omega) hr1).mono ?_
  rintro e w2 ⟨v,l,rfl,hrow,hf,hl,hr2,hg2⟩
  have HG2:=Lib.hid (grown_trans HG1.out hg2)
  have HW:=Lib.hid hrow
  clear hg2 hrow
  go_wp2
  go_ret
  exact ⟨v,l,rfl,HW.out,hf,hl,hr2.mono (by omega),HG2.out⟩
 ·have t0:(j==0)=false:=beq_eq_false_iff_ne.mpr j0
  go_wp2_with fail
  refine (HD.out R (p+1) n w1 (by omega) hn0 hn1 hr1).mono ?_
  rintro e w2 ⟨v,l,rfl,hrow,hf,hl,hr2,hg2⟩
  have HG2:=Lib.hid (grown_trans HG1.out hg2)
  have HW:=Lib.hid hrow
  clear hg2 hrow
  go_wp2
  go_ret
  exact ⟨v,l,rfl,HW.out,hf,hl,hr2.mono (by omega),HG2.out⟩
end Go.Proofs.YtegdjjjpoahamaaGreatDoor
