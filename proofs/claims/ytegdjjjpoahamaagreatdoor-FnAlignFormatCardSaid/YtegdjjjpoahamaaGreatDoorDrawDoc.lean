/-
  Drawn documents: spec.l20Document.
-/
import Derived.Test.YtegdjjjpoahamaaGreatDoorDrawItems
set_option linter.unusedVariables false
set_option maxHeartbeats 8000000
set_option maxRecDepth 100000
namespace Go.Proofs.YtegdjjjpoahamaaGreatDoor
open Go.RowKit
def lenO:Value→Nat
 | .slice _ n _=>n
 |_=>0
def DocD (R p:Nat) (w:World) (e:Ending) (w':World):Prop:=
 ∃(v:Value) (us:List Value) (l:List It),e= .returned v∧OwnG w' w.heap.size v us l∧(∀i∈l,FewI i)∧l.length≤41∧Rdm w' R (p+310000)∧w.grownBy w' (some R)
theorem DocD.of {w w':World} {R p q n:Nat} {v:Value} {us:List Value} {l:List It} (h:AfD w w' R q n v us l) (hq:q≤p+310000) (hn:n≤41):DocD R p w (.returned v) w':=
 ⟨v,us,l,rfl,h.own,h.few,Nat.le_trans h.len hn,h.rd.mono hq,h.gr⟩
theorem document_any (R p:Nat) (n:Int) (w:World) (hp:p+400000<30000000) (hn0:0≤n) (hn1:n≤1000) (h:Rdm w R p):
  Calls Tryz.prog 81 #[.pointer (some ⟨R,0,none⟩), .int .i64 n] w (DocD R p w):=by
 go_enter Tryz.func81,Tryz.ntmps81
 go_wp2_with fail
 refine (items_any R p _ (by omega) h).mono ?_
 rintro e w1 ⟨v1,us1,l1,rfl,ho1,hf1,hl1,hr1,hg1⟩
 obtain ⟨g1,c1,rfl⟩:=ho1.is
 by_cases hlen:30<l1.length
 case' pos=>
  have hlI:(30:Int)<(l1.length:Int):=by omega
  have A1:=Lib.hid ((AfD.lit h hg1 hr1).more (Nat.le_refl _) (show 0≤30 by omega))
 case' neg=>
  have hlI: ¬(30:Int)<(l1.length:Int):=by omega
  have A1:=Lib.hid (show AfD w w1 R (p+300000) 30 (.slice (some ⟨g1,0,none⟩) l1.length c1) us1 l1 from ⟨ho1,hf1,by omega,hr1,hg1,h.lt⟩)
 all_goals
  clear ho1 hf1 hl1 hr1 hg1 h hlen
  go_wp2_with fail
  refine (odd_any R (p+300000) n _ (by omega) (by omega) (by omega) A1.out.rd).mono ?_
  rintro e w2 ⟨bo,rfl,-,hr2,hg2,-⟩
  have A2:=Lib.hid (A1.out.call hr2 hg2)
  clear hr2 hg2
  cases bo with
  |false=>
   go_wp2
   go_ret
   exact DocD.of A2.out (by omega) (by omega)
  |true=>
   go_wp2_with fail
   refine (pick_any R (p+300000+1) 5 _ (by omega) A2.out.rd).mono ?_
   rintro e w3 ⟨j,rfl,hj0,hj1,-,hr3,hg3,-⟩
   have hj2:=hj1 (by omega)
   have A3:=Lib.hid (A2.out.call hr3 hg3)
   have hsz3:=A3.out.gr.size
   clear hj1 hr3 hg3
   have hj:j=0∨j=1∨j=2∨j=3∨j=4:=by omega
   clear hj0 hj2
   rcases hj with rfl|rfl|rfl|rfl|rfl
   ·go_wp2_with (at_builtin;refine back_Z rfl A3.out _ _ rfl rfl rfl (by decide) (by omega) ?_;rintro v5 w5 u5 l5 a5- - -;have A5:=Lib.hid a5;obtain ⟨g5,c5,rfl⟩:=a5.own.is;clear a5)
    go_wp2
    go_ret
    exact DocD.of A5.out (by omega) (by omega)
   ·go_wp2_with (at_builtin;refine front_D rfl A3.out _ _ rfl rfl rfl KeptC.nil (few_simple 5 (by decide)) hsz3 (Nat.le_refl _) (by omega) ?_;rintro v5 w5 u5 l5 a5- - -;have A5:=Lib.hid a5;obtain ⟨g5,c5,rfl⟩:=a5.own.is;clear a5)
    go_wp2
    go_ret
    exact DocD.of A5.out (by omega) (by omega)
   ·go_wp2_with fail
    refine (item_any R (p+300000+1+1) 1 _ (by omega) (by omega) (by omega) A3.out.rd).mono ?_
    rintro e w7 ⟨i7,au,ac,rfl,hk7,hf7,hr7,hg7⟩
    obtain ⟨ik,inm,ics,int⟩:=i7
    have BL:=Lib.hid A3.out.blt
    have A7:=Lib.hid (A3.out.call hr7 hg7);have F7:=Lib.hid hf7
    have K7:=Lib.hid (show KeptC w7 w3.heap.size (some w7.heap.size) (.slice au ics.length ac) ics from fun w' h1 h2=>hk7 w' (fun b hb hl=>h1 b hb hl (fun e=>by injection e with e;omega)) h2)
    have hsz7:w3.heap.size≤w7.heap.size:=hg7.size
    clear hk7 hf7 hr7 hg7
    go_wp2_with (at_builtin;refine back_D rfl A7.out _ _ rfl rfl rfl K7.out F7.out hsz3 hsz7 BL.out (by omega) ?_;rintro v8 w8 u8 l8 a8- - -;have A8:=Lib.hid a8;obtain ⟨g8,c8,rfl⟩:=a8.own.is;clear a8)
    go_wp2
    go_ret
    exact DocD.of A8.out (by omega) (by omega)
   ·go_wp2_with fail
    go_loopw [5,6] (fun a i wr=> ∃(k:Nat) (us:List Value) (l:List It),k≤5∧i= .int .i64 (k:Int)∧AfD w wr R (p+300000+1+1) (30+2*k) a us l) (fun _ i _=>5-(intOf i).toNat)
    case atStart=>exact ⟨0,_,_,by omega,rfl,A3.out⟩
    case round=>
     obtain ⟨k,us,l,hk,rfl,hA⟩:=hrel
     have HA:=Lib.hid hA
     obtain ⟨ag,ac0,rfl⟩:=hA.own.is
     have hszr:=hA.gr.size
     clear hA
     by_cases hk4:k=5
     ·subst hk4
      go_wp2
      go_ret
      exact DocD.of HA.out (by omega) (by omega)
     ·have hkI:(k:Int)≤4:=by omega
      have hwk:IntKind.i64.wrap ((k:Int)+1)=((k+1:Nat):Int):=by rw [IntWalk.i64_in _ (by omega)];omega
      go_wp2_with ((first
       |(at_builtin;refine back_Z rfl A6.out _ _ rfl rfl rfl (by decide) (by omega) ?_;rintro v8 w8 u8 l8 a8- - -;have A8:=Lib.hid a8;obtain ⟨g8,c8,rfl⟩:=a8.own.is;clear a8)
       |(at_builtin;refine front_D rfl HA.out _ _ rfl rfl rfl KeptC.nil (few_simple 4 (by decide)) hszr (Nat.le_refl _) (by omega) ?_;rintro v6 w6 u6 l6 a6- - -;have A6:=Lib.hid a6;obtain ⟨g6,c6,rfl⟩:=a6.own.is;clear a6)))
      go_wp2
      go_roundw
      case rel=>exact ⟨k+1,_,_,by omega,by first|rw [hwk]|go_num,A8.out.more (Nat.le_refl _) (by omega)⟩
      case measure=>simp [intOf]<;>omega
   ·go_wp2_with fail
    go_loopw [5] (fun a wr=> ∃(us:List Value) (l:List It),AfD w wr R (p+300000+1+1) 31 a us l) (fun a _=>31-lenO a)
    case atStart=>exact ⟨_,_,A3.out.more (Nat.le_refl _) (by omega)⟩
    case round=>
     obtain ⟨us,l,hA⟩:=hrel
     have HA:=Lib.hid hA
     obtain ⟨ag,ac0,rfl⟩:=hA.own.is
     clear hA
     by_cases hk4:l.length≤30
     ·have hkI:(l.length:Int)≤30:=by omega
      go_wp2_with (at_builtin;refine back_Z rfl HA.out _ _ rfl rfl rfl (by decide) (by omega) ?_;rintro v5 w5 u5 l5 a5-hl5-;have A5:=Lib.hid (show AfD w w5 R (p+300000+1+1) 31 v5 u5 l5 from ⟨a5.own,a5.few,by omega,a5.rd,a5.gr,a5.lt⟩);have L5:=Lib.hid hl5;obtain ⟨g5,c5,rfl⟩:=a5.own.is;clear a5 hl5)
      go_wp2
      go_roundw
      case rel=>exact ⟨_,_,A5.out⟩
      case measure=>have:=L5.out;simp [lenO];omega
     ·have hkI: ¬(l.length:Int)≤30:=by omega
      go_wp2
      go_ret
      exact DocD.of HA.out (by omega) (by omega)
end Go.Proofs.YtegdjjjpoahamaaGreatDoor
