/-
  Drawn expressions of a type, whole.
-/
import Derived.Test.YthijkjnngfnfdaaGreatDoorZz
import Derived.Test.YthijkjnngfnfdaaGreatDoorPDrawTyp0
import Derived.Test.YthijkjnngfnfdaaGreatDoorPDrawTyp1
import Derived.Test.YthijkjnngfnfdaaGreatDoorPDrawTyp2
set_option linter.unusedVariables false
namespace Go.Proofs.YthijkjnngfnfdaaGreatDoor
open Go.RowKit
theorem zf (d:Nat) (h1:1≤d) (h4:d≤4):af8 d:=by
 induction d with
 |zero=>omega
 |succ d ih=>
  by_cases hd:d=0
  ·subst hd
   intro k hk R p w hp hr
   have hkt:kt (0+1)=17:=by decide
   have hct:ct (0+1)=1:=by decide
   rw [hkt] at hp⊢;rw [hct]
   rcases hk with rfl|rfl|rfl
   ·exact aex 1 R p 17 1 w (by omega) (by omega) (by omega) (by omega) hr
   ·exact aey 1 R p 17 1 w (by omega) (by omega) (by omega) (by omega) hr
   ·exact aez 1 R p 17 1 w (by omega) (by omega) (by omega) (by omega) hr
  ·have h:=ih (by omega) (by omega)
   intro k hk R p w hp hr
   rcases hk with rfl|rfl|rfl
   ·exact aaC d (by omega) (by omega) h R p w hp hr
   ·exact abT d (by omega) (by omega) h R p w hp hr
   ·exact acf d (by omega) (by omega) h R p w hp hr
theorem aax (d:Nat) (h1:1≤d∧d≤4) (k:Int) (hk:0≤k∧k<3) (R p:Nat) (w:World) (hp:p+800<1073741824) (h:Rdm w R p):
  Calls Tryz.prog 81 #[.pointer (some ⟨R,0,none⟩), .int .i64 (d:Int), .int .i64 k] w (TypD R p 800 60 w):=by
 have hK:kt d≤800∧ct d≤60:=by
  have:d=1∨d=2∨d=3∨d=4:=by omega
  rcases this with rfl|rfl|rfl|rfl<;>decide
 refine (zf d h1.1 h1.2 k (by omega) R p w (by omega) h).mono ?_;rintro e w' ⟨v,l,he,ho,hs,hl,hc,hr,hg⟩;exact ⟨v,l,he,ho,hs,hl,by omega,hr.mono (by omega),hg⟩
end Go.Proofs.YthijkjnngfnfdaaGreatDoor
