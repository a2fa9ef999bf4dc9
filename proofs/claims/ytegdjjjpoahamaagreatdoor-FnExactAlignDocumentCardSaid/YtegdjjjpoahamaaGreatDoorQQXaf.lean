/-
  Part of the proof of UX.
-/
import Derived.Test.YtegdjjjpoahamaaGreatDoorQQXae
set_option linter.unusedVariables false
set_option maxHeartbeats 4000000
set_option maxRecDepth 100000
namespace Go.Proofs.YtegdjjjpoahamaaGreatDoor
open Go.RowKit
theorem fnExactAlignDocument_core (a0:Option Addr) (len0 cap0:Nat) (l:List It) (w:World) (hrow:ArgIs w a0 len0 cap0 l) (htab:Tab w):
  Calls Tryz.prog 8 #[.slice a0 len0 cap0] w fun e w'=>e= .returned (.bool true)∧Below w.heap.size w w':=by
 obtain ⟨hlen,hr,hz⟩:=hrow
 have HR:=Lib.hid hr;have HZ:=Lib.hid hz;have HT:=Lib.hid htab
 clear hr hz htab
 go_enter Tryz.func8,Tryz.ntmps8
 go_wp2_with fail
 refine (szItemS_any _ l 1048576 _ HR.out HZ.out (by omega) (by omega)).mono ?_
 rintro e w1 ⟨⟨m,rfl,hm⟩,hb1⟩
 have HB1:=Lib.hid hb1;clear hb1
 by_cases hm0:0≤m
 ·obtain ⟨hl,hsh⟩:=hm hm0
  have HSB:=Lib.hid (short_ofI (n:=1048576) (by omega) hsh (by omega))
  have hl1:l.length≤1048576:=by omega
  have HLL:=Lib.hid (show∀b∈l,b.2.2.1.length≤1048576 from fun b hb=>(HSB.out b hb).2.2.1)
  clear hm hsh
  go_wp2_with fail
  refine (toItemS_any _ l _ (HR.out.mono HB1.out) hl1 HLL.out).mono ?_
  rintro e w2 ⟨v2,us2,rfl,ho2,hb2⟩
  have R2:=Lib.hid ho2.reads;have HB2:=Lib.hid (HB1.out.trans (hb2.mono HB1.out.size));clear ho2 hb2
  go_wp2_with fail
  refine (alignDocument_spec v2 l _ R2.out HSB.out hl1).mono ?_
  rintro e w3 ⟨rfl,hb3⟩
  have HB3:=Lib.hid (HB2.out.trans (hb3.mono HB2.out.size));clear hb3
  go_wp2_with fail
  refine (toItemS_any _ l _ (HR.out.mono HB3.out) hl1 HLL.out).mono ?_
  rintro e w4 ⟨v4,us4,rfl,ho4,hb4⟩
  have R4:=Lib.hid ho4.reads;have HB4:=Lib.hid (HB3.out.trans (hb4.mono HB3.out.size));clear ho4 hb4
  go_wp2_with fail
  refine (alignDocument_impl v4 l _ R4.out HSB.out (HT.out.keep HB4.out)).mono ?_
  rintro e w5 ⟨rfl,hb5⟩
  have R5:=Lib.hid (R4.out.mono hb5)
  have HB5:=Lib.hid (HB4.out.trans (hb5.mono HB4.out.size));clear hb5
  generalize alignT l=T
  generalize alignK l=ok
  cases ok
  all_goals
   go_wp2_with fail
   refine (toItemS_any _ l _ (HR.out.mono HB5.out) hl1 HLL.out).mono ?_
   rintro e w6 ⟨v6,us6,rfl,ho6,hb6⟩
   have R6:=Lib.hid ho6.reads;have HB6:=Lib.hid (HB5.out.trans (hb6.mono HB5.out.size))
   have R56:=Lib.hid (R5.out.mono hb6)
   clear ho6 hb6
   go_wp2_with fail
   refine (eqItemS_same _ _ l _ R56.out R6.out).mono ?_
   rintro e w7 ⟨rfl,hb7⟩
   have HB7:=Lib.hid (HB6.out.trans (hb7.mono HB6.out.size));clear hb7
   go_wp2
   go_ret
   exact ⟨rfl,HB7.out⟩
 ·clear hm
  go_wp2
  go_ret
  exact ⟨rfl,HB1.out⟩
end Go.Proofs.YtegdjjjpoahamaaGreatDoor
