/-
  strings.Repeat of two spaces, at most four times.
-/
import Derived.Test.YtegdjjjpoahamaaGreatDoorShelf
import Derived.Test.YtegdjjjpoahamaaGreatDoorSpacesS
set_option linter.unusedVariables false
set_option maxHeartbeats 4000000
set_option maxRecDepth 100000
namespace Go.Proofs.YtegdjjjpoahamaaGreatDoor
open Go.RowKit
theorem rep_sp (D:Nat) (hD:D≤4) (w:World):
  Calls Tryz.prog 89 #[.string ⟨#[32,32]⟩, .int .i64 (D:Int)] w fun e w'=>e= .returned (.string (baL (spL (2*D))))∧w=w':=by
 have hm: ∀(k:Nat) (w:World),k≤4→Calls Tryz.prog 136 #[.int .u64 2, .int .u64 (k:Int)] w fun e w'=>e= .returned (.tuple #[.int .u64 0, .int .u64 ((2*k:Nat):Int)])∧w'=w:=fun k w hk=>by
  have:=Tryz.bits_Mul 2 k (by omega) (by omega) w
  rw [Nat.div_eq_of_lt (by omega),Nat.mod_eq_of_lt (by omega)] at this
  exact this
 have hp: ∀(s:ByteArray) (w:World),Lib.hasPrefix s.data.toList [32,32]=true→Calls Tryz.prog 137 #[.string s, .string ⟨#[32,32]⟩] w fun e w'=>e= .returned (.bool true)∧w'=w:=fun s w hs=>by
  have:=Tryz.strings_HasPrefix s ⟨#[32,32]⟩ w
  rw [show Lib.hasPrefix s.data.toList (⟨#[32,32]⟩:ByteArray).data.toList=true from hs] at this
  exact this
 have HM:=Lib.hid hm;have HP:=Lib.hid hp
 clear hm hp
 have h:D=0∨D=1∨D=2∨D=3∨D=4:=by omega
 rcases h with rfl|rfl|rfl|rfl|rfl
 ·go_enter Tryz.func89,Tryz.ntmps89
  go_wp2
  go_ret
  exact ⟨rfl,rfl⟩
 ·go_enter Tryz.func89,Tryz.ntmps89
  go_wp2
  go_ret
  exact ⟨rfl,rfl⟩
 all_goals
  go_enter Tryz.func89,Tryz.ntmps89
  go_wp2_with fail
  refine (HM.out _ _ hD).mono ?_
  rintro e w1 ⟨rfl,hw⟩
  subst hw
  go_wp2_with fail
  refine (HP.out _ _ (by decide)).mono ?_
  rintro e w1 ⟨rfl,hw⟩
  subst hw
  go_wp2
  go_ret
  exact ⟨by first|rfl|decide,rfl⟩
end Go.Proofs.YtegdjjjpoahamaaGreatDoor
