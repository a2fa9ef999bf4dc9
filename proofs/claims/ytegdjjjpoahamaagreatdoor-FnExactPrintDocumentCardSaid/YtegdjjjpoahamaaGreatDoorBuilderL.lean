/-
  The length of a strings.Builder of one's own.
-/
import Derived.Test.YtegdjjjpoahamaaGreatDoorBaseJ
set_option linter.unusedVariables false
namespace Go.Proofs.YtegdjjjpoahamaaGreatDoor
open Go.RowKit
theorem bLen (B b:Nat) (l:List UInt8) (w:World) (h:BIs B b l w):
  Calls Tryz.prog 139 #[.pointer (some ⟨b,0,none⟩)] w fun e w'=>e= .returned (.int .i64 l.length)∧w=w':=
 (Tryz.Builder_Len B b _ w h).mono fun e w' ⟨he,hw⟩=>⟨by rw [he,Lib.byteCells_length],hw.symm⟩
end Go.Proofs.YtegdjjjpoahamaaGreatDoor
