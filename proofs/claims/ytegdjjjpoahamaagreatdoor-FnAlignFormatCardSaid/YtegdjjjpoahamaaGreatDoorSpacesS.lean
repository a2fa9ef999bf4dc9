/-
  The reference's spaces: spec.l13Spaces.
-/
import Derived.Test.YtegdjjjpoahamaaGreatDoorLineOps
import Derived.Test.YtegdjjjpoahamaaGreatDoorRows
import Derived.WalkKit
import Derived.WalkSpells
import Derived.Lib.Hide
import Derived.IntWalk
import Derived.Deep.QuietTactic
import Derived.BigQuiet
set_option linter.unusedVariables false
set_option maxHeartbeats 2000000
set_option maxRecDepth 100000
namespace Go.Proofs.YtegdjjjpoahamaaGreatDoor
open Go.RowKit
theorem sp_snoc (k:Nat):baL (spL k)++⟨#[32]⟩=baL (spL (k+1)):=by
 apply ByteArray.ext
 rw [ByteArray.data_append]
 show (spL k).toArray++ #[32]=(spL (k+1)).toArray
 rw [show spL (k+1)=spL k++[32] by unfold spL;exact List.replicate_succ']
 simp
theorem sp_size (k:Nat):(baL (spL k)).size=k:=by simp [baL,ByteArray.size,spL]
theorem spaces_spec (n:Int) (w:World) (hn:n≤1000):
  Calls Tryz.prog 92 #[.int .i64 n] w fun e w'=>e= .returned (.string (baL (spL n.toNat)))∧w=w':=by
 go_enter Tryz.func92,Tryz.ntmps92
 go_wp2_with fail
 go_loopw [3,4] (fun x i wr=> ∃k:Nat,k≤n.toNat∧i= .int .i64 (k:Int)∧x= .string (baL (spL k))∧wr=w) (fun _ i _=>n.toNat-(intOf i).toNat)
 case atStart=>exact ⟨0,Nat.zero_le _,rfl,rfl,rfl⟩
 case round=>
  obtain ⟨k,hk,rfl,rfl,hwr⟩:=hrel
  subst hwr
  by_cases hlt:(k:Int)<n
  ·have hsz: ¬9223372036854775807<(baL (spL k)).size+1:=by rw [sp_size];omega
   have hz:=sp_size k
   go_wp2
   go_roundw
   case rel=>exact ⟨k+1,by omega,by go_num,by rw [←sp_snoc],by trivial⟩
   case measure=>simp [intOf];omega
  ·have e:k=n.toNat:=by omega
   go_wp2
   go_ret
   exact ⟨rfl,rfl⟩
end Go.Proofs.YtegdjjjpoahamaaGreatDoor
