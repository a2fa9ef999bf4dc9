/-
  Notes, plainly.
-/
import Derived.Test.YthijkjnngfnfdaaGreatDoorZz
import Derived.Test.YthijkjnngfnfdaaGreatDoorPBaseC
set_option linter.unusedVariables false
namespace Go.Proofs.YthijkjnngfnfdaaGreatDoor
def eO (s:ByteArray):Bool:=aT s&&(decide (s.size≤60)&&(!eH s.data.toList 10&&(s.data.toList.head? !=some 32&&s.data.toList.getLast? !=some 32)))
def emB (s:ByteArray):Bool:=s.size==0
theorem kq {s:ByteArray} (h:emB s=true):(s.toList==[])=true∧s.toList=[]∧s.toList.isEmpty=true∧(!s.toList.isEmpty)=false:=by
 have:s.toList=[]:=by
  rw [ByteArray.toList_eq];exact List.length_eq_zero_iff.mp (by rw [Array.length_toList];exact beq_iff_eq.mp h)
 rw [this];exact ⟨rfl,rfl,rfl,rfl⟩
theorem mh {s:ByteArray} (h:emB s=false):(s.toList==[])=false∧s.toList≠[]∧s.toList.isEmpty=false∧(!s.toList.isEmpty)=true:=by
 have hn:s.toList≠[]:=by
  intro e;rw [ByteArray.toList_eq] at e
  have h2:s.data.toList.length=0:=by rw [e];rfl
  rw [Array.length_toList] at h2;have h3:s.size=0:=h2
  unfold emB at h;rw [h3] at h;cases h
 have hi:s.toList.isEmpty=false:=by rw [Bool.eq_false_iff];exact fun k=>hn (List.isEmpty_iff.mp k)
 exact ⟨beq_eq_false_iff_ne.mpr hn,hn,hi,by rw [hi];rfl⟩
end Go.Proofs.YthijkjnngfnfdaaGreatDoor
