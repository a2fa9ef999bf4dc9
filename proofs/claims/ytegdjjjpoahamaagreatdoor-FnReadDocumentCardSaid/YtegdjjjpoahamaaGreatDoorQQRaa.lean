/-
  Part of the proof of FnReadDocument.
-/
import Derived.Test.YtegdjjjpoahamaaGreatDoorZz
set_option linter.unusedVariables false
namespace Go.Proofs.YtegdjjjpoahamaaGreatDoor
def eI (l:List UInt8):Nat→Nat
 |0=>0
 |k+1=>if l[k]? =some 10 then eI l k+1 else eI l k
def cF (l:List UInt8):Nat→Nat
 |0=>0
 |k+1=>if l[k]? =some 10 then k+1 else cF l k
def bY (l:List UInt8):Nat→List Nat
 |0=>[0]
 |k+1=>if l[k]? =some 10 then bY l k++[k+1] else bY l k
theorem cP (l:List UInt8) (k:Nat):(bY l k).length=eI l k+1:=by
 induction k with
 |zero=>rfl
 |succ k ih=>simp only [bY,eI];split<;>simp [ih]
theorem oU (l:List UInt8) (k:Nat):eI l k≤k:=by
 induction k with
 |zero=>exact agD _
 |succ k ih=>simp only [eI];split<;>omega
theorem jA (l:List UInt8) (k:Nat):cF l k≤k:=by
 induction k with
 |zero=>exact agD _
 |succ k ih=>simp only [cF];split<;>omega
theorem mX (l:List UInt8) (k:Nat):(bY l k)[eI l k]? =some (cF l k):=by
 induction k with
 |zero=>rfl
 |succ k ih=>
  simp only [bY,eI,cF]
  split
  ·rw [List.getElem?_append_right (by rw [cP];exact agD _),cP];simp
  ·exact ih
end Go.Proofs.YtegdjjjpoahamaaGreatDoor
