/-
  Facts of the library under short names.
-/
import Derived.Test.YtegdjjjpoahamaaGreatDoorRows
import Derived.Lib.Hide
import Derived.Below
namespace Go.Proofs.YtegdjjjpoahamaaGreatDoor
theorem agC {p : Prop} (h : p) : RowKit.Hid p := h
theorem agD (n : Nat) : n ≤ n := Nat.le_refl n
theorem agE {α : Type _} {l k : List α} : (l ++ k).length = l.length + k.length := List.length_append
theorem agF (w : World) (o : Obj) (r : Option Nat) : w.grownBy (w.alloc o) r := World.grownBy_alloc w o r
theorem agG {a : Int} (h : 0 ≤ a) : ∃ n : Nat, a = n := Int.eq_ofNat_of_zero_le h
theorem agH (n : Nat) : 0 ≤ n := Nat.zero_le n
end Go.Proofs.YtegdjjjpoahamaaGreatDoor
