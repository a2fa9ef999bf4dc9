/-
  A fact laid behind Hid, under a short name.
-/
import Derived.Test.YthillfgjpalpcaaGreatDoorRows
import Derived.Lib.Hide
namespace Go.Proofs.YthillfgjpalpcaaGreatDoor
theorem zz {p : Prop} (h : p) : RowKit.Hid p := h
end Go.Proofs.YthillfgjpalpcaaGreatDoor
