/-
  ofOne, ofTwo, ofText, ofList and ofNumbers, by their contracts.
-/
import Derived.Test.YtipmkbahlfkfoaaGreatDoorFunO
import Derived.Test.YtipmkbahlfkfoaaGreatDoorFunN
namespace Go.Proofs.YtipmkbahlfkfoaaGreatDoor
open Go.RowKit
set_option linter.unusedVariables false

/-- A new function value that does R. -/
def MadeL (B : Nat) (R : List (List Cl) → Option (List Cl)) (w : World) (e : Ending) (w' : World) : Prop := ∃ F, e = .returned F ∧ DoesL F B w' R ∧ Below w.heap.size w w'

theorem enter_one1 : ∀ args w, (callFunc 130 args).run Tryz.prog w = .ok (.enter 130 args) w := enters_of Tryz.func130 (by kernel_rfl) rfl
theorem enter_two1 : ∀ args w, (callFunc 145 args).run Tryz.prog w = .ok (.enter 145 args) w := enters_of Tryz.func145 (by kernel_rfl) rfl
theorem enter_text1 : ∀ args w, (callFunc 131 args).run Tryz.prog w = .ok (.enter 131 args) w := enters_of Tryz.func131 (by kernel_rfl) rfl
theorem enter_list1 : ∀ args w, (callFunc 142 args).run Tryz.prog w = .ok (.enter 142 args) w := enters_of Tryz.func142 (by kernel_rfl) rfl
theorem enter_num1 : ∀ args w, (callFunc 139 args).run Tryz.prog w = .ok (.enter 139 args) w := enters_of Tryz.func139 (by kernel_rfl) rfl

set_option maxRecDepth 100000 in
set_option maxHeartbeats 4000000 in
theorem ofOne_any (B : Nat) (F : Value) (R : List Cl → Option (List Cl)) (w : World) (hB : B < w.heap.size) (hF : DoesV F B w R) :
    Calls Tryz.prog 82 #[F] w (MadeL B (oneL R) w) := by
  have HD := Lib.hid hF
  obtain ⟨K, cb, rfl, -, -⟩ := hF
  have HBL := Lib.hid ((Below.refl w.heap.size w).alloc (Nat.le_refl _) (.cells #[.func (.func K) #[] cb] 113))
  have c0 : (w.alloc (.cells #[.func (.func K) #[] cb] 113)).cell? ⟨w.heap.size, 0, none⟩ = some (.func (.func K) #[] cb) := by simp [go_sem]
  have HDL := Lib.hid (show DoesL (.func (.func 130) #[] #[.pointer (some ⟨w.heap.size, 0, none⟩)]) B (w.alloc (.cells #[.func (.func K) #[] cb] 113)) (oneL R) from
    ⟨_, _, rfl, enter_one1, fun w' v us ls hu ht hr hv hok hn => ofOne1_any w.heap.size B _ R v us ls w' (hu.cell (by omega) c0) (HD.out.keep ((Up.of HBL.out).trans hu)) hr hv hok hn ht⟩)
  clear c0
  go_enter Tryz.func82, Tryz.ntmps82
  go_wp2
  go_ret
  exact ⟨_, rfl, HDL.out, HBL.out⟩

set_option maxRecDepth 100000 in
set_option maxHeartbeats 4000000 in
theorem ofTwo_any (B : Nat) (F : Value) (R : List Cl → List Cl → Option (List Cl)) (w : World) (hB : B < w.heap.size) (hF : DoesVV F B w R) :
    Calls Tryz.prog 93 #[F] w (MadeL B (twoL R) w) := by
  have HD := Lib.hid hF
  obtain ⟨K, rfl, -, -⟩ := hF
  have HBL := Lib.hid ((Below.refl w.heap.size w).alloc (Nat.le_refl _) (.cells #[.func (.func K) #[] #[]] 121))
  have c0 : (w.alloc (.cells #[.func (.func K) #[] #[]] 121)).cell? ⟨w.heap.size, 0, none⟩ = some (.func (.func K) #[] #[]) := by simp [go_sem]
  have HDL := Lib.hid (show DoesL (.func (.func 145) #[] #[.pointer (some ⟨w.heap.size, 0, none⟩)]) B (w.alloc (.cells #[.func (.func K) #[] #[]] 121)) (twoL R) from
    ⟨_, _, rfl, enter_two1, fun w' v us ls hu ht hr hv hok hn => ofTwo1_any w.heap.size B _ R v us ls w' (hu.cell (by omega) c0) (HD.out.keep ((Up.of HBL.out).trans hu)) hr hv hok hn ht⟩)
  clear c0
  go_enter Tryz.func93, Tryz.ntmps93
  go_wp2
  go_ret
  exact ⟨_, rfl, HDL.out, HBL.out⟩

set_option maxRecDepth 100000 in
set_option maxHeartbeats 4000000 in
theorem ofNumbers_any (B : Nat) (F : Value) (mn : Bool) (w : World) (hB : B < w.heap.size) (hF : DoesF F B w mn) :
    Calls Tryz.prog 87 #[F] w (MadeL B (numR mn) w) := by
  have HD := Lib.hid hF
  obtain ⟨K, rfl, -, -⟩ := hF
  have HBL := Lib.hid ((Below.refl w.heap.size w).alloc (Nat.le_refl _) (.cells #[.func (.func K) #[] #[]] 117))
  have c0 : (w.alloc (.cells #[.func (.func K) #[] #[]] 117)).cell? ⟨w.heap.size, 0, none⟩ = some (.func (.func K) #[] #[]) := by simp [go_sem]
  have HDL := Lib.hid (show DoesL (.func (.func 139) #[] #[.pointer (some ⟨w.heap.size, 0, none⟩)]) B (w.alloc (.cells #[.func (.func K) #[] #[]] 117)) (numR mn) from
    ⟨_, _, rfl, enter_num1, fun w' v us ls hu ht hr hv hok hn => ofNumbers1_any w.heap.size B _ mn v us ls w' (hu.cell (by omega) c0) (HD.out.keep ((Up.of HBL.out).trans hu)) hr hv hok hn ht⟩)
  clear c0
  go_enter Tryz.func87, Tryz.ntmps87
  go_wp2
  go_ret
  exact ⟨_, rfl, HDL.out, HBL.out⟩

set_option maxRecDepth 100000 in
set_option maxHeartbeats 4000000 in
theorem ofText_any (B : Nat) (F : Value) (f : ByteArray → ByteArray) (w : World) (hB : B < w.heap.size) (hF : DoesS F B w f) :
    Calls Tryz.prog 84 #[F] w (MadeL B (oneL (textR f)) w) := by
  have HD := Lib.hid hF
  obtain ⟨K, rfl, -, -⟩ := hF
  have HBL := Lib.hid ((Below.refl w.heap.size w).alloc (Nat.le_refl _) (.cells #[.func (.func K) #[] #[]] 115))
  have c0 : (w.alloc (.cells #[.func (.func K) #[] #[]] 115)).cell? ⟨w.heap.size, 0, none⟩ = some (.func (.func K) #[] #[]) := by simp [go_sem]
  have HO := Lib.hid (ofOne_any B (.func (.func 131) #[] #[.pointer (some ⟨w.heap.size, 0, none⟩)]) (textR f) (w.alloc (.cells #[.func (.func K) #[] #[]] 115)) (by simp; omega)
    ⟨_, _, rfl, enter_text1, fun w' u p hu ht hv hok => ofText1_any w.heap.size B _ f u p w' (hu.cell (by omega) c0) (HD.out.keep ((Up.of HBL.out).trans hu)) hv hok⟩)
  clear c0
  go_enter Tryz.func84, Tryz.ntmps84
  go_wp2_with fail
  refine HO.out.mono ?_
  rintro e w1 ⟨F1, rfl, hd, hb1⟩
  have HDL := Lib.hid hd
  have HB1 := Lib.hid (HBL.out.trans (hb1.mono HBL.out.size)); clear hb1 hd
  go_wp2
  go_ret
  exact ⟨_, rfl, HDL.out, HB1.out⟩

set_option maxRecDepth 100000 in
set_option maxHeartbeats 4000000 in
theorem ofList_any (B : Nat) (F : Value) (R : List Cl → Option (List Cl)) (w : World) (hB : B < w.heap.size) (hF : DoesP F B w R) :
    Calls Tryz.prog 90 #[F] w (MadeL B (oneL (listR5 R)) w) := by
  have HD := Lib.hid hF
  obtain ⟨K, rfl, -, -⟩ := hF
  have HBL := Lib.hid ((Below.refl w.heap.size w).alloc (Nat.le_refl _) (.cells #[.func (.func K) #[] #[]] 119))
  have c0 : (w.alloc (.cells #[.func (.func K) #[] #[]] 119)).cell? ⟨w.heap.size, 0, none⟩ = some (.func (.func K) #[] #[]) := by simp [go_sem]
  have HO := Lib.hid (ofOne_any B (.func (.func 142) #[] #[.pointer (some ⟨w.heap.size, 0, none⟩)]) (listR5 R) (w.alloc (.cells #[.func (.func K) #[] #[]] 119)) (by simp; omega)
    ⟨_, _, rfl, enter_list1, fun w' u p hu ht hv hok => ofList1_any w.heap.size B _ R u p w' (hu.cell (by omega) c0) (HD.out.keep ((Up.of HBL.out).trans hu)) hv hok ht⟩)
  clear c0
  go_enter Tryz.func90, Tryz.ntmps90
  go_wp2_with fail
  refine HO.out.mono ?_
  rintro e w1 ⟨F1, rfl, hd, hb1⟩
  have HDL := Lib.hid hd
  have HB1 := Lib.hid (HBL.out.trans (hb1.mono HBL.out.size)); clear hb1 hd
  go_wp2
  go_ret
  exact ⟨_, rfl, HDL.out, HB1.out⟩

end Go.Proofs.YtipmkbahlfkfoaaGreatDoor
