/-
  The signs between two expressions: spec.l5Binary, impl.binarySign.
-/
import Derived.Test.YtkeinhhpikfjcaaDoorCellPlain
namespace Go.Proofs.YtkeinhhpikfjcaaDoor
open Go.RowKit
set_option linter.unusedVariables false

theorem lsS (s : ByteArray) (l : List UInt8) : (s.toList == l) = (s.data.toList == l) := by rw [ByteArray.toList_eq]
theorem ls_yes {s : ByteArray} {l : List UInt8} (h : s.data.toList = l) : (s.toList == l) = true := by rw [lsS, h]; exact beq_self_eq_true l
theorem ls_no {s : ByteArray} {l : List UInt8} (h : s.data.toList ≠ l) : (s.toList == l) = false := by rw [lsS]; exact beq_eq_false_iff_ne.mpr h

set_option maxRecDepth 100000 in
set_option maxHeartbeats 4000000 in
theorem l5Binary_any (s : ByteArray) (w : World) :
    Calls Tryd.prog 22 #[.string s] w fun e w' => e = .returned (.int .i64 (rankL s.data.toList)) ∧ w = w' := by
  by_cases h0 : s.data.toList = [124, 124]
  · have hr : rankL s.data.toList = 2 := by rw [rankL, if_pos h0]
    rw [hr]
    have e0 := ls_yes h0
    clear hr h0
    go_enter Tryd.func22, Tryd.ntmps22
    go_wp2
    go_ret
    exact ⟨rfl, rfl⟩
  by_cases h1 : s.data.toList = [38, 38]
  · have hr : rankL s.data.toList = 3 := by rw [rankL, if_neg h0, if_pos h1]
    rw [hr]
    have n0 := ls_no h0
    have e1 := ls_yes h1
    clear hr h0 h1
    go_enter Tryd.func22, Tryd.ntmps22
    go_wp2
    go_ret
    exact ⟨rfl, rfl⟩
  by_cases h2 : s.data.toList = [61, 61]
  · have hr : rankL s.data.toList = 4 := by rw [rankL, if_neg h0, if_neg h1, if_pos h2]
    rw [hr]
    have n0 := ls_no h0
    have n1 := ls_no h1
    have e2 := ls_yes h2
    clear hr h0 h1 h2
    go_enter Tryd.func22, Tryd.ntmps22
    go_wp2
    go_ret
    exact ⟨rfl, rfl⟩
  by_cases h3 : s.data.toList = [33, 61]
  · have hr : rankL s.data.toList = 4 := by rw [rankL, if_neg h0, if_neg h1, if_neg h2, if_pos h3]
    rw [hr]
    have n0 := ls_no h0
    have n1 := ls_no h1
    have n2 := ls_no h2
    have e3 := ls_yes h3
    clear hr h0 h1 h2 h3
    go_enter Tryd.func22, Tryd.ntmps22
    go_wp2
    go_ret
    exact ⟨rfl, rfl⟩
  by_cases h4 : s.data.toList = [60]
  · have hr : rankL s.data.toList = 4 := by rw [rankL, if_neg h0, if_neg h1, if_neg h2, if_neg h3, if_pos h4]
    rw [hr]
    have n0 := ls_no h0
    have n1 := ls_no h1
    have n2 := ls_no h2
    have n3 := ls_no h3
    have e4 := ls_yes h4
    clear hr h0 h1 h2 h3 h4
    go_enter Tryd.func22, Tryd.ntmps22
    go_wp2
    go_ret
    exact ⟨rfl, rfl⟩
  by_cases h5 : s.data.toList = [60, 61]
  · have hr : rankL s.data.toList = 4 := by rw [rankL, if_neg h0, if_neg h1, if_neg h2, if_neg h3, if_neg h4, if_pos h5]
    rw [hr]
    have n0 := ls_no h0
    have n1 := ls_no h1
    have n2 := ls_no h2
    have n3 := ls_no h3
    have n4 := ls_no h4
    have e5 := ls_yes h5
    clear hr h0 h1 h2 h3 h4 h5
    go_enter Tryd.func22, Tryd.ntmps22
    go_wp2
    go_ret
    exact ⟨rfl, rfl⟩
  by_cases h6 : s.data.toList = [62]
  · have hr : rankL s.data.toList = 4 := by rw [rankL, if_neg h0, if_neg h1, if_neg h2, if_neg h3, if_neg h4, if_neg h5, if_pos h6]
    rw [hr]
    have n0 := ls_no h0
    have n1 := ls_no h1
    have n2 := ls_no h2
    have n3 := ls_no h3
    have n4 := ls_no h4
    have n5 := ls_no h5
    have e6 := ls_yes h6
    clear hr h0 h1 h2 h3 h4 h5 h6
    go_enter Tryd.func22, Tryd.ntmps22
    go_wp2
    go_ret
    exact ⟨rfl, rfl⟩
  by_cases h7 : s.data.toList = [62, 61]
  · have hr : rankL s.data.toList = 4 := by rw [rankL, if_neg h0, if_neg h1, if_neg h2, if_neg h3, if_neg h4, if_neg h5, if_neg h6, if_pos h7]
    rw [hr]
    have n0 := ls_no h0
    have n1 := ls_no h1
    have n2 := ls_no h2
    have n3 := ls_no h3
    have n4 := ls_no h4
    have n5 := ls_no h5
    have n6 := ls_no h6
    have e7 := ls_yes h7
    clear hr h0 h1 h2 h3 h4 h5 h6 h7
    go_enter Tryd.func22, Tryd.ntmps22
    go_wp2
    go_ret
    exact ⟨rfl, rfl⟩
  by_cases h8 : s.data.toList = [43]
  · have hr : rankL s.data.toList = 5 := by rw [rankL, if_neg h0, if_neg h1, if_neg h2, if_neg h3, if_neg h4, if_neg h5, if_neg h6, if_neg h7, if_pos h8]
    rw [hr]
    have n0 := ls_no h0
    have n1 := ls_no h1
    have n2 := ls_no h2
    have n3 := ls_no h3
    have n4 := ls_no h4
    have n5 := ls_no h5
    have n6 := ls_no h6
    have n7 := ls_no h7
    have e8 := ls_yes h8
    clear hr h0 h1 h2 h3 h4 h5 h6 h7 h8
    go_enter Tryd.func22, Tryd.ntmps22
    go_wp2
    go_ret
    exact ⟨rfl, rfl⟩
  by_cases h9 : s.data.toList = [45]
  · have hr : rankL s.data.toList = 5 := by rw [rankL, if_neg h0, if_neg h1, if_neg h2, if_neg h3, if_neg h4, if_neg h5, if_neg h6, if_neg h7, if_neg h8, if_pos h9]
    rw [hr]
    have n0 := ls_no h0
    have n1 := ls_no h1
    have n2 := ls_no h2
    have n3 := ls_no h3
    have n4 := ls_no h4
    have n5 := ls_no h5
    have n6 := ls_no h6
    have n7 := ls_no h7
    have n8 := ls_no h8
    have e9 := ls_yes h9
    clear hr h0 h1 h2 h3 h4 h5 h6 h7 h8 h9
    go_enter Tryd.func22, Tryd.ntmps22
    go_wp2
    go_ret
    exact ⟨rfl, rfl⟩
  by_cases h10 : s.data.toList = [42]
  · have hr : rankL s.data.toList = 6 := by rw [rankL, if_neg h0, if_neg h1, if_neg h2, if_neg h3, if_neg h4, if_neg h5, if_neg h6, if_neg h7, if_neg h8, if_neg h9, if_pos h10]
    rw [hr]
    have n0 := ls_no h0
    have n1 := ls_no h1
    have n2 := ls_no h2
    have n3 := ls_no h3
    have n4 := ls_no h4
    have n5 := ls_no h5
    have n6 := ls_no h6
    have n7 := ls_no h7
    have n8 := ls_no h8
    have n9 := ls_no h9
    have e10 := ls_yes h10
    clear hr h0 h1 h2 h3 h4 h5 h6 h7 h8 h9 h10
    go_enter Tryd.func22, Tryd.ntmps22
    go_wp2
    go_ret
    exact ⟨rfl, rfl⟩
  by_cases h11 : s.data.toList = [47]
  · have hr : rankL s.data.toList = 6 := by rw [rankL, if_neg h0, if_neg h1, if_neg h2, if_neg h3, if_neg h4, if_neg h5, if_neg h6, if_neg h7, if_neg h8, if_neg h9, if_neg h10, if_pos h11]
    rw [hr]
    have n0 := ls_no h0
    have n1 := ls_no h1
    have n2 := ls_no h2
    have n3 := ls_no h3
    have n4 := ls_no h4
    have n5 := ls_no h5
    have n6 := ls_no h6
    have n7 := ls_no h7
    have n8 := ls_no h8
    have n9 := ls_no h9
    have n10 := ls_no h10
    have e11 := ls_yes h11
    clear hr h0 h1 h2 h3 h4 h5 h6 h7 h8 h9 h10 h11
    go_enter Tryd.func22, Tryd.ntmps22
    go_wp2
    go_ret
    exact ⟨rfl, rfl⟩
  by_cases h12 : s.data.toList = [37]
  · have hr : rankL s.data.toList = 6 := by rw [rankL, if_neg h0, if_neg h1, if_neg h2, if_neg h3, if_neg h4, if_neg h5, if_neg h6, if_neg h7, if_neg h8, if_neg h9, if_neg h10, if_neg h11, if_pos h12]
    rw [hr]
    have n0 := ls_no h0
    have n1 := ls_no h1
    have n2 := ls_no h2
    have n3 := ls_no h3
    have n4 := ls_no h4
    have n5 := ls_no h5
    have n6 := ls_no h6
    have n7 := ls_no h7
    have n8 := ls_no h8
    have n9 := ls_no h9
    have n10 := ls_no h10
    have n11 := ls_no h11
    have e12 := ls_yes h12
    clear hr h0 h1 h2 h3 h4 h5 h6 h7 h8 h9 h10 h11 h12
    go_enter Tryd.func22, Tryd.ntmps22
    go_wp2
    go_ret
    exact ⟨rfl, rfl⟩
  have hr : rankL s.data.toList = 0 := by rw [rankL, if_neg h0, if_neg h1, if_neg h2, if_neg h3, if_neg h4, if_neg h5, if_neg h6, if_neg h7, if_neg h8, if_neg h9, if_neg h10, if_neg h11, if_neg h12]
  rw [hr]
  have n0 := ls_no h0
  have n1 := ls_no h1
  have n2 := ls_no h2
  have n3 := ls_no h3
  have n4 := ls_no h4
  have n5 := ls_no h5
  have n6 := ls_no h6
  have n7 := ls_no h7
  have n8 := ls_no h8
  have n9 := ls_no h9
  have n10 := ls_no h10
  have n11 := ls_no h11
  have n12 := ls_no h12
  clear hr h0 h1 h2 h3 h4 h5 h6 h7 h8 h9 h10 h11 h12
  go_enter Tryd.func22, Tryd.ntmps22
  go_wp2
  go_ret
  exact ⟨rfl, rfl⟩

set_option maxRecDepth 100000 in
set_option maxHeartbeats 4000000 in
theorem binarySign_any (s : ByteArray) (w : World) :
    Calls Tryd.prog 28 #[.string s] w fun e w' => e = .returned (.bool (decide (0 < rankL s.data.toList))) ∧ w = w' := by
  by_cases h0 : s.data.toList = [124, 124]
  · have hr : rankL s.data.toList = 2 := by rw [rankL, if_pos h0]
    rw [hr]
    have e0 := ls_yes h0
    clear hr h0
    go_enter Tryd.func28, Tryd.ntmps28
    go_wp2
    go_ret
    exact ⟨rfl, rfl⟩
  by_cases h1 : s.data.toList = [38, 38]
  · have hr : rankL s.data.toList = 3 := by rw [rankL, if_neg h0, if_pos h1]
    rw [hr]
    have n0 := ls_no h0
    have e1 := ls_yes h1
    clear hr h0 h1
    go_enter Tryd.func28, Tryd.ntmps28
    go_wp2
    go_ret
    exact ⟨rfl, rfl⟩
  by_cases h2 : s.data.toList = [61, 61]
  · have hr : rankL s.data.toList = 4 := by rw [rankL, if_neg h0, if_neg h1, if_pos h2]
    rw [hr]
    have n0 := ls_no h0
    have n1 := ls_no h1
    have e2 := ls_yes h2
    clear hr h0 h1 h2
    go_enter Tryd.func28, Tryd.ntmps28
    go_wp2
    go_ret
    exact ⟨rfl, rfl⟩
  by_cases h3 : s.data.toList = [33, 61]
  · have hr : rankL s.data.toList = 4 := by rw [rankL, if_neg h0, if_neg h1, if_neg h2, if_pos h3]
    rw [hr]
    have n0 := ls_no h0
    have n1 := ls_no h1
    have n2 := ls_no h2
    have e3 := ls_yes h3
    clear hr h0 h1 h2 h3
    go_enter Tryd.func28, Tryd.ntmps28
    go_wp2
    go_ret
    exact ⟨rfl, rfl⟩
  by_cases h4 : s.data.toList = [60]
  · have hr : rankL s.data.toList = 4 := by rw [rankL, if_neg h0, if_neg h1, if_neg h2, if_neg h3, if_pos h4]
    rw [hr]
    have n0 := ls_no h0
    have n1 := ls_no h1
    have n2 := ls_no h2
    have n3 := ls_no h3
    have e4 := ls_yes h4
    clear hr h0 h1 h2 h3 h4
    go_enter Tryd.func28, Tryd.ntmps28
    go_wp2
    go_ret
    exact ⟨rfl, rfl⟩
  by_cases h5 : s.data.toList = [60, 61]
  · have hr : rankL s.data.toList = 4 := by rw [rankL, if_neg h0, if_neg h1, if_neg h2, if_neg h3, if_neg h4, if_pos h5]
    rw [hr]
    have n0 := ls_no h0
    have n1 := ls_no h1
    have n2 := ls_no h2
    have n3 := ls_no h3
    have n4 := ls_no h4
    have e5 := ls_yes h5
    clear hr h0 h1 h2 h3 h4 h5
    go_enter Tryd.func28, Tryd.ntmps28
    go_wp2
    go_ret
    exact ⟨rfl, rfl⟩
  by_cases h6 : s.data.toList = [62]
  · have hr : rankL s.data.toList = 4 := by rw [rankL, if_neg h0, if_neg h1, if_neg h2, if_neg h3, if_neg h4, if_neg h5, if_pos h6]
    rw [hr]
    have n0 := ls_no h0
    have n1 := ls_no h1
    have n2 := ls_no h2
    have n3 := ls_no h3
    have n4 := ls_no h4
    have n5 := ls_no h5
    have e6 := ls_yes h6
    clear hr h0 h1 h2 h3 h4 h5 h6
    go_enter Tryd.func28, Tryd.ntmps28
    go_wp2
    go_ret
    exact ⟨rfl, rfl⟩
  by_cases h7 : s.data.toList = [62, 61]
  · have hr : rankL s.data.toList = 4 := by rw [rankL, if_neg h0, if_neg h1, if_neg h2, if_neg h3, if_neg h4, if_neg h5, if_neg h6, if_pos h7]
    rw [hr]
    have n0 := ls_no h0
    have n1 := ls_no h1
    have n2 := ls_no h2
    have n3 := ls_no h3
    have n4 := ls_no h4
    have n5 := ls_no h5
    have n6 := ls_no h6
    have e7 := ls_yes h7
    clear hr h0 h1 h2 h3 h4 h5 h6 h7
    go_enter Tryd.func28, Tryd.ntmps28
    go_wp2
    go_ret
    exact ⟨rfl, rfl⟩
  by_cases h8 : s.data.toList = [43]
  · have hr : rankL s.data.toList = 5 := by rw [rankL, if_neg h0, if_neg h1, if_neg h2, if_neg h3, if_neg h4, if_neg h5, if_neg h6, if_neg h7, if_pos h8]
    rw [hr]
    have n0 := ls_no h0
    have n1 := ls_no h1
    have n2 := ls_no h2
    have n3 := ls_no h3
    have n4 := ls_no h4
    have n5 := ls_no h5
    have n6 := ls_no h6
    have n7 := ls_no h7
    have e8 := ls_yes h8
    clear hr h0 h1 h2 h3 h4 h5 h6 h7 h8
    go_enter Tryd.func28, Tryd.ntmps28
    go_wp2
    go_ret
    exact ⟨rfl, rfl⟩
  by_cases h9 : s.data.toList = [45]
  · have hr : rankL s.data.toList = 5 := by rw [rankL, if_neg h0, if_neg h1, if_neg h2, if_neg h3, if_neg h4, if_neg h5, if_neg h6, if_neg h7, if_neg h8, if_pos h9]
    rw [hr]
    have n0 := ls_no h0
    have n1 := ls_no h1
    have n2 := ls_no h2
    have n3 := ls_no h3
    have n4 := ls_no h4
    have n5 := ls_no h5
    have n6 := ls_no h6
    have n7 := ls_no h7
    have n8 := ls_no h8
    have e9 := ls_yes h9
    clear hr h0 h1 h2 h3 h4 h5 h6 h7 h8 h9
    go_enter Tryd.func28, Tryd.ntmps28
    go_wp2
    go_ret
    exact ⟨rfl, rfl⟩
  by_cases h10 : s.data.toList = [42]
  · have hr : rankL s.data.toList = 6 := by rw [rankL, if_neg h0, if_neg h1, if_neg h2, if_neg h3, if_neg h4, if_neg h5, if_neg h6, if_neg h7, if_neg h8, if_neg h9, if_pos h10]
    rw [hr]
    have n0 := ls_no h0
    have n1 := ls_no h1
    have n2 := ls_no h2
    have n3 := ls_no h3
    have n4 := ls_no h4
    have n5 := ls_no h5
    have n6 := ls_no h6
    have n7 := ls_no h7
    have n8 := ls_no h8
    have n9 := ls_no h9
    have e10 := ls_yes h10
    clear hr h0 h1 h2 h3 h4 h5 h6 h7 h8 h9 h10
    go_enter Tryd.func28, Tryd.ntmps28
    go_wp2
    go_ret
    exact ⟨rfl, rfl⟩
  by_cases h11 : s.data.toList = [47]
  · have hr : rankL s.data.toList = 6 := by rw [rankL, if_neg h0, if_neg h1, if_neg h2, if_neg h3, if_neg h4, if_neg h5, if_neg h6, if_neg h7, if_neg h8, if_neg h9, if_neg h10, if_pos h11]
    rw [hr]
    have n0 := ls_no h0
    have n1 := ls_no h1
    have n2 := ls_no h2
    have n3 := ls_no h3
    have n4 := ls_no h4
    have n5 := ls_no h5
    have n6 := ls_no h6
    have n7 := ls_no h7
    have n8 := ls_no h8
    have n9 := ls_no h9
    have n10 := ls_no h10
    have e11 := ls_yes h11
    clear hr h0 h1 h2 h3 h4 h5 h6 h7 h8 h9 h10 h11
    go_enter Tryd.func28, Tryd.ntmps28
    go_wp2
    go_ret
    exact ⟨rfl, rfl⟩
  by_cases h12 : s.data.toList = [37]
  · have hr : rankL s.data.toList = 6 := by rw [rankL, if_neg h0, if_neg h1, if_neg h2, if_neg h3, if_neg h4, if_neg h5, if_neg h6, if_neg h7, if_neg h8, if_neg h9, if_neg h10, if_neg h11, if_pos h12]
    rw [hr]
    have n0 := ls_no h0
    have n1 := ls_no h1
    have n2 := ls_no h2
    have n3 := ls_no h3
    have n4 := ls_no h4
    have n5 := ls_no h5
    have n6 := ls_no h6
    have n7 := ls_no h7
    have n8 := ls_no h8
    have n9 := ls_no h9
    have n10 := ls_no h10
    have n11 := ls_no h11
    have e12 := ls_yes h12
    clear hr h0 h1 h2 h3 h4 h5 h6 h7 h8 h9 h10 h11 h12
    go_enter Tryd.func28, Tryd.ntmps28
    go_wp2
    go_ret
    exact ⟨rfl, rfl⟩
  have hr : rankL s.data.toList = 0 := by rw [rankL, if_neg h0, if_neg h1, if_neg h2, if_neg h3, if_neg h4, if_neg h5, if_neg h6, if_neg h7, if_neg h8, if_neg h9, if_neg h10, if_neg h11, if_neg h12]
  rw [hr]
  have n0 := ls_no h0
  have n1 := ls_no h1
  have n2 := ls_no h2
  have n3 := ls_no h3
  have n4 := ls_no h4
  have n5 := ls_no h5
  have n6 := ls_no h6
  have n7 := ls_no h7
  have n8 := ls_no h8
  have n9 := ls_no h9
  have n10 := ls_no h10
  have n11 := ls_no h11
  have n12 := ls_no h12
  clear hr h0 h1 h2 h3 h4 h5 h6 h7 h8 h9 h10 h11 h12
  go_enter Tryd.func28, Tryd.ntmps28
  go_wp2
  go_ret
  exact ⟨rfl, rfl⟩

end Go.Proofs.YtkeinhhpikfjcaaDoor
